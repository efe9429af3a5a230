import Derived.Test.YtaejedhdpilhjaaDoorIM1
namespace Go.Proofs.YtaejedhdpilhjaaDoor
open Go.RowKit
set_option linter.unusedVariables false
end Go.Proofs.YtaejedhdpilhjaaDoor
namespace Go.Proofs.YtaejedhdpilhjaaDoor
open Go.RowKit
set_option linter.unusedVariables false
end Go.Proofs.YtaejedhdpilhjaaDoor
namespace Go.Proofs.YtaejedhdpilhjaaDoor
open Go.RowKit
set_option linter.unusedVariables false
end Go.Proofs.YtaejedhdpilhjaaDoor
namespace Go.Proofs.YtaejedhdpilhjaaDoor
open Go.RowKit
set_option linter.unusedVariables false
end Go.Proofs.YtaejedhdpilhjaaDoor
