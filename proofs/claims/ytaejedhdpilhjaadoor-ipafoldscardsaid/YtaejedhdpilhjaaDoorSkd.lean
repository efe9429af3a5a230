import Derived.Test.YtaejedhdpilhjaaDoorSlm
import Derived.Test.YtaejedhdpilhjaaDoorSrl
import Derived.Test.YtaejedhdpilhjaaDoorSde
namespace Go.Proofs.YtaejedhdpilhjaaDoor
open Go.RowKit

end Go.Proofs.YtaejedhdpilhjaaDoor
