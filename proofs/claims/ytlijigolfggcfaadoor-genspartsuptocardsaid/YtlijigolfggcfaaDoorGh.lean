import Derived.Test.YtlijigolfggcfaaDoorGg
namespace Go.Proofs.YtlijigolfggcfaaDoor
open Go.RowKit
end Go.Proofs.YtlijigolfggcfaaDoor
