import Derived.Test.YtlijigolfggcfaaDoorGe
namespace Go.Proofs.YtlijigolfggcfaaDoor
open Go.RowKit
end Go.Proofs.YtlijigolfggcfaaDoor
