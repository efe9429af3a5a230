import Derived.Test.YtcenphihmggfkaaDoorSnf
import Derived.Test.YtcenphihmggfkaaDoorSrt
namespace Go.Proofs.YtcenphihmggfkaaDoor
open Go.RowKit

end Go.Proofs.YtcenphihmggfkaaDoor
