import Derived.Test.YtoaobkmddbilhaaDoorSnf
import Derived.Test.YtoaobkmddbilhaaDoorSrt
namespace Go.Proofs.YtoaobkmddbilhaaDoor
open Go.RowKit

end Go.Proofs.YtoaobkmddbilhaaDoor
