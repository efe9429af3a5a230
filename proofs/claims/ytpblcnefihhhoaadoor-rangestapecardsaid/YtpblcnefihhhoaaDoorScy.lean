import Derived.Test.YtpblcnefihhhoaaDoorSnf
import Derived.Test.YtpblcnefihhhoaaDoorSrt
namespace Go.Proofs.YtpblcnefihhhoaaDoor
open Go.RowKit

end Go.Proofs.YtpblcnefihhhoaaDoor
