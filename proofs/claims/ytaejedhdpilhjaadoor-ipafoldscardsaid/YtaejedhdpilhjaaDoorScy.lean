import Derived.Test.YtaejedhdpilhjaaDoorSnf
import Derived.Test.YtaejedhdpilhjaaDoorSrt
namespace Go.Proofs.YtaejedhdpilhjaaDoor
open Go.RowKit

end Go.Proofs.YtaejedhdpilhjaaDoor
