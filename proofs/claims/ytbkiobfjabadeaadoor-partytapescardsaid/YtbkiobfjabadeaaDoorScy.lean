import Derived.Test.YtbkiobfjabadeaaDoorSnf
import Derived.Test.YtbkiobfjabadeaaDoorSrt
namespace Go.Proofs.YtbkiobfjabadeaaDoor
open Go.RowKit

end Go.Proofs.YtbkiobfjabadeaaDoor
