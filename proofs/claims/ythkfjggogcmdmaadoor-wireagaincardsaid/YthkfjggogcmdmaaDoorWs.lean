import Derived.Test.YthkfjggogcmdmaaDoorWr
namespace Go.Proofs.YthkfjggogcmdmaaDoor.Tr
open Go.RowKit
theorem vn300 : vn 300 = [172, 2] := by decide
theorem nm300 : nm [172, 2] 300 = (300, 2, 0) := by decide
end Go.Proofs.YthkfjggogcmdmaaDoor.Tr
