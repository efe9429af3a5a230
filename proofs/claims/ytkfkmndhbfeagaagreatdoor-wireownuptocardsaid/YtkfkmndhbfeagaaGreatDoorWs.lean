import Derived.Test.YtkfkmndhbfeagaaGreatDoorWr
namespace Go.Proofs.YtkfkmndhbfeagaaGreatDoor.Tr
open Go.RowKit
theorem vn300 : vn 300 = [172, 2] := by decide
theorem nm300 : nm [172, 2] 300 = (300, 2, 0) := by decide
end Go.Proofs.YtkfkmndhbfeagaaGreatDoor.Tr
