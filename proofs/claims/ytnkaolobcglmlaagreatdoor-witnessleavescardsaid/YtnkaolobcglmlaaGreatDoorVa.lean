import Derived.Test.YtnkaolobcglmlaaGreatDoorSop
import Derived.Laws.Bits64b
import Derived.Laws.BitsAllLaws
namespace Go.Proofs.YtnkaolobcglmlaaGreatDoor
open Go.RowKit
set_option linter.unusedVariables false
noncomputable def al (b c : Int) : Bool := decide (1 ≤ b ∧ b ≤ 64 ∧ bits .and .i64 b (b - 1) = 0 ∧ 1 ≤ c ∧ c ≤ 16 ∧ bits .and .i64 c (c - 1) = 0)
def rd (n : Nat) : Nat := if n ≤ 1 then 0 else if n ≤ 2 then 1 else if n ≤ 4 then 2 else if n ≤ 8 then 3 else if n ≤ 16 then 4 else if n ≤ 32 then 5 else if n ≤ 64 then 6 else if n ≤ 128 then 7 else if n ≤ 256 then 8 else if n ≤ 512 then 9 else 10
theorem rd_le (n : Nat) : rd n ≤ 10 := by
 unfold rd
 (repeat' split)
 all_goals omega
theorem rd_is (n k : Nat) (hk : k ≤ 10) (h1 : k = 0 ∨ 2 ^ (k - 1) < n) (h2 : n ≤ 2 ^ k) : rd n = k := by
 obtain rfl | rfl | rfl | rfl | rfl | rfl | rfl | rfl | rfl | rfl | rfl : k = 0 ∨ k = 1 ∨ k = 2 ∨ k = 3 ∨ k = 4 ∨ k = 5 ∨ k = 6 ∨ k = 7 ∨ k = 8 ∨ k = 9 ∨ k = 10 := by omega
 all_goals
  simp at h1 h2
  unfold rd
  (repeat' split)
  all_goals omega
end Go.Proofs.YtnkaolobcglmlaaGreatDoor
