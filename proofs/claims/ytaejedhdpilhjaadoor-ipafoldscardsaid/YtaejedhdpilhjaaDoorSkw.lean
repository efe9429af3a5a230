import Derived.Test.YtaejedhdpilhjaaDoorSkd
namespace Go.Proofs.YtaejedhdpilhjaaDoor
open Go.RowKit

def pairs : List Int → List Int
  | a :: b :: l => (a + b * 256) :: pairs l
  | _ => []
theorem pairs_take : ∀ (k : Nat) (zs : List Int), 2 * k + 1 < zs.length → pairs (zs.take (2 * k + 2)) = pairs (zs.take (2 * k)) ++ [zs.getD (2 * k) 0 + zs.getD (2 * k + 1) 0 * 256]
  | 0, a :: b :: l, _ => by simp [pairs]
  | k + 1, a :: b :: l, h => by
    have ih := pairs_take k l (by simp at h; omega)
    rw [show 2 * (k + 1) = 2 * k + 1 + 1 by omega]
    simp only [List.take_succ_cons, pairs, List.cons_append, List.getD_cons_succ]
    rw [ih]
theorem pairs_len : ∀ (k : Nat) (zs : List Int), 2 * k ≤ zs.length → (pairs (zs.take (2 * k))).length = k
  | 0, _, _ => by simp [pairs]
  | k + 1, a :: b :: l, h => by
    have ih := pairs_len k l (by simp at h; omega)
    rw [show 2 * (k + 1) = 2 * k + 1 + 1 by omega]
    simp [pairs, ih]
theorem pairs_num : ∀ (k : Nat) (zs : List Int), zs.length = 2 * k → (∀ z ∈ zs, 0 ≤ z ∧ z ≤ 255) → wn (pairs zs) = num zs
  | 0, [], _, _ => by simp [pairs, wn, num]
  | k + 1, a :: b :: l, h, hz => by
    have ih := pairs_num k l (by simp at h; omega) (fun z hz' => hz z (by simp [hz']))
    have ha := hz a (by simp)
    have hb := hz b (by simp)
    simp only [pairs, wn, num, ih]
    omega
theorem pairs_in (k : Nat) (zs : List Int) (h : zs.length = 2 * k) (hz : ∀ z ∈ zs, 0 ≤ z ∧ z ≤ 255) : ∀ x ∈ pairs zs, 0 ≤ x ∧ x < 65536 := by
  induction k generalizing zs with
  | zero => match zs, h with
    | [], _ => simp [pairs]
  | succ k ih => match zs, h with
    | a :: b :: l, h =>
      have ha := hz a (by simp)
      have hb := hz b (by simp)
      intro x hx
      simp only [pairs, List.mem_cons] at hx
      rcases hx with rfl | hx
      · omega
      · exact ih l (by simp at h; omega) (fun z hz' => hz z (by simp [hz'])) x hx

end Go.Proofs.YtaejedhdpilhjaaDoor
