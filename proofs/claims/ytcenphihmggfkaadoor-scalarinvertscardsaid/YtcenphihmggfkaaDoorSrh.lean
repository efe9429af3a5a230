import Derived.Test.YtcenphihmggfkaaDoorSrt
namespace Go.Proofs.YtcenphihmggfkaaDoor
open Go.RowKit

/-- the halves of the limbs -/
def hv (a : E4) (j : Nat) : Int := if j % 2 = 0 then a.get (j / 2) % 4294967296 else a.get (j / 2) / 4294967296
theorem hv_even (a : E4) (k : Nat) : hv a (2 * k) = a.get k % 4294967296 := by
  unfold hv
  rw [if_pos (by omega), show 2 * k / 2 = k by omega]
theorem hv_odd (a : E4) (k : Nat) : hv a (2 * k + 1) = a.get k / 4294967296 := by
  unfold hv
  rw [if_neg (by omega), show (2 * k + 1) / 2 = k by omega]
theorem hv_bd (a : E4) (h : a.ok) (j : Nat) : 0 ≤ hv a j ∧ hv a j < 4294967296 := by
  have hw := E4.get_wd h (j / 2)
  unfold Sm.Wd at hw
  unfold hv
  split <;> omega
theorem hv_sum (a : E4) : hv a 0 + hv a 1 * 4294967296 + (hv a 2 + hv a 3 * 4294967296) * 18446744073709551616 + (hv a 4 + hv a 5 * 4294967296) * 340282366920938463463374607431768211456 + (hv a 6 + hv a 7 * 4294967296) * 6277101735386680763835789423207666416102355444464034512896 = a.n := by
  simp only [hv, Nat.reduceMod, Nat.reduceDiv, E4.get, E4.n, Sm.V]
  simp
  omega

structure HvW (w0 : World) (a : E4) (m : Nat) (w : World) : Prop where
  av : Blc w w0.heap.size a
  bt : ∀ j, j < 8 → w.cell? ⟨w0.heap.size + 1 + 1, j, none⟩ = some (.int .u64 (if j < m then hv a j else 0))
  fr : ∀ j, j < 8 → w.frozen? ⟨w0.heap.size + 1 + 1, j, none⟩ = false
  rs : ∀ j, j < 8 → w.cell? ⟨w0.heap.size + 1, j, none⟩ = some (.int .u64 0)
  rf : ∀ j, j < 8 → w.frozen? ⟨w0.heap.size + 1, j, none⟩ = false
  bel : Below w0.heap.size w0 w
theorem HvW.step {w0 : World} {a : E4} {m : Nat} {w : World} (h : HvW w0 a m w) (hm : m < 8) : HvW w0 a (m + 1) (w.setCell ⟨w0.heap.size + 1 + 1, m, none⟩ (.int .u64 (hv a m))) := by
  refine ⟨h.av.far1 (by omega) _ _, fun j hj => ?_, fun j hj => by have := h.fr j hj; go_simp, fun j hj => (World.cell?_setCell_far w _ _ _ (by show w0.heap.size + 1 + 1 ≠ w0.heap.size + 1; omega)).trans (h.rs j hj), fun j hj => by have := h.rf j hj; go_simp, h.bel.setCell (by show w0.heap.size ≤ w0.heap.size + 1 + 1; omega) _⟩
  by_cases hjk : j = m
  · subst hjk
    have hb := h.bt j hj
    rw [if_pos (by omega)]
    go_simp
  · rw [World.cell?_setCell_other w _ _ _ (by intro e; exact hjk (congrArg Addr.off e).symm), h.bt j hj]
    by_cases hlt : j < m
    · rw [if_pos hlt, if_pos (by omega)]
    · rw [if_neg hlt, if_neg (by omega)]

end Go.Proofs.YtcenphihmggfkaaDoor
