import Derived.Test.YtnkaolobcglmlaaGreatDoorSrt
namespace Go.Proofs.YtnkaolobcglmlaaGreatDoor
open Go.RowKit
def hv (a : E4) (j : Nat) : Int := if j % 2 = 0 then a.get (j / 2) % 4294967296 else a.get (j / 2) / 4294967296
theorem hv_even (a : E4) (k : Nat) : hv a (2 * k) = a.get k % 4294967296 := by
 unfold hv
 rw [if_pos (by omega), show 2 * k / 2 = k by omega]
theorem hv_odd (a : E4) (k : Nat) : hv a (2 * k + 1) = a.get k / 4294967296 := by
 unfold hv
 rw [if_neg (by omega), show (2 * k + 1) / 2 = k by omega]
theorem hv_bd (a : E4) (h : a.ok) (j : Nat) : 0 ≤ hv a j ∧ hv a j < 4294967296 := by
 have hw := E4.get_wd h (j / 2)
 unfold Sm.Wd at hw
 unfold hv
 split <;> omega
theorem hv_sum (a : E4) : hv a 0 + hv a 1 * 4294967296 + (hv a 2 + hv a 3 * 4294967296) * 18446744073709551616 + (hv a 4 + hv a 5 * 4294967296) * 340282366920938463463374607431768211456 + (hv a 6 + hv a 7 * 4294967296) * 6277101735386680763835789423207666416102355444464034512896 = a.n := by
 simp only [hv, Nat.reduceMod, Nat.reduceDiv, E4.get, E4.n, Sm.V]
 simp
 omega
structure HvW (w0 : World) (a : E4) (m : Nat) (w : World) : Prop where
 av : Blc w w0.heap.size a
 bt : ∀ j, j < 8 → w.cell? ⟨w0.heap.size + 1 + 1, j, none⟩ = some (.int .u64 (if j < m then hv a j else 0))
 fr : ∀ j, j < 8 → w.frozen? ⟨w0.heap.size + 1 + 1, j, none⟩ = false
 rs : ∀ j, j < 8 → w.cell? ⟨w0.heap.size + 1, j, none⟩ = some (.int .u64 0)
 rf : ∀ j, j < 8 → w.frozen? ⟨w0.heap.size + 1, j, none⟩ = false
 bel : Below w0.heap.size w0 w
theorem HvW.step {w0 : World} {a : E4} {m : Nat} {w : World} (h : HvW w0 a m w) (hm : m < 8) : HvW w0 a (m + 1) (w.setCell ⟨w0.heap.size + 1 + 1, m, none⟩ (.int .u64 (hv a m))) := by
 refine ⟨h.av.far1 (by omega) _ _, fun j hj => ?_, fun j hj => by have := h.fr j hj; go_simp, fun j hj => (World.cell?_setCell_far w _ _ _ (by show w0.heap.size + 1 + 1 ≠ w0.heap.size + 1; omega)).trans (h.rs j hj), fun j hj => by have := h.rf j hj; go_simp, h.bel.setCell (by show w0.heap.size ≤ w0.heap.size + 1 + 1; omega) _⟩
 by_cases hjk : j = m
 ·subst hjk
  have hb := h.bt j hj
  rw [if_pos (by omega)]
  go_simp
 ·rw [World.cell?_setCell_other w _ _ _ (by intro e; exact hjk (congrArg Addr.off e).symm), h.bt j hj]
  by_cases hlt : j < m
  ·rw [if_pos hlt, if_pos (by omega)]
  ·rw [if_neg hlt, if_neg (by omega)]
set_option maxRecDepth 100000 in
set_option maxHeartbeats 8000000 in
theorem rhalves_any (a : E4) (w : World) (ha : a.ok) :
  Calls Tryz.prog 57 #[a.v] w fun e w' => e = .returned (.agg #[.int .u64 (hv a 0), .int .u64 (hv a 1), .int .u64 (hv a 2), .int .u64 (hv a 3), .int .u64 (hv a 4), .int .u64 (hv a 5), .int .u64 (hv a 6), .int .u64 (hv a 7)]) ∧ Below w.heap.size w w' := by
 have HA := hidden ha
 obtain ⟨h0, e0⟩ : ∃ h, Hid (hv a 0 = h) := ⟨_, hidden rfl⟩
 obtain ⟨h1, e1⟩ : ∃ h, Hid (hv a 1 = h) := ⟨_, hidden rfl⟩
 obtain ⟨h2, e2⟩ : ∃ h, Hid (hv a 2 = h) := ⟨_, hidden rfl⟩
 obtain ⟨h3, e3⟩ : ∃ h, Hid (hv a 3 = h) := ⟨_, hidden rfl⟩
 obtain ⟨h4, e4⟩ : ∃ h, Hid (hv a 4 = h) := ⟨_, hidden rfl⟩
 obtain ⟨h5, e5⟩ : ∃ h, Hid (hv a 5 = h) := ⟨_, hidden rfl⟩
 obtain ⟨h6, e6⟩ : ∃ h, Hid (hv a 6 = h) := ⟨_, hidden rfl⟩
 obtain ⟨h7, e7⟩ : ∃ h, Hid (hv a 7 = h) := ⟨_, hidden rfl⟩
 rw [e0.out, e1.out, e2.out, e3.out, e4.out, e5.out, e6.out, e7.out]
 have s0 : HvW w a 0 (((w.alloc (.cells #[.int .u64 a.x0, .int .u64 a.x1, .int .u64 a.x2, .int .u64 a.x3] 62)).alloc (.cells #[.int .u64 0, .int .u64 0, .int .u64 0, .int .u64 0, .int .u64 0, .int .u64 0, .int .u64 0, .int .u64 0] 128)).alloc (.cells #[.int .u64 0, .int .u64 0, .int .u64 0, .int .u64 0, .int .u64 0, .int .u64 0, .int .u64 0, .int .u64 0] 128)) := by
  refine ⟨((Blc.new w a _).keep (bl_alloc _ _)).keep (bl_alloc _ _), fun j hj => ?_, fun j hj => ?_, fun j hj => ?_, fun j hj => ?_, bl_alloc3 _ _ _ _⟩
  ·rw [if_neg (by omega)]
   have h8 : j = 0 ∨ j = 1 ∨ j = 2 ∨ j = 3 ∨ j = 4 ∨ j = 5 ∨ j = 6 ∨ j = 7 := by omega
   rcases h8 with rfl | rfl | rfl | rfl | rfl | rfl | rfl | rfl <;> go_simp
  ·go_simp
  ·have h8 : j = 0 ∨ j = 1 ∨ j = 2 ∨ j = 3 ∨ j = 4 ∨ j = 5 ∨ j = 6 ∨ j = 7 := by omega
   rcases h8 with rfl | rfl | rfl | rfl | rfl | rfl | rfl | rfl <;> go_simp
  ·go_simp
 have S0 := hidden s0
 clear s0 ha
 simp only [E4.v]
 go_enter Tryz.func57, Tryz.ntmps57
 go_wp2_with fail
 go_loopw [4] (fun i w' => ∃ k : Nat, k ≤ 4 ∧ i = .int .i64 k ∧ HvW w a (2 * k) w') (fun i _ => 4 - (intOf i).toNat)
 case atStart => exact ⟨0, by omega, rfl, S0.out⟩
 case round =>
  obtain ⟨k, hk, rfl, hst⟩ := hrel
  clear S0
  by_cases hk4 : k < 4
  ·have kk0 : (0 : Int) ≤ (k : Int) := by omega
   have kk1 : (k : Int) < 4 := by omega
   have xw := E4.get_wd HA.out k
   unfold Sm.Wd at xw
   have n1 := hst.step (by omega)
   rw [hv_even] at n1
   have n2 := n1.step (by omega)
   rw [hv_odd] at n2
   have A0 := and32 (a.get k) xw.1 (by omega)
   have ca := hst.av.get k hk4
   have cb := hst.bt (2 * k) (by omega)
   have fb := hst.fr (2 * k) (by omega)
   have cd := n1.bt (2 * k + 1) (by omega)
   have fd := n1.fr (2 * k + 1) (by omega)
   have ce := n1.av.get k hk4
   rw [if_neg (by omega)] at cb cd
   have NX := hidden n2
   have hi1 : (2 * (k : Int)).toNat = 2 * k := by omega
   have hi2 : (2 * (k : Int) + 1).toNat = 2 * k + 1 := by omega
   have hi3 : IntKind.i64.wrap (2 * (k : Int)) = 2 * (k : Int) := IntWalk.i64_in _ (by omega)
   have hi4 : IntKind.i64.wrap (2 * (k : Int) + 1) = 2 * (k : Int) + 1 := IntWalk.i64_in _ (by omega)
   clear hst n1 n2
   generalize a.get k = x at *
   go_wp2_with fail
   go_roundw
   case rel => exact ⟨k + 1, by omega, by go_num, NX.out⟩
   case measure => simp [intOf]; omega
  ·have hkk : k = 4 := by omega
   subst hkk
   have c0 := hst.bt 0 (by omega)
   rw [if_pos (by omega), e0.out] at c0
   have d0 := hst.rs 0 (by omega)
   have f0 := hst.rf 0 (by omega)
   have c1 := hst.bt 1 (by omega)
   rw [if_pos (by omega), e1.out] at c1
   have d1 := hst.rs 1 (by omega)
   have f1 := hst.rf 1 (by omega)
   have c2 := hst.bt 2 (by omega)
   rw [if_pos (by omega), e2.out] at c2
   have d2 := hst.rs 2 (by omega)
   have f2 := hst.rf 2 (by omega)
   have c3 := hst.bt 3 (by omega)
   rw [if_pos (by omega), e3.out] at c3
   have d3 := hst.rs 3 (by omega)
   have f3 := hst.rf 3 (by omega)
   have c4 := hst.bt 4 (by omega)
   rw [if_pos (by omega), e4.out] at c4
   have d4 := hst.rs 4 (by omega)
   have f4 := hst.rf 4 (by omega)
   have c5 := hst.bt 5 (by omega)
   rw [if_pos (by omega), e5.out] at c5
   have d5 := hst.rs 5 (by omega)
   have f5 := hst.rf 5 (by omega)
   have c6 := hst.bt 6 (by omega)
   rw [if_pos (by omega), e6.out] at c6
   have d6 := hst.rs 6 (by omega)
   have f6 := hst.rf 6 (by omega)
   have c7 := hst.bt 7 (by omega)
   rw [if_pos (by omega), e7.out] at c7
   have d7 := hst.rs 7 (by omega)
   have f7 := hst.rf 7 (by omega)
   have BE := hidden hst.bel
   clear hst
   rw [show ((4 : Nat) : Int) = 4 from rfl]
   go_wp2_with fail
   refine bodyPost_ret (v := .agg #[.int .u64 h0, .int .u64 h1, .int .u64 h2, .int .u64 h3, .int .u64 h4, .int .u64 h5, .int .u64 h6, .int .u64 h7]) (by simp [results, Tryz.results57, go_sem, d0, d1, d2, d3, d4, d5, d6, d7]) rfl ⟨rfl, ?_⟩
   have hb : w.heap.size ≤ w.heap.size + 1 := by omega
   iterate 8 refine Below.setCell ?_ hb _
   exact BE.out
end Go.Proofs.YtnkaolobcglmlaaGreatDoor
