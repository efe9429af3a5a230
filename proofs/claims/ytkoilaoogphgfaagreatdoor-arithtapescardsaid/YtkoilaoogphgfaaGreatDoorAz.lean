import Derived.Test.YtkoilaoogphgfaaGreatDoorDyd
import Derived.Test.YtkoilaoogphgfaaGreatDoorCei
import Derived.Test.YtkoilaoogphgfaaGreatDoorAra
import Derived.Lib.BitFns
namespace Go.Proofs.YtkoilaoogphgfaaGreatDoor
open Go.RowKit
set_option linter.unusedVariables false
set_option linter.unusedSimpArgs false
open Cm (Wr Tm co bf lf ins Eqm)
namespace Ci
set_option maxRecDepth 100000
set_option maxHeartbeats 4000000
theorem rd_len : ∀ n : Fin 1024, rd (n.val + 1) = Lib.bitLen n.val := by decide +kernel
theorem bl_less : ∀ n : Fin 256, Lib.bitLen n.val ≤ 8 := by decide +kernel
theorem bl_more : ∀ n : Fin 1024, 256 ≤ n.val → Lib.bitLen n.val = 8 + Lib.bitLen (n.val / 256) := by decide +kernel
theorem wrap_sm (z : Int) (h0 : 0 ≤ z) (h1 : z ≤ 100) : wrap64 z = z := by unfold wrap64; omega
theorem len64_k (x : Nat) (hx : x < 1024) (w : World) : Calls Tryz.prog 48 #[.int .u64 (x : Int)] w fun e w' => e = .returned (.int .i64 (rd (x + 1) : Int)) ∧ w' = w := by
 have g0 : ¬ 4294967296 ≤ (x : Int) := by omega
 have g1 : ¬ 65536 ≤ (x : Int) := by omega
 have E := rd_len ⟨x, hx⟩
 simp only at E
 by_cases g2 : 256 ≤ (x : Int)
 ·have hb0 : 0 ≤ (x : Int) / 256 := by omega
  have hb1 : (x : Int) / 256 ≤ 255 := by omega
  have HB : Hid (wrap64 (8 + wrap64 (Lib.len8 ((x : Int) / 256))) = (rd (x + 1) : Int)) := hidden (by
   have h2 := bl_more ⟨x, hx⟩ (by show 256 ≤ x; omega)
   have h3 := bl_less ⟨x / 256, by omega⟩
   simp only at h2 h3
   rw [Lib.len8_of _ hb0 hb1, E, h2, show ((x : Int) / 256).toNat = x / 256 by omega]
   generalize Lib.bitLen (x / 256) = n at *
   rw [wrap_sm (n : Int) (by omega) (by omega), wrap_sm _ (by omega) (by omega)]
   omega)
  generalize (rd (x + 1) : Int) = r at *
  clear E hx
  generalize (x : Int) = y at *
  go_enter Tryz.func48, Tryz.ntmps48
  go_wp2_with fail
  refine bodyPost_ret (v := .int .i64 (wrap64 (8 + wrap64 (Lib.len8 (y / 256))))) (by simp [results, Tryz.results48, go_sem]) rfl ⟨by rw [HB.out], rfl⟩
 ·have hb0 : 0 ≤ (x : Int) := by omega
  have hb1 : (x : Int) ≤ 255 := by omega
  have HB : Hid (wrap64 (wrap64 (Lib.len8 (x : Int))) = (rd (x + 1) : Int)) := hidden (by
   have h3 := bl_less ⟨x, by omega⟩
   simp only at h3
   rw [Lib.len8_of _ hb0 hb1, E, Int.toNat_natCast]
   generalize Lib.bitLen x = n at *
   rw [wrap_sm (n : Int) (by omega) (by omega), wrap_sm _ (by omega) (by omega)])
  generalize (rd (x + 1) : Int) = r at *
  clear E hx
  generalize (x : Int) = y at *
  go_enter Tryz.func48, Tryz.ntmps48
  go_wp2_with fail
  refine bodyPost_ret (v := .int .i64 (wrap64 (wrap64 (Lib.len8 y)))) (by simp [results, Tryz.results48, go_sem]) rfl ⟨by rw [HB.out], rfl⟩
theorem len_k (x : Nat) (hx : x < 1024) (w : World) : Calls Tryz.prog 32 #[.int .u64 (x : Int)] w fun e w' => e = .returned (.int .i64 (rd (x + 1) : Int)) ∧ w' = w := by
 have LL := hidden (len64_k x hx w)
 have h1 : (0 : Int) ≤ (x : Int) := by omega
 have h2 : (x : Int) < 18446744073709551616 := by omega
 generalize (rd (x + 1) : Int) = y at *
 clear hx
 generalize (x : Int) = z at *
 go_enter Tryz.func32, Tryz.ntmps32
 go_wp2_with (first | (go_at_call 48; refine (LL.out).mono ?_; rintro e w1 ⟨rfl, rfl⟩))
 refine bodyPost_ret (v := .int .i64 y) (by simp [results, Tryz.results32, go_sem]) rfl ⟨rfl, rfl⟩
theorem rd_1 {n : Nat} (h : n ≤ 1) : rd n = 0 := by unfold rd; rw [if_pos h]
def sz (Kg : Nat) : Nat := 2 ^ rd Kg
theorem sz_le (Kg : Nat) : sz Kg ≤ 1024 := Nat.pow_le_pow_right (by omega) (rd_le Kg)
theorem sz_pos (Kg : Nat) : 0 < sz Kg := Nat.pos_of_ne_zero (by unfold sz; exact Nat.ne_of_gt (Nat.pow_pos (by omega)))
end Ci
end Go.Proofs.YtkoilaoogphgfaaGreatDoor
namespace Go.Proofs.YtkoilaoogphgfaaGreatDoor
open Go.RowKit
set_option linter.unusedVariables false
set_option linter.unusedSimpArgs false
open Cm (Wr Tm co bf lf ins Eqm)
namespace Ci
set_option maxRecDepth 100000
set_option maxHeartbeats 4000000
theorem wrap_sz (Kg : Nat) : wrap64 ((2 : Int) ^ rd Kg) = (sz Kg : Int) := by
 have hq1 : 2 ^ rd Kg ≤ 1024 := sz_le Kg
 unfold sz
 rw [show ((2 : Int) ^ rd Kg) = ((2 ^ rd Kg : Nat) : Int) by simp]
 generalize 2 ^ rd Kg = q at *
 unfold wrap64
 omega
theorem sz_1 {n : Nat} (h : n ≤ 1) : sz n = 1 := by unfold sz; rw [rd_1 h]
theorem subjectOf_any {base : Nat} {w : World} {s m Kg : Nat} {v : Value} {vs : List Value} {Q : List (List Tm)} (h : Sy base w s m Kg v vs Q) (hq : Q.length ≤ 4096) (hK : Kg ≤ 1024) : Calls Tryz.prog 18 #[.pointer (some ⟨s, 0, none⟩)] w fun e w' => ∃ t', e = .returned (.tuple #[.agg #[.pointer (some ⟨t', 0, none⟩), .int .i64 (sz Kg : Int), .int .i64 (rd Kg : Int)], .int .i64 0]) ∧ Below w.heap.size w w' := by
 have HA := hidden (bl_alloc w (.cells #[.pointer none, .int .i64 0, .int .i64 0] 81))
 have C1 := hidden ((SysClone_any (h.keep HA.out) hq).mono (fun e w' h => (show ∃ t', e = .returned (.pointer (some ⟨t', 0, none⟩)) ∧ (∃ v' vs', Sy base w' t' m Kg v' vs' Q) ∧ Below (w.alloc (.cells #[.pointer none, .int .i64 0, .int .i64 0] 81)).heap.size (w.alloc (.cells #[.pointer none, .int .i64 0, .int .i64 0] 81)) w' from ⟨_, h⟩)))
 have b0 : (w.alloc (.cells #[.pointer none, .int .i64 0, .int .i64 0] 81)).cell? ⟨w.heap.size, 0, none⟩ = some (.pointer none) := by go_simp
 have b1 : (w.alloc (.cells #[.pointer none, .int .i64 0, .int .i64 0] 81)).cell? ⟨w.heap.size, 1, none⟩ = some (.int .i64 0) := by go_simp
 have b2 : (w.alloc (.cells #[.pointer none, .int .i64 0, .int .i64 0] 81)).cell? ⟨w.heap.size, 2, none⟩ = some (.int .i64 0) := by go_simp
 have T0 := hidden (there_newM w [.pointer none, .int .i64 0, .int .i64 0] 81)
 have HK := hidden hK
 clear h hq hK
 by_cases k1 : 1 < Kg
 ·have l1 : (1 : Int) < (Kg : Int) := by omega
  have LK := hidden (fun y => len_k (Kg - 1) (by have := HK.out; omega) y)
  have wm : IntKind.i64.wrap ((Kg : Int) - 1) = ((Kg - 1 : Nat) : Int) := by rw [IntWalk.i64_in _ (by have := HK.out; omega)]; omega
  have wu : IntKind.u64.wrap (((Kg - 1 : Nat) : Int)) = ((Kg - 1 : Nat) : Int) := IntWalk.u64_in _ (by have := HK.out; omega)
  rw [show Kg - 1 + 1 = Kg by omega] at LK
  have e1 := wrap_sz Kg
  have rl := rd_le Kg
  clear k1
  generalize sz Kg = q at *
  generalize rd Kg = r at *
  generalize ((Kg - 1 : Nat) : Int) = x at *
  have r0 : (0 : Int) ≤ (r : Int) := by omega
  go_enter Tryz.func18, Tryz.ntmps18
  go_upto_region 4 with (go_at_call 30; refine C1.out.mono ?_; rintro e w2 ⟨t', rfl, ⟨v', vs', sy⟩, hb⟩; have SY := hidden sy; have B2 := hidden (bl_trans HA.out hb); have T2 := hidden (there_bl T0.out hb); have d0 := cell_keep b0 hb; have d1 := cell_keep b1 hb; have d2 := cell_keep b2 hb; have GT := hidden (Gates_any sy); clear sy hb)
  clear C1 b0 b1 b2 T0
  have f0 := (T2.out 0 (by simp)).2
  have f1 := (T2.out 1 (by simp)).2
  have f2 := (T2.out 2 (by simp)).2
  simp only [Nat.zero_add] at f0 f1 f2
  go_wp2_with (first | (go_at_call 31; refine GT.out.mono ?_; rintro e w3 ⟨rfl, rfl⟩) | (go_at_call 32; refine (LK.out _).mono ?_; rintro e w4 ⟨rfl, rfl⟩))
  refine bodyPost_ret (v := .tuple #[.agg #[.pointer (some ⟨t', 0, none⟩), .int .i64 (q : Int), .int .i64 (r : Int)], .int .i64 0]) (by simp [results, Tryz.results18, go_sem, d0, d1, d2]) rfl ⟨t', rfl, ?_⟩
  exact bl_cell (bl_cell (bl_cell B2.out (Nat.le_refl _)) (Nat.le_refl _)) (Nat.le_refl _)
 ·have l1 : ¬ (1 : Int) < (Kg : Int) := by omega
  rw [rd_1 (by omega : Kg ≤ 1), sz_1 (by omega : Kg ≤ 1)]
  clear k1
  go_enter Tryz.func18, Tryz.ntmps18
  go_upto_region 4 with (go_at_call 30; refine C1.out.mono ?_; rintro e w2 ⟨t', rfl, ⟨v', vs', sy⟩, hb⟩; have SY := hidden sy; have B2 := hidden (bl_trans HA.out hb); have T2 := hidden (there_bl T0.out hb); have d0 := cell_keep b0 hb; have d1 := cell_keep b1 hb; have d2 := cell_keep b2 hb; have GT := hidden (Gates_any sy); clear sy hb)
  clear C1 b0 b1 b2 T0
  have f0 := (T2.out 0 (by simp)).2
  have f1 := (T2.out 1 (by simp)).2
  have f2 := (T2.out 2 (by simp)).2
  simp only [Nat.zero_add] at f0 f1 f2
  go_wp2_with (first | (go_at_call 31; refine GT.out.mono ?_; rintro e w3 ⟨rfl, rfl⟩))
  refine bodyPost_ret (v := .tuple #[.agg #[.pointer (some ⟨t', 0, none⟩), .int .i64 ((1 : Nat) : Int), .int .i64 ((0 : Nat) : Int)], .int .i64 0]) (by simp [results, Tryz.results18, go_sem, d0, d1, d2]) rfl ⟨t', rfl, ?_⟩
  exact bl_cell (bl_cell (bl_cell B2.out (Nat.le_refl _)) (Nat.le_refl _)) (Nat.le_refl _)
theorem Clone_nil (w : World) : Calls Tryz.prog 30 #[.pointer none] w fun e w' => e = .returned (.pointer none) ∧ w' = w := by
 have C0 : Hid (∀ y, Calls Tryz.prog 24 #[.pointer none] y fun e w' => e = .returned (.bool true) ∧ w' = y) := hidden (fun y => by
  go_enter Tryz.func24, Tryz.ntmps24
  go_wp2_with fail
  refine bodyPost_ret (v := .bool true) (by simp [results, Tryz.results24, go_sem]) rfl ⟨rfl, rfl⟩)
 go_enter Tryz.func30, Tryz.ntmps30
 go_wp2_with (go_at_call 24; refine (C0.out _).mono ?_; rintro e w1 ⟨rfl, rfl⟩)
 refine bodyPost_ret (v := .pointer none) (by simp [results, Tryz.results30, go_sem]) rfl ⟨rfl, rfl⟩
theorem Clone_zero (b : Nat) (w : World) (h : w.cell? ⟨b, 3, none⟩ = some (.bool false)) : Calls Tryz.prog 30 #[.pointer (some ⟨b, 0, none⟩)] w fun e w' => e = .returned (.pointer none) ∧ w' = w := by
 have C0 : Hid (Calls Tryz.prog 24 #[.pointer (some ⟨b, 0, none⟩)] w fun e w' => e = .returned (.bool true) ∧ w' = w) := hidden (by
  go_enter Tryz.func24, Tryz.ntmps24
  go_wp2_with fail
  refine bodyPost_ret (v := .bool true) (by simp [results, Tryz.results24, go_sem]) rfl ⟨rfl, rfl⟩)
 clear h
 go_enter Tryz.func30, Tryz.ntmps30
 go_wp2_with (go_at_call 24; refine (C0.out).mono ?_; rintro e w1 ⟨rfl, rfl⟩)
 refine bodyPost_ret (v := .pointer none) (by simp [results, Tryz.results30, go_sem]) rfl ⟨rfl, rfl⟩
theorem subjectOf_none (v : Value) (w : World) (h : ∀ y, Below w.heap.size w y → Calls Tryz.prog 30 #[v] y fun e w' => e = .returned (.pointer none) ∧ w' = y) : Calls Tryz.prog 18 #[v] w fun e w' => e = .returned (.tuple #[.agg #[.pointer none, .int .i64 0, .int .i64 0], .int .i64 1]) ∧ Below w.heap.size w w' := by
 have HA := hidden (bl_alloc w (.cells #[.pointer none, .int .i64 0, .int .i64 0] 81))
 have C1 := hidden (h _ HA.out)
 clear h
 go_enter Tryz.func18, Tryz.ntmps18
 go_wp2_with (go_at_call 30; refine C1.out.mono ?_; rintro e w2 ⟨rfl, rfl⟩)
 refine bodyPost_ret (v := .tuple #[.agg #[.pointer none, .int .i64 0, .int .i64 0], .int .i64 1]) (by simp [results, Tryz.results18, go_sem]) rfl ⟨rfl, ?_⟩
 exact HA.out
theorem Size_of (v : Value) (a b c d : Value) (q : Int) (w : World) (hq : b = .int .i64 q) (h : Calls Tryz.prog 18 #[v] w fun e w' => ∃ a c d, e = .returned (.tuple #[.agg #[.pointer a, .int .i64 q, .int .i64 c], .int .i64 d]) ∧ Below w.heap.size w w') : Calls Tryz.prog 6 #[v] w fun e w' => e = .returned (.int .i64 q) ∧ Below w.heap.size w w' := by
 have C1 := hidden h
 clear h
 go_enter Tryz.func6, Tryz.ntmps6
 go_wp2_with (go_at_call 18; refine C1.out.mono ?_; rintro e w2 ⟨a1, c1, d1, rfl, hb⟩; have B2 := hidden (bl_trans hb (bl_alloc w2 (.cells #[.pointer a1, .int .i64 q, .int .i64 c1] 81))); clear hb)
 refine bodyPost_ret (v := .int .i64 q) (by simp [results, Tryz.results6, go_sem]) rfl ⟨rfl, B2.out⟩
theorem dSize_any {base : Nat} {w : World} {s m Kg : Nat} {v : Value} {vs : List Value} {Q : List (List Tm)} (h : Dy base w s m Kg v vs Q) (hK : Kg ≤ 1024) : Calls Tryz.prog 8 #[.pointer (some ⟨s, 0, none⟩)] w fun e w' => e = .returned (.int .i64 (sz Kg : Int)) ∧ w' = w := by
 have c1 := h.c1
 have HK := hidden hK
 have SZ : Hid (∀ k, k ≤ 10 → (k = 0 ∨ 2 ^ (k - 1) < Kg) → Kg ≤ 2 ^ k → sz Kg = 2 ^ k) := hidden (fun k h1 h2 h3 => by unfold sz; rw [rd_is Kg k h1 h2 h3])
 generalize sz Kg = q at *
 clear h hK
 go_enter Tryz.func8, Tryz.ntmps8
 go_upto_region 2 with fail
 go_loopw [3] (fun kv w' => ∃ k p : Nat, kv = .int .i64 (p : Int) ∧ Hid (p = 2 ^ k) ∧ Hid (k ≤ 10) ∧ Hid (k = 0 ∨ 2 ^ (k - 1) < Kg) ∧ Hid (w' = w)) (fun k _ => 2048 - (intOf k).toNat)
 case atStart => exact ⟨0, 1, rfl, hidden rfl, hidden (by omega), hidden (.inl rfl), hidden rfl⟩
 case round =>
  obtain ⟨k, p, rfl, hp, hk, hl, hw⟩ := hrel
  obtain rfl := hw.out
  have hp1 : p ≤ 1024 := by rw [hp.out]; exact Nat.pow_le_pow_right (by omega) hk.out
  have hp0 : 0 < p := by rw [hp.out]; exact Nat.pow_pos (by omega)
  have w9 : IntKind.i64.wrap (2 * (p : Int)) = ((2 * p : Nat) : Int) := by rw [IntWalk.i64_in _ (by omega)]; omega
  by_cases hlt : p < Kg
  ·have hlt' : (p : Int) < (Kg : Int) := by omega
   have PN : Hid (k + 1 ≤ 10) := hidden (by
    by_cases h10 : k = 10
    ·exfalso; have := hp.out; subst h10; have := HK.out; omega
    ·have := hk.out; omega)
   have PL : Hid (2 ^ k < Kg) := hidden (by rw [← hp.out]; exact hlt)
   have HP0 := hidden hp0
   clear hp1 hlt hp0
   obtain ⟨p2, hp2⟩ : ∃ p2, 2 * p = p2 := ⟨_, rfl⟩
   rw [hp2] at w9
   have HP2 := hidden hp2
   clear hp2
   go_wp2_with fail
   go_roundw
   case rel => exact ⟨k + 1, p2, rfl, hidden (by rw [← HP2.out, hp.out, Nat.pow_succ, Nat.mul_comm]), PN, hidden (.inr (by rw [Nat.add_sub_cancel]; exact PL.out)), (by first | exact hidden rfl | exact hidden trivial)⟩
   case measure => have h1 := HP2.out; have h2 := HP0.out; have h3 := HK.out; simp [intOf]; omega
  ·have hlt' : ¬ (p : Int) < (Kg : Int) := by omega
   have E : Hid (q = p) := hidden (by rw [SZ.out k hk.out hl.out (by rw [← hp.out]; omega), hp.out])
   clear hp1 hp0 hlt
   go_wp2_with fail
   refine bodyPost_ret (v := .int .i64 (p : Int)) (by simp [results, Tryz.results8, go_sem]) rfl ⟨by rw [E.out], rfl⟩
end Ci
end Go.Proofs.YtkoilaoogphgfaaGreatDoor
