import Derived.Test.YtnkaolobcglmlaaGreatDoorDz
import Derived.Test.YtnkaolobcglmlaaGreatDoorCei
import Derived.Test.YtnkaolobcglmlaaGreatDoorVa
import Derived.Lib.BitFns
namespace Go.Proofs.YtnkaolobcglmlaaGreatDoor
open Go.RowKit
set_option linter.unusedVariables false
set_option linter.unusedSimpArgs false
open Cm (Wr Tm co bf lf ins Eqm)
namespace Ci
set_option maxRecDepth 100000
set_option maxHeartbeats 4000000
theorem rd_len : ∀ n : Fin 1024, rd (n.val + 1) = Lib.bitLen n.val := by decide +kernel
theorem bl_less : ∀ n : Fin 256, Lib.bitLen n.val ≤ 8 := by decide +kernel
theorem bl_more : ∀ n : Fin 1024, 256 ≤ n.val → Lib.bitLen n.val = 8 + Lib.bitLen (n.val / 256) := by decide +kernel
theorem wrap_sm (z : Int) (h0 : 0 ≤ z) (h1 : z ≤ 100) : wrap64 z = z := by unfold wrap64; omega
theorem len64_k (x : Nat) (hx : x < 1024) (w : World) : Calls Tryz.prog 70 #[.int .u64 (x : Int)] w fun e w' => e = .returned (.int .i64 (rd (x + 1) : Int)) ∧ w' = w := by
 have g0 : ¬ 4294967296 ≤ (x : Int) := by omega
 have g1 : ¬ 65536 ≤ (x : Int) := by omega
 have E := rd_len ⟨x, hx⟩
 simp only at E
 by_cases g2 : 256 ≤ (x : Int)
 ·have hb0 : 0 ≤ (x : Int) / 256 := by omega
  have hb1 : (x : Int) / 256 ≤ 255 := by omega
  have HB : Hid (wrap64 (8 + wrap64 (Lib.len8 ((x : Int) / 256))) = (rd (x + 1) : Int)) := hidden (by
   have h2 := bl_more ⟨x, hx⟩ (by show 256 ≤ x; omega)
   have h3 := bl_less ⟨x / 256, by omega⟩
   simp only at h2 h3
   rw [Lib.len8_of _ hb0 hb1, E, h2, show ((x : Int) / 256).toNat = x / 256 by omega]
   generalize Lib.bitLen (x / 256) = n at *
   rw [wrap_sm (n : Int) (by omega) (by omega), wrap_sm _ (by omega) (by omega)]
   omega)
  generalize (rd (x + 1) : Int) = r at *
  clear E hx
  generalize (x : Int) = y at *
  go_enter Tryz.func70, Tryz.ntmps70
  go_wp2_with fail
  refine bodyPost_ret (v := .int .i64 (wrap64 (8 + wrap64 (Lib.len8 (y / 256))))) (by simp [results, Tryz.results70, go_sem]) rfl ⟨by rw [HB.out], rfl⟩
 ·have hb0 : 0 ≤ (x : Int) := by omega
  have hb1 : (x : Int) ≤ 255 := by omega
  have HB : Hid (wrap64 (wrap64 (Lib.len8 (x : Int))) = (rd (x + 1) : Int)) := hidden (by
   have h3 := bl_less ⟨x, by omega⟩
   simp only at h3
   rw [Lib.len8_of _ hb0 hb1, E, Int.toNat_natCast]
   generalize Lib.bitLen x = n at *
   rw [wrap_sm (n : Int) (by omega) (by omega), wrap_sm _ (by omega) (by omega)])
  generalize (rd (x + 1) : Int) = r at *
  clear E hx
  generalize (x : Int) = y at *
  go_enter Tryz.func70, Tryz.ntmps70
  go_wp2_with fail
  refine bodyPost_ret (v := .int .i64 (wrap64 (wrap64 (Lib.len8 y)))) (by simp [results, Tryz.results70, go_sem]) rfl ⟨by rw [HB.out], rfl⟩
theorem len_k (x : Nat) (hx : x < 1024) (w : World) : Calls Tryz.prog 49 #[.int .u64 (x : Int)] w fun e w' => e = .returned (.int .i64 (rd (x + 1) : Int)) ∧ w' = w := by
 have LL := hidden (len64_k x hx w)
 have h1 : (0 : Int) ≤ (x : Int) := by omega
 have h2 : (x : Int) < 18446744073709551616 := by omega
 generalize (rd (x + 1) : Int) = y at *
 clear hx
 generalize (x : Int) = z at *
 go_enter Tryz.func49, Tryz.ntmps49
 go_wp2_with (first | (go_at_call 70; refine (LL.out).mono ?_; rintro e w1 ⟨rfl, rfl⟩))
 refine bodyPost_ret (v := .int .i64 y) (by simp [results, Tryz.results49, go_sem]) rfl ⟨rfl, rfl⟩
theorem rd_1 {n : Nat} (h : n ≤ 1) : rd n = 0 := by unfold rd; rw [if_pos h]
def sz (Kg : Nat) : Nat := 2 ^ rd Kg
theorem sz_le (Kg : Nat) : sz Kg ≤ 1024 := Nat.pow_le_pow_right (by omega) (rd_le Kg)
end Ci
end Go.Proofs.YtnkaolobcglmlaaGreatDoor
namespace Go.Proofs.YtnkaolobcglmlaaGreatDoor
open Go.RowKit
set_option linter.unusedVariables false
set_option linter.unusedSimpArgs false
open Cm (Wr Tm co bf lf ins Eqm)
namespace Ci
set_option maxRecDepth 100000
set_option maxHeartbeats 4000000
theorem wrap_sz (Kg : Nat) : wrap64 ((2 : Int) ^ rd Kg) = (sz Kg : Int) := by
 have hq1 : 2 ^ rd Kg ≤ 1024 := sz_le Kg
 unfold sz
 rw [show ((2 : Int) ^ rd Kg) = ((2 ^ rd Kg : Nat) : Int) by simp]
 generalize 2 ^ rd Kg = q at *
 unfold wrap64
 omega
theorem sz_1 {n : Nat} (h : n ≤ 1) : sz n = 1 := by unfold sz; rw [rd_1 h]
theorem subjectOf_any {base : Nat} {w : World} {s m Kg : Nat} {v : Value} {vs : List Value} {Q : List (List Tm)} (h : Sy base w s m Kg v vs Q) (hq : Q.length ≤ 4096) (hK : Kg ≤ 1024) : Calls Tryz.prog 68 #[.pointer (some ⟨s, 0, none⟩)] w fun e w' => ∃ t', e = .returned (.tuple #[.agg #[.pointer (some ⟨t', 0, none⟩), .int .i64 (sz Kg : Int), .int .i64 (rd Kg : Int)], .int .i64 0]) ∧ Below w.heap.size w w' := by
 have HA := hidden (bl_alloc w (.cells #[.pointer none, .int .i64 0, .int .i64 0] 139))
 have C1 := hidden ((SysClone_any (h.keep HA.out) hq).mono (fun e w' h => (show ∃ t', e = .returned (.pointer (some ⟨t', 0, none⟩)) ∧ (∃ v' vs', Sy base w' t' m Kg v' vs' Q) ∧ Below (w.alloc (.cells #[.pointer none, .int .i64 0, .int .i64 0] 139)).heap.size (w.alloc (.cells #[.pointer none, .int .i64 0, .int .i64 0] 139)) w' from ⟨_, h⟩)))
 have b0 : (w.alloc (.cells #[.pointer none, .int .i64 0, .int .i64 0] 139)).cell? ⟨w.heap.size, 0, none⟩ = some (.pointer none) := by go_simp
 have b1 : (w.alloc (.cells #[.pointer none, .int .i64 0, .int .i64 0] 139)).cell? ⟨w.heap.size, 1, none⟩ = some (.int .i64 0) := by go_simp
 have b2 : (w.alloc (.cells #[.pointer none, .int .i64 0, .int .i64 0] 139)).cell? ⟨w.heap.size, 2, none⟩ = some (.int .i64 0) := by go_simp
 have T0 := hidden (there_newM w [.pointer none, .int .i64 0, .int .i64 0] 139)
 have HK := hidden hK
 clear h hq hK
 by_cases k1 : 1 < Kg
 ·have l1 : (1 : Int) < (Kg : Int) := by omega
  have LK := hidden (fun y => len_k (Kg - 1) (by have := HK.out; omega) y)
  have wm : IntKind.i64.wrap ((Kg : Int) - 1) = ((Kg - 1 : Nat) : Int) := by rw [IntWalk.i64_in _ (by have := HK.out; omega)]; omega
  have wu : IntKind.u64.wrap (((Kg - 1 : Nat) : Int)) = ((Kg - 1 : Nat) : Int) := IntWalk.u64_in _ (by have := HK.out; omega)
  rw [show Kg - 1 + 1 = Kg by omega] at LK
  have e1 := wrap_sz Kg
  have rl := rd_le Kg
  clear k1
  generalize sz Kg = q at *
  generalize rd Kg = r at *
  generalize ((Kg - 1 : Nat) : Int) = x at *
  have r0 : (0 : Int) ≤ (r : Int) := by omega
  go_enter Tryz.func68, Tryz.ntmps68
  go_upto_region 4 with (go_at_call 81; refine C1.out.mono ?_; rintro e w2 ⟨t', rfl, ⟨v', vs', sy⟩, hb⟩; have SY := hidden sy; have B2 := hidden (bl_trans HA.out hb); have T2 := hidden (there_bl T0.out hb); have d0 := cell_keep b0 hb; have d1 := cell_keep b1 hb; have d2 := cell_keep b2 hb; have GT := hidden (Gates_any sy); clear sy hb)
  clear C1 b0 b1 b2 T0
  have f0 := (T2.out 0 (by simp)).2
  have f1 := (T2.out 1 (by simp)).2
  have f2 := (T2.out 2 (by simp)).2
  simp only [Nat.zero_add] at f0 f1 f2
  go_wp2_with (first | (go_at_call 21; refine GT.out.mono ?_; rintro e w3 ⟨rfl, rfl⟩) | (go_at_call 49; refine (LK.out _).mono ?_; rintro e w4 ⟨rfl, rfl⟩))
  refine bodyPost_ret (v := .tuple #[.agg #[.pointer (some ⟨t', 0, none⟩), .int .i64 (q : Int), .int .i64 (r : Int)], .int .i64 0]) (by simp [results, Tryz.results68, go_sem, d0, d1, d2]) rfl ⟨t', rfl, ?_⟩
  exact bl_cell (bl_cell (bl_cell B2.out (Nat.le_refl _)) (Nat.le_refl _)) (Nat.le_refl _)
 ·have l1 : ¬ (1 : Int) < (Kg : Int) := by omega
  rw [rd_1 (by omega : Kg ≤ 1), sz_1 (by omega : Kg ≤ 1)]
  clear k1
  go_enter Tryz.func68, Tryz.ntmps68
  go_upto_region 4 with (go_at_call 81; refine C1.out.mono ?_; rintro e w2 ⟨t', rfl, ⟨v', vs', sy⟩, hb⟩; have SY := hidden sy; have B2 := hidden (bl_trans HA.out hb); have T2 := hidden (there_bl T0.out hb); have d0 := cell_keep b0 hb; have d1 := cell_keep b1 hb; have d2 := cell_keep b2 hb; have GT := hidden (Gates_any sy); clear sy hb)
  clear C1 b0 b1 b2 T0
  have f0 := (T2.out 0 (by simp)).2
  have f1 := (T2.out 1 (by simp)).2
  have f2 := (T2.out 2 (by simp)).2
  simp only [Nat.zero_add] at f0 f1 f2
  go_wp2_with (first | (go_at_call 21; refine GT.out.mono ?_; rintro e w3 ⟨rfl, rfl⟩))
  refine bodyPost_ret (v := .tuple #[.agg #[.pointer (some ⟨t', 0, none⟩), .int .i64 ((1 : Nat) : Int), .int .i64 ((0 : Nat) : Int)], .int .i64 0]) (by simp [results, Tryz.results68, go_sem, d0, d1, d2]) rfl ⟨t', rfl, ?_⟩
  exact bl_cell (bl_cell (bl_cell B2.out (Nat.le_refl _)) (Nat.le_refl _)) (Nat.le_refl _)
theorem Clone_nil (w : World) : Calls Tryz.prog 81 #[.pointer none] w fun e w' => e = .returned (.pointer none) ∧ w' = w := by
 have C0 : Hid (∀ y, Calls Tryz.prog 25 #[.pointer none] y fun e w' => e = .returned (.bool true) ∧ w' = y) := hidden (fun y => by
  go_enter Tryz.func25, Tryz.ntmps25
  go_wp2_with fail
  refine bodyPost_ret (v := .bool true) (by simp [results, Tryz.results25, go_sem]) rfl ⟨rfl, rfl⟩)
 go_enter Tryz.func81, Tryz.ntmps81
 go_wp2_with (go_at_call 25; refine (C0.out _).mono ?_; rintro e w1 ⟨rfl, rfl⟩)
 refine bodyPost_ret (v := .pointer none) (by simp [results, Tryz.results81, go_sem]) rfl ⟨rfl, rfl⟩
theorem subjectOf_none (v : Value) (w : World) (h : ∀ y, Below w.heap.size w y → Calls Tryz.prog 81 #[v] y fun e w' => e = .returned (.pointer none) ∧ w' = y) : Calls Tryz.prog 68 #[v] w fun e w' => e = .returned (.tuple #[.agg #[.pointer none, .int .i64 0, .int .i64 0], .int .i64 1]) ∧ Below w.heap.size w w' := by
 have HA := hidden (bl_alloc w (.cells #[.pointer none, .int .i64 0, .int .i64 0] 139))
 have C1 := hidden (h _ HA.out)
 clear h
 go_enter Tryz.func68, Tryz.ntmps68
 go_wp2_with (go_at_call 81; refine C1.out.mono ?_; rintro e w2 ⟨rfl, rfl⟩)
 refine bodyPost_ret (v := .tuple #[.agg #[.pointer none, .int .i64 0, .int .i64 0], .int .i64 1]) (by simp [results, Tryz.results68, go_sem]) rfl ⟨rfl, ?_⟩
 exact HA.out
theorem Size_of (v : Value) (a b c d : Value) (q : Int) (w : World) (hq : b = .int .i64 q) (h : Calls Tryz.prog 68 #[v] w fun e w' => ∃ a c d, e = .returned (.tuple #[.agg #[.pointer a, .int .i64 q, .int .i64 c], .int .i64 d]) ∧ Below w.heap.size w w') : Calls Tryz.prog 48 #[v] w fun e w' => e = .returned (.int .i64 q) ∧ Below w.heap.size w w' := by
 have C1 := hidden h
 clear h
 go_enter Tryz.func48, Tryz.ntmps48
 go_wp2_with (go_at_call 68; refine C1.out.mono ?_; rintro e w2 ⟨a1, c1, d1, rfl, hb⟩; have B2 := hidden (bl_trans hb (bl_alloc w2 (.cells #[.pointer a1, .int .i64 q, .int .i64 c1] 139))); clear hb)
 refine bodyPost_ret (v := .int .i64 q) (by simp [results, Tryz.results48, go_sem]) rfl ⟨rfl, B2.out⟩
theorem dSize_any {base : Nat} {w : World} {s m Kg : Nat} {v : Value} {vs : List Value} {Q : List (List Tm)} (h : Dy base w s m Kg v vs Q) (hK : Kg ≤ 1024) : Calls Tryz.prog 30 #[.pointer (some ⟨s, 0, none⟩)] w fun e w' => e = .returned (.int .i64 (sz Kg : Int)) ∧ w' = w := by
 have c1 := h.c1
 have HK := hidden hK
 have SZ : Hid (∀ k, k ≤ 10 → (k = 0 ∨ 2 ^ (k - 1) < Kg) → Kg ≤ 2 ^ k → sz Kg = 2 ^ k) := hidden (fun k h1 h2 h3 => by unfold sz; rw [rd_is Kg k h1 h2 h3])
 generalize sz Kg = q at *
 clear h hK
 go_enter Tryz.func30, Tryz.ntmps30
 go_upto_region 2 with fail
 go_loopw [3] (fun kv w' => ∃ k p : Nat, kv = .int .i64 (p : Int) ∧ Hid (p = 2 ^ k) ∧ Hid (k ≤ 10) ∧ Hid (k = 0 ∨ 2 ^ (k - 1) < Kg) ∧ Hid (w' = w)) (fun k _ => 2048 - (intOf k).toNat)
 case atStart => exact ⟨0, 1, rfl, hidden rfl, hidden (by omega), hidden (.inl rfl), hidden rfl⟩
 case round =>
  obtain ⟨k, p, rfl, hp, hk, hl, hw⟩ := hrel
  obtain rfl := hw.out
  have hp1 : p ≤ 1024 := by rw [hp.out]; exact Nat.pow_le_pow_right (by omega) hk.out
  have hp0 : 0 < p := by rw [hp.out]; exact Nat.pow_pos (by omega)
  have w9 : IntKind.i64.wrap (2 * (p : Int)) = ((2 * p : Nat) : Int) := by rw [IntWalk.i64_in _ (by omega)]; omega
  by_cases hlt : p < Kg
  ·have hlt' : (p : Int) < (Kg : Int) := by omega
   have PN : Hid (k + 1 ≤ 10) := hidden (by
    by_cases h10 : k = 10
    ·exfalso; have := hp.out; subst h10; have := HK.out; omega
    ·have := hk.out; omega)
   have PL : Hid (2 ^ k < Kg) := hidden (by rw [← hp.out]; exact hlt)
   have HP0 := hidden hp0
   clear hp1 hlt hp0
   obtain ⟨p2, hp2⟩ : ∃ p2, 2 * p = p2 := ⟨_, rfl⟩
   rw [hp2] at w9
   have HP2 := hidden hp2
   clear hp2
   go_wp2_with fail
   go_roundw
   case rel => exact ⟨k + 1, p2, rfl, hidden (by rw [← HP2.out, hp.out, Nat.pow_succ, Nat.mul_comm]), PN, hidden (.inr (by rw [Nat.add_sub_cancel]; exact PL.out)), (by first | exact hidden rfl | exact hidden trivial)⟩
   case measure => have h1 := HP2.out; have h2 := HP0.out; have h3 := HK.out; simp [intOf]; omega
  ·have hlt' : ¬ (p : Int) < (Kg : Int) := by omega
   have E : Hid (q = p) := hidden (by rw [SZ.out k hk.out hl.out (by rw [← hp.out]; omega), hp.out])
   clear hp1 hp0 hlt
   go_wp2_with fail
   refine bodyPost_ret (v := .int .i64 (p : Int)) (by simp [results, Tryz.results30, go_sem]) rfl ⟨by rw [E.out], rfl⟩
end Ci
end Go.Proofs.YtnkaolobcglmlaaGreatDoor
namespace Go.Proofs.YtnkaolobcglmlaaGreatDoor
open Go.RowKit
set_option linter.unusedVariables false
set_option linter.unusedSimpArgs false
open Cm (Wr Tm co bf lf ins Eqm)
namespace Ci
set_option maxRecDepth 100000
set_option maxHeartbeats 4000000
theorem Fz.ofG {s : Nat} {v : Value} {w w' : World} (h : w.grownBy w' (some s)) : Fz s v w w' := ⟨h.os, h.tape, h.output, h.size, fun i hi h1 _ => h.block i hi (fun e => h1 (Option.some.inj e))⟩
theorem own_blk {w : World} {base sz : Nat} {e : TypeId} {u : Value} {n : Nat} {xs : List Value} {k : Nat} (h : w.ownsRow base e sz u n xs) (hk : u.ownBlock = some k) : ∃ cur, w.heap[k]? = some (.cells cur e (0, 0)) := by
 rcases h.2 with ⟨h1, _⟩ | ⟨g, c, cur, h1, _, h3, _⟩
 ·rw [h1] at hk; cases hk
 ·rw [h1] at hk
  simp only [Value.ownBlock, Option.some.injEq] at hk
  subst hk
  exact ⟨cur, h3⟩
theorem own_fz {w w' : World} {s : Nat} {v : Value} {arr : Array Value} {ts tr : TypeId} {base n0 sz0 : Nat} {vs : List Value} (hf : Fz s v w w') (hs : w.heap[s]? = some (.cells arr ts (0, 0))) (hr : w.ownsRow base tr sz0 v n0 vs)
  {b1 sz : Nat} {e : TypeId} {u : Value} {n : Nat} {xs : List Value} (h : w.ownsRow b1 e sz u n xs) (h1 : e ≠ ts) (h2 : e ≠ tr) : w'.ownsRow b1 e sz u n xs := ⟨h.1, by
 rcases h.2 with h0 | ⟨g, c, cur, e1, e2, e3, e4⟩
 ·exact .inl h0
 ·refine .inr ⟨g, c, cur, e1, e2, (hf.block g (Array.getElem?_eq_some_iff.1 e3).1 (fun e' => ?_) (fun e' => ?_)).trans e3, e4⟩
  ·subst e'
   rw [hs] at e3
   simp only [Option.some.injEq, Obj.cells.injEq] at e3
   exact h1 e3.2.1.symm
  ·obtain ⟨cur', e5⟩ := own_blk hr e'
   rw [e5] at e3
   simp only [Option.some.injEq, Obj.cells.injEq] at e3
   exact h2 e3.2.1.symm⟩
theorem blk_fz {w w' : World} {s : Nat} {v : Value} {arr : Array Value} {ts tr : TypeId} {base n0 sz0 : Nat} {vs : List Value} (hf : Fz s v w w') (hs : w.heap[s]? = some (.cells arr ts (0, 0))) (hr : w.ownsRow base tr sz0 v n0 vs)
  {k : Nat} {cur : Array Value} {e : TypeId} (h : w.heap[k]? = some (.cells cur e (0, 0))) (h1 : e ≠ ts) (h2 : e ≠ tr) : w'.heap[k]? = some (.cells cur e (0, 0)) :=
 (hf.block k (Array.getElem?_eq_some_iff.1 h).1 (fun e' => by
  subst e'
  rw [hs] at h
  simp only [Option.some.injEq, Obj.cells.injEq] at h
  exact h1 h.2.1.symm) (fun e' => by
  obtain ⟨cur', e5⟩ := own_blk hr e'
  rw [e5] at h
  simp only [Option.some.injEq, Obj.cells.injEq] at h
  exact h2 h.2.1.symm)).trans h
theorem Dy.fz2 {base : Nat} {w : World} {s m Kg : Nat} {v : Value} {vs : List Value} {Q : List (List Tm)} {base' : Nat} {s' m' Kg' : Nat} {v' : Value} {vs' : List Value} {Q' : List (List Tm)} {w' : World} (h : Dy base w s m Kg v vs Q) (k : Sy base' w s' m' Kg' v' vs' Q') (hf : Fz s' v' w w') : Dy base w' s m Kg v vs Q :=
 ⟨blk_fz hf k.h k.row h.h (by decide) (by decide), own_fz hf k.h k.row h.row (by decide) (by decide), fun i X hX => by obtain ⟨u, h1, h2⟩ := h.ls i X hX; exact ⟨u, h1, own_fz hf k.h k.row h2 (by decide) (by decide)⟩, h.bs, h.sm⟩
theorem Sy.fz2 {base : Nat} {w : World} {s m Kg : Nat} {v : Value} {vs : List Value} {Q : List (List Tm)} {base' : Nat} {s' m' Kg' : Nat} {v' : Value} {vs' : List Value} {Q' : List (List Tm)} {w' : World} (h : Sy base w s m Kg v vs Q) (k : Dy base' w s' m' Kg' v' vs' Q') (hf : Fz s' v' w w') : Sy base w' s m Kg v vs Q :=
 ⟨blk_fz hf k.h k.row h.h (by decide) (by decide), own_fz hf k.h k.row h.row (by decide) (by decide), fun i X hX => by obtain ⟨u, h1, h2⟩ := h.ls i X hX; exact ⟨u, h1, own_fz hf k.h k.row h2 (by decide) (by decide)⟩, h.bs, h.sm⟩
def Ok2 (ts tr : TypeId) (x x' : World) : Prop := ∀ (k : Nat) (cur : Array Value) (e : TypeId), x.heap[k]? = some (.cells cur e (0, 0)) → e ≠ ts → e ≠ tr → x'.heap[k]? = some (.cells cur e (0, 0))
theorem Ok2.of {s : Nat} {v : Value} {w w' : World} {arr : Array Value} {ts tr : TypeId} {base n0 sz0 : Nat} {vs : List Value} (hf : Fz s v w w') (hs : w.heap[s]? = some (.cells arr ts (0, 0))) (hr : w.ownsRow base tr sz0 v n0 vs) : Ok2 ts tr w w' := fun k cur e h h1 h2 => blk_fz hf hs hr h h1 h2
theorem Ok2.bel {ts tr : TypeId} {w w' : World} (h : Below w.heap.size w w') : Ok2 ts tr w w' := fun k cur e hk _ _ => (h.block k (Array.getElem?_eq_some_iff.1 hk).1).trans hk
theorem Ok2.own {ts tr : TypeId} {w w' : World} (h : Ok2 ts tr w w') {b1 sz : Nat} {e : TypeId} {u : Value} {n : Nat} {xs : List Value} (ho : w.ownsRow b1 e sz u n xs) (h1 : e ≠ ts) (h2 : e ≠ tr) : w'.ownsRow b1 e sz u n xs := ⟨ho.1, by
 rcases ho.2 with h0 | ⟨g, c, cur, e1, e2, e3, e4⟩
 ·exact .inl h0
 ·exact .inr ⟨g, c, cur, e1, e2, h g cur e e3 h1 h2, e4⟩⟩
structure PD (w : World) (t r m K1 K2 : Nat) (Q1 Q2 : List (List Tm)) (x : World) : Prop where
 p : ∃ base v vs, Sy base x t m K1 v vs Q1 ∧ w.heap.size ≤ base
 d : ∃ base v vs, Dy base x r m K2 v vs Q2 ∧ w.heap.size ≤ base
 bl : Below w.heap.size w x
 q1 : Q1.length ≤ 4096
 q2 : Q2.length ≤ 4096
 k1 : K1 ≤ 1024
 k2 : K2 ≤ 1024
section
variable {w : World} {t r m K1 K2 : Nat} {Q1 Q2 : List (List Tm)} {x y : World}
theorem PD.keep (h : PD w t r m K1 K2 Q1 Q2 x) (k : Below x.heap.size x y) : PD w t r m K1 K2 Q1 Q2 y := by
 obtain ⟨⟨b1, v1, s1, p1, l1⟩, ⟨b2, v2, s2, p2, l2⟩, bl, q1, q2, k1, k2⟩ := h
 exact ⟨⟨b1, v1, s1, p1.keep k, l1⟩, ⟨b2, v2, s2, p2.keep k, l2⟩, bl.trans (k.mono bl.size), q1, q2, k1, k2⟩
def nx (K : Nat) : Nat := if K < 1024 then K + 1 else K
theorem fzb {base : Nat} {s : Nat} {v : Value} {tr : TypeId} {n sz : Nat} {vs : List Value} (bl : Below w.heap.size w x) (hb : w.heap.size ≤ base) (hs : base ≤ s) (hr : x.ownsRow base tr sz v n vs) (hf : Fz s v x y) : Below w.heap.size w y :=
 bl.trans (hf.below bl.size (Nat.le_trans hb hs) (fun k hk => Nat.le_trans hb (hr.lt k hk).1))
theorem PD.pGate (h : PD w t r m K1 K2 Q1 Q2 x) : Calls Tryz.prog 7 #[.pointer (some ⟨t, 0, none⟩)] x fun e x' => e = .returned (if K1 < 1024 then tup 2 K1 3 K1 4 K1 0 else tup 0 0 0 0 0 0 201) ∧ PD w t r m (nx K1) K2 Q1 Q2 x' ∧ Ok2 94 67 x x' := by
 have h0 := h
 obtain ⟨⟨b1, v1, s1, p1, l1⟩, ⟨b2, v2, s2, p2, l2⟩, bl, q1, q2, k1, k2⟩ := h
 unfold nx
 by_cases hK : K1 < 1024
 ·rw [if_pos hK, if_pos hK]
  exact (Gate_ok p1 hK).mono fun e x' ⟨he, h1, h2⟩ => ⟨he, ⟨⟨b1, v1, s1, h1, l1⟩, ⟨b2, v2, s2, p2.fz2 p1 (Fz.ofG h2), l2⟩, fzb bl l1 p1.bs p1.row (Fz.ofG h2), q1, q2, hK, k2⟩, Ok2.of (Fz.ofG h2) p1.h p1.row⟩
 ·rw [if_neg hK, if_neg hK]
  exact (Gate_full p1 (by omega)).mono fun e x' ⟨he, hw⟩ => ⟨he, h0.keep hw, Ok2.bel hw⟩
theorem PD.dGate (h : PD w t r m K1 K2 Q1 Q2 x) : Calls Tryz.prog 8 #[.pointer (some ⟨r, 0, none⟩)] x fun e x' => e = .returned (if K2 < 1024 then tup 2 K2 3 K2 4 K2 0 else tup 0 0 0 0 0 0 201) ∧ PD w t r m K1 (nx K2) Q1 Q2 x' ∧ Ok2 79 69 x x' := by
 have h0 := h
 obtain ⟨⟨b1, v1, s1, p1, l1⟩, ⟨b2, v2, s2, p2, l2⟩, bl, q1, q2, k1, k2⟩ := h
 unfold nx
 by_cases hK : K2 < 1024
 ·rw [if_pos hK, if_pos hK]
  exact (dGate_ok p2 hK).mono fun e x' ⟨he, h1, h2⟩ => ⟨he, ⟨⟨b1, v1, s1, p1.fz2 p2 (Fz.ofG h2), l1⟩, ⟨b2, v2, s2, h1, l2⟩, fzb bl l2 p2.bs p2.row (Fz.ofG h2), q1, q2, k1, hK⟩, Ok2.of (Fz.ofG h2) p2.h p2.row⟩
 ·rw [if_neg hK, if_neg hK]
  exact (dGate_full p2 (by omega)).mono fun e x' ⟨he, hw⟩ => ⟨he, h0.keep hw, Ok2.bel hw⟩
def rqE (m K : Nat) (Q : List (List Tm)) (X : List Tm) : Int := if nm m K X.length (ft X) = true then (if Q.length < 4096 then 0 else 201) else 200
def rqQ (m K : Nat) (Q : List (List Tm)) (X : List Tm) : List (List Tm) := if nm m K X.length (ft X) = true ∧ Q.length < 4096 then Q ++ [X] else Q
theorem PD.pRequire (h : PD w t r m K1 K2 Q1 Q2 x) (hT : Tb w) (P : Option Addr) (n c : Nat) (f : Nat → Trm) (hn : n ≤ 2932031007402) (hf : ∀ k, k < n → (f k).a.ok) (hL : Lt x P n f) : Calls Tryz.prog 9 #[.pointer (some ⟨t, 0, none⟩), .slice P n c] x fun e x' => e = .returned (.int .i64 (rqE m K1 Q1 (lf Sm.L (glL n f)))) ∧ PD w t r m K1 K2 (rqQ m K1 Q1 (lf Sm.L (glL n f))) Q2 x' ∧ Ok2 94 67 x x' := by
 have h0 := h
 obtain ⟨⟨b1, v1, s1, p1, l1⟩, ⟨b2, v2, s2, p2, l2⟩, bl, q1, q2, k1, k2⟩ := h
 unfold rqE rqQ
 cases hw : nm m K1 (lf Sm.L (glL n f)).length (ft (lf Sm.L (glL n f))) with
 | false =>
  rw [if_neg (by simp), if_neg (by simp)]
  exact (Require_wire p1 (hT.keep bl) P n c f hn hf hL hw).mono fun e x' ⟨he, hb⟩ => ⟨he, h0.keep hb, Ok2.bel hb⟩
 | true =>
  rw [if_pos rfl]
  by_cases hq : Q1.length < 4096
  ·rw [if_pos hq, if_pos ⟨rfl, hq⟩]
   exact (Require_ok p1 (hT.keep bl) P n c f hn hf hL hw hq).mono fun e x' ⟨he, v', u, h1, h2, _⟩ => ⟨he, ⟨⟨b1, v', _, h1, l1⟩, ⟨b2, v2, s2, p2.fz2 p1 h2, l2⟩, fzb bl l1 p1.bs p1.row h2, by rw [List.length_append]; simp; omega, q2, k1, k2⟩, Ok2.of h2 p1.h p1.row⟩
  ·rw [if_neg hq, if_neg (fun e => hq e.2)]
   exact (Require_full p1 (hT.keep bl) P n c f hn hf hL hw (by omega)).mono fun e x' ⟨he, hb⟩ => ⟨he, h0.keep hb, Ok2.bel hb⟩
theorem PD.dRequire (h : PD w t r m K1 K2 Q1 Q2 x) (P : Option Addr) (c : Nat) (Y : List Tm) (hn : Y.length ≤ 2932031007400) (hL : Lt x P Y.length (ft Y)) : Calls Tryz.prog 10 #[.pointer (some ⟨r, 0, none⟩), .slice P Y.length c] x fun e x' => e = .returned (.int .i64 (rqE m K2 Q2 (lf Sm.L Y))) ∧ PD w t r m K1 K2 Q1 (rqQ m K2 Q2 (lf Sm.L Y)) x' ∧ Ok2 79 69 x x' := by
 have h0 := h
 obtain ⟨⟨b1, v1, s1, p1, l1⟩, ⟨b2, v2, s2, p2, l2⟩, bl, q1, q2, k1, k2⟩ := h
 unfold rqE rqQ
 cases hw : nm m K2 (lf Sm.L Y).length (ft (lf Sm.L Y)) with
 | false =>
  rw [if_neg (by simp), if_neg (by simp)]
  exact (dRequire_wire p2 P c Y hn hL hw).mono fun e x' ⟨he, hb⟩ => ⟨he, h0.keep hb, Ok2.bel hb⟩
 | true =>
  rw [if_pos rfl]
  by_cases hq : Q2.length < 4096
  ·rw [if_pos hq, if_pos ⟨rfl, hq⟩]
   exact (dRequire_ok p2 P c Y hn hL hw hq).mono fun e x' ⟨he, v', u, h1, h2, _⟩ => ⟨he, ⟨⟨b1, v1, s1, p1.fz2 p2 h2, l1⟩, ⟨b2, v', _, h1, l2⟩, fzb bl l2 p2.bs p2.row h2, q1, by rw [List.length_append]; simp; omega, k1, k2⟩, Ok2.of h2 p2.h p2.row⟩
  ·rw [if_neg hq, if_neg (fun e => hq e.2)]
   exact (dRequire_full p2 P c Y hn hL hw (by omega)).mono fun e x' ⟨he, hb⟩ => ⟨he, h0.keep hb, Ok2.bel hb⟩
end
theorem pd_new {w x y z : World} {m : Nat} (hm : m ≤ 16) (bl : Below w.heap.size w x) (h1 : Nu x x.heap.size m m y) (h2 : NuD y y.heap.size m m z) : PD w x.heap.size y.heap.size m m m (enl m) (enl m) z := by
 obtain ⟨P1, c1, s1, p1, b1⟩ := h1
 obtain ⟨P2, c2, s2, p2, b2⟩ := h2
 have e := enl_len m
 exact ⟨⟨_, _, _, p1.keep b2, bl.size⟩, ⟨_, _, _, p2, Nat.le_trans bl.size b1.size⟩, bl.trans ((b1.mono bl.size).trans (b2.mono (Nat.le_trans bl.size b1.size))), by omega, by omega, by omega, by omega⟩
theorem buildR6 (qk qi : Int) (r : E4) (w : World) : (Instr.buildSlice 69 1 #[(0, .agg #[.int .i64 qk, .int .i64 qi, .int .u64 r.x0, .int .u64 r.x1, .int .u64 r.x2, .int .u64 r.x3])]).run Tryz.prog w = .ok (.slice (some ⟨w.heap.size, 0, none⟩) 1 1) (w.alloc (.cells #[.int .i64 qk, .int .i64 qi, .int .u64 r.x0, .int .u64 r.x1, .int .u64 r.x2, .int .u64 r.x3] 86)) := by kernel_rfl
theorem wp_buildR6 {w : World} {o : Oper} {a : Act} {K : Act → World → Prop} {Q : Exit → Act → World → Prop} (x0 : Operand) (ho : o.op = .buildSlice 69 1 #[(0, x0)]) (qk qi : Int) (r : E4) (h0 : a.eval x0 = .agg #[.int .i64 qk, .int .i64 qi, .int .u64 r.x0, .int .u64 r.x1, .int .u64 r.x2, .int .u64 r.x3]) (h : ∀ (tb : Nat) (wq : World), tb = w.heap.size → wq = w.alloc (.cells #[.int .i64 qk, .int .i64 qi, .int .u64 r.x0, .int .u64 r.x1, .int .u64 r.x2, .int .u64 r.x3] 86) → K (a.put o.dst (.slice (some ⟨tb, 0, none⟩) 1 1)) wq) : o.wp Tryz.prog a w K Q := by
 have hr := buildR6 qk qi r w
 unfold Oper.wp execOp
 simp only [ho, Sem.run_bind, Sem.run_pure, Result.andThen_ok, List.map_toArray, List.map_cons, List.map_nil, h0, hr]
 exact h _ _ rfl rfl
theorem glL_len (n : Nat) (f : Nat → Trm) : (glL n f).length = n := by simp [glL]
end Ci
end Go.Proofs.YtnkaolobcglmlaaGreatDoor
