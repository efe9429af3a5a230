import Derived.Test.YtljmgfclhbadjaaGreatDoorTk
import Derived.Test.YtljmgfclhbadjaaGreatDoorDkx
import Derived.Maps.AppendAt
namespace Go.Proofs.YtljmgfclhbadjaaGreatDoor
open Go.RowKit
set_option linter.unusedVariables false
set_option linter.unusedSimpArgs false
open Cm (Wr Tm co bf Ls lf ins Eqm)
namespace Ci
set_option maxRecDepth 100000
set_option maxHeartbeats 16000000
section
variable {S : Nat → Prop} {d m K q b : Nat} {Q : List (List Tm)} {vv : Value} {vs : List Value} {R : Nat → Sl} {e : Int} {x y : World}
theorem dhas1 (h : Dz S d m K Q q b vv vs R e x) (i : Int) (h0 : i = 0) :
  Calls Tryz.prog 240 #[.pointer (some ⟨d, 0, none⟩), .agg #[.int .i64 1, .int .i64 i]] x fun e' w' => e' = .returned (.bool true) ∧ Below x.heap.size x w' := by
 subst h0
 have BL := bl_alloc x (.cells #[.int .i64 1, .int .i64 0] 52)
 have H0 := Hn (h.keep BL)
 have B0 := Hn BL
 have WC := Hn (show (x.alloc (.cells #[.int .i64 1, .int .i64 0] 52)).cell? ⟨x.heap.size, 0, none⟩ = some (.int .i64 1) ∧ (x.alloc (.cells #[.int .i64 1, .int .i64 0] 52)).cell? ⟨x.heap.size, 1, none⟩ = some (.int .i64 0) from ⟨cell_of_row _ _ 0 _ _ (0, 0) (heap_alloc_new x _), cell_of_row _ _ 1 _ _ (0, 0) (heap_alloc_new x _)⟩)
 clear h BL
 go_enter Tryz.func240, Tryz.ntmps240
 go_upto_region 1 with fail
 obtain ⟨x1, hx1⟩ : ∃ x1, x.alloc (.cells #[.int .i64 1, .int .i64 0] 52) = x1 := ⟨_, rfl⟩
 rw [hx1] at H0 B0 WC ⊢
 clear hx1
 have a0 := WC.out.1
 have a1 := WC.out.2
 go_wp2_with fail
 exact bodyPost_ret (v := .bool true) (by simp [results, Tryz.results240, go_sem]) rfl ⟨rfl, B0.out⟩
theorem dhas2 (h : Dz S d m K Q q b vv vs R e x) (i : Int) (h0 : 0 ≤ i) (h1 : i < (K : Int)) :
  Calls Tryz.prog 240 #[.pointer (some ⟨d, 0, none⟩), .agg #[.int .i64 2, .int .i64 i]] x fun e' w' => e' = .returned (.bool true) ∧ Below x.heap.size x w' := by
 have BL := bl_alloc x (.cells #[.int .i64 2, .int .i64 i] 52)
 have H0 := Hn (h.keep BL)
 have B0 := Hn BL
 have WC := Hn (show (x.alloc (.cells #[.int .i64 2, .int .i64 i] 52)).cell? ⟨x.heap.size, 0, none⟩ = some (.int .i64 2) ∧ (x.alloc (.cells #[.int .i64 2, .int .i64 i] 52)).cell? ⟨x.heap.size, 1, none⟩ = some (.int .i64 i) from ⟨cell_of_row _ _ 0 _ _ (0, 0) (heap_alloc_new x _), cell_of_row _ _ 1 _ _ (0, 0) (heap_alloc_new x _)⟩)
 have L0 := Hn h0
 have L1 := Hn h1
 clear h0 h1
 clear h BL
 go_enter Tryz.func240, Tryz.ntmps240
 go_upto_region 1 with fail
 obtain ⟨x1, hx1⟩ : ∃ x1, x.alloc (.cells #[.int .i64 2, .int .i64 i] 52) = x1 := ⟨_, rfl⟩
 rw [hx1] at H0 B0 WC ⊢
 clear hx1
 have a0 := WC.out.1
 have a1 := WC.out.2
 go_upto_region 7 with fail
 refine has7 _ d q (x.heap.size) K i _ _ _ _ _ _ _ _ _ _ _ _ _ _ _ _ _ _ _ _ _ _ _ _ _ _ _ _ _ _ _ _ _ _ _ _ _ _ _ _ _ _ x1 WC.out.2 (H0.out.c 0) L0 L1 (Hn (fun yy hb => (Gates_any (H0.out.keep hb).sy).mono (fun e' w' h => ⟨h.1, by rw [h.2]; exact Below.refl _ _⟩))) (Hn ?_)
 intro w1 hb1
 have B1 := Hn hb1
 clear hb1
 go_wp2_with fail
 exact bodyPost_ret (v := .bool true) (by simp [results, Tryz.results240, go_sem]) rfl ⟨rfl, (below_tr B0.out (B1.out.mono B0.out.size))⟩
theorem dhas3 (h : Dz S d m K Q q b vv vs R e x) (i : Int) (h0 : 0 ≤ i) (h1 : i < (K : Int)) :
  Calls Tryz.prog 240 #[.pointer (some ⟨d, 0, none⟩), .agg #[.int .i64 3, .int .i64 i]] x fun e' w' => e' = .returned (.bool true) ∧ Below x.heap.size x w' := by
 have BL := bl_alloc x (.cells #[.int .i64 3, .int .i64 i] 52)
 have H0 := Hn (h.keep BL)
 have B0 := Hn BL
 have WC := Hn (show (x.alloc (.cells #[.int .i64 3, .int .i64 i] 52)).cell? ⟨x.heap.size, 0, none⟩ = some (.int .i64 3) ∧ (x.alloc (.cells #[.int .i64 3, .int .i64 i] 52)).cell? ⟨x.heap.size, 1, none⟩ = some (.int .i64 i) from ⟨cell_of_row _ _ 0 _ _ (0, 0) (heap_alloc_new x _), cell_of_row _ _ 1 _ _ (0, 0) (heap_alloc_new x _)⟩)
 have L0 := Hn h0
 have L1 := Hn h1
 clear h0 h1
 clear h BL
 go_enter Tryz.func240, Tryz.ntmps240
 go_upto_region 1 with fail
 obtain ⟨x1, hx1⟩ : ∃ x1, x.alloc (.cells #[.int .i64 3, .int .i64 i] 52) = x1 := ⟨_, rfl⟩
 rw [hx1] at H0 B0 WC ⊢
 clear hx1
 have a0 := WC.out.1
 have a1 := WC.out.2
 go_upto_region 7 with fail
 refine has7 _ d q (x.heap.size) K i _ _ _ _ _ _ _ _ _ _ _ _ _ _ _ _ _ _ _ _ _ _ _ _ _ _ _ _ _ _ _ _ _ _ _ _ _ _ _ _ _ _ x1 WC.out.2 (H0.out.c 0) L0 L1 (Hn (fun yy hb => (Gates_any (H0.out.keep hb).sy).mono (fun e' w' h => ⟨h.1, by rw [h.2]; exact Below.refl _ _⟩))) (Hn ?_)
 intro w1 hb1
 have B1 := Hn hb1
 clear hb1
 go_wp2_with fail
 exact bodyPost_ret (v := .bool true) (by simp [results, Tryz.results240, go_sem]) rfl ⟨rfl, (below_tr B0.out (B1.out.mono B0.out.size))⟩
theorem dhas4 (h : Dz S d m K Q q b vv vs R e x) (i : Int) (h0 : 0 ≤ i) (h1 : i < (K : Int)) :
  Calls Tryz.prog 240 #[.pointer (some ⟨d, 0, none⟩), .agg #[.int .i64 4, .int .i64 i]] x fun e' w' => e' = .returned (.bool true) ∧ Below x.heap.size x w' := by
 have BL := bl_alloc x (.cells #[.int .i64 4, .int .i64 i] 52)
 have H0 := Hn (h.keep BL)
 have B0 := Hn BL
 have WC := Hn (show (x.alloc (.cells #[.int .i64 4, .int .i64 i] 52)).cell? ⟨x.heap.size, 0, none⟩ = some (.int .i64 4) ∧ (x.alloc (.cells #[.int .i64 4, .int .i64 i] 52)).cell? ⟨x.heap.size, 1, none⟩ = some (.int .i64 i) from ⟨cell_of_row _ _ 0 _ _ (0, 0) (heap_alloc_new x _), cell_of_row _ _ 1 _ _ (0, 0) (heap_alloc_new x _)⟩)
 have L0 := Hn h0
 have L1 := Hn h1
 clear h0 h1
 clear h BL
 go_enter Tryz.func240, Tryz.ntmps240
 go_upto_region 1 with fail
 obtain ⟨x1, hx1⟩ : ∃ x1, x.alloc (.cells #[.int .i64 4, .int .i64 i] 52) = x1 := ⟨_, rfl⟩
 rw [hx1] at H0 B0 WC ⊢
 clear hx1
 have a0 := WC.out.1
 have a1 := WC.out.2
 go_upto_region 7 with fail
 refine has7 _ d q (x.heap.size) K i _ _ _ _ _ _ _ _ _ _ _ _ _ _ _ _ _ _ _ _ _ _ _ _ _ _ _ _ _ _ _ _ _ _ _ _ _ _ _ _ _ _ x1 WC.out.2 (H0.out.c 0) L0 L1 (Hn (fun yy hb => (Gates_any (H0.out.keep hb).sy).mono (fun e' w' h => ⟨h.1, by rw [h.2]; exact Below.refl _ _⟩))) (Hn ?_)
 intro w1 hb1
 have B1 := Hn hb1
 clear hb1
 go_wp2_with fail
 exact bodyPost_ret (v := .bool true) (by simp [results, Tryz.results240, go_sem]) rfl ⟨rfl, (below_tr B0.out (B1.out.mono B0.out.size))⟩
theorem dhas5 (h : Dz S d m K Q q b vv vs R e x) (i : Int) (h0 : 0 ≤ i) (h1 : i < (m : Int)) :
  Calls Tryz.prog 240 #[.pointer (some ⟨d, 0, none⟩), .agg #[.int .i64 5, .int .i64 i]] x fun e' w' => e' = .returned (.bool true) ∧ Below x.heap.size x w' := by
 have BL := bl_alloc x (.cells #[.int .i64 5, .int .i64 i] 52)
 have H0 := Hn (h.keep BL)
 have B0 := Hn BL
 have WC := Hn (show (x.alloc (.cells #[.int .i64 5, .int .i64 i] 52)).cell? ⟨x.heap.size, 0, none⟩ = some (.int .i64 5) ∧ (x.alloc (.cells #[.int .i64 5, .int .i64 i] 52)).cell? ⟨x.heap.size, 1, none⟩ = some (.int .i64 i) from ⟨cell_of_row _ _ 0 _ _ (0, 0) (heap_alloc_new x _), cell_of_row _ _ 1 _ _ (0, 0) (heap_alloc_new x _)⟩)
 have L0 := Hn h0
 have L1 := Hn h1
 clear h0 h1
 clear h BL
 go_enter Tryz.func240, Tryz.ntmps240
 go_upto_region 1 with fail
 obtain ⟨x1, hx1⟩ : ∃ x1, x.alloc (.cells #[.int .i64 5, .int .i64 i] 52) = x1 := ⟨_, rfl⟩
 rw [hx1] at H0 B0 WC ⊢
 clear hx1
 have a0 := WC.out.1
 have a1 := WC.out.2
 go_upto_region 9 with fail
 refine has9 _ d q (x.heap.size) m i _ _ _ _ _ _ _ _ _ _ _ _ _ _ _ _ _ _ _ _ _ _ _ _ _ _ _ _ _ _ _ _ _ _ _ _ _ _ _ _ _ _ x1 WC.out.2 (H0.out.c 0) L0 L1 (Hn (fun yy hb => (Values_any (H0.out.keep hb).sy).mono (fun e' w' h => ⟨h.1, by rw [h.2]; exact Below.refl _ _⟩))) (Hn ?_)
 intro w1 hb1
 have B1 := Hn hb1
 clear hb1
 go_wp2_with fail
 exact bodyPost_ret (v := .bool true) (by simp [results, Tryz.results240, go_sem]) rfl ⟨rfl, (below_tr B0.out (B1.out.mono B0.out.size))⟩
theorem dhas_any (h : Dz S d m K Q q b vv vs R e x) (r : Wr) (hr : hs m K r = true) :
  Calls Tryz.prog 240 #[.pointer (some ⟨d, 0, none⟩), .agg #[.int .i64 r.1, .int .i64 r.2]] x fun e' w' => e' = .returned (.bool true) ∧ Below x.heap.size x w' := by
 obtain ⟨k, i⟩ := r
 simp only [hs, Bool.and_eq_true, decide_eq_true_eq] at hr
 obtain ⟨h1, h6, h0, hc⟩ := hr
 have hk : k = 1 ∨ k = 2 ∨ k = 3 ∨ k = 4 ∨ k = 5 := by omega
 rcases hk with rfl | rfl | rfl | rfl | rfl
 ·exact dhas1 h i (by have : i < 1 := hc; omega)
 ·exact dhas2 h i h0 hc
 ·exact dhas3 h i h0 hc
 ·exact dhas4 h i h0 hc
 ·exact dhas5 h i h0 hc
end
end Ci
end Go.Proofs.YtljmgfclhbadjaaGreatDoor
namespace Go.Proofs.YtljmgfclhbadjaaGreatDoor
open Go.RowKit
set_option linter.unusedVariables false
set_option linter.unusedSimpArgs false
open Cm (Wr Tm co bf Ls lf ins Eqm)
namespace Ci
set_option maxRecDepth 100000
set_option maxHeartbeats 16000000
section
variable {S : Nat → Prop} {d m K q b : Nat} {Q : List (List Tm)} {vv : Value} {vs : List Value} {R : Nat → Sl} {e : Int} {x y : World}
theorem dlacks1_any (h : Dz S d m K Q q b vv vs R e x) (B : Nat) (hB : x.cell? ⟨B, 0, none⟩ = some (.pointer (some ⟨d, 0, none⟩))) (t : Trm) (ht : hs m K t.q = true) : Calls Tryz.prog 239 #[.agg #[.int .i64 t.q.1, .int .i64 t.q.2, .int .u64 t.a.x0, .int .u64 t.a.x1, .int .u64 t.a.x2, .int .u64 t.a.x3], .pointer (some ⟨B, 0, none⟩)] x fun e' w' => e' = .returned (.bool false) ∧ Below x.heap.size x w' := by
 obtain ⟨⟨qk, qi⟩, a⟩ := t
 simp only
 have HA := Hn (bl_alloc x (.cells #[.int .i64 qk, .int .i64 qi, .int .u64 a.x0, .int .u64 a.x1, .int .u64 a.x2, .int .u64 a.x3] 55))
 have C := Hn (dhas_any (h.keep HA.out) (qk, qi) ht)
 have hB2 := cell_keep hB HA.out
 simp only at C
 clear h hB ht
 go_enter Tryz.func239, Tryz.ntmps239
 go_wp2_with (go_at_call 240; refine C.out.mono ?_; rintro e' w1 ⟨rfl, hb⟩; have B1 := Hn (bl_trans HA.out hb); clear hb)
 refine bodyPost_ret (v := .bool false) (by simp [results, Tryz.results239, go_sem]) rfl ⟨rfl, B1.out⟩
end
end Ci
end Go.Proofs.YtljmgfclhbadjaaGreatDoor
namespace Go.Proofs.YtljmgfclhbadjaaGreatDoor
open Go.RowKit
set_option linter.unusedVariables false
set_option linter.unusedSimpArgs false
open Cm (Wr Tm co bf Ls lf ins Eqm)
namespace Ci
set_option maxRecDepth 100000
set_option maxHeartbeats 16000000
section
variable {S : Nat → Prop} {d m K q b : Nat} {Q : List (List Tm)} {vv : Value} {vs : List Value} {R : Nat → Sl} {e : Int} {x y : World}
theorem dindex_any (h : Dz S d m K Q q b vv vs R e x) (B : Nat) (hB : x.cell? ⟨B, 0, none⟩ = some (.pointer (some ⟨d, 0, none⟩))) (P : Option Addr) (n c : Nat) (f : Nat → Trm) (hn : n ≤ 2932031007402) (hL : Lt x P n f) (hf : ∀ k, k < n → hs m K (f k).q = true) :
  Calls Tryz.prog 174 #[.slice P n c, .func (.func 239) #[] #[.pointer (some ⟨B, 0, none⟩)]] x fun e' w' => e' = .returned (.int .i64 (-1)) ∧ Below x.heap.size x w' := by
 have C := Hn (fun y (hy : Below x.heap.size x y) k (hk : k < n) => dlacks1_any (h.keep hy) B (cell_keep hB hy) (f k) (hf k hk))
 have HL := Hn hL
 have HN := Hn hn
 have A0 : Hid (Below x.heap.size x x) := Hn (Below.refl _ _)
 clear h hB hL hn hf
 go_enter Tryz.func174, Tryz.ntmps174
 go_wp2_with fail
 go_loopw [8] (fun iv w' => ∃ i : Nat, i ≤ n ∧ iv = .int .i64 i ∧ Hid (Below x.heap.size x w')) (fun i _ => n - (intOf i).toNat)
 case atStart => exact ⟨0, by omega, rfl, A0⟩
 case round =>
  clear A0
  obtain ⟨i, hi, rfl, hA⟩ := hrel
  by_cases hin : i < n
  ·have i0 : (0 : Int) ≤ (i : Int) := by omega
   have i1 : (i : Int) < (n : Int) := by omega
   have w9 : IntKind.i64.wrap ((i : Int) + 1) = (i : Int) + 1 := IntWalk.i64_in _ (by have := HN.out; omega)
   obtain ⟨sb, so, e1, e2⟩ := HL.out
   obtain rfl := e1 (by omega)
   have rx := (e2 (by omega)).keep hA.out
   have x0 := rx.c0 i hin
   have x1 := rx.c1 i hin
   have x2 := rx.c2 i hin
   have x3 := rx.c3 i hin
   have x4 := rx.c4 i hin
   have x5 := rx.c5 i hin
   have C1 := Hn (C.out wr hA.out i hin)
   clear rx e1 e2
   generalize f i = fi at *
   obtain ⟨⟨qk, qi⟩, a⟩ := fi
   simp only at x0 x1 x2 x3 x4 x5 C1
   go_wp2_with (go_at_call 239; refine C1.out.mono ?_; rintro e' w1 ⟨rfl, hb⟩; have B1 := Hn (bl_trans hA.out hb); clear hb)
   go_roundw
   case rel => exact ⟨i + 1, by omega, by go_num, B1⟩
   case measure => simp [intOf]; omega
  ·obtain rfl : i = n := by omega
   have lq : ¬ (i : Int) < (i : Int) := by omega
   go_wp2_with fail
   refine bodyPost_ret (v := .int .i64 (-1)) (by simp [results, Tryz.results174, go_sem]) rfl ⟨rfl, hA.out⟩
theorem dcontains_any (h : Dz S d m K Q q b vv vs R e x) (B : Nat) (hB : x.cell? ⟨B, 0, none⟩ = some (.pointer (some ⟨d, 0, none⟩))) (P : Option Addr) (n c : Nat) (f : Nat → Trm) (hn : n ≤ 2932031007402) (hL : Lt x P n f) (hf : ∀ k, k < n → hs m K (f k).q = true) :
  Calls Tryz.prog 98 #[.slice P n c, .func (.func 239) #[] #[.pointer (some ⟨B, 0, none⟩)]] x fun e' w' => e' = .returned (.bool false) ∧ Below x.heap.size x w' := by
 have C := Hn (dindex_any h B hB P n c f hn hL hf)
 clear h hB hn hL hf
 go_enter Tryz.func98, Tryz.ntmps98
 go_wp2_with (go_at_call 174; refine C.out.mono ?_; rintro e' w1 ⟨rfl, hb⟩; have B1 := Hn hb; clear hb)
 refine bodyPost_ret (v := .bool false) (by simp [results, Tryz.results98, go_sem]) rfl ⟨rfl, B1.out⟩
end
end Ci
end Go.Proofs.YtljmgfclhbadjaaGreatDoor
namespace Go.Proofs.YtljmgfclhbadjaaGreatDoor
open Go.RowKit
set_option linter.unusedVariables false
set_option linter.unusedSimpArgs false
open Cm (Wr Tm co bf Ls lf ins Eqm)
namespace Ci
set_option maxRecDepth 100000
set_option maxHeartbeats 16000000
section
variable {S : Nat → Prop} {d m K q b : Nat} {Q : List (List Tm)} {vv : Value} {vs : List Value} {R : Nat → Sl} {e : Int} {x y : World}
theorem dlacks_any (h : Dz S d m K Q q b vv vs R e x) (P : Option Addr) (n c : Nat) (f : Nat → Trm) (hn : n ≤ 2932031007402) (hfo : ∀ k, k < n → (f k).a.ok) (hL : Lt x P n f) (hx : (lf Sm.L (glL n f)).length ≤ 2932031007402) (hf : ∀ z ∈ lf Sm.L (glL n f), hs m K z.1 = true) :
  Calls Tryz.prog 210 #[.pointer (some ⟨d, 0, none⟩), .slice P n c] x fun e' w' => e' = .returned (.bool false) ∧ Below x.heap.size x w' := by
 have BL := bl_alloc x (.cells #[.pointer (some ⟨d, 0, none⟩)] 33)
 have C0 := Hn (Least_lin P n c f _ (h.tq.1.keep BL) hn hfo (hL.keep BL))
 have H0 := Hn (h.keep BL)
 have HB := Hn (show (x.alloc (.cells #[.pointer (some ⟨d, 0, none⟩)] 33)).cell? ⟨x.heap.size, 0, none⟩ = some (.pointer (some ⟨d, 0, none⟩)) from cell_of_row _ _ 0 _ _ (0, 0) (heap_alloc_new x _))
 have B0 := Hn BL
 have HX := Hn hx
 have HF := Hn hf
 clear h BL hn hfo hL hx hf
 obtain ⟨X, hX⟩ : ∃ X, lf Sm.L (glL n f) = X := ⟨_, rfl⟩
 rw [hX] at C0 HX HF
 clear hX
 go_enter Tryz.func210, Tryz.ntmps210
 go_wp2_with (first | (go_at_call 47; refine C0.out.mono ?_; rintro e' w1 ⟨v, rfl, hl⟩; obtain ⟨P1, c1, rfl, -⟩ := own_shT hl.1; have C1 := Hn (dcontains_any (H0.out.keep hl.2.1) x.heap.size (cell_keep HB.out hl.2.1) P1 X.length c1 (ft X) HX.out (own_lts hl.1) (fun k hk => by obtain ⟨z, hz, e⟩ := ft_mem hk; rw [e]; exact HF.out z hz)); have B1 := Hn hl.2.1; clear hl C0) | (go_at_call 98; refine C1.out.mono ?_; rintro e' w2 ⟨rfl, hb⟩; have B2 := Hn hb; clear hb))
 exact bodyPost_ret (v := .bool false) (by simp [results, Tryz.results210, go_sem]) rfl ⟨rfl, below_tr B0.out (bl_trans B1.out B2.out |>.mono B0.out.size)⟩
end
end Ci
end Go.Proofs.YtljmgfclhbadjaaGreatDoor
namespace Go.Proofs.YtljmgfclhbadjaaGreatDoor
open Go.RowKit
set_option linter.unusedVariables false
set_option linter.unusedSimpArgs false
open Cm (Wr Tm co bf Ls lf ins Eqm)
namespace Ci
set_option maxRecDepth 100000
set_option maxHeartbeats 16000000
theorem lf_selfZ {X : List Tm} (h : Ls Sm.L X) : lf Sm.L X = X := (Cm.lf_only L0 h (fun _ => rfl)).symm
theorem glft_atZ (X : List Tm) : glL X.length (ft X) = X.map fun x => (x.1, x.2 % Sm.L) := by
 apply List.ext_getElem
 ·simp [glL]
 ·intro i h1 h2
  have hi : i < X.length := by simpa [glL] using h1
  simp only [glL, List.getElem_map, List.getElem_range]
  rw [show (ft X i) = tmOf X[i] by unfold ft; rw [List.getD_eq_getElem?_getD, List.getElem?_eq_getElem hi]; rfl]
  simp [tmOf, lst_n]
theorem glft_lsZ {X : List Tm} (h : Ls Sm.L X) : glL X.length (ft X) = X := by
 rw [glft_atZ]
 apply List.ext_getElem
 ·simp
 ·intro i h1 h2
  simp only [List.getElem_map]
  have := h.nz X[i] (List.getElem_mem h2)
  exact Prod.ext rfl (Int.emod_eq_of_lt (by omega) this.2)
structure Zs (x : World) (v : Value) (X : List Tm) : Prop where
 own : x.ownsRow 0 55 6 v X.length (tls X)
 ls : Ls Sm.L X
 n : X.length ≤ 100000
theorem Zs.keep {x y : World} {v : Value} {X : List Tm} (h : Zs x v X) (hb : Below x.heap.size x y) : Zs y v X := ⟨own_keepT h.own hb, h.ls, h.n⟩
theorem Zs.sh {x : World} {v : Value} {X : List Tm} (h : Zs x v X) : ∃ P c, v = .slice P X.length c ∧ Lt x P X.length (ft X) := by
 obtain ⟨P, c, rfl, -⟩ := own_shT h.own
 exact ⟨P, c, rfl, own_lts h.own⟩
def Zl (x : World) (b n : Nat) (V : Nat → Value) (X : Nat → List Tm) : Prop := ∀ j, j < n → x.cell? ⟨b, j, none⟩ = some (V j) ∧ Zs x (V j) (X j)
theorem Zl.keep {x y : World} {b n : Nat} {V : Nat → Value} {X : Nat → List Tm} (h : Zl x b n V X) (hb : Below x.heap.size x y) : Zl y b n V X := fun j hj => ⟨cell_keep (h j hj).1 hb, (h j hj).2.keep hb⟩
section
variable {S : Nat → Prop} {d m K q b : Nat} {Q : List (List Tm)} {vv : Value} {vs : List Value} {R : Nat → Sl} {e : Int} {x y : World}
theorem dlacksZ (h : Dz S d m K Q q b vv vs R e x) {v : Value} {X : List Tm} (hz : Zs x v X) (hf : ∀ z ∈ X, hs m K z.1 = true) :
  Calls Tryz.prog 210 #[.pointer (some ⟨d, 0, none⟩), v] x fun e' w' => e' = .returned (.bool false) ∧ Below x.heap.size x w' := by
 obtain ⟨P, c, rfl, hl⟩ := hz.sh
 have eq := (glft_lsZ hz.ls)
 have e2 : lf Sm.L (glL X.length (ft X)) = X := by rw [eq, lf_selfZ hz.ls]
 have hn := hz.n
 exact dlacks_any h P X.length c (ft X) (by omega) (fun k hk => lst_ok _) hl (by rw [e2]; omega) (by rw [e2]; exact hf)
theorem dindexZ (h : Dz S d m K Q q b vv vs R e x) (lb n c : Nat) (V : Nat → Value) (X : Nat → List Tm) (hn : n ≤ 1000) (hL : Zl x lb n V X) (hf : ∀ j, j < n → ∀ z ∈ X j, hs m K z.1 = true) :
  Calls Tryz.prog 238 #[.slice (some ⟨lb, 0, none⟩) n c, .func (.func 210) #[.pointer (some ⟨d, 0, none⟩)] #[]] x fun e' w' => e' = .returned (.int .i64 (-1)) ∧ Below x.heap.size x w' := by
 have C := Hn (fun y (hy : Below x.heap.size x y) k (hk : k < n) => dlacksZ (h.keep hy) ((hL k hk).2.keep hy) (hf k hk))
 have HL := Hn hL
 have HN := Hn hn
 have A0 : Hid (Below x.heap.size x x) := Hn (Below.refl _ _)
 clear h hL hn hf
 go_enter Tryz.func238, Tryz.ntmps238
 go_wp2_with fail
 go_loopw [8] (fun iv w' => ∃ i : Nat, i ≤ n ∧ iv = .int .i64 i ∧ Hid (Below x.heap.size x w')) (fun i _ => n - (intOf i).toNat)
 case atStart => exact ⟨0, by omega, rfl, A0⟩
 case round =>
  clear A0
  obtain ⟨i, hi, rfl, hA⟩ := hrel
  by_cases hin : i < n
  ·have i0 : (0 : Int) ≤ (i : Int) := by omega
   have i1 : (i : Int) < (n : Int) := by omega
   have w9 : IntKind.i64.wrap ((i : Int) + 1) = (i : Int) + 1 := IntWalk.i64_in _ (by have := HN.out; omega)
   have x0 := cell_keep (HL.out i hin).1 hA.out
   obtain ⟨P1, c1, hv, -⟩ := (HL.out i hin).2.sh
   have C1 := Hn (C.out wr hA.out i hin)
   rw [hv] at C1 x0
   clear hv
   go_wp2_with (go_at_call 210; refine C1.out.mono ?_; rintro e' w1 ⟨rfl, hb⟩; have B1 := Hn (bl_trans hA.out hb); clear hb)
   go_roundw
   case rel => exact ⟨i + 1, by omega, by go_num, B1⟩
   case measure => simp [intOf]; omega
  ·obtain rfl : i = n := by omega
   have lq : ¬ (i : Int) < (i : Int) := by omega
   go_wp2_with fail
   refine bodyPost_ret (v := .int .i64 (-1)) (by simp [results, Tryz.results238, go_sem]) rfl ⟨rfl, hA.out⟩
theorem dcontainsZ (h : Dz S d m K Q q b vv vs R e x) (lb n c : Nat) (V : Nat → Value) (X : Nat → List Tm) (hn : n ≤ 1000) (hL : Zl x lb n V X) (hf : ∀ j, j < n → ∀ z ∈ X j, hs m K z.1 = true) :
  Calls Tryz.prog 209 #[.slice (some ⟨lb, 0, none⟩) n c, .func (.func 210) #[.pointer (some ⟨d, 0, none⟩)] #[]] x fun e' w' => e' = .returned (.bool false) ∧ Below x.heap.size x w' := by
 have C := Hn (dindexZ h lb n c V X hn hL hf)
 clear h hL hn hf
 go_enter Tryz.func209, Tryz.ntmps209
 go_wp2_with (go_at_call 238; refine C.out.mono ?_; rintro e' w1 ⟨rfl, hb⟩; have B1 := Hn hb; clear hb)
 refine bodyPost_ret (v := .bool false) (by simp [results, Tryz.results209, go_sem]) rfl ⟨rfl, B1.out⟩
end
end Ci
end Go.Proofs.YtljmgfclhbadjaaGreatDoor
namespace Go.Proofs.YtljmgfclhbadjaaGreatDoor
open Go.RowKit
set_option linter.unusedVariables false
set_option linter.unusedSimpArgs false
open Cm (Wr Tm co bf Ls lf ins Eqm)
namespace Ci
set_option maxRecDepth 100000
set_option maxHeartbeats 16000000
theorem corZ (x : World) (lb : Nat) (h0 : x.cell? ⟨lb, 0, none⟩ = some (.int .i64 0)) (h1 : x.cell? ⟨lb, 1, none⟩ = some (.int .i64 0)) :
  Calls Tryz.prog 257 #[.slice (some ⟨lb, 0, none⟩) 2 2] x fun e' w' => e' = .returned (.int .i64 0) ∧ w' = x := by
 go_enter Tryz.func257, Tryz.ntmps257
 go_wp2_with fail
 have hw : Hid (x = x) := Hn rfl
 go_loopw [8] (fun iv w' => ∃ i : Nat, i ≤ 2 ∧ iv = .int .i64 (i : Int) ∧ Hid (w' = x)) (fun i _ => 2 - (intOf i).toNat)
 case atStart => exact ⟨0, by omega, rfl, hw⟩
 case round =>
  clear hw
  obtain ⟨i, hi, rfl, hA⟩ := hrel
  have hA := hA.out
  subst hA
  have hc : i = 0 ∨ i = 1 ∨ i = 2 := by omega
  rcases hc with rfl | rfl | rfl
  ·go_wp2_with fail
   go_roundw
   case rel => exact ⟨1, by omega, by first | rfl | go_num, Hn trivial⟩
   case measure => simp [intOf]
  ·go_wp2_with fail
   go_roundw
   case rel => exact ⟨2, by omega, by first | rfl | go_num, Hn trivial⟩
   case measure => simp [intOf]
  ·go_wp2_with fail
   refine bodyPost_ret (v := .int .i64 0) (by simp [results, Tryz.results257, go_sem]) rfl ⟨rfl, rfl⟩
end Ci
end Go.Proofs.YtljmgfclhbadjaaGreatDoor
namespace Go.Proofs.YtljmgfclhbadjaaGreatDoor
open Go.RowKit
set_option linter.unusedVariables false
set_option linter.unusedSimpArgs false
open Cm (Wr Tm co bf Ls lf ins Eqm)
namespace Ci
set_option maxRecDepth 100000
set_option maxHeartbeats 16000000
section
variable {S : Nat → Prop} {d m K q b nb : Nat} {Q : List (List Tm)} {vv : Value} {vs : List Value} {R : Nat → Sl} {e : Int} {x y : World} {T : TypeId} {arr : Array Value}
theorem Ob.okd (h : Ob S b R x) (gb : x.grownBy y (some nb)) (hs : x.heap[nb]? = some (.cells arr T (0, 0))) (h1 : 53 ≠ T) (h2 : 43 ≠ T) : Ob S b R y :=
 ⟨(gb.block _ (h.lt _ h.pb) (fun e => by
  have e := Option.some.inj e
  have hb := h.bx
  rw [e, hs] at hb
  simp only [Option.some.injEq, Obj.cells.injEq] at hb
  exact h2 hb.2.1.symm)).trans h.bx, fun j hj => ⟨own_setK2 (h.rw j hj).own gb hs h1, (h.rw j hj).ok, (h.rw j hj).n⟩, h.dj, h.pr, h.pb, fun k hk => Nat.lt_of_lt_of_le (h.lt k hk) gb.size⟩
theorem Sy.okd (h : Sy 0 x q m K vv vs Q) (gb : x.grownBy y (some nb)) (hs : x.heap[nb]? = some (.cells arr T (0, 0))) (h1 : 113 ≠ T) (h2 : 50 ≠ T) (h3 : 55 ≠ T) : Sy 0 y q m K vv vs Q := by
 refine ⟨?_, own_setK2 h.row gb hs h2, fun i X hX => ?_, h.bs, h.sm⟩
 ·refine (gb.block q (Array.getElem?_eq_some_iff.1 h.h).1 (fun e => ?_)).trans h.h
  have e := Option.some.inj e
  have hb := h.h
  rw [e, hs] at hb
  simp only [Option.some.injEq, Obj.cells.injEq] at hb
  exact h1 hb.2.1.symm
 ·obtain ⟨w, a1, a2⟩ := h.ls i X hX
  exact ⟨w, a1, own_setK2 a2 gb hs h3⟩
def KeP (S : Nat → Prop) (d m K : Nat) (Q : List (List Tm)) (q b : Nat) (vv : Value) (vs : List Value) (R : Nat → Sl) (x : World) (e : Ending) (w' : World) : Prop := e = .returned (.tuple #[]) ∧ Dz S d m K Q q b vv vs R 0 w' ∧ Gs S x w'
theorem dkeep_any (h : Dz S d m K Q q b vv vs R 0 x) :
  Calls Tryz.prog 242 #[.pointer (some ⟨d, 0, none⟩), .int .i64 0] x fun e' w' => KeP S d m K Q q b vv vs R x e' w' := by
 have BL := bl_alloc x (.cells #[.int .i64 0, .int .i64 0] 56)
 have H0 := Hn (h.keep BL)
 have B0 := Hn BL
 have C0 := Hn (corZ (x.alloc (.cells #[.int .i64 0, .int .i64 0] 56)) x.heap.size (cell_of_row _ _ 0 _ _ (0, 0) (heap_alloc_new x _)) (cell_of_row _ _ 1 _ _ (0, 0) (heap_alloc_new x _)))
 have c5 := h.c 5
 have d5 := H0.out.c 5
 have f5 := frozen_of_row _ d 5 _ _ H0.out.hd
 clear h BL
 go_enter Tryz.func242, Tryz.ntmps242
 go_wp2_with (go_at_call 257; refine C0.out.mono ?_; rintro e' w1 ⟨rfl, hw⟩; subst hw; clear c5)
 clear C0 d5 f5
 obtain ⟨x1, hx1⟩ : ∃ x1, x.alloc (.cells #[.int .i64 0, .int .i64 0] 56) = x1 := ⟨_, rfl⟩
 rw [hx1] at H0 B0 ⊢
 clear hx1
 have hd := H0.out.hd
 have gb : x1.grownBy (x1.setCells d 5 [.int .i64 0]) (some d) := gb_setCells d [.int .i64 0] 5 x1
 have h5 := heap_setCell_same x1 d 5 _ 111 (.int .i64 0) hd
 have o1 := H0.out.ob.okd gb hd (by decide) (by decide)
 have s1 := H0.out.sy.okd gb hd (by decide) (by decide) (by decide)
 have g1 : Gs S x1 (x1.setCells d 5 [.int .i64 0]) := Gs.gb gb (fun b' e' => by rw [← Option.some.inj e']; exact H0.out.pd)
 exact bodyPost_end (v := .tuple #[]) (by simp [results, Tryz.results242, go_sem]) rfl ⟨rfl, ⟨h5, s1, H0.out.wk, o1, H0.out.tq.step g1 Sk.refl, H0.out.pd, H0.out.pq, H0.out.pv⟩, (Gs.bl B0.out).trans g1 Sk.refl⟩
end
end Ci
end Go.Proofs.YtljmgfclhbadjaaGreatDoor
namespace Go.Proofs.YtljmgfclhbadjaaGreatDoor
open Go.RowKit
set_option linter.unusedVariables false
set_option linter.unusedSimpArgs false
open Cm (Wr Tm co bf Ls lf ins Eqm)
namespace Ci
set_option maxRecDepth 100000
set_option maxHeartbeats 16000000
def unX : List Tm := lf Sm.L (glM ⟨1, 0, 0, 0⟩ 1 oneT)
def LvP (X : List Tm) (x : World) (e : Ending) (w' : World) : Prop := ∃ v, e = .returned v ∧ Lq x X v w'
theorem unit_any (x : World) (hT : Tb x) :
  Calls Tryz.prog 149 #[] x fun e' w' => LvP unX x e' w' := by
 have C0 := Hn (fix (R := ⟨1, 0, 0, 0⟩) (Int_any 1 x (by unfold Sm.Wd; omega)) one_is)
 have C1 := Hn (fun y (hb : Below x.heap.size x y) => Const_any ⟨1, 0, 0, 0⟩ y (hT.keep hb) (by refine ⟨?_, ?_, ?_, ?_⟩ <;> (unfold Sm.Wd; simp)))
 have c1 := C0.out
 simp only [E4.v] at c1
 replace C0 := Hn c1
 clear c1 hT
 go_enter Tryz.func149, Tryz.ntmps149
 go_wp2_with (first | (go_at_call 120; refine C0.out.mono ?_; rintro e' w1 ⟨rfl, hb⟩; have B1 := Hn hb; have C2 := Hn (C1.out w1 hb); clear hb C0) | (go_at_call 88; refine C2.out.mono ?_; rintro e' w2 ⟨v, rfl, hl⟩; have HL := Hn hl; clear hl))
 exact bodyPost_ret (v := v) (by simp [results, Tryz.results149, go_sem]) rfl ⟨v, rfl, own_monoT HL.out.1 B1.out.size, bl_trans B1.out HL.out.2.1, HL.out.2.2⟩
end Ci
end Go.Proofs.YtljmgfclhbadjaaGreatDoor
namespace Go.Proofs.YtljmgfclhbadjaaGreatDoor
open Go.RowKit
set_option linter.unusedVariables false
set_option linter.unusedSimpArgs false
open Cm (Wr Tm co bf Ls lf ins Eqm)
namespace Ci
set_option maxRecDepth 100000
set_option maxHeartbeats 16000000
def RqA (base : Nat) (w : World) (s m Kg : Nat) (v : Value) (vs : List Value) (Q : List (List Tm)) (X : List Tm) (w' : World) : Prop := ∃ v' u, Sy base w' s m Kg v' (vs ++ [u]) (Q ++ [X]) ∧ Fz s v w w' ∧ (∀ k, u.ownBlock = some k → w.heap.size ≤ k) ∧ ∀ k, v'.ownBlock = some k → v.ownBlock = some k ∨ w.heap.size ≤ k
theorem v4_of {w w2 : World} {o : Obj} {v4 v : Value} (hb : Below w.heap.size w w2) (h : v4.ownBlock = v.ownBlock ∨ v4.ownBlock = some (w2.alloc o).heap.size) : ∀ k, v4.ownBlock = some k → v.ownBlock = some k ∨ w.heap.size ≤ k := fun k hk => by
 rcases h with e | e
 ·rw [e] at hk; exact .inl hk
 ·rw [e] at hk
  have h9 := Option.some.inj hk
  have h8 := hb.size
  simp at h9
  exact .inr (by omega)
theorem Require_okA {base : Nat} {w : World} {s m Kg : Nat} {v : Value} {vs : List Value} {Q : List (List Tm)} (h : Sy base w s m Kg v vs Q) (hT : Tb w) (P : Option Addr) (n c : Nat) (f : Nat → Trm) (hn : n ≤ 2932031007402) (hf : ∀ k, k < n → (f k).a.ok) (hL : Lt w P n f) (hw : nm m Kg (lf Sm.L (glL n f)).length (ft (lf Sm.L (glL n f))) = true) (hq : Q.length < 4096) :
  Calls Tryz.prog 20 #[.pointer (some ⟨s, 0, none⟩), .slice P n c] w fun e w' => e = .returned (.int .i64 0) ∧ RqA base w s m Kg v vs Q (lf Sm.L (glL n f)) w' := by
 have C0 := Hn (none_any h)
 have C1 := Hn (Least_lin P n c f w hT hn hf hL)
 have XL := Hn (lf_len_le (glL n f))
 have GL : Hid ((glL n f).length = n) := Hn (by simp [glL])
 generalize lf Sm.L (glL n f) = X at *
 have C2 := Hn (fun y P' c' (hy : Below w.heap.size w y) (ho : y.ownsRow w.heap.size 55 6 (.slice P' X.length c') X.length (tls X)) => names_any (h.keep hy) P' X.length c' (ft X) (by have := XL.out; have := GL.out; omega) (own_lts ho))
 rw [hw] at C2
 have HS := Hn h
 obtain ⟨Pv, cv, hv, hlc, hpv⟩ := h.shape
 have HQ := Hn hq
 clear hT hn hf hL hw h hlc hpv hq
 go_enter Tryz.func20, Tryz.ntmps20
 go_upto_region 4 with (first | (go_at_call 43; refine C0.out.mono ?_; rintro e w0 ⟨rfl, rfl⟩) | (go_at_call 47; refine C1.out.mono ?_; rintro e w1 ⟨u, rfl, hq1⟩; have Q1 := Hn hq1; clear hq1))
 clear C0 C1
 obtain ⟨P1, c1, e1, _, _⟩ := own_shT Q1.out.1
 subst e1
 have C3 := Hn (C2.out w1 P1 c1 Q1.out.2.1 Q1.out.1)
 clear C2
 go_upto_region 6 with (first | (go_at_call 48; refine C3.out.mono ?_; rintro e w2 ⟨rfl, hb⟩; have B2 := Hn (bl_trans Q1.out.2.1 hb); have B3 := Hn hb; clear hb))
 clear C3
 have s2 := HS.out.keep B2.out
 have k2 := s2.c2
 have z2 := s2.fz 2
 have QL : Hid (Q.length ≤ 4398046510976 ∨ True) := Hn (.inr trivial)
 subst hv
 have l9 : ¬ (4096 : Int) ≤ (Q.length : Int) := by have := HQ.out; omega
 have O2 := Hn s2.row
 have HI := Hn llinfo
 have HZ0 : Hid ((Tryz.prog.info? 50).get!.zero = some (.slice none 0 0)) := Hn (by kernel_rfl)
 have HZ1 : Hid ((Tryz.prog.info? 50).get!.size = 1) := Hn (by kernel_rfl)
 have HZ2 : Hid ((Tryz.prog.info? 50).get!.bytes = 24) := Hn (by kernel_rfl)
 have T1 : Hid (Tryz.prog.underlying 48 = some (.slice 50)) := Hn (by kernel_rfl)
 have BS : Hid (base ≤ w2.heap.size) := Hn (by have := s2.lt; have := s2.bs; omega)
 have UO := Hn (own_keepT Q1.out.1 B3.out)
 have s2h := Hn s2.h
 clear s2
 generalize hnq : Q.length = nq at *
 have HNQ := Hn hnq
 generalize hxl : X.length = xl at *
 have HXL := Hn hxl
 clear hnq hxl
 go_upto_region 8 with fail
 go_wp2_with (first | (at_builtin; have x1 := own_keepT O2.out (bl_alloc w2 (.cells #[.slice P1 xl c1] 50)); have x2 := cells_newT w2 [.slice P1 xl c1] 50; have x3 : ∀ u ∈ ([.slice P1 xl c1] : List Value), u.oneCell' = true := (by simp [Value.oneCell']); have x4 : nq + 1 ≤ maxLen := (by have := HQ.out; unfold maxLen; omega); have x5 : (nq + 1) * 24 ≤ 140737488355328 := (by have := HQ.out; omega); have x6 : base ≤ (w2.alloc (.cells #[.slice P1 xl c1] 50)).heap.size := (by have := BS.out; simp; omega); refine wpList_append_own_at _ rfl _ _ 48 rfl base 50 _ _ 1 24 T1.out HI.out HZ0.out HZ1.out HZ2.out rfl (by decide) _ nq vs rfl x1 ⟨w2.heap.size, 0, none⟩ 1 1 [.slice P1 xl c1] rfl rfl x2 x3 x4 x5 x6 ?_; intro v4 w4 ho4 hg4 _ hv4; have V4 := Hn (v4_of B2.out hv4); clear hv4; obtain ⟨P4, c4, e4⟩ := own_sh1 ho4; subst e4; have O4 := Hn ho4; have G4 := Hn hg4; have k4 : w4.cell? ⟨s, 2, none⟩ = some (.slice Pv nq cv) := cell_row2 s2h.out O2.out hg4; have z4 : w4.frozen? ⟨s, 2, none⟩ = false := fz_row2 s2h.out O2.out hg4; clear ho4 hg4 x1 x2 x3 x4 x5 x6))
 refine bodyPost_ret (v := .int .i64 0) (by simp [results, Tryz.results20, go_sem]) rfl ⟨rfl, ?_⟩
 have UO2 : (w2.alloc (.cells #[.slice P1 xl c1] 50)).ownsRow 0 55 6 (.slice P1 X.length c1) X.length (tls X) := by rw [HXL.out]; exact own_monoT (own_keepT UO.out (bl_alloc _ _)) (Nat.zero_le _)
 rw [HXL.out] at UO2
 rw [HNQ.out]
 have hh := rq_more HS.out (bl_trans B2.out (bl_alloc _ _)) UO2 Q1.out.2.2 HNQ.out HXL.out O4.out G4.out
 exact ⟨.slice P4 (nq + 1) c4, _, hh.1, hh.2, fun k hk => (UO.out.lt k hk).1, V4.out⟩
section
variable {b1 b2 s t m K m2 K2 : Nat} {v v2 : Value} {vs vs2 : List Value} {Q Q2 : List (List Tm)} {x y : World}
theorem Sy.row_ne (h : Sy b1 x s m K v vs Q) (h2 : Sy b2 x t m2 K2 v2 vs2 Q2) : v2.ownBlock ≠ some s := fun e => ne_row2 h.h h2.row e.symm
theorem Sy.sum_ne (h : Sy b1 x s m K v vs Q) {u : Value} {n : Nat} {xs : List Value} (hu : x.ownsRow 0 55 6 u n xs) : u.ownBlock ≠ some s ∧ ∀ k, u.ownBlock = some k → v.ownBlock ≠ some k := by
 rcases hu.2 with ⟨e1, _⟩ | ⟨g, c, cur, e1, _, k1, _⟩
 ·rw [e1]
  exact ⟨fun e => (by cases e), fun k e => (by cases e)⟩
 ·rw [e1]
  refine ⟨fun e => ?_, fun k e => ?_⟩
  ·simp only [Value.ownBlock, Option.some.injEq] at e
   subst e
   rw [h.h] at k1
   simp only [Option.some.injEq, Obj.cells.injEq] at k1
   exact absurd k1.2.1 (by decide)
  ·simp only [Value.ownBlock, Option.some.injEq] at e
   subst e
   rcases h.row.2 with ⟨f1, _⟩ | ⟨g', c', cur', f1, _, k2, _⟩
   ·rw [f1]; intro e; cases e
   ·rw [f1]
    intro e
    simp only [Value.ownBlock, Option.some.injEq] at e
    subst e
    rw [k1] at k2
    simp only [Option.some.injEq, Obj.cells.injEq] at k2
    exact absurd k2.2.1 (by decide)
theorem own_fz {b n sz : Nat} {e : TypeId} {u : Value} {xs : List Value} (hu : x.ownsRow b e sz u n xs) (hf : Fz s v x y) (h1 : u.ownBlock ≠ some s) (h2 : ∀ k, u.ownBlock = some k → v.ownBlock ≠ some k) : y.ownsRow b e sz u n xs := ⟨hu.1, by
 rcases hu.2 with h | ⟨g, c, cur, e1, e2, e3, e4⟩
 ·exact .inl h
 ·rw [e1] at h1 h2
  exact .inr ⟨g, c, cur, e1, e2, (hf.block g (Array.getElem?_eq_some_iff.1 e3).1 (fun e => h1 (by rw [← e]; rfl)) (h2 g rfl)).trans e3, e4⟩⟩
theorem Sy.aside (h2 : Sy b2 x t m2 K2 v2 vs2 Q2) (h : Sy b1 x s m K v vs Q) (hf : Fz s v x y) (hst : t ≠ s) (hv : ∀ k, v2.ownBlock = some k → v.ownBlock ≠ some k) : Sy b2 y t m2 K2 v2 vs2 Q2 := by
 refine ⟨(hf.block t h2.lt hst (h2.row_ne h)).trans h2.h, own_fz h2.row hf (h.row_ne h2) hv, fun i X hX => ?_, h2.bs, h2.sm⟩
 obtain ⟨u, a1, a2⟩ := h2.ls i X hX
 exact ⟨u, a1, own_fz a2 hf (h.sum_ne a2).1 (h.sum_ne a2).2⟩
theorem Fz.gr (h : x.grownBy y (some s)) : Fz s v x y := ⟨h.os, h.tape, h.output, h.size, fun i hi his _ => h.block i hi (fun e => his (Option.some.inj e))⟩
end
end Ci
end Go.Proofs.YtljmgfclhbadjaaGreatDoor
namespace Go.Proofs.YtljmgfclhbadjaaGreatDoor
open Go.RowKit
set_option linter.unusedVariables false
set_option linter.unusedSimpArgs false
open Cm (Wr Tm co bf Ls lf ins Eqm)
namespace Ci
set_option maxRecDepth 100000
set_option maxHeartbeats 8000000
structure Pz where
 K : Nat
 Q : List (List Tm)
 G : Nat → List E4
def Ag (G : Nat → List E4) (R : Nat → Sl) : Prop := ∀ j, j < 4 → (R j).n = (G j).length ∧ ∀ k, k < (R j).n → (R j).g k = (G j).getD k ⟨0, 0, 0, 0⟩
def upG (G : Nat → List E4) (l r : E4) : Nat → List E4 := fun j => if j = 0 then G 0 ++ [l] else if j = 1 then G 1 ++ [r] else if j = 2 then G 2 ++ [lst (l.n * r.n)] else G j
def rG (G : Nat → List E4) : Nat → Sl := fun j => ⟨none, (G j).length, 0, fun k => (G j).getD k ⟨0, 0, 0, 0⟩⟩
theorem ag_up1 {s : Sl} {L : List E4} {z : E4} {p : Option Addr} {c : Nat} (h : s.n = L.length ∧ ∀ k, k < s.n → s.g k = L.getD k ⟨0, 0, 0, 0⟩) : s.n + 1 = (L ++ [z]).length ∧ ∀ k, k < s.n + 1 → snc s.n z s.g k = (L ++ [z]).getD k ⟨0, 0, 0, 0⟩ := by
 refine ⟨by simp [h.1], fun k hk => ?_⟩
 unfold snc
 rw [List.getD_eq_getElem?_getD]
 by_cases e : k = s.n
 ·rw [if_pos e, e, h.1, List.getElem?_append_right (Nat.le_refl _)]; simp
 ·rw [if_neg e, h.2 k (by omega), List.getElem?_append_left (by have := h.1; omega), List.getD_eq_getElem?_getD]
theorem Ag.up {G : Nat → List E4} {R : Nat → Sl} (h : Ag G R) (p0 p1 p2 : Option Addr) (c0 c1 c2 : Nat) (l r : E4) : Ag (upG G l r) (upR (upR (upR R 0 p0 c0 l) 1 p1 c1 r) 2 p2 c2 (lst (l.n * r.n))) := fun j hj => by
 match j, hj with
 | 0, _ => exact ag_up1 (p := p0) (c := c0) (h 0 (by omega))
 | 1, _ => exact ag_up1 (p := p1) (c := c1) (h 1 (by omega))
 | 2, _ => exact ag_up1 (p := p2) (c := c2) (h 2 (by omega))
 | 3, _ => exact h 3 (by omega)
theorem nmR_n {G : Nat → List E4} {R : Nat → Sl} (h : Ag G R) (k : Nat) : (nmR R k).n = (nmR (rG G) k).n := by
 unfold nmR nms
 split
 ·rfl
 ·exact (h 0 (by omega)).1
 ·exact (h 1 (by omega)).1
 ·exact (h 2 (by omega)).1
 ·exact (h 3 (by omega)).1
 ·rfl
theorem nmR_g {G : Nat → List E4} {R : Nat → Sl} (h : Ag G R) (k i : Nat) (hi : i < (nmR R k).n) : (nmR R k).g i = (nmR (rG G) k).g i := by
 unfold nmR nms at hi ⊢
 split at hi
 ·rfl
 ·exact (h 0 (by omega)).2 i hi
 ·exact (h 1 (by omega)).2 i hi
 ·exact (h 2 (by omega)).2 i hi
 ·exact (h 3 (by omega)).2 i hi
 ·exact absurd hi (Nat.not_lt_zero _)
theorem tot_congr {f g : Nat → Int} : ∀ n, (∀ k, k < n → f k = g k) → tot f n = tot g n
 | 0, _ => rfl
 | n + 1, h => by
  show tot f n + f n = tot g n + g n
  rw [tot_congr n (fun k hk => h k (by omega)), h n (by omega)]
theorem Ag.ftE {G : Nat → List E4} {R : Nat → Sl} (h : Ag G R) (m K : Nat) : ftB (nmR R) m K = ftB (nmR (rG G)) m K := by
 unfold ftB
 simp only [nmR_n h]
theorem Ag.esE {G : Nat → List E4} {R : Nat → Sl} (h : Ag G R) {m K : Nat} (hf : ftB (nmR R) m K = true) {f : Nat → Trm} {n : Nat} (hx : ∀ k, k < n → hs m K (f k).q = true) : es (nmR R) f n = es (nmR (rG G)) f n := by
 rw [es_is, es_is]
 congr 1
 refine tot_congr n (fun k hk => ?_)
 have hq := nm_of_hs hf (hx k hk)
 have h0 := hq.i0
 have h1 := hq.i1
 unfold nw
 rw [nmR_g h _ _ (by omega)]
def nuE (G : Nat → List E4) (m K : Nat) (X : List Tm) : E4 := evS (nmR (rG G)) m K X
theorem Ag.ee {G : Nat → List E4} {R : Nat → Sl} (h : Ag G R) (m K : Nat) (X : List Tm) : evE (nmR R) m K X = evE (nmR (rG G)) m K X := by
 unfold evE
 rw [h.ftE]
theorem Ag.ev {G : Nat → List E4} {R : Nat → Sl} (h : Ag G R) (m K : Nat) (X : List Tm) : evS (nmR R) m K X = nuE G m K X := by
 unfold nuE evS
 rw [h.ftE]
 by_cases hf : ftB (nmR (rG G)) m K = true
 ·rw [if_pos hf, if_pos hf]
  by_cases hn : nm m K X.length (ft X) = true
  ·rw [if_pos hn, if_pos hn]
   exact h.esE (m := m) (K := K) (by rw [h.ftE]; exact hf) (fun k hk => nm_at hn k hk)
  ·rw [if_neg hn, if_neg hn]
 ·rw [if_neg hf, if_neg hf]
theorem nuE_ok (G : Nat → List E4) (m K : Nat) (X : List Tm) : (nuE G m K X).ok := by
 have z : (⟨0, 0, 0, 0⟩ : E4).ok := ⟨by unfold Sm.Wd; decide, by unfold Sm.Wd; decide, by unfold Sm.Wd; decide, by unfold Sm.Wd; decide⟩
 unfold nuE evS
 split
 ·split
  ·exact es_ok _ _ _
  ·exact z
 ·exact z
def Dr (S : Nat → Prop) (d m K : Nat) (Q : List (List Tm)) (G : Nat → List E4) (q b : Nat) (x : World) : Prop := ∃ vv vs R, Dz S d m K Q q b vv vs R 0 x ∧ Ag G R ∧ ∀ u ∈ vs, ∀ k, u.ownBlock = some k → S k
theorem Dr.keep {S : Nat → Prop} {d m K q b : Nat} {Q : List (List Tm)} {G : Nat → List E4} {x y : World} (h : Dr S d m K Q G q b x) (hb : Below x.heap.size x y) : Dr S d m K Q G q b y := by
 obtain ⟨vv, vs, R, h1, h2⟩ := h
 exact ⟨vv, vs, R, h1.keep hb, h2⟩
theorem Dr.lt {S : Nat → Prop} {d m K q b : Nat} {Q : List (List Tm)} {G : Nat → List E4} {x : World} (h : Dr S d m K Q G q b x) : ∀ i, S i → i < x.heap.size := by
 obtain ⟨vv, vs, R, h1, h2⟩ := h
 exact h1.ob.lt
theorem Dr.c {S : Nat → Prop} {d m K q b : Nat} {Q : List (List Tm)} {G : Nat → List E4} {x : World} (h : Dr S d m K Q G q b x) (j : Nat) : x.cell? ⟨d, j, none⟩ = (#[.pointer (some ⟨q, 0, none⟩), fn1 b, fn2 b, fn3 b, fn4 b, .int .i64 0] : Array Value)[j]? := by
 obtain ⟨vv, vs, R, h1, h2⟩ := h
 exact h1.c j
structure Ds (S : Nat → Prop) (d m : Nat) (p : Pz) (q b : Nat) (x : World) : Prop where
 h : Dr S d m p.K p.Q p.G q b x
 ln : ∀ j, j < 3 → (p.G j).length = p.K
 l3 : (p.G 3).length = m
 m16 : m ≤ 16
theorem Ds.keep {S : Nat → Prop} {d m q b : Nat} {p : Pz} {x y : World} (h : Ds S d m p q b x) (hb : Below x.heap.size x y) : Ds S d m p q b y := by
 exact ⟨h.h.keep hb, h.ln, h.l3, h.m16⟩
theorem Ds.lt {S : Nat → Prop} {d m q b : Nat} {p : Pz} {x : World} (h : Ds S d m p q b x) : ∀ i, S i → i < x.heap.size := by
 obtain ⟨⟨vv, vs, R, h1, h2⟩, h3⟩ := h
 exact h1.ob.lt
theorem Ds.tb {S : Nat → Prop} {d m q b : Nat} {p : Pz} {x : World} (h : Ds S d m p q b x) : Tb x := by
 obtain ⟨⟨vv, vs, R, h1, h2⟩, h3⟩ := h
 exact h1.tq.1
theorem Ds.wk {S : Nat → Prop} {d m q b : Nat} {p : Pz} {x : World} (h : Ds S d m p q b x) : Wk m p.K p.Q := by
 obtain ⟨⟨vv, vs, R, h1, h2⟩, h3⟩ := h
 exact h1.wk
def Zo (S : Nat → Prop) (x : World) (v : Value) (X : List Tm) : Prop := Zs x v X ∧ Out S v
theorem Zo.keep {S : Nat → Prop} {x y : World} {v : Value} {X : List Tm} (h : Zo S x v X) (hb : Below x.heap.size x y) : Zo S y v X := ⟨h.1.keep hb, h.2⟩
theorem Zo.step {S S' : Nat → Prop} {x y : World} {v : Value} {X : List Tm} (h : Zo S x v X) (hg : Gs S x y) (hk : Sk S S' x) : Zo S' y v X := ⟨⟨hg.own h.1.own h.2, h.1.ls, h.1.n⟩, h.2.sk h.1.own hk⟩
theorem Zo.new {S : Nat → Prop} {x y : World} {v : Value} {X : List Tm} (h : Lq x X v y) (hS : ∀ i, S i → i < x.heap.size) (hn : X.length ≤ 100000) : Zo S y v X := ⟨⟨own_monoT h.1 (Nat.zero_le _), h.2.2, hn⟩, fun k hk h1 => by
 have := (h.1.lt k hk).1
 have := hS k h1
 omega⟩
def LoP (S : Nat → Prop) (d m : Nat) (p : Pz) (q b : Nat) (X : List Tm) (x : World) (e : Ending) (w' : World) : Prop := ∃ S' v, e = .returned v ∧ Ds S' d m p q b w' ∧ Gs S x w' ∧ Sk S S' x ∧ Zo S' w' v X
def EoP (S : Nat → Prop) (d m : Nat) (p : Pz) (q b : Nat) (x : World) (w' : World) : Prop := ∃ S', Ds S' d m p q b w' ∧ Gs S x w' ∧ Sk S S' x
def pMul (m : Nat) (p : Pz) (X Y : List Tm) : Pz := ⟨p.K + 1, p.Q ++ [lf Sm.L (glL 1 (cst (2, (p.K : Int))) ++ glN X.length (ft X)), lf Sm.L (glL 1 (cst (3, (p.K : Int))) ++ glN Y.length (ft Y))], upG p.G (nuE p.G m p.K X) (nuE p.G m p.K Y)⟩
def pFree (p : Pz) (l r : E4) : Pz := ⟨p.K + 1, p.Q, upG p.G l r⟩
def pReq (p : Pz) (X : List Tm) : Pz := ⟨p.K, p.Q ++ [X], p.G⟩
theorem upG_len {G : Nat → List E4} {K m : Nat} {l r : E4} (h : ∀ j, j < 3 → (G j).length = K) (h3 : (G 3).length = m) : (∀ j, j < 3 → (upG G l r j).length = K + 1) ∧ (upG G l r 3).length = m := by
 refine ⟨fun j hj => ?_, h3⟩
 match j, hj with
 | 0, _ => show (G 0 ++ [l]).length = _; simp [h 0]
 | 1, _ => show (G 1 ++ [r]).length = _; simp [h 1]
 | 2, _ => show (G 2 ++ [_]).length = _; simp [h 2]
theorem hs_mono {m K K' : Nat} {q : Wr} (h : hs m K q = true) (hk : K ≤ K') : hs m K' q = true := by
 unfold hs at h ⊢
 simp only [Bool.and_eq_true, decide_eq_true_eq] at h ⊢
 obtain ⟨h1, h2, h3, h4⟩ := h
 refine ⟨h1, h2, h3, ?_⟩
 have hq : q.1 = 1 ∨ q.1 = 2 ∨ q.1 = 3 ∨ q.1 = 4 ∨ q.1 = 5 := by omega
 rcases hq with e | e | e | e | e <;> (rw [e] at h4 ⊢; simp only [ct] at h4 ⊢; first | exact h4 | (have h5 : q.2 < (K : Int) := h4; show q.2 < (K' : Int); omega))
theorem Wk.gate {m K : Nat} {Q : List (List Tm)} (h : Wk m K Q) (hK : K < 1024) : Wk m (K + 1) Q := ⟨fun X hX x hx => hs_mono (h.wr X hX x hx) (by omega), h.ln, h.q, by omega, h.pf, by have := h.mle; omega⟩
theorem Wk.reqs {m K : Nat} {Q : List (List Tm)} (h : Wk m K Q) (Y : List (List Tm)) (hq : Q.length + Y.length ≤ 4096) (hY : ∀ X ∈ Y, (∀ x ∈ X, hs m K x.1 = true) ∧ X.length ≤ 2932031007402) : Wk m K (Q ++ Y) := by
 refine ⟨fun X hX x hx => ?_, fun X hX => ?_, by rw [List.length_append]; exact hq, h.k, ?_, h.mle⟩
 ·rcases List.mem_append.1 hX with e | e
  ·exact h.wr X e x hx
  ·exact (hY X e).1 x hx
 ·rcases List.mem_append.1 hX with e | e
  ·exact h.ln X e
  ·exact (hY X e).2
 ·obtain ⟨R, hR⟩ := h.pf
  exact ⟨R ++ Y, by rw [hR, List.append_assoc]⟩
end Ci
end Go.Proofs.YtljmgfclhbadjaaGreatDoor
