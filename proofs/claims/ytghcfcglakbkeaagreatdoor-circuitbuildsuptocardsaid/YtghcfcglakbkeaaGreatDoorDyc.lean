import Derived.Test.YtghcfcglakbkeaaGreatDoorDyb
namespace Go.Proofs.YtghcfcglakbkeaaGreatDoor
open Go.RowKit
set_option linter.unusedVariables false
set_option linter.unusedSimpArgs false
open Cm (Wr Tm co bf Ls lf ins Eqm)
namespace Ci
set_option maxRecDepth 100000
set_option maxHeartbeats 4000000
theorem dGate_ok {base : Nat} {w : World} {s m Kg : Nat} {v : Value} {vs : List Value} {Q : List (List Tm)} (h : Dy base w s m Kg v vs Q) (hK : Kg < 1024) : Calls Tryz.prog 16 #[.pointer (some ⟨s, 0, none⟩)] w fun e w' => e = .returned (tup 2 Kg 3 Kg 4 Kg 0) ∧ Dy base w' s m (Kg + 1) v vs Q ∧ w.grownBy w' (some s) := by
 have BA := bl_alloc3 w (.cells #[.int .i64 0, .int .i64 0] 67) (.cells #[.int .i64 0, .int .i64 0] 67) (.cells #[.int .i64 0, .int .i64 0] 67)
 have hlt := h.lt
 have h1 := h.keep BA
 have c1 := h1.c1
 have fs := h1.fz 1
 have l0 : ¬ (1024 : Int) ≤ (Kg : Int) := by omega
 have w9 : IntKind.i64.wrap ((Kg : Int) + 1) = (Kg : Int) + 1 := IntWalk.i64_in _ (by omega)
 have c00 : (((w.alloc (.cells #[.int .i64 0, .int .i64 0] 67)).alloc (.cells #[.int .i64 0, .int .i64 0] 67)).alloc (.cells #[.int .i64 0, .int .i64 0] 67)).cell? ⟨w.heap.size, 0, none⟩ = some (.int .i64 0) := by go_simp
 have f00 : (((w.alloc (.cells #[.int .i64 0, .int .i64 0] 67)).alloc (.cells #[.int .i64 0, .int .i64 0] 67)).alloc (.cells #[.int .i64 0, .int .i64 0] 67)).frozen? ⟨w.heap.size, 0, none⟩ = false := by go_simp
 have c01 : (((w.alloc (.cells #[.int .i64 0, .int .i64 0] 67)).alloc (.cells #[.int .i64 0, .int .i64 0] 67)).alloc (.cells #[.int .i64 0, .int .i64 0] 67)).cell? ⟨w.heap.size, 1, none⟩ = some (.int .i64 0) := by go_simp
 have f01 : (((w.alloc (.cells #[.int .i64 0, .int .i64 0] 67)).alloc (.cells #[.int .i64 0, .int .i64 0] 67)).alloc (.cells #[.int .i64 0, .int .i64 0] 67)).frozen? ⟨w.heap.size, 1, none⟩ = false := by go_simp
 have c10 : (((w.alloc (.cells #[.int .i64 0, .int .i64 0] 67)).alloc (.cells #[.int .i64 0, .int .i64 0] 67)).alloc (.cells #[.int .i64 0, .int .i64 0] 67)).cell? ⟨w.heap.size + 1, 0, none⟩ = some (.int .i64 0) := by go_simp
 have f10 : (((w.alloc (.cells #[.int .i64 0, .int .i64 0] 67)).alloc (.cells #[.int .i64 0, .int .i64 0] 67)).alloc (.cells #[.int .i64 0, .int .i64 0] 67)).frozen? ⟨w.heap.size + 1, 0, none⟩ = false := by go_simp
 have c11 : (((w.alloc (.cells #[.int .i64 0, .int .i64 0] 67)).alloc (.cells #[.int .i64 0, .int .i64 0] 67)).alloc (.cells #[.int .i64 0, .int .i64 0] 67)).cell? ⟨w.heap.size + 1, 1, none⟩ = some (.int .i64 0) := by go_simp
 have f11 : (((w.alloc (.cells #[.int .i64 0, .int .i64 0] 67)).alloc (.cells #[.int .i64 0, .int .i64 0] 67)).alloc (.cells #[.int .i64 0, .int .i64 0] 67)).frozen? ⟨w.heap.size + 1, 1, none⟩ = false := by go_simp
 have c20 : (((w.alloc (.cells #[.int .i64 0, .int .i64 0] 67)).alloc (.cells #[.int .i64 0, .int .i64 0] 67)).alloc (.cells #[.int .i64 0, .int .i64 0] 67)).cell? ⟨w.heap.size + 1 + 1, 0, none⟩ = some (.int .i64 0) := by go_simp
 have f20 : (((w.alloc (.cells #[.int .i64 0, .int .i64 0] 67)).alloc (.cells #[.int .i64 0, .int .i64 0] 67)).alloc (.cells #[.int .i64 0, .int .i64 0] 67)).frozen? ⟨w.heap.size + 1 + 1, 0, none⟩ = false := by go_simp
 have c21 : (((w.alloc (.cells #[.int .i64 0, .int .i64 0] 67)).alloc (.cells #[.int .i64 0, .int .i64 0] 67)).alloc (.cells #[.int .i64 0, .int .i64 0] 67)).cell? ⟨w.heap.size + 1 + 1, 1, none⟩ = some (.int .i64 0) := by go_simp
 have f21 : (((w.alloc (.cells #[.int .i64 0, .int .i64 0] 67)).alloc (.cells #[.int .i64 0, .int .i64 0] 67)).alloc (.cells #[.int .i64 0, .int .i64 0] 67)).frozen? ⟨w.heap.size + 1 + 1, 1, none⟩ = false := by go_simp
 have G0 := Hn (gbI BA (some s))
 have S1 := Hn h1
 have HS := Hn h
 have SZ : Hid ((((w.alloc (.cells #[.int .i64 0, .int .i64 0] 67)).alloc (.cells #[.int .i64 0, .int .i64 0] 67)).alloc (.cells #[.int .i64 0, .int .i64 0] 67)).heap.size = w.heap.size + 1 + 1 + 1) := Hn (by simp)
 clear h hK BA h1
 go_enter Tryz.func16, Tryz.ntmps16
 go_upto_region 3 with fail
 generalize (((w.alloc (.cells #[.int .i64 0, .int .i64 0] 67)).alloc (.cells #[.int .i64 0, .int .i64 0] 67)).alloc (.cells #[.int .i64 0, .int .i64 0] 67)) = w1 at *
 go_upto_region 5 with fail
 have SG := Hn (Dy.gate S1.out)
 have G1 := Hn (gb_tr G0.out (gb_cell w1 s 1 (.int .i64 ((Kg : Int) + 1))))
 have d00 : (w1.setCell ⟨s, 1, none⟩ (.int .i64 ((Kg : Int) + 1))).cell? ⟨w.heap.size, 0, none⟩ = some (.int .i64 0) := by rw [World.cell?_setCell_far _ _ _ _ (by simp; omega)]; exact c00
 have g00 : (w1.setCell ⟨s, 1, none⟩ (.int .i64 ((Kg : Int) + 1))).frozen? ⟨w.heap.size, 0, none⟩ = false := by rw [World.frozen?_setCell]; exact f00
 have d01 : (w1.setCell ⟨s, 1, none⟩ (.int .i64 ((Kg : Int) + 1))).cell? ⟨w.heap.size, 1, none⟩ = some (.int .i64 0) := by rw [World.cell?_setCell_far _ _ _ _ (by simp; omega)]; exact c01
 have g01 : (w1.setCell ⟨s, 1, none⟩ (.int .i64 ((Kg : Int) + 1))).frozen? ⟨w.heap.size, 1, none⟩ = false := by rw [World.frozen?_setCell]; exact f01
 have d10 : (w1.setCell ⟨s, 1, none⟩ (.int .i64 ((Kg : Int) + 1))).cell? ⟨w.heap.size + 1, 0, none⟩ = some (.int .i64 0) := by rw [World.cell?_setCell_far _ _ _ _ (by simp; omega)]; exact c10
 have g10 : (w1.setCell ⟨s, 1, none⟩ (.int .i64 ((Kg : Int) + 1))).frozen? ⟨w.heap.size + 1, 0, none⟩ = false := by rw [World.frozen?_setCell]; exact f10
 have d11 : (w1.setCell ⟨s, 1, none⟩ (.int .i64 ((Kg : Int) + 1))).cell? ⟨w.heap.size + 1, 1, none⟩ = some (.int .i64 0) := by rw [World.cell?_setCell_far _ _ _ _ (by simp; omega)]; exact c11
 have g11 : (w1.setCell ⟨s, 1, none⟩ (.int .i64 ((Kg : Int) + 1))).frozen? ⟨w.heap.size + 1, 1, none⟩ = false := by rw [World.frozen?_setCell]; exact f11
 have d20 : (w1.setCell ⟨s, 1, none⟩ (.int .i64 ((Kg : Int) + 1))).cell? ⟨w.heap.size + 1 + 1, 0, none⟩ = some (.int .i64 0) := by rw [World.cell?_setCell_far _ _ _ _ (by simp; omega)]; exact c20
 have g20 : (w1.setCell ⟨s, 1, none⟩ (.int .i64 ((Kg : Int) + 1))).frozen? ⟨w.heap.size + 1 + 1, 0, none⟩ = false := by rw [World.frozen?_setCell]; exact f20
 have d21 : (w1.setCell ⟨s, 1, none⟩ (.int .i64 ((Kg : Int) + 1))).cell? ⟨w.heap.size + 1 + 1, 1, none⟩ = some (.int .i64 0) := by rw [World.cell?_setCell_far _ _ _ _ (by simp; omega)]; exact c21
 have g21 : (w1.setCell ⟨s, 1, none⟩ (.int .i64 ((Kg : Int) + 1))).frozen? ⟨w.heap.size + 1 + 1, 1, none⟩ = false := by rw [World.frozen?_setCell]; exact f21
 have SZ2 : Hid ((w1.setCell ⟨s, 1, none⟩ (.int .i64 ((Kg : Int) + 1))).heap.size = w.heap.size + 1 + 1 + 1) := Hn (by rw [World.size_setCell]; exact SZ.out)
 clear c00 c01 f00 f01 c10 c11 f10 f11 c20 c21 f20 f21 c1 fs
 generalize (w1.setCell ⟨s, 1, none⟩ (.int .i64 ((Kg : Int) + 1))) = w2 at *
 have HL := Hn hlt
 go_wp2_with fail
 have BW : Below w.heap.size w2 ((((((w2.setCell ⟨w.heap.size, 0, none⟩ (.int .i64 2)).setCell ⟨w.heap.size, 1, none⟩ (.int .i64 (Kg : Int))).setCell ⟨w.heap.size + 1, 0, none⟩ (.int .i64 3)).setCell ⟨w.heap.size + 1, 1, none⟩ (.int .i64 (Kg : Int))).setCell ⟨w.heap.size + 1 + 1, 0, none⟩ (.int .i64 4)).setCell ⟨w.heap.size + 1 + 1, 1, none⟩ (.int .i64 (Kg : Int))) := bl_cell (bl_cell (bl_cell (bl_cell (bl_cell (bl_cell (Below.refl _ _) (by omega)) (by omega)) (by omega)) (by omega)) (by omega)) (by omega)
 refine bodyPost_ret (v := tup 2 Kg 3 Kg 4 Kg 0) (by simp [results, Tryz.results16, go_sem, d00, d01, d10, d11, d20, d21, tup]) rfl ⟨rfl, Dy.under HS.out SG.out BW, gb_below G1.out BW⟩
theorem llinfoD : (Tryz.prog.info? 72) = some (Tryz.prog.info? 72).get! := by kernel_rfl
theorem dRequire_wire {base : Nat} {w : World} {s m Kg : Nat} {v : Value} {vs : List Value} {Q : List (List Tm)} (h : Dy base w s m Kg v vs Q) (P : Option Addr) (c : Nat) (Y : List Tm) (hn : Y.length ≤ 2932031007400) (hL : Lt w P Y.length (ft Y)) (hw : nm m Kg (lf Sm.L Y).length (ft (lf Sm.L Y)) = false) :
  Calls Tryz.prog 19 #[.pointer (some ⟨s, 0, none⟩), .slice P Y.length c] w fun e w' => e = .returned (.int .i64 200) ∧ Below w.heap.size w w' := by
 have C0 := Hn (Known_any h P c Y hn hL)
 rw [hw] at C0
 generalize Y.length = ny at *
 clear h hn hL hw
 go_enter Tryz.func19, Tryz.ntmps19
 go_wp2_with (go_at_call 55; refine C0.out.mono ?_; rintro e w1 ⟨rfl, hb⟩; have B1 := Hn hb; clear hb)
 refine bodyPost_ret (v := .int .i64 200) (by simp [results, Tryz.results19, go_sem]) rfl ⟨rfl, B1.out⟩
theorem dRequire_full {base : Nat} {w : World} {s m Kg : Nat} {v : Value} {vs : List Value} {Q : List (List Tm)} (h : Dy base w s m Kg v vs Q) (P : Option Addr) (c : Nat) (Y : List Tm) (hn : Y.length ≤ 2932031007400) (hL : Lt w P Y.length (ft Y)) (hw : nm m Kg (lf Sm.L Y).length (ft (lf Sm.L Y)) = true) (hq : 4096 ≤ Q.length) :
  Calls Tryz.prog 19 #[.pointer (some ⟨s, 0, none⟩), .slice P Y.length c] w fun e w' => e = .returned (.int .i64 201) ∧ Below w.heap.size w w' := by
 have C0 := Hn (Known_any h P c Y hn hL)
 rw [hw] at C0
 have C1 := Hn (fun y (hy : Below w.heap.size w y) => dLeast_any P c Y y hn (hL.keep hy))
 have K2 := Hn (fun y (hy : Below w.heap.size w y) => (h.keep hy).c2)
 obtain ⟨Pv, cv, hv, _, _⟩ := h.shape
 subst hv
 generalize Y.length = ny at *
 generalize lf Sm.L Y = X at *
 have l9 : (4096 : Int) ≤ (Q.length : Int) := by omega
 generalize Q.length = nq at *
 clear h hn hL hw hq
 go_enter Tryz.func19, Tryz.ntmps19
 go_upto_region 4 with (go_at_call 55; refine C0.out.mono ?_; rintro e w1 ⟨rfl, hb⟩; have B1 := Hn hb; clear hb)
 clear C0
 have C2 := Hn (C1.out w1 B1.out)
 clear C1
 go_upto_region 5 with (go_at_call 58; refine C2.out.mono ?_; rintro e w2 ⟨v2, rfl, hd⟩; have B2 := Hn (bl_trans B1.out hd.2); clear hd)
 have k2 := K2.out w2 B2.out
 clear K2 C2
 go_wp2_with fail
 refine bodyPost_ret (v := .int .i64 201) (by simp [results, Tryz.results19, go_sem]) rfl ⟨rfl, B2.out⟩
end Ci
end Go.Proofs.YtghcfcglakbkeaaGreatDoor
