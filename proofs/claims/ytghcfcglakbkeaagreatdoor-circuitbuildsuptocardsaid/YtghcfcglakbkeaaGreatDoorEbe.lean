import Derived.Test.YtghcfcglakbkeaaGreatDoorEbd
namespace Go.Proofs.YtghcfcglakbkeaaGreatDoor
open Go.RowKit
set_option linter.unusedVariables false
set_option linter.unusedSimpArgs false
open Cm (Wr Tm co bf Ls lf ins Eqm)
namespace Ci
set_option maxRecDepth 100000
set_option maxHeartbeats 16000000
def wkB (m K : Nat) (A : List Tm) : Bool := nm m K (lf Sm.L A).length (ft (lf Sm.L A))
theorem dMultiply_wireA {base : Nat} {w : World} {s m Kg : Nat} {v : Value} {vs : List Value} {Q : List (List Tm)} (h : Dy base w s m Kg v vs Q) (Pa Pb : Option Addr) (ca cb : Nat) (A B : List Tm) (hna : A.length ≤ 2932031007400) (hnb : B.length ≤ 2932031007400) (ha : Lt w Pa A.length (ft A)) (hb : Lt w Pb B.length (ft B)) (hwa : wkB m Kg A = false) :
  Calls Tryz.prog 17 #[.pointer (some ⟨s, 0, none⟩), .slice Pa A.length ca, .slice Pb B.length cb] w fun e w' => e = .returned (tup 0 0 0 0 0 0 200) ∧ Below w.heap.size w w' := by
 have BA := bl_alloc3 w (.cells #[.int .i64 0, .int .i64 0] 67) (.cells #[.int .i64 0, .int .i64 0] 67) (.cells #[.int .i64 0, .int .i64 0] 67)
 have HH := Hn (h.keep BA)
 have C0 := Hn (Known_any (h.keep BA) Pa ca A hna (ha.keep BA))
 have C1 := Hn (fun y (hy : Below (((w.alloc (.cells #[.int .i64 0, .int .i64 0] 67)).alloc (.cells #[.int .i64 0, .int .i64 0] 67)).alloc (.cells #[.int .i64 0, .int .i64 0] 67)).heap.size (((w.alloc (.cells #[.int .i64 0, .int .i64 0] 67)).alloc (.cells #[.int .i64 0, .int .i64 0] 67)).alloc (.cells #[.int .i64 0, .int .i64 0] 67)) y) => Known_any ((h.keep BA).keep hy) Pb cb B hnb ((hb.keep BA).keep hy))
 unfold wkB at hwa
 rw [hwa] at C0
 generalize nm m Kg (lf Sm.L B).length (ft (lf Sm.L B)) = x2 at *
 clear hwa
 have c00 : (((w.alloc (.cells #[.int .i64 0, .int .i64 0] 67)).alloc (.cells #[.int .i64 0, .int .i64 0] 67)).alloc (.cells #[.int .i64 0, .int .i64 0] 67)).cell? ⟨w.heap.size, 0, none⟩ = some (.int .i64 0) := by go_simp
 have f00 : (((w.alloc (.cells #[.int .i64 0, .int .i64 0] 67)).alloc (.cells #[.int .i64 0, .int .i64 0] 67)).alloc (.cells #[.int .i64 0, .int .i64 0] 67)).frozen? ⟨w.heap.size, 0, none⟩ = false := by go_simp
 have c01 : (((w.alloc (.cells #[.int .i64 0, .int .i64 0] 67)).alloc (.cells #[.int .i64 0, .int .i64 0] 67)).alloc (.cells #[.int .i64 0, .int .i64 0] 67)).cell? ⟨w.heap.size, 1, none⟩ = some (.int .i64 0) := by go_simp
 have f01 : (((w.alloc (.cells #[.int .i64 0, .int .i64 0] 67)).alloc (.cells #[.int .i64 0, .int .i64 0] 67)).alloc (.cells #[.int .i64 0, .int .i64 0] 67)).frozen? ⟨w.heap.size, 1, none⟩ = false := by go_simp
 have c10 : (((w.alloc (.cells #[.int .i64 0, .int .i64 0] 67)).alloc (.cells #[.int .i64 0, .int .i64 0] 67)).alloc (.cells #[.int .i64 0, .int .i64 0] 67)).cell? ⟨w.heap.size + 1, 0, none⟩ = some (.int .i64 0) := by go_simp
 have f10 : (((w.alloc (.cells #[.int .i64 0, .int .i64 0] 67)).alloc (.cells #[.int .i64 0, .int .i64 0] 67)).alloc (.cells #[.int .i64 0, .int .i64 0] 67)).frozen? ⟨w.heap.size + 1, 0, none⟩ = false := by go_simp
 have c11 : (((w.alloc (.cells #[.int .i64 0, .int .i64 0] 67)).alloc (.cells #[.int .i64 0, .int .i64 0] 67)).alloc (.cells #[.int .i64 0, .int .i64 0] 67)).cell? ⟨w.heap.size + 1, 1, none⟩ = some (.int .i64 0) := by go_simp
 have f11 : (((w.alloc (.cells #[.int .i64 0, .int .i64 0] 67)).alloc (.cells #[.int .i64 0, .int .i64 0] 67)).alloc (.cells #[.int .i64 0, .int .i64 0] 67)).frozen? ⟨w.heap.size + 1, 1, none⟩ = false := by go_simp
 have c20 : (((w.alloc (.cells #[.int .i64 0, .int .i64 0] 67)).alloc (.cells #[.int .i64 0, .int .i64 0] 67)).alloc (.cells #[.int .i64 0, .int .i64 0] 67)).cell? ⟨w.heap.size + 1 + 1, 0, none⟩ = some (.int .i64 0) := by go_simp
 have f20 : (((w.alloc (.cells #[.int .i64 0, .int .i64 0] 67)).alloc (.cells #[.int .i64 0, .int .i64 0] 67)).alloc (.cells #[.int .i64 0, .int .i64 0] 67)).frozen? ⟨w.heap.size + 1 + 1, 0, none⟩ = false := by go_simp
 have c21 : (((w.alloc (.cells #[.int .i64 0, .int .i64 0] 67)).alloc (.cells #[.int .i64 0, .int .i64 0] 67)).alloc (.cells #[.int .i64 0, .int .i64 0] 67)).cell? ⟨w.heap.size + 1 + 1, 1, none⟩ = some (.int .i64 0) := by go_simp
 have f21 : (((w.alloc (.cells #[.int .i64 0, .int .i64 0] 67)).alloc (.cells #[.int .i64 0, .int .i64 0] 67)).alloc (.cells #[.int .i64 0, .int .i64 0] 67)).frozen? ⟨w.heap.size + 1 + 1, 1, none⟩ = false := by go_simp
 have HB := Hn BA
 obtain ⟨Pv, cv, hv, _, _⟩ := h.shape
 have HV := Hn hv
 clear h hna hnb ha hb BA hv
 generalize A.length = na at *
 generalize B.length = nb at *
 go_enter Tryz.func17, Tryz.ntmps17
 go_upto_region 1 with fail
 generalize hw1 : (((w.alloc (.cells #[.int .i64 0, .int .i64 0] 67)).alloc (.cells #[.int .i64 0, .int .i64 0] 67)).alloc (.cells #[.int .i64 0, .int .i64 0] 67)) = w1 at *
 go_upto_region 2 with (go_at_call 55; refine C0.out.mono ?_; rintro e w2 ⟨rfl, hb⟩; have B2 := Hn hb; have C2 := Hn (C1.out w2 hb); clear hb C0 C1)
 go_upto_region 3 with (go_at_call 55; refine C2.out.mono ?_; rintro e w3 ⟨rfl, hb⟩; have B3 := Hn (bl_trans B2.out hb); clear hb C2)
 have HR : Hid (w3.there w.heap.size 0 2 ∧ w3.there (w.heap.size + 1) 0 2 ∧ w3.there (w.heap.size + 1 + 1) 0 2) := Hn ⟨there_bl (there2 c00 c01 f00 f01) B3.out, there_bl (there2 c10 c11 f10 f11) B3.out, there_bl (there2 c20 c21 f20 f21) B3.out⟩
 have d00 := cell_keep c00 B3.out
 have g00 : w3.frozen? ⟨w.heap.size, 0, none⟩ = false := (HR.out.1 0 (by omega)).2
 have d01 := cell_keep c01 B3.out
 have g01 : w3.frozen? ⟨w.heap.size, 1, none⟩ = false := (HR.out.1 1 (by omega)).2
 have d10 := cell_keep c10 B3.out
 have g10 : w3.frozen? ⟨w.heap.size + 1, 0, none⟩ = false := (HR.out.2.1 0 (by omega)).2
 have d11 := cell_keep c11 B3.out
 have g11 : w3.frozen? ⟨w.heap.size + 1, 1, none⟩ = false := (HR.out.2.1 1 (by omega)).2
 have d20 := cell_keep c20 B3.out
 have g20 : w3.frozen? ⟨w.heap.size + 1 + 1, 0, none⟩ = false := (HR.out.2.2 0 (by omega)).2
 have d21 := cell_keep c21 B3.out
 have g21 : w3.frozen? ⟨w.heap.size + 1 + 1, 1, none⟩ = false := (HR.out.2.2 1 (by omega)).2
 clear c00 f00 c01 f01 c10 f10 c11 f11 c20 f20 c21 f21
 have BT : Hid (Below w.heap.size w w3) := Hn (bl_trans HB.out B3.out)
 clear HB B3 B2 hw1 HR
 go_wp2_with fail
 have BW : Below w.heap.size w3 ((((((w3.setCell ⟨w.heap.size, 0, none⟩ (.int .i64 0)).setCell ⟨w.heap.size, 1, none⟩ (.int .i64 0)).setCell ⟨w.heap.size + 1, 0, none⟩ (.int .i64 0)).setCell ⟨w.heap.size + 1, 1, none⟩ (.int .i64 0)).setCell ⟨w.heap.size + 1 + 1, 0, none⟩ (.int .i64 0)).setCell ⟨w.heap.size + 1 + 1, 1, none⟩ (.int .i64 0)) := bl_cell (bl_cell (bl_cell (bl_cell (bl_cell (bl_cell (Below.refl _ _) (by omega)) (by omega)) (by omega)) (by omega)) (by omega)) (by omega)
 refine bodyPost_ret (v := tup 0 0 0 0 0 0 200) (by simp [results, Tryz.results17, go_sem, d00, d01, d10, d11, d20, d21, tup]) rfl ⟨rfl, BT.out.trans BW⟩
theorem dMultiply_wireB {base : Nat} {w : World} {s m Kg : Nat} {v : Value} {vs : List Value} {Q : List (List Tm)} (h : Dy base w s m Kg v vs Q) (Pa Pb : Option Addr) (ca cb : Nat) (A B : List Tm) (hna : A.length ≤ 2932031007400) (hnb : B.length ≤ 2932031007400) (ha : Lt w Pa A.length (ft A)) (hb : Lt w Pb B.length (ft B)) (hwa : wkB m Kg A = true) (hwb : wkB m Kg B = false) :
  Calls Tryz.prog 17 #[.pointer (some ⟨s, 0, none⟩), .slice Pa A.length ca, .slice Pb B.length cb] w fun e w' => e = .returned (tup 0 0 0 0 0 0 200) ∧ Below w.heap.size w w' := by
 have BA := bl_alloc3 w (.cells #[.int .i64 0, .int .i64 0] 67) (.cells #[.int .i64 0, .int .i64 0] 67) (.cells #[.int .i64 0, .int .i64 0] 67)
 have HH := Hn (h.keep BA)
 have C0 := Hn (Known_any (h.keep BA) Pa ca A hna (ha.keep BA))
 have C1 := Hn (fun y (hy : Below (((w.alloc (.cells #[.int .i64 0, .int .i64 0] 67)).alloc (.cells #[.int .i64 0, .int .i64 0] 67)).alloc (.cells #[.int .i64 0, .int .i64 0] 67)).heap.size (((w.alloc (.cells #[.int .i64 0, .int .i64 0] 67)).alloc (.cells #[.int .i64 0, .int .i64 0] 67)).alloc (.cells #[.int .i64 0, .int .i64 0] 67)) y) => Known_any ((h.keep BA).keep hy) Pb cb B hnb ((hb.keep BA).keep hy))
 unfold wkB at hwa hwb
 rw [hwa] at C0
 rw [hwb] at C1
 clear hwa hwb
 have c00 : (((w.alloc (.cells #[.int .i64 0, .int .i64 0] 67)).alloc (.cells #[.int .i64 0, .int .i64 0] 67)).alloc (.cells #[.int .i64 0, .int .i64 0] 67)).cell? ⟨w.heap.size, 0, none⟩ = some (.int .i64 0) := by go_simp
 have f00 : (((w.alloc (.cells #[.int .i64 0, .int .i64 0] 67)).alloc (.cells #[.int .i64 0, .int .i64 0] 67)).alloc (.cells #[.int .i64 0, .int .i64 0] 67)).frozen? ⟨w.heap.size, 0, none⟩ = false := by go_simp
 have c01 : (((w.alloc (.cells #[.int .i64 0, .int .i64 0] 67)).alloc (.cells #[.int .i64 0, .int .i64 0] 67)).alloc (.cells #[.int .i64 0, .int .i64 0] 67)).cell? ⟨w.heap.size, 1, none⟩ = some (.int .i64 0) := by go_simp
 have f01 : (((w.alloc (.cells #[.int .i64 0, .int .i64 0] 67)).alloc (.cells #[.int .i64 0, .int .i64 0] 67)).alloc (.cells #[.int .i64 0, .int .i64 0] 67)).frozen? ⟨w.heap.size, 1, none⟩ = false := by go_simp
 have c10 : (((w.alloc (.cells #[.int .i64 0, .int .i64 0] 67)).alloc (.cells #[.int .i64 0, .int .i64 0] 67)).alloc (.cells #[.int .i64 0, .int .i64 0] 67)).cell? ⟨w.heap.size + 1, 0, none⟩ = some (.int .i64 0) := by go_simp
 have f10 : (((w.alloc (.cells #[.int .i64 0, .int .i64 0] 67)).alloc (.cells #[.int .i64 0, .int .i64 0] 67)).alloc (.cells #[.int .i64 0, .int .i64 0] 67)).frozen? ⟨w.heap.size + 1, 0, none⟩ = false := by go_simp
 have c11 : (((w.alloc (.cells #[.int .i64 0, .int .i64 0] 67)).alloc (.cells #[.int .i64 0, .int .i64 0] 67)).alloc (.cells #[.int .i64 0, .int .i64 0] 67)).cell? ⟨w.heap.size + 1, 1, none⟩ = some (.int .i64 0) := by go_simp
 have f11 : (((w.alloc (.cells #[.int .i64 0, .int .i64 0] 67)).alloc (.cells #[.int .i64 0, .int .i64 0] 67)).alloc (.cells #[.int .i64 0, .int .i64 0] 67)).frozen? ⟨w.heap.size + 1, 1, none⟩ = false := by go_simp
 have c20 : (((w.alloc (.cells #[.int .i64 0, .int .i64 0] 67)).alloc (.cells #[.int .i64 0, .int .i64 0] 67)).alloc (.cells #[.int .i64 0, .int .i64 0] 67)).cell? ⟨w.heap.size + 1 + 1, 0, none⟩ = some (.int .i64 0) := by go_simp
 have f20 : (((w.alloc (.cells #[.int .i64 0, .int .i64 0] 67)).alloc (.cells #[.int .i64 0, .int .i64 0] 67)).alloc (.cells #[.int .i64 0, .int .i64 0] 67)).frozen? ⟨w.heap.size + 1 + 1, 0, none⟩ = false := by go_simp
 have c21 : (((w.alloc (.cells #[.int .i64 0, .int .i64 0] 67)).alloc (.cells #[.int .i64 0, .int .i64 0] 67)).alloc (.cells #[.int .i64 0, .int .i64 0] 67)).cell? ⟨w.heap.size + 1 + 1, 1, none⟩ = some (.int .i64 0) := by go_simp
 have f21 : (((w.alloc (.cells #[.int .i64 0, .int .i64 0] 67)).alloc (.cells #[.int .i64 0, .int .i64 0] 67)).alloc (.cells #[.int .i64 0, .int .i64 0] 67)).frozen? ⟨w.heap.size + 1 + 1, 1, none⟩ = false := by go_simp
 have HB := Hn BA
 obtain ⟨Pv, cv, hv, _, _⟩ := h.shape
 have HV := Hn hv
 clear h hna hnb ha hb BA hv
 generalize A.length = na at *
 generalize B.length = nb at *
 go_enter Tryz.func17, Tryz.ntmps17
 go_upto_region 1 with fail
 generalize hw1 : (((w.alloc (.cells #[.int .i64 0, .int .i64 0] 67)).alloc (.cells #[.int .i64 0, .int .i64 0] 67)).alloc (.cells #[.int .i64 0, .int .i64 0] 67)) = w1 at *
 go_upto_region 2 with (go_at_call 55; refine C0.out.mono ?_; rintro e w2 ⟨rfl, hb⟩; have B2 := Hn hb; have C2 := Hn (C1.out w2 hb); clear hb C0 C1)
 go_upto_region 3 with (go_at_call 55; refine C2.out.mono ?_; rintro e w3 ⟨rfl, hb⟩; have B3 := Hn (bl_trans B2.out hb); clear hb C2)
 have HR : Hid (w3.there w.heap.size 0 2 ∧ w3.there (w.heap.size + 1) 0 2 ∧ w3.there (w.heap.size + 1 + 1) 0 2) := Hn ⟨there_bl (there2 c00 c01 f00 f01) B3.out, there_bl (there2 c10 c11 f10 f11) B3.out, there_bl (there2 c20 c21 f20 f21) B3.out⟩
 have d00 := cell_keep c00 B3.out
 have g00 : w3.frozen? ⟨w.heap.size, 0, none⟩ = false := (HR.out.1 0 (by omega)).2
 have d01 := cell_keep c01 B3.out
 have g01 : w3.frozen? ⟨w.heap.size, 1, none⟩ = false := (HR.out.1 1 (by omega)).2
 have d10 := cell_keep c10 B3.out
 have g10 : w3.frozen? ⟨w.heap.size + 1, 0, none⟩ = false := (HR.out.2.1 0 (by omega)).2
 have d11 := cell_keep c11 B3.out
 have g11 : w3.frozen? ⟨w.heap.size + 1, 1, none⟩ = false := (HR.out.2.1 1 (by omega)).2
 have d20 := cell_keep c20 B3.out
 have g20 : w3.frozen? ⟨w.heap.size + 1 + 1, 0, none⟩ = false := (HR.out.2.2 0 (by omega)).2
 have d21 := cell_keep c21 B3.out
 have g21 : w3.frozen? ⟨w.heap.size + 1 + 1, 1, none⟩ = false := (HR.out.2.2 1 (by omega)).2
 clear c00 f00 c01 f01 c10 f10 c11 f11 c20 f20 c21 f21
 have BT : Hid (Below w.heap.size w w3) := Hn (bl_trans HB.out B3.out)
 clear HB B3 B2 hw1 HR
 go_wp2_with fail
 have BW : Below w.heap.size w3 ((((((w3.setCell ⟨w.heap.size, 0, none⟩ (.int .i64 0)).setCell ⟨w.heap.size, 1, none⟩ (.int .i64 0)).setCell ⟨w.heap.size + 1, 0, none⟩ (.int .i64 0)).setCell ⟨w.heap.size + 1, 1, none⟩ (.int .i64 0)).setCell ⟨w.heap.size + 1 + 1, 0, none⟩ (.int .i64 0)).setCell ⟨w.heap.size + 1 + 1, 1, none⟩ (.int .i64 0)) := bl_cell (bl_cell (bl_cell (bl_cell (bl_cell (bl_cell (Below.refl _ _) (by omega)) (by omega)) (by omega)) (by omega)) (by omega)) (by omega)
 refine bodyPost_ret (v := tup 0 0 0 0 0 0 200) (by simp [results, Tryz.results17, go_sem, d00, d01, d10, d11, d20, d21, tup]) rfl ⟨rfl, BT.out.trans BW⟩
theorem dMultiply_full1 {base : Nat} {w : World} {s m Kg : Nat} {v : Value} {vs : List Value} {Q : List (List Tm)} (h : Dy base w s m Kg v vs Q) (Pa Pb : Option Addr) (ca cb : Nat) (A B : List Tm) (hna : A.length ≤ 2932031007400) (hnb : B.length ≤ 2932031007400) (ha : Lt w Pa A.length (ft A)) (hb : Lt w Pb B.length (ft B)) (hwa : wkB m Kg A = true) (hwb : wkB m Kg B = true) (hf : 1024 ≤ Kg) :
  Calls Tryz.prog 17 #[.pointer (some ⟨s, 0, none⟩), .slice Pa A.length ca, .slice Pb B.length cb] w fun e w' => e = .returned (tup 0 0 0 0 0 0 201) ∧ Below w.heap.size w w' := by
 have BA := bl_alloc3 w (.cells #[.int .i64 0, .int .i64 0] 67) (.cells #[.int .i64 0, .int .i64 0] 67) (.cells #[.int .i64 0, .int .i64 0] 67)
 have HH := Hn (h.keep BA)
 have C0 := Hn (Known_any (h.keep BA) Pa ca A hna (ha.keep BA))
 have C1 := Hn (fun y (hy : Below (((w.alloc (.cells #[.int .i64 0, .int .i64 0] 67)).alloc (.cells #[.int .i64 0, .int .i64 0] 67)).alloc (.cells #[.int .i64 0, .int .i64 0] 67)).heap.size (((w.alloc (.cells #[.int .i64 0, .int .i64 0] 67)).alloc (.cells #[.int .i64 0, .int .i64 0] 67)).alloc (.cells #[.int .i64 0, .int .i64 0] 67)) y) => Known_any ((h.keep BA).keep hy) Pb cb B hnb ((hb.keep BA).keep hy))
 unfold wkB at hwa hwb
 rw [hwa] at C0
 rw [hwb] at C1
 have HF := Hn hf
 clear hwa hwb hf
 have c00 : (((w.alloc (.cells #[.int .i64 0, .int .i64 0] 67)).alloc (.cells #[.int .i64 0, .int .i64 0] 67)).alloc (.cells #[.int .i64 0, .int .i64 0] 67)).cell? ⟨w.heap.size, 0, none⟩ = some (.int .i64 0) := by go_simp
 have f00 : (((w.alloc (.cells #[.int .i64 0, .int .i64 0] 67)).alloc (.cells #[.int .i64 0, .int .i64 0] 67)).alloc (.cells #[.int .i64 0, .int .i64 0] 67)).frozen? ⟨w.heap.size, 0, none⟩ = false := by go_simp
 have c01 : (((w.alloc (.cells #[.int .i64 0, .int .i64 0] 67)).alloc (.cells #[.int .i64 0, .int .i64 0] 67)).alloc (.cells #[.int .i64 0, .int .i64 0] 67)).cell? ⟨w.heap.size, 1, none⟩ = some (.int .i64 0) := by go_simp
 have f01 : (((w.alloc (.cells #[.int .i64 0, .int .i64 0] 67)).alloc (.cells #[.int .i64 0, .int .i64 0] 67)).alloc (.cells #[.int .i64 0, .int .i64 0] 67)).frozen? ⟨w.heap.size, 1, none⟩ = false := by go_simp
 have c10 : (((w.alloc (.cells #[.int .i64 0, .int .i64 0] 67)).alloc (.cells #[.int .i64 0, .int .i64 0] 67)).alloc (.cells #[.int .i64 0, .int .i64 0] 67)).cell? ⟨w.heap.size + 1, 0, none⟩ = some (.int .i64 0) := by go_simp
 have f10 : (((w.alloc (.cells #[.int .i64 0, .int .i64 0] 67)).alloc (.cells #[.int .i64 0, .int .i64 0] 67)).alloc (.cells #[.int .i64 0, .int .i64 0] 67)).frozen? ⟨w.heap.size + 1, 0, none⟩ = false := by go_simp
 have c11 : (((w.alloc (.cells #[.int .i64 0, .int .i64 0] 67)).alloc (.cells #[.int .i64 0, .int .i64 0] 67)).alloc (.cells #[.int .i64 0, .int .i64 0] 67)).cell? ⟨w.heap.size + 1, 1, none⟩ = some (.int .i64 0) := by go_simp
 have f11 : (((w.alloc (.cells #[.int .i64 0, .int .i64 0] 67)).alloc (.cells #[.int .i64 0, .int .i64 0] 67)).alloc (.cells #[.int .i64 0, .int .i64 0] 67)).frozen? ⟨w.heap.size + 1, 1, none⟩ = false := by go_simp
 have c20 : (((w.alloc (.cells #[.int .i64 0, .int .i64 0] 67)).alloc (.cells #[.int .i64 0, .int .i64 0] 67)).alloc (.cells #[.int .i64 0, .int .i64 0] 67)).cell? ⟨w.heap.size + 1 + 1, 0, none⟩ = some (.int .i64 0) := by go_simp
 have f20 : (((w.alloc (.cells #[.int .i64 0, .int .i64 0] 67)).alloc (.cells #[.int .i64 0, .int .i64 0] 67)).alloc (.cells #[.int .i64 0, .int .i64 0] 67)).frozen? ⟨w.heap.size + 1 + 1, 0, none⟩ = false := by go_simp
 have c21 : (((w.alloc (.cells #[.int .i64 0, .int .i64 0] 67)).alloc (.cells #[.int .i64 0, .int .i64 0] 67)).alloc (.cells #[.int .i64 0, .int .i64 0] 67)).cell? ⟨w.heap.size + 1 + 1, 1, none⟩ = some (.int .i64 0) := by go_simp
 have f21 : (((w.alloc (.cells #[.int .i64 0, .int .i64 0] 67)).alloc (.cells #[.int .i64 0, .int .i64 0] 67)).alloc (.cells #[.int .i64 0, .int .i64 0] 67)).frozen? ⟨w.heap.size + 1 + 1, 1, none⟩ = false := by go_simp
 have HB := Hn BA
 obtain ⟨Pv, cv, hv, _, _⟩ := h.shape
 have HV := Hn hv
 clear h hna hnb ha hb BA hv
 generalize A.length = na at *
 generalize B.length = nb at *
 go_enter Tryz.func17, Tryz.ntmps17
 go_upto_region 1 with fail
 generalize hw1 : (((w.alloc (.cells #[.int .i64 0, .int .i64 0] 67)).alloc (.cells #[.int .i64 0, .int .i64 0] 67)).alloc (.cells #[.int .i64 0, .int .i64 0] 67)) = w1 at *
 go_upto_region 2 with (go_at_call 55; refine C0.out.mono ?_; rintro e w2 ⟨rfl, hb⟩; have B2 := Hn hb; have C2 := Hn (C1.out w2 hb); clear hb C0 C1)
 go_upto_region 3 with (go_at_call 55; refine C2.out.mono ?_; rintro e w3 ⟨rfl, hb⟩; have B3 := Hn (bl_trans B2.out hb); clear hb C2)
 have HR : Hid (w3.there w.heap.size 0 2 ∧ w3.there (w.heap.size + 1) 0 2 ∧ w3.there (w.heap.size + 1 + 1) 0 2) := Hn ⟨there_bl (there2 c00 c01 f00 f01) B3.out, there_bl (there2 c10 c11 f10 f11) B3.out, there_bl (there2 c20 c21 f20 f21) B3.out⟩
 have k1 := cell_keep HH.out.c1 B3.out
 have k2 := cell_keep HH.out.c2 B3.out
 rw [HV.out] at k2
 have l1 : (1024 : Int) ≤ (Kg : Int) := by have := HF.out; omega
 have d00 := cell_keep c00 B3.out
 have g00 : w3.frozen? ⟨w.heap.size, 0, none⟩ = false := (HR.out.1 0 (by omega)).2
 have d01 := cell_keep c01 B3.out
 have g01 : w3.frozen? ⟨w.heap.size, 1, none⟩ = false := (HR.out.1 1 (by omega)).2
 have d10 := cell_keep c10 B3.out
 have g10 : w3.frozen? ⟨w.heap.size + 1, 0, none⟩ = false := (HR.out.2.1 0 (by omega)).2
 have d11 := cell_keep c11 B3.out
 have g11 : w3.frozen? ⟨w.heap.size + 1, 1, none⟩ = false := (HR.out.2.1 1 (by omega)).2
 have d20 := cell_keep c20 B3.out
 have g20 : w3.frozen? ⟨w.heap.size + 1 + 1, 0, none⟩ = false := (HR.out.2.2 0 (by omega)).2
 have d21 := cell_keep c21 B3.out
 have g21 : w3.frozen? ⟨w.heap.size + 1 + 1, 1, none⟩ = false := (HR.out.2.2 1 (by omega)).2
 clear c00 f00 c01 f01 c10 f10 c11 f11 c20 f20 c21 f21
 have BT : Hid (Below w.heap.size w w3) := Hn (bl_trans HB.out B3.out)
 clear HB B3 B2 hw1 HR
 go_wp2_with fail
 have BW : Below w.heap.size w3 ((((((w3.setCell ⟨w.heap.size, 0, none⟩ (.int .i64 0)).setCell ⟨w.heap.size, 1, none⟩ (.int .i64 0)).setCell ⟨w.heap.size + 1, 0, none⟩ (.int .i64 0)).setCell ⟨w.heap.size + 1, 1, none⟩ (.int .i64 0)).setCell ⟨w.heap.size + 1 + 1, 0, none⟩ (.int .i64 0)).setCell ⟨w.heap.size + 1 + 1, 1, none⟩ (.int .i64 0)) := bl_cell (bl_cell (bl_cell (bl_cell (bl_cell (bl_cell (Below.refl _ _) (by omega)) (by omega)) (by omega)) (by omega)) (by omega)) (by omega)
 refine bodyPost_ret (v := tup 0 0 0 0 0 0 201) (by simp [results, Tryz.results17, go_sem, d00, d01, d10, d11, d20, d21, tup]) rfl ⟨rfl, BT.out.trans BW⟩
theorem dMultiply_full2 {base : Nat} {w : World} {s m Kg : Nat} {v : Value} {vs : List Value} {Q : List (List Tm)} (h : Dy base w s m Kg v vs Q) (Pa Pb : Option Addr) (ca cb : Nat) (A B : List Tm) (hna : A.length ≤ 2932031007400) (hnb : B.length ≤ 2932031007400) (ha : Lt w Pa A.length (ft A)) (hb : Lt w Pb B.length (ft B)) (hwa : wkB m Kg A = true) (hwb : wkB m Kg B = true) (hf : Kg < 1024 ∧ 4094 < Q.length) :
  Calls Tryz.prog 17 #[.pointer (some ⟨s, 0, none⟩), .slice Pa A.length ca, .slice Pb B.length cb] w fun e w' => e = .returned (tup 0 0 0 0 0 0 201) ∧ Below w.heap.size w w' := by
 have BA := bl_alloc3 w (.cells #[.int .i64 0, .int .i64 0] 67) (.cells #[.int .i64 0, .int .i64 0] 67) (.cells #[.int .i64 0, .int .i64 0] 67)
 have HH := Hn (h.keep BA)
 have C0 := Hn (Known_any (h.keep BA) Pa ca A hna (ha.keep BA))
 have C1 := Hn (fun y (hy : Below (((w.alloc (.cells #[.int .i64 0, .int .i64 0] 67)).alloc (.cells #[.int .i64 0, .int .i64 0] 67)).alloc (.cells #[.int .i64 0, .int .i64 0] 67)).heap.size (((w.alloc (.cells #[.int .i64 0, .int .i64 0] 67)).alloc (.cells #[.int .i64 0, .int .i64 0] 67)).alloc (.cells #[.int .i64 0, .int .i64 0] 67)) y) => Known_any ((h.keep BA).keep hy) Pb cb B hnb ((hb.keep BA).keep hy))
 unfold wkB at hwa hwb
 rw [hwa] at C0
 rw [hwb] at C1
 have HF := Hn hf
 clear hwa hwb hf
 have c00 : (((w.alloc (.cells #[.int .i64 0, .int .i64 0] 67)).alloc (.cells #[.int .i64 0, .int .i64 0] 67)).alloc (.cells #[.int .i64 0, .int .i64 0] 67)).cell? ⟨w.heap.size, 0, none⟩ = some (.int .i64 0) := by go_simp
 have f00 : (((w.alloc (.cells #[.int .i64 0, .int .i64 0] 67)).alloc (.cells #[.int .i64 0, .int .i64 0] 67)).alloc (.cells #[.int .i64 0, .int .i64 0] 67)).frozen? ⟨w.heap.size, 0, none⟩ = false := by go_simp
 have c01 : (((w.alloc (.cells #[.int .i64 0, .int .i64 0] 67)).alloc (.cells #[.int .i64 0, .int .i64 0] 67)).alloc (.cells #[.int .i64 0, .int .i64 0] 67)).cell? ⟨w.heap.size, 1, none⟩ = some (.int .i64 0) := by go_simp
 have f01 : (((w.alloc (.cells #[.int .i64 0, .int .i64 0] 67)).alloc (.cells #[.int .i64 0, .int .i64 0] 67)).alloc (.cells #[.int .i64 0, .int .i64 0] 67)).frozen? ⟨w.heap.size, 1, none⟩ = false := by go_simp
 have c10 : (((w.alloc (.cells #[.int .i64 0, .int .i64 0] 67)).alloc (.cells #[.int .i64 0, .int .i64 0] 67)).alloc (.cells #[.int .i64 0, .int .i64 0] 67)).cell? ⟨w.heap.size + 1, 0, none⟩ = some (.int .i64 0) := by go_simp
 have f10 : (((w.alloc (.cells #[.int .i64 0, .int .i64 0] 67)).alloc (.cells #[.int .i64 0, .int .i64 0] 67)).alloc (.cells #[.int .i64 0, .int .i64 0] 67)).frozen? ⟨w.heap.size + 1, 0, none⟩ = false := by go_simp
 have c11 : (((w.alloc (.cells #[.int .i64 0, .int .i64 0] 67)).alloc (.cells #[.int .i64 0, .int .i64 0] 67)).alloc (.cells #[.int .i64 0, .int .i64 0] 67)).cell? ⟨w.heap.size + 1, 1, none⟩ = some (.int .i64 0) := by go_simp
 have f11 : (((w.alloc (.cells #[.int .i64 0, .int .i64 0] 67)).alloc (.cells #[.int .i64 0, .int .i64 0] 67)).alloc (.cells #[.int .i64 0, .int .i64 0] 67)).frozen? ⟨w.heap.size + 1, 1, none⟩ = false := by go_simp
 have c20 : (((w.alloc (.cells #[.int .i64 0, .int .i64 0] 67)).alloc (.cells #[.int .i64 0, .int .i64 0] 67)).alloc (.cells #[.int .i64 0, .int .i64 0] 67)).cell? ⟨w.heap.size + 1 + 1, 0, none⟩ = some (.int .i64 0) := by go_simp
 have f20 : (((w.alloc (.cells #[.int .i64 0, .int .i64 0] 67)).alloc (.cells #[.int .i64 0, .int .i64 0] 67)).alloc (.cells #[.int .i64 0, .int .i64 0] 67)).frozen? ⟨w.heap.size + 1 + 1, 0, none⟩ = false := by go_simp
 have c21 : (((w.alloc (.cells #[.int .i64 0, .int .i64 0] 67)).alloc (.cells #[.int .i64 0, .int .i64 0] 67)).alloc (.cells #[.int .i64 0, .int .i64 0] 67)).cell? ⟨w.heap.size + 1 + 1, 1, none⟩ = some (.int .i64 0) := by go_simp
 have f21 : (((w.alloc (.cells #[.int .i64 0, .int .i64 0] 67)).alloc (.cells #[.int .i64 0, .int .i64 0] 67)).alloc (.cells #[.int .i64 0, .int .i64 0] 67)).frozen? ⟨w.heap.size + 1 + 1, 1, none⟩ = false := by go_simp
 have HB := Hn BA
 obtain ⟨Pv, cv, hv, _, _⟩ := h.shape
 have HV := Hn hv
 clear h hna hnb ha hb BA hv
 generalize A.length = na at *
 generalize B.length = nb at *
 go_enter Tryz.func17, Tryz.ntmps17
 go_upto_region 1 with fail
 generalize hw1 : (((w.alloc (.cells #[.int .i64 0, .int .i64 0] 67)).alloc (.cells #[.int .i64 0, .int .i64 0] 67)).alloc (.cells #[.int .i64 0, .int .i64 0] 67)) = w1 at *
 go_upto_region 2 with (go_at_call 55; refine C0.out.mono ?_; rintro e w2 ⟨rfl, hb⟩; have B2 := Hn hb; have C2 := Hn (C1.out w2 hb); clear hb C0 C1)
 go_upto_region 3 with (go_at_call 55; refine C2.out.mono ?_; rintro e w3 ⟨rfl, hb⟩; have B3 := Hn (bl_trans B2.out hb); clear hb C2)
 have HR : Hid (w3.there w.heap.size 0 2 ∧ w3.there (w.heap.size + 1) 0 2 ∧ w3.there (w.heap.size + 1 + 1) 0 2) := Hn ⟨there_bl (there2 c00 c01 f00 f01) B3.out, there_bl (there2 c10 c11 f10 f11) B3.out, there_bl (there2 c20 c21 f20 f21) B3.out⟩
 have k1 := cell_keep HH.out.c1 B3.out
 have k2 := cell_keep HH.out.c2 B3.out
 rw [HV.out] at k2
 have l1 : ¬ (1024 : Int) ≤ (Kg : Int) := by have := HF.out; omega
 have l2 : (4094 : Int) < (Q.length : Int) := by have := HF.out; omega
 have d00 := cell_keep c00 B3.out
 have g00 : w3.frozen? ⟨w.heap.size, 0, none⟩ = false := (HR.out.1 0 (by omega)).2
 have d01 := cell_keep c01 B3.out
 have g01 : w3.frozen? ⟨w.heap.size, 1, none⟩ = false := (HR.out.1 1 (by omega)).2
 have d10 := cell_keep c10 B3.out
 have g10 : w3.frozen? ⟨w.heap.size + 1, 0, none⟩ = false := (HR.out.2.1 0 (by omega)).2
 have d11 := cell_keep c11 B3.out
 have g11 : w3.frozen? ⟨w.heap.size + 1, 1, none⟩ = false := (HR.out.2.1 1 (by omega)).2
 have d20 := cell_keep c20 B3.out
 have g20 : w3.frozen? ⟨w.heap.size + 1 + 1, 0, none⟩ = false := (HR.out.2.2 0 (by omega)).2
 have d21 := cell_keep c21 B3.out
 have g21 : w3.frozen? ⟨w.heap.size + 1 + 1, 1, none⟩ = false := (HR.out.2.2 1 (by omega)).2
 clear c00 f00 c01 f01 c10 f10 c11 f11 c20 f20 c21 f21
 have BT : Hid (Below w.heap.size w w3) := Hn (bl_trans HB.out B3.out)
 clear HB B3 B2 hw1 HR
 go_wp2_with fail
 have BW : Below w.heap.size w3 ((((((w3.setCell ⟨w.heap.size, 0, none⟩ (.int .i64 0)).setCell ⟨w.heap.size, 1, none⟩ (.int .i64 0)).setCell ⟨w.heap.size + 1, 0, none⟩ (.int .i64 0)).setCell ⟨w.heap.size + 1, 1, none⟩ (.int .i64 0)).setCell ⟨w.heap.size + 1 + 1, 0, none⟩ (.int .i64 0)).setCell ⟨w.heap.size + 1 + 1, 1, none⟩ (.int .i64 0)) := bl_cell (bl_cell (bl_cell (bl_cell (bl_cell (bl_cell (Below.refl _ _) (by omega)) (by omega)) (by omega)) (by omega)) (by omega)) (by omega)
 refine bodyPost_ret (v := tup 0 0 0 0 0 0 201) (by simp [results, Tryz.results17, go_sem, d00, d01, d10, d11, d20, d21, tup]) rfl ⟨rfl, BT.out.trans BW⟩
end Ci
end Go.Proofs.YtghcfcglakbkeaaGreatDoor
