import Derived.Test.YtkoilaoogphgfaaGreatDoorDyb
namespace Go.Proofs.YtkoilaoogphgfaaGreatDoor
open Go.RowKit
set_option linter.unusedVariables false
set_option linter.unusedSimpArgs false
open Cm (Wr Tm co bf Ls lf ins Eqm)
namespace Ci
set_option maxRecDepth 100000
set_option maxHeartbeats 4000000
theorem dGate_ok {base : Nat} {w : World} {s m Kg : Nat} {v : Value} {vs : List Value} {Q : List (List Tm)} (h : Dy base w s m Kg v vs Q) (hK : Kg < 1024) : Calls Tryz.prog 14 #[.pointer (some ⟨s, 0, none⟩)] w fun e w' => e = .returned (tup 2 Kg 3 Kg 4 Kg 0) ∧ Dy base w' s m (Kg + 1) v vs Q ∧ w.grownBy w' (some s) := by
 have BA := bl_alloc3 w (.cells #[.int .i64 0, .int .i64 0] 64) (.cells #[.int .i64 0, .int .i64 0] 64) (.cells #[.int .i64 0, .int .i64 0] 64)
 have hlt := h.lt
 have h1 := h.keep BA
 have c1 := h1.c1
 have fs := h1.fz 1
 have l0 : ¬ (1024 : Int) ≤ (Kg : Int) := by omega
 have w9 : IntKind.i64.wrap ((Kg : Int) + 1) = (Kg : Int) + 1 := IntWalk.i64_in _ (by omega)
 have c00 : (((w.alloc (.cells #[.int .i64 0, .int .i64 0] 64)).alloc (.cells #[.int .i64 0, .int .i64 0] 64)).alloc (.cells #[.int .i64 0, .int .i64 0] 64)).cell? ⟨w.heap.size, 0, none⟩ = some (.int .i64 0) := by go_simp
 have f00 : (((w.alloc (.cells #[.int .i64 0, .int .i64 0] 64)).alloc (.cells #[.int .i64 0, .int .i64 0] 64)).alloc (.cells #[.int .i64 0, .int .i64 0] 64)).frozen? ⟨w.heap.size, 0, none⟩ = false := by go_simp
 have c01 : (((w.alloc (.cells #[.int .i64 0, .int .i64 0] 64)).alloc (.cells #[.int .i64 0, .int .i64 0] 64)).alloc (.cells #[.int .i64 0, .int .i64 0] 64)).cell? ⟨w.heap.size, 1, none⟩ = some (.int .i64 0) := by go_simp
 have f01 : (((w.alloc (.cells #[.int .i64 0, .int .i64 0] 64)).alloc (.cells #[.int .i64 0, .int .i64 0] 64)).alloc (.cells #[.int .i64 0, .int .i64 0] 64)).frozen? ⟨w.heap.size, 1, none⟩ = false := by go_simp
 have c10 : (((w.alloc (.cells #[.int .i64 0, .int .i64 0] 64)).alloc (.cells #[.int .i64 0, .int .i64 0] 64)).alloc (.cells #[.int .i64 0, .int .i64 0] 64)).cell? ⟨w.heap.size + 1, 0, none⟩ = some (.int .i64 0) := by go_simp
 have f10 : (((w.alloc (.cells #[.int .i64 0, .int .i64 0] 64)).alloc (.cells #[.int .i64 0, .int .i64 0] 64)).alloc (.cells #[.int .i64 0, .int .i64 0] 64)).frozen? ⟨w.heap.size + 1, 0, none⟩ = false := by go_simp
 have c11 : (((w.alloc (.cells #[.int .i64 0, .int .i64 0] 64)).alloc (.cells #[.int .i64 0, .int .i64 0] 64)).alloc (.cells #[.int .i64 0, .int .i64 0] 64)).cell? ⟨w.heap.size + 1, 1, none⟩ = some (.int .i64 0) := by go_simp
 have f11 : (((w.alloc (.cells #[.int .i64 0, .int .i64 0] 64)).alloc (.cells #[.int .i64 0, .int .i64 0] 64)).alloc (.cells #[.int .i64 0, .int .i64 0] 64)).frozen? ⟨w.heap.size + 1, 1, none⟩ = false := by go_simp
 have c20 : (((w.alloc (.cells #[.int .i64 0, .int .i64 0] 64)).alloc (.cells #[.int .i64 0, .int .i64 0] 64)).alloc (.cells #[.int .i64 0, .int .i64 0] 64)).cell? ⟨w.heap.size + 1 + 1, 0, none⟩ = some (.int .i64 0) := by go_simp
 have f20 : (((w.alloc (.cells #[.int .i64 0, .int .i64 0] 64)).alloc (.cells #[.int .i64 0, .int .i64 0] 64)).alloc (.cells #[.int .i64 0, .int .i64 0] 64)).frozen? ⟨w.heap.size + 1 + 1, 0, none⟩ = false := by go_simp
 have c21 : (((w.alloc (.cells #[.int .i64 0, .int .i64 0] 64)).alloc (.cells #[.int .i64 0, .int .i64 0] 64)).alloc (.cells #[.int .i64 0, .int .i64 0] 64)).cell? ⟨w.heap.size + 1 + 1, 1, none⟩ = some (.int .i64 0) := by go_simp
 have f21 : (((w.alloc (.cells #[.int .i64 0, .int .i64 0] 64)).alloc (.cells #[.int .i64 0, .int .i64 0] 64)).alloc (.cells #[.int .i64 0, .int .i64 0] 64)).frozen? ⟨w.heap.size + 1 + 1, 1, none⟩ = false := by go_simp
 have G0 := hidden (gbI BA (some s))
 have S1 := hidden h1
 have HS := hidden h
 have SZ : Hid ((((w.alloc (.cells #[.int .i64 0, .int .i64 0] 64)).alloc (.cells #[.int .i64 0, .int .i64 0] 64)).alloc (.cells #[.int .i64 0, .int .i64 0] 64)).heap.size = w.heap.size + 1 + 1 + 1) := hidden (by simp)
 clear h hK BA h1
 go_enter Tryz.func14, Tryz.ntmps14
 go_upto_region 3 with fail
 generalize (((w.alloc (.cells #[.int .i64 0, .int .i64 0] 64)).alloc (.cells #[.int .i64 0, .int .i64 0] 64)).alloc (.cells #[.int .i64 0, .int .i64 0] 64)) = w1 at *
 go_upto_region 5 with fail
 have SG := hidden (Dy.gate S1.out)
 have G1 := hidden (gb_tr G0.out (gb_cell w1 s 1 (.int .i64 ((Kg : Int) + 1))))
 have d00 : (w1.setCell ⟨s, 1, none⟩ (.int .i64 ((Kg : Int) + 1))).cell? ⟨w.heap.size, 0, none⟩ = some (.int .i64 0) := by rw [World.cell?_setCell_far _ _ _ _ (by simp; omega)]; exact c00
 have g00 : (w1.setCell ⟨s, 1, none⟩ (.int .i64 ((Kg : Int) + 1))).frozen? ⟨w.heap.size, 0, none⟩ = false := by rw [World.frozen?_setCell]; exact f00
 have d01 : (w1.setCell ⟨s, 1, none⟩ (.int .i64 ((Kg : Int) + 1))).cell? ⟨w.heap.size, 1, none⟩ = some (.int .i64 0) := by rw [World.cell?_setCell_far _ _ _ _ (by simp; omega)]; exact c01
 have g01 : (w1.setCell ⟨s, 1, none⟩ (.int .i64 ((Kg : Int) + 1))).frozen? ⟨w.heap.size, 1, none⟩ = false := by rw [World.frozen?_setCell]; exact f01
 have d10 : (w1.setCell ⟨s, 1, none⟩ (.int .i64 ((Kg : Int) + 1))).cell? ⟨w.heap.size + 1, 0, none⟩ = some (.int .i64 0) := by rw [World.cell?_setCell_far _ _ _ _ (by simp; omega)]; exact c10
 have g10 : (w1.setCell ⟨s, 1, none⟩ (.int .i64 ((Kg : Int) + 1))).frozen? ⟨w.heap.size + 1, 0, none⟩ = false := by rw [World.frozen?_setCell]; exact f10
 have d11 : (w1.setCell ⟨s, 1, none⟩ (.int .i64 ((Kg : Int) + 1))).cell? ⟨w.heap.size + 1, 1, none⟩ = some (.int .i64 0) := by rw [World.cell?_setCell_far _ _ _ _ (by simp; omega)]; exact c11
 have g11 : (w1.setCell ⟨s, 1, none⟩ (.int .i64 ((Kg : Int) + 1))).frozen? ⟨w.heap.size + 1, 1, none⟩ = false := by rw [World.frozen?_setCell]; exact f11
 have d20 : (w1.setCell ⟨s, 1, none⟩ (.int .i64 ((Kg : Int) + 1))).cell? ⟨w.heap.size + 1 + 1, 0, none⟩ = some (.int .i64 0) := by rw [World.cell?_setCell_far _ _ _ _ (by simp; omega)]; exact c20
 have g20 : (w1.setCell ⟨s, 1, none⟩ (.int .i64 ((Kg : Int) + 1))).frozen? ⟨w.heap.size + 1 + 1, 0, none⟩ = false := by rw [World.frozen?_setCell]; exact f20
 have d21 : (w1.setCell ⟨s, 1, none⟩ (.int .i64 ((Kg : Int) + 1))).cell? ⟨w.heap.size + 1 + 1, 1, none⟩ = some (.int .i64 0) := by rw [World.cell?_setCell_far _ _ _ _ (by simp; omega)]; exact c21
 have g21 : (w1.setCell ⟨s, 1, none⟩ (.int .i64 ((Kg : Int) + 1))).frozen? ⟨w.heap.size + 1 + 1, 1, none⟩ = false := by rw [World.frozen?_setCell]; exact f21
 have SZ2 : Hid ((w1.setCell ⟨s, 1, none⟩ (.int .i64 ((Kg : Int) + 1))).heap.size = w.heap.size + 1 + 1 + 1) := hidden (by rw [World.size_setCell]; exact SZ.out)
 clear c00 c01 f00 f01 c10 c11 f10 f11 c20 c21 f20 f21 c1 fs
 generalize (w1.setCell ⟨s, 1, none⟩ (.int .i64 ((Kg : Int) + 1))) = w2 at *
 have HL := hidden hlt
 go_wp2_with fail
 have BW : Below w.heap.size w2 ((((((w2.setCell ⟨w.heap.size, 0, none⟩ (.int .i64 2)).setCell ⟨w.heap.size, 1, none⟩ (.int .i64 (Kg : Int))).setCell ⟨w.heap.size + 1, 0, none⟩ (.int .i64 3)).setCell ⟨w.heap.size + 1, 1, none⟩ (.int .i64 (Kg : Int))).setCell ⟨w.heap.size + 1 + 1, 0, none⟩ (.int .i64 4)).setCell ⟨w.heap.size + 1 + 1, 1, none⟩ (.int .i64 (Kg : Int))) := bl_cell (bl_cell (bl_cell (bl_cell (bl_cell (bl_cell (Below.refl _ _) (by omega)) (by omega)) (by omega)) (by omega)) (by omega)) (by omega)
 refine bodyPost_ret (v := tup 2 Kg 3 Kg 4 Kg 0) (by simp [results, Tryz.results14, go_sem, d00, d01, d10, d11, d20, d21, tup]) rfl ⟨rfl, Dy.under HS.out SG.out BW, gb_below G1.out BW⟩
theorem llinfoD : (Tryz.prog.info? 70) = some (Tryz.prog.info? 70).get! := by kernel_rfl
def RqD (base : Nat) (w : World) (s m Kg : Nat) (v : Value) (vs : List Value) (Q : List (List Tm)) (X : List Tm) (w' : World) : Prop := ∃ v' u, Dy base w' s m Kg v' (vs ++ [u]) (Q ++ [X]) ∧ Fz s v w w' ∧ ∀ k, u.ownBlock = some k → w.heap.size ≤ k
theorem dRequire_wire {base : Nat} {w : World} {s m Kg : Nat} {v : Value} {vs : List Value} {Q : List (List Tm)} (h : Dy base w s m Kg v vs Q) (P : Option Addr) (c : Nat) (Y : List Tm) (hn : Y.length ≤ 2932031007400) (hL : Lt w P Y.length (ft Y)) (hw : nm m Kg (lf Sm.L Y).length (ft (lf Sm.L Y)) = false) :
  Calls Tryz.prog 17 #[.pointer (some ⟨s, 0, none⟩), .slice P Y.length c] w fun e w' => e = .returned (.int .i64 200) ∧ Below w.heap.size w w' := by
 have C0 := hidden (Known_any h P c Y hn hL)
 rw [hw] at C0
 generalize Y.length = ny at *
 clear h hn hL hw
 go_enter Tryz.func17, Tryz.ntmps17
 go_wp2_with (go_at_call 28; refine C0.out.mono ?_; rintro e w1 ⟨rfl, hb⟩; have B1 := hidden hb; clear hb)
 refine bodyPost_ret (v := .int .i64 200) (by simp [results, Tryz.results17, go_sem]) rfl ⟨rfl, B1.out⟩
theorem dRequire_full {base : Nat} {w : World} {s m Kg : Nat} {v : Value} {vs : List Value} {Q : List (List Tm)} (h : Dy base w s m Kg v vs Q) (P : Option Addr) (c : Nat) (Y : List Tm) (hn : Y.length ≤ 2932031007400) (hL : Lt w P Y.length (ft Y)) (hw : nm m Kg (lf Sm.L Y).length (ft (lf Sm.L Y)) = true) (hq : 4096 ≤ Q.length) :
  Calls Tryz.prog 17 #[.pointer (some ⟨s, 0, none⟩), .slice P Y.length c] w fun e w' => e = .returned (.int .i64 201) ∧ Below w.heap.size w w' := by
 have C0 := hidden (Known_any h P c Y hn hL)
 rw [hw] at C0
 have C1 := hidden (fun y (hy : Below w.heap.size w y) => dLeast_any P c Y y hn (hL.keep hy))
 have K2 := hidden (fun y (hy : Below w.heap.size w y) => (h.keep hy).c2)
 obtain ⟨Pv, cv, hv, _, _⟩ := h.shape
 subst hv
 generalize Y.length = ny at *
 generalize lf Sm.L Y = X at *
 have l9 : (4096 : Int) ≤ (Q.length : Int) := by omega
 generalize Q.length = nq at *
 clear h hn hL hw hq
 go_enter Tryz.func17, Tryz.ntmps17
 go_upto_region 4 with (go_at_call 28; refine C0.out.mono ?_; rintro e w1 ⟨rfl, hb⟩; have B1 := hidden hb; clear hb)
 clear C0
 have C2 := hidden (C1.out w1 B1.out)
 clear C1
 go_upto_region 5 with (go_at_call 29; refine C2.out.mono ?_; rintro e w2 ⟨v2, rfl, hd⟩; have B2 := hidden (bl_trans B1.out hd.2); clear hd)
 have k2 := K2.out w2 B2.out
 clear K2 C2
 go_wp2_with fail
 refine bodyPost_ret (v := .int .i64 201) (by simp [results, Tryz.results17, go_sem]) rfl ⟨rfl, B2.out⟩
theorem dRequire_ok {base : Nat} {w : World} {s m Kg : Nat} {v : Value} {vs : List Value} {Q : List (List Tm)} (h : Dy base w s m Kg v vs Q) (P : Option Addr) (c : Nat) (Y : List Tm) (hn : Y.length ≤ 2932031007400) (hL : Lt w P Y.length (ft Y)) (hw : nm m Kg (lf Sm.L Y).length (ft (lf Sm.L Y)) = true) (hq : Q.length < 4096) :
  Calls Tryz.prog 17 #[.pointer (some ⟨s, 0, none⟩), .slice P Y.length c] w fun e w' => e = .returned (.int .i64 0) ∧ RqD base w s m Kg v vs Q (lf Sm.L Y) w' := by
 have C0 := hidden (Known_any h P c Y hn hL)
 rw [hw] at C0
 have C1 := hidden (fun y (hy : Below w.heap.size w y) => dLeast_any P c Y y hn (hL.keep hy))
 have LX := hidden (Cm.lf_ls L0 Y)
 generalize Y.length = ny at *
 generalize lf Sm.L Y = X at *
 have HS := hidden h
 obtain ⟨Pv, cv, hv, hlc, hpv⟩ := h.shape
 have HQ := hidden hq
 clear hn hL hw h hlc hpv hq
 go_enter Tryz.func17, Tryz.ntmps17
 go_upto_region 4 with (go_at_call 28; refine C0.out.mono ?_; rintro e w1 ⟨rfl, hb⟩; have B1 := hidden hb; clear hb)
 clear C0
 have C2 := hidden (C1.out w1 B1.out)
 clear C1
 go_upto_region 5 with (go_at_call 29; refine C2.out.mono ?_; rintro e w2 ⟨v2, rfl, hd⟩; have D2 := hidden hd; have B2 := hidden (bl_trans B1.out hd.2); clear hd)
 clear C2
 obtain ⟨P1, c1, e1, _, _⟩ := own_shT D2.out.1
 subst e1
 have s2 := HS.out.keep B2.out
 have k2 := s2.c2
 have z2 := s2.fz 2
 subst hv
 have l9 : ¬ (4096 : Int) ≤ (Q.length : Int) := by have := HQ.out; omega
 have O2 := hidden s2.row
 have HI := hidden llinfoD
 have HZ0 : Hid ((Tryz.prog.info? 70).get!.zero = some (.slice none 0 0)) := hidden (by kernel_rfl)
 have HZ1 : Hid ((Tryz.prog.info? 70).get!.size = 1) := hidden (by kernel_rfl)
 have HZ2 : Hid ((Tryz.prog.info? 70).get!.bytes = 24) := hidden (by kernel_rfl)
 have T1 : Hid (Tryz.prog.underlying 89 = some (.slice 70)) := hidden (by kernel_rfl)
 have BS : Hid (base ≤ w2.heap.size) := hidden (by have := s2.lt; have := s2.bs; omega)
 have UO := hidden (own_monoT D2.out.1 B1.out.size)
 have s2h := hidden s2.h
 clear s2
 generalize hnq : Q.length = nq at *
 have HNQ := hidden hnq
 generalize hxl : X.length = xl at *
 have HXL := hidden hxl
 clear hnq hxl
 go_upto_region 7 with fail
 go_wp2_with (first | (at_builtin; have x1 := own_keepT O2.out (bl_alloc w2 (.cells #[.slice P1 xl c1] 70)); have x2 := cells_newT w2 [.slice P1 xl c1] 70; have x3 : ∀ u ∈ ([.slice P1 xl c1] : List Value), u.oneCell' = true := (by simp [Value.oneCell']); have x4 : nq + 1 ≤ maxLen := (by have := HQ.out; unfold maxLen; omega); have x5 : (nq + 1) * 24 ≤ 140737488355328 := (by have := HQ.out; omega); have x6 : base ≤ (w2.alloc (.cells #[.slice P1 xl c1] 70)).heap.size := (by have := BS.out; simp; omega); refine wpList_append_own_at _ rfl _ _ 89 rfl base 70 _ _ 1 24 T1.out HI.out HZ0.out HZ1.out HZ2.out rfl (by decide) _ nq vs rfl x1 ⟨w2.heap.size, 0, none⟩ 1 1 [.slice P1 xl c1] rfl rfl x2 x3 x4 x5 x6 ?_; intro v4 w4 ho4 hg4 _ _; obtain ⟨P4, c4, e4⟩ := own_sh1 ho4; subst e4; have O4 := hidden ho4; have G4 := hidden hg4; have k4 : w4.cell? ⟨s, 2, none⟩ = some (.slice Pv nq cv) := cell_row2D s2h.out O2.out hg4; have z4 : w4.frozen? ⟨s, 2, none⟩ = false := fz_row2D s2h.out O2.out hg4; clear ho4 hg4 x1 x2 x3 x4 x5 x6))
 refine bodyPost_ret (v := .int .i64 0) (by simp [results, Tryz.results17, go_sem]) rfl ⟨rfl, ?_⟩
 have UO2 : (w2.alloc (.cells #[.slice P1 xl c1] 70)).ownsRow 0 77 6 (.slice P1 X.length c1) X.length (tls X) := by rw [HXL.out]; exact own_monoT (own_keepT UO.out (bl_alloc _ _)) (Nat.zero_le _)
 rw [HXL.out] at UO2
 rw [HNQ.out]
 have hh := rq_moreD HS.out (bl_trans B2.out (bl_alloc _ _)) UO2 LX.out HNQ.out HXL.out O4.out G4.out
 exact ⟨.slice P4 (nq + 1) c4, _, hh.1, hh.2, fun k hk => (UO.out.lt k hk).1⟩
end Ci
end Go.Proofs.YtkoilaoogphgfaaGreatDoor
