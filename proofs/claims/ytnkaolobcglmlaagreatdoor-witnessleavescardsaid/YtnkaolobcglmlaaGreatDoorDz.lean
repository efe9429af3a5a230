import Derived.Test.YtnkaolobcglmlaaGreatDoorDyb
import Derived.Test.YtnkaolobcglmlaaGreatDoorTk
namespace Go.Proofs.YtnkaolobcglmlaaGreatDoor
open Go.RowKit
set_option linter.unusedVariables false
set_option linter.unusedSimpArgs false
open Cm (Wr Tm co bf Ls lf ins Eqm)
namespace Ci
set_option maxRecDepth 100000
set_option maxHeartbeats 4000000
theorem dGate_ok {base : Nat} {w : World} {s m Kg : Nat} {v : Value} {vs : List Value} {Q : List (List Tm)} (h : Dy base w s m Kg v vs Q) (hK : Kg < 1024) : Calls Tryz.prog 8 #[.pointer (some ⟨s, 0, none⟩)] w fun e w' => e = .returned (tup 2 Kg 3 Kg 4 Kg 0) ∧ Dy base w' s m (Kg + 1) v vs Q ∧ w.grownBy w' (some s) := by
 have BA := bl_alloc3 w (.cells #[.int .i64 0, .int .i64 0] 51) (.cells #[.int .i64 0, .int .i64 0] 51) (.cells #[.int .i64 0, .int .i64 0] 51)
 have hlt := h.lt
 have h1 := h.keep BA
 have c1 := h1.c1
 have fs := h1.fz 1
 have l0 : ¬ (1024 : Int) ≤ (Kg : Int) := by omega
 have w9 : IntKind.i64.wrap ((Kg : Int) + 1) = (Kg : Int) + 1 := IntWalk.i64_in _ (by omega)
 have c00 : (((w.alloc (.cells #[.int .i64 0, .int .i64 0] 51)).alloc (.cells #[.int .i64 0, .int .i64 0] 51)).alloc (.cells #[.int .i64 0, .int .i64 0] 51)).cell? ⟨w.heap.size, 0, none⟩ = some (.int .i64 0) := by go_simp
 have f00 : (((w.alloc (.cells #[.int .i64 0, .int .i64 0] 51)).alloc (.cells #[.int .i64 0, .int .i64 0] 51)).alloc (.cells #[.int .i64 0, .int .i64 0] 51)).frozen? ⟨w.heap.size, 0, none⟩ = false := by go_simp
 have c01 : (((w.alloc (.cells #[.int .i64 0, .int .i64 0] 51)).alloc (.cells #[.int .i64 0, .int .i64 0] 51)).alloc (.cells #[.int .i64 0, .int .i64 0] 51)).cell? ⟨w.heap.size, 1, none⟩ = some (.int .i64 0) := by go_simp
 have f01 : (((w.alloc (.cells #[.int .i64 0, .int .i64 0] 51)).alloc (.cells #[.int .i64 0, .int .i64 0] 51)).alloc (.cells #[.int .i64 0, .int .i64 0] 51)).frozen? ⟨w.heap.size, 1, none⟩ = false := by go_simp
 have c10 : (((w.alloc (.cells #[.int .i64 0, .int .i64 0] 51)).alloc (.cells #[.int .i64 0, .int .i64 0] 51)).alloc (.cells #[.int .i64 0, .int .i64 0] 51)).cell? ⟨w.heap.size + 1, 0, none⟩ = some (.int .i64 0) := by go_simp
 have f10 : (((w.alloc (.cells #[.int .i64 0, .int .i64 0] 51)).alloc (.cells #[.int .i64 0, .int .i64 0] 51)).alloc (.cells #[.int .i64 0, .int .i64 0] 51)).frozen? ⟨w.heap.size + 1, 0, none⟩ = false := by go_simp
 have c11 : (((w.alloc (.cells #[.int .i64 0, .int .i64 0] 51)).alloc (.cells #[.int .i64 0, .int .i64 0] 51)).alloc (.cells #[.int .i64 0, .int .i64 0] 51)).cell? ⟨w.heap.size + 1, 1, none⟩ = some (.int .i64 0) := by go_simp
 have f11 : (((w.alloc (.cells #[.int .i64 0, .int .i64 0] 51)).alloc (.cells #[.int .i64 0, .int .i64 0] 51)).alloc (.cells #[.int .i64 0, .int .i64 0] 51)).frozen? ⟨w.heap.size + 1, 1, none⟩ = false := by go_simp
 have c20 : (((w.alloc (.cells #[.int .i64 0, .int .i64 0] 51)).alloc (.cells #[.int .i64 0, .int .i64 0] 51)).alloc (.cells #[.int .i64 0, .int .i64 0] 51)).cell? ⟨w.heap.size + 1 + 1, 0, none⟩ = some (.int .i64 0) := by go_simp
 have f20 : (((w.alloc (.cells #[.int .i64 0, .int .i64 0] 51)).alloc (.cells #[.int .i64 0, .int .i64 0] 51)).alloc (.cells #[.int .i64 0, .int .i64 0] 51)).frozen? ⟨w.heap.size + 1 + 1, 0, none⟩ = false := by go_simp
 have c21 : (((w.alloc (.cells #[.int .i64 0, .int .i64 0] 51)).alloc (.cells #[.int .i64 0, .int .i64 0] 51)).alloc (.cells #[.int .i64 0, .int .i64 0] 51)).cell? ⟨w.heap.size + 1 + 1, 1, none⟩ = some (.int .i64 0) := by go_simp
 have f21 : (((w.alloc (.cells #[.int .i64 0, .int .i64 0] 51)).alloc (.cells #[.int .i64 0, .int .i64 0] 51)).alloc (.cells #[.int .i64 0, .int .i64 0] 51)).frozen? ⟨w.heap.size + 1 + 1, 1, none⟩ = false := by go_simp
 have G0 := hidden (gbI BA (some s))
 have S1 := hidden h1
 have HS := hidden h
 have SZ : Hid ((((w.alloc (.cells #[.int .i64 0, .int .i64 0] 51)).alloc (.cells #[.int .i64 0, .int .i64 0] 51)).alloc (.cells #[.int .i64 0, .int .i64 0] 51)).heap.size = w.heap.size + 1 + 1 + 1) := hidden (by simp)
 clear h hK BA h1
 go_enter Tryz.func8, Tryz.ntmps8
 go_upto_region 3 with fail
 generalize (((w.alloc (.cells #[.int .i64 0, .int .i64 0] 51)).alloc (.cells #[.int .i64 0, .int .i64 0] 51)).alloc (.cells #[.int .i64 0, .int .i64 0] 51)) = w1 at *
 go_upto_region 5 with fail
 have SG := hidden (Dy.gate S1.out)
 have G1 := hidden (gb_tr G0.out (gb_cell w1 s 1 (.int .i64 ((Kg : Int) + 1))))
 have d00 : (w1.setCell ⟨s, 1, none⟩ (.int .i64 ((Kg : Int) + 1))).cell? ⟨w.heap.size, 0, none⟩ = some (.int .i64 0) := by rw [World.cell?_setCell_far _ _ _ _ (by simp; omega)]; exact c00
 have g00 : (w1.setCell ⟨s, 1, none⟩ (.int .i64 ((Kg : Int) + 1))).frozen? ⟨w.heap.size, 0, none⟩ = false := by rw [World.frozen?_setCell]; exact f00
 have d01 : (w1.setCell ⟨s, 1, none⟩ (.int .i64 ((Kg : Int) + 1))).cell? ⟨w.heap.size, 1, none⟩ = some (.int .i64 0) := by rw [World.cell?_setCell_far _ _ _ _ (by simp; omega)]; exact c01
 have g01 : (w1.setCell ⟨s, 1, none⟩ (.int .i64 ((Kg : Int) + 1))).frozen? ⟨w.heap.size, 1, none⟩ = false := by rw [World.frozen?_setCell]; exact f01
 have d10 : (w1.setCell ⟨s, 1, none⟩ (.int .i64 ((Kg : Int) + 1))).cell? ⟨w.heap.size + 1, 0, none⟩ = some (.int .i64 0) := by rw [World.cell?_setCell_far _ _ _ _ (by simp; omega)]; exact c10
 have g10 : (w1.setCell ⟨s, 1, none⟩ (.int .i64 ((Kg : Int) + 1))).frozen? ⟨w.heap.size + 1, 0, none⟩ = false := by rw [World.frozen?_setCell]; exact f10
 have d11 : (w1.setCell ⟨s, 1, none⟩ (.int .i64 ((Kg : Int) + 1))).cell? ⟨w.heap.size + 1, 1, none⟩ = some (.int .i64 0) := by rw [World.cell?_setCell_far _ _ _ _ (by simp; omega)]; exact c11
 have g11 : (w1.setCell ⟨s, 1, none⟩ (.int .i64 ((Kg : Int) + 1))).frozen? ⟨w.heap.size + 1, 1, none⟩ = false := by rw [World.frozen?_setCell]; exact f11
 have d20 : (w1.setCell ⟨s, 1, none⟩ (.int .i64 ((Kg : Int) + 1))).cell? ⟨w.heap.size + 1 + 1, 0, none⟩ = some (.int .i64 0) := by rw [World.cell?_setCell_far _ _ _ _ (by simp; omega)]; exact c20
 have g20 : (w1.setCell ⟨s, 1, none⟩ (.int .i64 ((Kg : Int) + 1))).frozen? ⟨w.heap.size + 1 + 1, 0, none⟩ = false := by rw [World.frozen?_setCell]; exact f20
 have d21 : (w1.setCell ⟨s, 1, none⟩ (.int .i64 ((Kg : Int) + 1))).cell? ⟨w.heap.size + 1 + 1, 1, none⟩ = some (.int .i64 0) := by rw [World.cell?_setCell_far _ _ _ _ (by simp; omega)]; exact c21
 have g21 : (w1.setCell ⟨s, 1, none⟩ (.int .i64 ((Kg : Int) + 1))).frozen? ⟨w.heap.size + 1 + 1, 1, none⟩ = false := by rw [World.frozen?_setCell]; exact f21
 have SZ2 : Hid ((w1.setCell ⟨s, 1, none⟩ (.int .i64 ((Kg : Int) + 1))).heap.size = w.heap.size + 1 + 1 + 1) := hidden (by rw [World.size_setCell]; exact SZ.out)
 clear c00 c01 f00 f01 c10 c11 f10 f11 c20 c21 f20 f21 c1 fs
 generalize (w1.setCell ⟨s, 1, none⟩ (.int .i64 ((Kg : Int) + 1))) = w2 at *
 have HL := hidden hlt
 go_wp2_with fail
 have BW : Below w.heap.size w2 ((((((w2.setCell ⟨w.heap.size, 0, none⟩ (.int .i64 2)).setCell ⟨w.heap.size, 1, none⟩ (.int .i64 (Kg : Int))).setCell ⟨w.heap.size + 1, 0, none⟩ (.int .i64 3)).setCell ⟨w.heap.size + 1, 1, none⟩ (.int .i64 (Kg : Int))).setCell ⟨w.heap.size + 1 + 1, 0, none⟩ (.int .i64 4)).setCell ⟨w.heap.size + 1 + 1, 1, none⟩ (.int .i64 (Kg : Int))) := bl_cell (bl_cell (bl_cell (bl_cell (bl_cell (bl_cell (Below.refl _ _) (by omega)) (by omega)) (by omega)) (by omega)) (by omega)) (by omega)
 refine bodyPost_ret (v := tup 2 Kg 3 Kg 4 Kg 0) (by simp [results, Tryz.results8, go_sem, d00, d01, d10, d11, d20, d21, tup]) rfl ⟨rfl, Dy.under HS.out SG.out BW, gb_below G1.out BW⟩
theorem llinfoD : (Tryz.prog.info? 69) = some (Tryz.prog.info? 69).get! := by kernel_rfl
def RqD (base : Nat) (w : World) (s m Kg : Nat) (v : Value) (vs : List Value) (Q : List (List Tm)) (X : List Tm) (w' : World) : Prop := ∃ v' u, Dy base w' s m Kg v' (vs ++ [u]) (Q ++ [X]) ∧ Fz s v w w' ∧ ∀ k, u.ownBlock = some k → w.heap.size ≤ k
theorem dRequire_wire {base : Nat} {w : World} {s m Kg : Nat} {v : Value} {vs : List Value} {Q : List (List Tm)} (h : Dy base w s m Kg v vs Q) (P : Option Addr) (c : Nat) (Y : List Tm) (hn : Y.length ≤ 2932031007400) (hL : Lt w P Y.length (ft Y)) (hw : nm m Kg (lf Sm.L Y).length (ft (lf Sm.L Y)) = false) :
  Calls Tryz.prog 10 #[.pointer (some ⟨s, 0, none⟩), .slice P Y.length c] w fun e w' => e = .returned (.int .i64 200) ∧ Below w.heap.size w w' := by
 have C0 := hidden (Known_any h P c Y hn hL)
 rw [hw] at C0
 generalize Y.length = ny at *
 clear h hn hL hw
 go_enter Tryz.func10, Tryz.ntmps10
 go_wp2_with (go_at_call 28; refine C0.out.mono ?_; rintro e w1 ⟨rfl, hb⟩; have B1 := hidden hb; clear hb)
 refine bodyPost_ret (v := .int .i64 200) (by simp [results, Tryz.results10, go_sem]) rfl ⟨rfl, B1.out⟩
theorem dRequire_full {base : Nat} {w : World} {s m Kg : Nat} {v : Value} {vs : List Value} {Q : List (List Tm)} (h : Dy base w s m Kg v vs Q) (P : Option Addr) (c : Nat) (Y : List Tm) (hn : Y.length ≤ 2932031007400) (hL : Lt w P Y.length (ft Y)) (hw : nm m Kg (lf Sm.L Y).length (ft (lf Sm.L Y)) = true) (hq : 4096 ≤ Q.length) :
  Calls Tryz.prog 10 #[.pointer (some ⟨s, 0, none⟩), .slice P Y.length c] w fun e w' => e = .returned (.int .i64 201) ∧ Below w.heap.size w w' := by
 have C0 := hidden (Known_any h P c Y hn hL)
 rw [hw] at C0
 have C1 := hidden (fun y (hy : Below w.heap.size w y) => dLeast_any P c Y y hn (hL.keep hy))
 have K2 := hidden (fun y (hy : Below w.heap.size w y) => (h.keep hy).c2)
 obtain ⟨Pv, cv, hv, _, _⟩ := h.shape
 subst hv
 generalize Y.length = ny at *
 generalize lf Sm.L Y = X at *
 have l9 : (4096 : Int) ≤ (Q.length : Int) := by omega
 generalize Q.length = nq at *
 clear h hn hL hw hq
 go_enter Tryz.func10, Tryz.ntmps10
 go_upto_region 4 with (go_at_call 28; refine C0.out.mono ?_; rintro e w1 ⟨rfl, hb⟩; have B1 := hidden hb; clear hb)
 clear C0
 have C2 := hidden (C1.out w1 B1.out)
 clear C1
 go_upto_region 5 with (go_at_call 29; refine C2.out.mono ?_; rintro e w2 ⟨v2, rfl, hd⟩; have B2 := hidden (bl_trans B1.out hd.2); clear hd)
 have k2 := K2.out w2 B2.out
 clear K2 C2
 go_wp2_with fail
 refine bodyPost_ret (v := .int .i64 201) (by simp [results, Tryz.results10, go_sem]) rfl ⟨rfl, B2.out⟩
theorem dRequire_ok {base : Nat} {w : World} {s m Kg : Nat} {v : Value} {vs : List Value} {Q : List (List Tm)} (h : Dy base w s m Kg v vs Q) (P : Option Addr) (c : Nat) (Y : List Tm) (hn : Y.length ≤ 2932031007400) (hL : Lt w P Y.length (ft Y)) (hw : nm m Kg (lf Sm.L Y).length (ft (lf Sm.L Y)) = true) (hq : Q.length < 4096) :
  Calls Tryz.prog 10 #[.pointer (some ⟨s, 0, none⟩), .slice P Y.length c] w fun e w' => e = .returned (.int .i64 0) ∧ RqD base w s m Kg v vs Q (lf Sm.L Y) w' := by
 have C0 := hidden (Known_any h P c Y hn hL)
 rw [hw] at C0
 have C1 := hidden (fun y (hy : Below w.heap.size w y) => dLeast_any P c Y y hn (hL.keep hy))
 have LX := hidden (Cm.lf_ls L0 Y)
 generalize Y.length = ny at *
 generalize lf Sm.L Y = X at *
 have HS := hidden h
 obtain ⟨Pv, cv, hv, hlc, hpv⟩ := h.shape
 have HQ := hidden hq
 clear hn hL hw h hlc hpv hq
 go_enter Tryz.func10, Tryz.ntmps10
 go_upto_region 4 with (go_at_call 28; refine C0.out.mono ?_; rintro e w1 ⟨rfl, hb⟩; have B1 := hidden hb; clear hb)
 clear C0
 have C2 := hidden (C1.out w1 B1.out)
 clear C1
 go_upto_region 5 with (go_at_call 29; refine C2.out.mono ?_; rintro e w2 ⟨v2, rfl, hd⟩; have D2 := hidden hd; have B2 := hidden (bl_trans B1.out hd.2); clear hd)
 clear C2
 obtain ⟨P1, c1, e1, _, _⟩ := own_shT D2.out.1
 subst e1
 have s2 := HS.out.keep B2.out
 have k2 := s2.c2
 have z2 := s2.fz 2
 subst hv
 have l9 : ¬ (4096 : Int) ≤ (Q.length : Int) := by have := HQ.out; omega
 have O2 := hidden s2.row
 have HI := hidden llinfoD
 have HZ0 : Hid ((Tryz.prog.info? 69).get!.zero = some (.slice none 0 0)) := hidden (by kernel_rfl)
 have HZ1 : Hid ((Tryz.prog.info? 69).get!.size = 1) := hidden (by kernel_rfl)
 have HZ2 : Hid ((Tryz.prog.info? 69).get!.bytes = 24) := hidden (by kernel_rfl)
 have T1 : Hid (Tryz.prog.underlying 77 = some (.slice 69)) := hidden (by kernel_rfl)
 have BS : Hid (base ≤ w2.heap.size) := hidden (by have := s2.lt; have := s2.bs; omega)
 have UO := hidden (own_monoT D2.out.1 B1.out.size)
 have s2h := hidden s2.h
 clear s2
 generalize hnq : Q.length = nq at *
 have HNQ := hidden hnq
 generalize hxl : X.length = xl at *
 have HXL := hidden hxl
 clear hnq hxl
 go_upto_region 7 with fail
 go_wp2_with (first | (at_builtin; have x1 := own_keepT O2.out (bl_alloc w2 (.cells #[.slice P1 xl c1] 69)); have x2 := cells_newT w2 [.slice P1 xl c1] 69; have x3 : ∀ u ∈ ([.slice P1 xl c1] : List Value), u.oneCell' = true := (by simp [Value.oneCell']); have x4 : nq + 1 ≤ maxLen := (by have := HQ.out; unfold maxLen; omega); have x5 : (nq + 1) * 24 ≤ 140737488355328 := (by have := HQ.out; omega); have x6 : base ≤ (w2.alloc (.cells #[.slice P1 xl c1] 69)).heap.size := (by have := BS.out; simp; omega); refine wpList_append_own_at _ rfl _ _ 77 rfl base 69 _ _ 1 24 T1.out HI.out HZ0.out HZ1.out HZ2.out rfl (by decide) _ nq vs rfl x1 ⟨w2.heap.size, 0, none⟩ 1 1 [.slice P1 xl c1] rfl rfl x2 x3 x4 x5 x6 ?_; intro v4 w4 ho4 hg4 _ _; obtain ⟨P4, c4, e4⟩ := own_sh1 ho4; subst e4; have O4 := hidden ho4; have G4 := hidden hg4; have k4 : w4.cell? ⟨s, 2, none⟩ = some (.slice Pv nq cv) := cell_row2D s2h.out O2.out hg4; have z4 : w4.frozen? ⟨s, 2, none⟩ = false := fz_row2D s2h.out O2.out hg4; clear ho4 hg4 x1 x2 x3 x4 x5 x6))
 refine bodyPost_ret (v := .int .i64 0) (by simp [results, Tryz.results10, go_sem]) rfl ⟨rfl, ?_⟩
 have UO2 : (w2.alloc (.cells #[.slice P1 xl c1] 69)).ownsRow 0 86 6 (.slice P1 X.length c1) X.length (tls X) := by rw [HXL.out]; exact own_monoT (own_keepT UO.out (bl_alloc _ _)) (Nat.zero_le _)
 rw [HXL.out] at UO2
 rw [HNQ.out]
 have hh := rq_moreD HS.out (bl_trans B2.out (bl_alloc _ _)) UO2 LX.out HNQ.out HXL.out O4.out G4.out
 exact ⟨.slice P4 (nq + 1) c4, _, hh.1, hh.2, fun k hk => (UO.out.lt k hk).1⟩
end Ci
end Go.Proofs.YtnkaolobcglmlaaGreatDoor
namespace Go.Proofs.YtnkaolobcglmlaaGreatDoor
open Go.RowKit
set_option linter.unusedVariables false
set_option linter.unusedSimpArgs false
open Cm (Wr Tm co bf Ls lf ins Eqm)
namespace Ci
set_option maxRecDepth 100000
set_option maxHeartbeats 4000000
theorem wp_loadCD {op : Oper} {a : Act} {w : World} {K : Act → World → Prop} {Q : Exit → Act → World → Prop} (x : Operand) (ho : op.op = .load 77 x) (b o n c : Nat) (p : Option Addr) (hx : a.eval x = .pointer (some ⟨b, o, none⟩)) (hc : w.cell? ⟨b, o, none⟩ = some (.slice p n c)) (h : K (a.put op.dst (.slice p n c)) w) : op.wp Tryz.prog a w K Q := by
 have hr : (loadVar 77 ⟨b, o, none⟩).run Tryz.prog w = .ok (.slice p n c) w := by
  have ha : (isAgg 77).run Tryz.prog w = .ok false w := by kernel_rfl
  unfold loadVar
  simp only [Sem.run_bind, ha, Result.andThen_ok, Bool.false_eq_true, if_false]
  simp [go_sem, hc]
 unfold Oper.wp execOp
 simp only [ho, hx, Instr.loadAt, Instr.sureAddr, Sem.run_bind, Sem.run_pure, Result.andThen_ok, hr]
 exact h
theorem i1_LD : (Tryz.prog.info? 77).map (·.size) = some 1 := by kernel_rfl
theorem Dy.moreL {base : Nat} {w : World} {s m Kg : Nat} {v : Value} {vs : List Value} {Q : List (List Tm)} (h : Dy base w s m Kg v vs Q) {w2 : World} {v' : Value} {us : List Value} {Xs : List (List Tm)} (hu : ∀ (i : Nat) (X : List Tm), Xs[i]? = some X → ∃ u, us[i]? = some u ∧ w.ownsRow 0 86 6 u X.length (tls X)) (hX : ∀ X ∈ Xs, Ls Sm.L X) (ho : w2.ownsRow base 69 1 v' (Q.length + Xs.length) (vs ++ us)) (hg : w.grownBy w2 v.ownBlock) :
  Dy base (w2.setCell ⟨s, 2, none⟩ v') s m Kg v' (vs ++ us) (Q ++ Xs) := by
 have hvs : vs.length = Q.length := by have := h.row.1; omega
 have hne := ne_row2D h.h h.row
 have hs2 : w2.heap[s]? = some (.cells #[.int .i64 (m : Int), .int .i64 (Kg : Int), v] 79 (0, 0)) := (hg.block s h.lt hne).trans h.h
 have hgs := gb_cell w2 s 2 v'
 have hT : ∀ {b1 n : Nat} {u : Value} {xs : List Value}, w.ownsRow b1 86 6 u n xs → w2.ownsRow b1 86 6 u n xs := fun {b1 n u xs} ho1 => ⟨ho1.1, by
  rcases ho1.2 with h' | ⟨g, c, cur, e1, e2, e3, e4⟩
  ·exact .inl h'
  ·refine .inr ⟨g, c, cur, e1, e2, (hg.block g (Array.getElem?_eq_some_iff.1 e3).1 (fun e => ?_)).trans e3, e4⟩
   rcases h.row.2 with ⟨f1, _⟩ | ⟨g', c', cur', f1, _, k1, _⟩
   ·rw [f1] at e; cases e
   ·rw [f1] at e
    simp only [Value.ownBlock, Option.some.injEq] at e
    subst e
    rw [k1] at e3
    simp only [Option.some.injEq, Obj.cells.injEq] at e3
    exact absurd e3.2.1 (by decide)⟩
 refine ⟨?_, ?_, ?_, h.bs, ?_⟩
 ·have := heap_setCell_same w2 s 2 _ 79 v' hs2
  rw [this]
  rfl
 ·rw [List.length_append]
  exact own_keepDS ho hs2 (by decide) hgs
 ·intro i Y hY
  by_cases hi : i < Q.length
  ·rw [List.getElem?_append_left hi] at hY
   obtain ⟨u', a1, a2⟩ := h.ls i Y hY
   exact ⟨u', by rw [List.getElem?_append_left (by omega)]; exact a1, own_keepDS (hT a2) hs2 (by decide) hgs⟩
  ·rw [List.getElem?_append_right (by omega)] at hY
   obtain ⟨u', a1, a2⟩ := hu _ Y hY
   exact ⟨u', by rw [List.getElem?_append_right (by omega), hvs]; exact a1, own_keepDS (hT a2) hs2 (by decide) hgs⟩
 ·intro Y hY
  rcases List.mem_append.1 hY with hY | hY
  ·exact h.sm Y hY
  ·exact hX Y hY
theorem there_row2D {base : Nat} {w w4 : World} {s n : Nat} {v : Value} {vs : List Value} {a b : Value} (h : w.heap[s]? = some (.cells #[a, b, v] 79 (0, 0))) (ho : w.ownsRow base 69 1 v n vs) (hg : w.grownBy w4 v.ownBlock) : w4.there s 2 1 := fun j hj => by
 have hl := (Array.getElem?_eq_some_iff.1 h).1
 have h2 : w4.heap[s]? = some (.cells #[a, b, v] 79 (0, 0)) := (hg.block s hl (ne_row2D h ho)).trans h
 obtain rfl : j = 0 := by omega
 refine ⟨?_, ?_⟩
 ·rw [cell_of_row w4 s (2 + 0) _ 79 (0, 0) h2]; rfl
 ·unfold World.frozen?
  rw [h2]
  simp
theorem buildL1D (p : Option Addr) (n c : Nat) (w : World) : (Instr.buildSlice 77 1 #[(0, .slice p n c)]).run Tryz.prog w = .ok (.slice (some ⟨w.heap.size, 0, none⟩) 1 1) (w.alloc (.cells #[.slice p n c] 69)) := by kernel_rfl
theorem wp_buildL1D {w : World} {o : Oper} {a : Act} {K : Act → World → Prop} {Q : Exit → Act → World → Prop} (x0 : Operand) (ho : o.op = .buildSlice 77 1 #[(0, x0)]) (p : Option Addr) (n c : Nat) (h0 : a.eval x0 = .slice p n c) (h : ∀ (tb : Nat) (wq : World), tb = w.heap.size → wq = w.alloc (.cells #[.slice p n c] 69) → K (a.put o.dst (.slice (some ⟨tb, 0, none⟩) 1 1)) wq) : o.wp Tryz.prog a w K Q := by
 have hr := buildL1D p n c w
 unfold Oper.wp execOp
 simp only [ho, Sem.run_bind, Sem.run_pure, Result.andThen_ok, List.map_toArray, List.map_cons, List.map_nil, h0, hr]
 exact h _ _ rfl rfl
theorem llz0D : (Tryz.prog.info? 69).get!.zero = some (.slice none 0 0) := by kernel_rfl
theorem llz1D : (Tryz.prog.info? 69).get!.size = 1 := by kernel_rfl
theorem llz2D : (Tryz.prog.info? 69).get!.bytes = 24 := by kernel_rfl
theorem lluD : Tryz.prog.underlying 77 = some (.slice 69) := by kernel_rfl
theorem wp_appLD {w : World} {o : Oper} {a : Act} {K : Act → World → Prop} {Q' : Exit → Act → World → Prop} (s' x : Operand) (ho : o.op = .call { callee := .builtin .append, args := #[s', x], argTypes := #[77, 77] }) {base s m Kg : Nat} {Pv : Option Addr} {nq cv : Nat} {vs : List Value} {Q : List (List Tm)} (h : Dy base w s m Kg (.slice Pv nq cv) vs Q) (hq : Q.length = nq) (hq2 : nq ≤ 4096) (tb k : Nat) (us : List Value) (hk : us.length = k) (hk2 : k ≤ 2) (hs : a.eval s' = .slice Pv nq cv) (hx : a.eval x = .slice (some ⟨tb, 0, none⟩) k k) (hc : ∀ j u, us[j]? = some u → w.cell? ((⟨tb, 0, none⟩ : Addr).add j) = some u) (h1 : ∀ u ∈ us, u.oneCell' = true)
  (hK : ∀ P4 c4 w', w'.ownsRow base 69 1 (.slice P4 (nq + k) c4) (nq + k) (vs ++ us) → w.grownBy w' (Value.slice Pv nq cv).ownBlock → K (a.put o.dst (.slice P4 (nq + k) c4)) w') : o.wp Tryz.prog a w K Q' := by
 subst hq
 refine wp_append_own _ s' x 77 ho base 69 _ _ 1 24 lluD llinfoD llz0D llz1D llz2D rfl (by decide) _ Q.length vs hs h.row ⟨tb, 0, none⟩ k k us hx (by omega) hc h1 (by unfold maxLen; omega) (by omega) (by have := h.lt; have := h.bs; omega) (fun v' w' ho' hg _ => ?_)
 obtain ⟨P4, c4, rfl⟩ := own_sh1 ho'
 exact hK P4 c4 w' ho' hg
theorem new_moreD {base s m Kg nq x1 cv : Nat} {Pv : Option Addr} {w w2 : World} {vs : List Value} {Q : List (List Tm)} {X : List Tm} {R1 P4 : Option Addr} {e1 c4 : Nat} (h : Dy base w s m Kg (.slice Pv nq cv) vs Q) (hq : Q.length = nq) (hx : X.length = x1) (hu : w.ownsRow 0 86 6 (.slice R1 x1 e1) x1 (tls X)) (hX : Ls Sm.L X) (ho : w2.ownsRow base 69 1 (.slice P4 (nq + 1) c4) (nq + 1) (vs ++ [.slice R1 x1 e1])) (hg : w.grownBy w2 (Value.slice Pv nq cv).ownBlock) :
  Dy base (w2.setCell ⟨s, 2, none⟩ (.slice P4 (nq + 1) c4)) s m Kg (.slice P4 (nq + 1) c4) (vs ++ [.slice R1 x1 e1]) (Q ++ [X]) := by
 subst hq
 subst hx
 refine h.moreL (us := [.slice R1 X.length e1]) (Xs := [X]) (fun i Y hY => ?_) (fun Y hY => by rw [List.mem_singleton.1 hY]; exact hX) ho hg
 have hi := (List.getElem?_eq_some_iff.1 hY).1
 obtain rfl : i = 0 := by simp at hi; omega
 simp only [List.getElem?_cons_zero, Option.some.injEq] at hY
 subst hY
 exact ⟨_, rfl, hu⟩
theorem fin_ofD {base s m Kg : Nat} {v' : Value} {vs : List Value} {Q : List (List Tm)} {w2 w3 : World} (h : Dy base (w2.setCell ⟨s, 2, none⟩ v') s m Kg v' vs Q) (hw : w3 = w2.setCells s 2 [v']) : Dy base w3 s m Kg v' vs Q := by rw [hw]; exact h
theorem glN_scD (n : Nat) (f : Nat → Trm) : glN n f = sc (-1) (glL n f) := by
 simp [glN, glL, sc, List.map_map, Function.comp_def, Int.mul_neg]
theorem sub_isD (A : List Tm) (n : Nat) (f : Nat → Trm) : lf Sm.L (A ++ glN n f) = lf Sm.L (A ++ lf Sm.L (sc (-1) (glL n f))) := Cm.lf_congr L0 (fun q => by
 rw [Cm.co_app, Cm.co_app, glN_scD, Int.add_emod, ← Cm.lf_eqm (sc (-1) (glL n f)) q, ← Int.add_emod])
theorem glL_one (q : Wr) : glL 1 (cst q) = [(q, 1)] := by
 have h1 : (lst 1).n = 1 := by rw [lst_n]; decide
 simp [glL, cst, List.range_succ, h1]
theorem begun_any (j : Int) (w : World) : Calls Tryz.prog 33 #[.int .i64 j] w fun e w' => ∃ v, e = .returned v ∧ Dl w (enX j) v w' := by
 have C1 := hidden (fun y => dOf_any (2, j) y)
 have C2 := hidden (fun y => dOf_any (5, j) y)
 have C3 := hidden (fun P Q c d y (h1 : Lt y P 1 (ft [((2, j), 1)])) (h2 : Lt y Q 1 (ft [((5, j), 1)])) => dSub_any P Q c d [((2, j), 1)] [((5, j), 1)] y (by simp) h1 h2)
 have e : lf Sm.L ([((2, j), 1)] ++ lf Sm.L (sc (-1) [((5, j), 1)])) = enX j := by
  unfold enX
  rw [sub_isD, glL_one, glL_one]
 rw [e] at C3
 simp only [List.length_cons, List.length_nil] at C3
 clear e
 generalize enX j = X at *
 simp only at C1 C2
 go_enter Tryz.func33, Tryz.ntmps33
 go_wp2_with (first | (have _t := C1; go_at_call 43; refine (C1.out _).mono ?_; rintro e w1 ⟨v1, rfl, h1⟩; obtain ⟨P1, c1, rfl, hl1⟩ := h1.shape; have L1 := hidden hl1; have B1 := hidden h1.2; clear hl1 h1 C1; simp only [List.length_cons, List.length_nil] at *) | (go_at_call 43; refine (C2.out _).mono ?_; rintro e w2 ⟨v2, rfl, h2⟩; obtain ⟨P2, c2, rfl, hl2⟩ := h2.shape; have L2 := hidden hl2; have B2 := hidden h2.2; clear hl2 h2 C2; simp only [List.length_cons, List.length_nil] at *) | (go_at_call 44; refine (C3.out P1 P2 c1 c2 w2 (L1.out.keep B2.out) L2.out).mono ?_; rintro e w3 ⟨v, rfl, h3⟩; have P3 := hidden h3; clear h3))
 refine bodyPost_ret (v := v) (by simp [results, Tryz.results33, go_sem]) rfl ⟨v, rfl, ?_⟩
 exact Dl.under (bl_trans B1.out B2.out) P3.out
def Dl1 (w : World) (X : List Tm) (v : Value) (n : Nat) (w' : World) : Prop := w'.ownsRow w.heap.size 86 6 v n (tls X) ∧ Below w.heap.size w w'
theorem begun_sl {j : Int} (y : World) : Calls Tryz.prog 33 #[.int .i64 j] y fun e w' => ∃ R1 e1, e = .returned (.slice R1 (enX j).length e1) ∧ Dl1 y (enX j) (.slice R1 (enX j).length e1) (enX j).length w' :=
 (begun_any j y).mono fun e w' ⟨v, he, h⟩ => by
  obtain ⟨P, c, e1, _, _⟩ := own_shT h.1
  subst e1
  exact ⟨P, c, he, h⟩
def nw7Do_0 : Oper := { dst := some 21, op := Op.move (Operand.tmp 4), type := 33, pos := "circuit.go:121", after := #[], guard := none }
def nw7Do_1 : Oper := { dst := some 22, op := Op.move (Operand.tmp 4), type := 33, pos := "circuit.go:121", after := #[], guard := none }
def nw7Do_2 : Oper := { dst := some 23, op := Op.nilCheck (Operand.tmp 22), type := 0, pos := "circuit.go:121", after := #[{ on := 1, ground := Ground.data }], guard := none }
def nw7Do_3 : Oper := { dst := some 24, op := Op.fieldAddr 79 (Operand.tmp 23) 2, type := 0, pos := "circuit.go:121", after := #[{ on := 2, ground := Ground.data }], guard := none }
def nw7Do_4 : Oper := { dst := some 25, op := Op.load 77 (Operand.tmp 24), type := 77, pos := "circuit.go:121", after := #[{ on := 3, ground := Ground.data }], guard := none }
def nw7Do_5 : Oper := { dst := some 26, op := Op.move (Operand.tmp 5), type := 3, pos := "circuit.go:121", after := #[], guard := none }
def nw7Do_6 : Oper := { dst := some 27, op := Op.call { callee := Callee.value (Operand.func 33), args := #[Operand.tmp 26], argTypes := #[3] }, type := 69, pos := "circuit.go:121", after := #[{ on := 5, ground := Ground.data }], guard := none }
def nw7Do_7 : Oper := { dst := some 28, op := Op.buildSlice 77 1 #[(0, Operand.tmp 27)], type := 77, pos := "circuit.go:121", after := #[{ on := 6, ground := Ground.data }], guard := none }
def nw7Do_8 : Oper := { dst := some 29, op := Op.call { callee := Callee.builtin Builtin.append, args := #[Operand.tmp 25, Operand.tmp 28], argTypes := #[77, 77] }, type := 77, pos := "circuit.go:121", after := #[{ on := 4, ground := Ground.data }, { on := 7, ground := Ground.data }, { on := 6, ground := Ground.chain }], guard := none }
def nw7Do_9 : Oper := { dst := some 30, op := Op.nilCheck (Operand.tmp 21), type := 0, pos := "circuit.go:121", after := #[{ on := 0, ground := Ground.data }, { on := 0, ground := Ground.phase }, { on := 1, ground := Ground.phase }, { on := 2, ground := Ground.phase }, { on := 3, ground := Ground.phase }, { on := 4, ground := Ground.phase }, { on := 5, ground := Ground.phase }, { on := 6, ground := Ground.phase }, { on := 7, ground := Ground.phase }, { on := 8, ground := Ground.phase }], guard := none }
def nw7Do_10 : Oper := { dst := some 31, op := Op.fieldAddr 79 (Operand.tmp 30) 2, type := 0, pos := "circuit.go:121", after := #[{ on := 9, ground := Ground.data }, { on := 0, ground := Ground.phase }, { on := 1, ground := Ground.phase }, { on := 2, ground := Ground.phase }, { on := 3, ground := Ground.phase }, { on := 4, ground := Ground.phase }, { on := 5, ground := Ground.phase }, { on := 6, ground := Ground.phase }, { on := 7, ground := Ground.phase }, { on := 8, ground := Ground.phase }], guard := none }
def nw7Do_11 : Oper := { dst := none, op := Op.store 77 (Operand.tmp 31) (Operand.tmp 29), type := 0, pos := "circuit.go:121", after := #[{ on := 10, ground := Ground.data }, { on := 8, ground := Ground.data }, { on := 8, ground := Ground.chain }, { on := 0, ground := Ground.phase }, { on := 1, ground := Ground.phase }, { on := 2, ground := Ground.phase }, { on := 3, ground := Ground.phase }, { on := 4, ground := Ground.phase }, { on := 5, ground := Ground.phase }, { on := 6, ground := Ground.phase }, { on := 7, ground := Ground.phase }, { on := 8, ground := Ground.phase }], guard := none }
def nw7Do : Array Oper := #[nw7Do_0, nw7Do_1, nw7Do_2, nw7Do_3, nw7Do_4, nw7Do_5, nw7Do_6, nw7Do_7, nw7Do_8, nw7Do_9, nw7Do_10, nw7Do_11]
set_option maxRecDepth 100000 in
set_option maxHeartbeats 16000000 in
theorem nw7D (Q : Exit → Act → World → Prop) (base s m Kg nq cv x1 : Nat) (Pv : Option Addr) (vs : List Value) (QQ : List (List Tm)) (X : List Tm) (jj : Int) (u0 u1 u2 u3 u6 u7 u8 u9 u10 u11 u12 u13 u14 u15 u16 u17 u18 u19 u20 u21 u22 u23 u24 u25 u26 u27 u28 u29 u30 u31 u32 : Value) (W : World)
  (sy : Dy base W s m Kg (.slice Pv nq cv) vs QQ) (HNQ : Hid (QQ.length = nq)) (HQ2 : Hid (nq ≤ 4096)) (HX1 : Hid (X.length = x1)) (LX : Hid (Ls Sm.L X))
  (C6 : Hid (∀ y, Calls Tryz.prog 33 #[.int .i64 jj] y fun e w' => ∃ R1 e1, e = .returned (.slice R1 x1 e1) ∧ Dl1 y X (.slice R1 x1 e1) x1 w'))
  (HQ : Hid (∀ (wz : World) (R1 P4 : Option Addr) (e1 c4 tb : Nat), Fy s (.slice Pv nq cv) s W wz → Dy base wz s m Kg (.slice P4 (nq + 1) c4) (vs ++ [.slice R1 x1 e1]) (QQ ++ [X]) → Q .normal ⟨#[u0, u1, u2, u3, .pointer (some ⟨s, 0, none⟩), .int .i64 jj, u6, u7, u8, u9, u10, u11, u12, u13, u14, u15, u16, u17, u18, u19, u20, .pointer (some ⟨s, 0, none⟩), .pointer (some ⟨s, 0, none⟩), .pointer (some ⟨s, 0, none⟩), .pointer (some ⟨s, 2, none⟩), .slice Pv nq cv, .int .i64 jj, .slice R1 x1 e1, .slice (some ⟨tb, 0, none⟩) 1 1, .slice P4 (nq + 1) c4, .pointer (some ⟨s, 0, none⟩), .pointer (some ⟨s, 2, none⟩), u32], []⟩ wz)) : (Code.region 7 nw7Do true).wp Tryz.prog Q ⟨#[u0, u1, u2, u3, .pointer (some ⟨s, 0, none⟩), .int .i64 jj, u6, u7, u8, u9, u10, u11, u12, u13, u14, u15, u16, u17, u18, u19, u20, u21, u22, u23, u24, u25, u26, u27, u28, u29, u30, u31, u32], []⟩ W := by
 have SYF := hidden (sy.keep (bl_drew W))
 clear sy
 unfold nw7Do
 refine wp_region_noPanic ?_
 refine wp_region_held_drew (S := fun x => Fy s (.slice Pv nq cv) s W x) (by kernel_rfl) (Fy.drew0 W) (fun hH0 => ?_)
 refine tk 0 nw7Do_0 (.pointer (some ⟨s, 0, none⟩)) rfl (by kernel_rfl) hH0 rfl (fun w0 hSw => ?_) ?_
 ·(unfold nw7Do_0; clear hSw; go_simp)
 simp only [nw7Do_0, Act.put, sA, sB, sC]
 refine tk 1 nw7Do_1 (.pointer (some ⟨s, 0, none⟩)) rfl (by kernel_rfl) hH0 rfl (fun w0 hSw => ?_) ?_
 ·(unfold nw7Do_1; clear hSw; go_simp)
 simp only [nw7Do_1, Act.put, sA, sB, sC]
 refine tk 5 nw7Do_5 (.int .i64 jj) rfl (by kernel_rfl) hH0 rfl (fun w0 hSw => ?_) ?_
 ·(unfold nw7Do_5; clear hSw; go_simp)
 simp only [nw7Do_5, Act.put, sA, sB, sC]
 refine tk 2 nw7Do_2 (.pointer (some ⟨s, 0, none⟩)) rfl (by kernel_rfl) hH0 rfl (fun w0 hSw => ?_) ?_
 ·(unfold nw7Do_2; clear hSw; go_simp)
 simp only [nw7Do_2, Act.put, sA, sB, sC]
 refine tk 3 nw7Do_3 (.pointer (some ⟨s, 2, none⟩)) rfl (by kernel_rfl) hH0 rfl (fun w0 hSw => ?_) ?_
 ·(unfold nw7Do_3; clear hSw; go_simp)
 simp only [nw7Do_3, Act.put, sA, sB, sC]
 refine wpAnyH_ready (rs := [4, 6]) (by kernel_rfl) (by simp) ?_
 refine AllReadyH.cons (o := nw7Do_4) rfl (fun K hK => ?_) (AllReadyH.cons (o := nw7Do_6) rfl (fun K hK => ?_) AllReadyH.nil)
 ·unfold nw7Do_4
  have HH := hidden hH0
  clear hH0
  refine wp_loadCD _ rfl s 2 nq cv Pv rfl SYF.out.c2 ?_
  simp only [Act.put, sA, sB, sC]
  have SN := HH
  clear HH
  refine hK.out _ _ SN.out (fun hH1 => ?_)
  clear hK K SN
  refine wpAnyH_ready (rs := [6]) (by kernel_rfl) (by simp) ?_
  refine AllReadyH.cons (o := nw7Do_6) rfl (fun K hK => ?_) AllReadyH.nil
  unfold nw7Do_6
  have HH := hidden hH1
  clear hH1
  go_simp
  refine (C6.out _).mono ?_
  rintro e wn2 ⟨R1, e1, rfl, hq⟩
  have SN := hidden (HH.out.bel hq.2)
  replace SYF := hidden (SYF.out.keep hq.2)
  have OU := hidden (own_monoT hq.1 (Nat.zero_le _))
  clear HH C6 hq
  go_wp2_with fail
  refine hK.out _ _ SN.out (fun hH2 => ?_)
  clear hK K SN
  refine wpAnyH_ready (rs := [7]) (by kernel_rfl) (by simp) ?_
  refine AllReadyH.cons (o := nw7Do_7) rfl (fun K hK => ?_) AllReadyH.nil
  unfold nw7Do_7
  have HH := hidden hH2
  clear hH2
  refine wp_buildL1D _ rfl R1 x1 e1 rfl (fun tb wn3 htb hwq => ?_)
  have SN := hidden ((by rw [hwq]; exact HH.out.bel (bl_alloc _ _) : Fy s (.slice Pv nq cv) s W wn3))
  replace SYF := hidden ((by rw [hwq]; exact SYF.out.keep (bl_alloc _ _) : Dy base wn3 s m Kg (.slice Pv nq cv) vs QQ))
  replace OU := hidden ((by rw [hwq]; exact own_keepT OU.out (bl_alloc _ _) : World.ownsRow wn3 0 86 6 (.slice R1 x1 e1) x1 (tls X)))
  have CN := hidden ((by rw [hwq, htb]; exact cells_newT _ [.slice R1 x1 e1] _ : ∀ j u, ([.slice R1 x1 e1] : List Value)[j]? = some u → World.cell? wn3 ((⟨tb, 0, none⟩ : Addr).add j) = some u))
  clear HH htb hwq
  simp only [Act.put, sA, sB, sC]
  refine hK.out _ _ SN.out (fun hH3 => ?_)
  clear hK K SN
  refine wpAnyH_ready (rs := [8]) (by kernel_rfl) (by simp) ?_
  refine AllReadyH.cons (o := nw7Do_8) rfl (fun K hK => ?_) AllReadyH.nil
  unfold nw7Do_8
  have HH := hidden hH3
  clear hH3
  refine wp_appLD _ _ rfl SYF.out HNQ.out HQ2.out tb 1 [.slice R1 x1 e1] rfl (by omega) rfl rfl CN.out (by simp [Value.oneCell']) (fun P4 c4 wn4 hO hG => ?_)
  have SN := hidden (HH.out.row hG)
  have FIN := hidden ((new_moreD SYF.out HNQ.out HX1.out OU.out LX.out hO hG))
  have TH := hidden (there_row2D SYF.out.h SYF.out.row hG)
  clear HH hO hG CN
  simp only [Act.put, sA, sB, sC]
  refine hK.out _ _ SN.out (fun hH4 => ?_)
  clear hK K SN
  refine tk 9 nw7Do_9 (.pointer (some ⟨s, 0, none⟩)) rfl (by kernel_rfl) hH4 rfl (fun w0 hSw => ?_) ?_
  ·(unfold nw7Do_9; clear hSw; go_simp)
  simp only [nw7Do_9, Act.put, sA, sB, sC]
  refine tk 10 nw7Do_10 (.pointer (some ⟨s, 2, none⟩)) rfl (by kernel_rfl) hH4 rfl (fun w0 hSw => ?_) ?_
  ·(unfold nw7Do_10; clear hSw; go_simp)
  simp only [nw7Do_10, Act.put, sA, sB, sC]
  refine wpAnyH_ready (rs := [11]) (by kernel_rfl) (by simp) ?_
  refine AllReadyH.cons (o := nw7Do_11) rfl (fun K hK => ?_) AllReadyH.nil
  unfold nw7Do_11
  have HH := hidden hH4
  clear hH4
  refine wp_storeV 77 _ _ rfl s 2 P4 (nq + 1) c4 (by rfl) (by rfl) TH.out i1_LD rfl (fun wn5 hw => ?_)
  have SN := hidden (HH.out.sys (gb_setCells s [.slice P4 (nq + 1) c4] 2 _))
  have FE := hidden ((fin_ofD FIN.out hw : Dy base _ s m Kg (.slice P4 (nq + 1) c4) (vs ++ [.slice R1 x1 e1]) (QQ ++ [X])))
  rw [← hw] at SN
  clear HH hw
  refine hK.out _ _ SN.out (fun hH5 => ?_)
  clear hK K SN
  have HH := hidden hH5
  have FQ := hidden (HQ.out _ R1 P4 e1 c4 tb HH.out FE.out)
  refine wpAnyH_done (by kernel_rfl) ?_ _
  refine NoPanic.normal ?_
  exact FQ.out
 ·unfold nw7Do_6
  have HH := hidden hH0
  clear hH0
  go_simp
  refine (C6.out _).mono ?_
  rintro e wn1 ⟨R1, e1, rfl, hq⟩
  have SN := hidden (HH.out.bel hq.2)
  replace SYF := hidden (SYF.out.keep hq.2)
  have OU := hidden (own_monoT hq.1 (Nat.zero_le _))
  clear HH C6 hq
  go_wp2_with fail
  refine hK.out _ _ SN.out (fun hH1 => ?_)
  clear hK K SN
  refine wpAnyH_ready (rs := [4, 7]) (by kernel_rfl) (by simp) ?_
  refine AllReadyH.cons (o := nw7Do_4) rfl (fun K hK => ?_) (AllReadyH.cons (o := nw7Do_7) rfl (fun K hK => ?_) AllReadyH.nil)
  ·unfold nw7Do_4
   have HH := hidden hH1
   clear hH1
   refine wp_loadCD _ rfl s 2 nq cv Pv rfl SYF.out.c2 ?_
   simp only [Act.put, sA, sB, sC]
   have SN := HH
   clear HH
   refine hK.out _ _ SN.out (fun hH2 => ?_)
   clear hK K SN
   refine wpAnyH_ready (rs := [7]) (by kernel_rfl) (by simp) ?_
   refine AllReadyH.cons (o := nw7Do_7) rfl (fun K hK => ?_) AllReadyH.nil
   unfold nw7Do_7
   have HH := hidden hH2
   clear hH2
   refine wp_buildL1D _ rfl R1 x1 e1 rfl (fun tb wn3 htb hwq => ?_)
   have SN := hidden ((by rw [hwq]; exact HH.out.bel (bl_alloc _ _) : Fy s (.slice Pv nq cv) s W wn3))
   replace SYF := hidden ((by rw [hwq]; exact SYF.out.keep (bl_alloc _ _) : Dy base wn3 s m Kg (.slice Pv nq cv) vs QQ))
   replace OU := hidden ((by rw [hwq]; exact own_keepT OU.out (bl_alloc _ _) : World.ownsRow wn3 0 86 6 (.slice R1 x1 e1) x1 (tls X)))
   have CN := hidden ((by rw [hwq, htb]; exact cells_newT _ [.slice R1 x1 e1] _ : ∀ j u, ([.slice R1 x1 e1] : List Value)[j]? = some u → World.cell? wn3 ((⟨tb, 0, none⟩ : Addr).add j) = some u))
   clear HH htb hwq
   simp only [Act.put, sA, sB, sC]
   refine hK.out _ _ SN.out (fun hH3 => ?_)
   clear hK K SN
   refine wpAnyH_ready (rs := [8]) (by kernel_rfl) (by simp) ?_
   refine AllReadyH.cons (o := nw7Do_8) rfl (fun K hK => ?_) AllReadyH.nil
   unfold nw7Do_8
   have HH := hidden hH3
   clear hH3
   refine wp_appLD _ _ rfl SYF.out HNQ.out HQ2.out tb 1 [.slice R1 x1 e1] rfl (by omega) rfl rfl CN.out (by simp [Value.oneCell']) (fun P4 c4 wn4 hO hG => ?_)
   have SN := hidden (HH.out.row hG)
   have FIN := hidden ((new_moreD SYF.out HNQ.out HX1.out OU.out LX.out hO hG))
   have TH := hidden (there_row2D SYF.out.h SYF.out.row hG)
   clear HH hO hG CN
   simp only [Act.put, sA, sB, sC]
   refine hK.out _ _ SN.out (fun hH4 => ?_)
   clear hK K SN
   refine tk 9 nw7Do_9 (.pointer (some ⟨s, 0, none⟩)) rfl (by kernel_rfl) hH4 rfl (fun w0 hSw => ?_) ?_
   ·(unfold nw7Do_9; clear hSw; go_simp)
   simp only [nw7Do_9, Act.put, sA, sB, sC]
   refine tk 10 nw7Do_10 (.pointer (some ⟨s, 2, none⟩)) rfl (by kernel_rfl) hH4 rfl (fun w0 hSw => ?_) ?_
   ·(unfold nw7Do_10; clear hSw; go_simp)
   simp only [nw7Do_10, Act.put, sA, sB, sC]
   refine wpAnyH_ready (rs := [11]) (by kernel_rfl) (by simp) ?_
   refine AllReadyH.cons (o := nw7Do_11) rfl (fun K hK => ?_) AllReadyH.nil
   unfold nw7Do_11
   have HH := hidden hH4
   clear hH4
   refine wp_storeV 77 _ _ rfl s 2 P4 (nq + 1) c4 (by rfl) (by rfl) TH.out i1_LD rfl (fun wn5 hw => ?_)
   have SN := hidden (HH.out.sys (gb_setCells s [.slice P4 (nq + 1) c4] 2 _))
   have FE := hidden ((fin_ofD FIN.out hw : Dy base _ s m Kg (.slice P4 (nq + 1) c4) (vs ++ [.slice R1 x1 e1]) (QQ ++ [X])))
   rw [← hw] at SN
   clear HH hw
   refine hK.out _ _ SN.out (fun hH5 => ?_)
   clear hK K SN
   have HH := hidden hH5
   have FQ := hidden (HQ.out _ R1 P4 e1 c4 tb HH.out FE.out)
   refine wpAnyH_done (by kernel_rfl) ?_ _
   refine NoPanic.normal ?_
   exact FQ.out
  ·unfold nw7Do_7
   have HH := hidden hH1
   clear hH1
   refine wp_buildL1D _ rfl R1 x1 e1 rfl (fun tb wn2 htb hwq => ?_)
   have SN := hidden ((by rw [hwq]; exact HH.out.bel (bl_alloc _ _) : Fy s (.slice Pv nq cv) s W wn2))
   replace SYF := hidden ((by rw [hwq]; exact SYF.out.keep (bl_alloc _ _) : Dy base wn2 s m Kg (.slice Pv nq cv) vs QQ))
   replace OU := hidden ((by rw [hwq]; exact own_keepT OU.out (bl_alloc _ _) : World.ownsRow wn2 0 86 6 (.slice R1 x1 e1) x1 (tls X)))
   have CN := hidden ((by rw [hwq, htb]; exact cells_newT _ [.slice R1 x1 e1] _ : ∀ j u, ([.slice R1 x1 e1] : List Value)[j]? = some u → World.cell? wn2 ((⟨tb, 0, none⟩ : Addr).add j) = some u))
   clear HH htb hwq
   simp only [Act.put, sA, sB, sC]
   refine hK.out _ _ SN.out (fun hH2 => ?_)
   clear hK K SN
   refine wpAnyH_ready (rs := [4]) (by kernel_rfl) (by simp) ?_
   refine AllReadyH.cons (o := nw7Do_4) rfl (fun K hK => ?_) AllReadyH.nil
   unfold nw7Do_4
   have HH := hidden hH2
   clear hH2
   refine wp_loadCD _ rfl s 2 nq cv Pv rfl SYF.out.c2 ?_
   simp only [Act.put, sA, sB, sC]
   have SN := HH
   clear HH
   refine hK.out _ _ SN.out (fun hH3 => ?_)
   clear hK K SN
   refine wpAnyH_ready (rs := [8]) (by kernel_rfl) (by simp) ?_
   refine AllReadyH.cons (o := nw7Do_8) rfl (fun K hK => ?_) AllReadyH.nil
   unfold nw7Do_8
   have HH := hidden hH3
   clear hH3
   refine wp_appLD _ _ rfl SYF.out HNQ.out HQ2.out tb 1 [.slice R1 x1 e1] rfl (by omega) rfl rfl CN.out (by simp [Value.oneCell']) (fun P4 c4 wn4 hO hG => ?_)
   have SN := hidden (HH.out.row hG)
   have FIN := hidden ((new_moreD SYF.out HNQ.out HX1.out OU.out LX.out hO hG))
   have TH := hidden (there_row2D SYF.out.h SYF.out.row hG)
   clear HH hO hG CN
   simp only [Act.put, sA, sB, sC]
   refine hK.out _ _ SN.out (fun hH4 => ?_)
   clear hK K SN
   refine tk 9 nw7Do_9 (.pointer (some ⟨s, 0, none⟩)) rfl (by kernel_rfl) hH4 rfl (fun w0 hSw => ?_) ?_
   ·(unfold nw7Do_9; clear hSw; go_simp)
   simp only [nw7Do_9, Act.put, sA, sB, sC]
   refine tk 10 nw7Do_10 (.pointer (some ⟨s, 2, none⟩)) rfl (by kernel_rfl) hH4 rfl (fun w0 hSw => ?_) ?_
   ·(unfold nw7Do_10; clear hSw; go_simp)
   simp only [nw7Do_10, Act.put, sA, sB, sC]
   refine wpAnyH_ready (rs := [11]) (by kernel_rfl) (by simp) ?_
   refine AllReadyH.cons (o := nw7Do_11) rfl (fun K hK => ?_) AllReadyH.nil
   unfold nw7Do_11
   have HH := hidden hH4
   clear hH4
   refine wp_storeV 77 _ _ rfl s 2 P4 (nq + 1) c4 (by rfl) (by rfl) TH.out i1_LD rfl (fun wn5 hw => ?_)
   have SN := hidden (HH.out.sys (gb_setCells s [.slice P4 (nq + 1) c4] 2 _))
   have FE := hidden ((fin_ofD FIN.out hw : Dy base _ s m Kg (.slice P4 (nq + 1) c4) (vs ++ [.slice R1 x1 e1]) (QQ ++ [X])))
   rw [← hw] at SN
   clear HH hw
   refine hK.out _ _ SN.out (fun hH5 => ?_)
   clear hK K SN
   have HH := hidden hH5
   have FQ := hidden (HQ.out _ R1 P4 e1 c4 tb HH.out FE.out)
   refine wpAnyH_done (by kernel_rfl) ?_ _
   refine NoPanic.normal ?_
   exact FQ.out
def NuD (w : World) (s m j : Nat) (w' : World) : Prop := ∃ Pv cv vs, Dy w.heap.size w' s m m (.slice Pv j cv) vs (enl j) ∧ Below w.heap.size w w'
theorem new_belD {w wr wz : World} {s m Kg nq cv : Nat} {Pv : Option Addr} {vs : List Value} {Q : List (List Tm)} (hb : Below w.heap.size w wr) (h : Dy w.heap.size wr s m Kg (.slice Pv nq cv) vs Q) (hf : Fy s (.slice Pv nq cv) s wr wz) : Below w.heap.size w wz :=
 ⟨hf.os.trans hb.os, hf.tape.trans hb.tape, hf.output.trans hb.output, Nat.le_trans hb.size hf.size, fun k hk => (hf.block k (Nat.lt_of_lt_of_le hk hb.size) (by have := h.bs; omega) (fun e => by have := (h.row.lt k e).1; omega) (by have := h.bs; omega)).trans (hb.block k hk)⟩
theorem dNew_any (m : Nat) (w : World) (hm : m ≤ 16) : Calls Tryz.prog 13 #[.int .i64 (m : Int)] w fun e w' => e = .returned (.tuple #[.pointer (some ⟨w.heap.size, 0, none⟩), .int .i64 0]) ∧ NuD w w.heap.size m m w' := by
 have l0 : ¬ (m : Int) < 0 := by omega
 have l1 : ¬ (16 : Int) < (m : Int) := by omega
 have HM := hidden hm
 have NU : Hid (NuD w w.heap.size m 0 (w.alloc (.cells #[.int .i64 (m : Int), .int .i64 (m : Int), .slice none 0 0] 79))) := hidden ⟨none, 0, [], ⟨heap_alloc_new w _, World.ownsRow_nil _ _ _ _, fun i X hX => by simp [enl] at hX, Nat.le_refl _, by simp [enl]⟩, bl_alloc w _⟩
 clear hm
 go_enter Tryz.func13, Tryz.ntmps13
 go_upto_region 4 with fail
 generalize w.alloc (.cells #[.int .i64 (m : Int), .int .i64 (m : Int), .slice none 0 0] 79) = w1 at *
 go_upto_region 5 with fail
 go_loopw [5] (fun iv w' => ∃ j : Nat, j ≤ m ∧ iv = .int .i64 (j : Int) ∧ Hid (NuD w w.heap.size m j w')) (fun i _ => m - (intOf i).toNat)
 case atStart => exact ⟨0, by omega, rfl, NU⟩
 case round =>
  clear NU
  obtain ⟨j, hj, rfl, hN⟩ := hrel
  by_cases hjm : j < m
  ·have j0 : (j : Int) < (m : Int) := by omega
   have w9 : IntKind.i64.wrap ((j : Int) + 1) = (j : Int) + 1 := IntWalk.i64_in _ (by have := HM.out; omega)
   obtain ⟨Pv, cv, vs, sy, hb⟩ := hN.out
   have B0 := hidden hb
   clear hb hN
   go_upto_region 7 with fail
   refine nw7D _ w.heap.size w.heap.size m m j cv (enX j).length Pv vs (enl j) (enX j) (j : Int) _ _ _ _ _ _ _ _ _ _ _ _ _ _ _ _ _ _ _ _ _ _ _ _ _ _ _ _ _ _ _ wr sy (hidden (enl_len j)) (hidden (by have := HM.out; omega)) (hidden rfl) (hidden (Cm.lf_ls L0 _)) (hidden (fun y => begun_sl y)) (hidden ?_)
   intro wz R1 P4 e1 c4 tb hf hs
   have PN : Hid (NuD w w.heap.size m (j + 1) wz) := hidden ⟨P4, c4, _, hs, new_belD B0.out sy hf⟩
   clear hf hs sy
   go_wp2_with fail
   go_roundw
   case rel => exact ⟨j + 1, by omega, by go_num, PN⟩
   case measure => simp [intOf]; omega
  ·obtain rfl : j = m := by omega
   have lq : ¬ (j : Int) < (j : Int) := by omega
   have PN := hN
   clear hN
   go_wp2_with fail
   refine bodyPost_ret (v := .tuple #[.pointer (some ⟨w.heap.size, 0, none⟩), .int .i64 0]) (by simp [results, Tryz.results13, go_sem]) rfl ⟨rfl, PN.out⟩
end Ci
end Go.Proofs.YtnkaolobcglmlaaGreatDoor
