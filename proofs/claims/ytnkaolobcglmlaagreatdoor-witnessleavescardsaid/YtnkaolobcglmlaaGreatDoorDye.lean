import Derived.Test.YtnkaolobcglmlaaGreatDoorTk
import Derived.Test.YtnkaolobcglmlaaGreatDoorDz
namespace Go.Proofs.YtnkaolobcglmlaaGreatDoor
open Go.RowKit
set_option linter.unusedVariables false
set_option linter.unusedSimpArgs false
open Cm (Wr Tm co bf Ls lf ins Eqm)
namespace Ci
set_option maxRecDepth 100000
set_option maxHeartbeats 8000000
theorem dOf_sl (q : Wr) (w : World) : Calls Tryz.prog 43 #[.agg #[.int .i64 q.1, .int .i64 q.2]] w fun e w' => ∃ P c, e = .returned (.slice P 1 c) ∧ Lt w' P 1 (ft [(q, 1)]) ∧ Below w.heap.size w w' :=
 (dOf_any q w).mono fun e w' ⟨v, he, h⟩ => by
  obtain ⟨P, c, e1, hl⟩ := h.shape
  subst e1
  exact ⟨P, c, he, hl, h.2⟩
theorem dSub_sl (q : Wr) (P R : Option Addr) (c d : Nat) (Y : List Tm) (w : World) (hn : Y.length ≤ 1048576) (hL : Lt w P 1 (ft [(q, 1)])) (hL2 : Lt w R Y.length (ft Y)) : Calls Tryz.prog 44 #[.slice P 1 c, .slice R Y.length d] w fun e w' => ∃ R1 e1, e = .returned (.slice R1 (lf Sm.L ([(q, 1)] ++ lf Sm.L (sc (-1) Y))).length e1) ∧ Dl1 w (lf Sm.L ([(q, 1)] ++ lf Sm.L (sc (-1) Y))) (.slice R1 (lf Sm.L ([(q, 1)] ++ lf Sm.L (sc (-1) Y))).length e1) (lf Sm.L ([(q, 1)] ++ lf Sm.L (sc (-1) Y))).length w' :=
 (dSub_any P R c d [(q, 1)] Y w (by simp; omega) hL hL2).mono fun e w' ⟨v, he, h⟩ => by
  obtain ⟨P, c, e1, _, _⟩ := own_shT h.1
  subst e1
  exact ⟨P, c, he, h⟩
theorem buildL2D (p p2 : Option Addr) (n c n2 c2 : Nat) (w : World) : (Instr.buildSlice 77 2 #[(0, .slice p n c), (1, .slice p2 n2 c2)]).run Tryz.prog w = .ok (.slice (some ⟨w.heap.size, 0, none⟩) 2 2) (w.alloc (.cells #[.slice p n c, .slice p2 n2 c2] 69)) := by kernel_rfl
theorem wp_buildL2D {w : World} {o : Oper} {a : Act} {K : Act → World → Prop} {Q : Exit → Act → World → Prop} (x0 x1 : Operand) (ho : o.op = .buildSlice 77 2 #[(0, x0), (1, x1)]) (p p2 : Option Addr) (n c n2 c2 : Nat) (h0 : a.eval x0 = .slice p n c) (h1 : a.eval x1 = .slice p2 n2 c2) (h : ∀ (tb : Nat) (wq : World), tb = w.heap.size → wq = w.alloc (.cells #[.slice p n c, .slice p2 n2 c2] 69) → K (a.put o.dst (.slice (some ⟨tb, 0, none⟩) 2 2)) wq) : o.wp Tryz.prog a w K Q := by
 have hr := buildL2D p p2 n c n2 c2 w
 unfold Oper.wp execOp
 simp only [ho, Sem.run_bind, Sem.run_pure, Result.andThen_ok, List.map_toArray, List.map_cons, List.map_nil, h0, h1, hr]
 exact h _ _ rfl rfl
theorem new_more2D {base s m Kg nq x1 x2 cv : Nat} {Pv : Option Addr} {w w2 : World} {vs : List Value} {Q : List (List Tm)} {X Y : List Tm} {R1 R2 P4 : Option Addr} {e1 e2 c4 : Nat} (h : Dy base w s m Kg (.slice Pv nq cv) vs Q) (hq : Q.length = nq) (hx : X.length = x1) (hy : Y.length = x2) (hu : w.ownsRow 0 86 6 (.slice R1 x1 e1) x1 (tls X)) (hu2 : w.ownsRow 0 86 6 (.slice R2 x2 e2) x2 (tls Y)) (hX : Ls Sm.L X) (hY : Ls Sm.L Y) (ho : w2.ownsRow base 69 1 (.slice P4 (nq + 2) c4) (nq + 2) (vs ++ [.slice R1 x1 e1, .slice R2 x2 e2])) (hg : w.grownBy w2 (Value.slice Pv nq cv).ownBlock) :
  Dy base (w2.setCell ⟨s, 2, none⟩ (.slice P4 (nq + 2) c4)) s m Kg (.slice P4 (nq + 2) c4) (vs ++ [.slice R1 x1 e1, .slice R2 x2 e2]) (Q ++ [X, Y]) := by
 subst hq
 subst hx
 subst hy
 refine h.moreL (us := [.slice R1 X.length e1, .slice R2 Y.length e2]) (Xs := [X, Y]) (fun i Z hZ => ?_) (fun Z hZ => ?_) ho hg
 ·have hi := (List.getElem?_eq_some_iff.1 hZ).1
  obtain rfl | rfl : i = 0 ∨ i = 1 := by simp at hi; omega
  ·simp only [List.getElem?_cons_zero, Option.some.injEq] at hZ
   subst hZ
   exact ⟨_, rfl, hu⟩
  ·simp only [List.getElem?_cons_succ, List.getElem?_cons_zero, Option.some.injEq] at hZ
   subst hZ
   exact ⟨_, rfl, hu2⟩
 ·simp only [List.mem_cons, List.not_mem_nil, or_false] at hZ
  rcases hZ with rfl | rfl
  ·exact hX
  ·exact hY
def dm8o_0 : Oper := { dst := some 54, op := Op.move (Operand.tmp 0), type := 33, pos := "circuit.go:191", after := #[], guard := none }
def dm8o_1 : Oper := { dst := some 55, op := Op.move (Operand.tmp 0), type := 33, pos := "circuit.go:191", after := #[], guard := none }
def dm8o_2 : Oper := { dst := some 56, op := Op.nilCheck (Operand.tmp 55), type := 0, pos := "circuit.go:191", after := #[{ on := 1, ground := Ground.data }], guard := none }
def dm8o_3 : Oper := { dst := some 57, op := Op.fieldAddr 79 (Operand.tmp 56) 2, type := 0, pos := "circuit.go:191", after := #[{ on := 2, ground := Ground.data }], guard := none }
def dm8o_4 : Oper := { dst := some 58, op := Op.load 77 (Operand.tmp 57), type := 77, pos := "circuit.go:191", after := #[{ on := 3, ground := Ground.data }], guard := none }
def dm8o_5 : Oper := { dst := some 59, op := Op.load 51 (Operand.tmp 12), type := 51, pos := "circuit.go:191", after := #[], guard := none }
def dm8o_6 : Oper := { dst := some 60, op := Op.call { callee := Callee.value (Operand.func 43), args := #[Operand.tmp 59], argTypes := #[51] }, type := 69, pos := "circuit.go:191", after := #[{ on := 5, ground := Ground.data }], guard := none }
def dm8o_7 : Oper := { dst := some 61, op := Op.move (Operand.tmp 1), type := 69, pos := "circuit.go:191", after := #[], guard := none }
def dm8o_8 : Oper := { dst := some 62, op := Op.call { callee := Callee.value (Operand.func 44), args := #[Operand.tmp 60, Operand.tmp 61], argTypes := #[69, 69] }, type := 69, pos := "circuit.go:191", after := #[{ on := 6, ground := Ground.data }, { on := 7, ground := Ground.data }, { on := 6, ground := Ground.chain }], guard := none }
def dm8o_9 : Oper := { dst := some 63, op := Op.load 51 (Operand.tmp 13), type := 51, pos := "circuit.go:191", after := #[], guard := none }
def dm8o_10 : Oper := { dst := some 64, op := Op.call { callee := Callee.value (Operand.func 43), args := #[Operand.tmp 63], argTypes := #[51] }, type := 69, pos := "circuit.go:191", after := #[{ on := 9, ground := Ground.data }, { on := 8, ground := Ground.chain }], guard := none }
def dm8o_11 : Oper := { dst := some 65, op := Op.move (Operand.tmp 2), type := 69, pos := "circuit.go:191", after := #[], guard := none }
def dm8o_12 : Oper := { dst := some 66, op := Op.call { callee := Callee.value (Operand.func 44), args := #[Operand.tmp 64, Operand.tmp 65], argTypes := #[69, 69] }, type := 69, pos := "circuit.go:191", after := #[{ on := 10, ground := Ground.data }, { on := 11, ground := Ground.data }, { on := 10, ground := Ground.chain }], guard := none }
def dm8o_13 : Oper := { dst := some 67, op := Op.buildSlice 77 2 #[(0, Operand.tmp 62), (1, Operand.tmp 66)], type := 77, pos := "circuit.go:191", after := #[{ on := 8, ground := Ground.data }, { on := 12, ground := Ground.data }], guard := none }
def dm8o_14 : Oper := { dst := some 68, op := Op.call { callee := Callee.builtin Builtin.append, args := #[Operand.tmp 58, Operand.tmp 67], argTypes := #[77, 77] }, type := 77, pos := "circuit.go:191", after := #[{ on := 4, ground := Ground.data }, { on := 13, ground := Ground.data }, { on := 12, ground := Ground.chain }], guard := none }
def dm8o_15 : Oper := { dst := some 69, op := Op.nilCheck (Operand.tmp 54), type := 0, pos := "circuit.go:191", after := #[{ on := 0, ground := Ground.data }, { on := 0, ground := Ground.phase }, { on := 1, ground := Ground.phase }, { on := 2, ground := Ground.phase }, { on := 3, ground := Ground.phase }, { on := 4, ground := Ground.phase }, { on := 5, ground := Ground.phase }, { on := 6, ground := Ground.phase }, { on := 7, ground := Ground.phase }, { on := 8, ground := Ground.phase }, { on := 9, ground := Ground.phase }, { on := 10, ground := Ground.phase }, { on := 11, ground := Ground.phase }, { on := 12, ground := Ground.phase }, { on := 13, ground := Ground.phase }, { on := 14, ground := Ground.phase }], guard := none }
def dm8o_16 : Oper := { dst := some 70, op := Op.fieldAddr 79 (Operand.tmp 69) 2, type := 0, pos := "circuit.go:191", after := #[{ on := 15, ground := Ground.data }, { on := 0, ground := Ground.phase }, { on := 1, ground := Ground.phase }, { on := 2, ground := Ground.phase }, { on := 3, ground := Ground.phase }, { on := 4, ground := Ground.phase }, { on := 5, ground := Ground.phase }, { on := 6, ground := Ground.phase }, { on := 7, ground := Ground.phase }, { on := 8, ground := Ground.phase }, { on := 9, ground := Ground.phase }, { on := 10, ground := Ground.phase }, { on := 11, ground := Ground.phase }, { on := 12, ground := Ground.phase }, { on := 13, ground := Ground.phase }, { on := 14, ground := Ground.phase }], guard := none }
def dm8o_17 : Oper := { dst := none, op := Op.store 77 (Operand.tmp 70) (Operand.tmp 68), type := 0, pos := "circuit.go:191", after := #[{ on := 16, ground := Ground.data }, { on := 14, ground := Ground.data }, { on := 14, ground := Ground.chain }, { on := 0, ground := Ground.phase }, { on := 1, ground := Ground.phase }, { on := 2, ground := Ground.phase }, { on := 3, ground := Ground.phase }, { on := 4, ground := Ground.phase }, { on := 5, ground := Ground.phase }, { on := 6, ground := Ground.phase }, { on := 7, ground := Ground.phase }, { on := 8, ground := Ground.phase }, { on := 9, ground := Ground.phase }, { on := 10, ground := Ground.phase }, { on := 11, ground := Ground.phase }, { on := 12, ground := Ground.phase }, { on := 13, ground := Ground.phase }, { on := 14, ground := Ground.phase }], guard := none }
def dm8o : Array Oper := #[dm8o_0, dm8o_1, dm8o_2, dm8o_3, dm8o_4, dm8o_5, dm8o_6, dm8o_7, dm8o_8, dm8o_9, dm8o_10, dm8o_11, dm8o_12, dm8o_13, dm8o_14, dm8o_15, dm8o_16, dm8o_17]
set_option maxRecDepth 100000 in
set_option maxHeartbeats 16000000 in
theorem dm8 (Q : Exit → Act → World → Prop) (base s m Kg nq cv x1 x2 B1 B2 na ca nb cb : Nat) (Pv Pa Pb : Option Addr) (qk qi rk ri : Int) (vs : List Value) (QQ : List (List Tm)) (X Y : List Tm) (u3 u4 u5 u6 u7 u8 u9 u10 u11 u14 u15 u16 u17 u18 u19 u20 u21 u22 u23 u24 u25 u26 u27 u28 u29 u30 u31 u32 u33 u34 u35 u36 u37 u38 u39 u40 u41 u42 u43 u44 u45 u46 u47 u48 u49 u50 u51 u52 u53 u54 u55 u56 u57 u58 u59 u60 u61 u62 u63 u64 u65 u66 u67 u68 u69 u70 u71 u72 u73 u74 : Value) (W : World)
  (sy : Dy base W s m Kg (.slice Pv nq cv) vs QQ) (HNQ : Hid (QQ.length = nq)) (HQ2 : Hid (nq ≤ 4096)) (HX1 : Hid (X.length = x1)) (HX2 : Hid (Y.length = x2)) (LX : Hid (Ls Sm.L X)) (LY : Hid (Ls Sm.L Y))
  (n1s : B1 ≠ s) (n1v : (Value.slice Pv nq cv).ownBlock ≠ some B1) (n2s : B2 ≠ s) (n2v : (Value.slice Pv nq cv).ownBlock ≠ some B2)
  (a0 : W.cell? ⟨B1, 0, none⟩ = some (.int .i64 qk)) (a1 : W.cell? ⟨B1, 1, none⟩ = some (.int .i64 qi)) (b0 : W.cell? ⟨B2, 0, none⟩ = some (.int .i64 rk)) (b1 : W.cell? ⟨B2, 1, none⟩ = some (.int .i64 ri))
  (C6 : Hid (∀ y, Calls Tryz.prog 43 #[.agg #[.int .i64 qk, .int .i64 qi]] y fun e w' => ∃ P c, e = .returned (.slice P 1 c) ∧ Lt w' P 1 (ft [((qk, qi), 1)]) ∧ Below y.heap.size y w'))
  (C8 : Hid (∀ P c y, Fy s (.slice Pv nq cv) s W y → Lt y P 1 (ft [((qk, qi), 1)]) → Calls Tryz.prog 44 #[.slice P 1 c, .slice Pa na ca] y fun e w' => ∃ R1 e1, e = .returned (.slice R1 x1 e1) ∧ Dl1 y X (.slice R1 x1 e1) x1 w'))
  (C10 : Hid (∀ y, Calls Tryz.prog 43 #[.agg #[.int .i64 rk, .int .i64 ri]] y fun e w' => ∃ P c, e = .returned (.slice P 1 c) ∧ Lt w' P 1 (ft [((rk, ri), 1)]) ∧ Below y.heap.size y w'))
  (C12 : Hid (∀ P c y, Fy s (.slice Pv nq cv) s W y → Lt y P 1 (ft [((rk, ri), 1)]) → Calls Tryz.prog 44 #[.slice P 1 c, .slice Pb nb cb] y fun e w' => ∃ R1 e1, e = .returned (.slice R1 x2 e1) ∧ Dl1 y Y (.slice R1 x2 e1) x2 w'))
  (HQ : Hid (∀ (wz : World) (O1 O2 R1 R2 P4 : Option Addr) (o1 o2 e1 e2 c4 tb : Nat), Fy s (.slice Pv nq cv) s W wz → Dy base wz s m Kg (.slice P4 (nq + 2) c4) (vs ++ [.slice R1 x1 e1, .slice R2 x2 e2]) (QQ ++ [X, Y]) → Q .normal ⟨#[.pointer (some ⟨s, 0, none⟩), .slice Pa na ca, .slice Pb nb cb, u3, u4, u5, u6, u7, u8, u9, u10, u11, .pointer (some ⟨B1, 0, none⟩), .pointer (some ⟨B2, 0, none⟩), u14, u15, u16, u17, u18, u19, u20, u21, u22, u23, u24, u25, u26, u27, u28, u29, u30, u31, u32, u33, u34, u35, u36, u37, u38, u39, u40, u41, u42, u43, u44, u45, u46, u47, u48, u49, u50, u51, u52, u53, .pointer (some ⟨s, 0, none⟩), .pointer (some ⟨s, 0, none⟩), .pointer (some ⟨s, 0, none⟩), .pointer (some ⟨s, 2, none⟩), .slice Pv nq cv, .agg #[.int .i64 qk, .int .i64 qi], .slice O1 1 o1, .slice Pa na ca, .slice R1 x1 e1, .agg #[.int .i64 rk, .int .i64 ri], .slice O2 1 o2, .slice Pb nb cb, .slice R2 x2 e2, .slice (some ⟨tb, 0, none⟩) 2 2, .slice P4 (nq + 2) c4, .pointer (some ⟨s, 0, none⟩), .pointer (some ⟨s, 2, none⟩), u71, u72, u73, u74], []⟩ wz)) : (Code.region 8 dm8o true).wp Tryz.prog Q ⟨#[.pointer (some ⟨s, 0, none⟩), .slice Pa na ca, .slice Pb nb cb, u3, u4, u5, u6, u7, u8, u9, u10, u11, .pointer (some ⟨B1, 0, none⟩), .pointer (some ⟨B2, 0, none⟩), u14, u15, u16, u17, u18, u19, u20, u21, u22, u23, u24, u25, u26, u27, u28, u29, u30, u31, u32, u33, u34, u35, u36, u37, u38, u39, u40, u41, u42, u43, u44, u45, u46, u47, u48, u49, u50, u51, u52, u53, u54, u55, u56, u57, u58, u59, u60, u61, u62, u63, u64, u65, u66, u67, u68, u69, u70, u71, u72, u73, u74], []⟩ W := by
 have SYF := hidden (sy.keep (bl_drew W))
 clear sy
 unfold dm8o
 refine wp_region_noPanic ?_
 refine wp_region_held_drew (S := fun x => Fy s (.slice Pv nq cv) s W x) (by kernel_rfl) (Fy.drew0 W) (fun hH0 => ?_)
 refine tk 0 dm8o_0 (.pointer (some ⟨s, 0, none⟩)) rfl (by kernel_rfl) hH0 rfl (fun w0 hSw => ?_) ?_
 ·(unfold dm8o_0; clear hSw; go_simp)
 simp only [dm8o_0, Act.put, sA, sB, sC]
 refine tk 1 dm8o_1 (.pointer (some ⟨s, 0, none⟩)) rfl (by kernel_rfl) hH0 rfl (fun w0 hSw => ?_) ?_
 ·(unfold dm8o_1; clear hSw; go_simp)
 simp only [dm8o_1, Act.put, sA, sB, sC]
 refine tk 5 dm8o_5 (.agg #[.int .i64 qk, .int .i64 qi]) rfl (by kernel_rfl) hH0 rfl (fun w0 hSw => ?_) ?_
 ·(unfold dm8o_5; have hS : Fy s (.slice Pv nq cv) s W w0 := hSw; have a0 := hS.cl a0 n1s n1v n1s; have a1 := hS.cl a1 n1s n1v n1s; clear hS hSw; go_simp)
 simp only [dm8o_5, Act.put, sA, sB, sC]
 refine tk 7 dm8o_7 (.slice Pa na ca) rfl (by kernel_rfl) hH0 rfl (fun w0 hSw => ?_) ?_
 ·(unfold dm8o_7; clear hSw; go_simp)
 simp only [dm8o_7, Act.put, sA, sB, sC]
 refine tk 9 dm8o_9 (.agg #[.int .i64 rk, .int .i64 ri]) rfl (by kernel_rfl) hH0 rfl (fun w0 hSw => ?_) ?_
 ·(unfold dm8o_9; have hS : Fy s (.slice Pv nq cv) s W w0 := hSw; have a0 := hS.cl b0 n2s n2v n2s; have a1 := hS.cl b1 n2s n2v n2s; clear hS hSw; go_simp)
 simp only [dm8o_9, Act.put, sA, sB, sC]
 refine tk 11 dm8o_11 (.slice Pb nb cb) rfl (by kernel_rfl) hH0 rfl (fun w0 hSw => ?_) ?_
 ·(unfold dm8o_11; clear hSw; go_simp)
 simp only [dm8o_11, Act.put, sA, sB, sC]
 refine tk 2 dm8o_2 (.pointer (some ⟨s, 0, none⟩)) rfl (by kernel_rfl) hH0 rfl (fun w0 hSw => ?_) ?_
 ·(unfold dm8o_2; clear hSw; go_simp)
 simp only [dm8o_2, Act.put, sA, sB, sC]
 refine tk 3 dm8o_3 (.pointer (some ⟨s, 2, none⟩)) rfl (by kernel_rfl) hH0 rfl (fun w0 hSw => ?_) ?_
 ·(unfold dm8o_3; clear hSw; go_simp)
 simp only [dm8o_3, Act.put, sA, sB, sC]
 refine wpAnyH_ready (rs := [4, 6]) (by kernel_rfl) (by simp) ?_
 refine AllReadyH.cons (o := dm8o_4) rfl (fun K hK => ?_) (AllReadyH.cons (o := dm8o_6) rfl (fun K hK => ?_) AllReadyH.nil)
 ·unfold dm8o_4
  have HH := hidden hH0
  clear hH0
  refine wp_loadCD _ rfl s 2 nq cv Pv rfl SYF.out.c2 ?_
  simp only [Act.put, sA, sB, sC]
  have SN := HH
  clear HH
  refine hK.out _ _ SN.out (fun hH1 => ?_)
  clear hK K SN
  refine wpAnyH_ready (rs := [6]) (by kernel_rfl) (by simp) ?_
  refine AllReadyH.cons (o := dm8o_6) rfl (fun K hK => ?_) AllReadyH.nil
  unfold dm8o_6
  have HH := hidden hH1
  clear hH1
  go_simp
  refine (C6.out _).mono ?_
  rintro e wn2 ⟨O1, o1, rfl, hl, hb⟩
  have SN := hidden (HH.out.bel hb)
  replace SYF := hidden (SYF.out.keep hb)
  have L1 := hidden (hl)
  clear HH C6 hl hb
  go_wp2_with fail
  refine hK.out _ _ SN.out (fun hH2 => ?_)
  clear hK K SN
  refine wpAnyH_ready (rs := [8]) (by kernel_rfl) (by simp) ?_
  refine AllReadyH.cons (o := dm8o_8) rfl (fun K hK => ?_) AllReadyH.nil
  unfold dm8o_8
  have HH := hidden hH2
  clear hH2
  go_simp
  refine (C8.out O1 o1 _ HH.out L1.out).mono ?_
  rintro e wn3 ⟨R1, e1, rfl, hq⟩
  have SN := hidden (HH.out.bel hq.2)
  replace SYF := hidden (SYF.out.keep hq.2)
  have OU := hidden (own_monoT hq.1 (Nat.zero_le _))
  clear HH C8 hq L1
  go_wp2_with fail
  refine hK.out _ _ SN.out (fun hH3 => ?_)
  clear hK K SN
  refine wpAnyH_ready (rs := [10]) (by kernel_rfl) (by simp) ?_
  refine AllReadyH.cons (o := dm8o_10) rfl (fun K hK => ?_) AllReadyH.nil
  unfold dm8o_10
  have HH := hidden hH3
  clear hH3
  go_simp
  refine (C10.out _).mono ?_
  rintro e wn4 ⟨O2, o2, rfl, hl, hb⟩
  have SN := hidden (HH.out.bel hb)
  replace SYF := hidden (SYF.out.keep hb)
  replace OU := hidden (own_keepT OU.out hb)
  have L2 := hidden (hl)
  clear HH C10 hl hb
  go_wp2_with fail
  refine hK.out _ _ SN.out (fun hH4 => ?_)
  clear hK K SN
  refine wpAnyH_ready (rs := [12]) (by kernel_rfl) (by simp) ?_
  refine AllReadyH.cons (o := dm8o_12) rfl (fun K hK => ?_) AllReadyH.nil
  unfold dm8o_12
  have HH := hidden hH4
  clear hH4
  go_simp
  refine (C12.out O2 o2 _ HH.out L2.out).mono ?_
  rintro e wn5 ⟨R2, e2, rfl, hq⟩
  have SN := hidden (HH.out.bel hq.2)
  replace SYF := hidden (SYF.out.keep hq.2)
  replace OU := hidden (own_keepT OU.out hq.2)
  have OV := hidden (own_monoT hq.1 (Nat.zero_le _))
  clear HH C12 hq L2
  go_wp2_with fail
  refine hK.out _ _ SN.out (fun hH5 => ?_)
  clear hK K SN
  refine wpAnyH_ready (rs := [13]) (by kernel_rfl) (by simp) ?_
  refine AllReadyH.cons (o := dm8o_13) rfl (fun K hK => ?_) AllReadyH.nil
  unfold dm8o_13
  have HH := hidden hH5
  clear hH5
  refine wp_buildL2D _ _ rfl R1 R2 x1 e1 x2 e2 rfl rfl (fun tb wn6 htb hwq => ?_)
  have SN := hidden ((by rw [hwq]; exact HH.out.bel (bl_alloc _ _) : Fy s (.slice Pv nq cv) s W wn6))
  replace SYF := hidden ((by rw [hwq]; exact SYF.out.keep (bl_alloc _ _) : Dy base wn6 s m Kg (.slice Pv nq cv) vs QQ))
  replace OU := hidden ((by rw [hwq]; exact own_keepT OU.out (bl_alloc _ _) : World.ownsRow wn6 0 86 6 (.slice R1 x1 e1) x1 (tls X)))
  replace OV := hidden ((by rw [hwq]; exact own_keepT OV.out (bl_alloc _ _) : World.ownsRow wn6 0 86 6 (.slice R2 x2 e2) x2 (tls Y)))
  have CN := hidden ((by rw [hwq, htb]; exact cells_newT _ [.slice R1 x1 e1, .slice R2 x2 e2] _ : ∀ j u, ([.slice R1 x1 e1, .slice R2 x2 e2] : List Value)[j]? = some u → World.cell? wn6 ((⟨tb, 0, none⟩ : Addr).add j) = some u))
  clear HH htb hwq
  simp only [Act.put, sA, sB, sC]
  refine hK.out _ _ SN.out (fun hH6 => ?_)
  clear hK K SN
  refine wpAnyH_ready (rs := [14]) (by kernel_rfl) (by simp) ?_
  refine AllReadyH.cons (o := dm8o_14) rfl (fun K hK => ?_) AllReadyH.nil
  unfold dm8o_14
  have HH := hidden hH6
  clear hH6
  refine wp_appLD _ _ rfl SYF.out HNQ.out HQ2.out tb 2 [.slice R1 x1 e1, .slice R2 x2 e2] rfl (by omega) rfl rfl CN.out (by simp [Value.oneCell']) (fun P4 c4 wn7 hO hG => ?_)
  have SN := hidden (HH.out.row hG)
  have FIN := hidden ((new_more2D SYF.out HNQ.out HX1.out HX2.out OU.out OV.out LX.out LY.out hO hG))
  have TH := hidden (there_row2D SYF.out.h SYF.out.row hG)
  clear HH hO hG CN
  simp only [Act.put, sA, sB, sC]
  refine hK.out _ _ SN.out (fun hH7 => ?_)
  clear hK K SN
  refine tk 15 dm8o_15 (.pointer (some ⟨s, 0, none⟩)) rfl (by kernel_rfl) hH7 rfl (fun w0 hSw => ?_) ?_
  ·(unfold dm8o_15; clear hSw; go_simp)
  simp only [dm8o_15, Act.put, sA, sB, sC]
  refine tk 16 dm8o_16 (.pointer (some ⟨s, 2, none⟩)) rfl (by kernel_rfl) hH7 rfl (fun w0 hSw => ?_) ?_
  ·(unfold dm8o_16; clear hSw; go_simp)
  simp only [dm8o_16, Act.put, sA, sB, sC]
  refine wpAnyH_ready (rs := [17]) (by kernel_rfl) (by simp) ?_
  refine AllReadyH.cons (o := dm8o_17) rfl (fun K hK => ?_) AllReadyH.nil
  unfold dm8o_17
  have HH := hidden hH7
  clear hH7
  refine wp_storeV 77 _ _ rfl s 2 P4 (nq + 2) c4 (by rfl) (by rfl) TH.out i1_LD rfl (fun wn8 hw => ?_)
  have SN := hidden (HH.out.sys (gb_setCells s [.slice P4 (nq + 2) c4] 2 _))
  have FE := hidden ((fin_ofD FIN.out hw : Dy base _ s m Kg (.slice P4 (nq + 2) c4) (vs ++ [.slice R1 x1 e1, .slice R2 x2 e2]) (QQ ++ [X, Y])))
  rw [← hw] at SN
  clear HH hw
  refine hK.out _ _ SN.out (fun hH8 => ?_)
  clear hK K SN
  have HH := hidden hH8
  have FQ := hidden (HQ.out _ O1 O2 R1 R2 P4 o1 o2 e1 e2 c4 tb HH.out FE.out)
  refine wpAnyH_done (by kernel_rfl) ?_ _
  refine NoPanic.normal ?_
  exact FQ.out
 ·unfold dm8o_6
  have HH := hidden hH0
  clear hH0
  go_simp
  refine (C6.out _).mono ?_
  rintro e wn1 ⟨O1, o1, rfl, hl, hb⟩
  have SN := hidden (HH.out.bel hb)
  replace SYF := hidden (SYF.out.keep hb)
  have L1 := hidden (hl)
  clear HH C6 hl hb
  go_wp2_with fail
  refine hK.out _ _ SN.out (fun hH1 => ?_)
  clear hK K SN
  refine wpAnyH_ready (rs := [4, 8]) (by kernel_rfl) (by simp) ?_
  refine AllReadyH.cons (o := dm8o_4) rfl (fun K hK => ?_) (AllReadyH.cons (o := dm8o_8) rfl (fun K hK => ?_) AllReadyH.nil)
  ·unfold dm8o_4
   have HH := hidden hH1
   clear hH1
   refine wp_loadCD _ rfl s 2 nq cv Pv rfl SYF.out.c2 ?_
   simp only [Act.put, sA, sB, sC]
   have SN := HH
   clear HH
   refine hK.out _ _ SN.out (fun hH2 => ?_)
   clear hK K SN
   refine wpAnyH_ready (rs := [8]) (by kernel_rfl) (by simp) ?_
   refine AllReadyH.cons (o := dm8o_8) rfl (fun K hK => ?_) AllReadyH.nil
   unfold dm8o_8
   have HH := hidden hH2
   clear hH2
   go_simp
   refine (C8.out O1 o1 _ HH.out L1.out).mono ?_
   rintro e wn3 ⟨R1, e1, rfl, hq⟩
   have SN := hidden (HH.out.bel hq.2)
   replace SYF := hidden (SYF.out.keep hq.2)
   have OU := hidden (own_monoT hq.1 (Nat.zero_le _))
   clear HH C8 hq L1
   go_wp2_with fail
   refine hK.out _ _ SN.out (fun hH3 => ?_)
   clear hK K SN
   refine wpAnyH_ready (rs := [10]) (by kernel_rfl) (by simp) ?_
   refine AllReadyH.cons (o := dm8o_10) rfl (fun K hK => ?_) AllReadyH.nil
   unfold dm8o_10
   have HH := hidden hH3
   clear hH3
   go_simp
   refine (C10.out _).mono ?_
   rintro e wn4 ⟨O2, o2, rfl, hl, hb⟩
   have SN := hidden (HH.out.bel hb)
   replace SYF := hidden (SYF.out.keep hb)
   replace OU := hidden (own_keepT OU.out hb)
   have L2 := hidden (hl)
   clear HH C10 hl hb
   go_wp2_with fail
   refine hK.out _ _ SN.out (fun hH4 => ?_)
   clear hK K SN
   refine wpAnyH_ready (rs := [12]) (by kernel_rfl) (by simp) ?_
   refine AllReadyH.cons (o := dm8o_12) rfl (fun K hK => ?_) AllReadyH.nil
   unfold dm8o_12
   have HH := hidden hH4
   clear hH4
   go_simp
   refine (C12.out O2 o2 _ HH.out L2.out).mono ?_
   rintro e wn5 ⟨R2, e2, rfl, hq⟩
   have SN := hidden (HH.out.bel hq.2)
   replace SYF := hidden (SYF.out.keep hq.2)
   replace OU := hidden (own_keepT OU.out hq.2)
   have OV := hidden (own_monoT hq.1 (Nat.zero_le _))
   clear HH C12 hq L2
   go_wp2_with fail
   refine hK.out _ _ SN.out (fun hH5 => ?_)
   clear hK K SN
   refine wpAnyH_ready (rs := [13]) (by kernel_rfl) (by simp) ?_
   refine AllReadyH.cons (o := dm8o_13) rfl (fun K hK => ?_) AllReadyH.nil
   unfold dm8o_13
   have HH := hidden hH5
   clear hH5
   refine wp_buildL2D _ _ rfl R1 R2 x1 e1 x2 e2 rfl rfl (fun tb wn6 htb hwq => ?_)
   have SN := hidden ((by rw [hwq]; exact HH.out.bel (bl_alloc _ _) : Fy s (.slice Pv nq cv) s W wn6))
   replace SYF := hidden ((by rw [hwq]; exact SYF.out.keep (bl_alloc _ _) : Dy base wn6 s m Kg (.slice Pv nq cv) vs QQ))
   replace OU := hidden ((by rw [hwq]; exact own_keepT OU.out (bl_alloc _ _) : World.ownsRow wn6 0 86 6 (.slice R1 x1 e1) x1 (tls X)))
   replace OV := hidden ((by rw [hwq]; exact own_keepT OV.out (bl_alloc _ _) : World.ownsRow wn6 0 86 6 (.slice R2 x2 e2) x2 (tls Y)))
   have CN := hidden ((by rw [hwq, htb]; exact cells_newT _ [.slice R1 x1 e1, .slice R2 x2 e2] _ : ∀ j u, ([.slice R1 x1 e1, .slice R2 x2 e2] : List Value)[j]? = some u → World.cell? wn6 ((⟨tb, 0, none⟩ : Addr).add j) = some u))
   clear HH htb hwq
   simp only [Act.put, sA, sB, sC]
   refine hK.out _ _ SN.out (fun hH6 => ?_)
   clear hK K SN
   refine wpAnyH_ready (rs := [14]) (by kernel_rfl) (by simp) ?_
   refine AllReadyH.cons (o := dm8o_14) rfl (fun K hK => ?_) AllReadyH.nil
   unfold dm8o_14
   have HH := hidden hH6
   clear hH6
   refine wp_appLD _ _ rfl SYF.out HNQ.out HQ2.out tb 2 [.slice R1 x1 e1, .slice R2 x2 e2] rfl (by omega) rfl rfl CN.out (by simp [Value.oneCell']) (fun P4 c4 wn7 hO hG => ?_)
   have SN := hidden (HH.out.row hG)
   have FIN := hidden ((new_more2D SYF.out HNQ.out HX1.out HX2.out OU.out OV.out LX.out LY.out hO hG))
   have TH := hidden (there_row2D SYF.out.h SYF.out.row hG)
   clear HH hO hG CN
   simp only [Act.put, sA, sB, sC]
   refine hK.out _ _ SN.out (fun hH7 => ?_)
   clear hK K SN
   refine tk 15 dm8o_15 (.pointer (some ⟨s, 0, none⟩)) rfl (by kernel_rfl) hH7 rfl (fun w0 hSw => ?_) ?_
   ·(unfold dm8o_15; clear hSw; go_simp)
   simp only [dm8o_15, Act.put, sA, sB, sC]
   refine tk 16 dm8o_16 (.pointer (some ⟨s, 2, none⟩)) rfl (by kernel_rfl) hH7 rfl (fun w0 hSw => ?_) ?_
   ·(unfold dm8o_16; clear hSw; go_simp)
   simp only [dm8o_16, Act.put, sA, sB, sC]
   refine wpAnyH_ready (rs := [17]) (by kernel_rfl) (by simp) ?_
   refine AllReadyH.cons (o := dm8o_17) rfl (fun K hK => ?_) AllReadyH.nil
   unfold dm8o_17
   have HH := hidden hH7
   clear hH7
   refine wp_storeV 77 _ _ rfl s 2 P4 (nq + 2) c4 (by rfl) (by rfl) TH.out i1_LD rfl (fun wn8 hw => ?_)
   have SN := hidden (HH.out.sys (gb_setCells s [.slice P4 (nq + 2) c4] 2 _))
   have FE := hidden ((fin_ofD FIN.out hw : Dy base _ s m Kg (.slice P4 (nq + 2) c4) (vs ++ [.slice R1 x1 e1, .slice R2 x2 e2]) (QQ ++ [X, Y])))
   rw [← hw] at SN
   clear HH hw
   refine hK.out _ _ SN.out (fun hH8 => ?_)
   clear hK K SN
   have HH := hidden hH8
   have FQ := hidden (HQ.out _ O1 O2 R1 R2 P4 o1 o2 e1 e2 c4 tb HH.out FE.out)
   refine wpAnyH_done (by kernel_rfl) ?_ _
   refine NoPanic.normal ?_
   exact FQ.out
  ·unfold dm8o_8
   have HH := hidden hH1
   clear hH1
   go_simp
   refine (C8.out O1 o1 _ HH.out L1.out).mono ?_
   rintro e wn2 ⟨R1, e1, rfl, hq⟩
   have SN := hidden (HH.out.bel hq.2)
   replace SYF := hidden (SYF.out.keep hq.2)
   have OU := hidden (own_monoT hq.1 (Nat.zero_le _))
   clear HH C8 hq L1
   go_wp2_with fail
   refine hK.out _ _ SN.out (fun hH2 => ?_)
   clear hK K SN
   refine wpAnyH_ready (rs := [4, 10]) (by kernel_rfl) (by simp) ?_
   refine AllReadyH.cons (o := dm8o_4) rfl (fun K hK => ?_) (AllReadyH.cons (o := dm8o_10) rfl (fun K hK => ?_) AllReadyH.nil)
   ·unfold dm8o_4
    have HH := hidden hH2
    clear hH2
    refine wp_loadCD _ rfl s 2 nq cv Pv rfl SYF.out.c2 ?_
    simp only [Act.put, sA, sB, sC]
    have SN := HH
    clear HH
    refine hK.out _ _ SN.out (fun hH3 => ?_)
    clear hK K SN
    refine wpAnyH_ready (rs := [10]) (by kernel_rfl) (by simp) ?_
    refine AllReadyH.cons (o := dm8o_10) rfl (fun K hK => ?_) AllReadyH.nil
    unfold dm8o_10
    have HH := hidden hH3
    clear hH3
    go_simp
    refine (C10.out _).mono ?_
    rintro e wn4 ⟨O2, o2, rfl, hl, hb⟩
    have SN := hidden (HH.out.bel hb)
    replace SYF := hidden (SYF.out.keep hb)
    replace OU := hidden (own_keepT OU.out hb)
    have L2 := hidden (hl)
    clear HH C10 hl hb
    go_wp2_with fail
    refine hK.out _ _ SN.out (fun hH4 => ?_)
    clear hK K SN
    refine wpAnyH_ready (rs := [12]) (by kernel_rfl) (by simp) ?_
    refine AllReadyH.cons (o := dm8o_12) rfl (fun K hK => ?_) AllReadyH.nil
    unfold dm8o_12
    have HH := hidden hH4
    clear hH4
    go_simp
    refine (C12.out O2 o2 _ HH.out L2.out).mono ?_
    rintro e wn5 ⟨R2, e2, rfl, hq⟩
    have SN := hidden (HH.out.bel hq.2)
    replace SYF := hidden (SYF.out.keep hq.2)
    replace OU := hidden (own_keepT OU.out hq.2)
    have OV := hidden (own_monoT hq.1 (Nat.zero_le _))
    clear HH C12 hq L2
    go_wp2_with fail
    refine hK.out _ _ SN.out (fun hH5 => ?_)
    clear hK K SN
    refine wpAnyH_ready (rs := [13]) (by kernel_rfl) (by simp) ?_
    refine AllReadyH.cons (o := dm8o_13) rfl (fun K hK => ?_) AllReadyH.nil
    unfold dm8o_13
    have HH := hidden hH5
    clear hH5
    refine wp_buildL2D _ _ rfl R1 R2 x1 e1 x2 e2 rfl rfl (fun tb wn6 htb hwq => ?_)
    have SN := hidden ((by rw [hwq]; exact HH.out.bel (bl_alloc _ _) : Fy s (.slice Pv nq cv) s W wn6))
    replace SYF := hidden ((by rw [hwq]; exact SYF.out.keep (bl_alloc _ _) : Dy base wn6 s m Kg (.slice Pv nq cv) vs QQ))
    replace OU := hidden ((by rw [hwq]; exact own_keepT OU.out (bl_alloc _ _) : World.ownsRow wn6 0 86 6 (.slice R1 x1 e1) x1 (tls X)))
    replace OV := hidden ((by rw [hwq]; exact own_keepT OV.out (bl_alloc _ _) : World.ownsRow wn6 0 86 6 (.slice R2 x2 e2) x2 (tls Y)))
    have CN := hidden ((by rw [hwq, htb]; exact cells_newT _ [.slice R1 x1 e1, .slice R2 x2 e2] _ : ∀ j u, ([.slice R1 x1 e1, .slice R2 x2 e2] : List Value)[j]? = some u → World.cell? wn6 ((⟨tb, 0, none⟩ : Addr).add j) = some u))
    clear HH htb hwq
    simp only [Act.put, sA, sB, sC]
    refine hK.out _ _ SN.out (fun hH6 => ?_)
    clear hK K SN
    refine wpAnyH_ready (rs := [14]) (by kernel_rfl) (by simp) ?_
    refine AllReadyH.cons (o := dm8o_14) rfl (fun K hK => ?_) AllReadyH.nil
    unfold dm8o_14
    have HH := hidden hH6
    clear hH6
    refine wp_appLD _ _ rfl SYF.out HNQ.out HQ2.out tb 2 [.slice R1 x1 e1, .slice R2 x2 e2] rfl (by omega) rfl rfl CN.out (by simp [Value.oneCell']) (fun P4 c4 wn7 hO hG => ?_)
    have SN := hidden (HH.out.row hG)
    have FIN := hidden ((new_more2D SYF.out HNQ.out HX1.out HX2.out OU.out OV.out LX.out LY.out hO hG))
    have TH := hidden (there_row2D SYF.out.h SYF.out.row hG)
    clear HH hO hG CN
    simp only [Act.put, sA, sB, sC]
    refine hK.out _ _ SN.out (fun hH7 => ?_)
    clear hK K SN
    refine tk 15 dm8o_15 (.pointer (some ⟨s, 0, none⟩)) rfl (by kernel_rfl) hH7 rfl (fun w0 hSw => ?_) ?_
    ·(unfold dm8o_15; clear hSw; go_simp)
    simp only [dm8o_15, Act.put, sA, sB, sC]
    refine tk 16 dm8o_16 (.pointer (some ⟨s, 2, none⟩)) rfl (by kernel_rfl) hH7 rfl (fun w0 hSw => ?_) ?_
    ·(unfold dm8o_16; clear hSw; go_simp)
    simp only [dm8o_16, Act.put, sA, sB, sC]
    refine wpAnyH_ready (rs := [17]) (by kernel_rfl) (by simp) ?_
    refine AllReadyH.cons (o := dm8o_17) rfl (fun K hK => ?_) AllReadyH.nil
    unfold dm8o_17
    have HH := hidden hH7
    clear hH7
    refine wp_storeV 77 _ _ rfl s 2 P4 (nq + 2) c4 (by rfl) (by rfl) TH.out i1_LD rfl (fun wn8 hw => ?_)
    have SN := hidden (HH.out.sys (gb_setCells s [.slice P4 (nq + 2) c4] 2 _))
    have FE := hidden ((fin_ofD FIN.out hw : Dy base _ s m Kg (.slice P4 (nq + 2) c4) (vs ++ [.slice R1 x1 e1, .slice R2 x2 e2]) (QQ ++ [X, Y])))
    rw [← hw] at SN
    clear HH hw
    refine hK.out _ _ SN.out (fun hH8 => ?_)
    clear hK K SN
    have HH := hidden hH8
    have FQ := hidden (HQ.out _ O1 O2 R1 R2 P4 o1 o2 e1 e2 c4 tb HH.out FE.out)
    refine wpAnyH_done (by kernel_rfl) ?_ _
    refine NoPanic.normal ?_
    exact FQ.out
   ·unfold dm8o_10
    have HH := hidden hH2
    clear hH2
    go_simp
    refine (C10.out _).mono ?_
    rintro e wn3 ⟨O2, o2, rfl, hl, hb⟩
    have SN := hidden (HH.out.bel hb)
    replace SYF := hidden (SYF.out.keep hb)
    replace OU := hidden (own_keepT OU.out hb)
    have L2 := hidden (hl)
    clear HH C10 hl hb
    go_wp2_with fail
    refine hK.out _ _ SN.out (fun hH3 => ?_)
    clear hK K SN
    refine wpAnyH_ready (rs := [4, 12]) (by kernel_rfl) (by simp) ?_
    refine AllReadyH.cons (o := dm8o_4) rfl (fun K hK => ?_) (AllReadyH.cons (o := dm8o_12) rfl (fun K hK => ?_) AllReadyH.nil)
    ·unfold dm8o_4
     have HH := hidden hH3
     clear hH3
     refine wp_loadCD _ rfl s 2 nq cv Pv rfl SYF.out.c2 ?_
     simp only [Act.put, sA, sB, sC]
     have SN := HH
     clear HH
     refine hK.out _ _ SN.out (fun hH4 => ?_)
     clear hK K SN
     refine wpAnyH_ready (rs := [12]) (by kernel_rfl) (by simp) ?_
     refine AllReadyH.cons (o := dm8o_12) rfl (fun K hK => ?_) AllReadyH.nil
     unfold dm8o_12
     have HH := hidden hH4
     clear hH4
     go_simp
     refine (C12.out O2 o2 _ HH.out L2.out).mono ?_
     rintro e wn5 ⟨R2, e2, rfl, hq⟩
     have SN := hidden (HH.out.bel hq.2)
     replace SYF := hidden (SYF.out.keep hq.2)
     replace OU := hidden (own_keepT OU.out hq.2)
     have OV := hidden (own_monoT hq.1 (Nat.zero_le _))
     clear HH C12 hq L2
     go_wp2_with fail
     refine hK.out _ _ SN.out (fun hH5 => ?_)
     clear hK K SN
     refine wpAnyH_ready (rs := [13]) (by kernel_rfl) (by simp) ?_
     refine AllReadyH.cons (o := dm8o_13) rfl (fun K hK => ?_) AllReadyH.nil
     unfold dm8o_13
     have HH := hidden hH5
     clear hH5
     refine wp_buildL2D _ _ rfl R1 R2 x1 e1 x2 e2 rfl rfl (fun tb wn6 htb hwq => ?_)
     have SN := hidden ((by rw [hwq]; exact HH.out.bel (bl_alloc _ _) : Fy s (.slice Pv nq cv) s W wn6))
     replace SYF := hidden ((by rw [hwq]; exact SYF.out.keep (bl_alloc _ _) : Dy base wn6 s m Kg (.slice Pv nq cv) vs QQ))
     replace OU := hidden ((by rw [hwq]; exact own_keepT OU.out (bl_alloc _ _) : World.ownsRow wn6 0 86 6 (.slice R1 x1 e1) x1 (tls X)))
     replace OV := hidden ((by rw [hwq]; exact own_keepT OV.out (bl_alloc _ _) : World.ownsRow wn6 0 86 6 (.slice R2 x2 e2) x2 (tls Y)))
     have CN := hidden ((by rw [hwq, htb]; exact cells_newT _ [.slice R1 x1 e1, .slice R2 x2 e2] _ : ∀ j u, ([.slice R1 x1 e1, .slice R2 x2 e2] : List Value)[j]? = some u → World.cell? wn6 ((⟨tb, 0, none⟩ : Addr).add j) = some u))
     clear HH htb hwq
     simp only [Act.put, sA, sB, sC]
     refine hK.out _ _ SN.out (fun hH6 => ?_)
     clear hK K SN
     refine wpAnyH_ready (rs := [14]) (by kernel_rfl) (by simp) ?_
     refine AllReadyH.cons (o := dm8o_14) rfl (fun K hK => ?_) AllReadyH.nil
     unfold dm8o_14
     have HH := hidden hH6
     clear hH6
     refine wp_appLD _ _ rfl SYF.out HNQ.out HQ2.out tb 2 [.slice R1 x1 e1, .slice R2 x2 e2] rfl (by omega) rfl rfl CN.out (by simp [Value.oneCell']) (fun P4 c4 wn7 hO hG => ?_)
     have SN := hidden (HH.out.row hG)
     have FIN := hidden ((new_more2D SYF.out HNQ.out HX1.out HX2.out OU.out OV.out LX.out LY.out hO hG))
     have TH := hidden (there_row2D SYF.out.h SYF.out.row hG)
     clear HH hO hG CN
     simp only [Act.put, sA, sB, sC]
     refine hK.out _ _ SN.out (fun hH7 => ?_)
     clear hK K SN
     refine tk 15 dm8o_15 (.pointer (some ⟨s, 0, none⟩)) rfl (by kernel_rfl) hH7 rfl (fun w0 hSw => ?_) ?_
     ·(unfold dm8o_15; clear hSw; go_simp)
     simp only [dm8o_15, Act.put, sA, sB, sC]
     refine tk 16 dm8o_16 (.pointer (some ⟨s, 2, none⟩)) rfl (by kernel_rfl) hH7 rfl (fun w0 hSw => ?_) ?_
     ·(unfold dm8o_16; clear hSw; go_simp)
     simp only [dm8o_16, Act.put, sA, sB, sC]
     refine wpAnyH_ready (rs := [17]) (by kernel_rfl) (by simp) ?_
     refine AllReadyH.cons (o := dm8o_17) rfl (fun K hK => ?_) AllReadyH.nil
     unfold dm8o_17
     have HH := hidden hH7
     clear hH7
     refine wp_storeV 77 _ _ rfl s 2 P4 (nq + 2) c4 (by rfl) (by rfl) TH.out i1_LD rfl (fun wn8 hw => ?_)
     have SN := hidden (HH.out.sys (gb_setCells s [.slice P4 (nq + 2) c4] 2 _))
     have FE := hidden ((fin_ofD FIN.out hw : Dy base _ s m Kg (.slice P4 (nq + 2) c4) (vs ++ [.slice R1 x1 e1, .slice R2 x2 e2]) (QQ ++ [X, Y])))
     rw [← hw] at SN
     clear HH hw
     refine hK.out _ _ SN.out (fun hH8 => ?_)
     clear hK K SN
     have HH := hidden hH8
     have FQ := hidden (HQ.out _ O1 O2 R1 R2 P4 o1 o2 e1 e2 c4 tb HH.out FE.out)
     refine wpAnyH_done (by kernel_rfl) ?_ _
     refine NoPanic.normal ?_
     exact FQ.out
    ·unfold dm8o_12
     have HH := hidden hH3
     clear hH3
     go_simp
     refine (C12.out O2 o2 _ HH.out L2.out).mono ?_
     rintro e wn4 ⟨R2, e2, rfl, hq⟩
     have SN := hidden (HH.out.bel hq.2)
     replace SYF := hidden (SYF.out.keep hq.2)
     replace OU := hidden (own_keepT OU.out hq.2)
     have OV := hidden (own_monoT hq.1 (Nat.zero_le _))
     clear HH C12 hq L2
     go_wp2_with fail
     refine hK.out _ _ SN.out (fun hH4 => ?_)
     clear hK K SN
     refine wpAnyH_ready (rs := [4, 13]) (by kernel_rfl) (by simp) ?_
     refine AllReadyH.cons (o := dm8o_4) rfl (fun K hK => ?_) (AllReadyH.cons (o := dm8o_13) rfl (fun K hK => ?_) AllReadyH.nil)
     ·unfold dm8o_4
      have HH := hidden hH4
      clear hH4
      refine wp_loadCD _ rfl s 2 nq cv Pv rfl SYF.out.c2 ?_
      simp only [Act.put, sA, sB, sC]
      have SN := HH
      clear HH
      refine hK.out _ _ SN.out (fun hH5 => ?_)
      clear hK K SN
      refine wpAnyH_ready (rs := [13]) (by kernel_rfl) (by simp) ?_
      refine AllReadyH.cons (o := dm8o_13) rfl (fun K hK => ?_) AllReadyH.nil
      unfold dm8o_13
      have HH := hidden hH5
      clear hH5
      refine wp_buildL2D _ _ rfl R1 R2 x1 e1 x2 e2 rfl rfl (fun tb wn6 htb hwq => ?_)
      have SN := hidden ((by rw [hwq]; exact HH.out.bel (bl_alloc _ _) : Fy s (.slice Pv nq cv) s W wn6))
      replace SYF := hidden ((by rw [hwq]; exact SYF.out.keep (bl_alloc _ _) : Dy base wn6 s m Kg (.slice Pv nq cv) vs QQ))
      replace OU := hidden ((by rw [hwq]; exact own_keepT OU.out (bl_alloc _ _) : World.ownsRow wn6 0 86 6 (.slice R1 x1 e1) x1 (tls X)))
      replace OV := hidden ((by rw [hwq]; exact own_keepT OV.out (bl_alloc _ _) : World.ownsRow wn6 0 86 6 (.slice R2 x2 e2) x2 (tls Y)))
      have CN := hidden ((by rw [hwq, htb]; exact cells_newT _ [.slice R1 x1 e1, .slice R2 x2 e2] _ : ∀ j u, ([.slice R1 x1 e1, .slice R2 x2 e2] : List Value)[j]? = some u → World.cell? wn6 ((⟨tb, 0, none⟩ : Addr).add j) = some u))
      clear HH htb hwq
      simp only [Act.put, sA, sB, sC]
      refine hK.out _ _ SN.out (fun hH6 => ?_)
      clear hK K SN
      refine wpAnyH_ready (rs := [14]) (by kernel_rfl) (by simp) ?_
      refine AllReadyH.cons (o := dm8o_14) rfl (fun K hK => ?_) AllReadyH.nil
      unfold dm8o_14
      have HH := hidden hH6
      clear hH6
      refine wp_appLD _ _ rfl SYF.out HNQ.out HQ2.out tb 2 [.slice R1 x1 e1, .slice R2 x2 e2] rfl (by omega) rfl rfl CN.out (by simp [Value.oneCell']) (fun P4 c4 wn7 hO hG => ?_)
      have SN := hidden (HH.out.row hG)
      have FIN := hidden ((new_more2D SYF.out HNQ.out HX1.out HX2.out OU.out OV.out LX.out LY.out hO hG))
      have TH := hidden (there_row2D SYF.out.h SYF.out.row hG)
      clear HH hO hG CN
      simp only [Act.put, sA, sB, sC]
      refine hK.out _ _ SN.out (fun hH7 => ?_)
      clear hK K SN
      refine tk 15 dm8o_15 (.pointer (some ⟨s, 0, none⟩)) rfl (by kernel_rfl) hH7 rfl (fun w0 hSw => ?_) ?_
      ·(unfold dm8o_15; clear hSw; go_simp)
      simp only [dm8o_15, Act.put, sA, sB, sC]
      refine tk 16 dm8o_16 (.pointer (some ⟨s, 2, none⟩)) rfl (by kernel_rfl) hH7 rfl (fun w0 hSw => ?_) ?_
      ·(unfold dm8o_16; clear hSw; go_simp)
      simp only [dm8o_16, Act.put, sA, sB, sC]
      refine wpAnyH_ready (rs := [17]) (by kernel_rfl) (by simp) ?_
      refine AllReadyH.cons (o := dm8o_17) rfl (fun K hK => ?_) AllReadyH.nil
      unfold dm8o_17
      have HH := hidden hH7
      clear hH7
      refine wp_storeV 77 _ _ rfl s 2 P4 (nq + 2) c4 (by rfl) (by rfl) TH.out i1_LD rfl (fun wn8 hw => ?_)
      have SN := hidden (HH.out.sys (gb_setCells s [.slice P4 (nq + 2) c4] 2 _))
      have FE := hidden ((fin_ofD FIN.out hw : Dy base _ s m Kg (.slice P4 (nq + 2) c4) (vs ++ [.slice R1 x1 e1, .slice R2 x2 e2]) (QQ ++ [X, Y])))
      rw [← hw] at SN
      clear HH hw
      refine hK.out _ _ SN.out (fun hH8 => ?_)
      clear hK K SN
      have HH := hidden hH8
      have FQ := hidden (HQ.out _ O1 O2 R1 R2 P4 o1 o2 e1 e2 c4 tb HH.out FE.out)
      refine wpAnyH_done (by kernel_rfl) ?_ _
      refine NoPanic.normal ?_
      exact FQ.out
     ·unfold dm8o_13
      have HH := hidden hH4
      clear hH4
      refine wp_buildL2D _ _ rfl R1 R2 x1 e1 x2 e2 rfl rfl (fun tb wn5 htb hwq => ?_)
      have SN := hidden ((by rw [hwq]; exact HH.out.bel (bl_alloc _ _) : Fy s (.slice Pv nq cv) s W wn5))
      replace SYF := hidden ((by rw [hwq]; exact SYF.out.keep (bl_alloc _ _) : Dy base wn5 s m Kg (.slice Pv nq cv) vs QQ))
      replace OU := hidden ((by rw [hwq]; exact own_keepT OU.out (bl_alloc _ _) : World.ownsRow wn5 0 86 6 (.slice R1 x1 e1) x1 (tls X)))
      replace OV := hidden ((by rw [hwq]; exact own_keepT OV.out (bl_alloc _ _) : World.ownsRow wn5 0 86 6 (.slice R2 x2 e2) x2 (tls Y)))
      have CN := hidden ((by rw [hwq, htb]; exact cells_newT _ [.slice R1 x1 e1, .slice R2 x2 e2] _ : ∀ j u, ([.slice R1 x1 e1, .slice R2 x2 e2] : List Value)[j]? = some u → World.cell? wn5 ((⟨tb, 0, none⟩ : Addr).add j) = some u))
      clear HH htb hwq
      simp only [Act.put, sA, sB, sC]
      refine hK.out _ _ SN.out (fun hH5 => ?_)
      clear hK K SN
      refine wpAnyH_ready (rs := [4]) (by kernel_rfl) (by simp) ?_
      refine AllReadyH.cons (o := dm8o_4) rfl (fun K hK => ?_) AllReadyH.nil
      unfold dm8o_4
      have HH := hidden hH5
      clear hH5
      refine wp_loadCD _ rfl s 2 nq cv Pv rfl SYF.out.c2 ?_
      simp only [Act.put, sA, sB, sC]
      have SN := HH
      clear HH
      refine hK.out _ _ SN.out (fun hH6 => ?_)
      clear hK K SN
      refine wpAnyH_ready (rs := [14]) (by kernel_rfl) (by simp) ?_
      refine AllReadyH.cons (o := dm8o_14) rfl (fun K hK => ?_) AllReadyH.nil
      unfold dm8o_14
      have HH := hidden hH6
      clear hH6
      refine wp_appLD _ _ rfl SYF.out HNQ.out HQ2.out tb 2 [.slice R1 x1 e1, .slice R2 x2 e2] rfl (by omega) rfl rfl CN.out (by simp [Value.oneCell']) (fun P4 c4 wn7 hO hG => ?_)
      have SN := hidden (HH.out.row hG)
      have FIN := hidden ((new_more2D SYF.out HNQ.out HX1.out HX2.out OU.out OV.out LX.out LY.out hO hG))
      have TH := hidden (there_row2D SYF.out.h SYF.out.row hG)
      clear HH hO hG CN
      simp only [Act.put, sA, sB, sC]
      refine hK.out _ _ SN.out (fun hH7 => ?_)
      clear hK K SN
      refine tk 15 dm8o_15 (.pointer (some ⟨s, 0, none⟩)) rfl (by kernel_rfl) hH7 rfl (fun w0 hSw => ?_) ?_
      ·(unfold dm8o_15; clear hSw; go_simp)
      simp only [dm8o_15, Act.put, sA, sB, sC]
      refine tk 16 dm8o_16 (.pointer (some ⟨s, 2, none⟩)) rfl (by kernel_rfl) hH7 rfl (fun w0 hSw => ?_) ?_
      ·(unfold dm8o_16; clear hSw; go_simp)
      simp only [dm8o_16, Act.put, sA, sB, sC]
      refine wpAnyH_ready (rs := [17]) (by kernel_rfl) (by simp) ?_
      refine AllReadyH.cons (o := dm8o_17) rfl (fun K hK => ?_) AllReadyH.nil
      unfold dm8o_17
      have HH := hidden hH7
      clear hH7
      refine wp_storeV 77 _ _ rfl s 2 P4 (nq + 2) c4 (by rfl) (by rfl) TH.out i1_LD rfl (fun wn8 hw => ?_)
      have SN := hidden (HH.out.sys (gb_setCells s [.slice P4 (nq + 2) c4] 2 _))
      have FE := hidden ((fin_ofD FIN.out hw : Dy base _ s m Kg (.slice P4 (nq + 2) c4) (vs ++ [.slice R1 x1 e1, .slice R2 x2 e2]) (QQ ++ [X, Y])))
      rw [← hw] at SN
      clear HH hw
      refine hK.out _ _ SN.out (fun hH8 => ?_)
      clear hK K SN
      have HH := hidden hH8
      have FQ := hidden (HQ.out _ O1 O2 R1 R2 P4 o1 o2 e1 e2 c4 tb HH.out FE.out)
      refine wpAnyH_done (by kernel_rfl) ?_ _
      refine NoPanic.normal ?_
      exact FQ.out
end Ci
end Go.Proofs.YtnkaolobcglmlaaGreatDoor
