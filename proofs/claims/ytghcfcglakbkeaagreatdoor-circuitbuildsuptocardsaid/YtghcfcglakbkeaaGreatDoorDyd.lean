import Derived.Test.YtghcfcglakbkeaaGreatDoorDyc
namespace Go.Proofs.YtghcfcglakbkeaaGreatDoor
set_option maxRecDepth 100000
set_option maxHeartbeats 16000000
open Go.RowKit
set_option linter.unusedVariables false
set_option linter.unusedSimpArgs false
open Cm (Wr Tm co bf Ls lf ins Eqm)
namespace Ci
theorem wp_loadCD {op : Oper} {a : Act} {w : World} {K : Act → World → Prop} {Q : Exit → Act → World → Prop} (x : Operand) (ho : op.op = .load 95 x) (b o n c : Nat) (p : Option Addr) (hx : a.eval x = .pointer (some ⟨b, o, none⟩)) (hc : w.cell? ⟨b, o, none⟩ = some (.slice p n c)) (h : K (a.put op.dst (.slice p n c)) w) : op.wp Tryz.prog a w K Q := by
 have hr : (loadVar 95 ⟨b, o, none⟩).run Tryz.prog w = .ok (.slice p n c) w := by
  have ha : (isAgg 95).run Tryz.prog w = .ok false w := by kernel_rfl
  unfold loadVar
  simp only [Sem.run_bind, ha, Result.andThen_ok, Bool.false_eq_true, if_false]
  simp [go_sem, hc]
 unfold Oper.wp execOp
 simp only [ho, hx, Instr.loadAt, Instr.sureAddr, Sem.run_bind, Sem.run_pure, Result.andThen_ok, hr]
 exact h
theorem i1_LD : (Tryz.prog.info? 95).map (·.size) = some 1 := by kernel_rfl
theorem Dy.moreL {base : Nat} {w : World} {s m Kg : Nat} {v : Value} {vs : List Value} {Q : List (List Tm)} (h : Dy base w s m Kg v vs Q) {w2 : World} {v' : Value} {us : List Value} {Xs : List (List Tm)} (hu : ∀ (i : Nat) (X : List Tm), Xs[i]? = some X → ∃ u, us[i]? = some u ∧ w.ownsRow 0 116 6 u X.length (tls X)) (hX : ∀ X ∈ Xs, Ls Sm.L X) (ho : w2.ownsRow base 72 1 v' (Q.length + Xs.length) (vs ++ us)) (hg : w.grownBy w2 v.ownBlock) :
  Dy base (w2.setCell ⟨s, 2, none⟩ v') s m Kg v' (vs ++ us) (Q ++ Xs) := by
 have hvs : vs.length = Q.length := by have := h.row.1; omega
 have hne := ne_row2D h.h h.row
 have hs2 : w2.heap[s]? = some (.cells #[.int .i64 (m : Int), .int .i64 (Kg : Int), v] 97 (0, 0)) := (hg.block s h.lt hne).trans h.h
 have hgs := gb_cell w2 s 2 v'
 have hT : ∀ {b1 n : Nat} {u : Value} {xs : List Value}, w.ownsRow b1 116 6 u n xs → w2.ownsRow b1 116 6 u n xs := fun {b1 n u xs} ho1 => ⟨ho1.1, by
  rcases ho1.2 with h' | ⟨g, c, cur, e1, e2, e3, e4⟩
  ·exact .inl h'
  ·refine .inr ⟨g, c, cur, e1, e2, (hg.block g (Array.getElem?_eq_some_iff.1 e3).1 (fun e => ?_)).trans e3, e4⟩
   rcases h.row.2 with ⟨f1, _⟩ | ⟨g', c', cur', f1, _, k1, _⟩
   ·rw [f1] at e; cases e
   ·rw [f1] at e
    simp only [Value.ownBlock, Option.some.injEq] at e
    subst e
    rw [k1] at e3
    simp only [Option.some.injEq, Obj.cells.injEq] at e3
    exact absurd e3.2.1 (by decide)⟩
 refine ⟨?_, ?_, ?_, h.bs, ?_⟩
 ·have := heap_setCell_same w2 s 2 _ 97 v' hs2
  rw [this]
  rfl
 ·rw [List.length_append]
  exact own_keepDS ho hs2 (by decide) hgs
 ·intro i Y hY
  by_cases hi : i < Q.length
  ·rw [List.getElem?_append_left hi] at hY
   obtain ⟨u', a1, a2⟩ := h.ls i Y hY
   exact ⟨u', by rw [List.getElem?_append_left (by omega)]; exact a1, own_keepDS (hT a2) hs2 (by decide) hgs⟩
  ·rw [List.getElem?_append_right (by omega)] at hY
   obtain ⟨u', a1, a2⟩ := hu _ Y hY
   exact ⟨u', by rw [List.getElem?_append_right (by omega), hvs]; exact a1, own_keepDS (hT a2) hs2 (by decide) hgs⟩
 ·intro Y hY
  rcases List.mem_append.1 hY with hY | hY
  ·exact h.sm Y hY
  ·exact hX Y hY
theorem there_row2D {base : Nat} {w w4 : World} {s n : Nat} {v : Value} {vs : List Value} {a b : Value} (h : w.heap[s]? = some (.cells #[a, b, v] 97 (0, 0))) (ho : w.ownsRow base 72 1 v n vs) (hg : w.grownBy w4 v.ownBlock) : w4.there s 2 1 := fun j hj => by
 have hl := (Array.getElem?_eq_some_iff.1 h).1
 have h2 : w4.heap[s]? = some (.cells #[a, b, v] 97 (0, 0)) := (hg.block s hl (ne_row2D h ho)).trans h
 obtain rfl : j = 0 := by omega
 refine ⟨?_, ?_⟩
 ·rw [cell_of_row w4 s (2 + 0) _ 97 (0, 0) h2]; rfl
 ·unfold World.frozen?
  rw [h2]
  simp
theorem buildL1D (p : Option Addr) (n c : Nat) (w : World) : (Instr.buildSlice 95 1 #[(0, .slice p n c)]).run Tryz.prog w = .ok (.slice (some ⟨w.heap.size, 0, none⟩) 1 1) (w.alloc (.cells #[.slice p n c] 72)) := by kernel_rfl
theorem wp_buildL1D {w : World} {o : Oper} {a : Act} {K : Act → World → Prop} {Q : Exit → Act → World → Prop} (x0 : Operand) (ho : o.op = .buildSlice 95 1 #[(0, x0)]) (p : Option Addr) (n c : Nat) (h0 : a.eval x0 = .slice p n c) (h : ∀ (tb : Nat) (wq : World), tb = w.heap.size → wq = w.alloc (.cells #[.slice p n c] 72) → K (a.put o.dst (.slice (some ⟨tb, 0, none⟩) 1 1)) wq) : o.wp Tryz.prog a w K Q := by
 have hr := buildL1D p n c w
 unfold Oper.wp execOp
 simp only [ho, Sem.run_bind, Sem.run_pure, Result.andThen_ok, List.map_toArray, List.map_cons, List.map_nil, h0, hr]
 exact h _ _ rfl rfl
theorem llz0D : (Tryz.prog.info? 72).get!.zero = some (.slice none 0 0) := by kernel_rfl
theorem llz1D : (Tryz.prog.info? 72).get!.size = 1 := by kernel_rfl
theorem llz2D : (Tryz.prog.info? 72).get!.bytes = 24 := by kernel_rfl
theorem lluD : Tryz.prog.underlying 95 = some (.slice 72) := by kernel_rfl
theorem wp_appLD {w : World} {o : Oper} {a : Act} {K : Act → World → Prop} {Q' : Exit → Act → World → Prop} (s' x : Operand) (ho : o.op = .call { callee := .builtin .append, args := #[s', x], argTypes := #[95, 95] }) {base s m Kg : Nat} {Pv : Option Addr} {nq cv : Nat} {vs : List Value} {Q : List (List Tm)} (h : Dy base w s m Kg (.slice Pv nq cv) vs Q) (hq : Q.length = nq) (hq2 : nq ≤ 4096) (tb k : Nat) (us : List Value) (hk : us.length = k) (hk2 : k ≤ 2) (hs : a.eval s' = .slice Pv nq cv) (hx : a.eval x = .slice (some ⟨tb, 0, none⟩) k k) (hc : ∀ j u, us[j]? = some u → w.cell? ((⟨tb, 0, none⟩ : Addr).add j) = some u) (h1 : ∀ u ∈ us, u.oneCell' = true)
  (hK : ∀ P4 c4 w', w'.ownsRow base 72 1 (.slice P4 (nq + k) c4) (nq + k) (vs ++ us) → w.grownBy w' (Value.slice Pv nq cv).ownBlock → K (a.put o.dst (.slice P4 (nq + k) c4)) w') : o.wp Tryz.prog a w K Q' := by
 subst hq
 refine wp_append_own _ s' x 95 ho base 72 _ _ 1 24 lluD llinfoD llz0D llz1D llz2D rfl (by decide) _ Q.length vs hs h.row ⟨tb, 0, none⟩ k k us hx (by omega) hc h1 (by unfold maxLen; omega) (by omega) (by have := h.lt; have := h.bs; omega) (fun v' w' ho' hg _ => ?_)
 obtain ⟨P4, c4, rfl⟩ := own_sh1 ho'
 exact hK P4 c4 w' ho' hg
theorem new_moreD {base s m Kg nq x1 cv : Nat} {Pv : Option Addr} {w w2 : World} {vs : List Value} {Q : List (List Tm)} {X : List Tm} {R1 P4 : Option Addr} {e1 c4 : Nat} (h : Dy base w s m Kg (.slice Pv nq cv) vs Q) (hq : Q.length = nq) (hx : X.length = x1) (hu : w.ownsRow 0 116 6 (.slice R1 x1 e1) x1 (tls X)) (hX : Ls Sm.L X) (ho : w2.ownsRow base 72 1 (.slice P4 (nq + 1) c4) (nq + 1) (vs ++ [.slice R1 x1 e1])) (hg : w.grownBy w2 (Value.slice Pv nq cv).ownBlock) :
  Dy base (w2.setCell ⟨s, 2, none⟩ (.slice P4 (nq + 1) c4)) s m Kg (.slice P4 (nq + 1) c4) (vs ++ [.slice R1 x1 e1]) (Q ++ [X]) := by
 subst hq
 subst hx
 refine h.moreL (us := [.slice R1 X.length e1]) (Xs := [X]) (fun i Y hY => ?_) (fun Y hY => by rw [List.mem_singleton.1 hY]; exact hX) ho hg
 have hi := (List.getElem?_eq_some_iff.1 hY).1
 obtain rfl : i = 0 := by simp at hi; omega
 simp only [List.getElem?_cons_zero, Option.some.injEq] at hY
 subst hY
 exact ⟨_, rfl, hu⟩
theorem fin_ofD {base s m Kg : Nat} {v' : Value} {vs : List Value} {Q : List (List Tm)} {w2 w3 : World} (h : Dy base (w2.setCell ⟨s, 2, none⟩ v') s m Kg v' vs Q) (hw : w3 = w2.setCells s 2 [v']) : Dy base w3 s m Kg v' vs Q := by rw [hw]; exact h
theorem glN_scD (n : Nat) (f : Nat → Trm) : glN n f = sc (-1) (glL n f) := by
 simp [glN, glL, sc, List.map_map, Function.comp_def, Int.mul_neg]
theorem sub_isD (A : List Tm) (n : Nat) (f : Nat → Trm) : lf Sm.L (A ++ glN n f) = lf Sm.L (A ++ lf Sm.L (sc (-1) (glL n f))) := Cm.lf_congr L0 (fun q => by
 rw [Cm.co_app, Cm.co_app, glN_scD, Int.add_emod, ← Cm.lf_eqm (sc (-1) (glL n f)) q, ← Int.add_emod])
theorem glL_one (q : Wr) : glL 1 (cst q) = [(q, 1)] := by
 have h1 : (lst 1).n = 1 := by rw [lst_n]; decide
 simp [glL, cst, List.range_succ, h1]
theorem begun_any (j : Int) (w : World) : Calls Tryz.prog 54 #[.int .i64 j] w fun e w' => ∃ v, e = .returned v ∧ Dl w (enX j) v w' := by
 have C1 := Hn (fun y => dOf_any (2, j) y)
 have C2 := Hn (fun y => dOf_any (5, j) y)
 have C3 := Hn (fun P Q c d y (h1 : Lt y P 1 (ft [((2, j), 1)])) (h2 : Lt y Q 1 (ft [((5, j), 1)])) => dSub_any P Q c d [((2, j), 1)] [((5, j), 1)] y (by simp) h1 h2)
 have e : lf Sm.L ([((2, j), 1)] ++ lf Sm.L (sc (-1) [((5, j), 1)])) = enX j := by
  unfold enX
  rw [sub_isD, glL_one, glL_one]
 rw [e] at C3
 simp only [List.length_cons, List.length_nil] at C3
 clear e
 generalize enX j = X at *
 simp only at C1 C2
 go_enter Tryz.func54, Tryz.ntmps54
 go_wp2_with (first | (have _t := C1; go_at_call 56; refine (C1.out _).mono ?_; rintro e w1 ⟨v1, rfl, h1⟩; obtain ⟨P1, c1, rfl, hl1⟩ := h1.shape; have L1 := Hn hl1; have B1 := Hn h1.2; clear hl1 h1 C1; simp only [List.length_cons, List.length_nil] at *) | (go_at_call 56; refine (C2.out _).mono ?_; rintro e w2 ⟨v2, rfl, h2⟩; obtain ⟨P2, c2, rfl, hl2⟩ := h2.shape; have L2 := Hn hl2; have B2 := Hn h2.2; clear hl2 h2 C2; simp only [List.length_cons, List.length_nil] at *) | (go_at_call 57; refine (C3.out P1 P2 c1 c2 w2 (L1.out.keep B2.out) L2.out).mono ?_; rintro e w3 ⟨v, rfl, h3⟩; have P3 := Hn h3; clear h3))
 refine bodyPost_ret (v := v) (by simp [results, Tryz.results54, go_sem]) rfl ⟨v, rfl, ?_⟩
 exact Dl.under (bl_trans B1.out B2.out) P3.out
def Dl1 (w : World) (X : List Tm) (v : Value) (n : Nat) (w' : World) : Prop := w'.ownsRow w.heap.size 116 6 v n (tls X) ∧ Below w.heap.size w w'
theorem begun_sl {j : Int} (y : World) : Calls Tryz.prog 54 #[.int .i64 j] y fun e w' => ∃ R1 e1, e = .returned (.slice R1 (enX j).length e1) ∧ Dl1 y (enX j) (.slice R1 (enX j).length e1) (enX j).length w' :=
 (begun_any j y).mono fun e w' ⟨v, he, h⟩ => by
  obtain ⟨P, c, e1, _, _⟩ := own_shT h.1
  subst e1
  exact ⟨P, c, he, h⟩
def pDyd0 : String := "circuit.go:121"
def nw7Do_0 : Oper := oO 21 (Op.move (Operand.tmp 4)) 47 pDyd0 #[]
def nw7Do_1 : Oper := oO 22 (Op.move (Operand.tmp 4)) 47 pDyd0 #[]
def nw7Do_2 : Oper := oO 23 (Op.nilCheck (Operand.tmp 22)) 0 pDyd0 #[DD 1]
def nw7Do_3 : Oper := oO 24 (Op.fieldAddr 97 (Operand.tmp 23) 2) 0 pDyd0 #[DD 2]
def nw7Do_4 : Oper := oO 25 (Op.load 95 (Operand.tmp 24)) 95 pDyd0 #[DD 3]
def nw7Do_5 : Oper := oO 26 (Op.move (Operand.tmp 5)) 3 pDyd0 #[]
def nw7Do_6 : Oper := oO 27 (Op.call { callee := Callee.value (Operand.func 54), args := #[Operand.tmp 26], argTypes := #[3] }) 72 pDyd0 #[DD 5]
def nw7Do_7 : Oper := oO 28 (Op.buildSlice 95 1 #[(0, Operand.tmp 27)]) 95 pDyd0 #[DD 6]
def nw7Do_8 : Oper := oO 29 (Op.call { callee := Callee.builtin Builtin.append, args := #[Operand.tmp 25, Operand.tmp 28], argTypes := #[95, 95] }) 95 pDyd0 #[DD 4, DD 7, CH 6]
def nw7Do_9 : Oper := oO 30 (Op.nilCheck (Operand.tmp 21)) 0 pDyd0 #[DD 0, PH 0, PH 1, PH 2, PH 3, PH 4, PH 5, PH 6, PH 7, PH 8]
def nw7Do_10 : Oper := oO 31 (Op.fieldAddr 97 (Operand.tmp 30) 2) 0 pDyd0 #[DD 9, PH 0, PH 1, PH 2, PH 3, PH 4, PH 5, PH 6, PH 7, PH 8]
def nw7Do_11 : Oper := oN (Op.store 95 (Operand.tmp 31) (Operand.tmp 29)) pDyd0 #[DD 10, DD 8, CH 8, PH 0, PH 1, PH 2, PH 3, PH 4, PH 5, PH 6, PH 7, PH 8]
def nw7Do : Array Oper := #[nw7Do_0, nw7Do_1, nw7Do_2, nw7Do_3, nw7Do_4, nw7Do_5, nw7Do_6, nw7Do_7, nw7Do_8, nw7Do_9, nw7Do_10, nw7Do_11]
theorem nw7D (Q : Exit → Act → World → Prop) (base s m Kg nq cv x1 : Nat) (Pv : Option Addr) (vs : List Value) (QQ : List (List Tm)) (X : List Tm) (jj : Int) (u0 u1 u2 u3 u6 u7 u8 u9 aa ab ad ae af ag ah ai aj ak al am an ao ap aq au av aw ax ay az aA : Value) (W : World)
  (sy : Dy base W s m Kg (.slice Pv nq cv) vs QQ) (HNQ : Hid (QQ.length = nq)) (HQ2 : Hid (nq ≤ 4096)) (HX1 : Hid (X.length = x1)) (LX : Hid (Ls Sm.L X))
  (C6 : Hid (∀ y, Calls Tryz.prog 54 #[.int .i64 jj] y fun e w' => ∃ R1 e1, e = .returned (.slice R1 x1 e1) ∧ Dl1 y X (.slice R1 x1 e1) x1 w'))
  (HQ : Hid (∀ (wz : World) (R1 P4 : Option Addr) (e1 c4 tb : Nat), Fy s (.slice Pv nq cv) s W wz → Dy base wz s m Kg (.slice P4 (nq + 1) c4) (vs ++ [.slice R1 x1 e1]) (QQ ++ [X]) → Q .normal ⟨#[u0, u1, u2, u3, .pointer (some ⟨s, 0, none⟩), .int .i64 jj, u6, u7, u8, u9, aa, ab, ad, ae, af, ag, ah, ai, aj, ak, al, .pointer (some ⟨s, 0, none⟩), .pointer (some ⟨s, 0, none⟩), .pointer (some ⟨s, 0, none⟩), .pointer (some ⟨s, 2, none⟩), .slice Pv nq cv, .int .i64 jj, .slice R1 x1 e1, .slice (some ⟨tb, 0, none⟩) 1 1, .slice P4 (nq + 1) c4, .pointer (some ⟨s, 0, none⟩), .pointer (some ⟨s, 2, none⟩), aA], []⟩ wz)) : (Code.region 7 nw7Do true).wp Tryz.prog Q ⟨#[u0, u1, u2, u3, .pointer (some ⟨s, 0, none⟩), .int .i64 jj, u6, u7, u8, u9, aa, ab, ad, ae, af, ag, ah, ai, aj, ak, al, am, an, ao, ap, aq, au, av, aw, ax, ay, az, aA], []⟩ W := by
 have SYF := Hn (sy.keep (bl_drew W))
 clear sy
 unfold nw7Do
 refine wp_region_noPanic ?_
 refine wp_region_held_drew (S := fun x => Fy s (.slice Pv nq cv) s W x) (by kernel_rfl) (Fy.drew0 W) (fun hH0 => ?_)
 refine tj 0 nw7Do_0 (.pointer (some ⟨s, 0, none⟩)) hH0 (fun w0 hSw => ?_) ?_
 ·(unfold nw7Do_0 oO; clear hSw; go_simp)
 simp only [nw7Do_0, oO, Act.put, sA, sB, sC]
 refine tj 1 nw7Do_1 (.pointer (some ⟨s, 0, none⟩)) hH0 (fun w0 hSw => ?_) ?_
 ·(unfold nw7Do_1 oO; clear hSw; go_simp)
 simp only [nw7Do_1, oO, Act.put, sA, sB, sC]
 refine tj 5 nw7Do_5 (.int .i64 jj) hH0 (fun w0 hSw => ?_) ?_
 ·(unfold nw7Do_5 oO; clear hSw; go_simp)
 simp only [nw7Do_5, oO, Act.put, sA, sB, sC]
 refine tj 2 nw7Do_2 (.pointer (some ⟨s, 0, none⟩)) hH0 (fun w0 hSw => ?_) ?_
 ·(unfold nw7Do_2 oO; clear hSw; go_simp)
 simp only [nw7Do_2, oO, Act.put, sA, sB, sC]
 refine tj 3 nw7Do_3 (.pointer (some ⟨s, 2, none⟩)) hH0 (fun w0 hSw => ?_) ?_
 ·(unfold nw7Do_3 oO; clear hSw; go_simp)
 simp only [nw7Do_3, oO, Act.put, sA, sB, sC]
 refine ar [4, 6] ?_
 refine ac nw7Do_4 (fun K hK => ?_) (ac nw7Do_6 (fun K hK => ?_) AllReadyH.nil)
 ·unfold nw7Do_4 oO
  have HH := Hn hH0
  clear hH0
  refine wp_loadCD _ rfl s 2 nq cv Pv rfl SYF.out.c2 ?_
  simp only [Act.put, sA, sB, sC]
  have SN := HH
  clear HH
  refine hK.out _ _ SN.out (fun hH1 => ?_)
  clear hK K SN
  refine ar [6] ?_
  refine ac nw7Do_6 (fun K hK => ?_) AllReadyH.nil
  unfold nw7Do_6 oO
  have HH := Hn hH1
  clear hH1
  go_simp
  refine (C6.out _).mono ?_
  rintro e wn2 ⟨R1, e1, rfl, hq⟩
  have SN := Hn (HH.out.bel hq.2)
  replace SYF := Hn (SYF.out.keep hq.2)
  have OU := Hn (own_monoT hq.1 (Nat.zero_le _))
  clear HH C6 hq
  go_wp2_with fail
  refine hK.out _ _ SN.out (fun hH2 => ?_)
  clear hK K SN
  refine ar [7] ?_
  refine ac nw7Do_7 (fun K hK => ?_) AllReadyH.nil
  unfold nw7Do_7 oO
  have HH := Hn hH2
  clear hH2
  refine wp_buildL1D _ rfl R1 x1 e1 rfl (fun tb wn3 htb hwq => ?_)
  have SN := Hn ((by rw [hwq]; exact HH.out.bel (bl_alloc _ _) : Fy s (.slice Pv nq cv) s W wn3))
  replace SYF := Hn ((by rw [hwq]; exact SYF.out.keep (bl_alloc _ _) : Dy base wn3 s m Kg (.slice Pv nq cv) vs QQ))
  replace OU := Hn ((by rw [hwq]; exact own_keepT OU.out (bl_alloc _ _) : World.ownsRow wn3 0 116 6 (.slice R1 x1 e1) x1 (tls X)))
  have CN := Hn ((by rw [hwq, htb]; exact cells_newT _ [.slice R1 x1 e1] _ : ∀ j u, ([.slice R1 x1 e1] : List Value)[j]? = some u → World.cell? wn3 ((⟨tb, 0, none⟩ : Addr).add j) = some u))
  clear HH htb hwq
  simp only [Act.put, sA, sB, sC]
  refine hK.out _ _ SN.out (fun hH3 => ?_)
  clear hK K SN
  refine ar [8] ?_
  refine ac nw7Do_8 (fun K hK => ?_) AllReadyH.nil
  unfold nw7Do_8 oO
  have HH := Hn hH3
  clear hH3
  refine wp_appLD _ _ rfl SYF.out HNQ.out HQ2.out tb 1 [.slice R1 x1 e1] rfl (by omega) rfl rfl CN.out (by simp [Value.oneCell']) (fun P4 c4 wn4 hO hG => ?_)
  have SN := Hn (HH.out.row hG)
  have FIN := Hn ((new_moreD SYF.out HNQ.out HX1.out OU.out LX.out hO hG))
  have TH := Hn (there_row2D SYF.out.h SYF.out.row hG)
  clear HH hO hG CN
  simp only [Act.put, sA, sB, sC]
  refine hK.out _ _ SN.out (fun hH4 => ?_)
  clear hK K SN
  refine tj 9 nw7Do_9 (.pointer (some ⟨s, 0, none⟩)) hH4 (fun w0 hSw => ?_) ?_
  ·(unfold nw7Do_9 oO; clear hSw; go_simp)
  simp only [nw7Do_9, oO, Act.put, sA, sB, sC]
  refine tj 10 nw7Do_10 (.pointer (some ⟨s, 2, none⟩)) hH4 (fun w0 hSw => ?_) ?_
  ·(unfold nw7Do_10 oO; clear hSw; go_simp)
  simp only [nw7Do_10, oO, Act.put, sA, sB, sC]
  refine ar [11] ?_
  refine ac nw7Do_11 (fun K hK => ?_) AllReadyH.nil
  unfold nw7Do_11 oN
  have HH := Hn hH4
  clear hH4
  refine wp_storeV 95 _ _ rfl s 2 P4 (nq + 1) c4 (by rfl) (by rfl) TH.out i1_LD rfl (fun wn5 hw => ?_)
  have SN := Hn (HH.out.sys (gb_setCells s [.slice P4 (nq + 1) c4] 2 _))
  have FE := Hn ((fin_ofD FIN.out hw : Dy base _ s m Kg (.slice P4 (nq + 1) c4) (vs ++ [.slice R1 x1 e1]) (QQ ++ [X])))
  rw [← hw] at SN
  clear HH hw
  refine hK.out _ _ SN.out (fun hH5 => ?_)
  clear hK K SN
  have HH := Hn hH5
  have FQ := Hn (HQ.out _ R1 P4 e1 c4 tb HH.out FE.out)
  refine wpAnyH_done (by kernel_rfl) ?_ _
  refine NoPanic.normal ?_
  exact FQ.out
 ·unfold nw7Do_6 oO
  have HH := Hn hH0
  clear hH0
  go_simp
  refine (C6.out _).mono ?_
  rintro e wn1 ⟨R1, e1, rfl, hq⟩
  have SN := Hn (HH.out.bel hq.2)
  replace SYF := Hn (SYF.out.keep hq.2)
  have OU := Hn (own_monoT hq.1 (Nat.zero_le _))
  clear HH C6 hq
  go_wp2_with fail
  refine hK.out _ _ SN.out (fun hH1 => ?_)
  clear hK K SN
  refine ar [4, 7] ?_
  refine ac nw7Do_4 (fun K hK => ?_) (ac nw7Do_7 (fun K hK => ?_) AllReadyH.nil)
  ·unfold nw7Do_4 oO
   have HH := Hn hH1
   clear hH1
   refine wp_loadCD _ rfl s 2 nq cv Pv rfl SYF.out.c2 ?_
   simp only [Act.put, sA, sB, sC]
   have SN := HH
   clear HH
   refine hK.out _ _ SN.out (fun hH2 => ?_)
   clear hK K SN
   refine ar [7] ?_
   refine ac nw7Do_7 (fun K hK => ?_) AllReadyH.nil
   unfold nw7Do_7 oO
   have HH := Hn hH2
   clear hH2
   refine wp_buildL1D _ rfl R1 x1 e1 rfl (fun tb wn3 htb hwq => ?_)
   have SN := Hn ((by rw [hwq]; exact HH.out.bel (bl_alloc _ _) : Fy s (.slice Pv nq cv) s W wn3))
   replace SYF := Hn ((by rw [hwq]; exact SYF.out.keep (bl_alloc _ _) : Dy base wn3 s m Kg (.slice Pv nq cv) vs QQ))
   replace OU := Hn ((by rw [hwq]; exact own_keepT OU.out (bl_alloc _ _) : World.ownsRow wn3 0 116 6 (.slice R1 x1 e1) x1 (tls X)))
   have CN := Hn ((by rw [hwq, htb]; exact cells_newT _ [.slice R1 x1 e1] _ : ∀ j u, ([.slice R1 x1 e1] : List Value)[j]? = some u → World.cell? wn3 ((⟨tb, 0, none⟩ : Addr).add j) = some u))
   clear HH htb hwq
   simp only [Act.put, sA, sB, sC]
   refine hK.out _ _ SN.out (fun hH3 => ?_)
   clear hK K SN
   refine ar [8] ?_
   refine ac nw7Do_8 (fun K hK => ?_) AllReadyH.nil
   unfold nw7Do_8 oO
   have HH := Hn hH3
   clear hH3
   refine wp_appLD _ _ rfl SYF.out HNQ.out HQ2.out tb 1 [.slice R1 x1 e1] rfl (by omega) rfl rfl CN.out (by simp [Value.oneCell']) (fun P4 c4 wn4 hO hG => ?_)
   have SN := Hn (HH.out.row hG)
   have FIN := Hn ((new_moreD SYF.out HNQ.out HX1.out OU.out LX.out hO hG))
   have TH := Hn (there_row2D SYF.out.h SYF.out.row hG)
   clear HH hO hG CN
   simp only [Act.put, sA, sB, sC]
   refine hK.out _ _ SN.out (fun hH4 => ?_)
   clear hK K SN
   refine tj 9 nw7Do_9 (.pointer (some ⟨s, 0, none⟩)) hH4 (fun w0 hSw => ?_) ?_
   ·(unfold nw7Do_9 oO; clear hSw; go_simp)
   simp only [nw7Do_9, oO, Act.put, sA, sB, sC]
   refine tj 10 nw7Do_10 (.pointer (some ⟨s, 2, none⟩)) hH4 (fun w0 hSw => ?_) ?_
   ·(unfold nw7Do_10 oO; clear hSw; go_simp)
   simp only [nw7Do_10, oO, Act.put, sA, sB, sC]
   refine ar [11] ?_
   refine ac nw7Do_11 (fun K hK => ?_) AllReadyH.nil
   unfold nw7Do_11 oN
   have HH := Hn hH4
   clear hH4
   refine wp_storeV 95 _ _ rfl s 2 P4 (nq + 1) c4 (by rfl) (by rfl) TH.out i1_LD rfl (fun wn5 hw => ?_)
   have SN := Hn (HH.out.sys (gb_setCells s [.slice P4 (nq + 1) c4] 2 _))
   have FE := Hn ((fin_ofD FIN.out hw : Dy base _ s m Kg (.slice P4 (nq + 1) c4) (vs ++ [.slice R1 x1 e1]) (QQ ++ [X])))
   rw [← hw] at SN
   clear HH hw
   refine hK.out _ _ SN.out (fun hH5 => ?_)
   clear hK K SN
   have HH := Hn hH5
   have FQ := Hn (HQ.out _ R1 P4 e1 c4 tb HH.out FE.out)
   refine wpAnyH_done (by kernel_rfl) ?_ _
   refine NoPanic.normal ?_
   exact FQ.out
  ·unfold nw7Do_7 oO
   have HH := Hn hH1
   clear hH1
   refine wp_buildL1D _ rfl R1 x1 e1 rfl (fun tb wn2 htb hwq => ?_)
   have SN := Hn ((by rw [hwq]; exact HH.out.bel (bl_alloc _ _) : Fy s (.slice Pv nq cv) s W wn2))
   replace SYF := Hn ((by rw [hwq]; exact SYF.out.keep (bl_alloc _ _) : Dy base wn2 s m Kg (.slice Pv nq cv) vs QQ))
   replace OU := Hn ((by rw [hwq]; exact own_keepT OU.out (bl_alloc _ _) : World.ownsRow wn2 0 116 6 (.slice R1 x1 e1) x1 (tls X)))
   have CN := Hn ((by rw [hwq, htb]; exact cells_newT _ [.slice R1 x1 e1] _ : ∀ j u, ([.slice R1 x1 e1] : List Value)[j]? = some u → World.cell? wn2 ((⟨tb, 0, none⟩ : Addr).add j) = some u))
   clear HH htb hwq
   simp only [Act.put, sA, sB, sC]
   refine hK.out _ _ SN.out (fun hH2 => ?_)
   clear hK K SN
   refine ar [4] ?_
   refine ac nw7Do_4 (fun K hK => ?_) AllReadyH.nil
   unfold nw7Do_4 oO
   have HH := Hn hH2
   clear hH2
   refine wp_loadCD _ rfl s 2 nq cv Pv rfl SYF.out.c2 ?_
   simp only [Act.put, sA, sB, sC]
   have SN := HH
   clear HH
   refine hK.out _ _ SN.out (fun hH3 => ?_)
   clear hK K SN
   refine ar [8] ?_
   refine ac nw7Do_8 (fun K hK => ?_) AllReadyH.nil
   unfold nw7Do_8 oO
   have HH := Hn hH3
   clear hH3
   refine wp_appLD _ _ rfl SYF.out HNQ.out HQ2.out tb 1 [.slice R1 x1 e1] rfl (by omega) rfl rfl CN.out (by simp [Value.oneCell']) (fun P4 c4 wn4 hO hG => ?_)
   have SN := Hn (HH.out.row hG)
   have FIN := Hn ((new_moreD SYF.out HNQ.out HX1.out OU.out LX.out hO hG))
   have TH := Hn (there_row2D SYF.out.h SYF.out.row hG)
   clear HH hO hG CN
   simp only [Act.put, sA, sB, sC]
   refine hK.out _ _ SN.out (fun hH4 => ?_)
   clear hK K SN
   refine tj 9 nw7Do_9 (.pointer (some ⟨s, 0, none⟩)) hH4 (fun w0 hSw => ?_) ?_
   ·(unfold nw7Do_9 oO; clear hSw; go_simp)
   simp only [nw7Do_9, oO, Act.put, sA, sB, sC]
   refine tj 10 nw7Do_10 (.pointer (some ⟨s, 2, none⟩)) hH4 (fun w0 hSw => ?_) ?_
   ·(unfold nw7Do_10 oO; clear hSw; go_simp)
   simp only [nw7Do_10, oO, Act.put, sA, sB, sC]
   refine ar [11] ?_
   refine ac nw7Do_11 (fun K hK => ?_) AllReadyH.nil
   unfold nw7Do_11 oN
   have HH := Hn hH4
   clear hH4
   refine wp_storeV 95 _ _ rfl s 2 P4 (nq + 1) c4 (by rfl) (by rfl) TH.out i1_LD rfl (fun wn5 hw => ?_)
   have SN := Hn (HH.out.sys (gb_setCells s [.slice P4 (nq + 1) c4] 2 _))
   have FE := Hn ((fin_ofD FIN.out hw : Dy base _ s m Kg (.slice P4 (nq + 1) c4) (vs ++ [.slice R1 x1 e1]) (QQ ++ [X])))
   rw [← hw] at SN
   clear HH hw
   refine hK.out _ _ SN.out (fun hH5 => ?_)
   clear hK K SN
   have HH := Hn hH5
   have FQ := Hn (HQ.out _ R1 P4 e1 c4 tb HH.out FE.out)
   refine wpAnyH_done (by kernel_rfl) ?_ _
   refine NoPanic.normal ?_
   exact FQ.out
def NuD (w : World) (s m j : Nat) (w' : World) : Prop := ∃ Pv cv vs, Dy w.heap.size w' s m m (.slice Pv j cv) vs (enl j) ∧ Below w.heap.size w w'
theorem new_belD {w wr wz : World} {s m Kg nq cv : Nat} {Pv : Option Addr} {vs : List Value} {Q : List (List Tm)} (hb : Below w.heap.size w wr) (h : Dy w.heap.size wr s m Kg (.slice Pv nq cv) vs Q) (hf : Fy s (.slice Pv nq cv) s wr wz) : Below w.heap.size w wz :=
 ⟨hf.os.trans hb.os, hf.tape.trans hb.tape, hf.output.trans hb.output, Nat.le_trans hb.size hf.size, fun k hk => (hf.block k (Nat.lt_of_lt_of_le hk hb.size) (by have := h.bs; omega) (fun e => by have := (h.row.lt k e).1; omega) (by have := h.bs; omega)).trans (hb.block k hk)⟩
theorem dNew_any (m : Nat) (w : World) (hm : m ≤ 16) : Calls Tryz.prog 15 #[.int .i64 (m : Int)] w fun e w' => e = .returned (.tuple #[.pointer (some ⟨w.heap.size, 0, none⟩), .int .i64 0]) ∧ NuD w w.heap.size m m w' := by
 have l0 : ¬ (m : Int) < 0 := by omega
 have l1 : ¬ (16 : Int) < (m : Int) := by omega
 have HM := Hn hm
 have NU : Hid (NuD w w.heap.size m 0 (w.alloc (.cells #[.int .i64 (m : Int), .int .i64 (m : Int), .slice none 0 0] 97))) := Hn ⟨none, 0, [], ⟨heap_alloc_new w _, World.ownsRow_nil _ _ _ _, fun i X hX => by simp [enl] at hX, Nat.le_refl _, by simp [enl]⟩, bl_alloc w _⟩
 clear hm
 go_enter Tryz.func15, Tryz.ntmps15
 go_upto_region 4 with fail
 generalize w.alloc (.cells #[.int .i64 (m : Int), .int .i64 (m : Int), .slice none 0 0] 97) = w1 at *
 go_upto_region 5 with fail
 go_loopw [5] (fun iv w' => ∃ j : Nat, j ≤ m ∧ iv = .int .i64 (j : Int) ∧ Hid (NuD w w.heap.size m j w')) (fun i _ => m - (intOf i).toNat)
 case atStart => exact ⟨0, by omega, rfl, NU⟩
 case round =>
  clear NU
  obtain ⟨j, hj, rfl, hN⟩ := hrel
  by_cases hjm : j < m
  ·have j0 : (j : Int) < (m : Int) := by omega
   have w9 : IntKind.i64.wrap ((j : Int) + 1) = (j : Int) + 1 := IntWalk.i64_in _ (by have := HM.out; omega)
   obtain ⟨Pv, cv, vs, sy, hb⟩ := hN.out
   have B0 := Hn hb
   clear hb hN
   go_upto_region 7 with fail
   refine nw7D _ w.heap.size w.heap.size m m j cv (enX j).length Pv vs (enl j) (enX j) (j : Int) _ _ _ _ _ _ _ _ _ _ _ _ _ _ _ _ _ _ _ _ _ _ _ _ _ _ _ _ _ _ _ wr sy (Hn (enl_len j)) (Hn (by have := HM.out; omega)) (Hn rfl) (Hn (Cm.lf_ls L0 _)) (Hn (fun y => begun_sl y)) (Hn ?_)
   intro wz R1 P4 e1 c4 tb hf hs
   have PN : Hid (NuD w w.heap.size m (j + 1) wz) := Hn ⟨P4, c4, _, hs, new_belD B0.out sy hf⟩
   clear hf hs sy
   go_wp2_with fail
   go_roundw
   case rel => exact ⟨j + 1, by omega, by go_num, PN⟩
   case measure => simp [intOf]; omega
  ·obtain rfl : j = m := by omega
   have lq : ¬ (j : Int) < (j : Int) := by omega
   have PN := hN
   clear hN
   go_wp2_with fail
   refine bodyPost_ret (v := .tuple #[.pointer (some ⟨w.heap.size, 0, none⟩), .int .i64 0]) (by simp [results, Tryz.results15, go_sem]) rfl ⟨rfl, PN.out⟩
theorem dNew_bad (i : Int) (w : World) (hm : i < 0 ∨ 16 < i) : Calls Tryz.prog 15 #[.int .i64 i] w fun e w' => e = .returned (.tuple #[.pointer none, .int .i64 1]) ∧ w' = w := by
 by_cases l0 : i < 0
 ·clear hm
  go_enter Tryz.func15, Tryz.ntmps15
  go_wp2_with fail
  refine bodyPost_ret (v := .tuple #[.pointer none, .int .i64 1]) (by simp [results, Tryz.results15, go_sem]) rfl ⟨rfl, rfl⟩
 ·have l1 : 16 < i := by omega
  clear hm
  go_enter Tryz.func15, Tryz.ntmps15
  go_wp2_with fail
  refine bodyPost_ret (v := .tuple #[.pointer none, .int .i64 1]) (by simp [results, Tryz.results15, go_sem]) rfl ⟨rfl, rfl⟩
theorem New_bad (i : Int) (w : World) (hm : i < 0 ∨ 16 < i) : Calls Tryz.prog 34 #[.int .i64 i] w fun e w' => e = .returned (.tuple #[.pointer none, .int .i64 1]) ∧ w' = w := by
 by_cases l0 : i < 0
 ·clear hm
  go_enter Tryz.func34, Tryz.ntmps34
  go_wp2_with fail
  refine bodyPost_ret (v := .tuple #[.pointer none, .int .i64 1]) (by simp [results, Tryz.results34, go_sem]) rfl ⟨rfl, rfl⟩
 ·have l1 : 16 < i := by omega
  clear hm
  go_enter Tryz.func34, Tryz.ntmps34
  go_wp2_with fail
  refine bodyPost_ret (v := .tuple #[.pointer none, .int .i64 1]) (by simp [results, Tryz.results34, go_sem]) rfl ⟨rfl, rfl⟩
end Ci
end Go.Proofs.YtghcfcglakbkeaaGreatDoor
