import Derived.Test.YtghcfcglakbkeaaGreatDoorCmi
namespace Go.Proofs.YtghcfcglakbkeaaGreatDoor
set_option maxRecDepth 100000
set_option maxHeartbeats 16000000
open Go.RowKit
set_option linter.unusedVariables false
set_option linter.unusedSimpArgs false
open Cm (Wr Tm co bf Ls lf ins Eqm)
namespace Ci
theorem names1_any {base : Nat} {w : World} {s m Kg : Nat} {v : Value} {vs : List Value} {Q : List (List Tm)} (h : Sy base w s m Kg v vs Q) (B : Nat) (hB : w.cell? ⟨B, 0, none⟩ = some (.pointer (some ⟨s, 0, none⟩))) (t : Trm) : Calls Tryz.prog 112 #[.agg #[.int .i64 t.q.1, .int .i64 t.q.2, .int .u64 t.a.x0, .int .u64 t.a.x1, .int .u64 t.a.x2, .int .u64 t.a.x3], .pointer (some ⟨B, 0, none⟩)] w fun e w' => e = .returned (.bool (!hs m Kg t.q)) ∧ Below w.heap.size w w' := by
 obtain ⟨⟨qk, qi⟩, a⟩ := t
 simp only
 have HA := Hn (bl_alloc w (.cells #[.int .i64 qk, .int .i64 qi, .int .u64 a.x0, .int .u64 a.x1, .int .u64 a.x2, .int .u64 a.x3] 123))
 have C := Hn (has_any (h.keep HA.out) (qk, qi))
 have hB2 := cell_keep hB HA.out
 simp only at C
 clear h hB
 generalize hs m Kg (qk, qi) = r at *
 go_enter Tryz.func112, Tryz.ntmps112
 go_wp2_with (go_at_call 113; refine C.out.mono ?_; rintro e w1 ⟨rfl, hb⟩; have B1 := Hn (bl_trans HA.out hb); clear hb)
 refine bodyPost_ret (v := .bool (!r)) (by simp [results, Tryz.results112, go_sem]) rfl ⟨rfl, B1.out⟩
def an (p : Nat → Bool) : Nat → Bool
 | 0 => false
 | n + 1 => an p n || p n
theorem an_true {p : Nat → Bool} {n k : Nat} (hk : k < n) (h : p k = true) : an p n = true := by
 induction n with
 | zero => omega
 | succ n ih =>
  by_cases e : k = n
  ·subst e; simp [an, h]
  ·simp [an, ih (by omega)]
def nm (m Kg n : Nat) (f : Nat → Trm) : Bool := !an (fun k => !hs m Kg (f k).q) n
theorem index_any {base : Nat} {w : World} {s m Kg : Nat} {v : Value} {vs : List Value} {Q : List (List Tm)} (h : Sy base w s m Kg v vs Q) (B : Nat) (hB : w.cell? ⟨B, 0, none⟩ = some (.pointer (some ⟨s, 0, none⟩))) (P : Option Addr) (n c : Nat) (f : Nat → Trm) (hn : n ≤ 4398046510976) (hL : Lt w P n f) :
  Calls Tryz.prog 144 #[.slice P n c, .func (.func 112) #[] #[.pointer (some ⟨B, 0, none⟩)]] w fun e w' => ∃ r : Int, e = .returned (.int .i64 r) ∧ decide (0 ≤ r) = an (fun k => !hs m Kg (f k).q) n ∧ Below w.heap.size w w' := by
 have C := Hn (fun y (hy : Below w.heap.size w y) t => names1_any (h.keep hy) B (cell_keep hB hy) t)
 have HL := Hn hL
 have HN := Hn hn
 obtain ⟨p, hp⟩ : ∃ p : Nat → Bool, p = fun k => !hs m Kg (f k).q := ⟨_, rfl⟩
 rw [← hp]
 have HP : Hid (∀ k, (!hs m Kg (f k).q) = p k) := Hn (fun k => by rw [hp])
 have A0 : Hid (an p 0 = false ∧ Below w.heap.size w w) := Hn ⟨rfl, Below.refl _ _⟩
 clear h hB hL hn hp
 go_enter Tryz.func144, Tryz.ntmps144
 go_wp2_with fail
 go_loopw [8] (fun iv w' => ∃ i : Nat, i ≤ n ∧ iv = .int .i64 i ∧ Hid (an p i = false ∧ Below w.heap.size w w')) (fun i _ => n - (intOf i).toNat)
 case atStart => exact ⟨0, by omega, rfl, A0⟩
 case round =>
  clear A0
  obtain ⟨i, hi, rfl, hA⟩ := hrel
  by_cases hin : i < n
  ·have i0 : (0 : Int) ≤ (i : Int) := by omega
   have i1 : (i : Int) < (n : Int) := by omega
   have w9 : IntKind.i64.wrap ((i : Int) + 1) = (i : Int) + 1 := IntWalk.i64_in _ (by have := HN.out; omega)
   obtain ⟨sb, so, e1, e2⟩ := HL.out
   obtain rfl := e1 (by omega)
   have rx := (e2 (by omega)).keep hA.out.2
   have x0 := rx.c0 i hin
   have x1 := rx.c1 i hin
   have x2 := rx.c2 i hin
   have x3 := rx.c3 i hin
   have x4 := rx.c4 i hin
   have x5 := rx.c5 i hin
   have C1 := Hn (C.out wr hA.out.2 (f i))
   have hpi := HP.out i
   rw [hpi] at C1
   clear rx e1 e2 hpi
   generalize f i = fi at *
   obtain ⟨⟨qk, qi⟩, a⟩ := fi
   simp only at x0 x1 x2 x3 x4 x5 C1
   cases hpe : p i with
   | true =>
    rw [hpe] at C1
    have AN := Hn (an_true hin hpe)
    go_wp2_with (go_at_call 112; refine C1.out.mono ?_; rintro e w1 ⟨rfl, hb⟩; have B1 := Hn (bl_trans hA.out.2 hb); clear hb)
    refine bodyPost_ret (v := .int .i64 (i : Int)) (by simp [results, Tryz.results144, go_sem]) rfl ⟨(i : Int), rfl, by rw [AN.out]; exact decide_eq_true i0, B1.out⟩
   | false =>
    rw [hpe] at C1
    have AN : Hid (an p (i + 1) = false) := Hn (by simp [an, hA.out.1, hpe])
    go_wp2_with (go_at_call 112; refine C1.out.mono ?_; rintro e w1 ⟨rfl, hb⟩; have B1 := Hn (bl_trans hA.out.2 hb); clear hb)
    go_roundw
    case rel => exact ⟨i + 1, by omega, by go_num, Hn ⟨AN.out, B1.out⟩⟩
    case measure => simp [intOf]; omega
  ·obtain rfl : i = n := by omega
   have lq : ¬ (i : Int) < (i : Int) := by omega
   go_wp2_with fail
   refine bodyPost_ret (v := .int .i64 (-1)) (by simp [results, Tryz.results144, go_sem]) rfl ⟨-1, rfl, by rw [hA.out.1]; rfl, hA.out.2⟩
theorem contains_any {base : Nat} {w : World} {s m Kg : Nat} {v : Value} {vs : List Value} {Q : List (List Tm)} (h : Sy base w s m Kg v vs Q) (B : Nat) (hB : w.cell? ⟨B, 0, none⟩ = some (.pointer (some ⟨s, 0, none⟩))) (P : Option Addr) (n c : Nat) (f : Nat → Trm) (hn : n ≤ 4398046510976) (hL : Lt w P n f) :
  Calls Tryz.prog 111 #[.slice P n c, .func (.func 112) #[] #[.pointer (some ⟨B, 0, none⟩)]] w fun e w' => e = .returned (.bool (an (fun k => !hs m Kg (f k).q) n)) ∧ Below w.heap.size w w' := by
 have C := Hn (index_any h B hB P n c f hn hL)
 clear h hB hn hL
 generalize an (fun k => !hs m Kg (f k).q) n = R at *
 go_enter Tryz.func111, Tryz.ntmps111
 go_wp2_with (go_at_call 144; refine C.out.mono ?_; rintro e w1 ⟨r, rfl, hr, hb⟩; have HR := Hn hr; have B1 := Hn hb; clear hr hb)
 refine bodyPost_ret (v := .bool (decide (0 ≤ r))) (by simp [results, Tryz.results111, go_sem]) rfl ⟨by rw [HR.out], B1.out⟩
theorem names_any {base : Nat} {w : World} {s m Kg : Nat} {v : Value} {vs : List Value} {Q : List (List Tm)} (h : Sy base w s m Kg v vs Q) (P : Option Addr) (n c : Nat) (f : Nat → Trm) (hn : n ≤ 4398046510976) (hL : Lt w P n f) :
  Calls Tryz.prog 63 #[.pointer (some ⟨s, 0, none⟩), .slice P n c] w fun e w' => e = .returned (.bool (nm m Kg n f)) ∧ Below w.heap.size w w' := by
 have HA := Hn (bl_alloc w (.cells #[.pointer (some ⟨s, 0, none⟩)] 23))
 have C := Hn (contains_any (h.keep HA.out) w.heap.size (by go_simp) P n c f hn (hL.keep HA.out))
 have e : nm m Kg n f = !an (fun k => !hs m Kg (f k).q) n := rfl
 rw [e]
 clear h hn hL e
 generalize an (fun k => !hs m Kg (f k).q) n = R at *
 go_enter Tryz.func63, Tryz.ntmps63
 go_wp2_with (go_at_call 111; refine C.out.mono ?_; rintro e w1 ⟨rfl, hb⟩; have B1 := Hn (bl_trans HA.out hb); clear hb)
 refine bodyPost_ret (v := .bool (!R)) (by simp [results, Tryz.results63, go_sem]) rfl ⟨rfl, B1.out⟩
theorem setCell_id {w : World} {b o : Nat} {v : Value} (h : w.cell? ⟨b, o, none⟩ = some v) : w.setCell ⟨b, o, none⟩ v = w := by
 rw [Go.Sort.setCell_eq]
 refine Go.Sort.mapBlock_id w b _ (fun c e fr hh => ?_)
 have h2 : c[o]? = some v := by
  have := h
  simp [World.cell?, hh] at this
  exact this
 apply Array.ext_getElem?
 intro i
 rw [Array.getElem?_setIfInBounds]
 by_cases hi : o = i
 ·subst hi
  rw [if_pos rfl, h2]
  have := (Array.getElem?_eq_some_iff.1 h2).1
  simp [this]
 ·rw [if_neg hi]
theorem set2_id {w : World} {b : Nat} {x y : Value} (h0 : w.cell? ⟨b, 0, none⟩ = some x) (h1 : w.cell? ⟨b, 1, none⟩ = some y) : w.setCells b 0 [x, y] = w := by
 simp only [World.setCells]
 rw [setCell_id h0, setCell_id h1]
theorem set2_of {w x : World} {b : Nat} {u y : Value} (e : w = x) (h0 : x.cell? ⟨b, 0, none⟩ = some u) (h1 : x.cell? ⟨b, 1, none⟩ = some y) : w.setCells b 0 [u, y] = x := by rw [e]; exact set2_id h0 h1
theorem i2_w : (Tryz.prog.info? 79).map (·.size) = some 2 := by kernel_rfl
theorem one2 (a b : Int) : ([.int .i64 a, .int .i64 b] : List Value).toArray.all (·.oneCell') = true := by simp [Value.oneCell']
theorem there2 {w : World} {b : Nat} {x y : Value} (h0 : w.cell? ⟨b, 0, none⟩ = some x) (h1 : w.cell? ⟨b, 1, none⟩ = some y) (f0 : w.frozen? ⟨b, 0, none⟩ = false) (f1 : w.frozen? ⟨b, 1, none⟩ = false) : w.there b 0 2 := fun j hj => by
 have : j = 0 ∨ j = 1 := by omega
 rcases this with rfl | rfl
 ·exact ⟨by rw [h0]; rfl, f0⟩
 ·exact ⟨by rw [h1]; rfl, f1⟩
theorem there2_of {w x : World} {b : Nat} {u y : Value} (e : w = x) (h0 : x.cell? ⟨b, 0, none⟩ = some u) (h1 : x.cell? ⟨b, 1, none⟩ = some y) (f0 : x.frozen? ⟨b, 0, none⟩ = false) (f1 : x.frozen? ⟨b, 1, none⟩ = false) : w.there b 0 2 := by rw [e]; exact there2 h0 h1 f0 f1
def pCmj0 : String := "circuit.go:56"
def gt4o_0 : Oper := oO 19 (Op.load 79 (Operand.tmp 2)) 79 pCmj0 #[]
def gt4o_1 : Oper := oO 20 (Op.load 79 (Operand.tmp 3)) 79 pCmj0 #[{ on := 3, ground := Ground.gcOnly Departure.lateStores }]
def gt4o_2 : Oper := oO 21 (Op.load 79 (Operand.tmp 4)) 79 pCmj0 #[{ on := 4, ground := Ground.gcOnly Departure.lateStores }]
def gt4o_3 : Oper := oN (Op.store 79 (Operand.tmp 2) (Operand.tmp 19)) pCmj0 #[DD 0, PH 0, { on := 1, ground := Ground.textOnly Departure.lateStores }, { on := 2, ground := Ground.textOnly Departure.lateStores }]
def gt4o_4 : Oper := oN (Op.store 79 (Operand.tmp 3) (Operand.tmp 20)) pCmj0 #[DD 1, CH 3, PH 0, PH 1, { on := 2, ground := Ground.textOnly Departure.lateStores }, PH 3]
def gt4o_5 : Oper := oN (Op.store 79 (Operand.tmp 4) (Operand.tmp 21)) pCmj0 #[DD 2, CH 4, PH 0, PH 1, PH 2, PH 3, PH 4]
def gt4o_6 : Oper := oO 5 (Op.assign (Operand.const (Value.int IntKind.i64 201))) 45 pCmj0 #[CH 5, PH 0, PH 1, PH 2, PH 3, PH 4, PH 5]
def gt4o : Array Oper := #[gt4o_0, gt4o_1, gt4o_2, gt4o_3, gt4o_4, gt4o_5, gt4o_6]
theorem gt4 (Q : Exit → Act → World → Prop) (T0 T1 T2 : Nat) (p0 q0 p1 q1 p2 q2 : Int) (u0 u1 u5 u6 u7 u8 u9 aa ab ad ae af ag ah ai aj ak al am ao ap aq au av aw ax ay az aA aB aC aD aE aF aG aH : Value) (W : World)
  (c00 : W.cell? ⟨T0, 0, none⟩ = some (.int .i64 p0)) (c01 : W.cell? ⟨T0, 1, none⟩ = some (.int .i64 q0)) (f00 : W.frozen? ⟨T0, 0, none⟩ = false) (f01 : W.frozen? ⟨T0, 1, none⟩ = false) (c10 : W.cell? ⟨T1, 0, none⟩ = some (.int .i64 p1)) (c11 : W.cell? ⟨T1, 1, none⟩ = some (.int .i64 q1)) (f10 : W.frozen? ⟨T1, 0, none⟩ = false) (f11 : W.frozen? ⟨T1, 1, none⟩ = false) (c20 : W.cell? ⟨T2, 0, none⟩ = some (.int .i64 p2)) (c21 : W.cell? ⟨T2, 1, none⟩ = some (.int .i64 q2)) (f20 : W.frozen? ⟨T2, 0, none⟩ = false) (f21 : W.frozen? ⟨T2, 1, none⟩ = false)
  (HQ : Hid (∀ (wz : World), wz = W.drew → Q .normal ⟨#[u0, u1, .pointer (some ⟨T0, 0, none⟩), .pointer (some ⟨T1, 0, none⟩), .pointer (some ⟨T2, 0, none⟩), .int .i64 201, u6, u7, u8, u9, aa, ab, ad, ae, af, ag, ah, ai, aj, .agg #[.int .i64 p0, .int .i64 q0], .agg #[.int .i64 p1, .int .i64 q1], .agg #[.int .i64 p2, .int .i64 q2], ao, ap, aq, au, av, aw, ax, ay, az, aA, aB, aC, aD, aE, aF, aG, aH], []⟩ wz)) : (Code.region 4 gt4o true).wp Tryz.prog Q ⟨#[u0, u1, .pointer (some ⟨T0, 0, none⟩), .pointer (some ⟨T1, 0, none⟩), .pointer (some ⟨T2, 0, none⟩), u5, u6, u7, u8, u9, aa, ab, ad, ae, af, ag, ah, ai, aj, ak, al, am, ao, ap, aq, au, av, aw, ax, ay, az, aA, aB, aC, aD, aE, aF, aG, aH], []⟩ W := by
 unfold gt4o
 refine wp_region_noPanic ?_
 refine wp_region_held_drew (S := fun x => x = W.drew) (by kernel_rfl) (rfl) (fun hH0 => ?_)
 refine tj 0 gt4o_0 (.agg #[.int .i64 p0, .int .i64 q0]) hH0 (fun w0 hSw => ?_) ?_
 ·(unfold gt4o_0 oO; have hS : w0 = W.drew := hSw; subst hS; have a0 : W.drew.cell? ⟨T0, 0, none⟩ = some (.int .i64 p0) := c00; have a1 : W.drew.cell? ⟨T0, 1, none⟩ = some (.int .i64 q0) := c01; clear hSw; go_simp)
 simp only [gt4o_0, oO, Act.put, sA, sB, sC]
 refine tj 1 gt4o_1 (.agg #[.int .i64 p1, .int .i64 q1]) hH0 (fun w0 hSw => ?_) ?_
 ·(unfold gt4o_1 oO; have hS : w0 = W.drew := hSw; subst hS; have a0 : W.drew.cell? ⟨T1, 0, none⟩ = some (.int .i64 p1) := c10; have a1 : W.drew.cell? ⟨T1, 1, none⟩ = some (.int .i64 q1) := c11; clear hSw; go_simp)
 simp only [gt4o_1, oO, Act.put, sA, sB, sC]
 refine tj 2 gt4o_2 (.agg #[.int .i64 p2, .int .i64 q2]) hH0 (fun w0 hSw => ?_) ?_
 ·(unfold gt4o_2 oO; have hS : w0 = W.drew := hSw; subst hS; have a0 : W.drew.cell? ⟨T2, 0, none⟩ = some (.int .i64 p2) := c20; have a1 : W.drew.cell? ⟨T2, 1, none⟩ = some (.int .i64 q2) := c21; clear hSw; go_simp)
 simp only [gt4o_2, oO, Act.put, sA, sB, sC]
 refine ar [3] ?_
 refine ac gt4o_3 (fun K hK => ?_) AllReadyH.nil
 unfold gt4o_3 oN
 have HH := Hn hH0
 clear hH0
 refine wp_storeE 79 _ _ rfl T0 0 ([.int .i64 p0, .int .i64 q0]) (by rfl) (by rfl) (there2_of HH.out c00 c01 f00 f01) i2_w (one2 _ _) rfl (fun wn1 hw => ?_)
 have SN := Hn (set2_of HH.out c00 c01)
 rw [← hw] at SN
 clear HH hw
 refine hK.out _ _ SN.out (fun hH1 => ?_)
 clear hK K SN
 refine ar [4] ?_
 refine ac gt4o_4 (fun K hK => ?_) AllReadyH.nil
 unfold gt4o_4 oN
 have HH := Hn hH1
 clear hH1
 refine wp_storeE 79 _ _ rfl T1 0 ([.int .i64 p1, .int .i64 q1]) (by rfl) (by rfl) (there2_of HH.out c10 c11 f10 f11) i2_w (one2 _ _) rfl (fun wn2 hw => ?_)
 have SN := Hn (set2_of HH.out c10 c11)
 rw [← hw] at SN
 clear HH hw
 refine hK.out _ _ SN.out (fun hH2 => ?_)
 clear hK K SN
 refine ar [5] ?_
 refine ac gt4o_5 (fun K hK => ?_) AllReadyH.nil
 unfold gt4o_5 oN
 have HH := Hn hH2
 clear hH2
 refine wp_storeE 79 _ _ rfl T2 0 ([.int .i64 p2, .int .i64 q2]) (by rfl) (by rfl) (there2_of HH.out c20 c21 f20 f21) i2_w (one2 _ _) rfl (fun wn3 hw => ?_)
 have SN := Hn (set2_of HH.out c20 c21)
 rw [← hw] at SN
 clear HH hw
 refine hK.out _ _ SN.out (fun hH3 => ?_)
 clear hK K SN
 refine tj 6 gt4o_6 (.int .i64 201) hH3 (fun w0 hSw => ?_) ?_
 ·(unfold gt4o_6 oO; clear hSw; go_simp)
 simp only [gt4o_6, oO, Act.put, sA, sB, sC]
 have HH := Hn hH3
 have FQ := Hn (HQ.out _ HH.out)
 refine wpAnyH_done (by kernel_rfl) ?_ _
 refine NoPanic.normal ?_
 exact FQ.out
theorem own_keepS {w w' : World} {base' sz s : Nat} {e : TypeId} {u : Value} {n : Nat} {xs : List Value} {arr : Array Value} (ho : w.ownsRow base' e sz u n xs) (hs : w.heap[s]? = some (.cells arr 27 (0, 0))) (hne : e ≠ 27) (hg : w.grownBy w' (some s)) : w'.ownsRow base' e sz u n xs := ⟨ho.1, by
 rcases ho.2 with h0 | ⟨g, c, cur, h1, h2, h3, h4⟩
 ·exact .inl h0
 ·refine .inr ⟨g, c, cur, h1, h2, (hg.block g (Array.getElem?_eq_some_iff.1 h3).1 (fun e' => ?_)).trans h3, h4⟩
  have e' := Option.some.inj e'
  subst e'
  rw [hs] at h3
  simp only [Option.some.injEq, Obj.cells.injEq] at h3
  exact hne h3.2.1.symm⟩
theorem gb_cell (w : World) (s j : Nat) (u : Value) : w.grownBy (w.setCell ⟨s, j, none⟩ u) (some s) := ⟨rfl, rfl, rfl, by simp [World.setCell], fun i _ hi => heap_setCell_other w ⟨s, j, none⟩ i u (fun e => hi (by rw [e]))⟩
theorem Sy.gate {base : Nat} {w : World} {s m Kg : Nat} {v : Value} {vs : List Value} {Q : List (List Tm)} (h : Sy base w s m Kg v vs Q) : Sy base (w.setCell ⟨s, 1, none⟩ (.int .i64 ((Kg : Int) + 1))) s m (Kg + 1) v vs Q := by
 have hg := gb_cell w s 1 (.int .i64 ((Kg : Int) + 1))
 refine ⟨?_, own_keepS h.row h.h (by decide) hg, fun i X hX => by obtain ⟨u, h1, h2⟩ := h.ls i X hX; exact ⟨u, h1, own_keepS h2 h.h (by decide) hg⟩, h.bs, h.sm⟩
 have := heap_setCell_same w s 1 _ 27 (.int .i64 ((Kg : Int) + 1)) h.h
 rw [this]
 rfl
def tup (a b c d e f : Int) (r : Int) : Value := .tuple #[.agg #[.int .i64 a, .int .i64 b], .agg #[.int .i64 c, .int .i64 d], .agg #[.int .i64 e, .int .i64 f], .int .i64 r]
theorem Gate_full {base : Nat} {w : World} {s m Kg : Nat} {v : Value} {vs : List Value} {Q : List (List Tm)} (h : Sy base w s m Kg v vs Q) (hK : 1024 ≤ Kg) : Calls Tryz.prog 23 #[.pointer (some ⟨s, 0, none⟩)] w fun e w' => e = .returned (tup 0 0 0 0 0 0 201) ∧ Below w.heap.size w w' := by
 have BA := bl_alloc3 w (.cells #[.int .i64 0, .int .i64 0] 79) (.cells #[.int .i64 0, .int .i64 0] 79) (.cells #[.int .i64 0, .int .i64 0] 79)
 have C := Hn (none_any (h.keep BA))
 have c1 := cell_keep h.c1 BA
 have l0 : (1024 : Int) ≤ (Kg : Int) := by omega
 have c00 : (((w.alloc (.cells #[.int .i64 0, .int .i64 0] 79)).alloc (.cells #[.int .i64 0, .int .i64 0] 79)).alloc (.cells #[.int .i64 0, .int .i64 0] 79)).cell? ⟨w.heap.size, 0, none⟩ = some (.int .i64 0) := by go_simp
 have f00 : (((w.alloc (.cells #[.int .i64 0, .int .i64 0] 79)).alloc (.cells #[.int .i64 0, .int .i64 0] 79)).alloc (.cells #[.int .i64 0, .int .i64 0] 79)).frozen? ⟨w.heap.size, 0, none⟩ = false := by go_simp
 have c01 : (((w.alloc (.cells #[.int .i64 0, .int .i64 0] 79)).alloc (.cells #[.int .i64 0, .int .i64 0] 79)).alloc (.cells #[.int .i64 0, .int .i64 0] 79)).cell? ⟨w.heap.size, 1, none⟩ = some (.int .i64 0) := by go_simp
 have f01 : (((w.alloc (.cells #[.int .i64 0, .int .i64 0] 79)).alloc (.cells #[.int .i64 0, .int .i64 0] 79)).alloc (.cells #[.int .i64 0, .int .i64 0] 79)).frozen? ⟨w.heap.size, 1, none⟩ = false := by go_simp
 have c10 : (((w.alloc (.cells #[.int .i64 0, .int .i64 0] 79)).alloc (.cells #[.int .i64 0, .int .i64 0] 79)).alloc (.cells #[.int .i64 0, .int .i64 0] 79)).cell? ⟨w.heap.size + 1, 0, none⟩ = some (.int .i64 0) := by go_simp
 have f10 : (((w.alloc (.cells #[.int .i64 0, .int .i64 0] 79)).alloc (.cells #[.int .i64 0, .int .i64 0] 79)).alloc (.cells #[.int .i64 0, .int .i64 0] 79)).frozen? ⟨w.heap.size + 1, 0, none⟩ = false := by go_simp
 have c11 : (((w.alloc (.cells #[.int .i64 0, .int .i64 0] 79)).alloc (.cells #[.int .i64 0, .int .i64 0] 79)).alloc (.cells #[.int .i64 0, .int .i64 0] 79)).cell? ⟨w.heap.size + 1, 1, none⟩ = some (.int .i64 0) := by go_simp
 have f11 : (((w.alloc (.cells #[.int .i64 0, .int .i64 0] 79)).alloc (.cells #[.int .i64 0, .int .i64 0] 79)).alloc (.cells #[.int .i64 0, .int .i64 0] 79)).frozen? ⟨w.heap.size + 1, 1, none⟩ = false := by go_simp
 have c20 : (((w.alloc (.cells #[.int .i64 0, .int .i64 0] 79)).alloc (.cells #[.int .i64 0, .int .i64 0] 79)).alloc (.cells #[.int .i64 0, .int .i64 0] 79)).cell? ⟨w.heap.size + 1 + 1, 0, none⟩ = some (.int .i64 0) := by go_simp
 have f20 : (((w.alloc (.cells #[.int .i64 0, .int .i64 0] 79)).alloc (.cells #[.int .i64 0, .int .i64 0] 79)).alloc (.cells #[.int .i64 0, .int .i64 0] 79)).frozen? ⟨w.heap.size + 1 + 1, 0, none⟩ = false := by go_simp
 have c21 : (((w.alloc (.cells #[.int .i64 0, .int .i64 0] 79)).alloc (.cells #[.int .i64 0, .int .i64 0] 79)).alloc (.cells #[.int .i64 0, .int .i64 0] 79)).cell? ⟨w.heap.size + 1 + 1, 1, none⟩ = some (.int .i64 0) := by go_simp
 have f21 : (((w.alloc (.cells #[.int .i64 0, .int .i64 0] 79)).alloc (.cells #[.int .i64 0, .int .i64 0] 79)).alloc (.cells #[.int .i64 0, .int .i64 0] 79)).frozen? ⟨w.heap.size + 1 + 1, 1, none⟩ = false := by go_simp
 have HB := Hn BA
 clear h hK BA
 go_enter Tryz.func23, Tryz.ntmps23
 go_upto_region 4 with (go_at_call 44; refine C.out.mono ?_; rintro e w1 ⟨rfl, rfl⟩)
 generalize (((w.alloc (.cells #[.int .i64 0, .int .i64 0] 79)).alloc (.cells #[.int .i64 0, .int .i64 0] 79)).alloc (.cells #[.int .i64 0, .int .i64 0] 79)) = w1 at *
 refine gt4 _ w.heap.size (w.heap.size + 1) (w.heap.size + 1 + 1) 0 0 0 0 0 0 _ _ _ _ _ _ _ _ _ _ _ _ _ _ _ _ _ _ _ _ _ _ _ _ _ _ _ _ _ _ _ _ _ _ _ _ w1 c00 c01 f00 f01 c10 c11 f10 f11 c20 c21 f20 f21 (Hn ?_)
 intro wz hz
 have d00 : wz.cell? ⟨w.heap.size, 0, none⟩ = some (.int .i64 0) := by rw [hz]; exact c00
 have d01 : wz.cell? ⟨w.heap.size, 1, none⟩ = some (.int .i64 0) := by rw [hz]; exact c01
 have d10 : wz.cell? ⟨w.heap.size + 1, 0, none⟩ = some (.int .i64 0) := by rw [hz]; exact c10
 have d11 : wz.cell? ⟨w.heap.size + 1, 1, none⟩ = some (.int .i64 0) := by rw [hz]; exact c11
 have d20 : wz.cell? ⟨w.heap.size + 1 + 1, 0, none⟩ = some (.int .i64 0) := by rw [hz]; exact c20
 have d21 : wz.cell? ⟨w.heap.size + 1 + 1, 1, none⟩ = some (.int .i64 0) := by rw [hz]; exact c21
 have HZ : Hid (Below w.heap.size w wz) := Hn (by rw [hz]; exact bl_trans HB.out (bl_drew _))
 clear hz c00 c01 f00 f01 c10 c11 f10 f11 c20 c21 f20 f21 C c1
 go_wp2_with fail
 refine bodyPost_ret (v := tup 0 0 0 0 0 0 201) (by simp [results, Tryz.results23, go_sem, d00, d01, d10, d11, d20, d21, tup]) rfl ⟨rfl, HZ.out⟩
end Ci
end Go.Proofs.YtghcfcglakbkeaaGreatDoor
