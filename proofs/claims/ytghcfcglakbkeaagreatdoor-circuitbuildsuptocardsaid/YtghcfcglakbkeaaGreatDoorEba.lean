import Derived.Test.YtghcfcglakbkeaaGreatDoorCsk
namespace Go.Proofs.YtghcfcglakbkeaaGreatDoor
set_option maxRecDepth 100000
set_option maxHeartbeats 16000000
open Go.RowKit
set_option linter.unusedVariables false
set_option linter.unusedSimpArgs false
open Cm (Wr Tm co bf Ls lf ins Eqm)
namespace Ci
def Ns (v : Value) (x : World) : Prop := v = .pointer none ∨ ∃ b, v = .pointer (some ⟨b, 0, none⟩) ∧ x.heap[b]? = some (.cells #[.int .i64 0, .int .i64 0, .slice none 0 0, .bool false] 27 (0, 0))
theorem Ns.keep {v : Value} {x y : World} (h : Ns v x) (hb : Below x.heap.size x y) : Ns v y := by
 rcases h with h | ⟨b, h1, h2⟩
 ·exact .inl h
 ·exact .inr ⟨b, h1, (hb.block b (Array.getElem?_eq_some_iff.1 h2).1).trans h2⟩
theorem ns_none {v : Value} {x : World} (h : Ns v x) : Calls Tryz.prog 44 #[v] x fun e w' => e = .returned (.bool true) ∧ w' = x := by
 rcases h with rfl | ⟨b, rfl, h2⟩
 ·go_enter Tryz.func44, Tryz.ntmps44
  go_wp2_with fail
  exact bodyPost_ret (v := .bool true) (by simp [results, Tryz.results44, go_sem]) rfl ⟨rfl, rfl⟩
 ·have c3 := cell_of_row x b 3 _ _ (0, 0) h2
  clear h2
  go_enter Tryz.func44, Tryz.ntmps44
  go_wp2_with fail
  exact bodyPost_ret (v := .bool true) (by simp [results, Tryz.results44, go_sem]) rfl ⟨rfl, rfl⟩
def pEba0 : String := "circuit.go:54"
def pEba1 : String := "circuit.go:66"
def gt2no_0 : Oper := oO 10 (Op.load 79 (Operand.tmp 2)) 79 pEba0 #[]
def gt2no_1 : Oper := oO 11 (Op.load 79 (Operand.tmp 3)) 79 pEba0 #[{ on := 3, ground := Ground.gcOnly Departure.lateStores }]
def gt2no_2 : Oper := oO 12 (Op.load 79 (Operand.tmp 4)) 79 pEba0 #[{ on := 4, ground := Ground.gcOnly Departure.lateStores }]
def gt2no_3 : Oper := oN (Op.store 79 (Operand.tmp 2) (Operand.tmp 10)) pEba0 #[DD 0, PH 0, { on := 1, ground := Ground.textOnly Departure.lateStores }, { on := 2, ground := Ground.textOnly Departure.lateStores }]
def gt2no_4 : Oper := oN (Op.store 79 (Operand.tmp 3) (Operand.tmp 11)) pEba0 #[DD 1, CH 3, PH 0, PH 1, { on := 2, ground := Ground.textOnly Departure.lateStores }, PH 3]
def gt2no_5 : Oper := oN (Op.store 79 (Operand.tmp 4) (Operand.tmp 12)) pEba0 #[DD 2, CH 4, PH 0, PH 1, PH 2, PH 3, PH 4]
def gt2no_6 : Oper := oO 5 (Op.assign (Operand.const (Value.int IntKind.i64 1))) 45 pEba0 #[CH 5, PH 0, PH 1, PH 2, PH 3, PH 4, PH 5]
def gt2no : Array Oper := #[gt2no_0, gt2no_1, gt2no_2, gt2no_3, gt2no_4, gt2no_5, gt2no_6]
theorem gt2n (Q : Exit → Act → World → Prop) (T0 T1 T2 : Nat) (p0 q0 p1 q1 p2 q2 : Int) (u0 u1 u5 u6 u7 u8 u9 aa ab ad ae af ag ah ai aj ak al am an ao ap aq au av aw ax ay az aA aB aC aD aE aF aG : Value) (W : World)
  (c00 : W.cell? ⟨T0, 0, none⟩ = some (.int .i64 p0)) (c01 : W.cell? ⟨T0, 1, none⟩ = some (.int .i64 q0)) (f00 : W.frozen? ⟨T0, 0, none⟩ = false) (f01 : W.frozen? ⟨T0, 1, none⟩ = false) (c10 : W.cell? ⟨T1, 0, none⟩ = some (.int .i64 p1)) (c11 : W.cell? ⟨T1, 1, none⟩ = some (.int .i64 q1)) (f10 : W.frozen? ⟨T1, 0, none⟩ = false) (f11 : W.frozen? ⟨T1, 1, none⟩ = false) (c20 : W.cell? ⟨T2, 0, none⟩ = some (.int .i64 p2)) (c21 : W.cell? ⟨T2, 1, none⟩ = some (.int .i64 q2)) (f20 : W.frozen? ⟨T2, 0, none⟩ = false) (f21 : W.frozen? ⟨T2, 1, none⟩ = false)
  (HQ : Hid (∀ (wz : World), wz = W.drew → Q .normal ⟨#[u0, u1, .pointer (some ⟨T0, 0, none⟩), .pointer (some ⟨T1, 0, none⟩), .pointer (some ⟨T2, 0, none⟩), .int .i64 1, u6, u7, u8, u9, .agg #[.int .i64 p0, .int .i64 q0], .agg #[.int .i64 p1, .int .i64 q1], .agg #[.int .i64 p2, .int .i64 q2], ae, af, ag, ah, ai, aj, ak, al, am, an, ao, ap, aq, au, av, aw, ax, ay, az, aA, aB, aC, aD, aE, aF, aG], []⟩ wz)) : (Code.region 2 gt2no true).wp Tryz.prog Q ⟨#[u0, u1, .pointer (some ⟨T0, 0, none⟩), .pointer (some ⟨T1, 0, none⟩), .pointer (some ⟨T2, 0, none⟩), u5, u6, u7, u8, u9, aa, ab, ad, ae, af, ag, ah, ai, aj, ak, al, am, an, ao, ap, aq, au, av, aw, ax, ay, az, aA, aB, aC, aD, aE, aF, aG], []⟩ W := by
 unfold gt2no
 refine wp_region_noPanic ?_
 refine wp_region_held_drew (S := fun x => x = W.drew) (by kernel_rfl) (rfl) (fun hH0 => ?_)
 refine tj 0 gt2no_0 (.agg #[.int .i64 p0, .int .i64 q0]) hH0 (fun w0 hSw => ?_) ?_
 ·(unfold gt2no_0 oO; have hS : w0 = W.drew := hSw; subst hS; have a0 : W.drew.cell? ⟨T0, 0, none⟩ = some (.int .i64 p0) := c00; have a1 : W.drew.cell? ⟨T0, 1, none⟩ = some (.int .i64 q0) := c01; clear hSw; go_simp)
 simp only [gt2no_0, oO, Act.put, sA, sB, sC]
 refine tj 1 gt2no_1 (.agg #[.int .i64 p1, .int .i64 q1]) hH0 (fun w0 hSw => ?_) ?_
 ·(unfold gt2no_1 oO; have hS : w0 = W.drew := hSw; subst hS; have a0 : W.drew.cell? ⟨T1, 0, none⟩ = some (.int .i64 p1) := c10; have a1 : W.drew.cell? ⟨T1, 1, none⟩ = some (.int .i64 q1) := c11; clear hSw; go_simp)
 simp only [gt2no_1, oO, Act.put, sA, sB, sC]
 refine tj 2 gt2no_2 (.agg #[.int .i64 p2, .int .i64 q2]) hH0 (fun w0 hSw => ?_) ?_
 ·(unfold gt2no_2 oO; have hS : w0 = W.drew := hSw; subst hS; have a0 : W.drew.cell? ⟨T2, 0, none⟩ = some (.int .i64 p2) := c20; have a1 : W.drew.cell? ⟨T2, 1, none⟩ = some (.int .i64 q2) := c21; clear hSw; go_simp)
 simp only [gt2no_2, oO, Act.put, sA, sB, sC]
 refine ar [3] ?_
 refine ac gt2no_3 (fun K hK => ?_) AllReadyH.nil
 unfold gt2no_3 oN
 have HH := Hn hH0
 clear hH0
 refine wp_storeE 79 _ _ rfl T0 0 ([.int .i64 p0, .int .i64 q0]) (by rfl) (by rfl) (there2_of HH.out c00 c01 f00 f01) i2_w (one2 _ _) rfl (fun wn1 hw => ?_)
 have SN := Hn (set2_of HH.out c00 c01)
 rw [← hw] at SN
 clear HH hw
 refine hK.out _ _ SN.out (fun hH1 => ?_)
 clear hK K SN
 refine ar [4] ?_
 refine ac gt2no_4 (fun K hK => ?_) AllReadyH.nil
 unfold gt2no_4 oN
 have HH := Hn hH1
 clear hH1
 refine wp_storeE 79 _ _ rfl T1 0 ([.int .i64 p1, .int .i64 q1]) (by rfl) (by rfl) (there2_of HH.out c10 c11 f10 f11) i2_w (one2 _ _) rfl (fun wn2 hw => ?_)
 have SN := Hn (set2_of HH.out c10 c11)
 rw [← hw] at SN
 clear HH hw
 refine hK.out _ _ SN.out (fun hH2 => ?_)
 clear hK K SN
 refine ar [5] ?_
 refine ac gt2no_5 (fun K hK => ?_) AllReadyH.nil
 unfold gt2no_5 oN
 have HH := Hn hH2
 clear hH2
 refine wp_storeE 79 _ _ rfl T2 0 ([.int .i64 p2, .int .i64 q2]) (by rfl) (by rfl) (there2_of HH.out c20 c21 f20 f21) i2_w (one2 _ _) rfl (fun wn3 hw => ?_)
 have SN := Hn (set2_of HH.out c20 c21)
 rw [← hw] at SN
 clear HH hw
 refine hK.out _ _ SN.out (fun hH3 => ?_)
 clear hK K SN
 refine tj 6 gt2no_6 (.int .i64 1) hH3 (fun w0 hSw => ?_) ?_
 ·(unfold gt2no_6 oO; clear hSw; go_simp)
 simp only [gt2no_6, oO, Act.put, sA, sB, sC]
 have HH := Hn hH3
 have FQ := Hn (HQ.out _ HH.out)
 refine wpAnyH_done (by kernel_rfl) ?_ _
 refine NoPanic.normal ?_
 exact FQ.out
def mu2no_0 : Oper := oO 13 (Op.load 79 (Operand.tmp 6)) 79 pEba1 #[]
def mu2no_1 : Oper := oO 14 (Op.load 79 (Operand.tmp 7)) 79 pEba1 #[{ on := 3, ground := Ground.gcOnly Departure.lateStores }]
def mu2no_2 : Oper := oO 15 (Op.load 79 (Operand.tmp 8)) 79 pEba1 #[{ on := 4, ground := Ground.gcOnly Departure.lateStores }]
def mu2no_3 : Oper := oN (Op.store 79 (Operand.tmp 6) (Operand.tmp 13)) pEba1 #[DD 0, PH 0, { on := 1, ground := Ground.textOnly Departure.lateStores }, { on := 2, ground := Ground.textOnly Departure.lateStores }]
def mu2no_4 : Oper := oN (Op.store 79 (Operand.tmp 7) (Operand.tmp 14)) pEba1 #[DD 1, CH 3, PH 0, PH 1, { on := 2, ground := Ground.textOnly Departure.lateStores }, PH 3]
def mu2no_5 : Oper := oN (Op.store 79 (Operand.tmp 8) (Operand.tmp 15)) pEba1 #[DD 2, CH 4, PH 0, PH 1, PH 2, PH 3, PH 4]
def mu2no_6 : Oper := oO 9 (Op.assign (Operand.const (Value.int IntKind.i64 1))) 45 pEba1 #[CH 5, PH 0, PH 1, PH 2, PH 3, PH 4, PH 5]
def mu2no : Array Oper := #[mu2no_0, mu2no_1, mu2no_2, mu2no_3, mu2no_4, mu2no_5, mu2no_6]
theorem mu2n (Q : Exit → Act → World → Prop) (T0 T1 T2 : Nat) (p0 q0 p1 q1 p2 q2 : Int) (u0 u1 u2 u3 u4 u5 u9 aa ab ad ae af ag ah ai aj ak al am an ao ap aq au av aw ax ay az aA aB aC aD aE aF aG aH aI aJ aK aL aM aN aO aP aQ aR aS aT aU aV aW aX aY aZ a2 a3 a4 a5 a6 a7 a8 a9 ba bb bc bd be bg bh bi bj bk bl : Value) (W : World)
  (c00 : W.cell? ⟨T0, 0, none⟩ = some (.int .i64 p0)) (c01 : W.cell? ⟨T0, 1, none⟩ = some (.int .i64 q0)) (f00 : W.frozen? ⟨T0, 0, none⟩ = false) (f01 : W.frozen? ⟨T0, 1, none⟩ = false) (c10 : W.cell? ⟨T1, 0, none⟩ = some (.int .i64 p1)) (c11 : W.cell? ⟨T1, 1, none⟩ = some (.int .i64 q1)) (f10 : W.frozen? ⟨T1, 0, none⟩ = false) (f11 : W.frozen? ⟨T1, 1, none⟩ = false) (c20 : W.cell? ⟨T2, 0, none⟩ = some (.int .i64 p2)) (c21 : W.cell? ⟨T2, 1, none⟩ = some (.int .i64 q2)) (f20 : W.frozen? ⟨T2, 0, none⟩ = false) (f21 : W.frozen? ⟨T2, 1, none⟩ = false)
  (HQ : Hid (∀ (wz : World), wz = W.drew → Q .normal ⟨#[u0, u1, u2, u3, u4, u5, .pointer (some ⟨T0, 0, none⟩), .pointer (some ⟨T1, 0, none⟩), .pointer (some ⟨T2, 0, none⟩), .int .i64 1, aa, ab, ad, .agg #[.int .i64 p0, .int .i64 q0], .agg #[.int .i64 p1, .int .i64 q1], .agg #[.int .i64 p2, .int .i64 q2], ah, ai, aj, ak, al, am, an, ao, ap, aq, au, av, aw, ax, ay, az, aA, aB, aC, aD, aE, aF, aG, aH, aI, aJ, aK, aL, aM, aN, aO, aP, aQ, aR, aS, aT, aU, aV, aW, aX, aY, aZ, a2, a3, a4, a5, a6, a7, a8, a9, ba, bb, bc, bd, be, bg, bh, bi, bj, bk, bl], []⟩ wz)) : (Code.region 2 mu2no true).wp Tryz.prog Q ⟨#[u0, u1, u2, u3, u4, u5, .pointer (some ⟨T0, 0, none⟩), .pointer (some ⟨T1, 0, none⟩), .pointer (some ⟨T2, 0, none⟩), u9, aa, ab, ad, ae, af, ag, ah, ai, aj, ak, al, am, an, ao, ap, aq, au, av, aw, ax, ay, az, aA, aB, aC, aD, aE, aF, aG, aH, aI, aJ, aK, aL, aM, aN, aO, aP, aQ, aR, aS, aT, aU, aV, aW, aX, aY, aZ, a2, a3, a4, a5, a6, a7, a8, a9, ba, bb, bc, bd, be, bg, bh, bi, bj, bk, bl], []⟩ W := by
 unfold mu2no
 refine wp_region_noPanic ?_
 refine wp_region_held_drew (S := fun x => x = W.drew) (by kernel_rfl) (rfl) (fun hH0 => ?_)
 refine tj 0 mu2no_0 (.agg #[.int .i64 p0, .int .i64 q0]) hH0 (fun w0 hSw => ?_) ?_
 ·(unfold mu2no_0 oO; have hS : w0 = W.drew := hSw; subst hS; have a0 : W.drew.cell? ⟨T0, 0, none⟩ = some (.int .i64 p0) := c00; have a1 : W.drew.cell? ⟨T0, 1, none⟩ = some (.int .i64 q0) := c01; clear hSw; go_simp)
 simp only [mu2no_0, oO, Act.put, sA, sB, sC]
 refine tj 1 mu2no_1 (.agg #[.int .i64 p1, .int .i64 q1]) hH0 (fun w0 hSw => ?_) ?_
 ·(unfold mu2no_1 oO; have hS : w0 = W.drew := hSw; subst hS; have a0 : W.drew.cell? ⟨T1, 0, none⟩ = some (.int .i64 p1) := c10; have a1 : W.drew.cell? ⟨T1, 1, none⟩ = some (.int .i64 q1) := c11; clear hSw; go_simp)
 simp only [mu2no_1, oO, Act.put, sA, sB, sC]
 refine tj 2 mu2no_2 (.agg #[.int .i64 p2, .int .i64 q2]) hH0 (fun w0 hSw => ?_) ?_
 ·(unfold mu2no_2 oO; have hS : w0 = W.drew := hSw; subst hS; have a0 : W.drew.cell? ⟨T2, 0, none⟩ = some (.int .i64 p2) := c20; have a1 : W.drew.cell? ⟨T2, 1, none⟩ = some (.int .i64 q2) := c21; clear hSw; go_simp)
 simp only [mu2no_2, oO, Act.put, sA, sB, sC]
 refine ar [3] ?_
 refine ac mu2no_3 (fun K hK => ?_) AllReadyH.nil
 unfold mu2no_3 oN
 have HH := Hn hH0
 clear hH0
 refine wp_storeE 79 _ _ rfl T0 0 ([.int .i64 p0, .int .i64 q0]) (by rfl) (by rfl) (there2_of HH.out c00 c01 f00 f01) i2_w (one2 _ _) rfl (fun wn1 hw => ?_)
 have SN := Hn (set2_of HH.out c00 c01)
 rw [← hw] at SN
 clear HH hw
 refine hK.out _ _ SN.out (fun hH1 => ?_)
 clear hK K SN
 refine ar [4] ?_
 refine ac mu2no_4 (fun K hK => ?_) AllReadyH.nil
 unfold mu2no_4 oN
 have HH := Hn hH1
 clear hH1
 refine wp_storeE 79 _ _ rfl T1 0 ([.int .i64 p1, .int .i64 q1]) (by rfl) (by rfl) (there2_of HH.out c10 c11 f10 f11) i2_w (one2 _ _) rfl (fun wn2 hw => ?_)
 have SN := Hn (set2_of HH.out c10 c11)
 rw [← hw] at SN
 clear HH hw
 refine hK.out _ _ SN.out (fun hH2 => ?_)
 clear hK K SN
 refine ar [5] ?_
 refine ac mu2no_5 (fun K hK => ?_) AllReadyH.nil
 unfold mu2no_5 oN
 have HH := Hn hH2
 clear hH2
 refine wp_storeE 79 _ _ rfl T2 0 ([.int .i64 p2, .int .i64 q2]) (by rfl) (by rfl) (there2_of HH.out c20 c21 f20 f21) i2_w (one2 _ _) rfl (fun wn3 hw => ?_)
 have SN := Hn (set2_of HH.out c20 c21)
 rw [← hw] at SN
 clear HH hw
 refine hK.out _ _ SN.out (fun hH3 => ?_)
 clear hK K SN
 refine tj 6 mu2no_6 (.int .i64 1) hH3 (fun w0 hSw => ?_) ?_
 ·(unfold mu2no_6 oO; clear hSw; go_simp)
 simp only [mu2no_6, oO, Act.put, sA, sB, sC]
 have HH := Hn hH3
 have FQ := Hn (HQ.out _ HH.out)
 refine wpAnyH_done (by kernel_rfl) ?_ _
 refine NoPanic.normal ?_
 exact FQ.out
theorem ns_Gate {v : Value} {x : World} (h : Ns v x) : Calls Tryz.prog 23 #[v] x fun e w' => e = .returned (tup 0 0 0 0 0 0 1) ∧ Below x.heap.size x w' := by
 have BA := bl_alloc3 x (.cells #[.int .i64 0, .int .i64 0] 79) (.cells #[.int .i64 0, .int .i64 0] 79) (.cells #[.int .i64 0, .int .i64 0] 79)
 have C := Hn (ns_none (h.keep BA))
 have c00 : (((x.alloc (.cells #[.int .i64 0, .int .i64 0] 79)).alloc (.cells #[.int .i64 0, .int .i64 0] 79)).alloc (.cells #[.int .i64 0, .int .i64 0] 79)).cell? ⟨x.heap.size, 0, none⟩ = some (.int .i64 0) := by go_simp
 have f00 : (((x.alloc (.cells #[.int .i64 0, .int .i64 0] 79)).alloc (.cells #[.int .i64 0, .int .i64 0] 79)).alloc (.cells #[.int .i64 0, .int .i64 0] 79)).frozen? ⟨x.heap.size, 0, none⟩ = false := by go_simp
 have c01 : (((x.alloc (.cells #[.int .i64 0, .int .i64 0] 79)).alloc (.cells #[.int .i64 0, .int .i64 0] 79)).alloc (.cells #[.int .i64 0, .int .i64 0] 79)).cell? ⟨x.heap.size, 1, none⟩ = some (.int .i64 0) := by go_simp
 have f01 : (((x.alloc (.cells #[.int .i64 0, .int .i64 0] 79)).alloc (.cells #[.int .i64 0, .int .i64 0] 79)).alloc (.cells #[.int .i64 0, .int .i64 0] 79)).frozen? ⟨x.heap.size, 1, none⟩ = false := by go_simp
 have c10 : (((x.alloc (.cells #[.int .i64 0, .int .i64 0] 79)).alloc (.cells #[.int .i64 0, .int .i64 0] 79)).alloc (.cells #[.int .i64 0, .int .i64 0] 79)).cell? ⟨x.heap.size + 1, 0, none⟩ = some (.int .i64 0) := by go_simp
 have f10 : (((x.alloc (.cells #[.int .i64 0, .int .i64 0] 79)).alloc (.cells #[.int .i64 0, .int .i64 0] 79)).alloc (.cells #[.int .i64 0, .int .i64 0] 79)).frozen? ⟨x.heap.size + 1, 0, none⟩ = false := by go_simp
 have c11 : (((x.alloc (.cells #[.int .i64 0, .int .i64 0] 79)).alloc (.cells #[.int .i64 0, .int .i64 0] 79)).alloc (.cells #[.int .i64 0, .int .i64 0] 79)).cell? ⟨x.heap.size + 1, 1, none⟩ = some (.int .i64 0) := by go_simp
 have f11 : (((x.alloc (.cells #[.int .i64 0, .int .i64 0] 79)).alloc (.cells #[.int .i64 0, .int .i64 0] 79)).alloc (.cells #[.int .i64 0, .int .i64 0] 79)).frozen? ⟨x.heap.size + 1, 1, none⟩ = false := by go_simp
 have c20 : (((x.alloc (.cells #[.int .i64 0, .int .i64 0] 79)).alloc (.cells #[.int .i64 0, .int .i64 0] 79)).alloc (.cells #[.int .i64 0, .int .i64 0] 79)).cell? ⟨x.heap.size + 1 + 1, 0, none⟩ = some (.int .i64 0) := by go_simp
 have f20 : (((x.alloc (.cells #[.int .i64 0, .int .i64 0] 79)).alloc (.cells #[.int .i64 0, .int .i64 0] 79)).alloc (.cells #[.int .i64 0, .int .i64 0] 79)).frozen? ⟨x.heap.size + 1 + 1, 0, none⟩ = false := by go_simp
 have c21 : (((x.alloc (.cells #[.int .i64 0, .int .i64 0] 79)).alloc (.cells #[.int .i64 0, .int .i64 0] 79)).alloc (.cells #[.int .i64 0, .int .i64 0] 79)).cell? ⟨x.heap.size + 1 + 1, 1, none⟩ = some (.int .i64 0) := by go_simp
 have f21 : (((x.alloc (.cells #[.int .i64 0, .int .i64 0] 79)).alloc (.cells #[.int .i64 0, .int .i64 0] 79)).alloc (.cells #[.int .i64 0, .int .i64 0] 79)).frozen? ⟨x.heap.size + 1 + 1, 1, none⟩ = false := by go_simp
 have HB := Hn BA
 clear h BA
 go_enter Tryz.func23, Tryz.ntmps23
 go_upto_region 2 with (go_at_call 44; refine C.out.mono ?_; rintro e w1 ⟨rfl, rfl⟩)
 generalize (((x.alloc (.cells #[.int .i64 0, .int .i64 0] 79)).alloc (.cells #[.int .i64 0, .int .i64 0] 79)).alloc (.cells #[.int .i64 0, .int .i64 0] 79)) = w1 at *
 refine gt2n _ x.heap.size (x.heap.size + 1) (x.heap.size + 1 + 1) 0 0 0 0 0 0 _ _ _ _ _ _ _ _ _ _ _ _ _ _ _ _ _ _ _ _ _ _ _ _ _ _ _ _ _ _ _ _ _ _ _ _ w1 c00 c01 f00 f01 c10 c11 f10 f11 c20 c21 f20 f21 (Hn ?_)
 intro wz hz
 have d00 : wz.cell? ⟨x.heap.size, 0, none⟩ = some (.int .i64 0) := by rw [hz]; exact c00
 have d01 : wz.cell? ⟨x.heap.size, 1, none⟩ = some (.int .i64 0) := by rw [hz]; exact c01
 have d10 : wz.cell? ⟨x.heap.size + 1, 0, none⟩ = some (.int .i64 0) := by rw [hz]; exact c10
 have d11 : wz.cell? ⟨x.heap.size + 1, 1, none⟩ = some (.int .i64 0) := by rw [hz]; exact c11
 have d20 : wz.cell? ⟨x.heap.size + 1 + 1, 0, none⟩ = some (.int .i64 0) := by rw [hz]; exact c20
 have d21 : wz.cell? ⟨x.heap.size + 1 + 1, 1, none⟩ = some (.int .i64 0) := by rw [hz]; exact c21
 have HZ : Hid (Below x.heap.size x wz) := Hn (by rw [hz]; exact bl_trans HB.out (bl_drew _))
 clear hz c00 c01 f00 f01 c10 c11 f10 f11 c20 c21 f20 f21 C
 go_wp2_with fail
 exact bodyPost_ret (v := tup 0 0 0 0 0 0 1) (by simp [results, Tryz.results23, go_sem, d00, d01, d10, d11, d20, d21, tup]) rfl ⟨rfl, HZ.out⟩
theorem ns_Multiply {v : Value} {x : World} (h : Ns v x) : Calls Tryz.prog 24 #[v, .slice none 0 0, .slice none 0 0] x fun e w' => e = .returned (tup 0 0 0 0 0 0 1) ∧ Below x.heap.size x w' := by
 have BA := bl_alloc3 x (.cells #[.int .i64 0, .int .i64 0] 79) (.cells #[.int .i64 0, .int .i64 0] 79) (.cells #[.int .i64 0, .int .i64 0] 79)
 have C := Hn (ns_none (h.keep BA))
 have c00 : (((x.alloc (.cells #[.int .i64 0, .int .i64 0] 79)).alloc (.cells #[.int .i64 0, .int .i64 0] 79)).alloc (.cells #[.int .i64 0, .int .i64 0] 79)).cell? ⟨x.heap.size, 0, none⟩ = some (.int .i64 0) := by go_simp
 have f00 : (((x.alloc (.cells #[.int .i64 0, .int .i64 0] 79)).alloc (.cells #[.int .i64 0, .int .i64 0] 79)).alloc (.cells #[.int .i64 0, .int .i64 0] 79)).frozen? ⟨x.heap.size, 0, none⟩ = false := by go_simp
 have c01 : (((x.alloc (.cells #[.int .i64 0, .int .i64 0] 79)).alloc (.cells #[.int .i64 0, .int .i64 0] 79)).alloc (.cells #[.int .i64 0, .int .i64 0] 79)).cell? ⟨x.heap.size, 1, none⟩ = some (.int .i64 0) := by go_simp
 have f01 : (((x.alloc (.cells #[.int .i64 0, .int .i64 0] 79)).alloc (.cells #[.int .i64 0, .int .i64 0] 79)).alloc (.cells #[.int .i64 0, .int .i64 0] 79)).frozen? ⟨x.heap.size, 1, none⟩ = false := by go_simp
 have c10 : (((x.alloc (.cells #[.int .i64 0, .int .i64 0] 79)).alloc (.cells #[.int .i64 0, .int .i64 0] 79)).alloc (.cells #[.int .i64 0, .int .i64 0] 79)).cell? ⟨x.heap.size + 1, 0, none⟩ = some (.int .i64 0) := by go_simp
 have f10 : (((x.alloc (.cells #[.int .i64 0, .int .i64 0] 79)).alloc (.cells #[.int .i64 0, .int .i64 0] 79)).alloc (.cells #[.int .i64 0, .int .i64 0] 79)).frozen? ⟨x.heap.size + 1, 0, none⟩ = false := by go_simp
 have c11 : (((x.alloc (.cells #[.int .i64 0, .int .i64 0] 79)).alloc (.cells #[.int .i64 0, .int .i64 0] 79)).alloc (.cells #[.int .i64 0, .int .i64 0] 79)).cell? ⟨x.heap.size + 1, 1, none⟩ = some (.int .i64 0) := by go_simp
 have f11 : (((x.alloc (.cells #[.int .i64 0, .int .i64 0] 79)).alloc (.cells #[.int .i64 0, .int .i64 0] 79)).alloc (.cells #[.int .i64 0, .int .i64 0] 79)).frozen? ⟨x.heap.size + 1, 1, none⟩ = false := by go_simp
 have c20 : (((x.alloc (.cells #[.int .i64 0, .int .i64 0] 79)).alloc (.cells #[.int .i64 0, .int .i64 0] 79)).alloc (.cells #[.int .i64 0, .int .i64 0] 79)).cell? ⟨x.heap.size + 1 + 1, 0, none⟩ = some (.int .i64 0) := by go_simp
 have f20 : (((x.alloc (.cells #[.int .i64 0, .int .i64 0] 79)).alloc (.cells #[.int .i64 0, .int .i64 0] 79)).alloc (.cells #[.int .i64 0, .int .i64 0] 79)).frozen? ⟨x.heap.size + 1 + 1, 0, none⟩ = false := by go_simp
 have c21 : (((x.alloc (.cells #[.int .i64 0, .int .i64 0] 79)).alloc (.cells #[.int .i64 0, .int .i64 0] 79)).alloc (.cells #[.int .i64 0, .int .i64 0] 79)).cell? ⟨x.heap.size + 1 + 1, 1, none⟩ = some (.int .i64 0) := by go_simp
 have f21 : (((x.alloc (.cells #[.int .i64 0, .int .i64 0] 79)).alloc (.cells #[.int .i64 0, .int .i64 0] 79)).alloc (.cells #[.int .i64 0, .int .i64 0] 79)).frozen? ⟨x.heap.size + 1 + 1, 1, none⟩ = false := by go_simp
 have HB := Hn BA
 clear h BA
 go_enter Tryz.func24, Tryz.ntmps24
 go_upto_region 2 with (go_at_call 44; refine C.out.mono ?_; rintro e w1 ⟨rfl, rfl⟩)
 generalize (((x.alloc (.cells #[.int .i64 0, .int .i64 0] 79)).alloc (.cells #[.int .i64 0, .int .i64 0] 79)).alloc (.cells #[.int .i64 0, .int .i64 0] 79)) = w1 at *
 refine mu2n _ x.heap.size (x.heap.size + 1) (x.heap.size + 1 + 1) 0 0 0 0 0 0 _ _ _ _ _ _ _ _ _ _ _ _ _ _ _ _ _ _ _ _ _ _ _ _ _ _ _ _ _ _ _ _ _ _ _ _ _ _ _ _ _ _ _ _ _ _ _ _ _ _ _ _ _ _ _ _ _ _ _ _ _ _ _ _ _ _ _ _ _ _ _ _ _ _ w1 c00 c01 f00 f01 c10 c11 f10 f11 c20 c21 f20 f21 (Hn ?_)
 intro wz hz
 have d00 : wz.cell? ⟨x.heap.size, 0, none⟩ = some (.int .i64 0) := by rw [hz]; exact c00
 have d01 : wz.cell? ⟨x.heap.size, 1, none⟩ = some (.int .i64 0) := by rw [hz]; exact c01
 have d10 : wz.cell? ⟨x.heap.size + 1, 0, none⟩ = some (.int .i64 0) := by rw [hz]; exact c10
 have d11 : wz.cell? ⟨x.heap.size + 1, 1, none⟩ = some (.int .i64 0) := by rw [hz]; exact c11
 have d20 : wz.cell? ⟨x.heap.size + 1 + 1, 0, none⟩ = some (.int .i64 0) := by rw [hz]; exact c20
 have d21 : wz.cell? ⟨x.heap.size + 1 + 1, 1, none⟩ = some (.int .i64 0) := by rw [hz]; exact c21
 have HZ : Hid (Below x.heap.size x wz) := Hn (by rw [hz]; exact bl_trans HB.out (bl_drew _))
 clear hz c00 c01 f00 f01 c10 c11 f10 f11 c20 c21 f20 f21 C
 go_wp2_with fail
 exact bodyPost_ret (v := tup 0 0 0 0 0 0 1) (by simp [results, Tryz.results24, go_sem, d00, d01, d10, d11, d20, d21, tup]) rfl ⟨rfl, HZ.out⟩
theorem ns_Gates {v : Value} {x : World} (h : Ns v x) : Calls Tryz.prog 29 #[v] x fun e w' => e = .returned (.int .i64 0) ∧ w' = x := by
 have C := Hn (ns_none h)
 clear h
 go_enter Tryz.func29, Tryz.ntmps29
 go_wp2_with (go_at_call 44; refine C.out.mono ?_; rintro e w1 ⟨rfl, rfl⟩)
 exact bodyPost_ret (v := .int .i64 0) (by simp [results, Tryz.results29, go_sem]) rfl ⟨rfl, rfl⟩
theorem ns_Values {v : Value} {x : World} (h : Ns v x) : Calls Tryz.prog 30 #[v] x fun e w' => e = .returned (.int .i64 0) ∧ w' = x := by
 have C := Hn (ns_none h)
 clear h
 go_enter Tryz.func30, Tryz.ntmps30
 go_wp2_with (go_at_call 44; refine C.out.mono ?_; rintro e w1 ⟨rfl, rfl⟩)
 exact bodyPost_ret (v := .int .i64 0) (by simp [results, Tryz.results30, go_sem]) rfl ⟨rfl, rfl⟩
theorem ns_Requires {v : Value} {x : World} (h : Ns v x) : Calls Tryz.prog 31 #[v] x fun e w' => e = .returned (.int .i64 0) ∧ w' = x := by
 have C := Hn (ns_none h)
 clear h
 go_enter Tryz.func31, Tryz.ntmps31
 go_wp2_with (go_at_call 44; refine C.out.mono ?_; rintro e w1 ⟨rfl, rfl⟩)
 exact bodyPost_ret (v := .int .i64 0) (by simp [results, Tryz.results31, go_sem]) rfl ⟨rfl, rfl⟩
theorem ns_Require {v : Value} {x : World} (h : Ns v x) : Calls Tryz.prog 27 #[v, .slice none 0 0] x fun e w' => e = .returned (.int .i64 1) ∧ w' = x := by
 have C := Hn (ns_none h)
 clear h
 go_enter Tryz.func27, Tryz.ntmps27
 go_wp2_with (go_at_call 44; refine C.out.mono ?_; rintro e w1 ⟨rfl, rfl⟩)
 exact bodyPost_ret (v := .int .i64 1) (by simp [results, Tryz.results27, go_sem]) rfl ⟨rfl, rfl⟩
theorem ns_Clone {v : Value} {x : World} (h : Ns v x) : Calls Tryz.prog 32 #[v] x fun e w' => e = .returned (.pointer none) ∧ w' = x := by
 have C := Hn (ns_none h)
 clear h
 go_enter Tryz.func32, Tryz.ntmps32
 go_wp2_with (go_at_call 44; refine C.out.mono ?_; rintro e w1 ⟨rfl, rfl⟩)
 exact bodyPost_ret (v := .pointer none) (by simp [results, Tryz.results32, go_sem]) rfl ⟨rfl, rfl⟩
theorem ns_Encode {v : Value} {x : World} (h : Ns v x) : Calls Tryz.prog 33 #[v] x fun e w' => e = .returned (.slice none 0 0) ∧ w' = x := by
 have C := Hn (ns_none h)
 clear h
 go_enter Tryz.func33, Tryz.ntmps33
 go_wp2_with (go_at_call 44; refine C.out.mono ?_; rintro e w1 ⟨rfl, rfl⟩)
 exact bodyPost_ret (v := .slice none 0 0) (by simp [results, Tryz.results33, go_sem]) rfl ⟨rfl, rfl⟩
theorem ns_Requirement {v : Value} {x : World} (h : Ns v x) : Calls Tryz.prog 25 #[v, .int .i64 0] x fun e w' => e = .returned (.tuple #[.slice none 0 0, .int .i64 1]) ∧ w' = x := by
 have C := Hn (ns_Requires h)
 clear h
 go_enter Tryz.func25, Tryz.ntmps25
 go_wp2_with (go_at_call 31; refine C.out.mono ?_; rintro e w1 ⟨rfl, rfl⟩)
 exact bodyPost_ret (v := .tuple #[.slice none 0 0, .int .i64 1]) (by simp [results, Tryz.results25, go_sem]) rfl ⟨rfl, rfl⟩
theorem ns_Holds {v : Value} {x : World} (h : Ns v x) : Calls Tryz.prog 28 #[v, .agg #[.slice none 0 0, .slice none 0 0, .slice none 0 0, .slice none 0 0]] x fun e w' => e = .returned (.int .i64 1) ∧ Below x.heap.size x w' := by
 have BL := bl_alloc x (.cells #[.slice none 0 0, .slice none 0 0, .slice none 0 0, .slice none 0 0] 36)
 have C := Hn (ns_none (h.keep BL))
 have B0 := Hn BL
 clear h BL
 go_enter Tryz.func28, Tryz.ntmps28
 go_wp2_with (go_at_call 44; refine C.out.mono ?_; rintro e w1 ⟨rfl, rfl⟩)
 exact bodyPost_ret (v := .int .i64 1) (by simp [results, Tryz.results28, go_sem]) rfl ⟨rfl, B0.out⟩
theorem ns_Eval {v : Value} {x : World} (h : Ns v x) : Calls Tryz.prog 26 #[v, .agg #[.slice none 0 0, .slice none 0 0, .slice none 0 0, .slice none 0 0], .slice none 0 0] x fun e w' => e = .returned (.tuple #[.agg #[.int .u64 0, .int .u64 0, .int .u64 0, .int .u64 0], .int .i64 1]) ∧ Below x.heap.size x w' := by
 have BL := bl_trans (bl_alloc x (.cells #[.slice none 0 0, .slice none 0 0, .slice none 0 0, .slice none 0 0] 36)) (bl_alloc _ (.cells #[.int .u64 0, .int .u64 0, .int .u64 0, .int .u64 0] 41))
 have C := Hn (ns_none (h.keep BL))
 have B0 := Hn BL
 clear h BL
 go_enter Tryz.func26, Tryz.ntmps26
 go_wp2_with (go_at_call 44; refine C.out.mono ?_; rintro e w1 ⟨rfl, rfl⟩)
 exact bodyPost_ret (v := .tuple #[.agg #[.int .u64 0, .int .u64 0, .int .u64 0, .int .u64 0], .int .i64 1]) (by simp [results, Tryz.results26, go_sem]) rfl ⟨rfl, B0.out⟩
theorem ns_Flatten {v : Value} {x : World} (h : Ns v x) (k : E4) : Calls Tryz.prog 10 #[v, k.v] x fun e w' => e = .returned (.tuple #[.agg #[.slice none 0 0, .slice none 0 0, .slice none 0 0, .slice none 0 0, .int .u64 0, .int .u64 0, .int .u64 0, .int .u64 0], .int .i64 1]) ∧ Below x.heap.size x w' := by
 have BL := bl_trans (bl_alloc x (.cells #[.int .u64 k.x0, .int .u64 k.x1, .int .u64 k.x2, .int .u64 k.x3] 41)) (bl_alloc _ (.cells #[.slice none 0 0, .slice none 0 0, .slice none 0 0, .slice none 0 0, .int .u64 0, .int .u64 0, .int .u64 0, .int .u64 0] 44))
 have C := Hn (ns_none (h.keep BL))
 have B0 := Hn BL
 clear h BL
 go_enter Tryz.func10, Tryz.ntmps10
 go_wp2_with (go_at_call 44; refine C.out.mono ?_; rintro e w1 ⟨rfl, rfl⟩)
 exact bodyPost_ret (v := .tuple #[.agg #[.slice none 0 0, .slice none 0 0, .slice none 0 0, .slice none 0 0, .int .u64 0, .int .u64 0, .int .u64 0, .int .u64 0], .int .i64 1]) (by simp [results, Tryz.results10, go_sem]) rfl ⟨rfl, B0.out⟩
end Ci
end Go.Proofs.YtghcfcglakbkeaaGreatDoor
