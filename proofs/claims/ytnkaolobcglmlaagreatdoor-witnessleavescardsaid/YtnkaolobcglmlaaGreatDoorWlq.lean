import Derived.Test.YtnkaolobcglmlaaGreatDoorTk
import Derived.Test.YtnkaolobcglmlaaGreatDoorWlk0
namespace Go.Proofs.YtnkaolobcglmlaaGreatDoor
open Go.RowKit
set_option linter.unusedVariables false
set_option linter.unusedSimpArgs false
open Cm (Wr Tm co bf Ls lf ins Eqm)
namespace Ci
set_option maxRecDepth 100000
set_option maxHeartbeats 16000000
theorem wcinfo : (Tryz.prog.info? 31).map (·.size) = some 83 := by kernel_rfl
structure Lwx (w : World) (A : Array Value) (t r m mb K : Nat) (Q1 Q2 : List (List Tm)) (x : World) : Prop where
 pd : PD w t r m K K Q1 Q2 x
 hm : x.heap[mb]? = some (.cells A 41 (0, 0))
section
variable {w : World} {A : Array Value} {t r m mb K : Nat} {Q1 Q2 : List (List Tm)} {x y z : World}
theorem Lwx.keep (h : Lwx w A t r m mb K Q1 Q2 x) (hb : Below x.heap.size x y) : Lwx w A t r m mb K Q1 Q2 y := ⟨h.pd.keep hb, (hb.block _ (Array.getElem?_eq_some_iff.1 h.hm).1).trans h.hm⟩
theorem Lwx.two (h : Lwx w A t r m mb K Q1 Q2 x) {K' : Nat} {R1 R2 : List (List Tm)} {x1 x2 : World} (k1 : Ok2 94 67 x y) (b1 : Below y.heap.size y x1) (k2 : Ok2 79 69 x1 x2) (b2 : Below x2.heap.size x2 z) (hp : PD w t r m K' K' R1 R2 x2) : Lwx w A t r m mb K' R1 R2 z :=
 ⟨hp.keep b2, (b2.block _ (Array.getElem?_eq_some_iff.1 (k2 _ _ _ ((b1.block _ (Array.getElem?_eq_some_iff.1 (k1 _ _ _ h.hm (by decide) (by decide))).1).trans (k1 _ _ _ h.hm (by decide) (by decide))) (by decide) (by decide))).1).trans (k2 _ _ _ ((b1.block _ (Array.getElem?_eq_some_iff.1 (k1 _ _ _ h.hm (by decide) (by decide))).1).trans (k1 _ _ _ h.hm (by decide) (by decide))) (by decide) (by decide))⟩
end
theorem lt_nil (w : World) (f : Nat → Trm) : Lt w none 0 f := ⟨0, 0, fun h => absurd h (by omega), fun h => absurd h (by omega)⟩
def wl18o_0 : Oper := { dst := some 72, op := Op.fieldAddr 41 (Operand.tmp 7) 0, type := 0, pos := "law.go:239", after := #[], guard := none }
def wl18o_1 : Oper := { dst := some 73, op := Op.load 32 (Operand.tmp 72), type := 32, pos := "law.go:239", after := #[{ on := 0, ground := Ground.data }], guard := none }
def wl18o_2 : Oper := { dst := some 74, op := Op.call { callee := Callee.value (Operand.func 5), args := #[Operand.tmp 73], argTypes := #[32] }, type := 3, pos := "law.go:239", after := #[{ on := 1, ground := Ground.data }], guard := none }
def wl18o_3 : Oper := { dst := some 75, op := Op.fieldAddr 41 (Operand.tmp 7) 1, type := 0, pos := "law.go:239", after := #[], guard := none }
def wl18o_4 : Oper := { dst := some 76, op := Op.load 33 (Operand.tmp 75), type := 33, pos := "law.go:239", after := #[{ on := 3, ground := Ground.data }], guard := none }
def wl18o_5 : Oper := { dst := some 77, op := Op.call { callee := Callee.value (Operand.func 11), args := #[Operand.tmp 76], argTypes := #[33] }, type := 3, pos := "law.go:239", after := #[{ on := 4, ground := Ground.data }, { on := 2, ground := Ground.chain }], guard := none }
def wl18o_6 : Oper := { dst := some 78, op := Op.binOp BinOp.eql 3 (Operand.tmp 74) (Operand.tmp 77) 3, type := 4, pos := "law.go:239", after := #[{ on := 2, ground := Ground.data }, { on := 5, ground := Ground.data }], guard := none }
def wl18o_7 : Oper := { dst := some 6, op := Op.assign (Operand.tmp 78), type := 4, pos := "law.go:239", after := #[{ on := 6, ground := Ground.data }, { on := 5, ground := Ground.chain }, { on := 0, ground := Ground.phase }, { on := 1, ground := Ground.phase }, { on := 2, ground := Ground.phase }, { on := 3, ground := Ground.phase }, { on := 4, ground := Ground.phase }, { on := 5, ground := Ground.phase }, { on := 6, ground := Ground.phase }], guard := none }
def wl18o : Array Oper := #[wl18o_0, wl18o_1, wl18o_2, wl18o_3, wl18o_4, wl18o_5, wl18o_6, wl18o_7]
set_option maxRecDepth 100000 in
set_option maxHeartbeats 16000000 in
theorem wl18 (Q : Exit → Act → World → Prop) (mb t r : Nat) (L : Int) (u0 u1 u2 u3 u4 u5 u6 u8 u9 u10 u11 u12 u13 u14 u15 u16 u17 u18 u19 u20 u21 u22 u23 u24 u25 u26 u27 u28 u29 u30 u31 u32 u33 u34 u35 u36 u37 u38 u39 u40 u41 u42 u43 u44 u45 u46 u47 u48 u49 u50 u51 u52 u53 u54 u55 u56 u57 u58 u59 u60 u61 u62 u63 u64 u65 u66 u67 u68 u69 u70 u71 u72 u73 u74 u75 u76 u77 u78 : Value) (W : World)
  (z0 : W.cell? ⟨mb, 0, none⟩ = some (.pointer (some ⟨t, 0, none⟩))) (z1 : W.cell? ⟨mb, 1, none⟩ = some (.pointer (some ⟨r, 0, none⟩)))
  (C1 : Hid (∀ y, Below W.heap.size W y → Calls Tryz.prog 5 #[.pointer (some ⟨t, 0, none⟩)] y fun e w' => e = .returned (.int .i64 L) ∧ Below y.heap.size y w'))
  (C2 : Hid (∀ y, Below W.heap.size W y → Calls Tryz.prog 11 #[.pointer (some ⟨r, 0, none⟩)] y fun e w' => e = .returned (.int .i64 L) ∧ Below y.heap.size y w'))
  (HQ : Hid (∀ (wz : World), Below W.heap.size W wz → Q .normal ⟨#[u0, u1, u2, u3, u4, u5, .bool true, .pointer (some ⟨mb, 0, none⟩), u8, u9, u10, u11, u12, u13, u14, u15, u16, u17, u18, u19, u20, u21, u22, u23, u24, u25, u26, u27, u28, u29, u30, u31, u32, u33, u34, u35, u36, u37, u38, u39, u40, u41, u42, u43, u44, u45, u46, u47, u48, u49, u50, u51, u52, u53, u54, u55, u56, u57, u58, u59, u60, u61, u62, u63, u64, u65, u66, u67, u68, u69, u70, u71, .pointer (some ⟨mb, 0, none⟩), .pointer (some ⟨t, 0, none⟩), .int .i64 L, .pointer (some ⟨mb, 1, none⟩), .pointer (some ⟨r, 0, none⟩), .int .i64 L, .bool true], []⟩ wz)) : (Code.region 18 wl18o true).wp Tryz.prog Q ⟨#[u0, u1, u2, u3, u4, u5, u6, .pointer (some ⟨mb, 0, none⟩), u8, u9, u10, u11, u12, u13, u14, u15, u16, u17, u18, u19, u20, u21, u22, u23, u24, u25, u26, u27, u28, u29, u30, u31, u32, u33, u34, u35, u36, u37, u38, u39, u40, u41, u42, u43, u44, u45, u46, u47, u48, u49, u50, u51, u52, u53, u54, u55, u56, u57, u58, u59, u60, u61, u62, u63, u64, u65, u66, u67, u68, u69, u70, u71, u72, u73, u74, u75, u76, u77, u78], []⟩ W := by
 unfold wl18o
 refine wp_region_noPanic ?_
 refine wp_region_held_drew (S := fun x => Below W.heap.size W x) (by kernel_rfl) (bl_drew W) (fun hH0 => ?_)
 refine tk 0 wl18o_0 (.pointer (some ⟨mb, 0, none⟩)) rfl (by kernel_rfl) hH0 rfl (fun w0 hSw => ?_) ?_
 ·(unfold wl18o_0; clear hSw; go_simp)
 simp only [wl18o_0, Act.put, sA, sB, sC]
 refine tk 3 wl18o_3 (.pointer (some ⟨mb, 1, none⟩)) rfl (by kernel_rfl) hH0 rfl (fun w0 hSw => ?_) ?_
 ·(unfold wl18o_3; clear hSw; go_simp)
 simp only [wl18o_3, Act.put, sA, sB, sC]
 refine tk 1 wl18o_1 (.pointer (some ⟨t, 0, none⟩)) rfl (by kernel_rfl) hH0 rfl (fun w0 hSw => ?_) ?_
 ·(unfold wl18o_1; have hS : Below W.heap.size W w0 := hSw; have a0 := cell_keep z0 hS; clear hS hSw; go_simp)
 simp only [wl18o_1, Act.put, sA, sB, sC]
 refine tk 4 wl18o_4 (.pointer (some ⟨r, 0, none⟩)) rfl (by kernel_rfl) hH0 rfl (fun w0 hSw => ?_) ?_
 ·(unfold wl18o_4; have hS : Below W.heap.size W w0 := hSw; have a0 := cell_keep z1 hS; clear hS hSw; go_simp)
 simp only [wl18o_4, Act.put, sA, sB, sC]
 refine wpAnyH_ready (rs := [2]) (by kernel_rfl) (by simp) ?_
 refine AllReadyH.cons (o := wl18o_2) rfl (fun K hK => ?_) AllReadyH.nil
 unfold wl18o_2
 have HH := hidden hH0
 clear hH0
 go_simp
 refine (C1.out _ HH.out).mono ?_
 rintro e wn1 ⟨rfl, hb⟩
 have SN := hidden (bl_trans HH.out hb)
 clear HH hb
 go_wp2_with fail
 refine hK.out _ _ SN.out (fun hH1 => ?_)
 clear hK K SN
 refine wpAnyH_ready (rs := [5]) (by kernel_rfl) (by simp) ?_
 refine AllReadyH.cons (o := wl18o_5) rfl (fun K hK => ?_) AllReadyH.nil
 unfold wl18o_5
 have HH := hidden hH1
 clear hH1
 go_simp
 refine (C2.out _ HH.out).mono ?_
 rintro e wn2 ⟨rfl, hb⟩
 have SN := hidden (bl_trans HH.out hb)
 clear HH hb
 go_wp2_with fail
 refine hK.out _ _ SN.out (fun hH2 => ?_)
 clear hK K SN
 refine tk 6 wl18o_6 (.bool true) rfl (by kernel_rfl) hH2 rfl (fun w0 hSw => ?_) ?_
 ·(unfold wl18o_6; clear hSw; go_simp)
 simp only [wl18o_6, Act.put, sA, sB, sC]
 refine tk 7 wl18o_7 (.bool true) rfl (by kernel_rfl) hH2 rfl (fun w0 hSw => ?_) ?_
 ·(unfold wl18o_7; clear hSw; go_simp)
 simp only [wl18o_7, Act.put, sA, sB, sC]
 have HH := hidden hH2
 have FQ := hidden (HQ.out _ HH.out)
 refine wpAnyH_done (by kernel_rfl) ?_ _
 refine NoPanic.normal ?_
 exact FQ.out
theorem leaves_any (cl : List Value) (hl : cl.length = 83) (w : World) (hT : Tb w) {Pv Pf Po : Option Addr} {nv cv nf cf no co : Nat} {V F : Nat → E4} {D : Nat → Int} {A B : Nat → Prl} (hc : Wc w cl.toArray Pv Pf Po nv cv nf cf no co V F D A B) (g q : Int) (g0 : -9223372036854775808 ≤ g) (g1 : g ≤ 9223372036854775807) (q0 : -9223372036854775808 ≤ q) (q1 : q ≤ 9223372036854775807) :
  Calls Tryz.prog 3 #[.agg cl.toArray, .int .i64 g, .int .i64 q] w fun e w' => e = .returned (.bool true) ∧ Below w.heap.size w w' := by
 have B0 := hidden (bl_alloc w (.cells cl.toArray 31))
 have RG := hidden (show (w.alloc (.cells cl.toArray 31)).rangeAt w.heap.size 0 cl from fun j v hv => by rw [Nat.zero_add, cell_of_row _ w.heap.size j cl.toArray 31 (0, 0) (heap_alloc_new w _)]; simpa using hv)
 have CB := hidden (wbuild_any cl.toArray (w.alloc (.cells cl.toArray 31)) (hT.keep B0.out) (hc.keep B0.out))
 have UT : Hid (Tryz.prog.underlying 31 = _) := hidden Tryz.underlying31
 have IT : Hid ((Tryz.prog.info? 31).map (·.size) = some cl.length) := hidden (by rw [hl]; exact wcinfo)
 have HT := hidden (hT.keep B0.out)
 have AG := hidden (fun y => At_any 600 g y (by omega) (by omega) g0 g1)
 have AQ := hidden (fun y => At_any 40 q y (by omega) (by omega) q0 q1)
 clear hl hT hc g0 g1 q0 q1
 go_enter Tryz.func3, Tryz.ntmps3
 go_upto_region 1 with fail
 go_upto_region 2 with (first | (refine wpList_load_mid rfl 31 _ rfl w.heap.size 0 (by rfl) cl _ RG.out UT.out rfl IT.out ?_) | (go_at_call 4; refine CB.out.mono ?_; rintro e w2 ⟨t, r, m, K, Q1, Q2, n, p, c, rfl, hp, hq, hl, hk⟩; have P2 := hidden hp; have HQ := hidden (And.intro hq (And.intro hl hk)); clear hp hq hl hk CB RG UT IT; simp only [arM]))
 obtain ⟨A2, hA2⟩ : ∃ A2 : Array Value, #[.pointer (some ⟨t, 0, none⟩), .pointer (some ⟨r, 0, none⟩), .slice (p 0) (n 0) (c 0), .slice (p 1) (n 1) (c 1), .slice (p 2) (n 2) (c 2), .slice (p 3) (n 3) (c 3), .slice (p 4) (n 4) (c 4), .slice (p 5) (n 5) (c 5), .slice (p 6) (n 6) (c 6), .slice (p 7) (n 7) (c 7)] = A2 := ⟨_, rfl⟩
 have L3 : Hid (Lwx (w.alloc (.cells cl.toArray 31)) A2 t r m w2.heap.size K Q1 Q2 (w2.alloc (.cells #[.pointer (some ⟨t, 0, none⟩), .pointer (some ⟨r, 0, none⟩), .slice (p 0) (n 0) (c 0), .slice (p 1) (n 1) (c 1), .slice (p 2) (n 2) (c 2), .slice (p 3) (n 3) (c 3), .slice (p 4) (n 4) (c 4), .slice (p 5) (n 5) (c 5), .slice (p 6) (n 6) (c 6), .slice (p 7) (n 7) (c 7)] 41)) ∧ A2[0]? = some (.pointer (some ⟨t, 0, none⟩)) ∧ A2[1]? = some (.pointer (some ⟨r, 0, none⟩))) := hidden (by rw [← hA2]; exact ⟨⟨P2.out.keep (bl_alloc w2 _), heap_alloc_new w2 _⟩, rfl, rfl⟩)
 generalize w2.alloc (.cells #[.pointer (some ⟨t, 0, none⟩), .pointer (some ⟨r, 0, none⟩), .slice (p 0) (n 0) (c 0), .slice (p 1) (n 1) (c 1), .slice (p 2) (n 2) (c 2), .slice (p 3) (n 3) (c 3), .slice (p 4) (n 4) (c 4), .slice (p 5) (n 5) (c 5), .slice (p 6) (n 6) (c 6), .slice (p 7) (n 7) (c 7)] 41) = w3 at *
 generalize w2.heap.size = mb at *
 have AA := hidden L3.out.2
 replace L3 := hidden L3.out.1
 clear hA2 P2
 have LN := hidden (fun y => Leaves_nil y)
 go_upto_region 4 with (go_at_call 5; refine (LN.out _).mono ?_; rintro e w4 ⟨rfl, hb⟩; have L4 := hidden (L3.out.keep hb); clear hb LN)
 clear L3
 have J0 : Hid (∃ K Q1 Q2, Lwx (w.alloc (.cells cl.toArray 31)) A2 t r m mb K Q1 Q2 w4 ∧ Q2.length = Q1.length ∧ Q1.length ≤ 20 ∧ K ≤ 4 + 0) := hidden ⟨K, Q1, Q2, L4.out, HQ.out.1, HQ.out.2.1, HQ.out.2.2⟩
 clear L4 HQ
 obtain ⟨w1, hw1⟩ : ∃ w1, (w.alloc (.cells cl.toArray 31)) = w1 := ⟨_, rfl⟩
 rw [hw1] at J0 HT B0
 clear hw1
 go_upto_region 5 with fail
 go_loopw [9] (fun iv w' => ∃ i : Nat, i ≤ 600 ∧ iv = .int .i64 (i : Int) ∧ Hid (∃ K Q1 Q2, Lwx w1 A2 t r m mb K Q1 Q2 w' ∧ Q2.length = Q1.length ∧ Q1.length ≤ 20 ∧ K ≤ 4 + i)) (fun i _ => 600 - (intOf i).toNat)
 case atStart => exact ⟨0, by omega, rfl, J0⟩
 case round =>
  clear J0
  obtain ⟨i, hi, rfl, hR⟩ := hrel
  obtain ⟨K, Q1, Q2, hB, hq, hl, hk⟩ := hR.out
  have LR := hidden hB
  have HQ := hidden (And.intro hq (And.intro hl hk))
  clear hR hB hq hl hk
  have A1 := hidden (AG.out wr)
  go_upto_if 35 with (go_at_call 6; refine A1.out.mono ?_; rintro e wx ⟨r0, rfl, hr0, hwx⟩; have R0 := hidden hr0; rw [hwx]; clear hwx wx hr0 A1)
  by_cases hir : i < r0
  ·have i1 : (i : Int) < (r0 : Int) := by omega
   have w9 : IntKind.i64.wrap ((i : Int) + 1) = (i : Int) + 1 := IntWalk.i64_in _ (by omega)
   have z0 := (cell_of_row wr mb 0 _ 41 (0, 0) LR.out.hm).trans AA.out.1
   have z1 := (cell_of_row wr mb 1 _ 41 (0, 0) LR.out.hm).trans AA.out.2
   have CG := LR.out.pd.pGate
   rw [if_pos (by have := HQ.out.2.2; have := R0.out; omega)] at CG
   unfold tup at CG
   replace CG := hidden CG
   go_upto_region 8 with (go_at_call 7; refine CG.out.mono ?_; rintro e w5 ⟨rfl, hp, ho⟩; have P5 := hidden hp; have O5 := hidden ho; clear hp ho CG)
   have B6 := hidden (bl_trans (bl_trans (bl_alloc w5 (.cells #[.int .i64 2, .int .i64 (K : Int)] 47)) (bl_alloc _ (.cells #[.int .i64 3, .int .i64 (K : Int)] 47))) (bl_alloc _ (.cells #[.int .i64 4, .int .i64 (K : Int)] 47)))
   generalize (((w5.alloc (.cells #[.int .i64 2, .int .i64 (K : Int)] 47)).alloc (.cells #[.int .i64 3, .int .i64 (K : Int)] 47)).alloc (.cells #[.int .i64 4, .int .i64 (K : Int)] 47)) = w6 at *
   replace z0 := cell_of_row w5 mb 0 _ 41 (0, 0) (O5.out _ _ _ LR.out.hm (by decide) (by decide)) |>.trans AA.out.1
   replace z1 := cell_of_row w5 mb 1 _ 41 (0, 0) (O5.out _ _ _ LR.out.hm (by decide) (by decide)) |>.trans AA.out.2
   replace z0 := cell_keep z0 B6.out
   replace z1 := cell_keep z1 B6.out
   have CG := (P5.out.keep B6.out).dGate
   rw [if_pos (by have := HQ.out.2.2; have := R0.out; omega)] at CG
   unfold tup at CG
   replace CG := hidden CG
   go_upto_region 9 with (go_at_call 8; refine CG.out.mono ?_; rintro e w7 ⟨rfl, hp, ho⟩; have P7 := hidden hp; have O7 := hidden ho; clear hp ho CG)
   have B8 := hidden (bl_trans (bl_trans (bl_alloc w7 (.cells #[.int .i64 2, .int .i64 (K : Int)] 51)) (bl_alloc _ (.cells #[.int .i64 3, .int .i64 (K : Int)] 51))) (bl_alloc _ (.cells #[.int .i64 4, .int .i64 (K : Int)] 51)))
   generalize (((w7.alloc (.cells #[.int .i64 2, .int .i64 (K : Int)] 51)).alloc (.cells #[.int .i64 3, .int .i64 (K : Int)] 51)).alloc (.cells #[.int .i64 4, .int .i64 (K : Int)] 51)) = w8 at *
   have NK : Hid (nx K = K + 1) := hidden (by unfold nx; rw [if_pos (by have := HQ.out.2.2; have := R0.out; omega)])
   have PN : Hid (∃ K Q1 Q2, Lwx w1 A2 t r m mb K Q1 Q2 w8 ∧ Q2.length = Q1.length ∧ Q1.length ≤ 20 ∧ K ≤ 4 + (i + 1)) := hidden ⟨K + 1, Q1, Q2, LR.out.two O5.out B6.out O7.out B8.out (by have h := P7.out; rw [NK.out] at h; exact h), HQ.out.1, HQ.out.2.1, by have := HQ.out.2.2; omega⟩
   clear LR HQ P5 O5 B6 P7 O7 B8 z0 z1 NK
   go_wp2_with fail
   go_roundw
   case rel => exact ⟨i + 1, by have := R0.out; omega, by go_num, PN⟩
   case measure => have := R0.out; simp [intOf]; omega
  ·have i1 : ¬ (i : Int) < (r0 : Int) := by omega
   have J1 : Hid (∃ K Q1 Q2, Lwx w1 A2 t r m mb K Q1 Q2 wr ∧ Q2.length = Q1.length ∧ Q1.length ≤ 20 + 0 ∧ K ≤ 1000) := hidden ⟨K, Q1, Q2, LR.out, HQ.out.1, HQ.out.2.1, by have := HQ.out.2.2; omega⟩
   clear LR HQ R0 AG hi
   go_upto_region 12 with fail
   generalize wr = wo at *
   go_loopw [18] (fun iv w' => ∃ i : Nat, i ≤ 40 ∧ iv = .int .i64 (i : Int) ∧ Hid (∃ K Q1 Q2, Lwx w1 A2 t r m mb K Q1 Q2 w' ∧ Q2.length = Q1.length ∧ Q1.length ≤ 20 + i ∧ K ≤ 1000)) (fun i _ => 40 - (intOf i).toNat)
   case atStart => exact ⟨0, by omega, rfl, J1⟩
   case round =>
    clear J1
    obtain ⟨j, hj, rfl, hR⟩ := hrel
    obtain ⟨K, Q1, Q2, hB, hq, hl, hk⟩ := hR.out
    have LR := hidden hB
    have HQ := hidden (And.intro hq (And.intro hl hk))
    clear hR hB hq hl hk
    have A1 := hidden (AQ.out wr)
    go_upto_if 60 with (go_at_call 6; refine A1.out.mono ?_; rintro e wx ⟨r1, rfl, hr1, hwx⟩; have R1 := hidden hr1; rw [hwx]; clear hwx wx hr1 A1)
    have z0 := (cell_of_row wr mb 0 _ 41 (0, 0) LR.out.hm).trans AA.out.1
    have z1 := (cell_of_row wr mb 1 _ 41 (0, 0) LR.out.hm).trans AA.out.2
    by_cases hjr : j < r1
    ·have j1 : (j : Int) < (r1 : Int) := by omega
     have w9 : IntKind.i64.wrap ((j : Int) + 1) = (j : Int) + 1 := IntWalk.i64_in _ (by omega)
     obtain ⟨e1, l1⟩ := rqE_ok (m := m) (K := K) (Q := Q1) (Y := []) (fun y hy => absurd hy (by simp)) (by have := HQ.out.2.1; have := R1.out; omega)
     obtain ⟨e2, l2⟩ := rqE_ok (m := m) (K := K) (Q := Q2) (Y := []) (fun y hy => absurd hy (by simp)) (by have := HQ.out.1; have := HQ.out.2.1; have := R1.out; omega)
     have CQ := LR.out.pd.pRequire HT.out none 0 0 (fun _ => ⟨(0, 0), lst 0⟩) (by omega) (fun k hk => absurd hk (by omega)) (lt_nil _ _)
     rw [show glL 0 (fun _ => (⟨(0, 0), lst 0⟩ : Trm)) = [] from rfl, e1] at CQ
     replace CQ := hidden CQ
     go_upto_region 15 with (go_at_call 9; refine CQ.out.mono ?_; rintro e w5 ⟨rfl, hp, ho⟩; have P5 := hidden hp; have O5 := hidden ho; clear hp ho CQ)
     replace z0 := cell_of_row w5 mb 0 _ 41 (0, 0) (O5.out _ _ _ LR.out.hm (by decide) (by decide)) |>.trans AA.out.1
     replace z1 := cell_of_row w5 mb 1 _ 41 (0, 0) (O5.out _ _ _ LR.out.hm (by decide) (by decide)) |>.trans AA.out.2
     have CD := P5.out.dRequire none 0 [] (by simp) (lt_nil _ _)
     rw [e2] at CD
     have LL := hidden (And.intro l1 l2)
     clear e1 e2 l1 l2
     replace CD := hidden CD
     go_upto_region 16 with (go_at_call 10; refine CD.out.mono ?_; rintro e w7 ⟨rfl, hp, ho⟩; have P7 := hidden hp; have O7 := hidden ho; clear hp ho CD)
     have PN : Hid (∃ K Q1 Q2, Lwx w1 A2 t r m mb K Q1 Q2 w7 ∧ Q2.length = Q1.length ∧ Q1.length ≤ 20 + (j + 1) ∧ K ≤ 1000) := hidden ⟨K, _, _, LR.out.two O5.out (Below.refl _ _) O7.out (Below.refl _ _) P7.out, by rw [LL.out.1, LL.out.2, HQ.out.1], by rw [LL.out.1]; have := HQ.out.2.1; omega, HQ.out.2.2⟩
     clear LR HQ P5 O5 P7 O7 z0 z1 LL
     go_wp2_with fail
     go_roundw
     case rel => exact ⟨j + 1, by have := R1.out; omega, by go_num, PN⟩
     case measure => have := R1.out; simp [intOf]; omega
    ·have j1 : ¬ (j : Int) < (r1 : Int) := by omega
     have C1 : Hid (∀ y, Below wr.heap.size wr y → Calls Tryz.prog 5 #[.pointer (some ⟨t, 0, none⟩)] y fun e w' => e = .returned (.int .i64 ((sz K * (Q1.length + 1) * 12 * 4 ^ rd K : Nat) : Int)) ∧ Below y.heap.size y w') := hidden (fun y hy => by obtain ⟨_, _, _, sy, _⟩ := (LR.out.pd.keep hy).p; exact Leaves_any sy (by have := HQ.out.2.1; omega) (by have := HQ.out.2.2; omega))
     have C2 : Hid (∀ y, Below wr.heap.size wr y → Calls Tryz.prog 11 #[.pointer (some ⟨r, 0, none⟩)] y fun e w' => e = .returned (.int .i64 ((sz K * (Q1.length + 1) * 12 * 4 ^ rd K : Nat) : Int)) ∧ Below y.heap.size y w') := hidden (fun y hy => by obtain ⟨_, _, _, dy, _⟩ := (LR.out.pd.keep hy).d; rw [← HQ.out.1]; exact (dLeaves_any dy (by have := HQ.out.2.2; omega) (by have := HQ.out.1; have := HQ.out.2.1; omega)).mono fun e w' ⟨he, hw⟩ => ⟨he, by rw [hw]; exact Below.refl _ _⟩)
     have BZ := hidden LR.out.pd.bl
     clear LR HQ AQ
     generalize ((sz K * (Q1.length + 1) * 12 * 4 ^ rd K : Nat) : Int) = LV at *
     go_upto_region 18 with fail
     refine wl18 _ mb t r LV _ _ _ _ _ _ _ _ _ _ _ _ _ _ _ _ _ _ _ _ _ _ _ _ _ _ _ _ _ _ _ _ _ _ _ _ _ _ _ _ _ _ _ _ _ _ _ _ _ _ _ _ _ _ _ _ _ _ _ _ _ _ _ _ _ _ _ _ _ _ _ _ _ _ _ _ _ _ wr z0 z1 C1 C2 (hidden ?_)
     intro wz hz
     have BF := hidden (bl_trans B0.out (bl_trans BZ.out hz))
     clear hz z0 z1 C1 C2 BZ
     go_wp2_with fail
     refine bodyPost_ret (v := .bool true) (by simp [results, Tryz.results3, go_sem]) rfl ⟨rfl, BF.out⟩
end Ci
end Go.Proofs.YtnkaolobcglmlaaGreatDoor
