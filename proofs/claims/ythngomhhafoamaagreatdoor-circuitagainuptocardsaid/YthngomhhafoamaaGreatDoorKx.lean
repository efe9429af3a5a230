import Derived.Test.YthngomhhafoamaaGreatDoorKy
set_option maxRecDepth 100000
set_option maxHeartbeats 16000000
set_option linter.unusedVariables false
set_option linter.unusedSimpArgs false
namespace Go.Proofs.YthngomhhafoamaaGreatDoor
open Go.RowKit
open Cm (Wr Tm co bf Ls lf ins Eqm)
open Tr (Kp)
namespace Ci
def pKx10 : String := "bytes.go:85"
def pKx11 : String := "bytes.go:81"
def bg1o_0 : Oper := oO 4 (Op.move (Operand.tmp 0)) 27 pKx11 #[]
def bg1o_1 : Oper := oO 5 (Op.nilCheck (Operand.tmp 4)) 0 pKx11 #[DD 0]
def bg1o_2 : Oper := oO 6 (Op.fieldAddr 72 (Operand.tmp 5) 0) 0 pKx11 #[DD 1]
def bg1o_3 : Oper := oO 7 (Op.load 3 (Operand.tmp 6)) 3 pKx11 #[DD 2]
def bg1o_4 : Oper := oO 8 (Op.move (Operand.tmp 0)) 27 pKx11 #[]
def bg1o_5 : Oper := oO 9 (Op.nilCheck (Operand.tmp 8)) 0 pKx11 #[DD 4]
def bg1o_6 : Oper := oO 10 (Op.fieldAddr 72 (Operand.tmp 9) 2) 0 pKx11 #[DD 5]
def bg1o_7 : Oper := oO 11 (Op.load 70 (Operand.tmp 10)) 70 pKx11 #[DD 6]
def bg1o_8 : Oper := oO 12 (Op.call { callee := Callee.builtin Builtin.len, args := #[Operand.tmp 11], argTypes := #[70] }) 3 pKx11 #[DD 7]
def bg1o_9 : Oper := oO 13 (Op.binOp BinOp.gtr 3 (Operand.tmp 7) (Operand.tmp 12) 3) 4 pKx11 #[DD 3, DD 8]
def bg1o : Array Oper := #[bg1o_0, bg1o_1, bg1o_2, bg1o_3, bg1o_4, bg1o_5, bg1o_6, bg1o_7, bg1o_8, bg1o_9]
theorem bg1 (Q : Exit → Act → World → Prop) (s m nq cv : Nat) (Pv : Option Addr) (bv : Bool) (u1 u2 u3 u4 u5 u6 u7 u8 u9 aa ab ad ae af ag ah ai aj ak al am an ao ap aq au av aw ax ay az aA : Value) (W : World)
  (x0 : W.cell? ⟨s, 0, none⟩ = some (.int .i64 (m : Int))) (x2 : W.cell? ⟨s, 2, none⟩ = some (.slice Pv nq cv)) (GV : Hid (decide (nq < m) = bv))
  (HQ : Hid (∀ (wz : World), Below W.heap.size W wz → Q .normal ⟨#[.pointer (some ⟨s, 0, none⟩), u1, u2, u3, .pointer (some ⟨s, 0, none⟩), .pointer (some ⟨s, 0, none⟩), .pointer (some ⟨s, 0, none⟩), .int .i64 (m : Int), .pointer (some ⟨s, 0, none⟩), .pointer (some ⟨s, 0, none⟩), .pointer (some ⟨s, 2, none⟩), .slice Pv nq cv, .int .i64 (nq : Int), .bool bv, af, ag, ah, ai, aj, ak, al, am, an, ao, ap, aq, au, av, aw, ax, ay, az, aA], []⟩ wz)) : (Code.region 1 bg1o true).wp Tryz.prog Q ⟨#[.pointer (some ⟨s, 0, none⟩), u1, u2, u3, u4, u5, u6, u7, u8, u9, aa, ab, ad, ae, af, ag, ah, ai, aj, ak, al, am, an, ao, ap, aq, au, av, aw, ax, ay, az, aA], []⟩ W := by
 unfold bg1o
 refine wp_region_noPanic ?_
 refine wp_region_held_drew (S := fun x => Below W.heap.size W x) (by kernel_rfl) (bl_drew W) (fun hH0 => ?_)
 refine tj 0 bg1o_0 (.pointer (some ⟨s, 0, none⟩)) hH0 (fun w0 hSw => ?_) ?_
 ·(unfold bg1o_0 oO; clear hSw; go_simp)
 simp only [bg1o_0, oO, Act.put, sA, sB, sC]
 refine tj 4 bg1o_4 (.pointer (some ⟨s, 0, none⟩)) hH0 (fun w0 hSw => ?_) ?_
 ·(unfold bg1o_4 oO; clear hSw; go_simp)
 simp only [bg1o_4, oO, Act.put, sA, sB, sC]
 refine tj 1 bg1o_1 (.pointer (some ⟨s, 0, none⟩)) hH0 (fun w0 hSw => ?_) ?_
 ·(unfold bg1o_1 oO; clear hSw; go_simp)
 simp only [bg1o_1, oO, Act.put, sA, sB, sC]
 refine tj 5 bg1o_5 (.pointer (some ⟨s, 0, none⟩)) hH0 (fun w0 hSw => ?_) ?_
 ·(unfold bg1o_5 oO; clear hSw; go_simp)
 simp only [bg1o_5, oO, Act.put, sA, sB, sC]
 refine tj 2 bg1o_2 (.pointer (some ⟨s, 0, none⟩)) hH0 (fun w0 hSw => ?_) ?_
 ·(unfold bg1o_2 oO; clear hSw; go_simp)
 simp only [bg1o_2, oO, Act.put, sA, sB, sC]
 refine tj 6 bg1o_6 (.pointer (some ⟨s, 2, none⟩)) hH0 (fun w0 hSw => ?_) ?_
 ·(unfold bg1o_6 oO; clear hSw; go_simp)
 simp only [bg1o_6, oO, Act.put, sA, sB, sC]
 refine tj 3 bg1o_3 (.int .i64 (m : Int)) hH0 (fun w0 hSw => ?_) ?_
 ·(unfold bg1o_3 oO; have hS : Below W.heap.size W w0 := hSw; have a0 := cell_keep x0 hS; clear hS hSw; go_simp)
 simp only [bg1o_3, oO, Act.put, sA, sB, sC]
 refine tj 7 bg1o_7 (.slice Pv nq cv) hH0 (fun w0 hSw => ?_) ?_
 ·(unfold bg1o_7 oO; have hS : Below W.heap.size W w0 := hSw; have a0 := cell_keep x2 hS; clear hS hSw; go_simp)
 simp only [bg1o_7, oO, Act.put, sA, sB, sC]
 refine tj 8 bg1o_8 (.int .i64 (nq : Int)) hH0 (fun w0 hSw => ?_) ?_
 ·(unfold bg1o_8 oO; clear hSw; go_simp)
 simp only [bg1o_8, oO, Act.put, sA, sB, sC]
 refine tj 9 bg1o_9 (.bool bv) hH0 (fun w0 hSw => ?_) ?_
 ·(unfold bg1o_9 oO; clear hSw; have gg := GV.out; go_simp)
 simp only [bg1o_9, oO, Act.put, sA, sB, sC]
 have HH := Hn hH0
 have FQ := Hn (HQ.out _ HH.out)
 refine wpAnyH_done (by kernel_rfl) ?_ _
 refine NoPanic.normal ?_
 exact FQ.out
def bg6o_0 : Oper := oO 21 (Op.move (Operand.tmp 0)) 27 pKx10 #[]
def bg6o_1 : Oper := oO 22 (Op.nilCheck (Operand.tmp 21)) 0 pKx10 #[DD 0]
def bg6o_2 : Oper := oO 23 (Op.fieldAddr 72 (Operand.tmp 22) 2) 0 pKx10 #[DD 1]
def bg6o_3 : Oper := oO 24 (Op.load 70 (Operand.tmp 23)) 70 pKx10 #[DD 2]
def bg6o_4 : Oper := oO 25 (Op.move (Operand.tmp 3)) 3 pKx10 #[]
def bg6o_5 : Oper := oO 26 (Op.indexAddr 70 (Operand.tmp 24) (Operand.tmp 25)) 0 pKx10 #[DD 3, DD 4]
def bg6o_6 : Oper := oO 27 (Op.load 24 (Operand.tmp 26)) 24 pKx10 #[DD 5]
def bg6o_7 : Oper := oO 28 (Op.move (Operand.tmp 3)) 3 pKx10 #[]
def bg6o_8 : Oper := oO 29 (Op.call { callee := Callee.value (Operand.func 48), args := #[Operand.tmp 28], argTypes := #[3] }) 24 pKx10 #[DD 7]
def bg6o_9 : Oper := oO 30 (Op.call { callee := Callee.value (Operand.func 78), args := #[Operand.tmp 27, Operand.tmp 29], argTypes := #[24, 24] }) 4 pKx10 #[DD 6, DD 8, CH 8]
def bg6o_10 : Oper := oO 31 (Op.unOp UnOp.not 4 (Operand.tmp 30)) 4 pKx10 #[DD 9]
def bg6o : Array Oper := #[bg6o_0, bg6o_1, bg6o_2, bg6o_3, bg6o_4, bg6o_5, bg6o_6, bg6o_7, bg6o_8, bg6o_9, bg6o_10]
theorem bg6 (Q : Exit → Act → World → Prop) (s gb nq cv j nj cj ne : Nat) (Pj : Option Addr) (b : Bool) (fe : Nat → Trm) (u1 u2 u4 u5 u6 u7 u8 u9 aa ab ad ae af ag ah ai aj ak al am an ao ap aq au av aw ax ay az aA : Value) (W : World)
  (j0 : (0 : Int) ≤ (j : Int)) (j1 : (j : Int) < (nq : Int)) (x2 : W.cell? ⟨s, 2, none⟩ = some (.slice (some ⟨gb, 0, none⟩) nq cv)) (xj : W.cell? ⟨gb, j, none⟩ = some (.slice Pj nj cj))
  (C8 : Hid (∀ y, Below W.heap.size W y → Calls Tryz.prog 48 #[.int .i64 (j : Int)] y fun e w' => ∃ Pe ce, e = .returned (.slice Pe ne ce) ∧ Lt w' Pe ne fe ∧ Below y.heap.size y w'))
  (C9 : Hid (∀ y, Below W.heap.size W y → ∀ Pe ce, Lt y Pe ne fe → Calls Tryz.prog 78 #[.slice Pj nj cj, .slice Pe ne ce] y fun e w' => e = .returned (.bool b) ∧ Below y.heap.size y w'))
  (HQ : Hid (∀ (wz : World) (Pe : Option Addr) (ce : Nat), Below W.heap.size W wz → Q .normal ⟨#[.pointer (some ⟨s, 0, none⟩), u1, u2, .int .i64 (j : Int), u4, u5, u6, u7, u8, u9, aa, ab, ad, ae, af, ag, ah, ai, aj, ak, al, .pointer (some ⟨s, 0, none⟩), .pointer (some ⟨s, 0, none⟩), .pointer (some ⟨s, 2, none⟩), .slice (some ⟨gb, 0, none⟩) nq cv, .int .i64 (j : Int), .pointer (some ⟨gb, j, none⟩), .slice Pj nj cj, .int .i64 (j : Int), .slice Pe ne ce, .bool b, .bool (!b), aA], []⟩ wz)) : (Code.region 6 bg6o true).wp Tryz.prog Q ⟨#[.pointer (some ⟨s, 0, none⟩), u1, u2, .int .i64 (j : Int), u4, u5, u6, u7, u8, u9, aa, ab, ad, ae, af, ag, ah, ai, aj, ak, al, am, an, ao, ap, aq, au, av, aw, ax, ay, az, aA], []⟩ W := by
 unfold bg6o
 refine wp_region_noPanic ?_
 refine wp_region_held_drew (S := fun x => Below W.heap.size W x) (by kernel_rfl) (bl_drew W) (fun hH0 => ?_)
 refine tj 0 bg6o_0 (.pointer (some ⟨s, 0, none⟩)) hH0 (fun w0 hSw => ?_) ?_
 ·(unfold bg6o_0 oO; clear hSw; go_simp)
 simp only [bg6o_0, oO, Act.put, sA, sB, sC]
 refine tj 4 bg6o_4 (.int .i64 (j : Int)) hH0 (fun w0 hSw => ?_) ?_
 ·(unfold bg6o_4 oO; clear hSw; go_simp)
 simp only [bg6o_4, oO, Act.put, sA, sB, sC]
 refine tj 7 bg6o_7 (.int .i64 (j : Int)) hH0 (fun w0 hSw => ?_) ?_
 ·(unfold bg6o_7 oO; clear hSw; go_simp)
 simp only [bg6o_7, oO, Act.put, sA, sB, sC]
 refine tj 1 bg6o_1 (.pointer (some ⟨s, 0, none⟩)) hH0 (fun w0 hSw => ?_) ?_
 ·(unfold bg6o_1 oO; clear hSw; go_simp)
 simp only [bg6o_1, oO, Act.put, sA, sB, sC]
 refine tj 2 bg6o_2 (.pointer (some ⟨s, 2, none⟩)) hH0 (fun w0 hSw => ?_) ?_
 ·(unfold bg6o_2 oO; clear hSw; go_simp)
 simp only [bg6o_2, oO, Act.put, sA, sB, sC]
 refine tj 3 bg6o_3 (.slice (some ⟨gb, 0, none⟩) nq cv) hH0 (fun w0 hSw => ?_) ?_
 ·(unfold bg6o_3 oO; have hS : Below W.heap.size W w0 := hSw; have a0 := cell_keep x2 hS; clear hS hSw; go_simp)
 simp only [bg6o_3, oO, Act.put, sA, sB, sC]
 refine tj 5 bg6o_5 (.pointer (some ⟨gb, j, none⟩)) hH0 (fun w0 hSw => ?_) ?_
 ·(unfold bg6o_5 oO; clear hSw; go_simp)
 simp only [bg6o_5, oO, Act.put, sA, sB, sC]
 refine tj 6 bg6o_6 (.slice Pj nj cj) hH0 (fun w0 hSw => ?_) ?_
 ·(unfold bg6o_6 oO; have hS : Below W.heap.size W w0 := hSw; have a0 := cell_keep xj hS; clear hS hSw; go_simp)
 simp only [bg6o_6, oO, Act.put, sA, sB, sC]
 refine ar [8] ?_
 refine ac bg6o_8 (fun K hK => ?_) AllReadyH.nil
 unfold bg6o_8 oO
 have HH := Hn hH0
 clear hH0
 go_simp
 refine (C8.out _ HH.out).mono ?_
 rintro e wn1 ⟨Pe, ce, rfl, hl, hb⟩
 have SN := Hn (bl_trans HH.out hb)
 have LE := Hn (hl)
 clear HH hl hb
 go_wp2_with fail
 refine hK.out _ _ SN.out (fun hH1 => ?_)
 clear hK K SN
 refine ar [9] ?_
 refine ac bg6o_9 (fun K hK => ?_) AllReadyH.nil
 unfold bg6o_9 oO
 have HH := Hn hH1
 clear hH1
 go_simp
 refine (C9.out _ HH.out _ _ LE.out).mono ?_
 rintro e wn2 ⟨rfl, hb⟩
 have SN := Hn (bl_trans HH.out hb)
 clear HH hb
 go_wp2_with fail
 refine hK.out _ _ SN.out (fun hH2 => ?_)
 clear hK K SN
 refine tj 10 bg6o_10 (.bool (!b)) hH2 (fun w0 hSw => ?_) ?_
 ·(unfold bg6o_10 oO; clear hSw; go_simp)
 simp only [bg6o_10, oO, Act.put, sA, sB, sC]
 have HH := Hn hH2
 have FQ := Hn (HQ.out _ Pe ce HH.out)
 refine wpAnyH_done (by kernel_rfl) ?_ _
 refine NoPanic.normal ?_
 exact FQ.out
theorem enX_ls (j : Int) : Ls Sm.L (enX j) := Cm.lf_ls (by decide) _
theorem take_enl {Q : List (List Tm)} {j : Nat} {X : List Tm} (h : Q.take j = enl j) (hX : Q[j]? = some X) : Q.take (j + 1) = enl (j + 1) ↔ X = enX j := by
 rw [List.take_add_one, hX, h]
 show enl j ++ [X] = enl j ++ [enX j] ↔ _
 simp
theorem take_enl_le {Q : List (List Tm)} {j m : Nat} (h : Q.take m = enl m) (hj : j ≤ m) : Q.take j = enl j := by
 obtain ⟨d, rfl⟩ : ∃ d, m = j + d := ⟨m - j, by omega⟩
 induction d with
 | zero => exact h
 | succ d ih =>
  refine ih ?_ (by omega)
  have e : enl (j + (d + 1)) = enl (j + d) ++ [enX ((j + d : Nat) : Int)] := rfl
  rw [e] at h
  have h2 := congrArg (List.take (j + d)) h
  rw [List.take_take, Nat.min_eq_left (by omega), List.take_left' (enl_len (j + d))] at h2
  exact h2
theorem begins_any {base : Nat} {w : World} {s m K : Nat} {v : Value} {vs : List Value} {Q : List (List Tm)} (h : Sy base w s m K v vs Q) (hT : Tb w) (hm : m ≤ 16) (hq : Q.length ≤ 4096) (hx : ∀ X ∈ Q, Ls Sm.L X ∧ X.length ≤ 3089) : Calls Tryz.prog 47 #[.pointer (some ⟨s, 0, none⟩)] w fun e w' => e = .returned (.bool (decide (Q.take m = enl m))) ∧ Below w.heap.size w w' := by
 obtain ⟨Pv, cv, hv, _, hp⟩ := h.shape
 subst hv
 have x0 := h.c0
 have x2 := h.c2
 have HS := Hn h
 have HT := Hn hT
 have HB := Hn (And.intro hm (And.intro hq hx))
 have HP := Hn hp
 obtain ⟨bv, hbv⟩ : ∃ bv, decide (Q.length < m) = bv := ⟨_, rfl⟩
 have GV := Hn hbv
 obtain ⟨nq, hnq⟩ : ∃ nq, Q.length = nq := ⟨_, rfl⟩
 have NQ := Hn hnq
 rw [hnq] at x2 GV
 clear h hT hm hq hx hp hbv
 go_enter Tryz.func47, Tryz.ntmps47
 go_upto_region 1 with fail
 refine bg1 _ s m nq cv Pv bv _ _ _ _ _ _ _ _ _ _ _ _ _ _ _ _ _ _ _ _ _ _ _ _ _ _ _ _ _ _ _ _ w x0 x2 GV (Hn ?_)
 intro w1 hb
 have B1 := Hn hb
 clear hb
 have y0 := cell_keep x0 B1.out
 clear x0 x2
 cases bv with
 | true =>
  have lt : nq < m := by have := GV.out; simp at this; omega
  have R : Hid (decide (Q.take m = enl m) = false) := Hn (decide_eq_false (fun h => by have := congrArg List.length h; rw [List.length_take, enl_len, hnq] at this; omega))
  clear GV
  go_wp2_with fail
  exact bodyPost_ret (v := .bool false) (by simp [results, Tryz.results47, go_sem]) rfl ⟨by rw [R.out], B1.out⟩
 | false =>
  have le : m ≤ nq := by have := GV.out; simp at this; omega
  have LE := Hn le
  clear GV le
  go_upto_region 4 with fail
  clear y0
  go_loopw [18] (fun jv w' => ∃ j : Nat, j ≤ m ∧ jv = .int .i64 (j : Int) ∧ Hid (Q.take j = enl j ∧ Below w.heap.size w w')) (fun j _ => m - (intOf j).toNat)
  case atStart => exact ⟨0, by omega, rfl, Hn ⟨rfl, B1.out⟩⟩
  case round =>
   clear B1
   obtain ⟨j, hj, rfl, hR⟩ := hrel
   by_cases hjm : j < m
   ·have j1 : (j : Int) < (m : Int) := by omega
    have j0 : (0 : Int) ≤ (j : Int) := by omega
    have jq : (j : Int) < (nq : Int) := by have := LE.out; omega
    have w9 : IntKind.i64.wrap ((j : Int) + 1) = (j : Int) + 1 := IntWalk.i64_in _ (by have := HB.out.1; omega)
    have jl : j < Q.length := by have := LE.out; have := NQ.out; omega
    obtain ⟨gb, rfl⟩ := HP.out (by omega)
    have SR := Hn (HS.out.keep hR.out.2)
    obtain ⟨X, hX⟩ : ∃ X, Q[j]? = some X := ⟨Q[j], List.getElem?_eq_getElem jl⟩
    obtain ⟨u, hu, hou⟩ := SR.out.ls j X hX
    obtain ⟨Pj, cj, e1, _, _⟩ := own_shT hou
    subst e1
    have x2 := SR.out.c2
    rw [hnq] at x2
    have xj : wr.cell? ⟨gb, j, none⟩ = some (.slice Pj X.length cj) := by
     have := SR.out.row.cells (g := gb) rfl j _ hu
     rwa [Addr.add_mid, Nat.zero_add] at this
    have XX := HB.out.2.2 X (List.mem_of_getElem? hX)
    have C8 : Hid (∀ y, Below wr.heap.size wr y → Calls Tryz.prog 48 #[.int .i64 (j : Int)] y fun e w' => ∃ Pe ce, e = .returned (.slice Pe (enX j).length ce) ∧ Lt w' Pe (enX j).length (ft (enX j)) ∧ Below y.heap.size y w') := Hn (fun y hy => (entry_any (j : Int) y ((HT.out.keep hR.out.2).keep hy)).mono fun e w' ⟨ve, he, ho, hb, _⟩ => by
     obtain ⟨Pe, ce, e2, _, _⟩ := own_shT ho
     subst e2
     exact ⟨Pe, ce, he, own_lts ho, hb⟩)
    have C9 : Hid (∀ y, Below wr.heap.size wr y → ∀ Pe ce, Lt y Pe (enX j).length (ft (enX j)) → Calls Tryz.prog 78 #[.slice Pj X.length cj, .slice Pe (enX j).length ce] y fun e w' => e = .returned (.bool (eqB X (enX j))) ∧ Below y.heap.size y w') := Hn (fun y hy Pe ce hl => sEqual_any Pj Pe cj ce X (enX j) y (by have := XX.2; omega) ((own_lts hou).keep hy) hl)
    have TK := Hn (take_enl hR.out.1 hX)
    have BQ := Hn (eqB_iff XX.1 (enX_ls (j : Int)))
    have BR := Hn hR.out.2
    have T0 := Hn hR.out.1
    generalize eqB X (enX j) = b at C9 BQ
    generalize (enX j).length = ne at C8 C9
    generalize ft (enX j) = fe at C8 C9
    generalize X.length = nj at xj C9
    clear hR XX hou hu hX SR
    go_upto_region 6 with fail
    refine bg6 _ s gb nq cv j nj cj ne Pj b fe _ _ _ _ _ _ _ _ _ _ _ _ _ _ _ _ _ _ _ _ _ _ _ _ _ _ _ _ _ _ _ wr j0 jq x2 xj C8 C9 (Hn ?_)
    intro wz Pe ce hz
    have BZ := Hn (bl_trans BR.out hz)
    clear hz x2 xj C8 C9 BR
    cases b with
    | true =>
     have PN : Hid (Q.take (j + 1) = enl (j + 1) ∧ Below w.heap.size w wz) := Hn ⟨TK.out.2 (BQ.out.1 rfl), BZ.out⟩
     clear BZ TK BQ T0
     go_wp2_with fail
     go_roundw
     case rel => exact ⟨j + 1, by omega, by go_num, PN⟩
     case measure => simp [intOf]; omega
    | false =>
     have R : Hid (decide (Q.take m = enl m) = false) := Hn (decide_eq_false (fun h => by have h2 := BQ.out.2 (TK.out.1 (take_enl_le h hjm)); cases h2))
     clear TK BQ T0
     simp only [Bool.not_false]
     go_wp2_with fail
     go_ret
     exact ⟨by rw [R.out]; rfl, BZ.out⟩
   ·obtain rfl : j = m := by omega
    have lq : ¬ (j : Int) < (j : Int) := by omega
    have R : Hid (decide (Q.take j = enl j) = true) := Hn (decide_eq_true hR.out.1)
    have BR := Hn hR.out.2
    clear hR
    go_wp2_with fail
    exact bodyPost_ret (v := .bool true) (by simp [results, Tryz.results47, go_sem]) rfl ⟨by rw [R.out], BR.out⟩
end Ci
end Go.Proofs.YthngomhhafoamaaGreatDoor
namespace Go.Proofs.YthngomhhafoamaaGreatDoor
open Go.RowKit
open Cm (Wr Tm co bf Ls lf ins Eqm)
open Tr (Kp)
namespace Ci
theorem cell_ltK {w : World} {b o : Nat} {v : Value} (h : w.cell? ⟨b, o, none⟩ = some v) : b < w.heap.size := by
 rcases Nat.lt_or_ge b w.heap.size with h' | h'
 ·exact h'
 ·have : w.heap[b]? = none := Array.getElem?_eq_none h'
  unfold World.cell? at h
  rw [this] at h
  simp at h
theorem tb_lt {w : World} (h : Tb w) : 0 < w.heap.size := cell_ltK h.1
theorem rb_end {w : World} {g q : Nat} {bs : List UInt8} {e : Int} (h : Rb w g q bs e) : Calls Tryz.prog 46 #[.pointer (some ⟨g, 0, none⟩)] w fun r w' => r = .returned (.int .i64 (Tr.en bs e)) ∧ Kp g w w' := by
 obtain ⟨P, c, h1, h2⟩ := h
 exact (Tr.end_any h1).mono fun r w' ⟨a, b, c⟩ => ⟨a, c⟩
theorem listL_no (bs : List UInt8) (e : Int) (most : Nat) (w : World) (g q sb : Nat) (h : Rb w g q bs e) (he : e ≠ 0) :
  Calls Tryz.prog 44 #[.pointer (some ⟨g, 0, none⟩), .int .i64 (most : Int), .func (.func 45) #[.pointer (some ⟨sb, 0, none⟩)] #[]] w fun r w' => r = .returned (.slice none 0 0) ∧ Rb w' g q bs e ∧ Kp g w w' := by
 have hmf : ∀ (fn : Fn) (first cap : Array Value) (w : World), (Instr.makeFunc fn first cap).run Tryz.prog w = .ok (.func fn first cap) w := fun _ _ _ _ => rfl
 have B := Hn (bl_trans (bl_alloc w (.cells #[.int .i64 (most : Int)] 3)) (bl_alloc (w.alloc (.cells #[.int .i64 (most : Int)] 3)) (.cells #[.func (.func 45) #[.pointer (some ⟨sb, 0, none⟩)] #[]] 85)))
 have HR := Hn (h.keep B.out)
 have RI := Hn (fun f => by obtain ⟨P, c, h1, h2⟩ := HR.out; exact Tr.readI_no f h1 he)
 clear h he
 go_enter Tryz.func44, Tryz.ntmps44
 go_upto_region 3 with (first | (go_at_call 69; refine (RI.out _).mono ?_; rintro r w3 ⟨rfl, hw3⟩; rw [hw3]; clear RI hw3 w3))
 generalize ((w.alloc (.cells #[.int .i64 (most : Int)] 3)).alloc (.cells #[.func (.func 45) #[.pointer (some ⟨sb, 0, none⟩)] #[]] 85)) = w3 at *
 go_wp2_with fail
 go_loopw [8, 13] (fun v kv w' => v = .slice none 0 0 ∧ kv = .int .i64 0 ∧ Hid (w' = w3)) (fun _ _ _ => 0)
 case atStart => exact ⟨rfl, rfl, Hn rfl⟩
 case round =>
  obtain ⟨rfl, rfl, hk⟩ := hrel
  go_wp2_with fail
  go_ret
  rw [hk.out]
  exact ⟨rfl, HR.out, Tr.Kp.of B.out⟩
structure Dr (w : World) (g q s : Nat) (a : Array Value) (bs : List UInt8) (e : Int) (x : World) : Prop where
 hs : x.heap[s]? = some (.cells a 72 (0, 0))
 rb : Rb x g q bs e
 kb : Below w.heap.size w x
 lg : w.heap.size ≤ g
 ls : w.heap.size ≤ s
 lq : q < x.heap.size
 ng : s ≠ g
 nq : s ≠ q
section
variable {w x y : World} {g q s : Nat} {a : Array Value} {bs bs' : List UInt8} {e e' : Int}
theorem Dr.call (h : Dr w g q s a bs e x) (k : Kp g x y) (r : Rb y g q bs' e') : Dr w g q s a bs' e' y :=
 ⟨(k.block s (Array.getElem?_eq_some_iff.1 h.hs).1 h.ng).trans h.hs, r, h.kb.trans (k.below h.lg h.kb.size), h.lg, h.ls, Nat.lt_of_lt_of_le h.lq k.size, h.ng, h.nq⟩
theorem Dr.st (h : Dr w g q s a bs e x) (j : Nat) (v : Value) : Dr w g q s (a.setIfInBounds j v) bs e (x.setCell ⟨s, j, none⟩ v) := by
 have k := Tr.Kp.grown (Tr.grown_set x s j v)
 exact ⟨heap_setCell_same x s j _ 72 v h.hs, h.rb.kp k (Ne.symm h.ng) (Ne.symm h.nq), h.kb.trans (k.below h.ls h.kb.size), h.lg, h.ls, Nat.lt_of_lt_of_le h.lq k.size, h.ng, h.nq⟩
theorem Dr.c (h : Dr w g q s a bs e x) (j : Nat) : x.cell? ⟨s, j, none⟩ = a[j]? ∧ x.frozen? ⟨s, j, none⟩ = false := ⟨cell_of_row x s j _ 72 (0, 0) h.hs, by unfold World.frozen?; rw [h.hs]; simp⟩
end
def DcP (w : World) (bs : List UInt8) (r : Ending) (w' : World) : Prop :=
 (∃ m K Q t v vs, pY bs = some (m, K, Q) ∧ r = .returned (.tuple #[.pointer (some ⟨t, 0, none⟩), .int .i64 0]) ∧ Sy w.heap.size w' t m K v vs Q ∧ Below w.heap.size w w') ∨ (pY bs = none ∧ r = .returned (.tuple #[.pointer none, .int .i64 204]) ∧ Below w.heap.size w w')
theorem num2_ok (bs : List UInt8) (h : nne 1024 (nnb 16 bs 0) (nne 16 bs 0) = 0) : pN 16 bs = some (nn 16 bs 0, nnb 16 bs 0) ∧ pN 1024 (nnb 16 bs 0) = some (nn 1024 (nnb 16 bs 0) (nne 16 bs 0), nnb 1024 (nnb 16 bs 0) (nne 16 bs 0)) := by
 cases h1 : pN 16 bs with
 | none => exact absurd h (nn_no (nn_none h1))
 | some y =>
  obtain ⟨m, b1⟩ := y
  obtain ⟨a1, a2, a3⟩ := nn_some h1
  rw [a2, a3] at h ⊢
  rw [a1]
  refine ⟨rfl, ?_⟩
  cases h2 : pN 1024 b1 with
  | none => exact absurd h (nn_none h2)
  | some z =>
   obtain ⟨K, b2⟩ := z
   obtain ⟨c1, c2, c3⟩ := nn_some h2
   rw [c1, c2]
theorem num2_no (bs : List UInt8) (h : nne 1024 (nnb 16 bs 0) (nne 16 bs 0) ≠ 0) : pY bs = none := by
 unfold pY
 cases h1 : pN 16 bs with
 | none => rfl
 | some y =>
  obtain ⟨m, b1⟩ := y
  obtain ⟨a1, a2, a3⟩ := nn_some h1
  rw [a2, a3] at h
  simp only
  cases h2 : pN 1024 b1 with
  | none => rfl
  | some z =>
   obtain ⟨K, b2⟩ := z
   obtain ⟨c1, c2, c3⟩ := nn_some h2
   exact absurd c3 h
theorem own_sh2K {w : World} {base n s : Nat} {t : TypeId} {v : Value} {xs : List Value} (h : w.ownsRow base t s v n xs) : ∃ (P : Option Addr) (c : Nat), v = .slice P n c ∧ n ≤ c := by
 rcases h.2 with ⟨h1, h2⟩ | ⟨g, c, cur, h1, _, _, h4, _⟩
 ·exact ⟨none, 0, by rw [h1, h2], by omega⟩
 ·exact ⟨_, c, h1, h4⟩
theorem own_setK {w w' : World} {base' sz nb : Nat} {e T : TypeId} {u : Value} {n : Nat} {xs : List Value} {arr : Array Value} (ho : w.ownsRow base' e sz u n xs) (hg : w.grownBy w' (some nb)) (hs : w.heap[nb]? = some (.cells arr T (0, 0))) (hne : e ≠ T) : w'.ownsRow base' e sz u n xs := ⟨ho.1, by
 rcases ho.2 with h0 | ⟨g, c, cur, h1, h2, h3, h4⟩
 ·exact .inl h0
 ·refine .inr ⟨g, c, cur, h1, h2, (hg.block g (Array.getElem?_eq_some_iff.1 h3).1 (fun e' => ?_)).trans h3, h4⟩
  have e' := Option.some.inj e'
  subst e'
  rw [hs] at h3
  simp only [Option.some.injEq, Obj.cells.injEq] at h3
  exact hne h3.2.1.symm⟩
theorem Sy.kpR {base : Nat} {x y : World} {s m K g q : Nat} {v : Value} {vs : List Value} {Q : List (List Tm)} {bs : List UInt8} {e : Int} (h : Sy base x s m K v vs Q) (k : Kp g x y) (hr : Rb x g q bs e) : Sy base y s m K v vs Q := by
 obtain ⟨P, c, h1, _⟩ := hr
 have hg : x.grownBy y (some g) := ⟨k.os, k.tape, k.output, k.size, fun i hi hne => k.block i hi (fun e => hne (by rw [e]))⟩
 refine ⟨(k.block s (Array.getElem?_eq_some_iff.1 h.h).1 (fun e => ?_)).trans h.h, own_setK h.row hg h1.at' (by decide), fun i X hX => ?_, h.bs, h.sm⟩
 ·have h2 := h.h
  rw [e, h1.at'] at h2
  simp only [Option.some.injEq, Obj.cells.injEq] at h2
  exact absurd h2.2.1 (by decide)
 ·obtain ⟨u, h2, h3⟩ := h.ls i X hX
  exact ⟨u, h2, own_setK h3 hg h1.at' (by decide)⟩
theorem Decode_any (P : Option Addr) (c : Nat) (bs : List UInt8) (w : World) (hT : Tb w) (hB : Tr.By w P c bs) (hl : bs.length ≤ 2 ^ 40) :
  Calls Tryz.prog 14 #[.slice P bs.length c] w fun r w' => DcP w bs r w' := by
 have hmf : ∀ (fn : Fn) (first cap : Array Value) (w : World), (Instr.makeFunc fn first cap).run Tryz.prog w = .ok (.func fn first cap) w := fun _ _ _ _ => rfl
 have CR := Hn (Tr.newReader_any hB (Nat.le_trans hl (by decide)))
 have HT := Hn hT
 have HL := Hn hl
 have TL := Hn (tb_lt hT)
 clear hT hB hl
 go_enter Tryz.func14, Tryz.ntmps14
 go_upto_region 2 with (first | (go_at_call 42; refine CR.out.mono ?_; rintro r w1 ⟨g, Q0, d0, rfl, hr, hg, hb⟩; have R1 : Hid (∃ q, Rb w1 g q bs 0 ∧ q < w1.heap.size) := Hn (by cases Q0 with | none => exact ⟨g, ⟨_, _, hr, fun a ha => (by cases ha)⟩, hr.glt⟩ | some a => exact ⟨a.block, ⟨_, _, hr, fun a2 ha => (by obtain rfl := Option.some.inj ha; rfl)⟩, (hr.fr a rfl).2⟩); have G1 := Hn (And.intro hg (And.intro hb hr.glt)); clear hr hg hb CR))
 obtain ⟨q, hq1, hq2⟩ := R1.out
 go_upto_region 3 with fail
 have BN := bl_alloc w1 (.cells #[.int .i64 0, .int .i64 0, .slice none 0 0, .bool true] 72)
 have D1 : Hid (Dr w g q w1.heap.size #[.int .i64 0, .int .i64 0, .slice none 0 0, .bool true] bs 0 (w1.alloc (.cells #[.int .i64 0, .int .i64 0, .slice none 0 0, .bool true] 72))) := Hn ⟨heap_alloc_new w1 _, hq1.keep BN, bl_trans G1.out.2.1 BN, G1.out.1, G1.out.2.1.size, Nat.lt_of_lt_of_le hq2 BN.size, by have := G1.out.2.2; omega, by omega⟩
 have TG : Hid (0 ≠ g) := Hn (by have := TL.out; have := G1.out.1; omega)
 clear BN hq1 hq2 R1
 generalize (w1.alloc (.cells #[.int .i64 0, .int .i64 0, .slice none 0 0, .bool true] 72)) = w2 at *
 generalize w1.heap.size = s at *
 clear G1
 have l1 := nnb_len 16 bs 0
 have l2 := nnb_len 1024 (nnb 16 bs 0) (nne 16 bs 0)
 have k1 := nn_le 16 bs 0
 have k2 := nn_le 1024 (nnb 16 bs 0) (nne 16 bs 0)
 have C1 := Hn (Number_s 16 D1.out.rb (by have := HL.out; omega))
 have C2 := Hn (fun y (hy : Rb y g q (nnb 16 bs 0) (nne 16 bs 0)) => Number_s 1024 hy (by have := HL.out; omega))
 have PG : Hid (nne 1024 (nnb 16 bs 0) (nne 16 bs 0) = 0 → pN 16 bs = some (nn 16 bs 0, nnb 16 bs 0) ∧ pN 1024 (nnb 16 bs 0) = some (nn 1024 (nnb 16 bs 0) (nne 16 bs 0), nnb 1024 (nnb 16 bs 0) (nne 16 bs 0))) := Hn (num2_ok bs)
 have PB : Hid (nne 1024 (nnb 16 bs 0) (nne 16 bs 0) ≠ 0 → pY bs = none) := Hn (num2_no bs)
 have LB : Hid ((nnb 1024 (nnb 16 bs 0) (nne 16 bs 0)).length ≤ 2 ^ 40) := Hn (by have := HL.out; omega)
 clear l1 l2
 generalize nnb 16 bs 0 = b1 at *
 generalize hE1 : nne 16 bs 0 = e1 at *
 generalize nnb 1024 b1 e1 = b2 at *
 generalize hE2 : nne 1024 b1 e1 = e2 at *
 generalize nn 16 bs 0 = n1 at *
 generalize nn 1024 b1 e1 = n2 at *
 clear hE1 hE2
 have v1 : IntKind.i64.wrap (n1 : Int) = (n1 : Int) := IntWalk.i64_in _ (by omega)
 have v2 : IntKind.i64.wrap (n2 : Int) = (n2 : Int) := IntWalk.i64_in _ (by omega)
 have K1 := Hn (And.intro k1 k2)
 clear k1 k2
 go_upto_region 4 with (first | (go_at_call 43; refine C1.out.mono ?_; rintro r w3 ⟨rfl, hr, hk⟩; have D3 := Hn (D1.out.call hk hr); clear hr hk C1; obtain ⟨c0, f0⟩ := D3.out.c 0; obtain ⟨c1, f1⟩ := D3.out.c 1; obtain ⟨c2, f2⟩ := D3.out.c 2; obtain ⟨c3, f3⟩ := D3.out.c 3; simp at c0 c1 c2 c3))
 have D4 := Hn (D3.out.st 0 (.int .i64 (n1 : Int)))
 clear D1 D3 c0 c1 c2 c3 f0 f1 f2 f3
 generalize (w3.setCell ⟨s, 0, none⟩ (.int .i64 (n1 : Int))) = w4 at *
 replace C2 := Hn (C2.out w4 D4.out.rb)
 go_upto_region 5 with (first | (go_at_call 43; refine C2.out.mono ?_; rintro r w5 ⟨rfl, hr, hk⟩; have D5 := Hn (D4.out.call hk hr); clear hr hk C2; obtain ⟨c0, f0⟩ := D5.out.c 0; obtain ⟨c1, f1⟩ := D5.out.c 1; obtain ⟨c2, f2⟩ := D5.out.c 2; obtain ⟨c3, f3⟩ := D5.out.c 3; simp at c0 c1 c2 c3))
 have D6 := Hn (D5.out.st 1 (.int .i64 (n2 : Int)))
 clear D4 D5 c0 c1 c2 c3 f0 f1 f2 f3 v1 v2
 generalize (w5.setCell ⟨s, 1, none⟩ (.int .i64 (n2 : Int))) = w6 at *
 simp only [sA, sB, sC] at D6
 have CL : Hid (Calls Tryz.prog 44 #[.pointer (some ⟨g, 0, none⟩), .int .i64 4096, .func (.func 45) #[.pointer (some ⟨s, 0, none⟩)] #[]] w6 fun r w' => (∃ Q b V vs, pN 16 bs = some (n1, b1) ∧ pN 1024 b1 = some (n2, b2) ∧ pL (pX n1 n2) 4096 b2 = some (Q, b) ∧ r = .returned V ∧ w'.ownsRow w6.heap.size 24 1 V Q.length vs ∧ Rws w' w6.heap.size Q vs ∧ Rb w' g q b 0 ∧ Kp g w6 w') ∨ (pY bs = none ∧ r = .returned (.slice none 0 0) ∧ ∃ b e, e ≠ 0 ∧ Rb w' g q b e ∧ Kp g w6 w')) := Hn (by
  by_cases he : e2 = 0
  ·obtain ⟨p1, p2⟩ := PG.out he
   have rb := D6.out.rb
   rw [he] at rb
   refine (listL_any b2 4096 w6 g q s n1 n2 (HT.out.keep D6.out.kb) TG.out rb D6.out.hs D6.out.ng D6.out.lq LB.out (by omega)).mono fun r w' h => ?_
   rcases h with ⟨Q, b, V, vs, h1, h2, h3, h4, h5, h6⟩ | ⟨h1, h2, h3⟩
   ·exact .inl ⟨Q, b, V, vs, p1, p2, h1, h2, h3, h4, h5, h6⟩
   ·exact .inr ⟨by unfold pY; rw [p1]; simp only; rw [p2]; simp only; rw [h1], h2, h3⟩
  ·exact (listL_no b2 e2 4096 w6 g q s D6.out.rb he).mono fun r w' ⟨h1, h2, h3⟩ => .inr ⟨PB.out he, h1, b2, e2, he, h2, h3⟩)
 clear PG PB LB
 go_cut [] (fun wx => Hid ((∃ Q b V vs, pN 16 bs = some (n1, b1) ∧ pN 1024 b1 = some (n2, b2) ∧ pL (pX n1 n2) 4096 b2 = some (Q, b) ∧ Sy w.heap.size wx s n1 n2 V vs Q ∧ Rb wx g q b 0 ∧ Below w.heap.size w wx) ∨ (pY bs = none ∧ ∃ b e, e ≠ 0 ∧ Rb wx g q b e ∧ Below w.heap.size w wx)))
 case first =>
  go_wp2_with (first | (go_at_call 44; refine CL.out.mono ?_; intro r w7 hr; have HR := Hn hr; obtain ⟨Pv, nv, cv, rfl⟩ : ∃ P n c, r = .returned (.slice P n c) := (by rcases hr with ⟨Q, _, V, vs, _, _, _, h, ho, _⟩ | ⟨_, h, _⟩; obtain ⟨P, c, e1, _⟩ := own_sh2K ho; exact ⟨P, _, c, by rw [h, e1]⟩; exact ⟨_, _, _, h⟩); have K7 : Hid (Kp g w6 w7 ∧ ∃ b e, Rb w7 g q b e) := Hn (by rcases hr with ⟨Q, b, V, vs, _, _, _, _, _, _, h, k⟩ | ⟨_, _, b, e, _, h, k⟩; exact ⟨k, b, 0, h⟩; exact ⟨k, b, e, h⟩); have SC : Hid (w7.heap[s]? = some (.cells #[.int .i64 (n1 : Int), .int .i64 (n2 : Int), .slice none 0 0, .bool true] 72 (0, 0))) := Hn ((K7.out.1.block s (Array.getElem?_eq_some_iff.1 D6.out.hs).1 D6.out.ng).trans D6.out.hs); have c2 := cell_of_row w7 s 2 _ 72 (0, 0) SC.out; have f2 : w7.frozen? ⟨s, 2, none⟩ = false := (by unfold World.frozen?; rw [SC.out]; simp); simp at c2; clear hr CL))
  have GS := Hn (Tr.grown_set w7 s 2 (.slice Pv nv cv))
  have HZ := Hn (heap_setCell_same w7 s 2 _ 72 (.slice Pv nv cv) SC.out)
  have BZ : Hid (Below w.heap.size w (w7.setCell ⟨s, 2, none⟩ (.slice Pv nv cv))) := Hn ((D6.out.kb.trans (K7.out.1.below D6.out.lg D6.out.kb.size)).trans ((Tr.Kp.grown GS.out).below D6.out.ls (Nat.le_trans D6.out.kb.size K7.out.1.size)))
  have PP : Hid ((∃ Q b V vs, pN 16 bs = some (n1, b1) ∧ pN 1024 b1 = some (n2, b2) ∧ pL (pX n1 n2) 4096 b2 = some (Q, b) ∧ Sy w.heap.size (w7.setCell ⟨s, 2, none⟩ (.slice Pv nv cv)) s n1 n2 V vs Q ∧ Rb (w7.setCell ⟨s, 2, none⟩ (.slice Pv nv cv)) g q b 0 ∧ Below w.heap.size w (w7.setCell ⟨s, 2, none⟩ (.slice Pv nv cv))) ∨ (pY bs = none ∧ ∃ b e, e ≠ 0 ∧ Rb (w7.setCell ⟨s, 2, none⟩ (.slice Pv nv cv)) g q b e ∧ Below w.heap.size w (w7.setCell ⟨s, 2, none⟩ (.slice Pv nv cv)))) := Hn (by
   rcases HR.out with ⟨Q, b, V, vs, p1, p2, p3, h, ho, hl, hr, hk⟩ | ⟨p1, h, b, e, he, hr, hk⟩
   ·obtain rfl := (Ending.returned.inj h).symm
    refine .inl ⟨Q, b, _, vs, p1, p2, p3, ⟨HZ.out, ?_, ?_, D6.out.ls, ?_⟩, hr.kp (Tr.Kp.grown GS.out) (Ne.symm D6.out.ng) (Ne.symm D6.out.nq), BZ.out⟩
    ·exact own_monoT (own_setK ho GS.out SC.out (by decide)) D6.out.kb.size
    ·intro i X hX
     obtain ⟨u, h1, h2⟩ := hl i X hX
     exact ⟨u, h1, own_monoT (own_setK h2 GS.out SC.out (by decide)) (Nat.zero_le _)⟩
    ·intro X hX
     exact ((pL_some (f := xsB) (ok := okX n1 n2) (fun _ _ _ h => pX_some h) p3).2.2 X hX).2.1
   ·exact .inr ⟨p1, b, e, he, hr.kp (Tr.Kp.grown GS.out) (Ne.symm D6.out.ng) (Ne.symm D6.out.nq), BZ.out⟩)
  go_meet
  exact PP
 case rest =>
 have HR := Hn hcut.out
 have GL := Hn (And.intro D6.out.lg D6.out.ls)
 clear hcut CL D6
 rcases HR.out with ⟨Q, b, V, vs, p1, p2, p3, sy, rb, bl⟩ | ⟨p1, b, e, he, rb, bl⟩
 ·have PL := Hn (pL_some (f := xsB) (ok := okX n1 n2) (fun _ _ _ h => pX_some h) p3)
  have SYH := Hn sy
  have BL := Hn bl
  have RB := Hn rb
  have PY : Hid (pY bs = @ite _ (b = [] ∧ Q.take n1 = enl n1) (Classical.propDecidable _) (some (n1, n2, Q)) none) := Hn (by unfold pY; rw [p1]; simp only; rw [p2]; simp only; rw [p3])
  have CE := Hn (rb_end rb)
  clear p1 p2 p3 sy rb bl HR
  by_cases hb : b = []
  ·subst hb
   have e0 : Tr.en [] 0 = 0 := rfl
   rw [e0] at CE
   have CB : Hid (∀ y, Kp g wc y → Calls Tryz.prog 47 #[.pointer (some ⟨s, 0, none⟩)] y fun e w' => e = .returned (.bool (decide (Q.take n1 = enl n1))) ∧ Below y.heap.size y w') := Hn (fun y hk => begins_any (SYH.out.kpR hk RB.out) ((HT.out.keep BL.out).kp hk TG.out) K1.out.1 PL.out.2.1 (fun X hX => ⟨(PL.out.2.2 X hX).2.1, (PL.out.2.2 X hX).1⟩))
   by_cases ht : Q.take n1 = enl n1
   ·rw [decide_eq_true ht] at CB
    have PZ : Hid (pY bs = some (n1, n2, Q)) := Hn (by rw [PY.out, if_pos ⟨rfl, ht⟩])
    clear PY ht
    go_wp2_with (first | (go_at_call 46; refine CE.out.mono ?_; rintro r w8 ⟨rfl, hk⟩; have K8 := Hn hk; clear hk CE) | (go_at_call 47; refine (CB.out _ K8.out).mono ?_; rintro r w9 ⟨rfl, hb9⟩; have B9 := Hn hb9; clear hb9 CB))
    refine bodyPost_ret (v := .tuple #[.pointer (some ⟨s, 0, none⟩), .int .i64 0]) (by simp [results, Tryz.results14, go_sem]) rfl (.inl ⟨n1, n2, Q, s, V, vs, PZ.out, rfl, (SYH.out.kpR K8.out RB.out).keep B9.out, ?_⟩)
    exact (BL.out.trans (K8.out.below GL.out.1 BL.out.size)).trans (B9.out.mono (Nat.le_trans BL.out.size K8.out.size))
   ·rw [decide_eq_false ht] at CB
    have PZ : Hid (pY bs = none) := Hn (by rw [PY.out, if_neg (fun h => ht h.2)])
    clear PY ht
    go_wp2_with (first | (go_at_call 46; refine CE.out.mono ?_; rintro r w8 ⟨rfl, hk⟩; have K8 := Hn hk; clear hk CE) | (go_at_call 47; refine (CB.out _ K8.out).mono ?_; rintro r w9 ⟨rfl, hb9⟩; have B9 := Hn hb9; clear hb9 CB))
    refine bodyPost_ret (v := .tuple #[.pointer none, .int .i64 204]) (by simp [results, Tryz.results14, go_sem]) rfl (.inr ⟨PZ.out, rfl, ?_⟩)
    exact (BL.out.trans (K8.out.below GL.out.1 BL.out.size)).trans (B9.out.mono (Nat.le_trans BL.out.size K8.out.size))
  ·have e0 : Tr.en b 0 = 101 := by unfold Tr.en; rw [if_pos ⟨rfl, fun h => hb (List.length_eq_zero_iff.1 h)⟩]
   rw [e0] at CE
   have PZ : Hid (pY bs = none) := Hn (by rw [PY.out, if_neg (fun h => hb h.1)])
   clear PY hb
   go_wp2_with (go_at_call 46; refine CE.out.mono ?_; rintro r w8 ⟨rfl, hk⟩; have K8 := Hn hk; clear hk CE)
   exact bodyPost_ret (v := .tuple #[.pointer none, .int .i64 204]) (by simp [results, Tryz.results14, go_sem]) rfl (.inr ⟨PZ.out, rfl, BL.out.trans (K8.out.below GL.out.1 BL.out.size)⟩)
 ·have CE := rb_end rb
  have e0 : Tr.en b e = e := by unfold Tr.en; rw [if_neg (fun h => he h.1)]
  rw [e0] at CE
  replace CE := Hn CE
  have n0 : (e != 0) = true := by simpa using he
  have PZ := Hn p1
  have BL := Hn bl
  clear p1 rb bl HR he e0
  go_wp2_with (go_at_call 46; refine CE.out.mono ?_; rintro r w8 ⟨rfl, hk⟩; have K8 := Hn hk; clear hk CE)
  exact bodyPost_ret (v := .tuple #[.pointer none, .int .i64 204]) (by simp [results, Tryz.results14, go_sem]) rfl (.inr ⟨PZ.out, rfl, BL.out.trans (K8.out.below GL.out.1 BL.out.size)⟩)
end Ci
end Go.Proofs.YthngomhhafoamaaGreatDoor
namespace Go.Proofs.YthngomhhafoamaaGreatDoor
open Go.RowKit
open Cm (Wr Tm co bf Ls lf ins Eqm)
namespace Ci
theorem ls_len3 {X : List Tm} {m K : Nat} (hL : Ls Sm.L X) (hw : ∀ x ∈ X, hs m K x.1 = true) (hK : K ≤ 1024) (hm : m ≤ 16) : X.length ≤ 3089 := by
 have key : ∀ x ∈ X, (x.1.1 = 1 ∧ x.1.2 = 0) ∨ ((x.1.1 = 2 ∨ x.1.1 = 3 ∨ x.1.1 = 4) ∧ 0 ≤ x.1.2 ∧ x.1.2 < 1024) ∨ (x.1.1 = 5 ∧ 0 ≤ x.1.2 ∧ x.1.2 < 16) := fun x hx => by
  have h := hw x hx
  unfold hs at h
  simp only [Bool.and_eq_true, decide_eq_true_eq] at h
  obtain ⟨h1, h2, h3, h4⟩ := h
  have : x.1.1 = 1 ∨ x.1.1 = 2 ∨ x.1.1 = 3 ∨ x.1.1 = 4 ∨ x.1.1 = 5 := by omega
  rcases this with e | e | e | e | e <;> rw [e] at h4 <;> simp [ct] at h4 <;> omega
 have h := up_len (X.map fun x => if x.1.1 = 1 then 0 else 1 + (x.1.1 - 2) * 1024 + x.1.2) 0 3089 (by
  rw [List.pairwise_map]
  refine hL.up.imp_of_mem (fun {x y} hx hy hb => ?_)
  have hx := key x hx
  have hy := key y hy
  rw [Cm.bf_iff] at hb
  split <;> split <;> omega) (fun z hz => by
  obtain ⟨x, hx, rfl⟩ := List.mem_map.1 hz
  have := key x hx
  split <;> omega) (by omega)
 rw [List.length_map] at h
 omega
theorem enl_at {n j : Nat} (h : j < n) : (enl n)[j]? = some (enX (j : Int)) := by
 induction n with
 | zero => omega
 | succ n ih =>
  have e : enl (n + 1) = enl n ++ [enX (n : Int)] := rfl
  rw [e]
  by_cases hj : j < n
  ·rw [List.getElem?_append_left (by rw [enl_len]; exact hj), ih hj]
  ·obtain rfl : j = n := by omega
   rw [List.getElem?_append_right (by rw [enl_len]; exact Nat.le_refl _), enl_len]
   simp
theorem enX_has (j : Int) : ∃ x ∈ enX j, x.1 = (2, j) := by
 apply Classical.byContradiction
 intro hn
 have h0 : co (enX j) (2, j) = 0 := Cm.co_out (fun x hx e => hn ⟨x, hx, e⟩)
 have h1 := Cm.lf_eqm (L := Sm.L) (glL 1 (cst (2, j)) ++ glN 1 (cst (5, j))) (2, j)
 have e1 : glL 1 (cst (2, j)) = [((2, j), (lst 1).n)] := rfl
 have e2 : glN 1 (cst (5, j)) = [((5, j), -(lst 1).n)] := rfl
 have h2 : co (glL 1 (cst (2, j)) ++ glN 1 (cst (5, j))) (2, j) = (lst 1).n := by
  rw [e1, e2]
  simp [co]
 have h3 : co (enX j) (2, j) % Sm.L = (lst 1).n % Sm.L := by
  rw [← h2]
  exact h1
 rw [h0, lst_n] at h3
 revert h3
 decide
theorem okY_of {m K : Nat} {Q : List (List Tm)} (h : Wk m K Q) (hm : m ≤ 16) (hl : ∀ X ∈ Q, Ls Sm.L X) : okY m K Q := by
 refine ⟨hm, h.k, h.q, fun X hX => ⟨ls_len3 (hl X hX) (h.wr X hX) h.k hm, hl X hX, h.wr X hX⟩, ?_⟩
 obtain ⟨R, e⟩ := h.pf
 rw [e, List.take_left' (enl_len m)]
theorem wk_of {m K : Nat} {Q : List (List Tm)} (h : okY m K Q) : Wk m K Q := by
 obtain ⟨hm, hK, hq, ho, he⟩ := h
 refine ⟨fun X hX x hx => (ho X hX).2.2 x hx, fun X hX => by have := (ho X hX).1; omega, hq, hK, ⟨Q.drop m, by rw [← he, List.take_append_drop]⟩, ?_⟩
 by_cases h0 : m = 0
 ·omega
 ·have ha := enl_at (n := m) (j := m - 1) (by omega)
  rw [← he, List.getElem?_take] at ha
  rw [if_pos (by omega)] at ha
  obtain ⟨x, hx, e⟩ := enX_has ((m - 1 : Nat) : Int)
  have hh := (ho _ (List.mem_of_getElem? ha)).2.2 x hx
  rw [e] at hh
  unfold hs at hh
  simp only [Bool.and_eq_true, decide_eq_true_eq] at hh
  have := hh.2.2.2
  simp [ct] at this
  omega
theorem enB_inj {m K m' K' : Nat} {Q Q' : List (List Tm)} (h : okY m K Q) (h' : okY m' K' Q') (e : enB m K Q = enB m' K' Q') : m = m' ∧ K = K' ∧ Q = Q' := by
 have h1 := pY_all h
 rw [e, pY_all h'] at h1
 simp only [Option.some.injEq, Prod.mk.injEq] at h1
 exact ⟨h1.1.symm, h1.2.1.symm, h1.2.2.symm⟩
end Ci
end Go.Proofs.YthngomhhafoamaaGreatDoor
namespace Go.Proofs.YthngomhhafoamaaGreatDoor
open Go.RowKit
open Cm (Wr Tm co bf Ls lf ins Eqm)
open Tr (By)
namespace Ci
theorem wp_conv {w : World} {o : Oper} {a : Act} {K : Act → World → Prop} {Q : Exit → Act → World → Prop} (x : Operand) (ho : o.op = .convert 44 9 x) {P : Option Addr} {c : Nat} {bs : List UInt8} (hx : a.eval x = .slice P bs.length c) (hB : By w P c bs) (h : K (a.put o.dst (.string (Tr.sb bs))) w) : o.wp Tryz.prog a w K Q := by
 have hr := Tr.by_conv hB
 unfold Oper.wp execOp
 simp only [ho, hx, hr, Sem.run_bind, Sem.run_pure, Result.andThen_ok]
 exact h
end Ci
end Go.Proofs.YthngomhhafoamaaGreatDoor
