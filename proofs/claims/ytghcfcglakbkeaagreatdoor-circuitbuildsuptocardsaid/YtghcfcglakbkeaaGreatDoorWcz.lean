import Derived.Test.YtghcfcglakbkeaaGreatDoorCjb
import Derived.Laws.Small
import Derived.ScopeJumps
import Derived.WalkMore
import Derived.Laws.Tables
namespace Go.Proofs.YtghcfcglakbkeaaGreatDoor.Tr
open Go.RowKit
theorem rhigh (m : Nat) : (m : Int) % 128 + 128 = ((UInt8.ofNat (m % 128 + 128)).toNat : Int) := by
 rw [UInt8.toNat_ofNat']
 omega
set_option maxRecDepth 100000 in
set_option maxHeartbeats 8000000 in
theorem rNum_any (n : Nat) (w : World) (hn : n < 2 ^ 64) :
  Calls Tryz.prog 59 #[.int .u64 (n : Int)] w fun e w' => ∃ v, e = .returned v ∧ w'.ownsRow w.heap.size 5 1 v (vn n).length (cb (vn n)) ∧ Below w.heap.size w w' := by
 have HN := Hn hn
 have HO : Hid (w.ownsRow w.heap.size 5 1 (.slice none 0 0) ([] : List UInt8).length (cb [])) := Hn (World.ownsRow_nil w w.heap.size 5 1)
 have HB := Hn (Below.refl w.heap.size w)
 clear hn
 go_enter Tryz.func59, Tryz.ntmps59
 go_wp2_with fail
 go_loopw [3, 0] (fun vv mv w' => ∃ (k m : Nat) (D : List UInt8), k ≤ 9 ∧ mv = .int .u64 (m : Int) ∧ Hid (D.length = k ∧ vn n = D ++ vf (9 - k) m ∧ m < 2 ^ (64 - 7 * k)) ∧ Hid (w'.ownsRow w.heap.size 5 1 vv D.length (cb D)) ∧ Hid (Below w.heap.size w w')) (fun _ m _ => (intOf m).toNat)
 case atStart => exact ⟨0, n, [], by omega, rfl, Hn ⟨rfl, rfl, by simpa using HN.out⟩, HO, HB⟩
 case round =>
  clear HO HB
  obtain ⟨k, m, D, hk, rfl, hM, HO, HB⟩ := hrel
  by_cases hm : m < 128
  ·obtain ⟨y, rfl⟩ : ∃ y : UInt8, m = y.toNat := ⟨UInt8.ofNat m, by rw [UInt8.toNat_ofNat']; omega⟩
   have k0 : ¬ (128 : Int) ≤ (y.toNat : Int) := by omega
   have HE : Hid (vn n = D ++ [y]) := Hn (by rw [hM.out.2.1, vf_small _ _ hm, ofNat_toNat])
   have HD : Hid (D.length ≤ 9) := Hn (by have := hM.out.1; omega)
   clear hM
   go_wp2_with (first | (at_builtin; refine wpList_app_by rfl _ _ rfl w.heap.size _ D [y] (some ⟨wr.heap.size, 0, none⟩) 1 rfl rfl (own_stay HO.out (bl_alloc wr _)) (by_list wr [y] 1) (by have := HD.out; simp only [List.length_cons, List.length_nil]; omega) (by have := HB.out.size; simp; omega) ?_; intro v1 w1 ho1 hg1; have HO1 := Hn ho1; have HB1 := Hn (below_trans (bl_trans HB.out (bl_alloc wr _)) (below_grown hg1 (by have := HB.out.size; simp; omega) (fun j hj => (HO.out.lt j hj).1))); clear ho1 hg1))
   refine bodyPost_ret (v := v1) (by simp [results, Tryz.results59, go_sem]) rfl ⟨_, rfl, by rw [HE.out]; exact HO1.out, HB1.out⟩
  ·have k0 : (128 : Int) ≤ (m : Int) := by omega
   have hk9 : k < 9 := by
    have := hM.out.2.2
    by_cases e : k = 9
    ·subst e; simp at this; omega
    ·omega
   have hi := rhigh m
   have HE : Hid (vn n = D ++ [UInt8.ofNat (m % 128 + 128)] ++ vf (9 - (k + 1)) (m / 128)) := Hn (by rw [hM.out.2.1, show 9 - k = (9 - (k + 1)) + 1 by omega, vf_big _ _ hm]; simp)
   have HD : Hid (D.length = k ∧ m / 128 < 2 ^ (64 - 7 * (k + 1))) := Hn (by
    have h64 : 2 ^ (64 - 7 * k) = 128 * 2 ^ (64 - 7 * (k + 1)) := by
     rw [show 64 - 7 * k = 7 + (64 - 7 * (k + 1)) by omega, Nat.pow_add]
    have := hM.out.2.2
    exact ⟨hM.out.1, by omega⟩)
   generalize UInt8.ofNat (m % 128 + 128) = y at hi HE
   have hm64 : m < 2 ^ 64 := Nat.lt_of_lt_of_le hM.out.2.2 (Nat.pow_le_pow_right (by omega) (by omega))
   have w1 : IntKind.u64.wrap ((m : Int) / 128) = (m : Int) / 128 := by rw [IntKind.wrap_u64]; omega
   have z0 : (m : Int) % 128 % 256 = (m : Int) % 128 := by omega
   have z1 : (y.toNat : Int) % 256 = (y.toNat : Int) := by have := y.toNat_lt; omega
   clear hM hm64
   go_wp2_with (first | (at_builtin; refine wpList_app_by rfl _ _ rfl w.heap.size _ D [y] (some ⟨wr.heap.size, 0, none⟩) 1 rfl rfl (own_stay HO.out (bl_alloc wr _)) (by_list wr [y] 1) (by have := HD.out.1; simp only [List.length_cons, List.length_nil]; omega) (by have := HB.out.size; simp; omega) ?_; intro v1 w1 ho1 hg1; have HO1 := Hn ho1; have HB1 := Hn (below_trans (bl_trans HB.out (bl_alloc wr _)) (below_grown hg1 (by have := HB.out.size; simp; omega) (fun j hj => (HO.out.lt j hj).1))); clear ho1 hg1))
   go_roundw
   case rel => exact ⟨k + 1, m / 128, D ++ [y], by omega, by go_num, Hn ⟨by have := HD.out.1; simp; omega, HE.out, HD.out.2⟩, HO1, HB1⟩
   case measure => simp [intOf]; omega
end Go.Proofs.YtghcfcglakbkeaaGreatDoor.Tr
namespace Go.Proofs.YtghcfcglakbkeaaGreatDoor
open Go.RowKit
set_option linter.unusedVariables false
set_option linter.unusedSimpArgs false
open Cm (Wr Tm co bf Ls lf ins Eqm)
open Tr (vn vn_len)
namespace Ci
set_option maxRecDepth 100000
set_option maxHeartbeats 4000000
def okX (m K : Nat) (X : List Tm) : Prop := X.length ≤ 3089 ∧ Ls Sm.L X ∧ ∀ x ∈ X, hs m K x.1 = true
def okY (m K : Nat) (Q : List (List Tm)) : Prop := m ≤ 16 ∧ K ≤ 1024 ∧ Q.length ≤ 4096 ∧ (∀ X ∈ Q, okX m K X) ∧ Q.take m = enl m
end Ci
end Go.Proofs.YtghcfcglakbkeaaGreatDoor
namespace Go.Proofs.YtghcfcglakbkeaaGreatDoor
open Go.RowKit
set_option linter.unusedVariables false
set_option linter.unusedSimpArgs false
open Cm (Wr Tm co bf Ls lf ins Eqm)
namespace Ci
set_option maxRecDepth 100000
set_option maxHeartbeats 4000000
theorem foldl_mem {L : Int} : ∀ (Y X : List Tm) (z : Tm), z ∈ Y.foldl (ins L) X → (∃ x ∈ Y, z.1 = x.1) ∨ z ∈ X
 | [], X, z, h => .inr h
 | y :: Y, X, z, h => by
  rcases foldl_mem Y (ins L X y) z h with ⟨x, hx, e⟩ | h
  ·exact .inl ⟨x, by simp [hx], e⟩
  ·rcases Cm.ins_mem h with e | h
   ·exact .inl ⟨y, by simp, e⟩
   ·exact .inr h
theorem lf_mem {L : Int} {X : List Tm} {z : Tm} (h : z ∈ lf L X) : ∃ x ∈ X, z.1 = x.1 := by
 rcases foldl_mem X [] z h with h | h
 ·exact h
 ·simp at h
end Ci
end Go.Proofs.YtghcfcglakbkeaaGreatDoor
namespace Go.Proofs.YtghcfcglakbkeaaGreatDoor
open Go.RowKit
set_option linter.unusedVariables false
set_option linter.unusedSimpArgs false
namespace Ci
set_option maxRecDepth 100000
set_option maxHeartbeats 16000000
def en16o : Array Oper := #[{ dst := some 55, op := Op.fieldAddr 123 (Operand.tmp 9) 1, type := 0, pos := "bytes.go:31", after := #[], guard := none },
 { dst := some 56, op := Op.load 41 (Operand.tmp 55), type := 41, pos := "bytes.go:31", after := #[DD 0], guard := none },
 { dst := some 57, op := Op.call { callee := Callee.value (Operand.func 76), args := #[Operand.tmp 56], argTypes := #[41] }, type := 127, pos := "bytes.go:31", after := #[DD 1], guard := none },
 { dst := some 10, op := Op.alloc 127, type := 0, pos := "bytes.go:31", after := #[], guard := none },
 { dst := none, op := Op.store 127 (Operand.tmp 10) (Operand.tmp 57), type := 0, pos := "bytes.go:31", after := #[DD 3, DD 2, CH 2, PH 0, PH 1, PH 2, PH 3], guard := none }]
theorem i32 : (Tryz.prog.info? 127).map (·.size) = some 32 := by kernel_rfl
theorem th32 (w : World) : (w.alloc (.cells #[.int .u8 0, .int .u8 0, .int .u8 0, .int .u8 0, .int .u8 0, .int .u8 0, .int .u8 0, .int .u8 0, .int .u8 0, .int .u8 0, .int .u8 0, .int .u8 0, .int .u8 0, .int .u8 0, .int .u8 0, .int .u8 0, .int .u8 0, .int .u8 0, .int .u8 0, .int .u8 0, .int .u8 0, .int .u8 0, .int .u8 0, .int .u8 0, .int .u8 0, .int .u8 0, .int .u8 0, .int .u8 0, .int .u8 0, .int .u8 0, .int .u8 0, .int .u8 0] 127)).there w.heap.size 0 32 := there_newM w [.int .u8 0, .int .u8 0, .int .u8 0, .int .u8 0, .int .u8 0, .int .u8 0, .int .u8 0, .int .u8 0, .int .u8 0, .int .u8 0, .int .u8 0, .int .u8 0, .int .u8 0, .int .u8 0, .int .u8 0, .int .u8 0, .int .u8 0, .int .u8 0, .int .u8 0, .int .u8 0, .int .u8 0, .int .u8 0, .int .u8 0, .int .u8 0, .int .u8 0, .int .u8 0, .int .u8 0, .int .u8 0, .int .u8 0, .int .u8 0, .int .u8 0, .int .u8 0] 127
theorem en16 (Q : Exit → Act → World → Prop) (tb : Nat) (p : E4) (cs : List Value) (u0 u1 u2 u3 u4 u5 u6 u7 u8 aa ab ad ae af ag ah ai aj ak al am an ao ap aq au av aw ax ay az aA aB aC aD aE aF aG aH aI aJ aK aL aM aN aO aP aQ aR aS aT aU aV aW aX aY aZ a0 a1 a2 a3 a4 a5 a6 a7 a8 a9 ba bb bc bd : Value) (W : World) (t2 : W.cell? ⟨tb, 2, none⟩ = some (.int .u64 p.x0)) (t3 : W.cell? ⟨tb, 3, none⟩ = some (.int .u64 p.x1)) (t4 : W.cell? ⟨tb, 4, none⟩ = some (.int .u64 p.x2)) (t5 : W.cell? ⟨tb, 5, none⟩ = some (.int .u64 p.x3)) (hl : cs.length = 32) (h1 : cs.toArray.all (·.oneCell') = true)
  (C : Hid (Calls Tryz.prog 76 #[.agg #[.int .u64 p.x0, .int .u64 p.x1, .int .u64 p.x2, .int .u64 p.x3]] W fun e w' => e = .returned (.agg cs.toArray) ∧ Below W.heap.size W w'))
  (HQ : Hid (∀ (wz : World) (kb : Nat) (v57 : Value), Below W.heap.size W wz → W.heap.size ≤ kb → wz.rangeAt kb 0 cs → Q .normal ⟨#[u0, u1, u2, u3, u4, u5, u6, u7, u8, .pointer (some ⟨tb, 0, none⟩), .pointer (some ⟨kb, 0, none⟩), ab, ad, ae, af, ag, ah, ai, aj, ak, al, am, an, ao, ap, aq, au, av, aw, ax, ay, az, aA, aB, aC, aD, aE, aF, aG, aH, aI, aJ, aK, aL, aM, aN, aO, aP, aQ, aR, aS, aT, aU, aV, aW, .pointer (some ⟨tb, 2, none⟩), .agg #[.int .u64 p.x0, .int .u64 p.x1, .int .u64 p.x2, .int .u64 p.x3], v57, a0, a1, a2, a3, a4, a5, a6, a7, a8, a9, ba, bb, bc, bd], []⟩ wz)) : (Code.region 16 en16o false).wp Tryz.prog Q ⟨#[u0, u1, u2, u3, u4, u5, u6, u7, u8, .pointer (some ⟨tb, 0, none⟩), aa, ab, ad, ae, af, ag, ah, ai, aj, ak, al, am, an, ao, ap, aq, au, av, aw, ax, ay, az, aA, aB, aC, aD, aE, aF, aG, aH, aI, aJ, aK, aL, aM, aN, aO, aP, aQ, aR, aS, aT, aU, aV, aW, aX, aY, aZ, a0, a1, a2, a3, a4, a5, a6, a7, a8, a9, ba, bb, bc, bd], []⟩ W := by
 have HI : Hid ((Tryz.prog.info? 127).map (·.size) = some cs.toArray.size) := Hn (by rw [List.size_toArray, hl]; exact i32)
 have OS := Hn h1
 have HL := Hn hl
 clear hl h1
 unfold en16o
 go_wp2_with (first | (go_at_call 76; go_loud (refine C.out.mono ?_; rintro e w6 ⟨rfl, hb6⟩; have B6 := Hn hb6; have TH := Hn (th32 w6); rw [← HL.out, ← List.size_toArray] at TH; clear hb6 C)) | refine wpList_store_mid rfl 127 _ _ rfl w6.heap.size 0 cs.toArray (by rfl) (by rfl) TH.out HI.out OS.out ?_)
 have BA := bl_trans B6.out (bl_alloc w6 (.cells #[.int .u8 0, .int .u8 0, .int .u8 0, .int .u8 0, .int .u8 0, .int .u8 0, .int .u8 0, .int .u8 0, .int .u8 0, .int .u8 0, .int .u8 0, .int .u8 0, .int .u8 0, .int .u8 0, .int .u8 0, .int .u8 0, .int .u8 0, .int .u8 0, .int .u8 0, .int .u8 0, .int .u8 0, .int .u8 0, .int .u8 0, .int .u8 0, .int .u8 0, .int .u8 0, .int .u8 0, .int .u8 0, .int .u8 0, .int .u8 0, .int .u8 0, .int .u8 0] 127))
 refine HQ.out _ _ _ (BA.grown (gb_setCells w6.heap.size cs 0 _) BA.size (fun k hk => by have := Option.some.inj hk; have := B6.out.size; omega)) B6.out.size (World.rangeAt_setCells_same _ w6.heap.size 0 cs (by have := th32 w6; rw [← HL.out] at this; exact this))
end Ci
end Go.Proofs.YtghcfcglakbkeaaGreatDoor
namespace Go.Proofs.YtghcfcglakbkeaaGreatDoor
set_option maxRecDepth 100000
set_option maxHeartbeats 32000000
open Go.RowKit
set_option linter.unusedVariables false
set_option linter.unusedSimpArgs false
open Cm (Wr Tm co bf Ls lf ins Eqm)
open Tr (cb By vn cb_len cb_app cb_one vn_len appNum_any)
namespace Ci
def hd3 (m Kg q i : Nat) : List UInt8 := ([m, Kg, q].take i).flatMap vn
theorem hd3_succ {m Kg q i n : Nat} (h : [m, Kg, q][i]? = some n) : hd3 m Kg q (i + 1) = hd3 m Kg q i ++ vn n := by
 unfold hd3
 rw [List.take_add_one, h, List.flatMap_append]
 simp
theorem hd3_len (m Kg q i : Nat) : (hd3 m Kg q i).length ≤ 30 := by
 have := flatm_len vn 10 ([m, Kg, q].take i) (fun x _ => (vn_len x).2)
 have h2 : ([m, Kg, q].take i).length ≤ 3 := by rw [List.length_take]; simp; omega
 unfold hd3
 have := Nat.mul_le_mul_right 10 h2
 omega
def pre (m Kg : Nat) (Q : List (List Tm)) (i : Nat) : List UInt8 := vn m ++ vn Kg ++ vn Q.length ++ (Q.take i).flatMap xsB
def prx (m Kg : Nat) (Q : List (List Tm)) (i : Nat) (X : List Tm) (j : Nat) : List UInt8 := pre m Kg Q i ++ vn X.length ++ (X.take j).flatMap tmB
theorem take_flat {α : Type} (f : α → List UInt8) {l : List α} {i : Nat} {x : α} (h : l[i]? = some x) : (l.take (i + 1)).flatMap f = (l.take i).flatMap f ++ f x := by
 rw [List.take_add_one, h, List.flatMap_append]
 simp
theorem pre_succ {m Kg : Nat} {Q : List (List Tm)} {i : Nat} {X : List Tm} (h : Q[i]? = some X) : prx m Kg Q i X X.length = pre m Kg Q (i + 1) := by
 unfold prx pre
 rw [take_flat xsB h, List.take_length]
 unfold xsB
 simp only [List.append_assoc]
theorem prx_succ {m Kg : Nat} {Q : List (List Tm)} {i j : Nat} {X : List Tm} {x : Tm} (h : X[j]? = some x) : prx m Kg Q i X (j + 1) = prx m Kg Q i X j ++ vn x.1.1.toNat ++ vn x.1.2.toNat ++ kb32 ((lst x.2).n % Sm.L) := by
 unfold prx
 rw [take_flat tmB h]
 unfold tmB
 simp only [List.append_assoc]
theorem pre_len {m Kg : Nat} {Q : List (List Tm)} {i : Nat} (hq : Q.length ≤ 4096) (hx : ∀ X ∈ Q, X.length ≤ 6150) : (pre m Kg Q i).length ≤ 30 + 4096 * 319810 := by
 have h1 := vn_len m
 have h2 := vn_len Kg
 have h3 := vn_len Q.length
 have h4 := flatm_len xsB 319810 (Q.take i) (fun X hX => by
  have := xsB_len X
  have := hx X (List.mem_of_mem_take hX)
  omega)
 have h5 : (Q.take i).length ≤ 4096 := by rw [List.length_take]; omega
 have h6 := Nat.mul_le_mul_right 319810 h5
 unfold pre
 rw [List.length_append, List.length_append, List.length_append]
 omega
theorem prx_len {m Kg : Nat} {Q : List (List Tm)} {i j : Nat} {X : List Tm} (hq : Q.length ≤ 4096) (hx : ∀ X ∈ Q, X.length ≤ 6150) (hX : X ∈ Q) : (prx m Kg Q i X j).length ≤ 40 + 4097 * 319810 := by
 have h1 := pre_len (m := m) (Kg := Kg) (i := i) hq hx
 have h3 := vn_len X.length
 have h4 := flatm_len tmB 52 (X.take j) (fun x _ => tmB_len x)
 have h5 : (X.take j).length ≤ 6150 := by have := hx X hX; rw [List.length_take]; omega
 have h6 := Nat.mul_le_mul_right 52 h5
 unfold prx
 rw [List.length_append, List.length_append]
 omega
theorem enc_bd {m K kk ii : Nat} {q : Wr} (h : hs m K q = true) (hk : q.1 = (kk : Int)) (hi : q.2 = (ii : Int)) (hK : K ≤ 1024) (hm : m ≤ 1024) : kk < 6 ∧ ii < 4096 := by
 unfold hs at h
 simp only [Bool.and_eq_true, decide_eq_true_eq] at h
 obtain ⟨h1, h2, h3, h4⟩ := h
 have : ct m K q.1.toNat ≤ 1024 := by
  unfold ct
  split <;> omega
 omega
theorem gv_bel {b : Nat} {x y : World} {v v' : Value} (h : Gv x y v v') (hb : b ≤ x.heap.size) (lo : ∀ k, v.ownBlock = some k → b ≤ k) : Below b x y := ⟨h.g.os, h.g.tape, h.g.output, h.g.size, fun i hi => h.g.block i (by omega) (fun e => by have := lo i e.symm; omega)⟩
theorem SysEncode_any {base : Nat} {w : World} {s m Kg : Nat} {vv : Value} {vs : List Value} {Q : List (List Tm)} (h : Sy base w s m Kg vv vs Q) (hW : Wk m Kg Q) (hT : Tb w) (hm : m ≤ 1024) :
  Calls Tryz.prog 33 #[.pointer (some ⟨s, 0, none⟩)] w fun e w' => ∃ v, e = .returned v ∧ w'.ownsRow w.heap.size 5 1 v (enB m Kg Q).length (cb (enB m Kg Q)) ∧ Below w.heap.size w w' := by
 have C0 := Hn (none_any h)
 have HH := Hn h
 have HW := Hn hW
 have HT := Hn hT
 have LN : Hid (∀ X ∈ Q, X.length ≤ 6150) := Hn (fun X hX => ls_len (h.sm X hX) (hW.wr X hX) hW.k hm)
 obtain ⟨PQ, cQ, rfl, _, hG⟩ := h.shape
 have HG := Hn hG
 have c0 := h.c0
 have c1 := h.c1
 have c2 := h.c2
 have HM := Hn hm
 clear h hW hT hm hG
 go_enter Tryz.func33, Tryz.ntmps33
 go_upto_region 3 with (go_at_call 44; refine C0.out.mono ?_; rintro e w1 ⟨rfl, rfl⟩)
 go_upto_region 4 with fail
 refine en4 _ s m Kg Q.length cQ PQ _ _ _ _ _ _ _ _ _ _ _ _ _ _ _ _ _ _ _ _ _ _ _ _ _ _ _ _ _ _ _ _ _ _ _ _ _ _ _ _ _ _ _ _ _ _ _ _ _ _ _ _ _ _ _ _ _ _ _ _ _ _ _ _ _ _ _ _ _ _ _ w1 c0 c1 c2 (Hn ?_)
 intro w2 tb hb2 hr2
 have B2 := Hn hb2
 have R2 := Hn hr2
 have tbl : Hid (tb < w2.heap.size) := Hn (World.block_lt_of_cell? w2 _ (hr2 0 _ rfl))
 clear c0 c1 hb2 hr2 C0
 go_upto_region 5 with fail
 go_loopw [3, 28] (fun bv iv x => ∃ i : Nat, i ≤ 3 ∧ iv = .int .i64 (i : Int) ∧ Hid (x.ownsRow w1.heap.size 5 1 bv (hd3 m Kg Q.length i).length (cb (hd3 m Kg Q.length i)) ∧ Below w1.heap.size w1 x ∧ x.rangeAt tb 0 [.int .i64 (m : Int), .int .i64 (Kg : Int), .int .i64 (Q.length : Int)] ∧ (∀ k, bv.ownBlock = some k → tb < k) ∧ tb < x.heap.size)) (fun _ i _ => 3 - (intOf i).toNat)
 case atStart => exact ⟨0, by omega, rfl, Hn ⟨World.ownsRow_nil _ _ _ _, B2.out, R2.out, (fun k hk => by cases hk), tbl.out⟩⟩
 case round =>
  clear R2 B2 tbl
  obtain ⟨i, hi, rfl, hS⟩ := hrel
  by_cases hin : i < 3
  ·have i1 : (i : Int) < 3 := by omega
   have i0 : (0 : Int) ≤ (i : Int) := by omega
   have w9 : IntKind.i64.wrap ((i : Int) + 1) = (i : Int) + 1 := IntWalk.i64_in _ (by omega)
   obtain ⟨n, hn⟩ : ∃ n, [m, Kg, Q.length][i]? = some n := ⟨[m, Kg, Q.length][i]'(by simp; omega), by simp [hin]⟩
   have nc : wr.cell? ⟨tb, i, none⟩ = some (.int .i64 (n : Int)) := by
    match i, hin, hn with
    | 0, _, hn => obtain rfl := Option.some.inj hn; exact hS.out.2.2.1 0 _ rfl
    | 1, _, hn => obtain rfl := Option.some.inj hn; exact hS.out.2.2.1 1 _ rfl
    | 2, _, hn => obtain rfl := Option.some.inj hn; exact hS.out.2.2.1 2 _ rfl
   have nle : n < 4611686018427387904 := by
    have := HM.out
    have := HW.out.k
    have := HW.out.q
    match i, hin, hn with
    | 0, _, hn => obtain rfl := Option.some.inj hn; omega
    | 1, _, hn => obtain rfl := Option.some.inj hn; omega
    | 2, _, hn => obtain rfl := Option.some.inj hn; omega
   have CP := Hn (apn_any w1.heap.size u3 (hd3 m Kg Q.length i) n wr hS.out.1 hS.out.2.1.size (by have := hd3_len m Kg Q.length i; omega) nle)
   have HN := Hn hn
   clear hn nle
   go_upto_region 8 with (go_at_call 75; refine CP.out.mono ?_; rintro e w3 ⟨v3, rfl, ho3, hg3⟩; have O3 := Hn ho3; have G3 := Hn hg3; clear ho3 hg3 CP)
   have NS : Hid (w3.ownsRow w1.heap.size 5 1 v3 (hd3 m Kg Q.length (i + 1)).length (cb (hd3 m Kg Q.length (i + 1))) ∧ Below w1.heap.size w1 w3 ∧ w3.rangeAt tb 0 [.int .i64 (m : Int), .int .i64 (Kg : Int), .int .i64 (Q.length : Int)] ∧ (∀ k, v3.ownBlock = some k → tb < k) ∧ tb < w3.heap.size) := Hn (by
    have hs := hS.out
    refine ⟨by rw [hd3_succ HN.out]; exact O3.out, Below.trans hs.2.1 (gv_bel G3.out hs.2.1.size (fun k hk => (hs.1.lt k hk).1)), fun j u hu => G3.out.g.cell (hs.2.2.1 j u hu) (fun e => by have := hs.2.2.2.1 tb e.symm; omega), fun k hk => ?_, Nat.lt_of_lt_of_le hs.2.2.2.2 G3.out.g.size⟩
    rcases G3.out.o k hk with h1 | h1
    ·exact hs.2.2.2.1 k h1
    ·have := hs.2.2.2.2; omega)
   clear hS O3 G3 nc HN
   go_wp2_with fail
   go_roundw
   case rel => exact ⟨i + 1, by omega, by go_num, NS⟩
   case measure => simp [intOf]; omega
  ·obtain rfl : i = 3 := by omega
   have lq : ¬ (3 : Int) < 3 := by omega
   have S3 : Hid (wr.ownsRow w1.heap.size 5 1 u3 (pre m Kg Q 0).length (cb (pre m Kg Q 0)) ∧ Below w1.heap.size w1 wr) := Hn ⟨by
    have := hS.out.1
    have e : hd3 m Kg Q.length 3 = pre m Kg Q 0 := by unfold hd3 pre; simp
    rwa [e] at this, hS.out.2.1⟩
   have cc2 := cell_keep c2 hS.out.2.1
   clear hS
   go_upto_region 10 with fail
   clear cc2
   have qn : Hid (Q.length ≤ 4096) := Hn HW.out.q
   go_loopw [3, 41] (fun bv iv x => ∃ i : Nat, i ≤ Q.length ∧ iv = .int .i64 (i : Int) ∧ Hid (x.ownsRow w1.heap.size 5 1 bv (pre m Kg Q i).length (cb (pre m Kg Q i)) ∧ Below w1.heap.size w1 x)) (fun _ i _ => Q.length - (intOf i).toNat)
   case atStart => exact ⟨0, by omega, rfl, S3⟩
   case round =>
    clear S3
    obtain ⟨i, hi, rfl, hS⟩ := hrel
    by_cases hin : i < Q.length
    ·have i1 : (i : Int) < (Q.length : Int) := by omega
     have i0 : (0 : Int) ≤ (i : Int) := by omega
     have w9 : IntKind.i64.wrap ((i : Int) + 1) = (i : Int) + 1 := IntWalk.i64_in _ (by have := qn.out; omega)
     obtain ⟨G, rfl⟩ := HG.out (by omega)
     obtain ⟨X, hX⟩ : ∃ X, Q[i]? = some X := ⟨Q[i], by simp [hin]⟩
     obtain ⟨u, hu, hown⟩ := HH.out.ls i X hX
     obtain ⟨PX, cX, rfl, _⟩ := own_shT hown
     have cc := HH.out.row.cells (g := G) rfl i _ hu
     rw [Addr.add_mid, Nat.zero_add] at cc
     have gc := cell_keep cc hS.out.2
     have LX := Hn (own_lts hown)
     have mX := Hn (List.mem_of_getElem? hX)
     have HX := Hn hX
     have CP := Hn (apn_any w1.heap.size u3 (pre m Kg Q i) X.length wr hS.out.1 hS.out.2.size (by have := pre_len (m := m) (Kg := Kg) (i := i) qn.out LN.out; omega) (by have := LN.out X mX.out; omega))
     clear cc hown hu hX
     go_upto_region 13 with (go_at_call 75; refine CP.out.mono ?_; rintro e w3 ⟨v3, rfl, ho3, hg3⟩; have O3 := Hn ho3; have G3 := Hn hg3; clear ho3 hg3 CP)
     have S4 : Hid (w3.ownsRow w1.heap.size 5 1 v3 (prx m Kg Q i X 0).length (cb (prx m Kg Q i X 0)) ∧ Below w1.heap.size w1 w3) := Hn ⟨by
      have e : prx m Kg Q i X 0 = pre m Kg Q i ++ vn X.length := by unfold prx; simp
      rw [e]; exact O3.out, Below.trans hS.out.2 (gv_bel G3.out hS.out.2.size (fun k hk => (hS.out.1.lt k hk).1))⟩
     clear hS O3 G3 gc
     go_upto_region 14 with fail
     have xn : Hid (X.length ≤ 6150) := Hn (LN.out X mX.out)
     go_loopw [3, 51] (fun bv iv x => ∃ j : Nat, j ≤ X.length ∧ iv = .int .i64 (j : Int) ∧ Hid (x.ownsRow w1.heap.size 5 1 bv (prx m Kg Q i X j).length (cb (prx m Kg Q i X j)) ∧ Below w1.heap.size w1 x)) (fun _ j _ => X.length - (intOf j).toNat)
     case atStart => exact ⟨0, by omega, rfl, S4⟩
     case round =>
      clear S4
      obtain ⟨j, hj, rfl, hS⟩ := hrel
      by_cases hjn : j < X.length
      ·have j1 : (j : Int) < (X.length : Int) := by omega
       have j0 : (0 : Int) ≤ (j : Int) := by omega
       have w9j : IntKind.i64.wrap ((j : Int) + 1) = (j : Int) + 1 := IntWalk.i64_in _ (by have := xn.out; omega)
       obtain ⟨xb, xo, hPs, hRt⟩ := LX.out
       obtain rfl := hPs (by omega)
       have rt := (hRt (by omega)).keep hS.out.2
       obtain ⟨x, hx⟩ : ∃ x, X[j]? = some x := ⟨X[j], by simp [hjn]⟩
       have wx := HW.out.wr X mX.out x (List.mem_of_getElem? hx)
       obtain ⟨kk, hkk⟩ : ∃ kk : Nat, x.1.1 = (kk : Int) := ⟨x.1.1.toNat, by unfold hs at wx; simp only [Bool.and_eq_true, decide_eq_true_eq] at wx; omega⟩
       obtain ⟨ii, hii⟩ : ∃ ii : Nat, x.1.2 = (ii : Int) := ⟨x.1.2.toNat, by unfold hs at wx; simp only [Bool.and_eq_true, decide_eq_true_eq] at wx; omega⟩
       have bk : kk < 6 ∧ ii < 4096 := enc_bd wx hkk hii HW.out.k HM.out
       have fx : ft X j = ⟨((kk : Int), (ii : Int)), lst x.2⟩ := by
        unfold ft tmOf
        rw [List.getD_eq_getElem?_getD, hx]
        show (⟨x.1, lst x.2⟩ : Trm) = _
        rw [← hkk, ← hii]
       have a0 := rt.c0 j hjn
       have a1 := rt.c1 j hjn
       have a2 := rt.c2 j hjn
       have a3 := rt.c3 j hjn
       have a4 := rt.c4 j hjn
       have a5 := rt.c5 j hjn
       rw [fx] at a0 a1 a2 a3 a4 a5
       have PX2 := Hn (prx_succ (m := m) (Kg := Kg) (Q := Q) (i := i) hx)
       rw [hkk, hii] at PX2
       have op : (lst x.2).ok := lst_ok _
       clear rt hPs hRt fx wx hkk hii hx
       generalize lst x.2 = p at *
       go_upto_region 16 with fail
       have ba := bl_alloc wr (.cells #[.int .i64 (kk : Int), .int .i64 (ii : Int), .int .u64 p.x0, .int .u64 p.x1, .int .u64 p.x2, .int .u64 p.x3] 123)
       have t0 : (wr.alloc (.cells #[.int .i64 (kk : Int), .int .i64 (ii : Int), .int .u64 p.x0, .int .u64 p.x1, .int .u64 p.x2, .int .u64 p.x3] 123)).cell? ⟨wr.heap.size, 0, none⟩ = some (.int .i64 (kk : Int)) := by go_simp
       have t1 : (wr.alloc (.cells #[.int .i64 (kk : Int), .int .i64 (ii : Int), .int .u64 p.x0, .int .u64 p.x1, .int .u64 p.x2, .int .u64 p.x3] 123)).cell? ⟨wr.heap.size, 1, none⟩ = some (.int .i64 (ii : Int)) := by go_simp
       have t2 : (wr.alloc (.cells #[.int .i64 (kk : Int), .int .i64 (ii : Int), .int .u64 p.x0, .int .u64 p.x1, .int .u64 p.x2, .int .u64 p.x3] 123)).cell? ⟨wr.heap.size, 2, none⟩ = some (.int .u64 p.x0) := by go_simp
       have t3 : (wr.alloc (.cells #[.int .i64 (kk : Int), .int .i64 (ii : Int), .int .u64 p.x0, .int .u64 p.x1, .int .u64 p.x2, .int .u64 p.x3] 123)).cell? ⟨wr.heap.size, 3, none⟩ = some (.int .u64 p.x1) := by go_simp
       have t4 : (wr.alloc (.cells #[.int .i64 (kk : Int), .int .i64 (ii : Int), .int .u64 p.x0, .int .u64 p.x1, .int .u64 p.x2, .int .u64 p.x3] 123)).cell? ⟨wr.heap.size, 4, none⟩ = some (.int .u64 p.x2) := by go_simp
       have t5 : (wr.alloc (.cells #[.int .i64 (kk : Int), .int .i64 (ii : Int), .int .u64 p.x0, .int .u64 p.x1, .int .u64 p.x2, .int .u64 p.x3] 123)).cell? ⟨wr.heap.size, 5, none⟩ = some (.int .u64 p.x3) := by go_simp
       have O5 := Hn (own_keepT hS.out.1 ba)
       have B5 := Hn (bl_trans hS.out.2 ba)
       have ot : ∀ k, u3.ownBlock = some k → k < wr.heap.size := fun k hk => (hS.out.1.lt k hk).2
       clear ba hS a0 a1 a2 a3 a4 a5
       generalize (wr.alloc (.cells #[.int .i64 (kk : Int), .int .i64 (ii : Int), .int .u64 p.x0, .int .u64 p.x1, .int .u64 p.x2, .int .u64 p.x3] 123)) = w5 at *
       generalize wr.heap.size = tb2 at *
       obtain ⟨N, hN⟩ : ∃ N, p.n % Sm.L = N := ⟨_, rfl⟩
       have CE := Encode_any p w5 (HT.out.keep B5.out) op
       rw [hN, ← kb32_cb] at CE
       rw [hN] at PX2
       simp only [E4.v] at CE
       replace CE := Hn CE
       clear hN
       refine en16 _ tb2 p (cb (kb32 N)) _ _ _ _ _ _ _ _ _ _ _ _ _ _ _ _ _ _ _ _ _ _ _ _ _ _ _ _ _ _ _ _ _ _ _ _ _ _ _ _ _ _ _ _ _ _ _ _ _ _ _ _ _ _ _ _ _ _ _ _ _ _ _ _ _ _ _ _ _ _ _ w5 t2 t3 t4 t5 (by rw [cb_len]; rfl) (by rw [List.all_toArray, List.all_eq_true]; exact fun u hu => cb_one _ u hu) CE (Hn ?_)
       intro w7 kb2 v57 hb7 hk7 hr7
       have R7 := Hn hr7
       have b57 := hb7
       have s7 := Hn hk7
       clear CE hr7 hb7 hk7
       have O7 := Hn (own_keepT O5.out b57)
       have B7 := Hn (bl_trans B5.out b57)
       have t0n := cell_keep t0 b57
       have t1n := cell_keep t1 b57
       have tl : Hid (tb2 < w5.heap.size) := Hn (World.block_lt_of_cell? w5 _ t0)
       clear b57 t0 t1 t2 t3 t4 t5 O5 B5
       have skb := s7.out
       have stl := tl.out
       go_upto_region 17 with fail
       refine en17 _ w1.heap.size tb2 kb2 kk ii u3 (prx m Kg Q i X j) N _ _ _ _ _ _ _ _ _ _ _ _ _ _ _ _ _ _ _ _ _ _ _ _ _ _ _ _ _ _ _ _ _ _ _ _ _ _ _ _ _ _ _ _ _ _ _ _ _ _ _ _ _ _ _ _ _ _ _ _ _ _ _ _ _ _ _ _ _ w7 (fun e => by have := ot tb2 e.symm; omega) (fun e => by have := ot kb2 e.symm; omega) B7.out.size (by have := prx_len (m := m) (Kg := Kg) (i := i) (j := j) qn.out LN.out mX.out; omega) (by have := bk.1; omega) (by have := bk.2; omega) O7.out t0n t1n R7.out (Hn ?_)
       intro w8 v1 v2 v8 ho8 hg8
       have NS : Hid (w8.ownsRow w1.heap.size 5 1 v8 (prx m Kg Q i X (j + 1)).length (cb (prx m Kg Q i X (j + 1))) ∧ Below w1.heap.size w1 w8) := Hn ⟨by rw [PX2.out]; exact ho8, Below.trans B7.out (gv_bel hg8 B7.out.size (fun k hk => (O7.out.lt k hk).1))⟩
       clear ho8 hg8 O7 B7 R7 t0n t1n PX2
       go_wp2_with fail
       go_roundw
       case rel => exact ⟨j + 1, by omega, by go_num, NS⟩
       case measure => simp [intOf]; omega
      ·obtain rfl : j = X.length := by omega
       have lqj : ¬ (X.length : Int) < (X.length : Int) := by omega
       have NS : Hid (wr.ownsRow w1.heap.size 5 1 u3 (pre m Kg Q (i + 1)).length (cb (pre m Kg Q (i + 1))) ∧ Below w1.heap.size w1 wr) := Hn ⟨by rw [← pre_succ HX.out]; exact hS.out.1, hS.out.2⟩
       clear hS
       go_wp2_with fail
       go_roundw
       case rel => exact ⟨i + 1, by omega, by go_num, NS⟩
       case measure => simp [intOf]; omega
    ·obtain rfl : i = Q.length := by omega
     have lqi : ¬ (Q.length : Int) < (Q.length : Int) := by omega
     have FN : Hid (wr.ownsRow w1.heap.size 5 1 u3 (enB m Kg Q).length (cb (enB m Kg Q)) ∧ Below w1.heap.size w1 wr) := Hn ⟨by
      have e : pre m Kg Q Q.length = enB m Kg Q := by unfold pre enB; rw [List.take_length]
      rw [← e]; exact hS.out.1, hS.out.2⟩
     clear hS
     go_wp2_with fail
     exact bodyPost_ret (v := u3) (by simp [results, Tryz.results33, go_sem]) rfl ⟨u3, rfl, FN.out.1, FN.out.2⟩
end Ci
end Go.Proofs.YtghcfcglakbkeaaGreatDoor
