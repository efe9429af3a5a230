import Derived.Test.YtaejdgpffipaeaaGreatDoorKw
import Derived.Test.YtaejdgpffipaeaaGreatDoorCkm
import Derived.Test.YtaejdgpffipaeaaGreatDoorCkn
import Derived.Test.YtaejdgpffipaeaaGreatDoorCko
import Derived.Test.YtaejdgpffipaeaaGreatDoorCer
namespace Go.Proofs.YtaejdgpffipaeaaGreatDoor
open Go.RowKit
set_option linter.unusedVariables false
set_option linter.unusedSimpArgs false
open Cm (Wr Tm co bf Ls lf ins Eqm)
open Tr (By)
namespace Ci
set_option maxRecDepth 100000
set_option maxHeartbeats 32000000
theorem by_ofR {x : World} {P : Option Addr} {c : Nat} {l : List UInt8} (h : x.ownsRow 0 5 1 (.slice P l.length c) l.length (Tr.cb l)) : By x P c l := by
 obtain ⟨P', c', e, hB⟩ := Tr.own_by h
 cases e
 exact hB
theorem w3_lie (w5 : World) (a b c d e f : Int) : (((w5.alloc (Obj.cells #[.int .i64 a, .int .i64 b] 39)).alloc (Obj.cells #[.int .i64 c, .int .i64 d] 39)).alloc (Obj.cells #[.int .i64 e, .int .i64 f] 39)).heap[w5.heap.size]? = some (Obj.cells #[.int .i64 a, .int .i64 b] 39 (0, 0)) :=
 (heap_alloc_old _ _ (by simp; omega)).trans ((heap_alloc_old _ _ (by simp)).trans (heap_alloc_new w5 _))
theorem heap_alloc3 {x : World} {A : Nat} {b o p q : Obj} (h : x.heap[A]? = some b) : (((x.alloc o).alloc p).alloc q).heap[A]? = some b := by
 have hl := (Array.getElem?_eq_some_iff.1 h).1
 exact (heap_alloc_old _ _ (by simp; omega)).trans ((heap_alloc_old _ _ (by simp; omega)).trans ((heap_alloc_old _ _ hl).trans h))
theorem wi_lie {x : World} {A : Nat} {a b : Int} (h : x.heap[A]? = some (Obj.cells #[.int .i64 a, .int .i64 b] 39 (0, 0))) : x.cell? ⟨A, 0, none⟩ = some (.int .i64 a) ∧ x.cell? ⟨A, 1, none⟩ = some (.int .i64 b) := by
 refine ⟨?_, ?_⟩
 ·rw [cell_of_row x A 0 _ _ (0, 0) h]; rfl
 ·rw [cell_of_row x A 1 _ _ (0, 0) h]; rfl
theorem eqW (a b : Int) (y : World) : (Op.equalIn 10000 39 (.agg #[.int .i64 a, .int .i64 b]) (.agg #[.int .i64 a, .int .i64 b])).run Tryz.prog y = .ok true y := by
 go_simp
theorem text_any (i : Int) (S : Option Addr) (ns cs : Nat) (sg : Nat → Stp) (Pb : Option Addr) (cb0 : Nat) (bb : List UInt8) (Px : Option Addr) (nx cx : Nat) (f : Nat → Trm) (w : World) (hT : Tb w) (i0 : -9223372036854775808 ≤ i) (i1 : i ≤ 9223372036854775807) (hns : ns ≤ 1048576) (hS : Scl w S ns sg) (hB : By w Pb cb0 bb) (hbl : bb.length ≤ 2 ^ 40) (hn : nx ≤ 2932031007402) (hf : ∀ k, k < nx → (f k).a.ok) (hL : Lt w Px nx f) :
  Calls Tryz.prog 3 #[.int .i64 i, .slice S ns cs, .slice Pb bb.length cb0, .slice Px nx cx] w fun e w' => e = .returned (.bool true) ∧ Below w.heap.size w w' := by
 have HT := hidden hT
 have HB := hidden (And.intro hB hbl)
 have HX := hidden (And.intro hn (And.intro hf hL))
 have LV : Hid (∀ y, Below w.heap.size w y → _) := hidden (fun y hb => live_any y (hT.keep hb))
 have MK : Hid (∀ y, Below w.heap.size w y → _) := hidden (fun y hb => makes_tell i S ns cs sg y (hT.keep hb) i0 i1 hns (hS.keep hb))
 clear hT hS i0 i1 hns hB hbl hn hf hL
 go_enter Tryz.func3, Tryz.ntmps3
 go_upto_region 6 with (first | (have _t := LV; go_at_call 4; refine (LV.out _ (Below.refl _ _)).mono ?_; rintro e w2 ⟨rfl, hb⟩; have B2 := hidden hb; clear hb LV) | (have _t := MK; go_at_call 5; refine (MK.out _ B2.out).mono ?_; rintro e w3 ⟨s, m, K, Q, rfl, hts⟩; have TS := hidden hts.1; have VM := hidden hts.2; clear hts MK))
 have B3 := hidden (bl_trans B2.out TS.out.bl)
 have OC : okY m K Q ∧ Calls Tryz.prog 6 #[.pointer (some ⟨s, 0, none⟩)] w3 fun e w' => ∃ p1 c1, e = .returned (.slice p1 (enB m K Q).length c1) ∧ w'.ownsRow 0 5 1 (.slice p1 (enB m K Q).length c1) (enB m K Q).length (Tr.cb (enB m K Q)) ∧ Below w3.heap.size w3 w' := by
  obtain ⟨b1, v1, vs1, sy, _, _, hwk⟩ := TS.out
  exact ⟨okY_of hwk VM.out sy.sm, encR_any sy hwk (HT.out.keep B3.out) (by have := VM.out; omega)⟩
 have OY := hidden OC.1
 have CE := hidden OC.2
 clear OC
 go_upto_region 7 with (go_at_call 6; refine CE.out.mono ?_; rintro e w4 ⟨p0, c0, rfl, hby, hb4⟩; have U4 := hidden hby; have B4 := hidden hb4; clear hby hb4 CE)
 have T4 := hidden (TS.out.keep B4.out)
 have BW4 := hidden (bl_trans B3.out B4.out)
 clear TS B3 B4
 have CD := hidden (Decode_any p0 c0 (enB m K Q) w4 (HT.out.keep BW4.out) (by_ofR U4.out) (enB_short OY.out))
 go_upto_region 8 with (go_at_call 7; refine CD.out.mono ?_; rintro e w5 hd; rcases hd with ⟨m', K', Q', t, v2, vs2, hp, rfl, hsy, hb5⟩ | ⟨hp, _, _⟩; rotate_left; (rw [pY_all OY.out] at hp; cases hp); have hpe := hp.symm.trans (pY_all OY.out); simp only [Option.some.injEq, Prod.mk.injEq] at hpe; have h1 := hpe.1.symm; have h2 := hpe.2.1.symm; have h3 := hpe.2.2.symm; subst h1; subst h2; subst h3; clear hpe; have TY := hidden (TyU.of (Tw.make T4.out hsy hb5).ty (own_keepT U4.out hb5)); have B5 := hidden hb5; clear hp hsy hb5 CD)
 have BW5 := hidden (bl_trans BW4.out B5.out)
 have TB := hidden (HT.out.keep BW5.out)
 clear T4 U4
 refine lt8 _ s t c0 K m Q.length p0 (enB m K Q) _ _ _ _ _ _ _ _ _ _ _ _ _ _ _ _ _ _ _ _ _ _ _ _ _ _ _ _ _ _ _ _ _ _ _ _ _ _ _ _ _ _ _ _ _ _ _ _ _ _ _ _ _ _ _ _ _ _ _ _ _ _ _ _ _ _ _ _ _ _ _ _ _ _ _ _ _ _ _ _ _ _ _ _ _ _ _ _ _ _ _ _ _ _ _ _ _ _ _ _ _ _ _ _ _ _ _ _ _ _ _ _ _ _ _ _ _ _ _ _ _ _ _ _ _ _ _ _ _ _ _ _ _ _ _ _ _ _ _ _ _ _ _ _ _ _ _ _ _ _ _ _ _ _ _ _ _ _ _ _ _ _ _ _ _ _ _ _ _ _ _ _ _ _ _ _ _ w5 TY.out.by (hidden (fun y hb => tyEnc (TY.out.keep hb).swap.1 (TB.out.keep hb) OY.out)) (hidden (fun y hb => tyGates (TY.out.keep hb).swap.1)) (hidden (fun y hb => tyGates (TY.out.keep hb).1)) (hidden (fun y hb => tyValues (TY.out.keep hb).swap.1)) (hidden (fun y hb => tyValues (TY.out.keep hb).1)) (hidden (fun y hb => tyRequires (TY.out.keep hb).swap.1)) (hidden (fun y hb => tyRequires (TY.out.keep hb).1)) (hidden ?_)
 intro w6 p1 c1 hz
 have TY6 := hidden (TY.out.keep hz)
 clear hz TY B5 BW4 BW5 TB
 have T2 := hidden (HT.out.keep B2.out)
 have QL := hidden OY.out.2.2.1
 generalize hbs : enB m K Q = bs at *
 have HBS := hidden hbs
 clear hbs
 go_upto_region 10 with fail
 go_wp2_with fail
 go_loopw [13] (fun iv w' => ∃ i : Nat, i ≤ Q.length ∧ iv = .int .i64 (i : Int) ∧ Hid (TyU w2 m s K Q t K Q (.slice p0 bs.length c0) bs w')) (fun i _ => Q.length - (intOf i).toNat)
 case atStart => exact ⟨0, by omega, rfl, TY6⟩
 case round =>
  clear TY6
  obtain ⟨i, hi, rfl, hR⟩ := hrel
  by_cases hin : i < Q.length
  ·have i1 : (i : Int) < (Q.length : Int) := by omega
   have w9 : IntKind.i64.wrap ((i : Int) + 1) = (i : Int) + 1 := IntWalk.i64_in _ (by have := QL.out; omega)
   obtain ⟨X, hX⟩ : ∃ X, Q[i]? = some X := ⟨_, List.getElem?_eq_getElem hin⟩
   have XO := OY.out.2.2.2.1 X (List.mem_of_getElem? hX)
   have XL := hidden XO.2.1
   have XN : Hid (X.length ≤ 2932031007402) := hidden (by have := XO.1; omega)
   have CR := hidden (tyRequires hR.out.1)
   have C1 : Hid (∀ y, TyU w2 m s K Q t K Q (.slice p0 bs.length c0) bs y → _) := hidden (fun y hy => tyRow hy.1 i X hX XN.out)
   have C2 : Hid (∀ y, TyU w2 m s K Q t K Q (.slice p0 bs.length c0) bs y → _) := hidden (fun y hy => tyRow hy.swap.1 i X hX XN.out)
   clear XO hX
   go_upto_region 15 with (first | (have _t := CR; go_at_call 10; refine CR.out.mono ?_; rintro e w7 ⟨rfl, hb7⟩; replace hR := hidden (hR.out.keep hb7); clear hb7 CR) | (have _t := C1; go_at_call 11; refine (C1.out _ hR.out).mono ?_; rintro e w8 ⟨P8, c8, rfl, hl8, hb8⟩; have L8 := hidden hl8; replace hR := hidden (hR.out.keep hb8); clear hl8 hb8 C1) | (have _t := C2; go_at_call 11; refine (C2.out _ hR.out).mono ?_; rintro e w9x ⟨P9, c9, rfl, hl9, hb9⟩; have L9 := hidden hl9; replace L8 := hidden (L8.out.keep hb9); replace hR := hidden (hR.out.keep hb9); clear hl9 hb9 C2))
   have CQ := equal_any P8 P9 c8 c9 X X w9x XN.out L8.out L9.out
   rw [eqB_self XL.out] at CQ
   replace CQ := hidden CQ
   go_wp2_with (go_at_call 12; refine CQ.out.mono ?_; rintro e wb ⟨rfl, hbb⟩; replace hR := hidden (hR.out.keep hbb); clear hbb CQ)
   go_roundw
   case rel => exact ⟨i + 1, by omega, by go_num, hR⟩
   case measure => simp [intOf]; omega
  ·obtain rfl : i = Q.length := by omega
   have lq : ¬ (Q.length : Int) < (Q.length : Int) := by omega
   have CR := hidden (tyRequires hR.out.1)
   go_upto_region 17 with (have _t := CR; go_at_call 10; refine CR.out.mono ?_; rintro e w7 ⟨rfl, hb7⟩; replace hR := hidden (hR.out.keep hb7); clear hb7 CR)
   clear lq hi
   obtain ⟨X, hX⟩ : ∃ X, X = lf Sm.L (glL nx f) := ⟨_, rfl⟩
   have XS : Hid (Ls Sm.L X ∧ X.length ≤ 2932031007402) := hidden ⟨by rw [hX]; exact Cm.lf_ls (by decide) _, by rw [hX]; refine Nat.le_trans (lf_len_le (glL nx f)) ?_; rw [show (glL nx f).length = nx by simp [glL]]; exact HX.out.1⟩
   have CA := tyReqU hR.out (T2.out.keep hR.out.1.bl) Px nx cx f HX.out.1 HX.out.2.1 (HX.out.2.2.keep (bl_trans B2.out hR.out.1.bl))
   have CB := fun y (hy : TyU w2 m t K Q s K (rqQ m K Q X) (.slice p0 bs.length c0) bs y) => tyReqU hy (T2.out.keep hy.1.bl) Px nx cx f HX.out.1 HX.out.2.1 (HX.out.2.2.keep (bl_trans B2.out hy.1.bl))
   simp only [← hX] at CA CB
   replace CA := hidden CA
   replace CB := hidden CB
   clear hX
   obtain ⟨Q', hQ'⟩ : ∃ Q', rqQ m K Q X = Q' := ⟨_, rfl⟩
   obtain ⟨g, hg⟩ : ∃ g, rqE m K Q X = g := ⟨_, rfl⟩
   rw [hQ', hg] at CA CB
   have OY' : Hid (okY m K Q') := hidden (by rw [← hQ']; exact okY_rq OY.out XS.out.1 XS.out.2)
   have NE : Hid (g = 0 → ¬ (Tr.sb (enB m K Q')).toList = (Tr.sb bs).toList) := hidden (fun h => by rw [← HBS.out, ← hQ']; exact rq_other OY.out XS.out.1 XS.out.2 (hg.trans h))
   have SE : Hid (¬ g = 0 → Q' = Q) := hidden (fun h => by rw [← hQ']; exact rq_same (by rw [hg]; exact h))
   clear hQ' hg XS
   go_upto_region 18 with (first | (have _t := CA; go_at_call 13; refine CA.out.mono ?_; rintro e wc ⟨rfl, hty⟩; have R1 := hidden hty; clear hty CA hR) | (have _t := CB; go_at_call 13; refine (CB.out _ R1.out.swap).mono ?_; rintro e wd ⟨rfl, hty⟩; have R2 := hidden hty.swap; clear hty CB R1))
   have TD := hidden (T2.out.keep R2.out.1.bl)
   have E1 : Hid (∀ y, Below wd.heap.size wd y → _) := hidden (fun y hb => tyEnc (R2.out.keep hb).1 (TD.out.keep hb) OY'.out)
   have E2 : Hid (∀ y, Below wd.heap.size wd y → _) := hidden (fun y hb => tyEnc (R2.out.keep hb).swap.1 (TD.out.keep hb) OY'.out)
   by_cases hg0 : g = 0
   ·subst hg0
    refine lt18a _ s t c0 p0 (enB m K Q') bs _ _ _ _ _ _ _ _ _ _ _ _ _ _ _ _ _ _ _ _ _ _ _ _ _ _ _ _ _ _ _ _ _ _ _ _ _ _ _ _ _ _ _ _ _ _ _ _ _ _ _ _ _ _ _ _ _ _ _ _ _ _ _ _ _ _ _ _ _ _ _ _ _ _ _ _ _ _ _ _ _ _ _ _ _ _ _ _ _ _ _ _ _ _ _ _ _ _ _ _ _ _ _ _ _ _ _ _ _ _ _ _ _ _ _ _ _ _ _ _ _ _ _ _ _ _ _ _ _ _ _ _ _ _ _ _ _ _ _ _ _ _ _ _ _ _ _ _ _ _ _ _ _ _ _ _ _ _ _ _ _ _ _ _ _ _ _ _ _ _ _ _ _ _ _ _ wd R2.out.by (hidden (NE.out rfl)) E1 E2 E1 (hidden ?_)
    intro we q1 d1 q2 d2 q3 d3 hz
    have RE0 := hidden (R2.out.keep hz).1
    clear R2
    clear hz E1 E2 NE SE
    go_upto_region 20 with fail
    obtain ⟨k, hk⟩ : ∃ k, gtK K = k := ⟨_, rfl⟩
    obtain ⟨a1, a2, a3, a4, a5, a6, a7, hgv⟩ : ∃ a1 a2 a3 a4 a5 a6 a7, gtV K = tup a1 a2 a3 a4 a5 a6 a7 := by unfold gtV; split <;> exact ⟨_, _, _, _, _, _, _, rfl⟩
    have G1 := tyGateE RE0.out
    have G2 := fun y (A : Nat) (cs : Array Value) (hy : Ty w2 m t K Q' s k Q' y) (hA : y.heap[A]? = some (Obj.cells cs 39 (0, 0))) => tyGateW hy hA
    rw [hgv, hk] at G1
    simp only [hgv, hk] at G2
    unfold tup at G1 G2
    replace G1 := hidden G1
    replace G2 := hidden G2
    have OG : Hid (okY m k Q') := hidden (by rw [← hk]; exact okY_gate OY'.out)
    clear hk hgv
    go_upto_region 21 with (have _t := G1; go_at_call 14; refine G1.out.mono ?_; rintro e wg ⟨rfl, hty⟩; have RG := hidden hty; clear hty G1 RE0)
    have L1 := hidden (w3_lie wg a1 a2 a3 a4 a5 a6)
    have RH := hidden (RG.out.keep (bl_alloc3 wg (Obj.cells #[.int .i64 a1, .int .i64 a2] 39) (Obj.cells #[.int .i64 a3, .int .i64 a4] 39) (Obj.cells #[.int .i64 a5, .int .i64 a6] 39)))
    clear RG
    generalize (((wg.alloc (Obj.cells #[.int .i64 a1, .int .i64 a2] 39)).alloc (Obj.cells #[.int .i64 a3, .int .i64 a4] 39)).alloc (Obj.cells #[.int .i64 a5, .int .i64 a6] 39)) = wh at *
    generalize wg.heap.size = A0 at *
    go_upto_region 22 with (have _t := G2; go_at_call 14; refine (G2.out _ _ _ RH.out.swap L1.out).mono ?_; rintro e wi ⟨rfl, hty, hL1⟩; have RI := hidden hty.swap; replace L1 := hidden hL1; clear hty hL1 G2 RH)
    have L2 := hidden (w3_lie wi a1 a2 a3 a4 a5 a6)
    have L3 := hidden ((heap_alloc3 (o := Obj.cells #[.int .i64 a1, .int .i64 a2] 39) (p := Obj.cells #[.int .i64 a3, .int .i64 a4] 39) (q := Obj.cells #[.int .i64 a5, .int .i64 a6] 39) L1.out))
    have RJ := hidden (RI.out.keep (bl_alloc3 wi (Obj.cells #[.int .i64 a1, .int .i64 a2] 39) (Obj.cells #[.int .i64 a3, .int .i64 a4] 39) (Obj.cells #[.int .i64 a5, .int .i64 a6] 39)))
    clear RI L1
    generalize (((wi.alloc (Obj.cells #[.int .i64 a1, .int .i64 a2] 39)).alloc (Obj.cells #[.int .i64 a3, .int .i64 a4] 39)).alloc (Obj.cells #[.int .i64 a5, .int .i64 a6] 39)) = wj at *
    generalize wi.heap.size = A1 at *
    have TJ := hidden (T2.out.keep RJ.out.bl)
    have l3 := wi_lie L3.out
    have l2 := wi_lie L2.out
    refine lt22 _ s t A0 A1 a7 (a1, a2) (enB m k Q') _ _ _ _ _ _ _ _ _ _ _ _ _ _ _ _ _ _ _ _ _ _ _ _ _ _ _ _ _ _ _ _ _ _ _ _ _ _ _ _ _ _ _ _ _ _ _ _ _ _ _ _ _ _ _ _ _ _ _ _ _ _ _ _ _ _ _ _ _ _ _ _ _ _ _ _ _ _ _ _ _ _ _ _ _ _ _ _ _ _ _ _ _ _ _ _ _ _ _ _ _ _ _ _ _ _ _ _ _ _ _ _ _ _ _ _ _ _ _ _ _ _ _ _ _ _ _ _ _ _ _ _ _ _ _ _ _ _ _ _ _ _ _ _ _ _ _ _ _ _ _ _ _ _ _ _ _ _ _ _ _ _ _ _ _ _ _ _ _ _ _ _ _ _ _ wj l3.1 l3.2 l2.1 l2.2 (hidden (eqW a1 a2)) (hidden (fun y hb => tyEnc (RJ.out.keep hb) (TJ.out.keep hb) OG.out)) (hidden (fun y hb => tyEnc (RJ.out.keep hb).swap (TJ.out.keep hb) OG.out)) (hidden ?_)
    clear l3 l2 L2 L3
    intro wk q4 d4 q5 d5 hz
    have BK := hidden (bl_trans B2.out (bl_trans RJ.out.bl hz))
    clear hz RJ TJ OG OY' OY HBS VM
    have TK := hidden (HT.out.keep BK.out)
    have CD := hidden (Decode_any Pb cb0 bb wk TK.out (HB.out.1.keep BK.out) HB.out.2)
    go_upto_region 25 with (have _t := CD; go_at_call 7; refine CD.out.mono ?_; rintro e wl hd; have HD := hidden hd; clear hd CD; rcases HD.out with ⟨m2, K2, Q2, t2, v2, vs2, hp, rfl, hsy, hb5⟩ | ⟨hp, rfl, hb5⟩)
    ·obtain ⟨e1, o1⟩ := pY_some hp
     have BL := hidden (bl_trans BK.out hb5)
     have TL := hidden (HT.out.keep BL.out)
     have SY := hidden hsy
     have O1 := hidden o1
     have BY := HB.out.1.keep BL.out
     clear hp hsy hb5 o1 HB HD
     rw [e1] at BY ⊢
     go_upto_region 27 with fail
     refine lt27 _ t2 cb0 Pb (enB m2 K2 Q2) _ _ _ _ _ _ _ _ _ _ _ _ _ _ _ _ _ _ _ _ _ _ _ _ _ _ _ _ _ _ _ _ _ _ _ _ _ _ _ _ _ _ _ _ _ _ _ _ _ _ _ _ _ _ _ _ _ _ _ _ _ _ _ _ _ _ _ _ _ _ _ _ _ _ _ _ _ _ _ _ _ _ _ _ _ _ _ _ _ _ _ _ _ _ _ _ _ _ _ _ _ _ _ _ _ _ _ _ _ _ _ _ _ _ _ _ _ _ _ _ _ _ _ _ _ _ _ _ _ _ _ _ _ _ _ _ _ _ _ _ _ _ _ _ _ _ _ _ _ _ _ _ _ _ _ _ _ _ _ _ _ _ _ _ _ _ _ _ _ _ _ _ _ _ _ _ _ _ _ wl BY (hidden (fun y hb => EncB_any (SY.out.keep hb) (wk_of O1.out) (TL.out.keep hb) (by have := O1.out.1; omega))) (hidden ?_)
     intro wm q6 d6 hz
     have BM := hidden (bl_trans BL.out hz)
     clear hz
     go_wp2_with fail
     refine bodyPost_ret (v := .bool true) (by simp [results, Tryz.results3, go_sem]) rfl ⟨rfl, BM.out⟩
    ·have BM := hidden (bl_trans BK.out hb5)
     clear hp hb5 HD
     go_wp2_with fail
     refine bodyPost_ret (v := .bool true) (by simp [results, Tryz.results3, go_sem]) rfl ⟨rfl, BM.out⟩
   ·have e9 := SE.out hg0
    subst e9
    rw [HBS.out] at E1 E2
    refine lt18b _ s t c0 g p0 bs _ _ _ _ _ _ _ _ _ _ _ _ _ _ _ _ _ _ _ _ _ _ _ _ _ _ _ _ _ _ _ _ _ _ _ _ _ _ _ _ _ _ _ _ _ _ _ _ _ _ _ _ _ _ _ _ _ _ _ _ _ _ _ _ _ _ _ _ _ _ _ _ _ _ _ _ _ _ _ _ _ _ _ _ _ _ _ _ _ _ _ _ _ _ _ _ _ _ _ _ _ _ _ _ _ _ _ _ _ _ _ _ _ _ _ _ _ _ _ _ _ _ _ _ _ _ _ _ _ _ _ _ _ _ _ _ _ _ _ _ _ _ _ _ _ _ _ _ _ _ _ _ _ _ _ _ _ _ _ _ _ _ _ _ _ _ _ _ _ _ _ _ _ _ _ _ wd R2.out.by (hidden hg0) E1 E2 E1 (hidden ?_)
    intro we q1 d1 q2 d2 q3 d3 hz
    have RE0 := hidden (R2.out.keep hz).1
    clear R2
    clear hz E1 E2 NE SE
    go_upto_region 20 with fail
    obtain ⟨k, hk⟩ : ∃ k, gtK K = k := ⟨_, rfl⟩
    obtain ⟨a1, a2, a3, a4, a5, a6, a7, hgv⟩ : ∃ a1 a2 a3 a4 a5 a6 a7, gtV K = tup a1 a2 a3 a4 a5 a6 a7 := by unfold gtV; split <;> exact ⟨_, _, _, _, _, _, _, rfl⟩
    have G1 := tyGateE RE0.out
    have G2 := fun y (A : Nat) (cs : Array Value) (hy : Ty w2 m t K Q' s k Q' y) (hA : y.heap[A]? = some (Obj.cells cs 39 (0, 0))) => tyGateW hy hA
    rw [hgv, hk] at G1
    simp only [hgv, hk] at G2
    unfold tup at G1 G2
    replace G1 := hidden G1
    replace G2 := hidden G2
    have OG : Hid (okY m k Q') := hidden (by rw [← hk]; exact okY_gate OY'.out)
    clear hk hgv
    go_upto_region 21 with (have _t := G1; go_at_call 14; refine G1.out.mono ?_; rintro e wg ⟨rfl, hty⟩; have RG := hidden hty; clear hty G1 RE0)
    have L1 := hidden (w3_lie wg a1 a2 a3 a4 a5 a6)
    have RH := hidden (RG.out.keep (bl_alloc3 wg (Obj.cells #[.int .i64 a1, .int .i64 a2] 39) (Obj.cells #[.int .i64 a3, .int .i64 a4] 39) (Obj.cells #[.int .i64 a5, .int .i64 a6] 39)))
    clear RG
    generalize (((wg.alloc (Obj.cells #[.int .i64 a1, .int .i64 a2] 39)).alloc (Obj.cells #[.int .i64 a3, .int .i64 a4] 39)).alloc (Obj.cells #[.int .i64 a5, .int .i64 a6] 39)) = wh at *
    generalize wg.heap.size = A0 at *
    go_upto_region 22 with (have _t := G2; go_at_call 14; refine (G2.out _ _ _ RH.out.swap L1.out).mono ?_; rintro e wi ⟨rfl, hty, hL1⟩; have RI := hidden hty.swap; replace L1 := hidden hL1; clear hty hL1 G2 RH)
    have L2 := hidden (w3_lie wi a1 a2 a3 a4 a5 a6)
    have L3 := hidden ((heap_alloc3 (o := Obj.cells #[.int .i64 a1, .int .i64 a2] 39) (p := Obj.cells #[.int .i64 a3, .int .i64 a4] 39) (q := Obj.cells #[.int .i64 a5, .int .i64 a6] 39) L1.out))
    have RJ := hidden (RI.out.keep (bl_alloc3 wi (Obj.cells #[.int .i64 a1, .int .i64 a2] 39) (Obj.cells #[.int .i64 a3, .int .i64 a4] 39) (Obj.cells #[.int .i64 a5, .int .i64 a6] 39)))
    clear RI L1
    generalize (((wi.alloc (Obj.cells #[.int .i64 a1, .int .i64 a2] 39)).alloc (Obj.cells #[.int .i64 a3, .int .i64 a4] 39)).alloc (Obj.cells #[.int .i64 a5, .int .i64 a6] 39)) = wj at *
    generalize wi.heap.size = A1 at *
    have TJ := hidden (T2.out.keep RJ.out.bl)
    have l3 := wi_lie L3.out
    have l2 := wi_lie L2.out
    refine lt22 _ s t A0 A1 a7 (a1, a2) (enB m k Q') _ _ _ _ _ _ _ _ _ _ _ _ _ _ _ _ _ _ _ _ _ _ _ _ _ _ _ _ _ _ _ _ _ _ _ _ _ _ _ _ _ _ _ _ _ _ _ _ _ _ _ _ _ _ _ _ _ _ _ _ _ _ _ _ _ _ _ _ _ _ _ _ _ _ _ _ _ _ _ _ _ _ _ _ _ _ _ _ _ _ _ _ _ _ _ _ _ _ _ _ _ _ _ _ _ _ _ _ _ _ _ _ _ _ _ _ _ _ _ _ _ _ _ _ _ _ _ _ _ _ _ _ _ _ _ _ _ _ _ _ _ _ _ _ _ _ _ _ _ _ _ _ _ _ _ _ _ _ _ _ _ _ _ _ _ _ _ _ _ _ _ _ _ _ _ wj l3.1 l3.2 l2.1 l2.2 (hidden (eqW a1 a2)) (hidden (fun y hb => tyEnc (RJ.out.keep hb) (TJ.out.keep hb) OG.out)) (hidden (fun y hb => tyEnc (RJ.out.keep hb).swap (TJ.out.keep hb) OG.out)) (hidden ?_)
    clear l3 l2 L2 L3
    intro wk q4 d4 q5 d5 hz
    have BK := hidden (bl_trans B2.out (bl_trans RJ.out.bl hz))
    clear hz RJ TJ OG OY' OY HBS VM
    have TK := hidden (HT.out.keep BK.out)
    have CD := hidden (Decode_any Pb cb0 bb wk TK.out (HB.out.1.keep BK.out) HB.out.2)
    go_upto_region 25 with (have _t := CD; go_at_call 7; refine CD.out.mono ?_; rintro e wl hd; have HD := hidden hd; clear hd CD; rcases HD.out with ⟨m2, K2, Q2, t2, v2, vs2, hp, rfl, hsy, hb5⟩ | ⟨hp, rfl, hb5⟩)
    ·obtain ⟨e1, o1⟩ := pY_some hp
     have BL := hidden (bl_trans BK.out hb5)
     have TL := hidden (HT.out.keep BL.out)
     have SY := hidden hsy
     have O1 := hidden o1
     have BY := HB.out.1.keep BL.out
     clear hp hsy hb5 o1 HB HD
     rw [e1] at BY ⊢
     go_upto_region 27 with fail
     refine lt27 _ t2 cb0 Pb (enB m2 K2 Q2) _ _ _ _ _ _ _ _ _ _ _ _ _ _ _ _ _ _ _ _ _ _ _ _ _ _ _ _ _ _ _ _ _ _ _ _ _ _ _ _ _ _ _ _ _ _ _ _ _ _ _ _ _ _ _ _ _ _ _ _ _ _ _ _ _ _ _ _ _ _ _ _ _ _ _ _ _ _ _ _ _ _ _ _ _ _ _ _ _ _ _ _ _ _ _ _ _ _ _ _ _ _ _ _ _ _ _ _ _ _ _ _ _ _ _ _ _ _ _ _ _ _ _ _ _ _ _ _ _ _ _ _ _ _ _ _ _ _ _ _ _ _ _ _ _ _ _ _ _ _ _ _ _ _ _ _ _ _ _ _ _ _ _ _ _ _ _ _ _ _ _ _ _ _ _ _ _ _ _ wl BY (hidden (fun y hb => EncB_any (SY.out.keep hb) (wk_of O1.out) (TL.out.keep hb) (by have := O1.out.1; omega))) (hidden ?_)
     intro wm q6 d6 hz
     have BM := hidden (bl_trans BL.out hz)
     clear hz
     go_wp2_with fail
     refine bodyPost_ret (v := .bool true) (by simp [results, Tryz.results3, go_sem]) rfl ⟨rfl, BM.out⟩
    ·have BM := hidden (bl_trans BK.out hb5)
     clear hp hb5 HD
     go_wp2_with fail
     refine bodyPost_ret (v := .bool true) (by simp [results, Tryz.results3, go_sem]) rfl ⟨rfl, BM.out⟩
end Ci
end Go.Proofs.YtaejdgpffipaeaaGreatDoor
