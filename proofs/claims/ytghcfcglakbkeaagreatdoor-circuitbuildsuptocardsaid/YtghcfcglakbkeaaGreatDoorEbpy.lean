import Derived.Test.YtghcfcglakbkeaaGreatDoorEbo
namespace Go.Proofs.YtghcfcglakbkeaaGreatDoor
open Go.RowKit
set_option linter.unusedVariables false
set_option linter.unusedSimpArgs false
open Cm (Wr Tm co bf Ls lf ins Eqm)
open Tr (cb By vn cb_len cb_app cb_one vn_len own_by)
open Xo (Dj own_front own_new Dj.kept wpList_tell)
namespace Ci
set_option maxRecDepth 100000
set_option maxHeartbeats 16000000
theorem own_byC {w : World} {base c : Nat} {P : Option Addr} {bs : List UInt8} (h : w.ownsRow base 5 1 (.slice P bs.length c) bs.length (cb bs)) : By w P c bs := by
 obtain ⟨P', c', e, hb⟩ := own_by h
 injection e with e1 e2 e3
 subst e1 e3
 exact hb
theorem cb_at {bs : List UInt8} {j : Nat} (h : j < bs.length) : (cb bs)[j]? = some (.int .u8 ((bs[j]'h).toNat : Int)) := by
 unfold cb
 rw [List.getElem?_map, List.getElem?_eq_getElem h]
 rfl
theorem same_any {wi x : World} {m : Nat} {p : Pr} (hp : Pj wi m p x) (hT : Tb wi) (hM : Mk wi) (hb : Below wi.heap.size wi x) :
  Calls Tryz.prog 8 #[.pointer (some ⟨p.b, 0, none⟩)] x fun e y => e = .returned (.bool true) ∧ Below x.heap.size x y := by
 obtain ⟨Pu, cu, hu, _, hpu⟩ := hp.dy.shape
 have HU := Hn hu
 have HPU := Hn hpu
 have HP := Hn hp
 have HT := Hn (And.intro hT hM)
 have B0 := Hn hb
 have RQ : Hid (∀ y, Pj wi m p y → Calls Tryz.prog 31 #[.pointer (some ⟨p.s, 0, none⟩)] y fun e w' => e = .returned (.int .i64 (p.Q.length : Int)) ∧ w' = y) := Hn (fun y hy => Requires_any hy.sy)
 clear hp hT hM hb hu hpu
 go_enter Tryz.func8, Tryz.ntmps8
 go_upto_region 1 with fail
 refine sa1 _ wi m p p.Q.length cu Pu _ _ _ _ _ _ _ _ _ _ _ _ _ _ _ _ _ _ _ _ _ _ _ _ _ _ _ _ _ _ _ _ _ _ _ _ _ _ _ _ _ _ _ _ _ _ _ _ _ _ _ _ _ _ _ _ _ _ _ _ _ _ _ _ _ _ _ _ _ _ _ _ _ _ _ _ _ _ _ _ _ _ _ _ _ _ _ _ _ _ _ _ _ _ _ _ _ _ _ _ _ _ _ _ _ _ _ _ _ _ _ _ _ _ _ _ _ _ _ _ _ _ _ _ _ _ _ _ _ _ _ _ _ _ _ _ _ _ _ _ _ _ _ _ _ _ _ _ _ _ _ _ _ _ _ _ _ _ _ _ _ _ _ _ _ _ _ _ _ _ _ _ _ _ _ _ _ _ _ _ _ _ _ _ _ _ _ _ _ _ _ _ _ _ _ _ _ _ _ _ _ _ _ _ _ _ _ _ _ _ x HP.out HU RQ (Hn ?_)
 intro w1 hp1 hb1
 have P1 := Hn hp1
 have B1 := Hn hb1
 clear hp1 hb1 RQ
 have WK := Hn (wk_of HP.out.ok)
 have LQ : Hid (p.Q.length ≤ 4096) := Hn WK.out.q
 have cp1 := cell_of_row w1 p.b 1 _ _ (0, 0) P1.out.hb
 have cq := (P1.out.dy.c2.trans (congrArg some HU.out))
 go_upto_region 4 with fail
 clear cp1 cq
 go_loopw [3] (fun iv z => ∃ q : Int, -1 ≤ q ∧ q ≤ (p.Q.length : Int) + 1 ∧ iv = .int .i64 q ∧ Hid (Pj wi m p z ∧ Below x.heap.size x z)) (fun iv _ => ((p.Q.length : Int) + 1 - intOf iv).toNat)
 case atStart => exact ⟨-1, by omega, by omega, rfl, Hn ⟨P1.out, B1.out⟩⟩
 case round =>
  clear P1 B1
  obtain ⟨q, hq1, hq2, rfl, hS⟩ := hrel
  have cp0 := cell_of_row wr p.b 0 _ _ (0, 0) hS.out.1.hb
  have cp1 := cell_of_row wr p.b 1 _ _ (0, 0) hS.out.1.hb
  have cq := (hS.out.1.dy.c2.trans (congrArg some HU.out))
  have w9 : IntKind.i64.wrap (q + 1) = q + 1 := IntWalk.i64_in _ (by have := LQ.out; omega)
  by_cases hin : q ≤ (p.Q.length : Int)
  ·by_cases hz : q < 0
   ·have CB := Hn (Req_bad hS.out.1.sy q (.inl hz))
    go_wp2_with (go_at_call 25; refine CB.out.mono ?_; rintro e y ⟨rfl, hy⟩; subst hy)
    go_roundw
    case rel => exact ⟨q + 1, by omega, by omega, rfl, hS⟩
    case measure => simp [intOf]; omega
   ·by_cases hl : q = (p.Q.length : Int)
    ·subst hl
     have CB := Hn (Req_bad hS.out.1.sy (p.Q.length : Int) (.inr (by omega)))
     go_wp2_with (go_at_call 25; refine CB.out.mono ?_; rintro e y ⟨rfl, hy⟩; subst hy)
     go_roundw
     case rel => exact ⟨(p.Q.length : Int) + 1, by omega, by omega, rfl, hS⟩
     case measure => simp [intOf]
    ·obtain ⟨j, rfl⟩ : ∃ j : Nat, q = (j : Int) := ⟨q.toNat, by omega⟩
     have jl : j < p.Q.length := by omega
     have l2 : (0 : Int) ≤ (j : Int) := by omega
     have l3 : (j : Int) < (p.Q.length : Int) := by omega
     have l1 : (j : Int) ≤ (p.Q.length : Int) := by omega
     have lz : ¬ (j : Int) < 0 := by omega
     have le : ((j : Int) == (p.Q.length : Int)) = false := by simp; omega
     clear hq1 hq2 hin hz
     obtain ⟨X, hX⟩ : ∃ X, p.Q[j]? = some X := ⟨p.Q[j], by simp [jl]⟩
     have XL : Hid (X.length ≤ 6150) := Hn (ls_len (hS.out.1.sy.sm X (List.mem_of_getElem? hX)) (WK.out.wr X (List.mem_of_getElem? hX)) WK.out.k (by have := HP.out.ok.1; omega))
     obtain ⟨g, rfl⟩ := HPU.out (by omega)
     obtain ⟨u, huv, hown⟩ := hS.out.1.dy.ls j X hX
     obtain ⟨PX, cX, rfl, _⟩ := own_shT hown
     have cell := (hS.out.1.dy.row.cells (g := g) (by rw [HU.out]; rfl) j _ huv)
     rw [Addr.add_mid, Nat.zero_add] at cell
     have C1 := Hn (ReqO_any hS.out.1.sy j X hX (by have := XL.out; omega))
     have C2 := Hn (fun y (hy : Below wr.heap.size wr y) => ReqO_any (hS.out.1.sy.keep hy) j X hX (by have := XL.out; omega))
     have DX := Hn (own_lts hown)
     have HCP0 := Hn cp0
     clear hX huv hown
     go_upto_region 7 with (go_at_call 25; refine C1.out.mono ?_; rintro e y ⟨v1, rfl, ho, hb⟩; have O1 := Hn ho; have Y1 := Hn hb; clear ho hb C1)
     obtain ⟨PA, cA, eA, _⟩ := own_shT O1.out
     subst eA
     replace cp1 := cell_keep cp1 Y1.out
     replace cq := cell_keep cq Y1.out
     replace cell := cell_keep cell Y1.out
     have cp02 := cell_keep cp0 Y1.out
     clear cp0
     go_upto_region 11 with (go_at_call 25; refine (C2.out _ Y1.out).mono ?_; rintro e y2 ⟨v2, rfl, ho, hb⟩; have O2 := Hn ho; have Y2 := Hn hb; clear ho hb C2)
     obtain ⟨PB, cB, eB, _⟩ := own_shT O2.out
     subst eB
     have YB := Hn (bl_trans Y1.out Y2.out)
     replace cp1 := cell_keep cp1 Y2.out
     replace cq := cell_keep cq Y2.out
     replace cell := cell_keep cell Y2.out
     clear cp02
     have OA := Hn (own_keepT O1.out Y2.out)
     have OB := Hn (own_monoT O2.out Y1.out.size)
     have DJ : Hid (Dj (.slice PA X.length cA) (.slice PB X.length cB)) := Hn (fun k h1 h2 => by have := (O1.out.lt k h1).2; have := (O2.out.lt k h2).1; omega)
     clear O1 O2
     have I1 := Hn (fun z (hz : Below _ _ z) => is_any PA PX cA cX X z (by have := XL.out; omega) (own_lts (own_keepT OA.out hz)) (DX.out.keep (bl_trans YB.out hz)))
     have I2 := Hn (fun z (hz : Below _ _ z) => is_any PB PX cB cX X z (by have := XL.out; omega) (own_lts (own_keepT OB.out hz)) (DX.out.keep (bl_trans YB.out hz)))
     have BW : Hid (Below wi.heap.size wi wr) := Hn (B0.out.trans (hS.out.2.mono B0.out.size))
     have L1 := Hn (fun z (hz : Below _ _ z) => lone_any (w0 := wr) (x := z) (HT.out.2.keep BW.out) (bl_trans YB.out hz) (own_keepT OA.out hz) (own_keepT OB.out hz) DJ.out (by have := XL.out; omega))
     clear OA OB DJ BW
     go_upto_region 5 with (first | (go_at_call 37; go_loud (refine (I1.out _ (Below.refl _ _)).mono ?_; rintro e z1 ⟨rfl, hz1⟩; have Z1 := Hn hz1; have d1 := cell_keep cp1 hz1; have d2 := cell_keep cq hz1; have d3 := cell_keep cell hz1; clear hz1 I1 cp1 cq cell)) | (go_at_call 37; go_loud (refine (I2.out _ Z1.out).mono ?_; rintro e z2 ⟨rfl, hz2⟩; have Z2 := Hn (bl_trans Z1.out hz2); clear hz2 I2 d1 d2 d3)) | (go_at_call 38; go_loud (refine (L1.out _ Z2.out).mono ?_; rintro e z3 ⟨rfl, hz3⟩; have Z3 := Hn hz3; clear hz3 L1)))
     have NS : Hid (Pj wi m p z3 ∧ Below x.heap.size x z3) := Hn ⟨hS.out.1.keep Z3.out, bl_trans hS.out.2 Z3.out⟩
     clear hS Z1 Z2 Z3 YB Y1 Y2 DX HCP0
     go_wp2_with fail
     go_roundw
     case rel => exact ⟨(j : Int) + 1, by omega, by omega, rfl, NS⟩
     case measure => simp [intOf]; omega
  ·have lx : ¬ q ≤ (p.Q.length : Int) := hin
   clear cp0 w9
   obtain ⟨BS, hBS⟩ : ∃ BS, enB m p.K p.Q = BS := ⟨_, rfl⟩
   have WIB : Hid (∀ y, Below wr.heap.size wr y → Tb y) := Hn (fun y hy => HT.out.1.keep (B0.out.trans ((hS.out.2.trans (hy.mono hS.out.2.size)).mono B0.out.size)))
   have CE : Hid (∀ y, Pj wi m p y → Below wr.heap.size wr y → Calls Tryz.prog 33 #[.pointer (some ⟨p.s, 0, none⟩)] y fun e w' => ∃ P c, e = .returned (.slice P BS.length c) ∧ w'.ownsRow y.heap.size 5 1 (.slice P BS.length c) BS.length (cb BS) ∧ Below y.heap.size y w') := Hn (fun y hy hb => (SysEncode_any hy.sy (wk_of hy.ok) (WIB.out y hb) (by have := hy.ok.1; omega)).mono fun e w' ⟨v, he, ho, hbl⟩ => by
    rw [hBS] at ho
    obtain ⟨P, c, e1⟩ := own_sh1 ho
    subst e1
    exact ⟨P, c, he, ho, hbl⟩)
   have CD : Hid (∀ y, Pj wi m p y → Calls Tryz.prog 20 #[.pointer (some ⟨p.r, 0, none⟩)] y fun e w' => EdP y BS e w') := Hn (fun y hy => by rw [← hBS]; exact dEncode_any hy.dy (wk_of hy.ok) (by have := hy.ok.1; omega))
   have NB : Hid (1 ≤ BS.length ∧ BS.length ≤ 1099511627776) := Hn (by
    rw [← hBS]
    refine ⟨?_, ?_⟩
    ·have := vn_len m
     unfold enB
     simp only [List.length_append]
     omega
    ·have h1 := pre_len (m := m) (Kg := p.K) (i := p.Q.length) LQ.out (fun X hX => ls_len (hS.out.1.sy.sm X hX) (WK.out.wr X hX) WK.out.k (by have := HP.out.ok.1; omega))
     have e : pre m p.K p.Q p.Q.length = enB m p.K p.Q := by unfold pre enB; rw [List.take_length]
     rw [e] at h1
     omega)
   have HBS := Hn hBS
   clear hBS
   go_upto_region 13 with fail
   refine sa13 _ wi m p BS.length BS _ _ _ _ _ _ _ _ _ _ _ _ _ _ _ _ _ _ _ _ _ _ _ _ _ _ _ _ _ _ _ _ _ _ _ _ _ _ _ _ _ _ _ _ _ _ _ _ _ _ _ _ _ _ _ _ _ _ _ _ _ _ _ _ _ _ _ _ _ _ _ _ _ _ _ _ _ _ _ _ _ _ _ _ _ _ _ _ _ _ _ _ _ _ _ _ _ _ _ _ _ _ _ _ _ _ _ _ _ _ _ _ _ _ _ _ _ _ _ _ _ _ _ _ _ _ _ _ _ _ _ _ _ _ _ _ _ _ _ _ _ _ _ _ _ _ _ _ _ _ _ _ _ _ _ _ _ _ _ _ _ _ _ _ _ _ _ _ _ _ _ _ _ _ _ _ _ _ _ _ _ _ _ _ _ _ _ _ _ _ _ _ _ _ _ _ _ _ _ _ _ _ _ _ _ _ _ _ _ _ wr hS.out.1 CE (Hn ?_)
   intro w5 P1 P2 c1 c2 hp5 hb5 ho1 ho2 hdj
   have B5 := Hn (bl_trans hS.out.2 hb5)
   have W5 := Hn hb5
   obtain ⟨g1, c1', e1, _⟩ := own_bytes ho1 NB.out.1
   injection e1 with e1a e1b e1c
   subst e1a e1c
   obtain ⟨g2, c2', e2, _⟩ := own_bytes ho2 NB.out.1
   injection e2 with e2a e2b e2c
   subst e2a e2c
   have P5 := Hn hp5
   have O1 := Hn (own_monoT ho1 hS.out.2.size)
   have O2 := Hn (own_monoT ho2 hS.out.2.size)
   have DJ := Hn hdj
   have cp5 := cell_of_row w5 p.b 1 _ _ (0, 0) P5.out.hb
   clear hp5 hb5 ho1 ho2 hdj hS cp1 cq hq1 hq2 hin lx
   go_upto_region 15 with (first | (go_at_call 20; refine (CD.out _ P5.out).mono ?_; rintro e w6 ⟨v6, rfl, hy6⟩; have B6 := Hn hy6.2; obtain ⟨P6, c6, e6, by6⟩ := own_by hy6.1; have BY6 := Hn by6; subst e6; clear by6 hy6 cp5 CD) | (refine wpList_conv (by rfl) _ rfl rfl BY6.out ?_))
   have BY1 := Hn (own_byC (own_keepT O1.out B6.out))
   have BY2 := Hn (own_byC (own_keepT O2.out B6.out))
   go_upto_region 18 with (first | (refine wpList_conv (by rfl) _ rfl rfl BY1.out ?_) | (refine wpList_conv (by rfl) _ rfl rfl BY2.out ?_))
   have S0 : Hid (Se wi x m p BS.length (.slice (some ⟨g1, 0, none⟩) BS.length c1) (.slice (some ⟨g2, 0, none⟩) BS.length c2) BS w6) := Hn ⟨P5.out.keep B6.out, bl_trans B5.out B6.out, ⟨cb BS, own_keepT O1.out B6.out, fun j hj => ⟨_, cb_at hj⟩⟩, own_keepT O2.out B6.out, DJ.out⟩
   clear BY1 BY2 BY6 O1 O2 DJ P5 B5 W5 B6 CE WIB
   obtain ⟨N, hN⟩ : ∃ N, BS.length = N := ⟨_, rfl⟩
   have HNB := Hn hN
   rw [hN] at S0 ⊢
   have NL : Hid (1 ≤ N ∧ N ≤ 1099511627776) := Hn (by rw [← hN]; exact NB.out)
   clear hN NB
   go_loopw [11] (fun iv z => ∃ i : Nat, i ≤ N ∧ iv = .int .i64 (i : Int) ∧ Hid (Se wi x m p N (.slice (some ⟨g1, 0, none⟩) N c1) (.slice (some ⟨g2, 0, none⟩) N c2) BS z)) (fun i _ => N - (intOf i).toNat)
   case atStart => exact ⟨0, by omega, rfl, S0⟩
   case round =>
    clear S0
    obtain ⟨i, hi, rfl, hS⟩ := hrel
    by_cases hin : i < N
    ·have i1 : (i : Int) < (N : Int) := by omega
     have i0 : (0 : Int) ≤ (i : Int) := by omega
     have w9 : IntKind.i64.wrap ((i : Int) + 1) = (i : Int) + 1 := IntWalk.i64_in _ (by have := NL.out; omega)
     obtain ⟨xs, ho, hx⟩ := hS.out.ob
     obtain ⟨z0, hz0⟩ := hx i hin
     have ci := ho.cellAt i (by omega)
     rw [hz0] at ci
     have fi := ho.frozenAt i
     clear ho hx hz0
     go_wp2_with fail
     go_roundw
     case rel => exact ⟨i + 1, by omega, by go_num, Hn (hS.out.put _)⟩
     case measure => simp [intOf]; omega
    ·have ei : i = N := by omega
     have lq : ¬ (i : Int) < (N : Int) := by omega
     have S0 : Hid (Se wi x m p (N + 0) (.slice (some ⟨g1, 0, none⟩) N c1) (.slice (some ⟨g2, 0, none⟩) N c2) BS wr) := hS
     clear hS
     go_upto_region 22 with fail
     go_loopw [8, 12] (fun bv kv z => ∃ k : Nat, k ≤ 64 ∧ kv = .int .i64 (k : Int) ∧ Hid (Se wi x m p (N + k) bv (.slice (some ⟨g2, 0, none⟩) N c2) BS z)) (fun _ k _ => 64 - (intOf k).toNat)
     case atStart => exact ⟨0, by omega, rfl, S0⟩
     case round =>
      clear S0
      obtain ⟨k, hk, rfl, hS⟩ := hrel
      by_cases hkn : k < 64
      ·have k1 : (k : Int) < 64 := by omega
       have k0 : (0 : Int) ≤ (k : Int) := by omega
       have w9k : IntKind.i64.wrap ((k : Int) + 1) = (k : Int) + 1 := IntWalk.i64_in _ (by omega)
       have A1 := Hn (hS.out.keep (bl_alloc wr (.cells #[.int .u8 9] 5)))
       obtain ⟨xs, ho, hx⟩ := A1.out.ob
       have OX := Hn ho
       have XX := Hn hx
       have A2 := Hn (cells_newT wr [.int .u8 9] 5)
       have A3 : Hid (∀ u ∈ ([.int .u8 9] : List Value), u.oneCell' = true) := Hn (by simp [Value.oneCell'])
       have A4 : Hid (N + k + 1 ≤ maxLen) := Hn (by have := NL.out; unfold maxLen; omega)
       have A5 : Hid ((N + k + 1) * 1 ≤ 140737488355328) := Hn (by have := NL.out; omega)
       have A6 : Hid (x.heap.size ≤ (wr.alloc (.cells #[.int .u8 9] 5)).heap.size) := Hn A1.out.bel.size
       clear ho hx
       go_wp2_with (at_builtin; refine wpList_append_own_at _ rfl _ _ 61 rfl x.heap.size 5 _ (.int .u8 0) 1 1 (by kernel_rfl) u8info (by kernel_rfl) (by kernel_rfl) (by kernel_rfl) rfl (by decide) _ (N + k) xs rfl OX.out ⟨wr.heap.size, 0, none⟩ 1 1 [.int .u8 9] rfl rfl A2.out A3.out A4.out A5.out A6.out ?_; intro v2 w2 ho2 hg2 _ ht2; have NS := Hn (A1.out.app OX.out XX.out ho2 hg2 ht2); clear ho2 hg2 ht2)
       clear A1 A2 A3 A4 A5 A6 OX XX hS
       go_roundw
       case rel => exact ⟨k + 1, by omega, by go_num, NS⟩
       case measure => simp [intOf]; omega
      ·have lqk : ¬ (k : Int) < 64 := by omega
       have BYC : Hid (By wr (some ⟨g2, 0, none⟩) c2 BS) := Hn (own_byC (by rw [HNB.out]; have := hS.out.oc; rw [HNB.out] at this; exact this))
       have cp0 := cell_of_row wr p.b 0 _ _ (0, 0) hS.out.pj.hb
       have C9 := SysEncode_any hS.out.pj.sy (wk_of hS.out.pj.ok) (HT.out.1.keep (B0.out.trans (hS.out.bel.mono B0.out.size))) (by have := hS.out.pj.ok.1; omega)
       rw [HBS.out] at C9
       replace C9 := Hn C9
       have RB := Hn hS.out.bel
       clear hS
       have e2 : (Value.slice (some ⟨g2, 0, none⟩) N c2) = .slice (some ⟨g2, 0, none⟩) BS.length c2 := by rw [HNB.out]
       rw [e2]
       clear e2
       go_wp2_with (first | (go_at_call 33; go_loud (refine C9.out.mono ?_; rintro e w9 ⟨v9, rfl, ho9, hb9⟩; obtain ⟨P9, c9, e9, by9⟩ := own_by ho9; have BY9 := Hn by9; have RB9 := Hn (bl_trans RB.out hb9); subst e9; clear ho9 hb9 by9 C9)) | (refine wpList_conv (by rfl) _ rfl rfl BYC.out ?_) | (refine wpList_conv (by rfl) _ rfl rfl BY9.out ?_))
       exact bodyPost_ret (v := .bool true) (by simp [results, Tryz.results8, go_sem]) rfl ⟨rfl, RB9.out⟩
end Ci
end Go.Proofs.YtghcfcglakbkeaaGreatDoor
namespace Go.Proofs.YtghcfcglakbkeaaGreatDoor
open Go.RowKit
set_option linter.unusedVariables false
set_option linter.unusedSimpArgs false
namespace Ci
set_option maxRecDepth 100000
set_option maxHeartbeats 16000000
theorem ns_GateT {v : Value} {x : World} (h : Ns v x) : Calls Tryz.prog 23 #[v] x fun e w' => e = .returned (.tuple #[.agg #[.int .i64 0, .int .i64 0], .agg #[.int .i64 0, .int .i64 0], .agg #[.int .i64 0, .int .i64 0], .int .i64 1]) ∧ Below x.heap.size x w' := ns_Gate h
theorem ns_MultiplyT {v : Value} {x : World} (h : Ns v x) : Calls Tryz.prog 24 #[v, .slice none 0 0, .slice none 0 0] x fun e w' => e = .returned (.tuple #[.agg #[.int .i64 0, .int .i64 0], .agg #[.int .i64 0, .int .i64 0], .agg #[.int .i64 0, .int .i64 0], .int .i64 1]) ∧ Below x.heap.size x w' := ns_Multiply h
theorem lawNone_any {v : Value} {x : World} (h : Ns v x) :
  Calls Tryz.prog 6 #[v] x fun e y => e = .returned (.bool true) ∧ Below x.heap.size x y := by
 have HN := Hn h
 have B0 := Hn (Below.refl x.heap.size x)
 clear h
 go_enter Tryz.func6, Tryz.ntmps6
 go_upto_region 2 with (go_at_call 23; refine (ns_GateT (HN.out.keep B0.out)).mono ?_; rintro e w1 ⟨rfl, hb⟩; have B1 := Hn (bl_trans B0.out hb); clear hb B0)
 have C1 := Hn (bl_trans B1.out (bl_alloc3 w1 (.cells #[.int .i64 0, .int .i64 0] 79) (.cells #[.int .i64 0, .int .i64 0] 79) (.cells #[.int .i64 0, .int .i64 0] 79)))
 clear B1
 go_upto_region 3 with (go_at_call 24; refine (ns_MultiplyT (HN.out.keep C1.out)).mono ?_; rintro e w2 ⟨rfl, hb⟩; have B2 := Hn (bl_trans C1.out hb); clear hb C1)
 have C2 := Hn (bl_trans B2.out (bl_alloc3 w2 (.cells #[.int .i64 0, .int .i64 0] 79) (.cells #[.int .i64 0, .int .i64 0] 79) (.cells #[.int .i64 0, .int .i64 0] 79)))
 clear B2
 go_upto_region 4 with (go_at_call 25; refine (ns_Requirement (HN.out.keep C2.out)).mono ?_; rintro e w3 ⟨rfl, rfl⟩)
 go_upto_region 5 with (go_at_call 26; refine (ns_Eval (HN.out.keep C2.out)).mono ?_; rintro e w4 ⟨rfl, hb⟩; have B4 := Hn (bl_trans C2.out hb); clear hb C2)
 have C4 := Hn (bl_trans B4.out (bl_alloc w4 (.cells #[.int .u64 0, .int .u64 0, .int .u64 0, .int .u64 0] 41)))
 clear B4
 go_upto_region 6 with (first | (go_at_call 14; refine (Int_any 1 _ (by unfold Sm.Wd; omega)).mono ?_; rintro e w5 ⟨r, rfl, hi, hb⟩; have B5 := Hn (bl_trans C4.out hb); clear hb hi C4) | (go_at_call 10; refine (ns_Flatten (HN.out.keep B5.out) r).mono ?_; rintro e w6 ⟨rfl, hb⟩; have B6 := Hn (bl_trans B5.out hb); clear hb B5))
 have C6 := Hn (bl_trans B6.out (bl_alloc w6 (.cells #[.slice none 0 0, .slice none 0 0, .slice none 0 0, .slice none 0 0, .int .u64 0, .int .u64 0, .int .u64 0, .int .u64 0] 44)))
 clear B6
 go_wp2_with (first | (go_at_call 27; refine (ns_Require (HN.out.keep C6.out)).mono ?_; rintro e w7 ⟨rfl, rfl⟩) | (go_at_call 28; refine (ns_Holds (HN.out.keep C6.out)).mono ?_; rintro e w8 ⟨rfl, hb⟩; have B8 := Hn (bl_trans C6.out hb); clear hb C6) | (go_at_call 29; refine (ns_Gates (HN.out.keep B8.out)).mono ?_; rintro e w9 ⟨rfl, rfl⟩) | (go_at_call 30; refine (ns_Values (HN.out.keep B8.out)).mono ?_; rintro e w10 ⟨rfl, rfl⟩) | (go_at_call 31; refine (ns_Requires (HN.out.keep B8.out)).mono ?_; rintro e w11 ⟨rfl, rfl⟩) | (go_at_call 32; refine (ns_Clone (HN.out.keep B8.out)).mono ?_; rintro e w12 ⟨rfl, rfl⟩) | (go_at_call 33; refine (ns_Encode (HN.out.keep B8.out)).mono ?_; rintro e w13 ⟨rfl, rfl⟩))
 exact bodyPost_ret (v := .bool true) (by simp [results, Tryz.results6, go_sem]) rfl ⟨rfl, B8.out⟩
end Ci
end Go.Proofs.YtghcfcglakbkeaaGreatDoor
namespace Go.Proofs.YtghcfcglakbkeaaGreatDoor
set_option maxRecDepth 100000
set_option maxHeartbeats 16000000
open Go.RowKit
set_option linter.unusedVariables false
set_option linter.unusedSimpArgs false
open Cm (Wr Tm co bf Ls lf ins Eqm)
namespace Ci
theorem Pj.rowP {wi x y : World} {m b n s : Nat} {p : Pr} {v : Value} {xs : List Value} (h : Pj wi m p x) (hu : x.ownsRow b 28 s v n xs) (g : x.grownBy y v.ownBlock) : Pj wi m p y := by
 have nbk : ∀ {B : Nat} {arr : Array Value} {T : TypeId}, x.heap[B]? = some (.cells arr T (0, 0)) → 28 ≠ T → y.heap[B]? = some (.cells arr T (0, 0)) := fun hB e1 => hb_kd hB hu e1 g
 have ok : ∀ {b n s : Nat} {e : TypeId} {u : Value} {xs : List Value}, x.ownsRow b e s u n xs → e ≠ 28 → y.ownsRow b e s u n xs := fun ho e1 => own_kept ho hu e1 g
 refine ⟨nbk h.hb (by decide), ⟨nbk h.sy.h (by decide), ok h.sy.row (by decide), fun i X hX => ?_, h.sy.bs, h.sy.sm⟩, ⟨nbk h.dy.h (by decide), ok h.dy.row (by decide), fun i X hX => ?_, h.dy.bs, h.dy.sm⟩, h.ok, h.lo⟩
 ·obtain ⟨u, c1, c2⟩ := h.sy.ls i X hX
  exact ⟨u, c1, ok c2 (by decide)⟩
 ·obtain ⟨u, c1, c2⟩ := h.dy.ls i X hX
  exact ⟨u, c1, ok c2 (by decide)⟩
def pp (q : Pr) : Value := .pointer (some ⟨q.b, 0, none⟩)
structure Bt (w : World) (m : Nat) (p : Pr) (As : List Pr) (v : Value) (x : World) : Prop where
 pj : Pj w m p x
 sd : ∀ q ∈ As, Pj w m q x ∧ Ne p q
 row : x.ownsRow w.heap.size 28 1 v As.length (As.map pp)
 bel : Below w.heap.size w x
structure Bq (w : World) (m : Nat) (p : Pr) (As : List Pr) (v : Value) (x : World) : Prop where
 pj : Pj w m p x
 sd : ∀ q ∈ As, Pj w m q x
 row : x.ownsRow w.heap.size 28 1 v (As.length + 1) (As.map pp ++ [pp p])
 bel : Below w.heap.size w x
section
variable {w x y : World} {m : Nat} {p : Pr} {As : List Pr} {v : Value}
theorem Bt.keep (h : Bt w m p As v x) (hb : Below x.heap.size x y) : Bt w m p As v y :=
 ⟨h.pj.keep hb, fun q hq => ⟨(h.sd q hq).1.keep hb, (h.sd q hq).2⟩, own_keepT h.row hb, bl_trans h.bel hb⟩
theorem Bq.keep (h : Bq w m p As v x) (hb : Below x.heap.size x y) : Bq w m p As v y :=
 ⟨h.pj.keep hb, fun q hq => (h.sd q hq).keep hb, own_keepT h.row hb, bl_trans h.bel hb⟩
theorem Bt.step {e : Ending} (h : Bt w m p As v x) (hs : StP w m p x e y) : ∃ p2 : Pr, p2.b = p.b ∧ Bt w m p2 As v y := by
 obtain ⟨_, p2, e1, e2, e3, pj, gs, fv, fu⟩ := hs
 refine ⟨p2, e1, pj, fun q hq => ?_, gs.own h.row (h.pj.out h.row (by decide) (by decide) (by decide) (by decide)), h.bel.trans (gs.below h.bel.size h.pj.lo)⟩
 obtain ⟨a, n⟩ := h.sd q hq
 refine ⟨a.aside h.pj n gs, by rw [e2]; exact n.s, by rw [e3]; exact n.r, fun k hk e => ?_, fun k hk e => ?_⟩
 ·rcases fv k e with e9 | e9
  ·exact n.v k hk e9
  ·have := a.lt k (.inr (.inr (.inl hk))); omega
 ·rcases fu k e with e9 | e9
  ·exact n.u k hk e9
  ·have := a.lt k (.inr (.inr (.inr hk))); omega
theorem Bt.app {v2 : Value} (h : Bt w m p As v x) (ho : y.ownsRow w.heap.size 28 1 v2 (As.length + 1) (As.map pp ++ [pp p])) (hg : x.grownBy y v.ownBlock) : Bq w m p As v2 y :=
 ⟨h.pj.rowP h.row hg, fun q hq => (h.sd q hq).1.rowP h.row hg, ho, h.bel.grown hg h.bel.size (fun k hk => (h.row.lt k hk).1)⟩
theorem Sy.low {base b2 s Kg : Nat} {u : Value} {vs : List Value} {Q : List (List Tm)} (h : Sy base x s m Kg u vs Q) (hb : b2 ≤ base) : Sy b2 x s m Kg u vs Q := ⟨h.h, own_monoT h.row hb, h.ls, Nat.le_trans hb h.bs, h.sm⟩
theorem Dy.low {base b2 s Kg : Nat} {u : Value} {vs : List Value} {Q : List (List Tm)} (h : Dy base x s m Kg u vs Q) (hb : b2 ≤ base) : Dy b2 x s m Kg u vs Q := ⟨h.h, own_monoT h.row hb, h.ls, Nat.le_trans hb h.bs, h.sm⟩
theorem pj_new {W : World} {b s r K : Nat} {Q : List (List Tm)} {v4 v9 : Value} {xs ys : List Value} (hw : w.heap.size ≤ W.heap.size) (hY : okY m K Q) (h1 : Sy W.heap.size y s m K v4 xs Q) (h2 : Dy W.heap.size y r m K v9 ys Q) (h3 : y.heap[b]? = some (.cells #[.pointer (some ⟨s, 0, none⟩), .pointer (some ⟨r, 0, none⟩)] 49 (0, 0))) : Pj w m ⟨b, s, r, K, Q, v4, xs, v9, ys⟩ y :=
 ⟨h3, h1.low (Nat.zero_le _), h2.low (Nat.zero_le _), hY, fun i hi => by
  have a1 := h1.bs
  have a2 := h2.bs
  rcases hi with hi | hi | hi | hi
  ·have e : i = s := hi
   omega
  ·have e : i = r := hi
   omega
  ·have := (h1.row.lt i hi).1
   omega
  ·have := (h2.row.lt i hi).1
   omega⟩
theorem Bq.clone {W : World} {b s r : Nat} {v4 v9 : Value} {xs ys : List Value} (h : Bq w m p As v W) (hb : Below W.heap.size W y) (h1 : Sy W.heap.size y s m p.K v4 xs p.Q) (h2 : Dy W.heap.size y r m p.K v9 ys p.Q) (h3 : y.heap[b]? = some (.cells #[.pointer (some ⟨s, 0, none⟩), .pointer (some ⟨r, 0, none⟩)] 49 (0, 0))) : Bt w m ⟨b, s, r, p.K, p.Q, v4, xs, v9, ys⟩ (As ++ [p]) v y := by
 refine ⟨pj_new h.bel.size h.pj.ok h1 h2 h3, fun q hq => ?_, ?_, bl_trans h.bel hb⟩
 ·have a : Pj w m q W := by
   rcases List.mem_append.1 hq with e | e
   ·exact h.sd q e
   ·rw [List.mem_singleton.1 e]; exact h.pj
  have a1 := h1.bs
  have a2 := h2.bs
  have b1 := a.sy.lt
  have b2 := a.dy.lt
  refine ⟨a.keep hb, (by omega : q.s ≠ s), (by omega : q.r ≠ r), fun k hk e => ?_, fun k hk e => ?_⟩
  ·have := (h1.row.lt k e).1
   have := a.lt k (.inr (.inr (.inl hk)))
   omega
  ·have := (h2.row.lt k e).1
   have := a.lt k (.inr (.inr (.inr hk)))
   omega
 ·have e1 : (As ++ [p]).length = As.length + 1 := by simp
  have e2 : (As ++ [p]).map pp = As.map pp ++ [pp p] := by simp
  rw [e1, e2]
  exact own_keepT h.row hb
theorem New_p {w : World} {m : Nat} (hT : Tb w) (hm : m ≤ 16) : Calls Tryz.prog 34 #[.int .i64 (m : Int)] w fun e w' => ∃ s v vs, e = .returned (.tuple #[.pointer (some ⟨s, 0, none⟩), .int .i64 0]) ∧ Sy w.heap.size w' s m m v vs (enl m) ∧ Below w.heap.size w w' ∧ okY m m (enl m) :=
 (New_any m w hT hm).mono fun e w' h => by
  obtain ⟨he, hn⟩ := h
  have ts := tsNew hm (Below.refl w.heap.size w) hn
  obtain ⟨Pv, cv, vs, sy, hb⟩ := hn
  obtain ⟨b9, v9, vs9, sy9, _, _, wk⟩ := ts
  exact ⟨_, _, vs, he, sy, hb, okY_of wk hm sy9.sm⟩
theorem dNew_p {w : World} {m : Nat} (hm : m ≤ 16) : Calls Tryz.prog 15 #[.int .i64 (m : Int)] w fun e w' => ∃ s v vs, e = .returned (.tuple #[.pointer (some ⟨s, 0, none⟩), .int .i64 0]) ∧ Dy w.heap.size w' s m m v vs (enl m) ∧ Below w.heap.size w w' :=
 (dNew_any m w hm).mono fun e w' h => by
  obtain ⟨he, Pv, cv, vs, sy, hb⟩ := h
  exact ⟨_, _, vs, he, sy, hb⟩
end
def CsP (B m K : Nat) (xs : List Value) (Q : List (List Tm)) (y : World) (e : Ending) (z : World) : Prop := ∃ s4 v4, e = .returned (.pointer (some ⟨s4, 0, none⟩)) ∧ Sy B z s4 m K v4 xs Q ∧ Below y.heap.size y z
def CdP (B m K : Nat) (xs : List Value) (Q : List (List Tm)) (y : World) (e : Ending) (z : World) : Prop := ∃ r4 v4, e = .returned (.pointer (some ⟨r4, 0, none⟩)) ∧ Dy B z r4 m K v4 xs Q ∧ Below y.heap.size y z
theorem cs_of {W y : World} {base s m K : Nat} {v : Value} {vs : List Value} {Q : List (List Tm)} (h : Sy base W s m K v vs Q) (hq : Q.length ≤ 4096) (hb : Below W.heap.size W y) : Calls Tryz.prog 32 #[.pointer (some ⟨s, 0, none⟩)] y fun e z => CsP W.heap.size m K vs Q y e z :=
 (SysClone_newA (h.keep hb) hq).mono fun e z h => by
  obtain ⟨he, ⟨v4, sy⟩, hz⟩ := h
  exact ⟨_, v4, he, sy.low hb.size, hz⟩
theorem cd_of {W y : World} {base s m K : Nat} {v : Value} {vs : List Value} {Q : List (List Tm)} (h : Dy base W s m K v vs Q) (hq : Q.length ≤ 4096) (hb : Below W.heap.size W y) : Calls Tryz.prog 35 #[.pointer (some ⟨s, 0, none⟩)] y fun e z => CdP W.heap.size m K vs Q y e z :=
 (dClone_new (h.keep hb) hq).mono fun e z h => by
  obtain ⟨r4, he, _, ⟨v4, sy⟩, hz⟩ := h
  exact ⟨r4, v4, he, sy.low hb.size, hz⟩
theorem boxP_run (s r : Nat) (w : World) : (Instr.box 49 (.agg #[.pointer (some ⟨s, 0, none⟩), .pointer (some ⟨r, 0, none⟩)])).run Tryz.prog w = .ok (.pointer (some ⟨w.heap.size, 0, none⟩)) (w.alloc (.cells #[.pointer (some ⟨s, 0, none⟩), .pointer (some ⟨r, 0, none⟩)] 49)) := by kernel_rfl
theorem wp_boxP {w : World} {o : Oper} {a : Act} {K : Act → World → Prop} {Q : Exit → Act → World → Prop} (x : Operand) (ho : o.op = .box 49 x) (s r : Nat) (hx : a.eval x = .agg #[.pointer (some ⟨s, 0, none⟩), .pointer (some ⟨r, 0, none⟩)]) (h : ∀ (tb : Nat) (wq : World), tb = w.heap.size → wq = w.alloc (.cells #[.pointer (some ⟨s, 0, none⟩), .pointer (some ⟨r, 0, none⟩)] 49) → K (a.put o.dst (.pointer (some ⟨tb, 0, none⟩))) wq) : o.wp Tryz.prog a w K Q := by
 have hr := boxP_run s r w
 unfold Oper.wp execOp
 simp only [ho, Sem.run_bind, Sem.run_pure, Result.andThen_ok, hx, hr]
 exact h _ _ rfl rfl
theorem prinfo : Tryz.prog.info? 28 = some (Tryz.prog.info? 28).get! := by kernel_rfl
def pEbr0 : String := "law.go:222"
def bu14o_0 : Oper := oO 58 (Op.move (Operand.tmp 11)) 28 pEbr0 #[]
def bu14o_1 : Oper := oO 59 (Op.nilCheck (Operand.tmp 58)) 0 pEbr0 #[DD 0]
def bu14o_2 : Oper := oO 60 (Op.fieldAddr 49 (Operand.tmp 59) 0) 0 pEbr0 #[DD 1]
def bu14o_3 : Oper := oO 61 (Op.load 23 (Operand.tmp 60)) 23 pEbr0 #[DD 2]
def bu14o_4 : Oper := oO 62 (Op.call { callee := Callee.value (Operand.func 32), args := #[Operand.tmp 61], argTypes := #[23] }) 23 pEbr0 #[DD 3]
def bu14o_5 : Oper := oO 63 (Op.move (Operand.tmp 11)) 28 pEbr0 #[]
def bu14o_6 : Oper := oO 64 (Op.nilCheck (Operand.tmp 63)) 0 pEbr0 #[DD 5]
def bu14o_7 : Oper := oO 65 (Op.fieldAddr 49 (Operand.tmp 64) 1) 0 pEbr0 #[DD 6]
def bu14o_8 : Oper := oO 66 (Op.load 47 (Operand.tmp 65)) 47 pEbr0 #[DD 7]
def bu14o_9 : Oper := oO 67 (Op.call { callee := Callee.value (Operand.func 35), args := #[Operand.tmp 66], argTypes := #[47] }) 47 pEbr0 #[DD 8, CH 4]
def bu14o_10 : Oper := oO 68 (Op.build 49 #[(0, Operand.tmp 62), (1, Operand.tmp 67)]) 49 pEbr0 #[DD 4, DD 9]
def bu14o_11 : Oper := oO 69 (Op.box 49 (Operand.tmp 68)) 28 pEbr0 #[DD 10]
def bu14o_12 : Oper := oO 11 (Op.assign (Operand.tmp 69)) 28 pEbr0 #[DD 11, CH 9, PH 0, PH 1, PH 2, PH 3, PH 4, PH 5, PH 6, PH 7, PH 8, PH 9, PH 10, PH 11]
def bu14o : Array Oper := #[bu14o_0, bu14o_1, bu14o_2, bu14o_3, bu14o_4, bu14o_5, bu14o_6, bu14o_7, bu14o_8, bu14o_9, bu14o_10, bu14o_11, bu14o_12]
theorem bu14 (Q : Exit → Act → World → Prop) (pb ps pr m Kk : Nat) (xs ys : List Value) (Qq : List (List Tm)) (u0 u1 u2 u3 u4 u5 u6 u7 u8 u9 aa ab ad ae af ag ah ai aj ak al am an ao ap aq au av aw ax ay az aA aB aC aD aE aF aG aH aI aJ aK aL aM aN aO aP aQ aR aS aT aU aV aW aX aY aZ a3 a4 a5 a6 a7 a8 a9 ba bb bc bd be bg bh bi bj bk bl bm bn bo bp bq br bt : Value) (W : World)
  (c0 : W.cell? ⟨pb, 0, none⟩ = some (.pointer (some ⟨ps, 0, none⟩))) (c1x : W.cell? ⟨pb, 1, none⟩ = some (.pointer (some ⟨pr, 0, none⟩)))
  (C4 : Hid (∀ y, Below W.heap.size W y → Calls Tryz.prog 32 #[.pointer (some ⟨ps, 0, none⟩)] y fun e z => CsP W.heap.size m Kk xs Qq y e z))
  (C9 : Hid (∀ y, Below W.heap.size W y → Calls Tryz.prog 35 #[.pointer (some ⟨pr, 0, none⟩)] y fun e z => CdP W.heap.size m Kk ys Qq y e z))
  (HQ : Hid (∀ (wz : World) (s4 r4 tb : Nat) (v4 v9 : Value), Below W.heap.size W wz → Sy W.heap.size wz s4 m Kk v4 xs Qq → Dy W.heap.size wz r4 m Kk v9 ys Qq → wz.heap[tb]? = some (.cells #[.pointer (some ⟨s4, 0, none⟩), .pointer (some ⟨r4, 0, none⟩)] 49 (0, 0)) → Q .normal ⟨#[u0, u1, u2, u3, u4, u5, u6, u7, u8, u9, aa, .pointer (some ⟨tb, 0, none⟩), ab, ad, ae, af, ag, ah, ai, aj, ak, al, am, an, ao, ap, aq, au, av, aw, ax, ay, az, aA, aB, aC, aD, aE, aF, aG, aH, aI, aJ, aK, aL, aM, aN, aO, aP, aQ, aR, aS, aT, aU, aV, aW, aX, aY, .pointer (some ⟨pb, 0, none⟩), .pointer (some ⟨pb, 0, none⟩), .pointer (some ⟨pb, 0, none⟩), .pointer (some ⟨ps, 0, none⟩), .pointer (some ⟨s4, 0, none⟩), .pointer (some ⟨pb, 0, none⟩), .pointer (some ⟨pb, 0, none⟩), .pointer (some ⟨pb, 1, none⟩), .pointer (some ⟨pr, 0, none⟩), .pointer (some ⟨r4, 0, none⟩), .agg #[.pointer (some ⟨s4, 0, none⟩), .pointer (some ⟨r4, 0, none⟩)], .pointer (some ⟨tb, 0, none⟩), be, bg, bh, bi, bj, bk, bl, bm, bn, bo, bp, bq, br, bt], []⟩ wz)) : (Code.region 14 bu14o true).wp Tryz.prog Q ⟨#[u0, u1, u2, u3, u4, u5, u6, u7, u8, u9, aa, .pointer (some ⟨pb, 0, none⟩), ab, ad, ae, af, ag, ah, ai, aj, ak, al, am, an, ao, ap, aq, au, av, aw, ax, ay, az, aA, aB, aC, aD, aE, aF, aG, aH, aI, aJ, aK, aL, aM, aN, aO, aP, aQ, aR, aS, aT, aU, aV, aW, aX, aY, aZ, a3, a4, a5, a6, a7, a8, a9, ba, bb, bc, bd, be, bg, bh, bi, bj, bk, bl, bm, bn, bo, bp, bq, br, bt], []⟩ W := by
 unfold bu14o
 refine wp_region_noPanic ?_
 refine wp_region_held_drew (S := fun x => Below W.heap.size W x) (by kernel_rfl) (bl_drew W) (fun hH0 => ?_)
 refine tj 0 bu14o_0 (.pointer (some ⟨pb, 0, none⟩)) hH0 (fun w0 hSw => ?_) ?_
 ·(unfold bu14o_0 oO; clear hSw; go_simp)
 simp only [bu14o_0, oO, Act.put, sA, sB, sC]
 refine tj 5 bu14o_5 (.pointer (some ⟨pb, 0, none⟩)) hH0 (fun w0 hSw => ?_) ?_
 ·(unfold bu14o_5 oO; clear hSw; go_simp)
 simp only [bu14o_5, oO, Act.put, sA, sB, sC]
 refine tj 1 bu14o_1 (.pointer (some ⟨pb, 0, none⟩)) hH0 (fun w0 hSw => ?_) ?_
 ·(unfold bu14o_1 oO; clear hSw; go_simp)
 simp only [bu14o_1, oO, Act.put, sA, sB, sC]
 refine tj 6 bu14o_6 (.pointer (some ⟨pb, 0, none⟩)) hH0 (fun w0 hSw => ?_) ?_
 ·(unfold bu14o_6 oO; clear hSw; go_simp)
 simp only [bu14o_6, oO, Act.put, sA, sB, sC]
 refine tj 2 bu14o_2 (.pointer (some ⟨pb, 0, none⟩)) hH0 (fun w0 hSw => ?_) ?_
 ·(unfold bu14o_2 oO; clear hSw; go_simp)
 simp only [bu14o_2, oO, Act.put, sA, sB, sC]
 refine tj 7 bu14o_7 (.pointer (some ⟨pb, 1, none⟩)) hH0 (fun w0 hSw => ?_) ?_
 ·(unfold bu14o_7 oO; clear hSw; go_simp)
 simp only [bu14o_7, oO, Act.put, sA, sB, sC]
 refine tj 3 bu14o_3 (.pointer (some ⟨ps, 0, none⟩)) hH0 (fun w0 hSw => ?_) ?_
 ·(unfold bu14o_3 oO; have hS : Below W.heap.size W w0 := hSw; have a0 := cell_keep c0 hS; clear hS hSw; go_simp)
 simp only [bu14o_3, oO, Act.put, sA, sB, sC]
 refine tj 8 bu14o_8 (.pointer (some ⟨pr, 0, none⟩)) hH0 (fun w0 hSw => ?_) ?_
 ·(unfold bu14o_8 oO; have hS : Below W.heap.size W w0 := hSw; have a0 := cell_keep c1x hS; clear hS hSw; go_simp)
 simp only [bu14o_8, oO, Act.put, sA, sB, sC]
 refine ar [4] ?_
 refine ac bu14o_4 (fun K hK => ?_) AllReadyH.nil
 unfold bu14o_4 oO
 have HH := Hn hH0
 clear hH0
 go_simp
 refine (C4.out _ HH.out).mono ?_
 rintro e wn1 ⟨s4, v4, rfl, h1, hb⟩
 have SN := Hn (bl_trans HH.out hb)
 have SY := Hn (h1)
 clear HH C4 h1 hb
 go_wp2_with fail
 refine hK.out _ _ SN.out (fun hH1 => ?_)
 clear hK K SN
 refine ar [9] ?_
 refine ac bu14o_9 (fun K hK => ?_) AllReadyH.nil
 unfold bu14o_9 oO
 have HH := Hn hH1
 clear hH1
 go_simp
 refine (C9.out _ HH.out).mono ?_
 rintro e wn2 ⟨r4, v9, rfl, h1, hb⟩
 have SN := Hn (bl_trans HH.out hb)
 replace SY := Hn (SY.out.keep hb)
 have DY := Hn (h1)
 clear HH C9 h1 hb
 go_wp2_with fail
 refine hK.out _ _ SN.out (fun hH2 => ?_)
 clear hK K SN
 refine tj 10 bu14o_10 (.agg #[.pointer (some ⟨s4, 0, none⟩), .pointer (some ⟨r4, 0, none⟩)]) hH2 (fun w0 hSw => ?_) ?_
 ·(unfold bu14o_10 oO; clear hSw; go_simp)
 simp only [bu14o_10, oO, Act.put, sA, sB, sC]
 refine ar [11] ?_
 refine ac bu14o_11 (fun K hK => ?_) AllReadyH.nil
 unfold bu14o_11 oO
 have HH := Hn hH2
 clear hH2
 refine wp_boxP _ rfl s4 r4 rfl (fun tb wn3 hsb hwq => ?_)
 have SN := Hn ((by rw [hwq]; exact bl_trans HH.out (bl_alloc _ _) : Below W.heap.size W wn3))
 have FB := Hn ((by rw [hwq, hsb]; exact ⟨heap_alloc_new _ _, SY.out.keep (bl_alloc _ _), DY.out.keep (bl_alloc _ _)⟩ : wn3.heap[tb]? = some (.cells #[.pointer (some ⟨s4, 0, none⟩), .pointer (some ⟨r4, 0, none⟩)] 49 (0, 0)) ∧ Sy W.heap.size wn3 s4 m Kk v4 xs Qq ∧ Dy W.heap.size wn3 r4 m Kk v9 ys Qq))
 clear HH hsb hwq SY DY
 simp only [Act.put, sA, sB, sC]
 refine hK.out _ _ SN.out (fun hH3 => ?_)
 clear hK K SN
 refine tj 12 bu14o_12 (.pointer (some ⟨tb, 0, none⟩)) hH3 (fun w0 hSw => ?_) ?_
 ·(unfold bu14o_12 oO; clear hSw; go_simp)
 simp only [bu14o_12, oO, Act.put, sA, sB, sC]
 have HH := Hn hH3
 have FQ := Hn (HQ.out _ s4 r4 tb v4 v9 HH.out FB.out.2.1 FB.out.2.2 FB.out.1)
 refine wpAnyH_done (by kernel_rfl) ?_ _
 refine NoPanic.normal ?_
 exact FQ.out
end Ci
end Go.Proofs.YtghcfcglakbkeaaGreatDoor
namespace Go.Proofs.YtghcfcglakbkeaaGreatDoor
open Go.RowKit
set_option linter.unusedVariables false
set_option linter.unusedSimpArgs false
open Cm (Wr Tm co bf Ls lf ins Eqm)
namespace Ci
set_option maxRecDepth 100000
set_option maxHeartbeats 16000000
def BuP (w : World) (e : Ending) (y : World) : Prop := (e = .returned (.tuple #[.pointer none, .slice none 0 0, .bool true]) ∧ Below w.heap.size w y) ∨ ∃ m p As v, e = .returned (.tuple #[pp p, v, .bool true]) ∧ As.length ≤ 1048576 ∧ Bt w m p As v y
theorem built_bad {q : Int} {P : Option Addr} {n c : Nat} {w : World} (hq : q < 0 ∨ 16 < q) :
  Calls Tryz.prog 7 #[.int .i64 q, .slice P n c] w fun e y => BuP w e y := by
 have HQ := Hn hq
 have B0 := Hn (Below.refl w.heap.size w)
 clear hq
 go_enter Tryz.func7, Tryz.ntmps7
 go_wp2_with (first | (go_at_call 34; refine (New_bad _ _ HQ.out).mono ?_; rintro e w1 ⟨rfl, hw⟩; have B1 := Hn (by rw [hw]; exact B0.out : Below w.heap.size w w1); clear hw B0) | (go_at_call 15; refine (dNew_bad _ _ HQ.out).mono ?_; rintro e w2 ⟨rfl, hw⟩; have B2 := Hn (by rw [hw]; exact B1.out : Below w.heap.size w w2); clear hw B1) | (go_at_call 6; refine (lawNone_any (.inl rfl)).mono ?_; rintro e w3 ⟨rfl, hb⟩; have B3 := Hn (bl_trans B2.out hb); clear hb B2))
 exact bodyPost_ret (v := .tuple #[.pointer none, .slice none 0 0, .bool true]) (by simp [results, Tryz.results7, go_sem]) rfl (.inl ⟨rfl, B3.out⟩)
theorem built_good {m : Nat} {P : Option Addr} {n c : Nat} {g : Nat → Stp} {w : World} (hm : m ≤ 16) (hT : Tb w) (hM : Mk w) (hn : n ≤ 1048576) (hS : Scl w P n g) (hZ : ∀ k, k < n → ((g k).a.p = none → (g k).a.c = 0) ∧ ((g k).b.p = none → (g k).b.c = 0)) :
  Calls Tryz.prog 7 #[.int .i64 (m : Int), .slice P n c] w fun e y => BuP w e y := by
 have HM := Hn hm
 have HW := Hn (And.intro hT hM)
 have HS := Hn (And.intro hS hZ)
 have HN := Hn hn
 clear hm hT hM hS hZ hn
 go_enter Tryz.func7, Tryz.ntmps7
 go_upto_region 7 with (first | (go_at_call 34; refine (New_p HW.out.1 HM.out).mono ?_; rintro e w1 ⟨s, v, xs, rfl, h1, h2, h3⟩; have N1 := Hn (And.intro h1 (And.intro h2 h3)); clear h1 h2 h3) | (go_at_call 15; refine (dNew_p HM.out).mono ?_; rintro e w2 ⟨r, u, ys, rfl, h1, h2⟩; have N2 := Hn (And.intro h1 h2); clear h1 h2))
 have START : Hid (Bt w m ⟨w2.heap.size, s, r, m, enl m, v, xs, u, ys⟩ [] (.slice none 0 0) (w2.alloc (.cells #[.pointer (some ⟨s, 0, none⟩), .pointer (some ⟨r, 0, none⟩)] 49))) := Hn ⟨pj_new (Nat.le_refl _) N1.out.2.2 ((N1.out.1.keep N2.out.2).keep (bl_alloc _ _)) ((N2.out.1.low N1.out.2.1.size).keep (bl_alloc _ _)) (heap_alloc_new _ _), fun q hq => absurd hq (by simp), World.ownsRow_nil _ _ _ _, bl_trans (bl_trans N1.out.2.1 N2.out.2) (bl_alloc _ _)⟩
 clear N1 N2
 generalize e0 : (⟨w2.heap.size, s, r, m, enl m, v, xs, u, ys⟩ : Pr) = p0 at START
 have E0 : (.pointer (some ⟨w2.heap.size, 0, none⟩) : Value) = pp p0 := by rw [← e0]; rfl
 clear e0
 go_upto_region 10 with fail
 go_loopw [11, 12, 13] (fun pv av iv z => ∃ (i : Nat) (p : Pr) (As : List Pr), i ≤ n ∧ As.length ≤ i ∧ pv = .pointer (some ⟨p.b, 0, none⟩) ∧ iv = .int .i64 (i : Int) ∧ Hid (Bt w m p As av z)) (fun _ _ i _ => n - (intOf i).toNat)
 case atStart => exact ⟨0, p0, [], by omega, Nat.le_refl _, rfl, rfl, START⟩
 case round =>
  clear START E0
  obtain ⟨i, p, As, hi, hA, rfl, rfl, hB⟩ := hrel
  by_cases hin : i < n
  ·have i1 : (i : Int) < (n : Int) := by omega
   have i0 : (0 : Int) ≤ (i : Int) := by omega
   have w9 : IntKind.i64.wrap ((i : Int) + 1) = (i : Int) + 1 := IntWalk.i64_in _ (by have := HN.out; omega)
   obtain ⟨⟨sb, so, hPs, hSc⟩, hZ⟩ := HS.out
   obtain rfl := hPs (by omega)
   have sc := hSc (by omega)
   have hlt : sb < w.heap.size := World.block_lt_of_cell? w _ (sc.c0 i hin)
   have a0 := cell_keep (sc.c0 i hin) hB.out.bel
   have a1 := cell_keep (sc.c1 i hin) hB.out.bel
   have a2 := cell_keep (sc.c2 i hin) hB.out.bel
   have LA : Hid (Li w (g i).a) := Hn ⟨sc.la i hin, (hZ i hin).1⟩
   have LB : Hid (Li w (g i).b) := Hn ⟨sc.lb i hin, (hZ i hin).2⟩
   clear sc hSc hPs hZ
   generalize (g i).a = a at *
   generalize (g i).b = b at *
   generalize (g i).q = q at *
   by_cases q4 : q = 4
   ·subst q4
    clear a1 a2 LA LB
    have LN : Hid (As.length ≤ 1048575) := Hn (by have := HN.out; omega)
    have A1 := Hn (hB.out.keep (bl_alloc wr (.cells #[pp p] 28)))
    have A2 := Hn (cells_newT wr [pp p] 28)
    have A3 : Hid (∀ u ∈ ([pp p] : List Value), u.oneCell' = true) := Hn (by intro u hu; rw [List.mem_singleton.1 hu]; rfl)
    have A4 : Hid (As.length + 1 ≤ maxLen) := Hn (by have := LN.out; unfold maxLen; omega)
    have A5 : Hid ((As.length + 1) * 8 ≤ 140737488355328) := Hn (by have := LN.out; omega)
    have A6 : Hid (w.heap.size ≤ (wr.alloc (.cells #[pp p] 28)).heap.size) := Hn A1.out.bel.size
    clear hB
    go_upto_region 14 with (at_builtin; refine wpList_append_own_at _ rfl _ _ 29 rfl w.heap.size 28 _ (.pointer none) 1 8 (by kernel_rfl) prinfo (by kernel_rfl) (by kernel_rfl) (by kernel_rfl) rfl (by decide) _ As.length (As.map pp) rfl A1.out.row ⟨wr.heap.size, 0, none⟩ 1 1 [pp p] rfl rfl A2.out A3.out A4.out A5.out A6.out ?_; intro v2 w2 ho2 hg2 _ ht2; have NS := Hn (A1.out.app ho2 hg2); clear ho2 hg2 ht2)
    clear A1 A2 A3 A4 A5 A6
    have k0 := cell_of_row w2 p.b 0 _ _ (0, 0) NS.out.pj.hb
    have k1 := cell_of_row w2 p.b 1 _ _ (0, 0) NS.out.pj.hb
    have C4 := Hn (fun y (hb : Below w2.heap.size w2 y) => cs_of NS.out.pj.sy NS.out.pj.ok.2.2.1 hb)
    have C9 := Hn (fun y (hb : Below w2.heap.size w2 y) => cd_of NS.out.pj.dy NS.out.pj.ok.2.2.1 hb)
    refine bu14 _ p.b p.s p.r m p.K p.vs p.us p.Q _ _ _ _ _ _ _ _ _ _ _ _ _ _ _ _ _ _ _ _ _ _ _ _ _ _ _ _ _ _ _ _ _ _ _ _ _ _ _ _ _ _ _ _ _ _ _ _ _ _ _ _ _ _ _ _ _ _ _ _ _ _ _ _ _ _ _ _ _ _ _ _ _ _ _ _ _ _ _ _ _ _ _ w2 k0 k1 C4 C9 (Hn ?_)
    intro wz s4 r4 tb v4 v9 hb h1 h2 h3
    have NB := Hn (NS.out.clone hb h1 h2 h3)
    have kz := cell_of_row wz tb 0 _ _ (0, 0) h3
    clear NS C4 C9 k0 k1 hb h1 h2 h3
    go_wp2_with fail
    go_roundw
    case rel => exact ⟨i + 1, _, As ++ [p], by omega, by rw [List.length_append, List.length_singleton]; omega, rfl, by go_num, NB⟩
    case measure => simp [intOf]; omega
   ·have CS := Hn (step_any (wh := q) hB.out.pj HW.out.1 HW.out.2 LA.out LB.out hB.out.bel)
    go_wp2_with (go_at_call 36; refine CS.out.mono ?_; rintro e w5 hst; obtain ⟨p2, ep, hB2⟩ := hB.out.step hst; obtain rfl := hst.1; have NB := Hn hB2; clear hst hB2 CS)
    go_roundw
    case rel => exact ⟨i + 1, p2, As, by omega, by omega, by rw [ep], by go_num, NB⟩
    case measure => simp [intOf]; omega
  ·obtain rfl : i = n := by omega
   have lq : ¬ (i : Int) < (i : Int) := by omega
   have RS : Hid (BuP w (.returned (.tuple #[pp p, u12, .bool true])) wr) := Hn (.inr ⟨m, p, As, u12, rfl, by have := HN.out; omega, hB.out⟩)
   clear hB
   go_wp2_with fail
   exact bodyPost_ret (v := .tuple #[.pointer (some ⟨p.b, 0, none⟩), u12, .bool true]) (by simp [results, Tryz.results7, go_sem]) rfl RS.out
end Ci
end Go.Proofs.YtghcfcglakbkeaaGreatDoor
namespace Go.Proofs.YtghcfcglakbkeaaGreatDoor
open Go.RowKit
set_option linter.unusedVariables false
set_option linter.unusedSimpArgs false
open Cm (Wr Tm co bf Ls lf ins Eqm)
namespace Ci
set_option maxRecDepth 100000
set_option maxHeartbeats 16000000
theorem Bt.shape {w x : World} {m : Nat} {p : Pr} {As : List Pr} {v : Value} (h : Bt w m p As v x) : ∃ (P : Option Addr) (c : Nat), v = .slice P As.length c ∧ (0 < As.length → ∃ g, P = some ⟨g, 0, none⟩) := by
 rcases h.row.2 with ⟨h1, h2⟩ | ⟨g, c, cur, h1, _, _, h4, _⟩
 ·exact ⟨none, 0, by rw [h1, h2], fun h => by omega⟩
 ·exact ⟨_, c, h1, fun _ => ⟨g, rfl⟩⟩
theorem Bt.at {w x : World} {m i g c : Nat} {p : Pr} {As : List Pr} (h : Bt w m p As (.slice (some ⟨g, 0, none⟩) As.length c) x) (hi : i < As.length) : x.cell? ⟨g, i, none⟩ = some (.pointer (some ⟨(As[i]'hi).b, 0, none⟩)) := by
 rw [h.row.cellAt i (by omega), List.getElem?_map, List.getElem?_eq_getElem hi]
 rfl
theorem built_any {q : Int} {P : Option Addr} {n c : Nat} {g : Nat → Stp} {w : World} (hT : Tb w) (hM : Mk w) (hn : n ≤ 1048576) (hS : Scl w P n g) (hZ : ∀ k, k < n → ((g k).a.p = none → (g k).a.c = 0) ∧ ((g k).b.p = none → (g k).b.c = 0)) :
  Calls Tryz.prog 7 #[.int .i64 q, .slice P n c] w fun e y => BuP w e y := by
 by_cases hq : q < 0 ∨ 16 < q
 ·exact built_bad hq
 ·obtain ⟨m, rfl⟩ : ∃ m : Nat, q = (m : Int) := ⟨q.toNat, by omega⟩
  exact built_good (by omega) hT hM hn hS hZ
def BuV (w : World) (pv av : Value) (y : World) : Prop := (pv = .pointer none ∧ Below w.heap.size w y) ∨ ∃ m p As P c, pv = pp p ∧ av = .slice P As.length c ∧ (0 < As.length → ∃ g, P = some ⟨g, 0, none⟩) ∧ As.length ≤ 1048576 ∧ Bt w m p As (.slice P As.length c) y
theorem BuP.un {w y : World} {e : Ending} (h : BuP w e y) : ∃ pv av, e = .returned (.tuple #[pv, av, .bool true]) ∧ BuV w pv av y := by
 rcases h with ⟨h1, h2⟩ | ⟨m, p, As, v, h1, h2, h3⟩
 ·exact ⟨_, _, h1, .inl ⟨rfl, h2⟩⟩
 ·obtain ⟨P, c, rfl, hg⟩ := h3.shape
  exact ⟨_, _, h1, .inr ⟨m, p, As, P, c, rfl, rfl, hg, h2, h3⟩⟩
theorem builds_any (q : Int) (P : Option Addr) (n c : Nat) (g : Nat → Stp) (w : World) (hT : Tb w) (hM : Mk w) (hn : n ≤ 1048576) (hS : Scl w P n g) (hZ : ∀ k, k < n → ((g k).a.p = none → (g k).a.c = 0) ∧ ((g k).b.p = none → (g k).b.c = 0)) :
  Calls Tryz.prog 3 #[.int .i64 q, .slice P n c] w fun e y => e = .returned (.bool true) ∧ Below w.heap.size w y := by
 have HW := Hn (And.intro hT hM)
 have HB : Hid (∀ y, Below w.heap.size w y → Calls Tryz.prog 7 #[.int .i64 q, .slice P n c] y fun e z => BuP y e z) := Hn (fun y hb => built_any (hT.keep hb) (hM.keep hb) hn (hS.keep hb) hZ)
 have B0 := Hn (Below.refl w.heap.size w)
 clear hT hM hn hS hZ
 go_enter Tryz.func3, Tryz.ntmps3
 go_upto_region 4 with (first | (have _t := B0; go_at_call 6; refine (lawNone_any (.inl rfl)).mono ?_; rintro e w1 ⟨rfl, hb⟩; have B1 := Hn (bl_trans B0.out hb); have NW := Hn (heap_alloc_new w1 (.cells #[.int .i64 0, .int .i64 0, .slice none 0 0, .bool false] 27)); clear hb B0) | (have _t := B1; go_at_call 6; refine (lawNone_any (.inr ⟨w1.heap.size, rfl, NW.out⟩)).mono ?_; rintro e w2 ⟨rfl, hb⟩; have B2 := Hn (bl_trans (bl_trans B1.out (bl_alloc _ _)) hb); clear hb B1 NW))
 go_upto_region 5 with (go_at_call 7; refine (HB.out _ B2.out).mono ?_; rintro e w4 hbu; obtain ⟨pv, av, rfl, hv⟩ := hbu.un; have HV := Hn hv; clear hbu hv)
 clear HB
 rcases HV.out with ⟨rfl, hb⟩ | ⟨m, p, As, PA, ca, rfl, rfl, hg, hl, hbt⟩
 ·have B4 := Hn (bl_trans B2.out hb)
  clear HV hb
  go_wp2_with fail
  exact bodyPost_ret (v := .bool true) (by simp [results, Tryz.results3, go_sem]) rfl ⟨rfl, B4.out⟩
 ·have T2 := Hn (HW.out.1.keep B2.out)
  have M2 := Hn (HW.out.2.keep B2.out)
  have HG := Hn (And.intro hg hl)
  have BT := Hn hbt
  clear HV hg hl hbt HW
  unfold pp
  go_upto_region 8 with fail
  go_loopw [9] (fun iv z => ∃ i : Nat, i ≤ As.length ∧ iv = .int .i64 (i : Int) ∧ Hid (Bt w2 m p As (.slice PA As.length ca) z)) (fun i _ => As.length - (intOf i).toNat)
  case atStart => exact ⟨0, by omega, rfl, BT⟩
  case round =>
   clear BT
   obtain ⟨i, hi, rfl, hB⟩ := hrel
   by_cases hin : i < As.length
   ·have i1 : (i : Int) < (As.length : Int) := by omega
    have i0 : (0 : Int) ≤ (i : Int) := by omega
    have w9 : IntKind.i64.wrap ((i : Int) + 1) = (i : Int) + 1 := IntWalk.i64_in _ (by have := HG.out.2; omega)
    obtain ⟨g2, rfl⟩ := HG.out.1 (by omega)
    have a0 := hB.out.at hin
    have SA := Hn (same_any (hB.out.sd _ (List.getElem_mem hin)).1 T2.out M2.out hB.out.bel)
    generalize As[i]'hin = q at a0 SA
    go_wp2_with (go_at_call 8; refine SA.out.mono ?_; rintro e w5 ⟨rfl, hb⟩; have NB := Hn (hB.out.keep hb); clear hb SA)
    go_roundw
    case rel => exact ⟨i + 1, by omega, by go_num, NB⟩
    case measure => simp [intOf]; omega
   ·have ei : i = As.length := by omega
    have lq : ¬ (i : Int) < (As.length : Int) := by omega
    have B9 := Hn (Below.refl wr.heap.size wr)
    go_wp2_with (go_at_call 8; refine (same_any (hB.out.pj.keep B9.out) T2.out M2.out (bl_trans hB.out.bel B9.out)).mono ?_; rintro e w5 ⟨rfl, hb⟩; replace B9 := Hn (bl_trans B9.out hb); clear hb)
    exact bodyPost_ret (v := .bool true) (by simp [results, Tryz.results3, go_sem]) rfl ⟨rfl, bl_trans B2.out (bl_trans hB.out.bel B9.out)⟩
end Ci
end Go.Proofs.YtghcfcglakbkeaaGreatDoor
