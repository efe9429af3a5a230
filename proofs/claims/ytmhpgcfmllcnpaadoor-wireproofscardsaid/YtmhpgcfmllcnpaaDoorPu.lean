import Derived.Test.YtmhpgcfmllcnpaaDoorPt
namespace Go.Proofs.YtmhpgcfmllcnpaaDoor
open Go.RowKit
set_option linter.unusedVariables false
theorem winfo : (Tryd.prog.info? 28).map (·.size) = some 38 := by kernel_rfl
theorem bl_of {w w1 w2 : World} (h1 : Below w.heap.size w w1) (h2 : Below w1.heap.size w1 w2) : Below w.heap.size w w2 := bl_trans h1 h2
theorem dec_good (P : Option Addr) (c k : Nat) (l : List UInt8) (w : World) (hT : Tb w) (hB : Tr.By w P c l) (hk : DOk l k) :
    Calls Tryd.prog 7 #[.slice P l.length c] w fun e w' => ∃ (sy : Nat → E4) (P1 : Option Addr) (c1 : Nat) (P2 : Option Addr) (c2 : Nat), sy = gs l k ∧ e = .returned (.tuple #[.agg (pc sy (.slice P1 k c1) (.slice P2 k c2)).toArray, .int .i64 0]) ∧ Below w.heap.size w w' ∧ Lm w' P1 k (gl l) ∧ Lm w' P2 k (gr l) ∧ (∀ a, P1 = some a → a.block < w'.heap.size) ∧ (∀ a, P2 = some a → a.block < w'.heap.size) := by
  refine (dec_all P c l w hT hB (by have := hk.2.1; have := hk.1; omega)).mono fun e w' ⟨s, P1, n1, c1, P2, n2, c2, er, he, hb, hc⟩ => ?_
  rcases hc with ⟨h0, k', hk', e1, e2, e3, h1, h2, h3, h4⟩ | ⟨_, hn⟩
  · have ek : k' = k := by have := hk.2.1; have := hk'.2.1; omega
    subst ek
    rw [h0, e1, e2, e3] at he
    exact ⟨_, P1, c1, P2, c2, rfl, he, hb, h1, h2, h3, h4⟩
  · exact absurd hk (hn k)
theorem pe_dok (k : Nat) (s l r : Nat → E4) (hk : k ≤ 10) : DOk (pe k s l r) k := ⟨hk, pe_len k s l r, fun j hj => (back_st k s l r j hj).1⟩
theorem alike_back (k : Nat) (s l r : Nat → E4) (hk : k ≤ 10) (P1 P2 P3 P4 : Option Addr) (c1 c2 c3 c4 : Nat) (w : World) (hT : Tb w) (os : ∀ j, j < 9 → (s j).ok) (ol : ∀ j, j < k → (l j).ok) (or : ∀ j, j < k → (r j).ok) (h1 : Lm w P1 k l) (h2 : Lm w P2 k r) (h3 : Lm w P3 k (gl (pe k s l r))) (h4 : Lm w P4 k (gr (pe k s l r))) :
    Calls Tryd.prog 8 #[.agg (pc s (.slice P1 k c1) (.slice P2 k c2)).toArray, .agg (pc (gs (pe k s l r) k) (.slice P3 k c3) (.slice P4 k c4)).toArray] w fun e w' => e = .returned (.bool true) ∧ Below w.heap.size w w' :=
  alike_any s (gs (pe k s l r) k) l (gl (pe k s l r)) r (gr (pe k s l r)) P1 P2 P3 P4 k c1 c2 c3 c4 w hT hk os (fun j _ => gs_ok _ _ _) ol or (fun j _ => gv_ok _ _) (fun j _ => gv_ok _ _) h1 h2 h3 h4 true ⟨fun _ => all_st.2 (fun j hj => by rw [st_g _ k j hj, gv_lst, (back_st k s l r j hj).2]), fun _ => rfl⟩
set_option maxRecDepth 100000 in
set_option maxHeartbeats 32000000 in
theorem proofs_any (s l r : Nat → E4) (LP RP : Option Addr) (n m cL cR : Nat) (b c : List UInt8) (BP CP : Option Addr) (cb cc : Nat) (w : World) (hT : Tb w) (hn : n * 32 ≤ 140737488355328) (hm : m * 32 ≤ 140737488355328) (os : ∀ k, k < 9 → (s k).ok) (ol : ∀ k, k < n → (l k).ok) (or : ∀ k, k < m → (r k).ok) (hL : Lm w LP n l) (hR : Lm w RP m r)
    (hb : Tr.By w BP cb b) (hc : Tr.By w CP cc c) (lb : b.length ≤ 140737488355328) (lc : c.length ≤ 140737488355328) :
    Calls Tryd.prog 3 #[.agg (pc s (.slice LP n cL) (.slice RP m cR)).toArray, .slice BP b.length cb, .slice CP c.length cc] w fun e w' => e = .returned (.bool true) ∧ Below w.heap.size w w' := by
  have HT := hidden (fun x (h : Below w.heap.size w x) => hT.keep h)
  have DB := hidden (fun x (h : Below w.heap.size w x) => dec_all BP cb b x (hT.keep h) (hb.keep h) lb)
  have DC := hidden (fun x (h : Below w.heap.size w x) => dec_all CP cc c x (hT.keep h) (hc.keep h) lc)
  have LN := hidden (fun x (h : Below w.heap.size w x) => line_any s l r LP RP n m cL cR x hn hm (hL.keep h) (hR.keep h))
  have HBY := hidden (fun x (h : Below w.heap.size w x) => And.intro (hb.keep h) (hc.keep h))
  have HO := hidden (And.intro os (And.intro ol or))
  obtain ⟨Q1, hQ1⟩ : ∃ P, P = pc s (.slice LP n cL) (.slice RP m cR) := ⟨_, rfl⟩
  rw [← hQ1]
  have QL : Hid (Q1.length = 38) := hidden (by rw [hQ1]; rfl)
  have B0 := bl_alloc w (.cells Q1.toArray 28)
  have X0 := range_newM w Q1 28
  have a28 := X0 28 (.slice LP n cL) (by rw [hQ1]; rfl)
  have a29 := X0 29 (.slice RP m cR) (by rw [hQ1]; rfl)
  simp only [Nat.zero_add] at a28 a29
  have X1 := hidden X0
  have C28 := hidden (And.intro a28 a29)
  have BX := hidden B0
  have I1 : Hid ((Tryd.prog.info? 28).map (·.size) = some Q1.length) := hidden (by rw [QL.out]; exact winfo)
  have UW : Hid (Tryd.prog.underlying 28 = _) := hidden Tryd.underlying28
  have UP : Hid (Tryd.prog.underlying 35 = _) := hidden Tryd.underlying35
  rw [← hQ1] at LN
  generalize hW : w.alloc (.cells Q1.toArray 28) = W at X1 C28 BX
  clear B0 X0 a28 a29 hT hb hc lb lc hn hm hL hR os ol or hQ1
  go_enter Tryd.func3, Tryd.ntmps3
  go_upto_region 3 with (first | (go_at_call 4; refine (Tr.live_any _).mono ?_; rintro e wa ⟨rfl, ha⟩; have BA := hidden ha; clear ha hW))
  have X2 := hidden (range_keepM X1.out BA.out)
  have CA := hidden (And.intro (cell_keep C28.out.1 BA.out) (cell_keep C28.out.2 BA.out))
  replace BX := hidden (bl_trans BX.out BA.out)
  clear X1 C28 BA
  go_upto_region 4 with (first | refine wpList_load_mid rfl 28 _ rfl w.heap.size 0 (by rfl) Q1 _ X2.out UW.out rfl I1.out ?_ | (go_at_call 5; refine (LN.out _ BX.out).mono ?_; rintro e wb ⟨R1, k1, R2, k2, rfl, o1, o2, hbb⟩; have O1 := hidden (own_down o1 BX.out.size); have O2 := hidden (own_down o2 BX.out.size); replace CA := hidden (And.intro (cell_keep CA.out.1 hbb) (cell_keep CA.out.2 hbb)); replace BX := hidden (bl_trans BX.out hbb); have TH := hidden (((Mw.start wb).new (pcv zero4 zero4 zero4 zero4 zero4 zero4 zero4 zero4 zero4 (.slice none 0 0) (.slice none 0 0)) 35).ther (pc s (.slice R1 n k1) (.slice R2 m k2)) (c := wb.heap.size) (o := pcv zero4 zero4 zero4 zero4 zero4 zero4 zero4 zero4 zero4 (.slice none 0 0) (.slice none 0 0)) (by simp) (by rw [pc_len]; rfl)); have MX := hidden (((Mw.start wb).new (pcv zero4 zero4 zero4 zero4 zero4 zero4 zero4 zero4 zero4 (.slice none 0 0) (.slice none 0 0)) 35).set (M := []) (pc s (.slice R1 n k1) (.slice R2 m k2)) (c := wb.heap.size) (o := pcv zero4 zero4 zero4 zero4 zero4 zero4 zero4 zero4 zero4 (.slice none 0 0) (.slice none 0 0)) (by simp) (by rw [pc_len]; rfl) (by simp)); clear o1 o2 hbb LN X2) | refine wpList_allocP rfl rfl ?_ | (refine wpList_storeL rfl 35 _ _ rfl rfl wb.heap.size 0 (pc s (.slice R1 n k1) (.slice R2 m k2)) (by rfl) (by rfl) TH.out (pc_i2 _ _ _) (pc_one _ _ _ _ _ _ _) ?_; generalize hV : (wb.alloc (.cells (pcv zero4 zero4 zero4 zero4 zero4 zero4 zero4 zero4 zero4 (.slice none 0 0) (.slice none 0 0)).toArray 35)).setCells wb.heap.size 0 (pc s (.slice R1 n k1) (.slice R2 m k2)) = V1 at MX ⊢; clear hV TH))
  have BN := hidden (bl_trans BX.out MX.out.bel)
  replace BX := BN
  clear BN
  have MXr := hidden (MX.out.r (wb.heap.size, pc s (.slice R1 n k1) (.slice R2 m k2)) (by simp)).1
  have MXb := hidden MX.out.bel
  clear MX
  generalize wb.heap.size = Y7 at MXr ⊢
  have L1 := hidden (own_lm (Tr.own_stay O1.out MXb.out))
  have L2 := hidden (own_lm (Tr.own_stay O2.out MXb.out))
  replace CA := hidden (And.intro (cell_keep CA.out.1 MXb.out) (cell_keep CA.out.2 MXb.out))
  clear O1 O2 MXb
  by_cases hA : n = m ∧ n ≤ 10
  · obtain ⟨rfl, hA⟩ := hA
    have EC := hidden (enc_ok s l r R1 R2 n k1 k2 V1 (HT.out V1 BX.out) hA HO.out.1 HO.out.2.1 HO.out.2.2 L1.out.1 L2.out.1 L1.out.2 L2.out.2)
    have HA := hidden hA
    have h11 : (n : Int) < 11 := by omega
    have MXs := hidden (show V1.rangeAt Y7 0 (pc s (.slice R1 n k1) (.slice R2 n k2)) from MXr.out)
    clear hA MXr
    go_upto_region 5 with (first | refine wpList_load_mid rfl 35 _ rfl Y7 0 (by rfl) (pc s (.slice R1 n k1) (.slice R2 n k2)) _ MXs.out UP.out rfl (pc_i _ _ _) ?_ | (go_at_call 6; refine (EC.out).mono ?_; rintro e w2 ⟨G, rfl, og, hb2⟩; have OG := hidden og; have B2 := hidden hb2; clear og hb2 EC))
    replace CA := hidden (And.intro (cell_keep CA.out.1 B2.out) (cell_keep CA.out.2 B2.out))
    replace MXs := hidden (range_keepM MXs.out B2.out)
    replace L1 := hidden (L1.out.1.keep B2.out)
    replace L2 := hidden (L2.out.1.keep B2.out)
    replace BX := hidden (bl_trans BX.out B2.out)
    have DK := hidden (pe_dok n s l r HA.out)
    have DD := hidden (dec_good (some ⟨G, 0, none⟩) (32 * (9 + 2 * n)) n (pe n s l r) w2 (HT.out w2 BX.out) (Tr.own_byQ OG.out) DK.out)
    have AB := hidden (fun (P3 P4 : Option Addr) (c3 c4 : Nat) (x : World) (h : Below w.heap.size w x) => alike_back n s l r HA.out R1 R2 P3 P4 k1 k2 c3 c4 x (HT.out x h) HO.out.1 HO.out.2.1 HO.out.2.2)
    have LE := hidden (pe_len n s l r)
    clear B2 OG DK
    generalize pe n s l r = D at DD AB LE ⊢
    have w1 : IntKind.i64.wrap (2 * (n : Int)) = 2 * (n : Int) := IntWalk.i64_in _ (by have := HA.out; omega)
    have w2' : IntKind.i64.wrap (9 + 2 * (n : Int)) = 9 + 2 * (n : Int) := IntWalk.i64_in _ (by have := HA.out; omega)
    have w3 : IntKind.i64.wrap (32 * (9 + 2 * (n : Int))) = (D.length : Int) := by rw [IntWalk.i64_in _ (by have := HA.out; omega), LE.out]; omega
    have a28 := CA.out.1
    have a29 := CA.out.2
    obtain ⟨cp, hcp⟩ : ∃ c, 32 * (9 + 2 * n) = c := ⟨_, rfl⟩
    rw [hcp] at DD ⊢
    clear hcp
    go_upto_region 7 with (first | (go_at_call 7; refine (DD.out).mono ?_; rintro e wq ⟨sy, P3, c3, P4, c4, hsy, rfl, hb3, h3, h4, h5, h6⟩; have SY := hidden hsy; have L3 := hidden h3; have L4 := hidden h4; have B3 := hidden hb3; have TH := hidden (((Mw.start wq).new (pcv zero4 zero4 zero4 zero4 zero4 zero4 zero4 zero4 zero4 (.slice none 0 0) (.slice none 0 0)) 35).ther (pc sy (.slice P3 n c3) (.slice P4 n c4)) (c := wq.heap.size) (o := pcv zero4 zero4 zero4 zero4 zero4 zero4 zero4 zero4 zero4 (.slice none 0 0) (.slice none 0 0)) (by simp) (by rw [pc_len]; rfl)); have MY := hidden (((Mw.start wq).new (pcv zero4 zero4 zero4 zero4 zero4 zero4 zero4 zero4 zero4 (.slice none 0 0) (.slice none 0 0)) 35).set (M := []) (pc sy (.slice P3 n c3) (.slice P4 n c4)) (c := wq.heap.size) (o := pcv zero4 zero4 zero4 zero4 zero4 zero4 zero4 zero4 zero4 (.slice none 0 0) (.slice none 0 0)) (by simp) (by rw [pc_len]; rfl) (by simp)); clear h3 h4 h5 h6 hb3 hsy DD a28 a29) | refine wpList_allocP rfl rfl ?_ | (refine wpList_storeL rfl 35 _ _ rfl rfl wq.heap.size 0 (pc sy (.slice P3 n c3) (.slice P4 n c4)) (by rfl) (by rfl) TH.out (pc_i2 _ _ _) (pc_one _ _ _ _ _ _ _) ?_; generalize hV : (wq.alloc (.cells (pcv zero4 zero4 zero4 zero4 zero4 zero4 zero4 zero4 zero4 (.slice none 0 0) (.slice none 0 0)).toArray 35)).setCells wq.heap.size 0 (pc sy (.slice P3 n c3) (.slice P4 n c4)) = V2 at MY ⊢; clear hV TH))
    replace BX := hidden (bl_trans BX.out B3.out)
    have BQ := hidden B3.out
    clear B3
    have BN := hidden (bl_trans BX.out MY.out.bel)
    replace BX := BN
    clear BN
    have MYr := hidden (MY.out.r (wq.heap.size, pc sy (.slice P3 n c3) (.slice P4 n c4)) (by simp)).1
    have MYb := hidden MY.out.bel
    clear MY
    generalize wq.heap.size = Y10 at MYr ⊢
    have BV := hidden (bl_trans BQ.out MYb.out)
    have a28 := cell_keep CA.out.1 BV.out
    have MXt := hidden (range_keepM MXs.out BV.out)
    have AK0 := AB.out P3 P4 c3 c4 V2 BX.out (L1.out.keep BV.out) (L2.out.keep BV.out) (L3.out.keep MYb.out) (L4.out.keep MYb.out)
    rw [← SY.out] at AK0
    have AK := hidden AK0
    clear AK0 SY
    clear AB L1 L2 L3 L4 CA BQ MYb MXs BV
    go_upto_region 11 with (first | refine wpList_loadG (by rfl) 35 _ rfl Y7 0 (by rfl) (pc s (.slice R1 n k1) (.slice R2 n k2)) _ MXt.out UP.out rfl (pc_i _ _ _) ?_ | refine wpList_loadG (by rfl) 35 _ rfl Y10 0 (by rfl) (pc sy (.slice P3 n c3) (.slice P4 n c4)) _ MYr.out UP.out rfl (pc_i _ _ _) ?_ | (go_at_call 8; refine (AK.out).mono ?_; rintro e w4 ⟨rfl, hb4⟩; replace BX := hidden (bl_trans BX.out hb4); clear hb4 AK MXt MYr a28))
    clear w1 w2' w3 LE HA h11
    go_upto_region 12 with (first | (go_at_call 7; refine (DB.out _ BX.out).mono ?_; rintro e wy ⟨sb, P5, n5, c5, P6, n6, c6, er, rfl, hbx, hcase⟩; have BY5 := hidden hbx; have CS1 := hidden hcase; have TH := hidden (((Mw.start wy).new (pcv zero4 zero4 zero4 zero4 zero4 zero4 zero4 zero4 zero4 (.slice none 0 0) (.slice none 0 0)) 35).ther (pc sb (.slice P5 n5 c5) (.slice P6 n6 c6)) (c := wy.heap.size) (o := pcv zero4 zero4 zero4 zero4 zero4 zero4 zero4 zero4 zero4 (.slice none 0 0) (.slice none 0 0)) (by simp) (by rw [pc_len]; rfl)); have MB := hidden (((Mw.start wy).new (pcv zero4 zero4 zero4 zero4 zero4 zero4 zero4 zero4 zero4 (.slice none 0 0) (.slice none 0 0)) 35).set (M := []) (pc sb (.slice P5 n5 c5) (.slice P6 n6 c6)) (c := wy.heap.size) (o := pcv zero4 zero4 zero4 zero4 zero4 zero4 zero4 zero4 zero4 (.slice none 0 0) (.slice none 0 0)) (by simp) (by rw [pc_len]; rfl) (by simp)); clear hbx hcase DB) | refine wpList_allocP rfl rfl ?_ | (refine wpList_storeL rfl 35 _ _ rfl rfl wy.heap.size 0 (pc sb (.slice P5 n5 c5) (.slice P6 n6 c6)) (by rfl) (by rfl) TH.out (pc_i2 _ _ _) (pc_one _ _ _ _ _ _ _) ?_; generalize hV : (wy.alloc (.cells (pcv zero4 zero4 zero4 zero4 zero4 zero4 zero4 zero4 zero4 (.slice none 0 0) (.slice none 0 0)).toArray 35)).setCells wy.heap.size 0 (pc sb (.slice P5 n5 c5) (.slice P6 n6 c6)) = V5 at MB ⊢; clear hV TH))
    replace BX := hidden (bl_trans BX.out BY5.out)
    have BN := hidden (bl_trans BX.out MB.out.bel)
    replace BX := BN
    clear BN
    have MBr := hidden (MB.out.r (wy.heap.size, pc sb (.slice P5 n5 c5) (.slice P6 n6 c6)) (by simp)).1
    have MBb := hidden MB.out.bel
    clear MB
    generalize wy.heap.size = Y12 at MBr ⊢
    clear BY5
    go_upto_region 13 with (first | (go_at_call 7; refine (DC.out _ BX.out).mono ?_; rintro e wu ⟨sc, P7, n7, c7, P8, n8, c8, er2, rfl, hbx, hcase⟩; have BY6 := hidden hbx; have CS2 := hidden hcase; have TH := hidden (((Mw.start wu).new (pcv zero4 zero4 zero4 zero4 zero4 zero4 zero4 zero4 zero4 (.slice none 0 0) (.slice none 0 0)) 35).ther (pc sc (.slice P7 n7 c7) (.slice P8 n8 c8)) (c := wu.heap.size) (o := pcv zero4 zero4 zero4 zero4 zero4 zero4 zero4 zero4 zero4 (.slice none 0 0) (.slice none 0 0)) (by simp) (by rw [pc_len]; rfl)); have MC := hidden (((Mw.start wu).new (pcv zero4 zero4 zero4 zero4 zero4 zero4 zero4 zero4 zero4 (.slice none 0 0) (.slice none 0 0)) 35).set (M := []) (pc sc (.slice P7 n7 c7) (.slice P8 n8 c8)) (c := wu.heap.size) (o := pcv zero4 zero4 zero4 zero4 zero4 zero4 zero4 zero4 zero4 (.slice none 0 0) (.slice none 0 0)) (by simp) (by rw [pc_len]; rfl) (by simp)); clear hbx hcase DC) | refine wpList_allocP rfl rfl ?_ | (refine wpList_storeL rfl 35 _ _ rfl rfl wu.heap.size 0 (pc sc (.slice P7 n7 c7) (.slice P8 n8 c8)) (by rfl) (by rfl) TH.out (pc_i2 _ _ _) (pc_one _ _ _ _ _ _ _) ?_; generalize hV : (wu.alloc (.cells (pcv zero4 zero4 zero4 zero4 zero4 zero4 zero4 zero4 zero4 (.slice none 0 0) (.slice none 0 0)).toArray 35)).setCells wu.heap.size 0 (pc sc (.slice P7 n7 c7) (.slice P8 n8 c8)) = V6 at MC ⊢; clear hV TH))
    replace BX := hidden (bl_trans BX.out BY6.out)
    have BN := hidden (bl_trans BX.out MC.out.bel)
    replace BX := BN
    clear BN
    have MCr := hidden (MC.out.r (wu.heap.size, pc sc (.slice P7 n7 c7) (.slice P8 n8 c8)) (by simp)).1
    have MCb := hidden MC.out.bel
    clear MC
    generalize wu.heap.size = Y13 at MCr ⊢
    have BV6 := hidden (bl_trans BY6.out MCb.out)
    have MBs := hidden (range_keepM MBr.out BV6.out)
    have MCs := hidden (show V6.rangeAt Y13 0 (pc sc (.slice P7 n7 c7) (.slice P8 n8 c8)) from MCr.out)
    have HT6 := hidden (HT.out V6 BX.out)
    have BY6s := hidden (HBY.out V6 BX.out)
    clear BY6 MCr MBr HO
    rcases CS1.out with ⟨e0, k, hk, en5, en6, esb, h1, h2, h3, h4⟩ | ⟨e0, hno⟩
    · have LB := hidden (And.intro (h1.keep (bl_trans MBb.out BV6.out)) (h2.keep (bl_trans MBb.out BV6.out)))
      have LS := hidden (And.intro (fun a ha => Nat.lt_of_lt_of_le (h3 a ha) (bl_trans MBb.out BV6.out).size) (fun a ha => Nat.lt_of_lt_of_le (h4 a ha) (bl_trans MBb.out BV6.out).size))
      have HK := hidden hk
      subst en6 en5 e0
      have SB := hidden esb
      have EB0 := enc_ok sb (gl b) (gr b) P5 P6 n5 c5 c6 V6 HT6.out hk.1 (fun j _ => by rw [esb]; exact gs_ok _ _ _) (fun j _ => gv_ok _ _) (fun j _ => gv_ok _ _) LB.out.1 LB.out.2 LS.out.1 LS.out.2
      rw [show pe n5 sb (gl b) (gr b) = b by rw [esb]; exact pe_g b n5 hk.2.1 hk.2.2] at EB0
      have EB := hidden EB0
      clear EB0 h1 h2 h3 h4 hk esb CS1 LS
      go_upto_region 17 with (first | refine wpList_load_mid rfl 35 _ rfl Y12 0 (by rfl) (pc sb (.slice P5 n5 c5) (.slice P6 n5 c6)) _ MBs.out UP.out rfl (pc_i _ _ _) ?_ | (go_at_call 6; refine (EB.out).mono ?_; rintro e w7 ⟨G7, rfl, og, hb7⟩; have OG := hidden og; have B7s := hidden hb7; have SE := hidden (Tr.same_any (some ⟨G7, 0, none⟩) BP _ cb b b w7 (Tr.own_byQ og) (BY6s.out.1.keep hb7)); rw [show (b == b) = true by simp] at SE; clear og hb7 EB) | (go_at_call 9; refine (SE.out).mono ?_; rintro e w8 ⟨rfl, hw8⟩; rw [hw8]; clear hw8 w8 SE))
      replace BX := hidden (bl_trans BX.out B7s.out)
      rcases CS2.out with ⟨f0, k', hk', en7, en8, esc, g1, g2, g3, g4⟩ | ⟨f0, hno⟩
      · subst en8 en7 f0
        have AG0 := alike_g b c n5 n7 HK.out hk' P5 P6 P7 P8 c5 c6 c7 c8 w7 (HT.out w7 BX.out) (LB.out.1.keep B7s.out) (LB.out.2.keep B7s.out) (g1.keep (bl_trans MCb.out B7s.out)) (g2.keep (bl_trans MCb.out B7s.out))
        rw [← SB.out, ← esc] at AG0
        have BC : Hid ((b == c) = decide (b = c)) := hidden (by rw [Bool.eq_iff_iff]; simp)
        generalize decide (b = c) = Bd at AG0 BC
        have AG := hidden AG0
        have SM2 := hidden (fun x (h : Below w.heap.size w x) => by have := Tr.same_any BP CP cb cc b c x (HBY.out x h).1 (HBY.out x h).2; rw [BC.out] at this; exact this)
        have MB7 := hidden (range_keepM MBs.out B7s.out)
        have MC7 := hidden (range_keepM MCs.out B7s.out)
        clear AG0 g1 g2 g3 g4 hk' esc CS2 MBs MCs BC
        go_wp2_with (first | refine wpList_loadG (by rfl) 35 _ rfl Y12 0 (by rfl) (pc sb (.slice P5 n5 c5) (.slice P6 n5 c6)) _ MB7.out UP.out rfl (pc_i _ _ _) ?_ | refine wpList_loadG (by rfl) 35 _ rfl Y13 0 (by rfl) (pc sc (.slice P7 n7 c7) (.slice P8 n7 c8)) _ MC7.out UP.out rfl (pc_i _ _ _) ?_ | (go_at_call 8; refine (AG.out).mono ?_; rintro e w9 ⟨rfl, hb9⟩; replace BX := hidden (bl_trans BX.out hb9); clear hb9 AG MB7 MC7) | (go_at_call 9; refine (SM2.out _ BX.out).mono ?_; rintro e w10 ⟨rfl, hw10⟩; rw [hw10]; clear hw10 w10 SM2))
        refine bodyPost_ret (v := .bool true) (by simp [results, Tryd.results3, go_sem]) rfl ⟨rfl, BX.out⟩
      · have z0 : (er2 != 0) = true := by simpa using f0
        clear CS2 MBs MCs
        go_wp2_with fail
        refine bodyPost_ret (v := .bool true) (by simp [results, Tryd.results3, go_sem]) rfl ⟨rfl, BX.out⟩
    · have z0 : (er != 0) = true := by simpa using e0
      have z1 : ¬ er = 0 := e0
      clear CS1 CS2 MBs MCs hno e0
      go_wp2_with fail
      refine bodyPost_ret (v := .bool true) (by simp [results, Tryd.results3, go_sem]) rfl ⟨rfl, BX.out⟩
  · have EN := hidden (enc_no s R1 R2 n m k1 k2 V1 (by omega))
    have MXs := hidden (show V1.rangeAt Y7 0 (pc s (.slice R1 n k1) (.slice R2 m k2)) from MXr.out)
    clear MXr L1 L2
    go_upto_region 5 with (first | refine wpList_load_mid rfl 35 _ rfl Y7 0 (by rfl) (pc s (.slice R1 n k1) (.slice R2 m k2)) _ MXs.out UP.out rfl (pc_i _ _ _) ?_ | (go_at_call 6; refine (EN.out).mono ?_; rintro e w2 ⟨rfl, hb2⟩; have B2 := hidden hb2; clear hb2 EN))
    have a28 := cell_keep CA.out.1 B2.out
    have a29 := cell_keep CA.out.2 B2.out
    replace BX := hidden (bl_trans BX.out B2.out)
    clear CA B2 MXs
    by_cases hnm : n = m
    · subst hnm
      have h11 : ¬ (n : Int) < 11 := by omega
      clear hA
      go_upto_region 11 with fail
      clear a28 a29 h11
      go_upto_region 12 with (first | (go_at_call 7; refine (DB.out _ BX.out).mono ?_; rintro e wy ⟨sb, P5, n5, c5, P6, n6, c6, er, rfl, hbx, hcase⟩; have BY5 := hidden hbx; have CS1 := hidden hcase; have TH := hidden (((Mw.start wy).new (pcv zero4 zero4 zero4 zero4 zero4 zero4 zero4 zero4 zero4 (.slice none 0 0) (.slice none 0 0)) 35).ther (pc sb (.slice P5 n5 c5) (.slice P6 n6 c6)) (c := wy.heap.size) (o := pcv zero4 zero4 zero4 zero4 zero4 zero4 zero4 zero4 zero4 (.slice none 0 0) (.slice none 0 0)) (by simp) (by rw [pc_len]; rfl)); have MB := hidden (((Mw.start wy).new (pcv zero4 zero4 zero4 zero4 zero4 zero4 zero4 zero4 zero4 (.slice none 0 0) (.slice none 0 0)) 35).set (M := []) (pc sb (.slice P5 n5 c5) (.slice P6 n6 c6)) (c := wy.heap.size) (o := pcv zero4 zero4 zero4 zero4 zero4 zero4 zero4 zero4 zero4 (.slice none 0 0) (.slice none 0 0)) (by simp) (by rw [pc_len]; rfl) (by simp)); clear hbx hcase DB) | refine wpList_allocP rfl rfl ?_ | (refine wpList_storeL rfl 35 _ _ rfl rfl wy.heap.size 0 (pc sb (.slice P5 n5 c5) (.slice P6 n6 c6)) (by rfl) (by rfl) TH.out (pc_i2 _ _ _) (pc_one _ _ _ _ _ _ _) ?_; generalize hV : (wy.alloc (.cells (pcv zero4 zero4 zero4 zero4 zero4 zero4 zero4 zero4 zero4 (.slice none 0 0) (.slice none 0 0)).toArray 35)).setCells wy.heap.size 0 (pc sb (.slice P5 n5 c5) (.slice P6 n6 c6)) = V5 at MB ⊢; clear hV TH))
      replace BX := hidden (bl_trans BX.out BY5.out)
      have BN := hidden (bl_trans BX.out MB.out.bel)
      replace BX := BN
      clear BN
      have MBr := hidden (MB.out.r (wy.heap.size, pc sb (.slice P5 n5 c5) (.slice P6 n6 c6)) (by simp)).1
      have MBb := hidden MB.out.bel
      clear MB
      generalize wy.heap.size = Y12 at MBr ⊢
      clear BY5
      go_upto_region 13 with (first | (go_at_call 7; refine (DC.out _ BX.out).mono ?_; rintro e wu ⟨sc, P7, n7, c7, P8, n8, c8, er2, rfl, hbx, hcase⟩; have BY6 := hidden hbx; have CS2 := hidden hcase; have TH := hidden (((Mw.start wu).new (pcv zero4 zero4 zero4 zero4 zero4 zero4 zero4 zero4 zero4 (.slice none 0 0) (.slice none 0 0)) 35).ther (pc sc (.slice P7 n7 c7) (.slice P8 n8 c8)) (c := wu.heap.size) (o := pcv zero4 zero4 zero4 zero4 zero4 zero4 zero4 zero4 zero4 (.slice none 0 0) (.slice none 0 0)) (by simp) (by rw [pc_len]; rfl)); have MC := hidden (((Mw.start wu).new (pcv zero4 zero4 zero4 zero4 zero4 zero4 zero4 zero4 zero4 (.slice none 0 0) (.slice none 0 0)) 35).set (M := []) (pc sc (.slice P7 n7 c7) (.slice P8 n8 c8)) (c := wu.heap.size) (o := pcv zero4 zero4 zero4 zero4 zero4 zero4 zero4 zero4 zero4 (.slice none 0 0) (.slice none 0 0)) (by simp) (by rw [pc_len]; rfl) (by simp)); clear hbx hcase DC) | refine wpList_allocP rfl rfl ?_ | (refine wpList_storeL rfl 35 _ _ rfl rfl wu.heap.size 0 (pc sc (.slice P7 n7 c7) (.slice P8 n8 c8)) (by rfl) (by rfl) TH.out (pc_i2 _ _ _) (pc_one _ _ _ _ _ _ _) ?_; generalize hV : (wu.alloc (.cells (pcv zero4 zero4 zero4 zero4 zero4 zero4 zero4 zero4 zero4 (.slice none 0 0) (.slice none 0 0)).toArray 35)).setCells wu.heap.size 0 (pc sc (.slice P7 n7 c7) (.slice P8 n8 c8)) = V6 at MC ⊢; clear hV TH))
      replace BX := hidden (bl_trans BX.out BY6.out)
      have BN := hidden (bl_trans BX.out MC.out.bel)
      replace BX := BN
      clear BN
      have MCr := hidden (MC.out.r (wu.heap.size, pc sc (.slice P7 n7 c7) (.slice P8 n8 c8)) (by simp)).1
      have MCb := hidden MC.out.bel
      clear MC
      generalize wu.heap.size = Y13 at MCr ⊢
      have BV6 := hidden (bl_trans BY6.out MCb.out)
      have MBs := hidden (range_keepM MBr.out BV6.out)
      have MCs := hidden (show V6.rangeAt Y13 0 (pc sc (.slice P7 n7 c7) (.slice P8 n8 c8)) from MCr.out)
      have HT6 := hidden (HT.out V6 BX.out)
      have BY6s := hidden (HBY.out V6 BX.out)
      clear BY6 MCr MBr HO
      rcases CS1.out with ⟨e0, k, hk, en5, en6, esb, h1, h2, h3, h4⟩ | ⟨e0, hno⟩
      · have LB := hidden (And.intro (h1.keep (bl_trans MBb.out BV6.out)) (h2.keep (bl_trans MBb.out BV6.out)))
        have LS := hidden (And.intro (fun a ha => Nat.lt_of_lt_of_le (h3 a ha) (bl_trans MBb.out BV6.out).size) (fun a ha => Nat.lt_of_lt_of_le (h4 a ha) (bl_trans MBb.out BV6.out).size))
        have HK := hidden hk
        subst en6 en5 e0
        have SB := hidden esb
        have EB0 := enc_ok sb (gl b) (gr b) P5 P6 n5 c5 c6 V6 HT6.out hk.1 (fun j _ => by rw [esb]; exact gs_ok _ _ _) (fun j _ => gv_ok _ _) (fun j _ => gv_ok _ _) LB.out.1 LB.out.2 LS.out.1 LS.out.2
        rw [show pe n5 sb (gl b) (gr b) = b by rw [esb]; exact pe_g b n5 hk.2.1 hk.2.2] at EB0
        have EB := hidden EB0
        clear EB0 h1 h2 h3 h4 hk esb CS1 LS
        go_upto_region 17 with (first | refine wpList_load_mid rfl 35 _ rfl Y12 0 (by rfl) (pc sb (.slice P5 n5 c5) (.slice P6 n5 c6)) _ MBs.out UP.out rfl (pc_i _ _ _) ?_ | (go_at_call 6; refine (EB.out).mono ?_; rintro e w7 ⟨G7, rfl, og, hb7⟩; have OG := hidden og; have B7s := hidden hb7; have SE := hidden (Tr.same_any (some ⟨G7, 0, none⟩) BP _ cb b b w7 (Tr.own_byQ og) (BY6s.out.1.keep hb7)); rw [show (b == b) = true by simp] at SE; clear og hb7 EB) | (go_at_call 9; refine (SE.out).mono ?_; rintro e w8 ⟨rfl, hw8⟩; rw [hw8]; clear hw8 w8 SE))
        replace BX := hidden (bl_trans BX.out B7s.out)
        rcases CS2.out with ⟨f0, k', hk', en7, en8, esc, g1, g2, g3, g4⟩ | ⟨f0, hno⟩
        · subst en8 en7 f0
          have AG0 := alike_g b c n5 n7 HK.out hk' P5 P6 P7 P8 c5 c6 c7 c8 w7 (HT.out w7 BX.out) (LB.out.1.keep B7s.out) (LB.out.2.keep B7s.out) (g1.keep (bl_trans MCb.out B7s.out)) (g2.keep (bl_trans MCb.out B7s.out))
          rw [← SB.out, ← esc] at AG0
          have BC : Hid ((b == c) = decide (b = c)) := hidden (by rw [Bool.eq_iff_iff]; simp)
          generalize decide (b = c) = Bd at AG0 BC
          have AG := hidden AG0
          have SM2 := hidden (fun x (h : Below w.heap.size w x) => by have := Tr.same_any BP CP cb cc b c x (HBY.out x h).1 (HBY.out x h).2; rw [BC.out] at this; exact this)
          have MB7 := hidden (range_keepM MBs.out B7s.out)
          have MC7 := hidden (range_keepM MCs.out B7s.out)
          clear AG0 g1 g2 g3 g4 hk' esc CS2 MBs MCs BC
          go_wp2_with (first | refine wpList_loadG (by rfl) 35 _ rfl Y12 0 (by rfl) (pc sb (.slice P5 n5 c5) (.slice P6 n5 c6)) _ MB7.out UP.out rfl (pc_i _ _ _) ?_ | refine wpList_loadG (by rfl) 35 _ rfl Y13 0 (by rfl) (pc sc (.slice P7 n7 c7) (.slice P8 n7 c8)) _ MC7.out UP.out rfl (pc_i _ _ _) ?_ | (go_at_call 8; refine (AG.out).mono ?_; rintro e w9 ⟨rfl, hb9⟩; replace BX := hidden (bl_trans BX.out hb9); clear hb9 AG MB7 MC7) | (go_at_call 9; refine (SM2.out _ BX.out).mono ?_; rintro e w10 ⟨rfl, hw10⟩; rw [hw10]; clear hw10 w10 SM2))
          refine bodyPost_ret (v := .bool true) (by simp [results, Tryd.results3, go_sem]) rfl ⟨rfl, BX.out⟩
        · have z0 : (er2 != 0) = true := by simpa using f0
          clear CS2 MBs MCs
          go_wp2_with fail
          refine bodyPost_ret (v := .bool true) (by simp [results, Tryd.results3, go_sem]) rfl ⟨rfl, BX.out⟩
      · have z0 : (er != 0) = true := by simpa using e0
        have z1 : ¬ er = 0 := e0
        clear CS1 CS2 MBs MCs hno e0
        go_wp2_with fail
        refine bodyPost_ret (v := .bool true) (by simp [results, Tryd.results3, go_sem]) rfl ⟨rfl, BX.out⟩
    · have hnn : ¬ (n : Int) = (m : Int) := by omega
      clear hA hnm
      go_upto_region 11 with fail
      clear a28 a29 hnn
      go_upto_region 12 with (first | (go_at_call 7; refine (DB.out _ BX.out).mono ?_; rintro e wy ⟨sb, P5, n5, c5, P6, n6, c6, er, rfl, hbx, hcase⟩; have BY5 := hidden hbx; have CS1 := hidden hcase; have TH := hidden (((Mw.start wy).new (pcv zero4 zero4 zero4 zero4 zero4 zero4 zero4 zero4 zero4 (.slice none 0 0) (.slice none 0 0)) 35).ther (pc sb (.slice P5 n5 c5) (.slice P6 n6 c6)) (c := wy.heap.size) (o := pcv zero4 zero4 zero4 zero4 zero4 zero4 zero4 zero4 zero4 (.slice none 0 0) (.slice none 0 0)) (by simp) (by rw [pc_len]; rfl)); have MB := hidden (((Mw.start wy).new (pcv zero4 zero4 zero4 zero4 zero4 zero4 zero4 zero4 zero4 (.slice none 0 0) (.slice none 0 0)) 35).set (M := []) (pc sb (.slice P5 n5 c5) (.slice P6 n6 c6)) (c := wy.heap.size) (o := pcv zero4 zero4 zero4 zero4 zero4 zero4 zero4 zero4 zero4 (.slice none 0 0) (.slice none 0 0)) (by simp) (by rw [pc_len]; rfl) (by simp)); clear hbx hcase DB) | refine wpList_allocP rfl rfl ?_ | (refine wpList_storeL rfl 35 _ _ rfl rfl wy.heap.size 0 (pc sb (.slice P5 n5 c5) (.slice P6 n6 c6)) (by rfl) (by rfl) TH.out (pc_i2 _ _ _) (pc_one _ _ _ _ _ _ _) ?_; generalize hV : (wy.alloc (.cells (pcv zero4 zero4 zero4 zero4 zero4 zero4 zero4 zero4 zero4 (.slice none 0 0) (.slice none 0 0)).toArray 35)).setCells wy.heap.size 0 (pc sb (.slice P5 n5 c5) (.slice P6 n6 c6)) = V5 at MB ⊢; clear hV TH))
      replace BX := hidden (bl_trans BX.out BY5.out)
      have BN := hidden (bl_trans BX.out MB.out.bel)
      replace BX := BN
      clear BN
      have MBr := hidden (MB.out.r (wy.heap.size, pc sb (.slice P5 n5 c5) (.slice P6 n6 c6)) (by simp)).1
      have MBb := hidden MB.out.bel
      clear MB
      generalize wy.heap.size = Y12 at MBr ⊢
      clear BY5
      go_upto_region 13 with (first | (go_at_call 7; refine (DC.out _ BX.out).mono ?_; rintro e wu ⟨sc, P7, n7, c7, P8, n8, c8, er2, rfl, hbx, hcase⟩; have BY6 := hidden hbx; have CS2 := hidden hcase; have TH := hidden (((Mw.start wu).new (pcv zero4 zero4 zero4 zero4 zero4 zero4 zero4 zero4 zero4 (.slice none 0 0) (.slice none 0 0)) 35).ther (pc sc (.slice P7 n7 c7) (.slice P8 n8 c8)) (c := wu.heap.size) (o := pcv zero4 zero4 zero4 zero4 zero4 zero4 zero4 zero4 zero4 (.slice none 0 0) (.slice none 0 0)) (by simp) (by rw [pc_len]; rfl)); have MC := hidden (((Mw.start wu).new (pcv zero4 zero4 zero4 zero4 zero4 zero4 zero4 zero4 zero4 (.slice none 0 0) (.slice none 0 0)) 35).set (M := []) (pc sc (.slice P7 n7 c7) (.slice P8 n8 c8)) (c := wu.heap.size) (o := pcv zero4 zero4 zero4 zero4 zero4 zero4 zero4 zero4 zero4 (.slice none 0 0) (.slice none 0 0)) (by simp) (by rw [pc_len]; rfl) (by simp)); clear hbx hcase DC) | refine wpList_allocP rfl rfl ?_ | (refine wpList_storeL rfl 35 _ _ rfl rfl wu.heap.size 0 (pc sc (.slice P7 n7 c7) (.slice P8 n8 c8)) (by rfl) (by rfl) TH.out (pc_i2 _ _ _) (pc_one _ _ _ _ _ _ _) ?_; generalize hV : (wu.alloc (.cells (pcv zero4 zero4 zero4 zero4 zero4 zero4 zero4 zero4 zero4 (.slice none 0 0) (.slice none 0 0)).toArray 35)).setCells wu.heap.size 0 (pc sc (.slice P7 n7 c7) (.slice P8 n8 c8)) = V6 at MC ⊢; clear hV TH))
      replace BX := hidden (bl_trans BX.out BY6.out)
      have BN := hidden (bl_trans BX.out MC.out.bel)
      replace BX := BN
      clear BN
      have MCr := hidden (MC.out.r (wu.heap.size, pc sc (.slice P7 n7 c7) (.slice P8 n8 c8)) (by simp)).1
      have MCb := hidden MC.out.bel
      clear MC
      generalize wu.heap.size = Y13 at MCr ⊢
      have BV6 := hidden (bl_trans BY6.out MCb.out)
      have MBs := hidden (range_keepM MBr.out BV6.out)
      have MCs := hidden (show V6.rangeAt Y13 0 (pc sc (.slice P7 n7 c7) (.slice P8 n8 c8)) from MCr.out)
      have HT6 := hidden (HT.out V6 BX.out)
      have BY6s := hidden (HBY.out V6 BX.out)
      clear BY6 MCr MBr HO
      rcases CS1.out with ⟨e0, k, hk, en5, en6, esb, h1, h2, h3, h4⟩ | ⟨e0, hno⟩
      · have LB := hidden (And.intro (h1.keep (bl_trans MBb.out BV6.out)) (h2.keep (bl_trans MBb.out BV6.out)))
        have LS := hidden (And.intro (fun a ha => Nat.lt_of_lt_of_le (h3 a ha) (bl_trans MBb.out BV6.out).size) (fun a ha => Nat.lt_of_lt_of_le (h4 a ha) (bl_trans MBb.out BV6.out).size))
        have HK := hidden hk
        subst en6 en5 e0
        have SB := hidden esb
        have EB0 := enc_ok sb (gl b) (gr b) P5 P6 n5 c5 c6 V6 HT6.out hk.1 (fun j _ => by rw [esb]; exact gs_ok _ _ _) (fun j _ => gv_ok _ _) (fun j _ => gv_ok _ _) LB.out.1 LB.out.2 LS.out.1 LS.out.2
        rw [show pe n5 sb (gl b) (gr b) = b by rw [esb]; exact pe_g b n5 hk.2.1 hk.2.2] at EB0
        have EB := hidden EB0
        clear EB0 h1 h2 h3 h4 hk esb CS1 LS
        go_upto_region 17 with (first | refine wpList_load_mid rfl 35 _ rfl Y12 0 (by rfl) (pc sb (.slice P5 n5 c5) (.slice P6 n5 c6)) _ MBs.out UP.out rfl (pc_i _ _ _) ?_ | (go_at_call 6; refine (EB.out).mono ?_; rintro e w7 ⟨G7, rfl, og, hb7⟩; have OG := hidden og; have B7s := hidden hb7; have SE := hidden (Tr.same_any (some ⟨G7, 0, none⟩) BP _ cb b b w7 (Tr.own_byQ og) (BY6s.out.1.keep hb7)); rw [show (b == b) = true by simp] at SE; clear og hb7 EB) | (go_at_call 9; refine (SE.out).mono ?_; rintro e w8 ⟨rfl, hw8⟩; rw [hw8]; clear hw8 w8 SE))
        replace BX := hidden (bl_trans BX.out B7s.out)
        rcases CS2.out with ⟨f0, k', hk', en7, en8, esc, g1, g2, g3, g4⟩ | ⟨f0, hno⟩
        · subst en8 en7 f0
          have AG0 := alike_g b c n5 n7 HK.out hk' P5 P6 P7 P8 c5 c6 c7 c8 w7 (HT.out w7 BX.out) (LB.out.1.keep B7s.out) (LB.out.2.keep B7s.out) (g1.keep (bl_trans MCb.out B7s.out)) (g2.keep (bl_trans MCb.out B7s.out))
          rw [← SB.out, ← esc] at AG0
          have BC : Hid ((b == c) = decide (b = c)) := hidden (by rw [Bool.eq_iff_iff]; simp)
          generalize decide (b = c) = Bd at AG0 BC
          have AG := hidden AG0
          have SM2 := hidden (fun x (h : Below w.heap.size w x) => by have := Tr.same_any BP CP cb cc b c x (HBY.out x h).1 (HBY.out x h).2; rw [BC.out] at this; exact this)
          have MB7 := hidden (range_keepM MBs.out B7s.out)
          have MC7 := hidden (range_keepM MCs.out B7s.out)
          clear AG0 g1 g2 g3 g4 hk' esc CS2 MBs MCs BC
          go_wp2_with (first | refine wpList_loadG (by rfl) 35 _ rfl Y12 0 (by rfl) (pc sb (.slice P5 n5 c5) (.slice P6 n5 c6)) _ MB7.out UP.out rfl (pc_i _ _ _) ?_ | refine wpList_loadG (by rfl) 35 _ rfl Y13 0 (by rfl) (pc sc (.slice P7 n7 c7) (.slice P8 n7 c8)) _ MC7.out UP.out rfl (pc_i _ _ _) ?_ | (go_at_call 8; refine (AG.out).mono ?_; rintro e w9 ⟨rfl, hb9⟩; replace BX := hidden (bl_trans BX.out hb9); clear hb9 AG MB7 MC7) | (go_at_call 9; refine (SM2.out _ BX.out).mono ?_; rintro e w10 ⟨rfl, hw10⟩; rw [hw10]; clear hw10 w10 SM2))
          refine bodyPost_ret (v := .bool true) (by simp [results, Tryd.results3, go_sem]) rfl ⟨rfl, BX.out⟩
        · have z0 : (er2 != 0) = true := by simpa using f0
          clear CS2 MBs MCs
          go_wp2_with fail
          refine bodyPost_ret (v := .bool true) (by simp [results, Tryd.results3, go_sem]) rfl ⟨rfl, BX.out⟩
      · have z0 : (er != 0) = true := by simpa using e0
        have z1 : ¬ er = 0 := e0
        clear CS1 CS2 MBs MCs hno e0
        go_wp2_with fail
        refine bodyPost_ret (v := .bool true) (by simp [results, Tryd.results3, go_sem]) rfl ⟨rfl, BX.out⟩
end Go.Proofs.YtmhpgcfmllcnpaaDoor
