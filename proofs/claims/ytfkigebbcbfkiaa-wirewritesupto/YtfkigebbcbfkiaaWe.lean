import Derived.Test.YtfkigebbcbfkiaaWd
import Derived.Laws.Small
namespace Go.Proofs.Ytfkigebbcbfkiaa
open Go.RowKit
theorem below_set {B : Nat} {w0 w w' : World} {g : Nat} (h : Below B w0 w) (hg : w.grownBy w' (some g)) (hb : B ≤ g) (hs : B ≤ w0.heap.size) : Below B w0 w' := below_trans h (below_grown hg (Nat.le_trans hs h.size) (fun k hk => by obtain rfl := Option.some.inj hk; exact hb))
set_option maxRecDepth 100000 in
set_option maxHeartbeats 16000000 in
theorem writes_any (P Q : Option Addr) (c d : Nat) (bs xs : List UInt8) (n : Nat) (w : World) (hB : By w P c bs) (hX : By w Q d xs) (hl : bs.length + xs.length ≤ 2 ^ 40) (hn : n < 2 ^ 64) :
    Calls Try.prog 3 #[.slice P bs.length c, .slice Q xs.length d, .int .u64 (n : Int)] w fun e w' => e = .returned (.bool true) ∧ Below w.heap.size w w' := by
  have HL := hidden hl
  have HN := hidden hn
  have HP := hidden hB
  have HQ := hidden hX
  have R0 := hidden (room_any P c bs w hB (by omega))
  have R1 := hidden (fun w' (h : Below w.heap.size w w') => room_any Q d xs w' (HQ.out.keep h) (by have := HL.out; omega))
  clear hl hn hB hX
  go_enter Try.func3, Try.ntmps3
  go_upto_region 2 with (first | (go_at_call 8; refine R0.out.mono ?_; rintro e w1 ⟨v1, rfl, ho, hb⟩; clear R0; rw [show (bs ++ mk3).length = bs.length + 3 by simp [mk3]] at ho; obtain ⟨gf, cf, rfl, hcf, -, hgf⟩ := own_some ho (by omega); have FY := hidden (own_byQ ho); have HF := hidden hcf; have HGF := hidden hgf; have HB := hidden hb; clear ho hb hcf hgf) | (go_at_call 8; refine (R1.out _ HB.out).mono ?_; rintro e w2 ⟨v2, rfl, ho, hb⟩; clear R1; rw [show (xs ++ mk3).length = xs.length + 3 by simp [mk3]] at ho; obtain ⟨gg, cg, rfl, hcg, -, hgg⟩ := own_some ho (by omega); have GY := hidden (own_byQ ho); have HG := hidden hcg; replace FY := hidden (FY.out.keep hb); replace HB := hidden (bl_trans HB.out hb); clear ho hb hcg hgg))
  replace HP := hidden (HP.out.keep HB.out)
  replace HQ := hidden (HQ.out.keep HB.out)
  have k0 : (0 : Int) ≤ (bs.length : Int) := by omega
  have k1 : (bs.length : Int) ≤ (cf : Int) := by have := HF.out; omega
  have k2 : (xs.length : Int) ≤ (cg : Int) := by have := HG.out; omega
  have A0 := hidden (appNum_any (some ⟨gf, 0, none⟩) cf bs n w2 FY.out.front (by have := HL.out; omega) HN.out)
  go_upto_region 3 with (first | (go_at_call 9; refine A0.out.mono ?_; rintro e w3 ⟨vc, rfl, ho, hb⟩; clear A0; have HO := hidden ho; have HK := hidden hb; clear ho hb))
  have A1 := hidden (appBytes_any (some ⟨gf, 0, none⟩) (some ⟨gg, 0, none⟩) cf cg bs xs w3.drew (FY.out.front.keep (bl_trans HK.out (drew_blW w3))) (GY.out.front.keep (bl_trans HK.out (drew_blW w3))) (by have := HL.out; omega))
  go_region_law (first | (go_simp; go_at_call 10; refine A1.out.mono ?_; rintro e w4 ⟨vd, rfl, ho, hb⟩; clear A1; have HD := hidden ho; have HB4 : Hid (Below w3.heap.size w3 w4) := hidden (bl_trans (drew_blW w3) hb); clear ho hb))
  obtain ⟨C, hC⟩ : ∃ C : List UInt8, C = bs ++ vn n := ⟨_, rfl⟩
  obtain ⟨D, hD⟩ : ∃ D : List UInt8, D = bs ++ (vn xs.length ++ xs) := ⟨_, rfl⟩
  rw [← hC] at HO
  rw [← hD] at HD
  have hc1 : 1 ≤ C.length := by rw [hC, List.length_append]; have := (vn_len n).1; omega
  have hd1 : 1 ≤ D.length := by rw [hD, List.length_append, List.length_append]; have := (vn_len xs.length).1; omega
  have HCl : Hid (C.length ≤ 2 ^ 41) := hidden (by rw [hC, List.length_append]; have := (vn_len n).2; have := HL.out; omega)
  have HDl : Hid (D.length ≤ 2 ^ 41) := hidden (by rw [hD, List.length_append, List.length_append]; have := (vn_len xs.length).2; have := HL.out; omega)
  have HC := hidden hC
  have HDD := hidden hD
  clear hC hD
  obtain ⟨gc, cc, rfl, -, -, hgc, hgc2⟩ := own_some HO.out (by omega)
  obtain ⟨gd, cd, rfl, -, -, hgd, hgd2⟩ := own_some HD.out (by omega)
  have HGC : Hid (w2.heap.size ≤ gc ∧ gc < gd) := hidden ⟨hgc, Nat.lt_of_lt_of_le hgc2 hgd⟩
  replace HO := hidden (own_stay HO.out HB4.out)
  replace HD : Hid (w4.ownsRow w2.heap.size 5 1 (.slice (some ⟨gd, 0, none⟩) D.length cd) D.length (cb D)) := hidden (own_less HD.out (Nat.le_trans HK.out.size (Nat.le_refl _)))
  replace HK := hidden (bl_trans HK.out HB4.out)
  clear HB4 hgc hgc2 hgd hgd2
  have N0 := hidden (World.ownsRow_nil w4 w4.heap.size 5 1)
  have V0 := hidden (fun w' => rNum_any n w' HN.out)
  go_upto_region 5 with (first | (at_builtin; refine wpList_app_by rfl _ _ rfl w4.heap.size _ [] bs P c rfl rfl N0.out (HP.out.keep HK.out) (by have := HL.out; simp only [List.length_nil]; omega) (Nat.le_refl _) ?_; intro v5 w5 ho hg; have HW := hidden ho; have H5 := hidden (below_grown hg (Nat.le_refl _) (fun k hk => (N0.out.lt k hk).1)); clear ho hg N0; rw [List.nil_append] at HW) | (go_at_call 11; refine (V0.out w5).mono ?_; rintro e w6 ⟨v6, rfl, ho, hb⟩; clear V0; obtain ⟨Pn, cn, rfl, hny⟩ := own_by ho; have NY := hidden hny; replace HW := hidden (own_stay HW.out hb); have H6 := hidden (bl_trans H5.out hb); clear ho hb hny) | (at_builtin; refine wpList_app_by rfl _ _ rfl w4.heap.size _ bs (vn n) Pn cn rfl rfl HW.out NY.out (by have := HCl.out; rw [HC.out, List.length_append] at this; omega) H6.out.size ?_; intro v7 w7 ho hg; have H7 := hidden (below_trans H6.out (below_grown hg H6.out.size (fun k hk => (HW.out.lt k hk).1))); replace HW := hidden ho; clear ho hg NY))
  rw [← HC.out] at HW
  replace HO := hidden (own_stay HO.out H7.out)
  replace HD := hidden (own_stay HD.out H7.out)
  replace HK := hidden (bl_trans HK.out H7.out)
  clear H5 H6 H7
  obtain ⟨Pw, cw, rfl, hwy⟩ := own_by HW.out
  clear HW
  have WY := hidden hwy
  clear hwy
  have N0 := hidden (World.ownsRow_nil w7 w7.heap.size 5 1)
  have V0 := hidden (fun w' (h : Below w7.heap.size w7 w') => rList_any Q d xs w' ((HQ.out.keep HK.out).keep h) (by have := HL.out; omega))
  go_upto_region 6 with (first | (at_builtin; refine wpList_app_by rfl _ _ rfl w7.heap.size _ [] bs P c rfl rfl N0.out (HP.out.keep HK.out) (by have := HL.out; simp only [List.length_nil]; omega) (Nat.le_refl _) ?_; intro v5 w8 ho hg; have HW := hidden ho; have H5 := hidden (below_grown hg (Nat.le_refl _) (fun k hk => (N0.out.lt k hk).1)); clear ho hg N0; rw [List.nil_append] at HW) | (go_at_call 12; refine (V0.out w8 H5.out).mono ?_; rintro e w9 ⟨v6, rfl, ho, hb⟩; clear V0; obtain ⟨Pn, cn, rfl, hny⟩ := own_by ho; have NY := hidden hny; replace HW := hidden (own_stay HW.out hb); have H6 := hidden (bl_trans H5.out hb); clear ho hb hny) | (at_builtin; refine wpList_app_by rfl _ _ rfl w7.heap.size _ bs (vn xs.length ++ xs) Pn cn rfl (by simp [Act.eval]) HW.out NY.out (by have := HDl.out; rw [HDD.out, List.length_append] at this; omega) H6.out.size ?_; intro v7 w10 ho hg; have H7 := hidden (below_trans H6.out (below_grown hg H6.out.size (fun k hk => (HW.out.lt k hk).1))); replace HW := hidden ho; clear ho hg NY))
  rw [← HDD.out] at HW
  replace HO := hidden (own_stay HO.out H7.out)
  replace HD := hidden (own_stay HD.out H7.out)
  replace HK := hidden (bl_trans HK.out H7.out)
  replace WY := hidden (WY.out.keep H7.out)
  clear H5 H6 H7
  obtain ⟨Pm, cm, rfl, hmy⟩ := own_by HW.out
  clear HW
  have S0 := hidden (same_any (some ⟨gc, 0, none⟩) Pw cc cw C C w10 (own_byQ HO.out) WY.out)
  have S1 := hidden (same_any (some ⟨gd, 0, none⟩) Pm cd cm D D w10 (own_byQ HD.out) hmy)
  have Y0 := hidden (fun w' (h : Below w2.heap.size w2 w') => roomy_any gf 0 cf P c bs w' (FY.out.keep h) HF.out (by have := HL.out; omega) (HP.out.keep h))
  have Y1 := hidden (fun w' (h : Below w2.heap.size w2 w') => roomy_any gg 0 cg Q d xs w' (GY.out.keep h) HG.out (by have := HL.out; omega) (HQ.out.keep h))
  clear hmy WY
  have T0 := Y0
  have T1 := Y1
  go_upto_region 9 with (first | (go_at_call 13; refine S0.out.mono ?_; rintro e wx ⟨rfl, rfl⟩; clear S0) | (go_at_call 13; refine S1.out.mono ?_; rintro e wx ⟨rfl, rfl⟩; clear S1) | (go_at_call 14; refine (T0.out _ HK.out).mono ?_; rintro e wx ⟨rfl, rfl⟩; clear T0) | (go_at_call 14; refine (T1.out _ HK.out).mono ?_; rintro e wx ⟨rfl, rfl⟩; clear T1))
  go_loopw [13] (fun kv w' => ∃ k : Nat, k ≤ C.length ∧ kv = .int .i64 (k : Int) ∧ Hid (w'.ownsRow w2.heap.size 5 1 (.slice (some ⟨gc, 0, none⟩) C.length cc) C.length (cb (fl 77 C k))) ∧ Hid (w'.ownsRow w2.heap.size 5 1 (.slice (some ⟨gd, 0, none⟩) D.length cd) D.length (cb D)) ∧ Hid (Below w2.heap.size w2 w')) (fun k _ => C.length - (intOf k).toNat)
  case atStart => exact ⟨0, by omega, rfl, by rw [fl_zero]; exact HO, HD, HK⟩
  case round =>
    clear HO HD HK
    obtain ⟨k, hk, rfl, HO, HD, HK⟩ := hrel
    by_cases hkn : k < C.length
    · have j0 : (0 : Int) ≤ (k : Int) := by omega
      have j1 : (k : Int) < (C.length : Int) := by omega
      have w9 : IntKind.i64.wrap ((k : Int) + 1) = (k : Int) + 1 := IntWalk.i64_in _ (by have := HCl.out; omega)
      have x0 := HO.out.cellAt k (by omega)
      rw [cb_at _ _ (by rw [fl_len _ _ _ hk]; exact hkn)] at x0
      have f0 := HO.out.frozenAt k
      have NS := HO.out.stored k (.int .u8 77)
      have NO : Hid ((wr.setCell ⟨gc, k, none⟩ (.int .u8 77)).ownsRow w2.heap.size 5 1 (.slice (some ⟨gc, 0, none⟩) C.length cc) C.length (cb (fl 77 C (k + 1)))) := hidden (by
        have := NS.1
        rw [show (77 : Int) = ((77 : UInt8).toNat : Int) by rfl, fl_set 77 C k hkn] at this
        exact this)
      have ND := hidden (own_kept HD.out NS.2 (by have := HGC.out.2; simp [Value.ownBlock]; omega))
      have NK := hidden (below_set HK.out NS.2 HGC.out.1 (Nat.le_refl _))
      clear NS HO HD HK
      generalize ((fl 77 C k)[k]'(by rw [fl_len _ _ _ hk]; exact hkn)).toNat = y at x0
      go_wp2_with fail
      go_roundw
      case rel => exact ⟨k + 1, by omega, by go_num, NO, ND, NK⟩
      case measure => simp [intOf]; omega
    · obtain rfl : k = C.length := by omega
      have lq : ¬ (C.length : Int) < (C.length : Int) := by omega
      rw [fl_all] at HO
      go_upto_region 13 with fail
      obtain ⟨E, hE⟩ : ∃ E : List UInt8, E = List.replicate C.length 77 := ⟨_, rfl⟩
      rw [← hE] at HO
      have HEe : Hid (C.length = E.length) := hidden (by rw [hE]; simp)
      have HE0 : Hid (E.getD 0 0 = 77) := hidden (by rw [hE]; simp [show 0 < C.length by omega])
      clear hE lq hkn
      go_loopw [14] (fun kv w' => ∃ k : Nat, k ≤ D.length ∧ kv = .int .i64 (k : Int) ∧ Hid (w'.ownsRow w2.heap.size 5 1 (.slice (some ⟨gc, 0, none⟩) C.length cc) C.length (cb E)) ∧ Hid (w'.ownsRow w2.heap.size 5 1 (.slice (some ⟨gd, 0, none⟩) D.length cd) D.length (cb (fl 78 D k))) ∧ Hid (Below w2.heap.size w2 w')) (fun k _ => D.length - (intOf k).toNat)
      case atStart => exact ⟨0, by omega, rfl, HO, by rw [fl_zero]; exact HD, HK⟩
      case round =>
        clear HO HD HK hk
        obtain ⟨k, hk, rfl, HO, HD, HK⟩ := hrel
        by_cases hkn : k < D.length
        · have j0 : (0 : Int) ≤ (k : Int) := by omega
          have j1 : (k : Int) < (D.length : Int) := by omega
          have w9 : IntKind.i64.wrap ((k : Int) + 1) = (k : Int) + 1 := IntWalk.i64_in _ (by have := HDl.out; omega)
          have x0 := HD.out.cellAt k (by omega)
          rw [cb_at _ _ (by rw [fl_len _ _ _ hk]; exact hkn)] at x0
          have f0 := HD.out.frozenAt k
          have NS := HD.out.stored k (.int .u8 78)
          have ND : Hid ((wr.setCell ⟨gd, k, none⟩ (.int .u8 78)).ownsRow w2.heap.size 5 1 (.slice (some ⟨gd, 0, none⟩) D.length cd) D.length (cb (fl 78 D (k + 1)))) := hidden (by
            have := NS.1
            rw [show (78 : Int) = ((78 : UInt8).toNat : Int) by rfl, fl_set 78 D k hkn] at this
            exact this)
          have NO := hidden (own_kept HO.out NS.2 (by have := HGC.out.2; simp [Value.ownBlock]; omega))
          have NK := hidden (below_set HK.out NS.2 (by have := HGC.out; omega) (Nat.le_refl _))
          clear NS HO HD HK
          generalize ((fl 78 D k)[k]'(by rw [fl_len _ _ _ hk]; exact hkn)).toNat = y at x0
          go_wp2_with fail
          go_roundw
          case rel => exact ⟨k + 1, by omega, by go_num, NO, ND, NK⟩
          case measure => simp [intOf]; omega
        · obtain rfl : k = D.length := by omega
          have lq : ¬ (D.length : Int) < (D.length : Int) := by omega
          rw [fl_all] at HD
          obtain ⟨F, hF⟩ : ∃ F : List UInt8, F = List.replicate D.length 78 := ⟨_, rfl⟩
          rw [← hF] at HD
          have HFe : Hid (D.length = F.length) := hidden (by rw [hF]; simp)
          have HF0 : Hid (F.getD 0 0 = 78) := hidden (by rw [hF]; simp [show 0 < D.length by omega])
          clear hF hkn hk
          go_upto_region 18 with (first | (at_builtin; refine wpList_app_keep rfl _ _ rfl w2.heap.size gc cc C.length E [77] HEe.out ⟨wr.heap.size, 0, none⟩ 1 rfl rfl (own_stay HO.out (bl_alloc wr _)) (by_list wr [77] 1) (by have := HCl.out; have := HEe.out; simp only [List.length_cons, List.length_nil]; omega) (Nat.le_trans HK.out.size (bl_alloc wr _).size) ?_; intro ve we ho hg hy hat; have H1 := hidden ho; have C1 := hidden hy; have G1 := hidden hg; have A1 := hidden hat; clear ho hg hy hat HO; have HA2 := hidden (own_kept (own_stay HD.out (bl_alloc wr _)) G1.out (by have := HGC.out.2; simp [Value.ownBlock]; omega)); have HK2 := hidden (below_set (bl_trans HK.out (bl_alloc wr _)) G1.out HGC.out.1 (Nat.le_refl _)); have HGD := hidden (HD.out.lt gd rfl).2; clear HD HK) | (at_builtin; refine wpList_app_keep rfl _ _ rfl w2.heap.size gd cd D.length F [78] HFe.out ⟨we.heap.size, 0, none⟩ 1 rfl rfl (own_stay HA2.out (bl_alloc we _)) (by_list we [78] 1) (by have := HDl.out; have := HFe.out; simp only [List.length_cons, List.length_nil]; omega) (Nat.le_trans HK2.out.size (bl_alloc we _).size) ?_; intro vh wh ho hg hy hat; have H2 := hidden ho; have D2 := hidden hy; have G2 := hidden hg; clear ho hg hy hat))
          have hne : ve.ownBlock ≠ some gd := by
            have h1 := HGC.out.2
            have h2 := HGD.out
            rcases A1.out with e | e
            · rw [e]; intro h; have := Option.some.inj h; omega
            · rw [e]; intro h; have := Option.some.inj h; simp at this; omega
          have H1' := own_kept (own_stay H1.out (bl_alloc we (.cells (cb [78]).toArray 5))) G2.out hne
          have C1' := (C1.out.keep (bl_alloc we (.cells (cb [78]).toArray 5))).grown G2.out (by have h1 := HGC.out.2; have h2 := HGD.out; have h3 := G1.out.size; simp at h3 ⊢; omega) (by have h1 := HGC.out.2; omega)
          have HK3 := hidden (below_set (bl_trans HK2.out (bl_alloc we (.cells (cb [78]).toArray 5))) G2.out (by have := HGC.out; omega) (Nat.le_refl _))
          have H2' := H2.out
          have le : (E ++ [77]).length = C.length + 1 := by rw [List.length_append, HEe.out]; rfl
          have lf : (F ++ [78]).length = D.length + 1 := by rw [List.length_append, HFe.out]; rfl
          rw [le] at H1'
          rw [lf] at H2'
          obtain ⟨ge, ce, rfl, -⟩ := own_some H1' (by omega)
          obtain ⟨gh, ch, rfl, -⟩ := own_some H2' (by omega)
          have x0 := H1'.cellAt C.length (by omega)
          rw [cb_at _ _ (by omega)] at x0
          have x1 := H2'.cellAt D.length (by omega)
          rw [cb_at _ _ (by omega)] at x1
          have ey : (E ++ [77])[C.length]'(by omega) = 77 := by simp [HEe.out]
          have fy : (F ++ [78])[D.length]'(by omega) = 78 := by simp [HFe.out]
          rw [ey] at x0
          rw [fy] at x1
          have x2 := C1'.at 0 (by have := HEe.out; omega)
          rw [HE0.out] at x2
          have x3 := D2.out.at 0 (by have := HFe.out; omega)
          rw [HF0.out] at x3
          have m0 : IntKind.i64.wrap (C.length : Int) = (C.length : Int) := IntWalk.i64_in _ (by have := HCl.out; omega)
          have m1 : IntKind.i64.wrap (D.length : Int) = (D.length : Int) := IntWalk.i64_in _ (by have := HDl.out; omega)
          have m2 : ¬ C = [] := fun h => by rw [h] at hc1; simp at hc1
          have m3 : ¬ D = [] := fun h => by rw [h] at hd1; simp at hd1
          have m4 : (0 : Int) < (C.length : Int) := by omega
          have m5 : (0 : Int) < (D.length : Int) := by omega
          have m6 : (0 : Int) ≤ (C.length : Int) := by omega
          have m7 : (0 : Int) ≤ (D.length : Int) := by omega
          have m8 : (C.length : Int) < (C.length : Int) + 1 := by omega
          have m9 : (D.length : Int) < (D.length : Int) + 1 := by omega
          clear H1' H2' C1' ey fy le lf hne
          go_wp2_with (first | (go_at_call 14; refine (Y0.out _ HK3.out).mono ?_; rintro e wx ⟨rfl, rfl⟩; clear Y0) | (go_at_call 14; refine (Y1.out _ HK3.out).mono ?_; rintro e wx ⟨rfl, rfl⟩; clear Y1))
          refine bodyPost_ret (v := .bool true) (by simp [results, Try.results3, go_sem]) rfl ⟨rfl, bl_trans HB.out HK3.out⟩
end Go.Proofs.Ytfkigebbcbfkiaa
