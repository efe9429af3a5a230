import Derived.Test.YtbkiobfjabadeaaDoorYc
namespace Go.Proofs.YtbkiobfjabadeaaDoor
open Go.RowKit
set_option linter.unusedVariables false
set_option maxRecDepth 100000 in
set_option maxHeartbeats 8000000 in
theorem twin_any (a r s t : E4) (V1 V2 : Value) (n m : Nat) (g h : Nat → E4) (w : World) (hn : n ≤ 4398046510976) (hm : m ≤ 4398046510976) (h1 : In w V1 n g) (h2 : In w V2 m h) :
    Calls Tryd.prog 4 #[.agg (tc a r s t V1 V2).toArray] w fun e w' => ∃ b1 c1 b2 c2 : Nat, e = .returned (.agg (tc a r s t (.slice (some ⟨b1, 0, none⟩) n c1) (.slice (some ⟨b2, 0, none⟩) m c2)).toArray) ∧ b1 < b2 ∧ n + 1 ≤ c1 ∧ m + 1 ≤ c2 ∧
      w'.ownsRow w.heap.size 28 4 (.slice (some ⟨b1, 0, none⟩) (n + 1) c1) (n + 1) (svs (n + 1) (mk g n 77)) ∧ w'.ownsRow w.heap.size 28 4 (.slice (some ⟨b2, 0, none⟩) (m + 1) c2) (m + 1) (svs (m + 1) (mk h m 78)) ∧ Below w.heap.size w w' := by
  obtain ⟨D, hD⟩ : ∃ D, tc a r s t V1 V2 = D := ⟨_, rfl⟩
  have L16 : D[16]? = some V1 := by rw [← hD]; rfl
  have L17 : D[17]? = some V2 := by rw [← hD]; rfl
  have DL : Hid (D.length = 18) := hidden (by rw [← hD]; rfl)
  have HD := hidden hD
  have HN := hidden hn
  have HM := hidden hm
  have I1 := hidden h1
  have I2 := hidden h2
  have M0 := (Mw.start w).new D 31
  have M1 := M0.new tz 31
  rw [World.size_alloc] at M1
  have MM := hidden M1
  obtain ⟨i0, hi, hz0, hz1, hz2⟩ := info_parts info27
  have HI := hidden hi
  have HZ0 := hidden hz0
  have HZ1 := hidden hz1
  have HZ2 := hidden hz2
  have HU : Hid (Tryd.prog.underlying 29 = some (.slice 28)) := hidden (by kernel_rfl)
  have EX1 : ∃ p c, V1 = .slice p n c := by obtain ⟨p, c, e, -⟩ := h1; exact ⟨p, c, e⟩
  have EX2 : ∃ p c, V2 = .slice p m c := by obtain ⟨p, c, e, -⟩ := h2; exact ⟨p, c, e⟩
  obtain ⟨p1, c1, e1⟩ := EX1
  obtain ⟨p2, c2, e2⟩ := EX2
  rw [hD]
  rw [e1] at I1 L16 HD
  rw [e2] at I2 L17 HD
  clear hi hz0 hz1 hz2 hn hm h1 h2 hD M0 M1 e1 e2
  go_enter Tryd.func4, Tryd.ntmps4
  go_upto_region 1 with (refine wpList_ptalloc rfl rfl ?_)
  have W1 : Hid (w.heap.size + 1 < ((w.alloc (.cells D.toArray 31)).alloc (.cells tz.toArray 31)).heap.size) := hidden (by simp)
  generalize (w.alloc (.cells D.toArray 31)).alloc (.cells tz.toArray 31) = w1 at *
  have r0 := (MM.out.r (w.heap.size, D) (by simp)).1
  have cL := r0 16 _ L16
  simp only [Nat.zero_add] at cL
  replace cL := cell_keep cL (bl_alloc w1 (.cells #[] 28))
  clear r0
  go_upto_region 2 with (first | (at_builtin; refine wpList_appIn rfl _ _ 29 rfl w1.heap.size 28 i0 HU.out HI.out HZ0.out HZ1.out HZ2.out (.slice (some ⟨w1.heap.size, 0, none⟩) 0 0) 0 [] rfl (World.ownsRow_made (base := w1.heap.size) (e := 28) (size := 4) w1 #[] 0 (Nat.le_refl _) (by unfold maxLen; omega) rfl) _ n g rfl ((I1.out.keep MM.out.bel).keep (bl_alloc w1 _)) (by have := HN.out; omega) (by simp) ?_; intro va wa hoa hga hna; rw [Nat.zero_add, List.nil_append] at hoa; have OA := hidden hoa; have FA := hidden (below_transI (bl_alloc w1 (.cells #[] 28)) (below_grown hga (base := w1.heap.size) (by simp) (fun k hk => by simp [Value.ownBlock] at hk; omega))); clear hoa hga hna) | (at_builtin; refine wpList_append_moreS _ rfl _ _ 29 rfl w1.heap.size 28 i0 (.agg #[.int .u64 0, .int .u64 0, .int .u64 0, .int .u64 0]) 32 HU.out HI.out HZ0.out HZ1.out HZ2.out rfl _ _ _ rfl (Or.inl (OA.out.alloc _)) ⟨wa.heap.size, 0, none⟩ [.int .u64 77, .int .u64 0, .int .u64 0, .int .u64 0] rfl rfl (cells_new wa [.int .u64 77, .int .u64 0, .int .u64 0, .int .u64 0] 28) (by simp [Value.oneCell']) (by have := HN.out; unfold maxLen; omega) (by have := HN.out; omega) (by have := FA.out.size; simp; omega) ?_; intro vbA wbA hob hgb; rw [mk_svs] at hob; have PA := hidden hob; have EA := hidden (below_transI (below_transI FA.out (bl_mono (bl_alloc wa _) FA.out.size)) hgb); clear hob hgb OA FA))
  have M2 := hidden (MM.out.keep EA.out)
  have W2 := hidden EA.out.size
  clear MM cL EA
  have r0 := (M2.out.r (w.heap.size, D) (by simp)).1
  have cR := r0 17 _ L17
  simp only [Nat.zero_add] at cR
  replace cR := cell_keep cR (bl_alloc wbA (.cells #[] 28))
  clear r0
  go_upto_region 3 with (first | (at_builtin; refine wpList_appIn rfl _ _ 29 rfl wbA.heap.size 28 i0 HU.out HI.out HZ0.out HZ1.out HZ2.out (.slice (some ⟨wbA.heap.size, 0, none⟩) 0 0) 0 [] rfl (World.ownsRow_made (base := wbA.heap.size) (e := 28) (size := 4) wbA #[] 0 (Nat.le_refl _) (by unfold maxLen; omega) rfl) _ m h rfl ((I2.out.keep M2.out.bel).keep (bl_alloc wbA _)) (by have := HM.out; omega) (by simp) ?_; intro va wa hoa hga hna; rw [Nat.zero_add, List.nil_append] at hoa; have OB := hidden hoa; have FB := hidden (below_transI (bl_alloc wbA (.cells #[] 28)) (below_grown hga (base := wbA.heap.size) (by simp) (fun k hk => by simp [Value.ownBlock] at hk; omega))); clear hoa hga hna) | (at_builtin; refine wpList_append_moreS _ rfl _ _ 29 rfl wbA.heap.size 28 i0 (.agg #[.int .u64 0, .int .u64 0, .int .u64 0, .int .u64 0]) 32 HU.out HI.out HZ0.out HZ1.out HZ2.out rfl _ _ _ rfl (Or.inl (OB.out.alloc _)) ⟨wa.heap.size, 0, none⟩ [.int .u64 78, .int .u64 0, .int .u64 0, .int .u64 0] rfl rfl (cells_new wa [.int .u64 78, .int .u64 0, .int .u64 0, .int .u64 0] 28) (by simp [Value.oneCell']) (by have := HM.out; unfold maxLen; omega) (by have := HM.out; omega) (by have := FB.out.size; simp; omega) ?_; intro vbB wbB hob hgb; rw [mk_svs] at hob; have PB := hidden hob; have EB := hidden (below_transI (below_transI FB.out (bl_mono (bl_alloc wa _) FB.out.size)) hgb); clear hob hgb OB FB))
  have M3 := hidden (M2.out.keep EB.out)
  clear cR
  obtain ⟨b1, d1, rfl, k1⟩ := own_some4 PA.out (by omega)
  obtain ⟨b2, d2, rfl, k2⟩ := own_some4 PB.out (by omega)
  have LT : Hid (b1 < b2) := hidden (Nat.lt_of_lt_of_le (PA.out.lt b1 rfl).2 (PB.out.lt b2 rfl).1)
  have Q1 := hidden (own_mono (base' := w.heap.size) (own_keepX PA.out EB.out) (by have := W1.out; omega))
  have Q2 := hidden (own_mono (base' := w.heap.size) PB.out M2.out.bel.size)
  have T3 := (M3.out.r (w.heap.size, D) (by simp)).2.1
  rw [DL.out] at T3
  have r0 := (M3.out.r (w.heap.size, D) (by simp)).1
  have x16 := r0 16 _ L16
  have x17 := r0 17 _ L17
  have f16 := (T3 16 (by omega)).2
  have f17 := (T3 17 (by omega)).2
  simp only [Nat.zero_add] at x16 x17 f16 f17
  have SL1 : wrap64 (n : Int) = (n : Int) := by have := HN.out; unfold wrap64; omega
  have SL2 : wrap64 (m : Int) = (m : Int) := by have := HM.out; unfold wrap64; omega
  have n1 : (0 : Int) ≤ (n : Int) := by omega
  have n2 : (n : Int) ≤ (d1 : Int) := by omega
  have n3 : (0 : Int) ≤ (m : Int) := by omega
  have n4 : (m : Int) ≤ (d2 : Int) := by omega
  have M4 := hidden (M3.out.patch (M := [(w.heap.size + 1, tz)]) (c := w.heap.size) (D := D) 16 [.slice (some ⟨b1, 0, none⟩) n d1] (by simp) (by have := DL.out; simp; omega) (by simp))
  have G2 : Hid (w.heap.size + 1 ≠ b1 ∧ w.heap.size + 1 ≠ b2) := hidden ⟨by have := (PA.out.lt b1 rfl).1; have := W1.out; omega, by have := (PB.out.lt b2 rfl).1; have := W1.out; have := W2.out; omega⟩
  have G1 : Hid (w.heap.size ≠ b1 ∧ w.heap.size ≠ b2) := hidden ⟨by have := (PA.out.lt b1 rfl).1; have := W1.out; omega, by have := (PB.out.lt b2 rfl).1; have := W1.out; have := W2.out; omega⟩
  clear r0 T3 EB PA PB M2
  have M5 : Hid (Mw w ((w.heap.size, pt D 16 [.slice (some ⟨b1, 0, none⟩) n d1]) :: [(w.heap.size + 1, tz)]) (wbB.setCell ⟨w.heap.size, 16, none⟩ (.slice (some ⟨b1, 0, none⟩) n d1))) := M4
  replace Q1 := hidden (ownsRow_setCell_other Q1.out (a := ⟨w.heap.size, 16, none⟩) (fun e => G1.out.1 (Option.some.inj e).symm) (.slice (some ⟨b1, 0, none⟩) n d1))
  replace Q2 := hidden (ownsRow_setCell_other Q2.out (a := ⟨w.heap.size, 16, none⟩) (fun e => G1.out.2 (Option.some.inj e).symm) (.slice (some ⟨b1, 0, none⟩) n d1))
  have E17 : Hid ((pt D 16 [.slice (some ⟨b1, 0, none⟩) n d1])[17]? = some (.slice p2 m c2)) := hidden (by rw [pt_out (by have := DL.out; simp; omega) (by simp)]; exact L17)
  have EL : Hid ((pt D 16 [.slice (some ⟨b1, 0, none⟩) n d1]).length = 18) := hidden (by rw [pt_len (by have := DL.out; simp; omega)]; exact DL.out)
  clear M4 x17 f17
  go_upto_region 4 with fail
  generalize wbB.setCell ⟨w.heap.size, 16, none⟩ (.slice (some ⟨b1, 0, none⟩) n d1) = w4 at *
  have r0 := (M5.out.r (w.heap.size, pt D 16 [.slice (some ⟨b1, 0, none⟩) n d1]) (by simp)).1
  have x17 := r0 17 _ E17.out
  have T3 := (M5.out.r (w.heap.size, pt D 16 [.slice (some ⟨b1, 0, none⟩) n d1]) (by simp)).2.1
  rw [EL.out] at T3
  have f17 := (T3 17 (by omega)).2
  simp only [Nat.zero_add] at x17 f17
  clear r0 T3 x16 f16 M3
  have M6 := M5.out.patch (M := [(w.heap.size + 1, tz)]) (c := w.heap.size) (D := pt D 16 [.slice (some ⟨b1, 0, none⟩) n d1]) 17 [.slice (some ⟨b2, 0, none⟩) m d2] (by simp) (by have := EL.out; simp; omega) (by simp)
  have FE : pt (pt D 16 [.slice (some ⟨b1, 0, none⟩) n d1]) 17 [.slice (some ⟨b2, 0, none⟩) m d2] = tc a r s t (.slice (some ⟨b1, 0, none⟩) n d1) (.slice (some ⟨b2, 0, none⟩) m d2) := by rw [← HD.out, tc_16, tc_17]
  rw [FE] at M6
  have M7 : Hid (Mw w ((w.heap.size, tc a r s t (.slice (some ⟨b1, 0, none⟩) n d1) (.slice (some ⟨b2, 0, none⟩) m d2)) :: [(w.heap.size + 1, tz)]) (w4.setCell ⟨w.heap.size, 17, none⟩ (.slice (some ⟨b2, 0, none⟩) m d2))) := hidden M6
  replace Q1 := hidden (ownsRow_setCell_other Q1.out (a := ⟨w.heap.size, 17, none⟩) (fun e => G1.out.1 (Option.some.inj e).symm) (.slice (some ⟨b2, 0, none⟩) m d2))
  replace Q2 := hidden (ownsRow_setCell_other Q2.out (a := ⟨w.heap.size, 17, none⟩) (fun e => G1.out.2 (Option.some.inj e).symm) (.slice (some ⟨b2, 0, none⟩) m d2))
  clear M5 M6 FE E17 EL
  go_upto_region 5 with fail
  generalize w4.setCell ⟨w.heap.size, 17, none⟩ (.slice (some ⟨b2, 0, none⟩) m d2) = w5 at *
  have ONE := hidden (tc_one a r s t (some ⟨b1, 0, none⟩) (some ⟨b2, 0, none⟩) n d1 m d2)
  have KK := hidden (⟨k1, k2⟩ : n + 1 ≤ d1 ∧ m + 1 ≤ d2)
  have TL : Hid ((tc a r s t (.slice (some ⟨b1, 0, none⟩) n d1) (.slice (some ⟨b2, 0, none⟩) m d2)).length = 18) := hidden rfl
  have U31 : Hid (Tryd.prog.underlying 31 = some _) := hidden Tryd.underlying31
  obtain ⟨DD, hDD⟩ : ∃ DD, tc a r s t (.slice (some ⟨b1, 0, none⟩) n d1) (.slice (some ⟨b2, 0, none⟩) m d2) = DD := ⟨_, rfl⟩
  have DE := hidden hDD
  rw [hDD] at ONE TL M7
  clear hDD
  have DI : Hid ((Tryd.prog.info? 31).map (·.size) = some DD.length) := hidden (by rw [TL.out]; exact ptinfo)
  have DJ : Hid ((Tryd.prog.info? 31).map (·.size) = some DD.toArray.size) := hidden (by rw [List.size_toArray, TL.out]; exact ptinfo)
  have TH := hidden (M7.out.ther DD (c := w.heap.size + 1) (o := tz) (by simp) (by rw [TL.out]; rfl))
  have MF := hidden (M7.out.set (M := []) DD (c := w.heap.size + 1) (o := tz) (by simp) (by rw [TL.out]; rfl) (by simp))
  have GN : Hid (w.heap.size + 1 ≠ b1 ∧ w.heap.size + 1 ≠ b2) := G2
  replace Q1 := hidden (own_setCells Q1.out (w.heap.size + 1) 0 DD (fun e => GN.out.1 (Option.some.inj e).symm))
  replace Q2 := hidden (own_setCells Q2.out (w.heap.size + 1) 0 DD (fun e => GN.out.2 (Option.some.inj e).symm))
  go_wp2_with (first | (refine wpList_load_mid rfl 31 _ rfl w.heap.size 0 (by rfl) DD _ (M7.out.r (w.heap.size, DD) (by simp)).1 U31.out rfl DI.out ?_) | (refine wpList_storeL rfl 31 _ _ rfl rfl (w.heap.size + 1) 0 DD (by rfl) (by rfl) TH.out DJ.out ONE.out ?_; clear M7 TH; generalize World.setCells _ (w.heap.size + 1) 0 DD = wf at *))
  have LD := hidden (MF.out.var (c := w.heap.size + 1) (ds := DD) (by simp) U31.out rfl DI.out)
  refine bodyPost_ret (v := .agg DD.toArray) (results_cellM Tryd.results4 _ _ _ _ _ (by rfl) LD.out) rfl ⟨b1, d1, b2, d2, by rw [DE.out], LT.out, KK.out.1, KK.out.2, Q1.out, Q2.out, MF.out.bel⟩
end Go.Proofs.YtbkiobfjabadeaaDoor
