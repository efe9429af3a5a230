import Derived.Test.YtgijodenblpbgaaDoorFxy
import Derived.Test.YtgijodenblpbgaaDoorRne
import Derived.Test.YtgijodenblpbgaaDoorSel
import Derived.Test.YtgijodenblpbgaaDoorSam2
namespace Go.Proofs.YtgijodenblpbgaaDoor
open Go.RowKit
theorem abs_F (n : Int) : absn n % pF = absF (n % pF) := by
  unfold absn absF
  rw [show Fm.P = pF from rfl]
  by_cases h : n % pF % 2 = 1
  · rw [if_pos h, if_pos h, ← Int.zero_sub, ← Int.zero_sub, Int.sub_emod_emod]
  · rw [if_neg h, if_neg h]
set_option maxRecDepth 100000 in
set_option maxHeartbeats 32000000 in
theorem asks_any (a b : E5) (i : Int) (w : World) (hP : Pm w) (hZ : Zr w) (ha : a.ok) (hb : b.ok) (hi : bits .and .i64 i 1 = 0 ∨ bits .and .i64 i 1 = 1) : Calls Tryd.prog 6 #[a.v, b.v, .int .i64 i] w fun e w' => e = .returned (.bool true) ∧ Below w.heap.size w w' := by
  have pp : 0 < pF := by decide
  have xm : 0 ≤ a.n % pF ∧ a.n % pF < pF := ⟨Int.emod_nonneg _ (by omega), Int.emod_lt_of_pos _ pp⟩
  have ym : 0 ≤ b.n % pF ∧ b.n % pF < pF := ⟨Int.emod_nonneg _ (by omega), Int.emod_lt_of_pos _ pp⟩
  have OA := hidden (fun w P => of_any a w ha P)
  have OB := hidden (fun w P => of_any b w hb P)
  have SA := hidden (fun w => Same_any a b w ha hb)
  have IZ := hidden (fun w => IsZero_any a w ha)
  have NE := hidden (fun w => Negative_any a w ha)
  have RN := hidden (fun w => rNegative_any (a.n % pF) w)
  have AB := hidden (fun w => fixF (Abs_any a w ha))
  have RB := hidden (fun w P Z => rAbs_any (a.n % pF) w xm.1 xm.2 P Z)
  rw [abs_F] at AB
  have EQ1 := fun w => eq10 (digs (a.n % pF)) (digs (b.n % pF)) w (digs_len _) (digs_len _)
  have EQ2 := fun w => eq10 (digs (a.n % pF)) (digs 0) w (digs_len _) (digs_len _)
  rw [show decide (digs (a.n % pF) = digs (b.n % pF)) = decide (a.n % pF = b.n % pF) from decide_eq_decide.2 (digs_inj xm.1 xm.2 ym.1 ym.2)] at EQ1
  rw [show decide (digs (a.n % pF) = digs 0) = decide (a.n % pF = 0) from decide_eq_decide.2 (digs_inj xm.1 xm.2 (by omega) pp)] at EQ2
  rw [show Fm.P = pF from rfl] at SA IZ NE
  rw [show (a.n % pF % 2 == 1) = decide (a.n % pF % 2 = 1) from rfl] at NE
  have aF : 0 ≤ absF (a.n % pF) ∧ absF (a.n % pF) < pF := by
    unfold absF
    split
    · exact ⟨Int.emod_nonneg _ (by omega), Int.emod_lt_of_pos _ pp⟩
    · exact xm
  have IA := hidden (fun w => is_any (absF (a.n % pF)) w aF.1 aF.2)
  have h1 := Ru.new5 w a 24
  have h2 := Ru.new5 (w.alloc (.cells #[.int .u64 a.x0, .int .u64 a.x1, .int .u64 a.x2, .int .u64 a.x3, .int .u64 a.x4] 24)) b 24
  simp only [World.size_alloc] at h2
  have bl := bl_alloc2 w (.cells #[.int .u64 a.x0, .int .u64 a.x1, .int .u64 a.x2, .int .u64 a.x3, .int .u64 a.x4] 24) (.cells #[.int .u64 b.x0, .int .u64 b.x1, .int .u64 b.x2, .int .u64 b.x3, .int .u64 b.x4] 24)
  have S0 := hidden (⟨h1.keep (bl_alloc _ _), h2, hP.keep bl, fun _ => hZ.keep bl, bl⟩ : LW w a b True _)
  have HU := hidden (f10 (a.n % pF)).u
  have HIX := hidden (f10 (a.n % pF)).i
  have HIY := hidden (f10 (b.n % pF)).i
  have HIZ := hidden (f10 0).i
  have HI2X := hidden (f10 (a.n % pF)).i2
  have HI2Y := hidden (f10 (b.n % pF)).i2
  have HOX := hidden (f10 (a.n % pF)).o
  have HOY := hidden (f10 (b.n % pF)).o
  have HLX := hidden (f10 (a.n % pF)).l
  have HLY := hidden (f10 (b.n % pF)).l
  have ZZ : Hid (∀ w', Zr w' → w'.rangeAt 0 0 ((digs 0).map fun z => Value.int .i64 z)) := hidden (fun _ h => h.r)
  have SX := hidden (fun w (h : bits .and .i64 i 1 = 1) => fixF (Sel1 i a b w ha hb h))
  have SY := hidden (fun w (h : bits .and .i64 i 1 = 0) => fixF (Sel0 i a b w ha hb h))
  have IX := hidden (fun w => is_any (a.n % pF) w xm.1 xm.2)
  have IY := hidden (fun w => is_any (b.n % pF) w ym.1 ym.2)
  unfold fv at OA OB RN RB IA IX IY
  clear h1 h2 bl hP hZ pp xm ym ha hb aF
  generalize ((digs (a.n % pF)).map fun z => Value.int .i64 z) = cx at *
  generalize ((digs (b.n % pF)).map fun z => Value.int .i64 z) = cy at *
  generalize ((digs 0).map fun z => Value.int .i64 z) = cz at *
  generalize ((digs (absF (a.n % pF))).map fun z => Value.int .i64 z) = ca at *
  generalize lst (absF (a.n % pF)) = la at *
  generalize lst (a.n % pF) = lx at *
  generalize lst (b.n % pF) = ly at *
  generalize decide (a.n % pF = b.n % pF) = B1 at *
  generalize decide (a.n % pF = 0) = B2 at *
  generalize decide (a.n % pF % 2 = 1) = B3 at *
  have E1 := hidden EQ1
  have E2 := hidden EQ2
  clear EQ1 EQ2
  simp only [E5.v] at OA OB SA IZ NE AB IA IX IY SX SY ⊢
  go_enter Tryd.func6, Tryd.ntmps6
  go_upto_region 1 with fail
  generalize ((w.alloc (.cells #[.int .u64 a.x0, .int .u64 a.x1, .int .u64 a.x2, .int .u64 a.x3, .int .u64 a.x4] 24)).alloc (.cells #[.int .u64 b.x0, .int .u64 b.x1, .int .u64 b.x2, .int .u64 b.x3, .int .u64 b.x4] 24)) = wB at S0 ⊢
  go_cut [7, 8] (fun vx vy wx => ∃ X Y : Nat, vx = .pointer (some ⟨X, 0, none⟩) ∧ vy = .pointer (some ⟨Y, 0, none⟩) ∧ X ≠ Y ∧ XW w a b True [(Y, cy), (X, cx)] wx)
  case first =>
    have OW := hidden (⟨S0.out.keep (drew_bl wB), fun p hp => (by cases hp)⟩ : XW w a b True [] wB.drew)
    refine wp_region_held_drew (S := LW w a b True) (by kernel_rfl) OW.out.l (fun hHeld => ?_)
    generalize wB.drew = wd at OW hHeld ⊢
    refine wpAnyH_take (i := 0) (oi := _) (v := ?_) rfl (by kernel_rfl) (by kernel_rfl) (by kernel_rfl) (fun _ _ _ h => h) (Or.inl ⟨by rfl, ?_⟩) hHeld ?_
    rotate_left 1
    · (intro w0 hSw; have d0 := hSw.a.c 0 (by omega); have d1 := hSw.a.c 1 (by omega); have d2 := hSw.a.c 2 (by omega); have d3 := hSw.a.c 3 (by omega); have d4 := hSw.a.c 4 (by omega); simp only [lmf] at d0 d1 d2 d3 d4; clear hSw; go_simp; try with_reducible rfl)
    refine wpAnyH_take (i := 2) (oi := _) (v := ?_) rfl (by kernel_rfl) (by kernel_rfl) (by kernel_rfl) (fun _ _ _ h => h) (Or.inl ⟨by rfl, ?_⟩) hHeld ?_
    rotate_left 1
    · (intro w0 hSw; have d0 := hSw.b.c 0 (by omega); have d1 := hSw.b.c 1 (by omega); have d2 := hSw.b.c 2 (by omega); have d3 := hSw.b.c 3 (by omega); have d4 := hSw.b.c 4 (by omega); simp only [lmf] at d0 d1 d2 d3 d4; clear hSw; go_simp; try with_reducible rfl)
    refine wpAnyH_ready (rs := [1, 4, 5]) (by kernel_rfl) (by simp) ?_
    refine AllReadyH.cons (o := _) rfl (fun K hK => ?_) ?_
    · go_simp
      refine (OA.out _ hHeld.p).mono ?_
      rintro e u1 ⟨rfl, hb1⟩
      have O1 := hidden (OW.out.keep hb1)
      go_wp2_with fail
      refine hK.out _ _ O1.out.l (fun hHeld2 => ?_)
      clear hK K hHeld hb1
      have hHeld := hHeld2
      clear hHeld2
      refine wpAnyH_ready (rs := [3, 4, 5]) (by kernel_rfl) (by simp) ?_
      refine AllReadyH.cons (o := _) rfl (fun K hK => ?_) ?_
      · go_simp
        refine (OB.out _ hHeld.p).mono ?_
        rintro e u2 ⟨rfl, hb2⟩
        have O2 := hidden (O1.out.keep hb2)
        go_wp2_with fail
        refine hK.out _ _ O2.out.l (fun hHeld2 => ?_)
        clear hK K hHeld hb2
        have hHeld := hHeld2
        clear hHeld2
        refine wpAnyH_ready (rs := [4, 5]) (by kernel_rfl) (by simp) ?_
        refine AllReadyH.cons (o := _) rfl (fun K hK => ?_) ?_
        · have O3 := hidden (O2.out.new 29)
          go_simp
          refine hK.out _ _ O3.out.l (fun hHeld2 => ?_)
          clear hK K hHeld
          have hHeld := hHeld2
          clear hHeld2
          obtain ⟨B3, hB3⟩ : ∃ n, u2.heap.size = n := ⟨_, rfl⟩
          generalize u2.alloc (.cells #[.int .i64 0, .int .i64 0, .int .i64 0, .int .i64 0, .int .i64 0, .int .i64 0, .int .i64 0, .int .i64 0, .int .i64 0, .int .i64 0] 29) = v3 at *
          simp only [hB3] at O3 ⊢
          clear hB3
          refine wpAnyH_ready (rs := [5]) (by kernel_rfl) (by simp) ?_
          refine AllReadyH.cons (o := _) rfl (fun K hK => ?_) AllReadyH.nil
          · have O4 := hidden (O3.out.new 29)
            go_simp
            refine hK.out _ _ O4.out.l (fun hHeld2 => ?_)
            clear hK K hHeld
            have hHeld := hHeld2
            clear hHeld2
            obtain ⟨B4, hB4⟩ : ∃ n, v3.heap.size = n := ⟨_, rfl⟩
            generalize v3.alloc (.cells #[.int .i64 0, .int .i64 0, .int .i64 0, .int .i64 0, .int .i64 0, .int .i64 0, .int .i64 0, .int .i64 0, .int .i64 0, .int .i64 0] 29) = v4 at *
            simp only [hB4] at O4 ⊢
            have m4_0 : B3 < B4 := by have := O3.out.lt (B3, Z10) (by simp); omega
            clear hB4
            have P1 := hidden (O4.out.set (c := B3) (o := Z10) (ds := cx) (M := [(B4, Z10)]) (by simp) HLX.out (by simp; omega))
            have THP1 : v4.there B3 0 cx.toArray.size := by have := (O4.out.r (B3, Z10) (by simp)).2.1; simpa [HLX.out] using this
            refine wpAnyH_ready (rs := [6]) (by kernel_rfl) (by simp) ?_
            refine AllReadyH.cons (o := _) rfl (fun K hK => ?_) AllReadyH.nil
            rw [if_pos (by rfl)]
            refine wp_store_mid _ _ _ rfl _ _ (List.toArray cx) rfl rfl THP1 HI2X.out HOX.out ?_
            refine hK.out _ _ P1.out.l (fun hHeld2 => ?_)
            clear hK K hHeld
            have hHeld := hHeld2
            clear hHeld2
            have P2 := hidden (P1.out.set (c := B4) (o := Z10) (ds := cy) (M := [(B3, cx)]) (by simp) HLY.out (by simp; omega))
            have THP2 : (v4.setCells B3 0 cx).there B4 0 cy.toArray.size := by have := (P1.out.r (B4, Z10) (by simp)).2.1; simpa [HLY.out] using this
            refine wpAnyH_ready (rs := [7]) (by kernel_rfl) (by simp) ?_
            refine AllReadyH.cons (o := _) rfl (fun K hK => ?_) AllReadyH.nil
            rw [if_pos (by rfl)]
            refine wp_store_mid _ _ _ rfl _ _ (List.toArray cy) rfl rfl THP2 HI2Y.out HOY.out ?_
            refine hK.out _ _ P2.out.l (fun hHeld2 => ?_)
            clear hK K hHeld
            have hHeld := hHeld2
            clear hHeld2
            refine wpAnyH_done (by kernel_rfl) ?_ _
            have P3 := hidden (P2.out.sub (M := [(B4, cy), (B3, cx)]) (by simp))
            clear P1 P2 THP1 THP2
            go_wp2_with fail
            go_meet
            exact ⟨B3, B4, rfl, rfl, by omega, P3.out⟩
        refine AllReadyH.cons (o := _) rfl (fun K hK => ?_) AllReadyH.nil
        · have O5 := hidden (O2.out.new 29)
          go_simp
          refine hK.out _ _ O5.out.l (fun hHeld2 => ?_)
          clear hK K hHeld
          have hHeld := hHeld2
          clear hHeld2
          obtain ⟨B5, hB5⟩ : ∃ n, u2.heap.size = n := ⟨_, rfl⟩
          generalize u2.alloc (.cells #[.int .i64 0, .int .i64 0, .int .i64 0, .int .i64 0, .int .i64 0, .int .i64 0, .int .i64 0, .int .i64 0, .int .i64 0, .int .i64 0] 29) = v5 at *
          simp only [hB5] at O5 ⊢
          clear hB5
          refine wpAnyH_ready (rs := [4]) (by kernel_rfl) (by simp) ?_
          refine AllReadyH.cons (o := _) rfl (fun K hK => ?_) AllReadyH.nil
          · have O6 := hidden (O5.out.new 29)
            go_simp
            refine hK.out _ _ O6.out.l (fun hHeld2 => ?_)
            clear hK K hHeld
            have hHeld := hHeld2
            clear hHeld2
            obtain ⟨B6, hB6⟩ : ∃ n, v5.heap.size = n := ⟨_, rfl⟩
            generalize v5.alloc (.cells #[.int .i64 0, .int .i64 0, .int .i64 0, .int .i64 0, .int .i64 0, .int .i64 0, .int .i64 0, .int .i64 0, .int .i64 0, .int .i64 0] 29) = v6 at *
            simp only [hB6] at O6 ⊢
            have m6_0 : B5 < B6 := by have := O5.out.lt (B5, Z10) (by simp); omega
            clear hB6
            have P1 := hidden (O6.out.set (c := B6) (o := Z10) (ds := cx) (M := [(B5, Z10)]) (by simp) HLX.out (by simp; omega))
            have THP1 : v6.there B6 0 cx.toArray.size := by have := (O6.out.r (B6, Z10) (by simp)).2.1; simpa [HLX.out] using this
            refine wpAnyH_ready (rs := [6]) (by kernel_rfl) (by simp) ?_
            refine AllReadyH.cons (o := _) rfl (fun K hK => ?_) AllReadyH.nil
            rw [if_pos (by rfl)]
            refine wp_store_mid _ _ _ rfl _ _ (List.toArray cx) rfl rfl THP1 HI2X.out HOX.out ?_
            refine hK.out _ _ P1.out.l (fun hHeld2 => ?_)
            clear hK K hHeld
            have hHeld := hHeld2
            clear hHeld2
            have P2 := hidden (P1.out.set (c := B5) (o := Z10) (ds := cy) (M := [(B6, cx)]) (by simp) HLY.out (by simp; omega))
            have THP2 : (v6.setCells B6 0 cx).there B5 0 cy.toArray.size := by have := (P1.out.r (B5, Z10) (by simp)).2.1; simpa [HLY.out] using this
            refine wpAnyH_ready (rs := [7]) (by kernel_rfl) (by simp) ?_
            refine AllReadyH.cons (o := _) rfl (fun K hK => ?_) AllReadyH.nil
            rw [if_pos (by rfl)]
            refine wp_store_mid _ _ _ rfl _ _ (List.toArray cy) rfl rfl THP2 HI2Y.out HOY.out ?_
            refine hK.out _ _ P2.out.l (fun hHeld2 => ?_)
            clear hK K hHeld
            have hHeld := hHeld2
            clear hHeld2
            refine wpAnyH_done (by kernel_rfl) ?_ _
            have P3 := hidden (P2.out.sub (M := [(B5, cy), (B6, cx)]) (by simp))
            clear P1 P2 THP1 THP2
            go_wp2_with fail
            go_meet
            exact ⟨B6, B5, rfl, rfl, by omega, P3.out⟩
      refine AllReadyH.cons (o := _) rfl (fun K hK => ?_) ?_
      · have O7 := hidden (O1.out.new 29)
        go_simp
        refine hK.out _ _ O7.out.l (fun hHeld2 => ?_)
        clear hK K hHeld
        have hHeld := hHeld2
        clear hHeld2
        obtain ⟨B7, hB7⟩ : ∃ n, u1.heap.size = n := ⟨_, rfl⟩
        generalize u1.alloc (.cells #[.int .i64 0, .int .i64 0, .int .i64 0, .int .i64 0, .int .i64 0, .int .i64 0, .int .i64 0, .int .i64 0, .int .i64 0, .int .i64 0] 29) = v7 at *
        simp only [hB7] at O7 ⊢
        clear hB7
        refine wpAnyH_ready (rs := [3, 5]) (by kernel_rfl) (by simp) ?_
        refine AllReadyH.cons (o := _) rfl (fun K hK => ?_) ?_
        · go_simp
          refine (OB.out _ hHeld.p).mono ?_
          rintro e u8 ⟨rfl, hb8⟩
          have O8 := hidden (O7.out.keep hb8)
          go_wp2_with fail
          refine hK.out _ _ O8.out.l (fun hHeld2 => ?_)
          clear hK K hHeld hb8
          have hHeld := hHeld2
          clear hHeld2
          refine wpAnyH_ready (rs := [5]) (by kernel_rfl) (by simp) ?_
          refine AllReadyH.cons (o := _) rfl (fun K hK => ?_) AllReadyH.nil
          · have O9 := hidden (O8.out.new 29)
            go_simp
            refine hK.out _ _ O9.out.l (fun hHeld2 => ?_)
            clear hK K hHeld
            have hHeld := hHeld2
            clear hHeld2
            obtain ⟨B9, hB9⟩ : ∃ n, u8.heap.size = n := ⟨_, rfl⟩
            generalize u8.alloc (.cells #[.int .i64 0, .int .i64 0, .int .i64 0, .int .i64 0, .int .i64 0, .int .i64 0, .int .i64 0, .int .i64 0, .int .i64 0, .int .i64 0] 29) = v9 at *
            simp only [hB9] at O9 ⊢
            have m9_0 : B7 < B9 := by have := O8.out.lt (B7, Z10) (by simp); omega
            clear hB9
            have P1 := hidden (O9.out.set (c := B7) (o := Z10) (ds := cx) (M := [(B9, Z10)]) (by simp) HLX.out (by simp; omega))
            have THP1 : v9.there B7 0 cx.toArray.size := by have := (O9.out.r (B7, Z10) (by simp)).2.1; simpa [HLX.out] using this
            refine wpAnyH_ready (rs := [6]) (by kernel_rfl) (by simp) ?_
            refine AllReadyH.cons (o := _) rfl (fun K hK => ?_) AllReadyH.nil
            rw [if_pos (by rfl)]
            refine wp_store_mid _ _ _ rfl _ _ (List.toArray cx) rfl rfl THP1 HI2X.out HOX.out ?_
            refine hK.out _ _ P1.out.l (fun hHeld2 => ?_)
            clear hK K hHeld
            have hHeld := hHeld2
            clear hHeld2
            have P2 := hidden (P1.out.set (c := B9) (o := Z10) (ds := cy) (M := [(B7, cx)]) (by simp) HLY.out (by simp; omega))
            have THP2 : (v9.setCells B7 0 cx).there B9 0 cy.toArray.size := by have := (P1.out.r (B9, Z10) (by simp)).2.1; simpa [HLY.out] using this
            refine wpAnyH_ready (rs := [7]) (by kernel_rfl) (by simp) ?_
            refine AllReadyH.cons (o := _) rfl (fun K hK => ?_) AllReadyH.nil
            rw [if_pos (by rfl)]
            refine wp_store_mid _ _ _ rfl _ _ (List.toArray cy) rfl rfl THP2 HI2Y.out HOY.out ?_
            refine hK.out _ _ P2.out.l (fun hHeld2 => ?_)
            clear hK K hHeld
            have hHeld := hHeld2
            clear hHeld2
            refine wpAnyH_done (by kernel_rfl) ?_ _
            have P3 := hidden (P2.out.sub (M := [(B9, cy), (B7, cx)]) (by simp))
            clear P1 P2 THP1 THP2
            go_wp2_with fail
            go_meet
            exact ⟨B7, B9, rfl, rfl, by omega, P3.out⟩
        refine AllReadyH.cons (o := _) rfl (fun K hK => ?_) AllReadyH.nil
        · have O10 := hidden (O7.out.new 29)
          go_simp
          refine hK.out _ _ O10.out.l (fun hHeld2 => ?_)
          clear hK K hHeld
          have hHeld := hHeld2
          clear hHeld2
          obtain ⟨B10, hB10⟩ : ∃ n, v7.heap.size = n := ⟨_, rfl⟩
          generalize v7.alloc (.cells #[.int .i64 0, .int .i64 0, .int .i64 0, .int .i64 0, .int .i64 0, .int .i64 0, .int .i64 0, .int .i64 0, .int .i64 0, .int .i64 0] 29) = v10 at *
          simp only [hB10] at O10 ⊢
          have m10_0 : B7 < B10 := by have := O7.out.lt (B7, Z10) (by simp); omega
          clear hB10
          refine wpAnyH_ready (rs := [3]) (by kernel_rfl) (by simp) ?_
          refine AllReadyH.cons (o := _) rfl (fun K hK => ?_) AllReadyH.nil
          · go_simp
            refine (OB.out _ hHeld.p).mono ?_
            rintro e u11 ⟨rfl, hb11⟩
            have O11 := hidden (O10.out.keep hb11)
            go_wp2_with fail
            refine hK.out _ _ O11.out.l (fun hHeld2 => ?_)
            clear hK K hHeld hb11
            have hHeld := hHeld2
            clear hHeld2
            have P1 := hidden (O11.out.set (c := B7) (o := Z10) (ds := cx) (M := [(B10, Z10)]) (by simp) HLX.out (by simp; omega))
            have THP1 : u11.there B7 0 cx.toArray.size := by have := (O11.out.r (B7, Z10) (by simp)).2.1; simpa [HLX.out] using this
            refine wpAnyH_ready (rs := [6]) (by kernel_rfl) (by simp) ?_
            refine AllReadyH.cons (o := _) rfl (fun K hK => ?_) AllReadyH.nil
            rw [if_pos (by rfl)]
            refine wp_store_mid _ _ _ rfl _ _ (List.toArray cx) rfl rfl THP1 HI2X.out HOX.out ?_
            refine hK.out _ _ P1.out.l (fun hHeld2 => ?_)
            clear hK K hHeld
            have hHeld := hHeld2
            clear hHeld2
            have P2 := hidden (P1.out.set (c := B10) (o := Z10) (ds := cy) (M := [(B7, cx)]) (by simp) HLY.out (by simp; omega))
            have THP2 : (u11.setCells B7 0 cx).there B10 0 cy.toArray.size := by have := (P1.out.r (B10, Z10) (by simp)).2.1; simpa [HLY.out] using this
            refine wpAnyH_ready (rs := [7]) (by kernel_rfl) (by simp) ?_
            refine AllReadyH.cons (o := _) rfl (fun K hK => ?_) AllReadyH.nil
            rw [if_pos (by rfl)]
            refine wp_store_mid _ _ _ rfl _ _ (List.toArray cy) rfl rfl THP2 HI2Y.out HOY.out ?_
            refine hK.out _ _ P2.out.l (fun hHeld2 => ?_)
            clear hK K hHeld
            have hHeld := hHeld2
            clear hHeld2
            refine wpAnyH_done (by kernel_rfl) ?_ _
            have P3 := hidden (P2.out.sub (M := [(B10, cy), (B7, cx)]) (by simp))
            clear P1 P2 THP1 THP2
            go_wp2_with fail
            go_meet
            exact ⟨B7, B10, rfl, rfl, by omega, P3.out⟩
      refine AllReadyH.cons (o := _) rfl (fun K hK => ?_) AllReadyH.nil
      · have O12 := hidden (O1.out.new 29)
        go_simp
        refine hK.out _ _ O12.out.l (fun hHeld2 => ?_)
        clear hK K hHeld
        have hHeld := hHeld2
        clear hHeld2
        obtain ⟨B12, hB12⟩ : ∃ n, u1.heap.size = n := ⟨_, rfl⟩
        generalize u1.alloc (.cells #[.int .i64 0, .int .i64 0, .int .i64 0, .int .i64 0, .int .i64 0, .int .i64 0, .int .i64 0, .int .i64 0, .int .i64 0, .int .i64 0] 29) = v12 at *
        simp only [hB12] at O12 ⊢
        clear hB12
        refine wpAnyH_ready (rs := [3, 4]) (by kernel_rfl) (by simp) ?_
        refine AllReadyH.cons (o := _) rfl (fun K hK => ?_) ?_
        · go_simp
          refine (OB.out _ hHeld.p).mono ?_
          rintro e u13 ⟨rfl, hb13⟩
          have O13 := hidden (O12.out.keep hb13)
          go_wp2_with fail
          refine hK.out _ _ O13.out.l (fun hHeld2 => ?_)
          clear hK K hHeld hb13
          have hHeld := hHeld2
          clear hHeld2
          refine wpAnyH_ready (rs := [4]) (by kernel_rfl) (by simp) ?_
          refine AllReadyH.cons (o := _) rfl (fun K hK => ?_) AllReadyH.nil
          · have O14 := hidden (O13.out.new 29)
            go_simp
            refine hK.out _ _ O14.out.l (fun hHeld2 => ?_)
            clear hK K hHeld
            have hHeld := hHeld2
            clear hHeld2
            obtain ⟨B14, hB14⟩ : ∃ n, u13.heap.size = n := ⟨_, rfl⟩
            generalize u13.alloc (.cells #[.int .i64 0, .int .i64 0, .int .i64 0, .int .i64 0, .int .i64 0, .int .i64 0, .int .i64 0, .int .i64 0, .int .i64 0, .int .i64 0] 29) = v14 at *
            simp only [hB14] at O14 ⊢
            have m14_0 : B12 < B14 := by have := O13.out.lt (B12, Z10) (by simp); omega
            clear hB14
            have P1 := hidden (O14.out.set (c := B14) (o := Z10) (ds := cx) (M := [(B12, Z10)]) (by simp) HLX.out (by simp; omega))
            have THP1 : v14.there B14 0 cx.toArray.size := by have := (O14.out.r (B14, Z10) (by simp)).2.1; simpa [HLX.out] using this
            refine wpAnyH_ready (rs := [6]) (by kernel_rfl) (by simp) ?_
            refine AllReadyH.cons (o := _) rfl (fun K hK => ?_) AllReadyH.nil
            rw [if_pos (by rfl)]
            refine wp_store_mid _ _ _ rfl _ _ (List.toArray cx) rfl rfl THP1 HI2X.out HOX.out ?_
            refine hK.out _ _ P1.out.l (fun hHeld2 => ?_)
            clear hK K hHeld
            have hHeld := hHeld2
            clear hHeld2
            have P2 := hidden (P1.out.set (c := B12) (o := Z10) (ds := cy) (M := [(B14, cx)]) (by simp) HLY.out (by simp; omega))
            have THP2 : (v14.setCells B14 0 cx).there B12 0 cy.toArray.size := by have := (P1.out.r (B12, Z10) (by simp)).2.1; simpa [HLY.out] using this
            refine wpAnyH_ready (rs := [7]) (by kernel_rfl) (by simp) ?_
            refine AllReadyH.cons (o := _) rfl (fun K hK => ?_) AllReadyH.nil
            rw [if_pos (by rfl)]
            refine wp_store_mid _ _ _ rfl _ _ (List.toArray cy) rfl rfl THP2 HI2Y.out HOY.out ?_
            refine hK.out _ _ P2.out.l (fun hHeld2 => ?_)
            clear hK K hHeld
            have hHeld := hHeld2
            clear hHeld2
            refine wpAnyH_done (by kernel_rfl) ?_ _
            have P3 := hidden (P2.out.sub (M := [(B12, cy), (B14, cx)]) (by simp))
            clear P1 P2 THP1 THP2
            go_wp2_with fail
            go_meet
            exact ⟨B14, B12, rfl, rfl, by omega, P3.out⟩
        refine AllReadyH.cons (o := _) rfl (fun K hK => ?_) AllReadyH.nil
        · have O15 := hidden (O12.out.new 29)
          go_simp
          refine hK.out _ _ O15.out.l (fun hHeld2 => ?_)
          clear hK K hHeld
          have hHeld := hHeld2
          clear hHeld2
          obtain ⟨B15, hB15⟩ : ∃ n, v12.heap.size = n := ⟨_, rfl⟩
          generalize v12.alloc (.cells #[.int .i64 0, .int .i64 0, .int .i64 0, .int .i64 0, .int .i64 0, .int .i64 0, .int .i64 0, .int .i64 0, .int .i64 0, .int .i64 0] 29) = v15 at *
          simp only [hB15] at O15 ⊢
          have m15_0 : B12 < B15 := by have := O12.out.lt (B12, Z10) (by simp); omega
          clear hB15
          refine wpAnyH_ready (rs := [3]) (by kernel_rfl) (by simp) ?_
          refine AllReadyH.cons (o := _) rfl (fun K hK => ?_) AllReadyH.nil
          · go_simp
            refine (OB.out _ hHeld.p).mono ?_
            rintro e u16 ⟨rfl, hb16⟩
            have O16 := hidden (O15.out.keep hb16)
            go_wp2_with fail
            refine hK.out _ _ O16.out.l (fun hHeld2 => ?_)
            clear hK K hHeld hb16
            have hHeld := hHeld2
            clear hHeld2
            have P1 := hidden (O16.out.set (c := B15) (o := Z10) (ds := cx) (M := [(B12, Z10)]) (by simp) HLX.out (by simp; omega))
            have THP1 : u16.there B15 0 cx.toArray.size := by have := (O16.out.r (B15, Z10) (by simp)).2.1; simpa [HLX.out] using this
            refine wpAnyH_ready (rs := [6]) (by kernel_rfl) (by simp) ?_
            refine AllReadyH.cons (o := _) rfl (fun K hK => ?_) AllReadyH.nil
            rw [if_pos (by rfl)]
            refine wp_store_mid _ _ _ rfl _ _ (List.toArray cx) rfl rfl THP1 HI2X.out HOX.out ?_
            refine hK.out _ _ P1.out.l (fun hHeld2 => ?_)
            clear hK K hHeld
            have hHeld := hHeld2
            clear hHeld2
            have P2 := hidden (P1.out.set (c := B12) (o := Z10) (ds := cy) (M := [(B15, cx)]) (by simp) HLY.out (by simp; omega))
            have THP2 : (u16.setCells B15 0 cx).there B12 0 cy.toArray.size := by have := (P1.out.r (B12, Z10) (by simp)).2.1; simpa [HLY.out] using this
            refine wpAnyH_ready (rs := [7]) (by kernel_rfl) (by simp) ?_
            refine AllReadyH.cons (o := _) rfl (fun K hK => ?_) AllReadyH.nil
            rw [if_pos (by rfl)]
            refine wp_store_mid _ _ _ rfl _ _ (List.toArray cy) rfl rfl THP2 HI2Y.out HOY.out ?_
            refine hK.out _ _ P2.out.l (fun hHeld2 => ?_)
            clear hK K hHeld
            have hHeld := hHeld2
            clear hHeld2
            refine wpAnyH_done (by kernel_rfl) ?_ _
            have P3 := hidden (P2.out.sub (M := [(B12, cy), (B15, cx)]) (by simp))
            clear P1 P2 THP1 THP2
            go_wp2_with fail
            go_meet
            exact ⟨B15, B12, rfl, rfl, by omega, P3.out⟩
    refine AllReadyH.cons (o := _) rfl (fun K hK => ?_) ?_
    · have O17 := hidden (OW.out.new 29)
      go_simp
      refine hK.out _ _ O17.out.l (fun hHeld2 => ?_)
      clear hK K hHeld
      have hHeld := hHeld2
      clear hHeld2
      obtain ⟨B17, hB17⟩ : ∃ n, wd.heap.size = n := ⟨_, rfl⟩
      generalize wd.alloc (.cells #[.int .i64 0, .int .i64 0, .int .i64 0, .int .i64 0, .int .i64 0, .int .i64 0, .int .i64 0, .int .i64 0, .int .i64 0, .int .i64 0] 29) = v17 at *
      simp only [hB17] at O17 ⊢
      clear hB17
      refine wpAnyH_ready (rs := [1, 5]) (by kernel_rfl) (by simp) ?_
      refine AllReadyH.cons (o := _) rfl (fun K hK => ?_) ?_
      · go_simp
        refine (OA.out _ hHeld.p).mono ?_
        rintro e u18 ⟨rfl, hb18⟩
        have O18 := hidden (O17.out.keep hb18)
        go_wp2_with fail
        refine hK.out _ _ O18.out.l (fun hHeld2 => ?_)
        clear hK K hHeld hb18
        have hHeld := hHeld2
        clear hHeld2
        refine wpAnyH_ready (rs := [3, 5]) (by kernel_rfl) (by simp) ?_
        refine AllReadyH.cons (o := _) rfl (fun K hK => ?_) ?_
        · go_simp
          refine (OB.out _ hHeld.p).mono ?_
          rintro e u19 ⟨rfl, hb19⟩
          have O19 := hidden (O18.out.keep hb19)
          go_wp2_with fail
          refine hK.out _ _ O19.out.l (fun hHeld2 => ?_)
          clear hK K hHeld hb19
          have hHeld := hHeld2
          clear hHeld2
          refine wpAnyH_ready (rs := [5]) (by kernel_rfl) (by simp) ?_
          refine AllReadyH.cons (o := _) rfl (fun K hK => ?_) AllReadyH.nil
          · have O20 := hidden (O19.out.new 29)
            go_simp
            refine hK.out _ _ O20.out.l (fun hHeld2 => ?_)
            clear hK K hHeld
            have hHeld := hHeld2
            clear hHeld2
            obtain ⟨B20, hB20⟩ : ∃ n, u19.heap.size = n := ⟨_, rfl⟩
            generalize u19.alloc (.cells #[.int .i64 0, .int .i64 0, .int .i64 0, .int .i64 0, .int .i64 0, .int .i64 0, .int .i64 0, .int .i64 0, .int .i64 0, .int .i64 0] 29) = v20 at *
            simp only [hB20] at O20 ⊢
            have m20_0 : B17 < B20 := by have := O19.out.lt (B17, Z10) (by simp); omega
            clear hB20
            have P1 := hidden (O20.out.set (c := B17) (o := Z10) (ds := cx) (M := [(B20, Z10)]) (by simp) HLX.out (by simp; omega))
            have THP1 : v20.there B17 0 cx.toArray.size := by have := (O20.out.r (B17, Z10) (by simp)).2.1; simpa [HLX.out] using this
            refine wpAnyH_ready (rs := [6]) (by kernel_rfl) (by simp) ?_
            refine AllReadyH.cons (o := _) rfl (fun K hK => ?_) AllReadyH.nil
            rw [if_pos (by rfl)]
            refine wp_store_mid _ _ _ rfl _ _ (List.toArray cx) rfl rfl THP1 HI2X.out HOX.out ?_
            refine hK.out _ _ P1.out.l (fun hHeld2 => ?_)
            clear hK K hHeld
            have hHeld := hHeld2
            clear hHeld2
            have P2 := hidden (P1.out.set (c := B20) (o := Z10) (ds := cy) (M := [(B17, cx)]) (by simp) HLY.out (by simp; omega))
            have THP2 : (v20.setCells B17 0 cx).there B20 0 cy.toArray.size := by have := (P1.out.r (B20, Z10) (by simp)).2.1; simpa [HLY.out] using this
            refine wpAnyH_ready (rs := [7]) (by kernel_rfl) (by simp) ?_
            refine AllReadyH.cons (o := _) rfl (fun K hK => ?_) AllReadyH.nil
            rw [if_pos (by rfl)]
            refine wp_store_mid _ _ _ rfl _ _ (List.toArray cy) rfl rfl THP2 HI2Y.out HOY.out ?_
            refine hK.out _ _ P2.out.l (fun hHeld2 => ?_)
            clear hK K hHeld
            have hHeld := hHeld2
            clear hHeld2
            refine wpAnyH_done (by kernel_rfl) ?_ _
            have P3 := hidden (P2.out.sub (M := [(B20, cy), (B17, cx)]) (by simp))
            clear P1 P2 THP1 THP2
            go_wp2_with fail
            go_meet
            exact ⟨B17, B20, rfl, rfl, by omega, P3.out⟩
        refine AllReadyH.cons (o := _) rfl (fun K hK => ?_) AllReadyH.nil
        · have O21 := hidden (O18.out.new 29)
          go_simp
          refine hK.out _ _ O21.out.l (fun hHeld2 => ?_)
          clear hK K hHeld
          have hHeld := hHeld2
          clear hHeld2
          obtain ⟨B21, hB21⟩ : ∃ n, u18.heap.size = n := ⟨_, rfl⟩
          generalize u18.alloc (.cells #[.int .i64 0, .int .i64 0, .int .i64 0, .int .i64 0, .int .i64 0, .int .i64 0, .int .i64 0, .int .i64 0, .int .i64 0, .int .i64 0] 29) = v21 at *
          simp only [hB21] at O21 ⊢
          have m21_0 : B17 < B21 := by have := O18.out.lt (B17, Z10) (by simp); omega
          clear hB21
          refine wpAnyH_ready (rs := [3]) (by kernel_rfl) (by simp) ?_
          refine AllReadyH.cons (o := _) rfl (fun K hK => ?_) AllReadyH.nil
          · go_simp
            refine (OB.out _ hHeld.p).mono ?_
            rintro e u22 ⟨rfl, hb22⟩
            have O22 := hidden (O21.out.keep hb22)
            go_wp2_with fail
            refine hK.out _ _ O22.out.l (fun hHeld2 => ?_)
            clear hK K hHeld hb22
            have hHeld := hHeld2
            clear hHeld2
            have P1 := hidden (O22.out.set (c := B17) (o := Z10) (ds := cx) (M := [(B21, Z10)]) (by simp) HLX.out (by simp; omega))
            have THP1 : u22.there B17 0 cx.toArray.size := by have := (O22.out.r (B17, Z10) (by simp)).2.1; simpa [HLX.out] using this
            refine wpAnyH_ready (rs := [6]) (by kernel_rfl) (by simp) ?_
            refine AllReadyH.cons (o := _) rfl (fun K hK => ?_) AllReadyH.nil
            rw [if_pos (by rfl)]
            refine wp_store_mid _ _ _ rfl _ _ (List.toArray cx) rfl rfl THP1 HI2X.out HOX.out ?_
            refine hK.out _ _ P1.out.l (fun hHeld2 => ?_)
            clear hK K hHeld
            have hHeld := hHeld2
            clear hHeld2
            have P2 := hidden (P1.out.set (c := B21) (o := Z10) (ds := cy) (M := [(B17, cx)]) (by simp) HLY.out (by simp; omega))
            have THP2 : (u22.setCells B17 0 cx).there B21 0 cy.toArray.size := by have := (P1.out.r (B21, Z10) (by simp)).2.1; simpa [HLY.out] using this
            refine wpAnyH_ready (rs := [7]) (by kernel_rfl) (by simp) ?_
            refine AllReadyH.cons (o := _) rfl (fun K hK => ?_) AllReadyH.nil
            rw [if_pos (by rfl)]
            refine wp_store_mid _ _ _ rfl _ _ (List.toArray cy) rfl rfl THP2 HI2Y.out HOY.out ?_
            refine hK.out _ _ P2.out.l (fun hHeld2 => ?_)
            clear hK K hHeld
            have hHeld := hHeld2
            clear hHeld2
            refine wpAnyH_done (by kernel_rfl) ?_ _
            have P3 := hidden (P2.out.sub (M := [(B21, cy), (B17, cx)]) (by simp))
            clear P1 P2 THP1 THP2
            go_wp2_with fail
            go_meet
            exact ⟨B17, B21, rfl, rfl, by omega, P3.out⟩
      refine AllReadyH.cons (o := _) rfl (fun K hK => ?_) AllReadyH.nil
      · have O23 := hidden (O17.out.new 29)
        go_simp
        refine hK.out _ _ O23.out.l (fun hHeld2 => ?_)
        clear hK K hHeld
        have hHeld := hHeld2
        clear hHeld2
        obtain ⟨B23, hB23⟩ : ∃ n, v17.heap.size = n := ⟨_, rfl⟩
        generalize v17.alloc (.cells #[.int .i64 0, .int .i64 0, .int .i64 0, .int .i64 0, .int .i64 0, .int .i64 0, .int .i64 0, .int .i64 0, .int .i64 0, .int .i64 0] 29) = v23 at *
        simp only [hB23] at O23 ⊢
        have m23_0 : B17 < B23 := by have := O17.out.lt (B17, Z10) (by simp); omega
        clear hB23
        refine wpAnyH_ready (rs := [1]) (by kernel_rfl) (by simp) ?_
        refine AllReadyH.cons (o := _) rfl (fun K hK => ?_) AllReadyH.nil
        · go_simp
          refine (OA.out _ hHeld.p).mono ?_
          rintro e u24 ⟨rfl, hb24⟩
          have O24 := hidden (O23.out.keep hb24)
          go_wp2_with fail
          refine hK.out _ _ O24.out.l (fun hHeld2 => ?_)
          clear hK K hHeld hb24
          have hHeld := hHeld2
          clear hHeld2
          refine wpAnyH_ready (rs := [3]) (by kernel_rfl) (by simp) ?_
          refine AllReadyH.cons (o := _) rfl (fun K hK => ?_) AllReadyH.nil
          · go_simp
            refine (OB.out _ hHeld.p).mono ?_
            rintro e u25 ⟨rfl, hb25⟩
            have O25 := hidden (O24.out.keep hb25)
            go_wp2_with fail
            refine hK.out _ _ O25.out.l (fun hHeld2 => ?_)
            clear hK K hHeld hb25
            have hHeld := hHeld2
            clear hHeld2
            have P1 := hidden (O25.out.set (c := B17) (o := Z10) (ds := cx) (M := [(B23, Z10)]) (by simp) HLX.out (by simp; omega))
            have THP1 : u25.there B17 0 cx.toArray.size := by have := (O25.out.r (B17, Z10) (by simp)).2.1; simpa [HLX.out] using this
            refine wpAnyH_ready (rs := [6]) (by kernel_rfl) (by simp) ?_
            refine AllReadyH.cons (o := _) rfl (fun K hK => ?_) AllReadyH.nil
            rw [if_pos (by rfl)]
            refine wp_store_mid _ _ _ rfl _ _ (List.toArray cx) rfl rfl THP1 HI2X.out HOX.out ?_
            refine hK.out _ _ P1.out.l (fun hHeld2 => ?_)
            clear hK K hHeld
            have hHeld := hHeld2
            clear hHeld2
            have P2 := hidden (P1.out.set (c := B23) (o := Z10) (ds := cy) (M := [(B17, cx)]) (by simp) HLY.out (by simp; omega))
            have THP2 : (u25.setCells B17 0 cx).there B23 0 cy.toArray.size := by have := (P1.out.r (B23, Z10) (by simp)).2.1; simpa [HLY.out] using this
            refine wpAnyH_ready (rs := [7]) (by kernel_rfl) (by simp) ?_
            refine AllReadyH.cons (o := _) rfl (fun K hK => ?_) AllReadyH.nil
            rw [if_pos (by rfl)]
            refine wp_store_mid _ _ _ rfl _ _ (List.toArray cy) rfl rfl THP2 HI2Y.out HOY.out ?_
            refine hK.out _ _ P2.out.l (fun hHeld2 => ?_)
            clear hK K hHeld
            have hHeld := hHeld2
            clear hHeld2
            refine wpAnyH_done (by kernel_rfl) ?_ _
            have P3 := hidden (P2.out.sub (M := [(B23, cy), (B17, cx)]) (by simp))
            clear P1 P2 THP1 THP2
            go_wp2_with fail
            go_meet
            exact ⟨B17, B23, rfl, rfl, by omega, P3.out⟩
    refine AllReadyH.cons (o := _) rfl (fun K hK => ?_) AllReadyH.nil
    · have O26 := hidden (OW.out.new 29)
      go_simp
      refine hK.out _ _ O26.out.l (fun hHeld2 => ?_)
      clear hK K hHeld
      have hHeld := hHeld2
      clear hHeld2
      obtain ⟨B26, hB26⟩ : ∃ n, wd.heap.size = n := ⟨_, rfl⟩
      generalize wd.alloc (.cells #[.int .i64 0, .int .i64 0, .int .i64 0, .int .i64 0, .int .i64 0, .int .i64 0, .int .i64 0, .int .i64 0, .int .i64 0, .int .i64 0] 29) = v26 at *
      simp only [hB26] at O26 ⊢
      clear hB26
      refine wpAnyH_ready (rs := [1, 4]) (by kernel_rfl) (by simp) ?_
      refine AllReadyH.cons (o := _) rfl (fun K hK => ?_) ?_
      · go_simp
        refine (OA.out _ hHeld.p).mono ?_
        rintro e u27 ⟨rfl, hb27⟩
        have O27 := hidden (O26.out.keep hb27)
        go_wp2_with fail
        refine hK.out _ _ O27.out.l (fun hHeld2 => ?_)
        clear hK K hHeld hb27
        have hHeld := hHeld2
        clear hHeld2
        refine wpAnyH_ready (rs := [3, 4]) (by kernel_rfl) (by simp) ?_
        refine AllReadyH.cons (o := _) rfl (fun K hK => ?_) ?_
        · go_simp
          refine (OB.out _ hHeld.p).mono ?_
          rintro e u28 ⟨rfl, hb28⟩
          have O28 := hidden (O27.out.keep hb28)
          go_wp2_with fail
          refine hK.out _ _ O28.out.l (fun hHeld2 => ?_)
          clear hK K hHeld hb28
          have hHeld := hHeld2
          clear hHeld2
          refine wpAnyH_ready (rs := [4]) (by kernel_rfl) (by simp) ?_
          refine AllReadyH.cons (o := _) rfl (fun K hK => ?_) AllReadyH.nil
          · have O29 := hidden (O28.out.new 29)
            go_simp
            refine hK.out _ _ O29.out.l (fun hHeld2 => ?_)
            clear hK K hHeld
            have hHeld := hHeld2
            clear hHeld2
            obtain ⟨B29, hB29⟩ : ∃ n, u28.heap.size = n := ⟨_, rfl⟩
            generalize u28.alloc (.cells #[.int .i64 0, .int .i64 0, .int .i64 0, .int .i64 0, .int .i64 0, .int .i64 0, .int .i64 0, .int .i64 0, .int .i64 0, .int .i64 0] 29) = v29 at *
            simp only [hB29] at O29 ⊢
            have m29_0 : B26 < B29 := by have := O28.out.lt (B26, Z10) (by simp); omega
            clear hB29
            have P1 := hidden (O29.out.set (c := B29) (o := Z10) (ds := cx) (M := [(B26, Z10)]) (by simp) HLX.out (by simp; omega))
            have THP1 : v29.there B29 0 cx.toArray.size := by have := (O29.out.r (B29, Z10) (by simp)).2.1; simpa [HLX.out] using this
            refine wpAnyH_ready (rs := [6]) (by kernel_rfl) (by simp) ?_
            refine AllReadyH.cons (o := _) rfl (fun K hK => ?_) AllReadyH.nil
            rw [if_pos (by rfl)]
            refine wp_store_mid _ _ _ rfl _ _ (List.toArray cx) rfl rfl THP1 HI2X.out HOX.out ?_
            refine hK.out _ _ P1.out.l (fun hHeld2 => ?_)
            clear hK K hHeld
            have hHeld := hHeld2
            clear hHeld2
            have P2 := hidden (P1.out.set (c := B26) (o := Z10) (ds := cy) (M := [(B29, cx)]) (by simp) HLY.out (by simp; omega))
            have THP2 : (v29.setCells B29 0 cx).there B26 0 cy.toArray.size := by have := (P1.out.r (B26, Z10) (by simp)).2.1; simpa [HLY.out] using this
            refine wpAnyH_ready (rs := [7]) (by kernel_rfl) (by simp) ?_
            refine AllReadyH.cons (o := _) rfl (fun K hK => ?_) AllReadyH.nil
            rw [if_pos (by rfl)]
            refine wp_store_mid _ _ _ rfl _ _ (List.toArray cy) rfl rfl THP2 HI2Y.out HOY.out ?_
            refine hK.out _ _ P2.out.l (fun hHeld2 => ?_)
            clear hK K hHeld
            have hHeld := hHeld2
            clear hHeld2
            refine wpAnyH_done (by kernel_rfl) ?_ _
            have P3 := hidden (P2.out.sub (M := [(B26, cy), (B29, cx)]) (by simp))
            clear P1 P2 THP1 THP2
            go_wp2_with fail
            go_meet
            exact ⟨B29, B26, rfl, rfl, by omega, P3.out⟩
        refine AllReadyH.cons (o := _) rfl (fun K hK => ?_) AllReadyH.nil
        · have O30 := hidden (O27.out.new 29)
          go_simp
          refine hK.out _ _ O30.out.l (fun hHeld2 => ?_)
          clear hK K hHeld
          have hHeld := hHeld2
          clear hHeld2
          obtain ⟨B30, hB30⟩ : ∃ n, u27.heap.size = n := ⟨_, rfl⟩
          generalize u27.alloc (.cells #[.int .i64 0, .int .i64 0, .int .i64 0, .int .i64 0, .int .i64 0, .int .i64 0, .int .i64 0, .int .i64 0, .int .i64 0, .int .i64 0] 29) = v30 at *
          simp only [hB30] at O30 ⊢
          have m30_0 : B26 < B30 := by have := O27.out.lt (B26, Z10) (by simp); omega
          clear hB30
          refine wpAnyH_ready (rs := [3]) (by kernel_rfl) (by simp) ?_
          refine AllReadyH.cons (o := _) rfl (fun K hK => ?_) AllReadyH.nil
          · go_simp
            refine (OB.out _ hHeld.p).mono ?_
            rintro e u31 ⟨rfl, hb31⟩
            have O31 := hidden (O30.out.keep hb31)
            go_wp2_with fail
            refine hK.out _ _ O31.out.l (fun hHeld2 => ?_)
            clear hK K hHeld hb31
            have hHeld := hHeld2
            clear hHeld2
            have P1 := hidden (O31.out.set (c := B30) (o := Z10) (ds := cx) (M := [(B26, Z10)]) (by simp) HLX.out (by simp; omega))
            have THP1 : u31.there B30 0 cx.toArray.size := by have := (O31.out.r (B30, Z10) (by simp)).2.1; simpa [HLX.out] using this
            refine wpAnyH_ready (rs := [6]) (by kernel_rfl) (by simp) ?_
            refine AllReadyH.cons (o := _) rfl (fun K hK => ?_) AllReadyH.nil
            rw [if_pos (by rfl)]
            refine wp_store_mid _ _ _ rfl _ _ (List.toArray cx) rfl rfl THP1 HI2X.out HOX.out ?_
            refine hK.out _ _ P1.out.l (fun hHeld2 => ?_)
            clear hK K hHeld
            have hHeld := hHeld2
            clear hHeld2
            have P2 := hidden (P1.out.set (c := B26) (o := Z10) (ds := cy) (M := [(B30, cx)]) (by simp) HLY.out (by simp; omega))
            have THP2 : (u31.setCells B30 0 cx).there B26 0 cy.toArray.size := by have := (P1.out.r (B26, Z10) (by simp)).2.1; simpa [HLY.out] using this
            refine wpAnyH_ready (rs := [7]) (by kernel_rfl) (by simp) ?_
            refine AllReadyH.cons (o := _) rfl (fun K hK => ?_) AllReadyH.nil
            rw [if_pos (by rfl)]
            refine wp_store_mid _ _ _ rfl _ _ (List.toArray cy) rfl rfl THP2 HI2Y.out HOY.out ?_
            refine hK.out _ _ P2.out.l (fun hHeld2 => ?_)
            clear hK K hHeld
            have hHeld := hHeld2
            clear hHeld2
            refine wpAnyH_done (by kernel_rfl) ?_ _
            have P3 := hidden (P2.out.sub (M := [(B26, cy), (B30, cx)]) (by simp))
            clear P1 P2 THP1 THP2
            go_wp2_with fail
            go_meet
            exact ⟨B30, B26, rfl, rfl, by omega, P3.out⟩
      refine AllReadyH.cons (o := _) rfl (fun K hK => ?_) AllReadyH.nil
      · have O32 := hidden (O26.out.new 29)
        go_simp
        refine hK.out _ _ O32.out.l (fun hHeld2 => ?_)
        clear hK K hHeld
        have hHeld := hHeld2
        clear hHeld2
        obtain ⟨B32, hB32⟩ : ∃ n, v26.heap.size = n := ⟨_, rfl⟩
        generalize v26.alloc (.cells #[.int .i64 0, .int .i64 0, .int .i64 0, .int .i64 0, .int .i64 0, .int .i64 0, .int .i64 0, .int .i64 0, .int .i64 0, .int .i64 0] 29) = v32 at *
        simp only [hB32] at O32 ⊢
        have m32_0 : B26 < B32 := by have := O26.out.lt (B26, Z10) (by simp); omega
        clear hB32
        refine wpAnyH_ready (rs := [1]) (by kernel_rfl) (by simp) ?_
        refine AllReadyH.cons (o := _) rfl (fun K hK => ?_) AllReadyH.nil
        · go_simp
          refine (OA.out _ hHeld.p).mono ?_
          rintro e u33 ⟨rfl, hb33⟩
          have O33 := hidden (O32.out.keep hb33)
          go_wp2_with fail
          refine hK.out _ _ O33.out.l (fun hHeld2 => ?_)
          clear hK K hHeld hb33
          have hHeld := hHeld2
          clear hHeld2
          refine wpAnyH_ready (rs := [3]) (by kernel_rfl) (by simp) ?_
          refine AllReadyH.cons (o := _) rfl (fun K hK => ?_) AllReadyH.nil
          · go_simp
            refine (OB.out _ hHeld.p).mono ?_
            rintro e u34 ⟨rfl, hb34⟩
            have O34 := hidden (O33.out.keep hb34)
            go_wp2_with fail
            refine hK.out _ _ O34.out.l (fun hHeld2 => ?_)
            clear hK K hHeld hb34
            have hHeld := hHeld2
            clear hHeld2
            have P1 := hidden (O34.out.set (c := B32) (o := Z10) (ds := cx) (M := [(B26, Z10)]) (by simp) HLX.out (by simp; omega))
            have THP1 : u34.there B32 0 cx.toArray.size := by have := (O34.out.r (B32, Z10) (by simp)).2.1; simpa [HLX.out] using this
            refine wpAnyH_ready (rs := [6]) (by kernel_rfl) (by simp) ?_
            refine AllReadyH.cons (o := _) rfl (fun K hK => ?_) AllReadyH.nil
            rw [if_pos (by rfl)]
            refine wp_store_mid _ _ _ rfl _ _ (List.toArray cx) rfl rfl THP1 HI2X.out HOX.out ?_
            refine hK.out _ _ P1.out.l (fun hHeld2 => ?_)
            clear hK K hHeld
            have hHeld := hHeld2
            clear hHeld2
            have P2 := hidden (P1.out.set (c := B26) (o := Z10) (ds := cy) (M := [(B32, cx)]) (by simp) HLY.out (by simp; omega))
            have THP2 : (u34.setCells B32 0 cx).there B26 0 cy.toArray.size := by have := (P1.out.r (B26, Z10) (by simp)).2.1; simpa [HLY.out] using this
            refine wpAnyH_ready (rs := [7]) (by kernel_rfl) (by simp) ?_
            refine AllReadyH.cons (o := _) rfl (fun K hK => ?_) AllReadyH.nil
            rw [if_pos (by rfl)]
            refine wp_store_mid _ _ _ rfl _ _ (List.toArray cy) rfl rfl THP2 HI2Y.out HOY.out ?_
            refine hK.out _ _ P2.out.l (fun hHeld2 => ?_)
            clear hK K hHeld
            have hHeld := hHeld2
            clear hHeld2
            refine wpAnyH_done (by kernel_rfl) ?_ _
            have P3 := hidden (P2.out.sub (M := [(B26, cy), (B32, cx)]) (by simp))
            clear P1 P2 THP1 THP2
            go_wp2_with fail
            go_meet
            exact ⟨B32, B26, rfl, rfl, by omega, P3.out⟩
  case rest =>
  obtain ⟨X, Y, rfl, rfl, hXY, xw⟩ := hcut
  have XX := hidden xw
  clear xw S0 OA OB
  go_upto_region 2 with fail
  go_cut [35] (fun v wx => v = .bool false ∧ XW w a b True [(Y, cy), (X, cx)] wx)
  case first =>
    have OW := hidden (XX.out.keep (drew_bl wc))
    refine wp_region_held_drew (S := XW w a b True [(Y, cy), (X, cx)]) (by kernel_rfl) OW.out (fun hHeld => ?_)
    generalize wc.drew = wd at OW hHeld ⊢
    clear XX OW
    refine wpAnyH_take (i := 0) (oi := _) (v := ?_) rfl (by kernel_rfl) (by kernel_rfl) (by kernel_rfl) (fun _ _ _ h => h) (Or.inl ⟨by rfl, ?_⟩) hHeld ?_
    rotate_left 1
    · (intro w0 hSw; have d0 := hSw.l.a.c 0 (by omega); have d1 := hSw.l.a.c 1 (by omega); have d2 := hSw.l.a.c 2 (by omega); have d3 := hSw.l.a.c 3 (by omega); have d4 := hSw.l.a.c 4 (by omega); simp only [lmf] at d0 d1 d2 d3 d4; clear hSw; go_simp; try with_reducible rfl)
    refine wpAnyH_take (i := 1) (oi := _) (v := ?_) rfl (by kernel_rfl) (by kernel_rfl) (by kernel_rfl) (fun _ _ _ h => h) (Or.inl ⟨by rfl, ?_⟩) hHeld ?_
    rotate_left 1
    · (intro w0 hSw; have d0 := hSw.l.b.c 0 (by omega); have d1 := hSw.l.b.c 1 (by omega); have d2 := hSw.l.b.c 2 (by omega); have d3 := hSw.l.b.c 3 (by omega); have d4 := hSw.l.b.c 4 (by omega); simp only [lmf] at d0 d1 d2 d3 d4; clear hSw; go_simp; try with_reducible rfl)
    refine wpAnyH_take (i := 3) (oi := _) (v := _) rfl (by kernel_rfl) (by kernel_rfl) (by kernel_rfl) (fun _ _ _ h => h) (yieldsIf_load_mid (by rfl) _ _ rfl _ _ rfl _ _ (fun _ h => (h.r (X, cx) (by simp)).1) HU.out rfl HIX.out) hHeld ?_
    refine wpAnyH_take (i := 4) (oi := _) (v := _) rfl (by kernel_rfl) (by kernel_rfl) (by kernel_rfl) (fun _ _ _ h => h) (yieldsIf_load_mid (by rfl) _ _ rfl _ _ rfl _ _ (fun _ h => (h.r (Y, cy) (by simp)).1) HU.out rfl HIY.out) hHeld ?_
    have EQ := E1.out
    refine wpAnyH_take (i := 5) (oi := _) (v := ?_) rfl (by kernel_rfl) (by kernel_rfl) (by kernel_rfl) (fun _ _ _ h => h) (Or.inl ⟨by rfl, ?_⟩) hHeld ?_
    rotate_left 1
    · (intro w0 hSw; clear hSw; go_simp; try with_reducible rfl)
    clear EQ
    refine wpAnyH_ready (rs := [2]) (by kernel_rfl) (by simp) ?_
    refine AllReadyH.cons (o := _) rfl (fun K hK => ?_) AllReadyH.nil
    go_simp
    refine (SA.out _).mono ?_
    rintro e w1 ⟨rfl, hb1⟩
    have k1 := hidden (hHeld.keep hb1)
    go_wp2_with fail
    refine hK.out _ _ k1.out (fun hHeld2 => ?_)
    clear hK K hHeld hb1
    have hHeld := hHeld2
    clear hHeld2
    refine wpAnyH_take (i := 6) (oi := _) (v := ?_) rfl (by kernel_rfl) (by kernel_rfl) (by kernel_rfl) (fun _ _ _ h => h) (Or.inl ⟨by rfl, ?_⟩) hHeld ?_
    rotate_left 1
    · (intro w0 hSw; clear hSw; go_simp; try with_reducible rfl)
    refine wpAnyH_take (i := 7) (oi := _) (v := ?_) rfl (by kernel_rfl) (by kernel_rfl) (by kernel_rfl) (fun _ _ _ h => h) (Or.inl ⟨by rfl, ?_⟩) hHeld ?_
    rotate_left 1
    · (intro w0 hSw; clear hSw; go_simp; try with_reducible rfl)
    refine wpAnyH_take (i := 8) (oi := _) (v := ?_) rfl (by kernel_rfl) (by kernel_rfl) (by kernel_rfl) (fun _ _ _ h => h) (Or.inl ⟨by rfl, ?_⟩) hHeld ?_
    rotate_left 1
    · (intro w0 hSw; have d0 := hSw.l.a.c 0 (by omega); have d1 := hSw.l.a.c 1 (by omega); have d2 := hSw.l.a.c 2 (by omega); have d3 := hSw.l.a.c 3 (by omega); have d4 := hSw.l.a.c 4 (by omega); simp only [lmf] at d0 d1 d2 d3 d4; clear hSw; go_simp; try with_reducible rfl)
    refine wpAnyH_take (i := 10) (oi := _) (v := _) rfl (by kernel_rfl) (by kernel_rfl) (by kernel_rfl) (fun _ _ _ h => h) (yieldsIf_load_mid (by rfl) _ _ rfl _ _ rfl _ _ (fun _ h => (h.r (X, cx) (by simp)).1) HU.out rfl HIX.out) hHeld ?_
    refine wpAnyH_take (i := 11) (oi := _) (v := _) rfl (by kernel_rfl) (by kernel_rfl) (by kernel_rfl) (fun _ _ _ h => h) (yieldsIf_load_mid (by rfl) _ _ rfl _ _ rfl _ _ (fun _ h => ZZ.out _ (h.l.z trivial)) HU.out rfl HIZ.out) hHeld ?_
    have EQ := E2.out
    refine wpAnyH_take (i := 12) (oi := _) (v := ?_) rfl (by kernel_rfl) (by kernel_rfl) (by kernel_rfl) (fun _ _ _ h => h) (Or.inl ⟨by rfl, ?_⟩) hHeld ?_
    rotate_left 1
    · (intro w0 hSw; clear hSw; go_simp; try with_reducible rfl)
    clear EQ
    refine wpAnyH_ready (rs := [9]) (by kernel_rfl) (by simp) ?_
    refine AllReadyH.cons (o := _) rfl (fun K hK => ?_) AllReadyH.nil
    go_simp
    refine (IZ.out _).mono ?_
    rintro e w2 ⟨rfl, hb2⟩
    have k2 := hidden (hHeld.keep hb2)
    go_wp2_with fail
    refine hK.out _ _ k2.out (fun hHeld2 => ?_)
    clear hK K hHeld hb2
    have hHeld := hHeld2
    clear hHeld2
    refine wpAnyH_take (i := 13) (oi := _) (v := ?_) rfl (by kernel_rfl) (by kernel_rfl) (by kernel_rfl) (fun _ _ _ h => h) (Or.inl ⟨by rfl, ?_⟩) hHeld ?_
    rotate_left 1
    · (intro w0 hSw; clear hSw; go_simp; try with_reducible rfl)
    refine wpAnyH_take (i := 14) (oi := _) (v := ?_) rfl (by kernel_rfl) (by kernel_rfl) (by kernel_rfl) (fun _ _ _ h => h) (Or.inl ⟨by rfl, ?_⟩) hHeld ?_
    rotate_left 1
    · (intro w0 hSw; clear hSw; go_simp; try with_reducible rfl)
    refine wpAnyH_take (i := 15) (oi := _) (v := ?_) rfl (by kernel_rfl) (by kernel_rfl) (by kernel_rfl) (fun _ _ _ h => h) (Or.inl ⟨by rfl, ?_⟩) hHeld ?_
    rotate_left 1
    · (intro w0 hSw; clear hSw; go_simp; try with_reducible rfl)
    refine wpAnyH_take (i := 16) (oi := _) (v := ?_) rfl (by kernel_rfl) (by kernel_rfl) (by kernel_rfl) (fun _ _ _ h => h) (Or.inl ⟨by rfl, ?_⟩) hHeld ?_
    rotate_left 1
    · (intro w0 hSw; have d0 := hSw.l.a.c 0 (by omega); have d1 := hSw.l.a.c 1 (by omega); have d2 := hSw.l.a.c 2 (by omega); have d3 := hSw.l.a.c 3 (by omega); have d4 := hSw.l.a.c 4 (by omega); simp only [lmf] at d0 d1 d2 d3 d4; clear hSw; go_simp; try with_reducible rfl)
    refine wpAnyH_take (i := 18) (oi := _) (v := _) rfl (by kernel_rfl) (by kernel_rfl) (by kernel_rfl) (fun _ _ _ h => h) (yieldsIf_load_mid (by rfl) _ _ rfl _ _ rfl _ _ (fun _ h => (h.r (X, cx) (by simp)).1) HU.out rfl HIX.out) hHeld ?_
    refine wpAnyH_ready (rs := [17]) (by kernel_rfl) (by simp) ?_
    refine AllReadyH.cons (o := _) rfl (fun K hK => ?_) AllReadyH.nil
    go_simp
    refine (NE.out _).mono ?_
    rintro e w3 ⟨rfl, hb3⟩
    have k3 := hidden (hHeld.keep hb3)
    go_wp2_with fail
    refine hK.out _ _ k3.out (fun hHeld2 => ?_)
    clear hK K hHeld hb3
    have hHeld := hHeld2
    clear hHeld2
    refine wpAnyH_ready (rs := [19]) (by kernel_rfl) (by simp) ?_
    refine AllReadyH.cons (o := _) rfl (fun K hK => ?_) AllReadyH.nil
    go_simp
    refine (RN.out _).mono ?_
    rintro e w4 ⟨rfl, hb4⟩
    have k4 := hidden (hHeld.keep hb4)
    go_wp2_with fail
    refine hK.out _ _ k4.out (fun hHeld2 => ?_)
    clear hK K hHeld hb4
    have hHeld := hHeld2
    clear hHeld2
    refine wpAnyH_take (i := 20) (oi := _) (v := ?_) rfl (by kernel_rfl) (by kernel_rfl) (by kernel_rfl) (fun _ _ _ h => h) (Or.inl ⟨by rfl, ?_⟩) hHeld ?_
    rotate_left 1
    · (intro w0 hSw; clear hSw; go_simp; try with_reducible rfl)
    refine wpAnyH_take (i := 21) (oi := _) (v := ?_) rfl (by kernel_rfl) (by kernel_rfl) (by kernel_rfl) (fun _ _ _ h => h) (Or.inl ⟨by rfl, ?_⟩) hHeld ?_
    rotate_left 1
    · (intro w0 hSw; clear hSw; go_simp; try with_reducible rfl)
    refine wpAnyH_done (by kernel_rfl) ?_ _
    have BB := hidden hHeld
    clear hHeld
    go_wp2_with fail
    go_meet
    exact ⟨rfl, BB.out⟩
  case rest =>
  obtain ⟨rfl, xw⟩ := hcut
  clear XX
  have XX := hidden xw
  clear xw SA IZ NE RN E1 E2 ZZ
  go_upto_region 4 with fail
  rcases hi with hi | hi
  · go_cut [9] (fun v wx => ∃ W : Nat, v = .pointer (some ⟨W, 0, none⟩) ∧ XW w a b True [(W, cy), (Y, cy), (X, cx)] wx ∧ W ≠ X ∧ W ≠ Y)
    case first =>
      have RY := hidden (XX.out.r (Y, cy) (by simp)).1
      have N1 := XX.out.new 29
      have lx1 := XX.out.lt (X, cx) (by simp)
      have ly1 := XX.out.lt (Y, cy) (by simp)
      have TH : Hid ((wc.alloc (.cells #[.int .i64 0, .int .i64 0, .int .i64 0, .int .i64 0, .int .i64 0, .int .i64 0, .int .i64 0, .int .i64 0, .int .i64 0, .int .i64 0] 29)).there wc.heap.size 0 cy.toArray.size) := hidden (by have := (N1.r (wc.heap.size, Z10) (by simp)).2.1; simpa [HLY.out] using this)
      have N2 := hidden (N1.set (c := wc.heap.size) (o := Z10) (ds := cy) (M := [(Y, cy), (X, cx)]) (by simp) HLY.out (by simp; simp at lx1 ly1; omega))
      simp only at lx1 ly1
      clear N1
      go_wp2_with (first | refine wpList_load_mid rfl 29 _ rfl Y 0 (by rfl) cy _ RY.out HU.out rfl HIY.out ?_ | refine wpList_store_mid rfl 29 _ _ rfl wc.heap.size 0 cy.toArray (by rfl) (by rfl) TH.out HI2Y.out HOY.out ?_)
      go_meet
      exact ⟨_, rfl, N2.out, by omega, by omega⟩
    case rest =>
    obtain ⟨W, rfl, xw, hWX, hWY⟩ := hcut
    clear XX
    have XX := hidden xw
    clear xw
    have HB := hidden hi
    go_upto_region 7 with fail
    generalize wc = wq at XX ⊢
    clear hi
    have OW := hidden (XX.out.keep (drew_bl wq))
    refine wp_region_held_drew (S := XW w a b True [(W, cy), (Y, cy), (X, cx)]) (by kernel_rfl) OW.out (fun hHeld => ?_)
    generalize wq.drew = wd at OW hHeld ⊢
    clear XX OW
    refine wpAnyH_take (i := 0) (oi := _) (v := ?_) rfl (by kernel_rfl) (by kernel_rfl) (by kernel_rfl) (fun _ _ _ h => h) (Or.inl ⟨by rfl, ?_⟩) hHeld ?_
    rotate_left 1
    · (intro w0 hSw; have d0 := hSw.l.a.c 0 (by omega); have d1 := hSw.l.a.c 1 (by omega); have d2 := hSw.l.a.c 2 (by omega); have d3 := hSw.l.a.c 3 (by omega); have d4 := hSw.l.a.c 4 (by omega); simp only [lmf] at d0 d1 d2 d3 d4; clear hSw; go_simp; try with_reducible rfl)
    refine wpAnyH_take (i := 2) (oi := _) (v := _) rfl (by kernel_rfl) (by kernel_rfl) (by kernel_rfl) (fun _ _ _ h => h) (yieldsIf_load_mid (by rfl) _ _ rfl _ _ rfl _ _ (fun _ h => (h.r (X, cx) (by simp)).1) HU.out rfl HIX.out) hHeld ?_
    refine wpAnyH_ready (rs := [1]) (by kernel_rfl) (by simp) ?_
    refine AllReadyH.cons (o := _) rfl (fun K hK => ?_) AllReadyH.nil
    go_simp
    refine (AB.out _).mono ?_
    rintro e w5 ⟨rfl, hb5⟩
    have k5 := hidden (hHeld.keep hb5)
    go_wp2_with fail
    refine hK.out _ _ k5.out (fun hHeld2 => ?_)
    clear hK K hHeld hb5
    have hHeld := hHeld2
    clear hHeld2
    refine wpAnyH_ready (rs := [3]) (by kernel_rfl) (by simp) ?_
    refine AllReadyH.cons (o := _) rfl (fun K hK => ?_) AllReadyH.nil
    go_simp
    refine (RB.out _ hHeld.l.p (hHeld.l.z trivial)).mono ?_
    rintro e w6 ⟨rfl, hb6⟩
    have k6 := hidden (hHeld.keep hb6)
    go_wp2_with fail
    refine hK.out _ _ k6.out (fun hHeld2 => ?_)
    clear hK K hHeld hb6
    have hHeld := hHeld2
    clear hHeld2
    refine wpAnyH_ready (rs := [4]) (by kernel_rfl) (by simp) ?_
    refine AllReadyH.cons (o := _) rfl (fun K hK => ?_) AllReadyH.nil
    go_simp
    refine (IA.out _).mono ?_
    rintro e w7 ⟨rfl, hb7⟩
    have k7 := hidden (hHeld.keep hb7)
    go_wp2_with fail
    refine hK.out _ _ k7.out (fun hHeld2 => ?_)
    clear hK K hHeld hb7
    have hHeld := hHeld2
    clear hHeld2
    refine wpAnyH_take (i := 5) (oi := _) (v := ?_) rfl (by kernel_rfl) (by kernel_rfl) (by kernel_rfl) (fun _ _ _ h => h) (Or.inl ⟨by rfl, ?_⟩) hHeld ?_
    rotate_left 1
    · (intro w0 hSw; clear hSw; go_simp; try with_reducible rfl)
    refine wpAnyH_take (i := 6) (oi := _) (v := ?_) rfl (by kernel_rfl) (by kernel_rfl) (by kernel_rfl) (fun _ _ _ h => h) (Or.inl ⟨by rfl, ?_⟩) hHeld ?_
    rotate_left 1
    · (intro w0 hSw; clear hSw; go_simp; try with_reducible rfl)
    refine wpAnyH_take (i := 7) (oi := _) (v := ?_) rfl (by kernel_rfl) (by kernel_rfl) (by kernel_rfl) (fun _ _ _ h => h) (Or.inl ⟨by rfl, ?_⟩) hHeld ?_
    rotate_left 1
    · (intro w0 hSw; have d0 := hSw.l.a.c 0 (by omega); have d1 := hSw.l.a.c 1 (by omega); have d2 := hSw.l.a.c 2 (by omega); have d3 := hSw.l.a.c 3 (by omega); have d4 := hSw.l.a.c 4 (by omega); simp only [lmf] at d0 d1 d2 d3 d4; clear hSw; go_simp; try with_reducible rfl)
    refine wpAnyH_take (i := 8) (oi := _) (v := ?_) rfl (by kernel_rfl) (by kernel_rfl) (by kernel_rfl) (fun _ _ _ h => h) (Or.inl ⟨by rfl, ?_⟩) hHeld ?_
    rotate_left 1
    · (intro w0 hSw; have d0 := hSw.l.b.c 0 (by omega); have d1 := hSw.l.b.c 1 (by omega); have d2 := hSw.l.b.c 2 (by omega); have d3 := hSw.l.b.c 3 (by omega); have d4 := hSw.l.b.c 4 (by omega); simp only [lmf] at d0 d1 d2 d3 d4; clear hSw; go_simp; try with_reducible rfl)
    refine wpAnyH_take (i := 10) (oi := _) (v := _) rfl (by kernel_rfl) (by kernel_rfl) (by kernel_rfl) (fun _ _ _ h => h) (yieldsIf_load_mid (by rfl) _ _ rfl _ _ rfl _ _ (fun _ h => (h.r (W, cy) (by simp)).1) HU.out rfl HIY.out) hHeld ?_
    refine wpAnyH_ready (rs := [9]) (by kernel_rfl) (by simp) ?_
    refine AllReadyH.cons (o := _) rfl (fun K hK => ?_) AllReadyH.nil
    go_simp
    refine (SY.out _ HB.out).mono ?_
    rintro e w8 ⟨rfl, hb8⟩
    have k8 := hidden (hHeld.keep hb8)
    go_wp2_with fail
    refine hK.out _ _ k8.out (fun hHeld2 => ?_)
    clear hK K hHeld hb8
    have hHeld := hHeld2
    clear hHeld2
    refine wpAnyH_ready (rs := [11]) (by kernel_rfl) (by simp) ?_
    refine AllReadyH.cons (o := _) rfl (fun K hK => ?_) AllReadyH.nil
    go_simp
    refine (IY.out _).mono ?_
    rintro e w9 ⟨rfl, hb9⟩
    have k9 := hidden (hHeld.keep hb9)
    go_wp2_with fail
    refine hK.out _ _ k9.out (fun hHeld2 => ?_)
    clear hK K hHeld hb9
    have hHeld := hHeld2
    clear hHeld2
    refine wpAnyH_take (i := 12) (oi := _) (v := ?_) rfl (by kernel_rfl) (by kernel_rfl) (by kernel_rfl) (fun _ _ _ h => h) (Or.inl ⟨by rfl, ?_⟩) hHeld ?_
    rotate_left 1
    · (intro w0 hSw; clear hSw; go_simp; try with_reducible rfl)
    refine wpAnyH_take (i := 13) (oi := _) (v := ?_) rfl (by kernel_rfl) (by kernel_rfl) (by kernel_rfl) (fun _ _ _ h => h) (Or.inl ⟨by rfl, ?_⟩) hHeld ?_
    rotate_left 1
    · (intro w0 hSw; clear hSw; go_simp; try with_reducible rfl)
    refine wpAnyH_done (by kernel_rfl) ?_ _
    have BB := hidden hHeld.l.bel
    clear hHeld
    go_wp2_with fail
    go_ret
    exact ⟨rfl, BB.out⟩
  · go_cut [9] (fun v wx => ∃ W : Nat, v = .pointer (some ⟨W, 0, none⟩) ∧ XW w a b True [(W, cy), (Y, cy), (X, cx)] wx ∧ W ≠ X ∧ W ≠ Y)
    case first =>
      have RY := hidden (XX.out.r (Y, cy) (by simp)).1
      have N1 := XX.out.new 29
      have lx1 := XX.out.lt (X, cx) (by simp)
      have ly1 := XX.out.lt (Y, cy) (by simp)
      have TH : Hid ((wc.alloc (.cells #[.int .i64 0, .int .i64 0, .int .i64 0, .int .i64 0, .int .i64 0, .int .i64 0, .int .i64 0, .int .i64 0, .int .i64 0, .int .i64 0] 29)).there wc.heap.size 0 cy.toArray.size) := hidden (by have := (N1.r (wc.heap.size, Z10) (by simp)).2.1; simpa [HLY.out] using this)
      have N2 := hidden (N1.set (c := wc.heap.size) (o := Z10) (ds := cy) (M := [(Y, cy), (X, cx)]) (by simp) HLY.out (by simp; simp at lx1 ly1; omega))
      simp only at lx1 ly1
      clear N1
      go_wp2_with (first | refine wpList_load_mid rfl 29 _ rfl Y 0 (by rfl) cy _ RY.out HU.out rfl HIY.out ?_ | refine wpList_store_mid rfl 29 _ _ rfl wc.heap.size 0 cy.toArray (by rfl) (by rfl) TH.out HI2Y.out HOY.out ?_)
      go_meet
      exact ⟨_, rfl, N2.out, by omega, by omega⟩
    case rest =>
    obtain ⟨W, rfl, xw, hWX, hWY⟩ := hcut
    clear XX
    have XX := hidden xw
    clear xw
    have HB := hidden hi
    have RX := hidden (XX.out.r (X, cx) (by simp)).1
    have TH : Hid (wc.there W 0 cx.toArray.size) := hidden (by have := (XX.out.r (W, cy) (by simp)).2.1; simpa [HLX.out] using this)
    have N2 := hidden (XX.out.set (c := W) (o := cy) (ds := cx) (M := [(Y, cy), (X, cx)]) (by simp) HLX.out (by simp; omega))
    clear XX
    go_upto_region 7 with (first | refine wpList_load_mid rfl 29 _ rfl X 0 (by rfl) cx _ RX.out HU.out rfl HIX.out ?_ | refine wpList_store_mid rfl 29 _ _ rfl W 0 cx.toArray (by rfl) (by rfl) TH.out HI2X.out HOX.out ?_)
    clear RX TH
    have XX := hidden N2.out
    clear N2
    generalize wc.setCells W 0 cx = wq at XX ⊢
    clear hi
    have OW := hidden (XX.out.keep (drew_bl wq))
    refine wp_region_held_drew (S := XW w a b True [(W, cx), (Y, cy), (X, cx)]) (by kernel_rfl) OW.out (fun hHeld => ?_)
    generalize wq.drew = wd at OW hHeld ⊢
    clear XX OW
    refine wpAnyH_take (i := 0) (oi := _) (v := ?_) rfl (by kernel_rfl) (by kernel_rfl) (by kernel_rfl) (fun _ _ _ h => h) (Or.inl ⟨by rfl, ?_⟩) hHeld ?_
    rotate_left 1
    · (intro w0 hSw; have d0 := hSw.l.a.c 0 (by omega); have d1 := hSw.l.a.c 1 (by omega); have d2 := hSw.l.a.c 2 (by omega); have d3 := hSw.l.a.c 3 (by omega); have d4 := hSw.l.a.c 4 (by omega); simp only [lmf] at d0 d1 d2 d3 d4; clear hSw; go_simp; try with_reducible rfl)
    refine wpAnyH_take (i := 2) (oi := _) (v := _) rfl (by kernel_rfl) (by kernel_rfl) (by kernel_rfl) (fun _ _ _ h => h) (yieldsIf_load_mid (by rfl) _ _ rfl _ _ rfl _ _ (fun _ h => (h.r (X, cx) (by simp)).1) HU.out rfl HIX.out) hHeld ?_
    refine wpAnyH_ready (rs := [1]) (by kernel_rfl) (by simp) ?_
    refine AllReadyH.cons (o := _) rfl (fun K hK => ?_) AllReadyH.nil
    go_simp
    refine (AB.out _).mono ?_
    rintro e w5 ⟨rfl, hb5⟩
    have k5 := hidden (hHeld.keep hb5)
    go_wp2_with fail
    refine hK.out _ _ k5.out (fun hHeld2 => ?_)
    clear hK K hHeld hb5
    have hHeld := hHeld2
    clear hHeld2
    refine wpAnyH_ready (rs := [3]) (by kernel_rfl) (by simp) ?_
    refine AllReadyH.cons (o := _) rfl (fun K hK => ?_) AllReadyH.nil
    go_simp
    refine (RB.out _ hHeld.l.p (hHeld.l.z trivial)).mono ?_
    rintro e w6 ⟨rfl, hb6⟩
    have k6 := hidden (hHeld.keep hb6)
    go_wp2_with fail
    refine hK.out _ _ k6.out (fun hHeld2 => ?_)
    clear hK K hHeld hb6
    have hHeld := hHeld2
    clear hHeld2
    refine wpAnyH_ready (rs := [4]) (by kernel_rfl) (by simp) ?_
    refine AllReadyH.cons (o := _) rfl (fun K hK => ?_) AllReadyH.nil
    go_simp
    refine (IA.out _).mono ?_
    rintro e w7 ⟨rfl, hb7⟩
    have k7 := hidden (hHeld.keep hb7)
    go_wp2_with fail
    refine hK.out _ _ k7.out (fun hHeld2 => ?_)
    clear hK K hHeld hb7
    have hHeld := hHeld2
    clear hHeld2
    refine wpAnyH_take (i := 5) (oi := _) (v := ?_) rfl (by kernel_rfl) (by kernel_rfl) (by kernel_rfl) (fun _ _ _ h => h) (Or.inl ⟨by rfl, ?_⟩) hHeld ?_
    rotate_left 1
    · (intro w0 hSw; clear hSw; go_simp; try with_reducible rfl)
    refine wpAnyH_take (i := 6) (oi := _) (v := ?_) rfl (by kernel_rfl) (by kernel_rfl) (by kernel_rfl) (fun _ _ _ h => h) (Or.inl ⟨by rfl, ?_⟩) hHeld ?_
    rotate_left 1
    · (intro w0 hSw; clear hSw; go_simp; try with_reducible rfl)
    refine wpAnyH_take (i := 7) (oi := _) (v := ?_) rfl (by kernel_rfl) (by kernel_rfl) (by kernel_rfl) (fun _ _ _ h => h) (Or.inl ⟨by rfl, ?_⟩) hHeld ?_
    rotate_left 1
    · (intro w0 hSw; have d0 := hSw.l.a.c 0 (by omega); have d1 := hSw.l.a.c 1 (by omega); have d2 := hSw.l.a.c 2 (by omega); have d3 := hSw.l.a.c 3 (by omega); have d4 := hSw.l.a.c 4 (by omega); simp only [lmf] at d0 d1 d2 d3 d4; clear hSw; go_simp; try with_reducible rfl)
    refine wpAnyH_take (i := 8) (oi := _) (v := ?_) rfl (by kernel_rfl) (by kernel_rfl) (by kernel_rfl) (fun _ _ _ h => h) (Or.inl ⟨by rfl, ?_⟩) hHeld ?_
    rotate_left 1
    · (intro w0 hSw; have d0 := hSw.l.b.c 0 (by omega); have d1 := hSw.l.b.c 1 (by omega); have d2 := hSw.l.b.c 2 (by omega); have d3 := hSw.l.b.c 3 (by omega); have d4 := hSw.l.b.c 4 (by omega); simp only [lmf] at d0 d1 d2 d3 d4; clear hSw; go_simp; try with_reducible rfl)
    refine wpAnyH_take (i := 10) (oi := _) (v := _) rfl (by kernel_rfl) (by kernel_rfl) (by kernel_rfl) (fun _ _ _ h => h) (yieldsIf_load_mid (by rfl) _ _ rfl _ _ rfl _ _ (fun _ h => (h.r (W, cx) (by simp)).1) HU.out rfl HIX.out) hHeld ?_
    refine wpAnyH_ready (rs := [9]) (by kernel_rfl) (by simp) ?_
    refine AllReadyH.cons (o := _) rfl (fun K hK => ?_) AllReadyH.nil
    go_simp
    refine (SX.out _ HB.out).mono ?_
    rintro e w8 ⟨rfl, hb8⟩
    have k8 := hidden (hHeld.keep hb8)
    go_wp2_with fail
    refine hK.out _ _ k8.out (fun hHeld2 => ?_)
    clear hK K hHeld hb8
    have hHeld := hHeld2
    clear hHeld2
    refine wpAnyH_ready (rs := [11]) (by kernel_rfl) (by simp) ?_
    refine AllReadyH.cons (o := _) rfl (fun K hK => ?_) AllReadyH.nil
    go_simp
    refine (IX.out _).mono ?_
    rintro e w9 ⟨rfl, hb9⟩
    have k9 := hidden (hHeld.keep hb9)
    go_wp2_with fail
    refine hK.out _ _ k9.out (fun hHeld2 => ?_)
    clear hK K hHeld hb9
    have hHeld := hHeld2
    clear hHeld2
    refine wpAnyH_take (i := 12) (oi := _) (v := ?_) rfl (by kernel_rfl) (by kernel_rfl) (by kernel_rfl) (fun _ _ _ h => h) (Or.inl ⟨by rfl, ?_⟩) hHeld ?_
    rotate_left 1
    · (intro w0 hSw; clear hSw; go_simp; try with_reducible rfl)
    refine wpAnyH_take (i := 13) (oi := _) (v := ?_) rfl (by kernel_rfl) (by kernel_rfl) (by kernel_rfl) (fun _ _ _ h => h) (Or.inl ⟨by rfl, ?_⟩) hHeld ?_
    rotate_left 1
    · (intro w0 hSw; clear hSw; go_simp; try with_reducible rfl)
    refine wpAnyH_done (by kernel_rfl) ?_ _
    have BB := hidden hHeld.l.bel
    clear hHeld
    go_wp2_with fail
    go_ret
    exact ⟨rfl, BB.out⟩
theorem asks_all (a b : E5) (i : Int) (w : World) (hP : Pm w) (hZ : Zr w) (ha : a.ok) (hb : b.ok) : Calls Tryd.prog 6 #[a.v, b.v, .int .i64 i] w fun e w' => e = .returned (.bool true) ∧ Below w.heap.size w w' :=
  asks_any a b i w hP hZ ha hb (by rw [and1i]; omega)
end Go.Proofs.YtgijodenblpbgaaDoor
