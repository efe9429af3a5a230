import Derived.Test.YtgijodenblpbgaaDoorFxy
import Derived.Test.YtgijodenblpbgaaDoorRmu
import Derived.Test.YtgijodenblpbgaaDoorProd
namespace Go.Proofs.YtgijodenblpbgaaDoor
open Go.RowKit
set_option maxRecDepth 100000 in
set_option maxHeartbeats 32000000 in
theorem muls_any (a b : E5) (w : World) (hP : Pm w) (ha : a.ok) (hb : b.ok) : Calls Tryd.prog 5 #[a.v, b.v] w fun e w' => e = .returned (.bool true) ∧ Below w.heap.size w w' := by
  have pp : 0 < pF := by decide
  have xm : 0 ≤ a.n % pF ∧ a.n % pF < pF := ⟨Int.emod_nonneg _ (by omega), Int.emod_lt_of_pos _ pp⟩
  have ym : 0 ≤ b.n % pF ∧ b.n % pF < pF := ⟨Int.emod_nonneg _ (by omega), Int.emod_lt_of_pos _ pp⟩
  have OA := hidden (fun w P => of_any a w ha P)
  have OB := hidden (fun w P => of_any b w hb P)
  have ML := hidden (fun w => fixF (Mul_any a b w ha hb))
  have SQ := hidden (fun w => fixF (Square_any a w ha))
  have RM := hidden (fun w P => rMul_any (a.n % pF) (b.n % pF) w xm.1 xm.2 ym.1 ym.2 P)
  have RQ := hidden (fun w P => rMul_any (a.n % pF) (a.n % pF) w xm.1 xm.2 xm.1 xm.2 P)
  rw [← Int.mul_emod] at RM RQ
  have IA := hidden (fun w => is_any ((a.n * b.n) % pF) w (Int.emod_nonneg _ (by omega)) (Int.emod_lt_of_pos _ pp))
  have IS := hidden (fun w => is_any ((a.n * a.n) % pF) w (Int.emod_nonneg _ (by omega)) (Int.emod_lt_of_pos _ pp))
  have h1 := Ru.new5 w a 24
  have h2 := Ru.new5 (w.alloc (.cells #[.int .u64 a.x0, .int .u64 a.x1, .int .u64 a.x2, .int .u64 a.x3, .int .u64 a.x4] 24)) b 24
  simp only [World.size_alloc] at h2
  have bl := bl_alloc2 w (.cells #[.int .u64 a.x0, .int .u64 a.x1, .int .u64 a.x2, .int .u64 a.x3, .int .u64 a.x4] 24) (.cells #[.int .u64 b.x0, .int .u64 b.x1, .int .u64 b.x2, .int .u64 b.x3, .int .u64 b.x4] 24)
  have S0 := hidden (⟨h1.keep (bl_alloc _ _), h2, hP.keep bl, fun h => h.elim, bl⟩ : LW w a b False _)
  have HU := hidden (f10 (a.n % pF)).u
  have HIX := hidden (f10 (a.n % pF)).i
  have HIY := hidden (f10 (b.n % pF)).i
  have HI2X := hidden (f10 (a.n % pF)).i2
  have HI2Y := hidden (f10 (b.n % pF)).i2
  have HOX := hidden (f10 (a.n % pF)).o
  have HOY := hidden (f10 (b.n % pF)).o
  have HLX := hidden (f10 (a.n % pF)).l
  have HLY := hidden (f10 (b.n % pF)).l
  unfold fv at OA OB RM RQ IA IS
  clear h1 h2 bl hP pp xm ym ha hb
  generalize ((digs (a.n % pF)).map fun z => Value.int .i64 z) = cx at *
  generalize ((digs (b.n % pF)).map fun z => Value.int .i64 z) = cy at *
  generalize ((digs ((a.n * b.n) % pF)).map fun z => Value.int .i64 z) = ca at *
  generalize ((digs ((a.n * a.n) % pF)).map fun z => Value.int .i64 z) = cs at *
  generalize lst ((a.n * b.n) % pF) = la at *
  generalize lst ((a.n * a.n) % pF) = ls' at *
  simp only [E5.v] at OA OB ML SQ IA IS ⊢
  go_enter Tryd.func5, Tryd.ntmps5
  go_upto_region 1 with fail
  generalize ((w.alloc (.cells #[.int .u64 a.x0, .int .u64 a.x1, .int .u64 a.x2, .int .u64 a.x3, .int .u64 a.x4] 24)).alloc (.cells #[.int .u64 b.x0, .int .u64 b.x1, .int .u64 b.x2, .int .u64 b.x3, .int .u64 b.x4] 24)) = wB at S0 ⊢
  go_cut [5, 6] (fun vx vy wx => ∃ X Y : Nat, vx = .pointer (some ⟨X, 0, none⟩) ∧ vy = .pointer (some ⟨Y, 0, none⟩) ∧ X ≠ Y ∧ XW w a b False [(Y, cy), (X, cx)] wx)
  case first =>
    have OW := hidden (⟨S0.out.keep (drew_bl wB), fun p hp => (by cases hp)⟩ : XW w a b False [] wB.drew)
    refine wp_region_held_drew (S := LW w a b False) (by kernel_rfl) OW.out.l (fun hHeld => ?_)
    generalize wB.drew = wd at OW hHeld ⊢
    refine wpAnyH_take (i := 0) (oi := _) (v := ?_) rfl (by kernel_rfl) (by kernel_rfl) (by kernel_rfl) (fun _ _ _ h => h) (Or.inl ⟨by rfl, ?_⟩) hHeld ?_
    rotate_left 1
    · (intro w0 hSw; have d0 := hSw.a.c 0 (by omega); have d1 := hSw.a.c 1 (by omega); have d2 := hSw.a.c 2 (by omega); have d3 := hSw.a.c 3 (by omega); have d4 := hSw.a.c 4 (by omega); simp only [lmf] at d0 d1 d2 d3 d4; clear hSw; go_simp; try with_reducible rfl)
    refine wpAnyH_take (i := 2) (oi := _) (v := ?_) rfl (by kernel_rfl) (by kernel_rfl) (by kernel_rfl) (fun _ _ _ h => h) (Or.inl ⟨by rfl, ?_⟩) hHeld ?_
    rotate_left 1
    · (intro w0 hSw; have d0 := hSw.b.c 0 (by omega); have d1 := hSw.b.c 1 (by omega); have d2 := hSw.b.c 2 (by omega); have d3 := hSw.b.c 3 (by omega); have d4 := hSw.b.c 4 (by omega); simp only [lmf] at d0 d1 d2 d3 d4; clear hSw; go_simp; try with_reducible rfl)
    refine wpAnyH_ready (rs := [1, 4, 5]) (by kernel_rfl) (by simp) ?_
    refine AllReadyH.cons (o := _) rfl (fun K hK => ?_) ?_
    · go_simp
      refine (OA.out _ hHeld.p).mono ?_
      rintro e u1 ⟨rfl, hb1⟩
      have O1 := hidden (OW.out.keep hb1)
      go_wp2_with fail
      refine hK.out _ _ O1.out.l (fun hHeld2 => ?_)
      clear hK K hHeld hb1
      have hHeld := hHeld2
      clear hHeld2
      refine wpAnyH_ready (rs := [3, 4, 5]) (by kernel_rfl) (by simp) ?_
      refine AllReadyH.cons (o := _) rfl (fun K hK => ?_) ?_
      · go_simp
        refine (OB.out _ hHeld.p).mono ?_
        rintro e u2 ⟨rfl, hb2⟩
        have O2 := hidden (O1.out.keep hb2)
        go_wp2_with fail
        refine hK.out _ _ O2.out.l (fun hHeld2 => ?_)
        clear hK K hHeld hb2
        have hHeld := hHeld2
        clear hHeld2
        refine wpAnyH_ready (rs := [4, 5]) (by kernel_rfl) (by simp) ?_
        refine AllReadyH.cons (o := _) rfl (fun K hK => ?_) ?_
        · have O3 := hidden (O2.out.new 29)
          go_simp
          refine hK.out _ _ O3.out.l (fun hHeld2 => ?_)
          clear hK K hHeld
          have hHeld := hHeld2
          clear hHeld2
          obtain ⟨B3, hB3⟩ : ∃ n, u2.heap.size = n := ⟨_, rfl⟩
          generalize u2.alloc (.cells #[.int .i64 0, .int .i64 0, .int .i64 0, .int .i64 0, .int .i64 0, .int .i64 0, .int .i64 0, .int .i64 0, .int .i64 0, .int .i64 0] 29) = v3 at *
          simp only [hB3] at O3 ⊢
          clear hB3
          refine wpAnyH_ready (rs := [5]) (by kernel_rfl) (by simp) ?_
          refine AllReadyH.cons (o := _) rfl (fun K hK => ?_) AllReadyH.nil
          · have O4 := hidden (O3.out.new 29)
            go_simp
            refine hK.out _ _ O4.out.l (fun hHeld2 => ?_)
            clear hK K hHeld
            have hHeld := hHeld2
            clear hHeld2
            obtain ⟨B4, hB4⟩ : ∃ n, v3.heap.size = n := ⟨_, rfl⟩
            generalize v3.alloc (.cells #[.int .i64 0, .int .i64 0, .int .i64 0, .int .i64 0, .int .i64 0, .int .i64 0, .int .i64 0, .int .i64 0, .int .i64 0, .int .i64 0] 29) = v4 at *
            simp only [hB4] at O4 ⊢
            have m4_0 : B3 < B4 := by have := O3.out.lt (B3, Z10) (by simp); omega
            clear hB4
            have P1 := hidden (O4.out.set (c := B3) (o := Z10) (ds := cx) (M := [(B4, Z10)]) (by simp) HLX.out (by simp; omega))
            have THP1 : v4.there B3 0 cx.toArray.size := by have := (O4.out.r (B3, Z10) (by simp)).2.1; simpa [HLX.out] using this
            refine wpAnyH_ready (rs := [6]) (by kernel_rfl) (by simp) ?_
            refine AllReadyH.cons (o := _) rfl (fun K hK => ?_) AllReadyH.nil
            rw [if_pos (by rfl)]
            refine wp_store_mid _ _ _ rfl _ _ (List.toArray cx) rfl rfl THP1 HI2X.out HOX.out ?_
            refine hK.out _ _ P1.out.l (fun hHeld2 => ?_)
            clear hK K hHeld
            have hHeld := hHeld2
            clear hHeld2
            have P2 := hidden (P1.out.set (c := B4) (o := Z10) (ds := cy) (M := [(B3, cx)]) (by simp) HLY.out (by simp; omega))
            have THP2 : (v4.setCells B3 0 cx).there B4 0 cy.toArray.size := by have := (P1.out.r (B4, Z10) (by simp)).2.1; simpa [HLY.out] using this
            refine wpAnyH_ready (rs := [7]) (by kernel_rfl) (by simp) ?_
            refine AllReadyH.cons (o := _) rfl (fun K hK => ?_) AllReadyH.nil
            rw [if_pos (by rfl)]
            refine wp_store_mid _ _ _ rfl _ _ (List.toArray cy) rfl rfl THP2 HI2Y.out HOY.out ?_
            refine hK.out _ _ P2.out.l (fun hHeld2 => ?_)
            clear hK K hHeld
            have hHeld := hHeld2
            clear hHeld2
            refine wpAnyH_done (by kernel_rfl) ?_ _
            have P3 := hidden (P2.out.sub (M := [(B4, cy), (B3, cx)]) (by simp))
            clear P1 P2 THP1 THP2
            go_wp2_with fail
            go_meet
            exact ⟨B3, B4, rfl, rfl, by omega, P3.out⟩
        refine AllReadyH.cons (o := _) rfl (fun K hK => ?_) AllReadyH.nil
        · have O5 := hidden (O2.out.new 29)
          go_simp
          refine hK.out _ _ O5.out.l (fun hHeld2 => ?_)
          clear hK K hHeld
          have hHeld := hHeld2
          clear hHeld2
          obtain ⟨B5, hB5⟩ : ∃ n, u2.heap.size = n := ⟨_, rfl⟩
          generalize u2.alloc (.cells #[.int .i64 0, .int .i64 0, .int .i64 0, .int .i64 0, .int .i64 0, .int .i64 0, .int .i64 0, .int .i64 0, .int .i64 0, .int .i64 0] 29) = v5 at *
          simp only [hB5] at O5 ⊢
          clear hB5
          refine wpAnyH_ready (rs := [4]) (by kernel_rfl) (by simp) ?_
          refine AllReadyH.cons (o := _) rfl (fun K hK => ?_) AllReadyH.nil
          · have O6 := hidden (O5.out.new 29)
            go_simp
            refine hK.out _ _ O6.out.l (fun hHeld2 => ?_)
            clear hK K hHeld
            have hHeld := hHeld2
            clear hHeld2
            obtain ⟨B6, hB6⟩ : ∃ n, v5.heap.size = n := ⟨_, rfl⟩
            generalize v5.alloc (.cells #[.int .i64 0, .int .i64 0, .int .i64 0, .int .i64 0, .int .i64 0, .int .i64 0, .int .i64 0, .int .i64 0, .int .i64 0, .int .i64 0] 29) = v6 at *
            simp only [hB6] at O6 ⊢
            have m6_0 : B5 < B6 := by have := O5.out.lt (B5, Z10) (by simp); omega
            clear hB6
            have P1 := hidden (O6.out.set (c := B6) (o := Z10) (ds := cx) (M := [(B5, Z10)]) (by simp) HLX.out (by simp; omega))
            have THP1 : v6.there B6 0 cx.toArray.size := by have := (O6.out.r (B6, Z10) (by simp)).2.1; simpa [HLX.out] using this
            refine wpAnyH_ready (rs := [6]) (by kernel_rfl) (by simp) ?_
            refine AllReadyH.cons (o := _) rfl (fun K hK => ?_) AllReadyH.nil
            rw [if_pos (by rfl)]
            refine wp_store_mid _ _ _ rfl _ _ (List.toArray cx) rfl rfl THP1 HI2X.out HOX.out ?_
            refine hK.out _ _ P1.out.l (fun hHeld2 => ?_)
            clear hK K hHeld
            have hHeld := hHeld2
            clear hHeld2
            have P2 := hidden (P1.out.set (c := B5) (o := Z10) (ds := cy) (M := [(B6, cx)]) (by simp) HLY.out (by simp; omega))
            have THP2 : (v6.setCells B6 0 cx).there B5 0 cy.toArray.size := by have := (P1.out.r (B5, Z10) (by simp)).2.1; simpa [HLY.out] using this
            refine wpAnyH_ready (rs := [7]) (by kernel_rfl) (by simp) ?_
            refine AllReadyH.cons (o := _) rfl (fun K hK => ?_) AllReadyH.nil
            rw [if_pos (by rfl)]
            refine wp_store_mid _ _ _ rfl _ _ (List.toArray cy) rfl rfl THP2 HI2Y.out HOY.out ?_
            refine hK.out _ _ P2.out.l (fun hHeld2 => ?_)
            clear hK K hHeld
            have hHeld := hHeld2
            clear hHeld2
            refine wpAnyH_done (by kernel_rfl) ?_ _
            have P3 := hidden (P2.out.sub (M := [(B5, cy), (B6, cx)]) (by simp))
            clear P1 P2 THP1 THP2
            go_wp2_with fail
            go_meet
            exact ⟨B6, B5, rfl, rfl, by omega, P3.out⟩
      refine AllReadyH.cons (o := _) rfl (fun K hK => ?_) ?_
      · have O7 := hidden (O1.out.new 29)
        go_simp
        refine hK.out _ _ O7.out.l (fun hHeld2 => ?_)
        clear hK K hHeld
        have hHeld := hHeld2
        clear hHeld2
        obtain ⟨B7, hB7⟩ : ∃ n, u1.heap.size = n := ⟨_, rfl⟩
        generalize u1.alloc (.cells #[.int .i64 0, .int .i64 0, .int .i64 0, .int .i64 0, .int .i64 0, .int .i64 0, .int .i64 0, .int .i64 0, .int .i64 0, .int .i64 0] 29) = v7 at *
        simp only [hB7] at O7 ⊢
        clear hB7
        refine wpAnyH_ready (rs := [3, 5]) (by kernel_rfl) (by simp) ?_
        refine AllReadyH.cons (o := _) rfl (fun K hK => ?_) ?_
        · go_simp
          refine (OB.out _ hHeld.p).mono ?_
          rintro e u8 ⟨rfl, hb8⟩
          have O8 := hidden (O7.out.keep hb8)
          go_wp2_with fail
          refine hK.out _ _ O8.out.l (fun hHeld2 => ?_)
          clear hK K hHeld hb8
          have hHeld := hHeld2
          clear hHeld2
          refine wpAnyH_ready (rs := [5]) (by kernel_rfl) (by simp) ?_
          refine AllReadyH.cons (o := _) rfl (fun K hK => ?_) AllReadyH.nil
          · have O9 := hidden (O8.out.new 29)
            go_simp
            refine hK.out _ _ O9.out.l (fun hHeld2 => ?_)
            clear hK K hHeld
            have hHeld := hHeld2
            clear hHeld2
            obtain ⟨B9, hB9⟩ : ∃ n, u8.heap.size = n := ⟨_, rfl⟩
            generalize u8.alloc (.cells #[.int .i64 0, .int .i64 0, .int .i64 0, .int .i64 0, .int .i64 0, .int .i64 0, .int .i64 0, .int .i64 0, .int .i64 0, .int .i64 0] 29) = v9 at *
            simp only [hB9] at O9 ⊢
            have m9_0 : B7 < B9 := by have := O8.out.lt (B7, Z10) (by simp); omega
            clear hB9
            have P1 := hidden (O9.out.set (c := B7) (o := Z10) (ds := cx) (M := [(B9, Z10)]) (by simp) HLX.out (by simp; omega))
            have THP1 : v9.there B7 0 cx.toArray.size := by have := (O9.out.r (B7, Z10) (by simp)).2.1; simpa [HLX.out] using this
            refine wpAnyH_ready (rs := [6]) (by kernel_rfl) (by simp) ?_
            refine AllReadyH.cons (o := _) rfl (fun K hK => ?_) AllReadyH.nil
            rw [if_pos (by rfl)]
            refine wp_store_mid _ _ _ rfl _ _ (List.toArray cx) rfl rfl THP1 HI2X.out HOX.out ?_
            refine hK.out _ _ P1.out.l (fun hHeld2 => ?_)
            clear hK K hHeld
            have hHeld := hHeld2
            clear hHeld2
            have P2 := hidden (P1.out.set (c := B9) (o := Z10) (ds := cy) (M := [(B7, cx)]) (by simp) HLY.out (by simp; omega))
            have THP2 : (v9.setCells B7 0 cx).there B9 0 cy.toArray.size := by have := (P1.out.r (B9, Z10) (by simp)).2.1; simpa [HLY.out] using this
            refine wpAnyH_ready (rs := [7]) (by kernel_rfl) (by simp) ?_
            refine AllReadyH.cons (o := _) rfl (fun K hK => ?_) AllReadyH.nil
            rw [if_pos (by rfl)]
            refine wp_store_mid _ _ _ rfl _ _ (List.toArray cy) rfl rfl THP2 HI2Y.out HOY.out ?_
            refine hK.out _ _ P2.out.l (fun hHeld2 => ?_)
            clear hK K hHeld
            have hHeld := hHeld2
            clear hHeld2
            refine wpAnyH_done (by kernel_rfl) ?_ _
            have P3 := hidden (P2.out.sub (M := [(B9, cy), (B7, cx)]) (by simp))
            clear P1 P2 THP1 THP2
            go_wp2_with fail
            go_meet
            exact ⟨B7, B9, rfl, rfl, by omega, P3.out⟩
        refine AllReadyH.cons (o := _) rfl (fun K hK => ?_) AllReadyH.nil
        · have O10 := hidden (O7.out.new 29)
          go_simp
          refine hK.out _ _ O10.out.l (fun hHeld2 => ?_)
          clear hK K hHeld
          have hHeld := hHeld2
          clear hHeld2
          obtain ⟨B10, hB10⟩ : ∃ n, v7.heap.size = n := ⟨_, rfl⟩
          generalize v7.alloc (.cells #[.int .i64 0, .int .i64 0, .int .i64 0, .int .i64 0, .int .i64 0, .int .i64 0, .int .i64 0, .int .i64 0, .int .i64 0, .int .i64 0] 29) = v10 at *
          simp only [hB10] at O10 ⊢
          have m10_0 : B7 < B10 := by have := O7.out.lt (B7, Z10) (by simp); omega
          clear hB10
          refine wpAnyH_ready (rs := [3]) (by kernel_rfl) (by simp) ?_
          refine AllReadyH.cons (o := _) rfl (fun K hK => ?_) AllReadyH.nil
          · go_simp
            refine (OB.out _ hHeld.p).mono ?_
            rintro e u11 ⟨rfl, hb11⟩
            have O11 := hidden (O10.out.keep hb11)
            go_wp2_with fail
            refine hK.out _ _ O11.out.l (fun hHeld2 => ?_)
            clear hK K hHeld hb11
            have hHeld := hHeld2
            clear hHeld2
            have P1 := hidden (O11.out.set (c := B7) (o := Z10) (ds := cx) (M := [(B10, Z10)]) (by simp) HLX.out (by simp; omega))
            have THP1 : u11.there B7 0 cx.toArray.size := by have := (O11.out.r (B7, Z10) (by simp)).2.1; simpa [HLX.out] using this
            refine wpAnyH_ready (rs := [6]) (by kernel_rfl) (by simp) ?_
            refine AllReadyH.cons (o := _) rfl (fun K hK => ?_) AllReadyH.nil
            rw [if_pos (by rfl)]
            refine wp_store_mid _ _ _ rfl _ _ (List.toArray cx) rfl rfl THP1 HI2X.out HOX.out ?_
            refine hK.out _ _ P1.out.l (fun hHeld2 => ?_)
            clear hK K hHeld
            have hHeld := hHeld2
            clear hHeld2
            have P2 := hidden (P1.out.set (c := B10) (o := Z10) (ds := cy) (M := [(B7, cx)]) (by simp) HLY.out (by simp; omega))
            have THP2 : (u11.setCells B7 0 cx).there B10 0 cy.toArray.size := by have := (P1.out.r (B10, Z10) (by simp)).2.1; simpa [HLY.out] using this
            refine wpAnyH_ready (rs := [7]) (by kernel_rfl) (by simp) ?_
            refine AllReadyH.cons (o := _) rfl (fun K hK => ?_) AllReadyH.nil
            rw [if_pos (by rfl)]
            refine wp_store_mid _ _ _ rfl _ _ (List.toArray cy) rfl rfl THP2 HI2Y.out HOY.out ?_
            refine hK.out _ _ P2.out.l (fun hHeld2 => ?_)
            clear hK K hHeld
            have hHeld := hHeld2
            clear hHeld2
            refine wpAnyH_done (by kernel_rfl) ?_ _
            have P3 := hidden (P2.out.sub (M := [(B10, cy), (B7, cx)]) (by simp))
            clear P1 P2 THP1 THP2
            go_wp2_with fail
            go_meet
            exact ⟨B7, B10, rfl, rfl, by omega, P3.out⟩
      refine AllReadyH.cons (o := _) rfl (fun K hK => ?_) AllReadyH.nil
      · have O12 := hidden (O1.out.new 29)
        go_simp
        refine hK.out _ _ O12.out.l (fun hHeld2 => ?_)
        clear hK K hHeld
        have hHeld := hHeld2
        clear hHeld2
        obtain ⟨B12, hB12⟩ : ∃ n, u1.heap.size = n := ⟨_, rfl⟩
        generalize u1.alloc (.cells #[.int .i64 0, .int .i64 0, .int .i64 0, .int .i64 0, .int .i64 0, .int .i64 0, .int .i64 0, .int .i64 0, .int .i64 0, .int .i64 0] 29) = v12 at *
        simp only [hB12] at O12 ⊢
        clear hB12
        refine wpAnyH_ready (rs := [3, 4]) (by kernel_rfl) (by simp) ?_
        refine AllReadyH.cons (o := _) rfl (fun K hK => ?_) ?_
        · go_simp
          refine (OB.out _ hHeld.p).mono ?_
          rintro e u13 ⟨rfl, hb13⟩
          have O13 := hidden (O12.out.keep hb13)
          go_wp2_with fail
          refine hK.out _ _ O13.out.l (fun hHeld2 => ?_)
          clear hK K hHeld hb13
          have hHeld := hHeld2
          clear hHeld2
          refine wpAnyH_ready (rs := [4]) (by kernel_rfl) (by simp) ?_
          refine AllReadyH.cons (o := _) rfl (fun K hK => ?_) AllReadyH.nil
          · have O14 := hidden (O13.out.new 29)
            go_simp
            refine hK.out _ _ O14.out.l (fun hHeld2 => ?_)
            clear hK K hHeld
            have hHeld := hHeld2
            clear hHeld2
            obtain ⟨B14, hB14⟩ : ∃ n, u13.heap.size = n := ⟨_, rfl⟩
            generalize u13.alloc (.cells #[.int .i64 0, .int .i64 0, .int .i64 0, .int .i64 0, .int .i64 0, .int .i64 0, .int .i64 0, .int .i64 0, .int .i64 0, .int .i64 0] 29) = v14 at *
            simp only [hB14] at O14 ⊢
            have m14_0 : B12 < B14 := by have := O13.out.lt (B12, Z10) (by simp); omega
            clear hB14
            have P1 := hidden (O14.out.set (c := B14) (o := Z10) (ds := cx) (M := [(B12, Z10)]) (by simp) HLX.out (by simp; omega))
            have THP1 : v14.there B14 0 cx.toArray.size := by have := (O14.out.r (B14, Z10) (by simp)).2.1; simpa [HLX.out] using this
            refine wpAnyH_ready (rs := [6]) (by kernel_rfl) (by simp) ?_
            refine AllReadyH.cons (o := _) rfl (fun K hK => ?_) AllReadyH.nil
            rw [if_pos (by rfl)]
            refine wp_store_mid _ _ _ rfl _ _ (List.toArray cx) rfl rfl THP1 HI2X.out HOX.out ?_
            refine hK.out _ _ P1.out.l (fun hHeld2 => ?_)
            clear hK K hHeld
            have hHeld := hHeld2
            clear hHeld2
            have P2 := hidden (P1.out.set (c := B12) (o := Z10) (ds := cy) (M := [(B14, cx)]) (by simp) HLY.out (by simp; omega))
            have THP2 : (v14.setCells B14 0 cx).there B12 0 cy.toArray.size := by have := (P1.out.r (B12, Z10) (by simp)).2.1; simpa [HLY.out] using this
            refine wpAnyH_ready (rs := [7]) (by kernel_rfl) (by simp) ?_
            refine AllReadyH.cons (o := _) rfl (fun K hK => ?_) AllReadyH.nil
            rw [if_pos (by rfl)]
            refine wp_store_mid _ _ _ rfl _ _ (List.toArray cy) rfl rfl THP2 HI2Y.out HOY.out ?_
            refine hK.out _ _ P2.out.l (fun hHeld2 => ?_)
            clear hK K hHeld
            have hHeld := hHeld2
            clear hHeld2
            refine wpAnyH_done (by kernel_rfl) ?_ _
            have P3 := hidden (P2.out.sub (M := [(B12, cy), (B14, cx)]) (by simp))
            clear P1 P2 THP1 THP2
            go_wp2_with fail
            go_meet
            exact ⟨B14, B12, rfl, rfl, by omega, P3.out⟩
        refine AllReadyH.cons (o := _) rfl (fun K hK => ?_) AllReadyH.nil
        · have O15 := hidden (O12.out.new 29)
          go_simp
          refine hK.out _ _ O15.out.l (fun hHeld2 => ?_)
          clear hK K hHeld
          have hHeld := hHeld2
          clear hHeld2
          obtain ⟨B15, hB15⟩ : ∃ n, v12.heap.size = n := ⟨_, rfl⟩
          generalize v12.alloc (.cells #[.int .i64 0, .int .i64 0, .int .i64 0, .int .i64 0, .int .i64 0, .int .i64 0, .int .i64 0, .int .i64 0, .int .i64 0, .int .i64 0] 29) = v15 at *
          simp only [hB15] at O15 ⊢
          have m15_0 : B12 < B15 := by have := O12.out.lt (B12, Z10) (by simp); omega
          clear hB15
          refine wpAnyH_ready (rs := [3]) (by kernel_rfl) (by simp) ?_
          refine AllReadyH.cons (o := _) rfl (fun K hK => ?_) AllReadyH.nil
          · go_simp
            refine (OB.out _ hHeld.p).mono ?_
            rintro e u16 ⟨rfl, hb16⟩
            have O16 := hidden (O15.out.keep hb16)
            go_wp2_with fail
            refine hK.out _ _ O16.out.l (fun hHeld2 => ?_)
            clear hK K hHeld hb16
            have hHeld := hHeld2
            clear hHeld2
            have P1 := hidden (O16.out.set (c := B15) (o := Z10) (ds := cx) (M := [(B12, Z10)]) (by simp) HLX.out (by simp; omega))
            have THP1 : u16.there B15 0 cx.toArray.size := by have := (O16.out.r (B15, Z10) (by simp)).2.1; simpa [HLX.out] using this
            refine wpAnyH_ready (rs := [6]) (by kernel_rfl) (by simp) ?_
            refine AllReadyH.cons (o := _) rfl (fun K hK => ?_) AllReadyH.nil
            rw [if_pos (by rfl)]
            refine wp_store_mid _ _ _ rfl _ _ (List.toArray cx) rfl rfl THP1 HI2X.out HOX.out ?_
            refine hK.out _ _ P1.out.l (fun hHeld2 => ?_)
            clear hK K hHeld
            have hHeld := hHeld2
            clear hHeld2
            have P2 := hidden (P1.out.set (c := B12) (o := Z10) (ds := cy) (M := [(B15, cx)]) (by simp) HLY.out (by simp; omega))
            have THP2 : (u16.setCells B15 0 cx).there B12 0 cy.toArray.size := by have := (P1.out.r (B12, Z10) (by simp)).2.1; simpa [HLY.out] using this
            refine wpAnyH_ready (rs := [7]) (by kernel_rfl) (by simp) ?_
            refine AllReadyH.cons (o := _) rfl (fun K hK => ?_) AllReadyH.nil
            rw [if_pos (by rfl)]
            refine wp_store_mid _ _ _ rfl _ _ (List.toArray cy) rfl rfl THP2 HI2Y.out HOY.out ?_
            refine hK.out _ _ P2.out.l (fun hHeld2 => ?_)
            clear hK K hHeld
            have hHeld := hHeld2
            clear hHeld2
            refine wpAnyH_done (by kernel_rfl) ?_ _
            have P3 := hidden (P2.out.sub (M := [(B12, cy), (B15, cx)]) (by simp))
            clear P1 P2 THP1 THP2
            go_wp2_with fail
            go_meet
            exact ⟨B15, B12, rfl, rfl, by omega, P3.out⟩
    refine AllReadyH.cons (o := _) rfl (fun K hK => ?_) ?_
    · have O17 := hidden (OW.out.new 29)
      go_simp
      refine hK.out _ _ O17.out.l (fun hHeld2 => ?_)
      clear hK K hHeld
      have hHeld := hHeld2
      clear hHeld2
      obtain ⟨B17, hB17⟩ : ∃ n, wd.heap.size = n := ⟨_, rfl⟩
      generalize wd.alloc (.cells #[.int .i64 0, .int .i64 0, .int .i64 0, .int .i64 0, .int .i64 0, .int .i64 0, .int .i64 0, .int .i64 0, .int .i64 0, .int .i64 0] 29) = v17 at *
      simp only [hB17] at O17 ⊢
      clear hB17
      refine wpAnyH_ready (rs := [1, 5]) (by kernel_rfl) (by simp) ?_
      refine AllReadyH.cons (o := _) rfl (fun K hK => ?_) ?_
      · go_simp
        refine (OA.out _ hHeld.p).mono ?_
        rintro e u18 ⟨rfl, hb18⟩
        have O18 := hidden (O17.out.keep hb18)
        go_wp2_with fail
        refine hK.out _ _ O18.out.l (fun hHeld2 => ?_)
        clear hK K hHeld hb18
        have hHeld := hHeld2
        clear hHeld2
        refine wpAnyH_ready (rs := [3, 5]) (by kernel_rfl) (by simp) ?_
        refine AllReadyH.cons (o := _) rfl (fun K hK => ?_) ?_
        · go_simp
          refine (OB.out _ hHeld.p).mono ?_
          rintro e u19 ⟨rfl, hb19⟩
          have O19 := hidden (O18.out.keep hb19)
          go_wp2_with fail
          refine hK.out _ _ O19.out.l (fun hHeld2 => ?_)
          clear hK K hHeld hb19
          have hHeld := hHeld2
          clear hHeld2
          refine wpAnyH_ready (rs := [5]) (by kernel_rfl) (by simp) ?_
          refine AllReadyH.cons (o := _) rfl (fun K hK => ?_) AllReadyH.nil
          · have O20 := hidden (O19.out.new 29)
            go_simp
            refine hK.out _ _ O20.out.l (fun hHeld2 => ?_)
            clear hK K hHeld
            have hHeld := hHeld2
            clear hHeld2
            obtain ⟨B20, hB20⟩ : ∃ n, u19.heap.size = n := ⟨_, rfl⟩
            generalize u19.alloc (.cells #[.int .i64 0, .int .i64 0, .int .i64 0, .int .i64 0, .int .i64 0, .int .i64 0, .int .i64 0, .int .i64 0, .int .i64 0, .int .i64 0] 29) = v20 at *
            simp only [hB20] at O20 ⊢
            have m20_0 : B17 < B20 := by have := O19.out.lt (B17, Z10) (by simp); omega
            clear hB20
            have P1 := hidden (O20.out.set (c := B17) (o := Z10) (ds := cx) (M := [(B20, Z10)]) (by simp) HLX.out (by simp; omega))
            have THP1 : v20.there B17 0 cx.toArray.size := by have := (O20.out.r (B17, Z10) (by simp)).2.1; simpa [HLX.out] using this
            refine wpAnyH_ready (rs := [6]) (by kernel_rfl) (by simp) ?_
            refine AllReadyH.cons (o := _) rfl (fun K hK => ?_) AllReadyH.nil
            rw [if_pos (by rfl)]
            refine wp_store_mid _ _ _ rfl _ _ (List.toArray cx) rfl rfl THP1 HI2X.out HOX.out ?_
            refine hK.out _ _ P1.out.l (fun hHeld2 => ?_)
            clear hK K hHeld
            have hHeld := hHeld2
            clear hHeld2
            have P2 := hidden (P1.out.set (c := B20) (o := Z10) (ds := cy) (M := [(B17, cx)]) (by simp) HLY.out (by simp; omega))
            have THP2 : (v20.setCells B17 0 cx).there B20 0 cy.toArray.size := by have := (P1.out.r (B20, Z10) (by simp)).2.1; simpa [HLY.out] using this
            refine wpAnyH_ready (rs := [7]) (by kernel_rfl) (by simp) ?_
            refine AllReadyH.cons (o := _) rfl (fun K hK => ?_) AllReadyH.nil
            rw [if_pos (by rfl)]
            refine wp_store_mid _ _ _ rfl _ _ (List.toArray cy) rfl rfl THP2 HI2Y.out HOY.out ?_
            refine hK.out _ _ P2.out.l (fun hHeld2 => ?_)
            clear hK K hHeld
            have hHeld := hHeld2
            clear hHeld2
            refine wpAnyH_done (by kernel_rfl) ?_ _
            have P3 := hidden (P2.out.sub (M := [(B20, cy), (B17, cx)]) (by simp))
            clear P1 P2 THP1 THP2
            go_wp2_with fail
            go_meet
            exact ⟨B17, B20, rfl, rfl, by omega, P3.out⟩
        refine AllReadyH.cons (o := _) rfl (fun K hK => ?_) AllReadyH.nil
        · have O21 := hidden (O18.out.new 29)
          go_simp
          refine hK.out _ _ O21.out.l (fun hHeld2 => ?_)
          clear hK K hHeld
          have hHeld := hHeld2
          clear hHeld2
          obtain ⟨B21, hB21⟩ : ∃ n, u18.heap.size = n := ⟨_, rfl⟩
          generalize u18.alloc (.cells #[.int .i64 0, .int .i64 0, .int .i64 0, .int .i64 0, .int .i64 0, .int .i64 0, .int .i64 0, .int .i64 0, .int .i64 0, .int .i64 0] 29) = v21 at *
          simp only [hB21] at O21 ⊢
          have m21_0 : B17 < B21 := by have := O18.out.lt (B17, Z10) (by simp); omega
          clear hB21
          refine wpAnyH_ready (rs := [3]) (by kernel_rfl) (by simp) ?_
          refine AllReadyH.cons (o := _) rfl (fun K hK => ?_) AllReadyH.nil
          · go_simp
            refine (OB.out _ hHeld.p).mono ?_
            rintro e u22 ⟨rfl, hb22⟩
            have O22 := hidden (O21.out.keep hb22)
            go_wp2_with fail
            refine hK.out _ _ O22.out.l (fun hHeld2 => ?_)
            clear hK K hHeld hb22
            have hHeld := hHeld2
            clear hHeld2
            have P1 := hidden (O22.out.set (c := B17) (o := Z10) (ds := cx) (M := [(B21, Z10)]) (by simp) HLX.out (by simp; omega))
            have THP1 : u22.there B17 0 cx.toArray.size := by have := (O22.out.r (B17, Z10) (by simp)).2.1; simpa [HLX.out] using this
            refine wpAnyH_ready (rs := [6]) (by kernel_rfl) (by simp) ?_
            refine AllReadyH.cons (o := _) rfl (fun K hK => ?_) AllReadyH.nil
            rw [if_pos (by rfl)]
            refine wp_store_mid _ _ _ rfl _ _ (List.toArray cx) rfl rfl THP1 HI2X.out HOX.out ?_
            refine hK.out _ _ P1.out.l (fun hHeld2 => ?_)
            clear hK K hHeld
            have hHeld := hHeld2
            clear hHeld2
            have P2 := hidden (P1.out.set (c := B21) (o := Z10) (ds := cy) (M := [(B17, cx)]) (by simp) HLY.out (by simp; omega))
            have THP2 : (u22.setCells B17 0 cx).there B21 0 cy.toArray.size := by have := (P1.out.r (B21, Z10) (by simp)).2.1; simpa [HLY.out] using this
            refine wpAnyH_ready (rs := [7]) (by kernel_rfl) (by simp) ?_
            refine AllReadyH.cons (o := _) rfl (fun K hK => ?_) AllReadyH.nil
            rw [if_pos (by rfl)]
            refine wp_store_mid _ _ _ rfl _ _ (List.toArray cy) rfl rfl THP2 HI2Y.out HOY.out ?_
            refine hK.out _ _ P2.out.l (fun hHeld2 => ?_)
            clear hK K hHeld
            have hHeld := hHeld2
            clear hHeld2
            refine wpAnyH_done (by kernel_rfl) ?_ _
            have P3 := hidden (P2.out.sub (M := [(B21, cy), (B17, cx)]) (by simp))
            clear P1 P2 THP1 THP2
            go_wp2_with fail
            go_meet
            exact ⟨B17, B21, rfl, rfl, by omega, P3.out⟩
      refine AllReadyH.cons (o := _) rfl (fun K hK => ?_) AllReadyH.nil
      · have O23 := hidden (O17.out.new 29)
        go_simp
        refine hK.out _ _ O23.out.l (fun hHeld2 => ?_)
        clear hK K hHeld
        have hHeld := hHeld2
        clear hHeld2
        obtain ⟨B23, hB23⟩ : ∃ n, v17.heap.size = n := ⟨_, rfl⟩
        generalize v17.alloc (.cells #[.int .i64 0, .int .i64 0, .int .i64 0, .int .i64 0, .int .i64 0, .int .i64 0, .int .i64 0, .int .i64 0, .int .i64 0, .int .i64 0] 29) = v23 at *
        simp only [hB23] at O23 ⊢
        have m23_0 : B17 < B23 := by have := O17.out.lt (B17, Z10) (by simp); omega
        clear hB23
        refine wpAnyH_ready (rs := [1]) (by kernel_rfl) (by simp) ?_
        refine AllReadyH.cons (o := _) rfl (fun K hK => ?_) AllReadyH.nil
        · go_simp
          refine (OA.out _ hHeld.p).mono ?_
          rintro e u24 ⟨rfl, hb24⟩
          have O24 := hidden (O23.out.keep hb24)
          go_wp2_with fail
          refine hK.out _ _ O24.out.l (fun hHeld2 => ?_)
          clear hK K hHeld hb24
          have hHeld := hHeld2
          clear hHeld2
          refine wpAnyH_ready (rs := [3]) (by kernel_rfl) (by simp) ?_
          refine AllReadyH.cons (o := _) rfl (fun K hK => ?_) AllReadyH.nil
          · go_simp
            refine (OB.out _ hHeld.p).mono ?_
            rintro e u25 ⟨rfl, hb25⟩
            have O25 := hidden (O24.out.keep hb25)
            go_wp2_with fail
            refine hK.out _ _ O25.out.l (fun hHeld2 => ?_)
            clear hK K hHeld hb25
            have hHeld := hHeld2
            clear hHeld2
            have P1 := hidden (O25.out.set (c := B17) (o := Z10) (ds := cx) (M := [(B23, Z10)]) (by simp) HLX.out (by simp; omega))
            have THP1 : u25.there B17 0 cx.toArray.size := by have := (O25.out.r (B17, Z10) (by simp)).2.1; simpa [HLX.out] using this
            refine wpAnyH_ready (rs := [6]) (by kernel_rfl) (by simp) ?_
            refine AllReadyH.cons (o := _) rfl (fun K hK => ?_) AllReadyH.nil
            rw [if_pos (by rfl)]
            refine wp_store_mid _ _ _ rfl _ _ (List.toArray cx) rfl rfl THP1 HI2X.out HOX.out ?_
            refine hK.out _ _ P1.out.l (fun hHeld2 => ?_)
            clear hK K hHeld
            have hHeld := hHeld2
            clear hHeld2
            have P2 := hidden (P1.out.set (c := B23) (o := Z10) (ds := cy) (M := [(B17, cx)]) (by simp) HLY.out (by simp; omega))
            have THP2 : (u25.setCells B17 0 cx).there B23 0 cy.toArray.size := by have := (P1.out.r (B23, Z10) (by simp)).2.1; simpa [HLY.out] using this
            refine wpAnyH_ready (rs := [7]) (by kernel_rfl) (by simp) ?_
            refine AllReadyH.cons (o := _) rfl (fun K hK => ?_) AllReadyH.nil
            rw [if_pos (by rfl)]
            refine wp_store_mid _ _ _ rfl _ _ (List.toArray cy) rfl rfl THP2 HI2Y.out HOY.out ?_
            refine hK.out _ _ P2.out.l (fun hHeld2 => ?_)
            clear hK K hHeld
            have hHeld := hHeld2
            clear hHeld2
            refine wpAnyH_done (by kernel_rfl) ?_ _
            have P3 := hidden (P2.out.sub (M := [(B23, cy), (B17, cx)]) (by simp))
            clear P1 P2 THP1 THP2
            go_wp2_with fail
            go_meet
            exact ⟨B17, B23, rfl, rfl, by omega, P3.out⟩
    refine AllReadyH.cons (o := _) rfl (fun K hK => ?_) AllReadyH.nil
    · have O26 := hidden (OW.out.new 29)
      go_simp
      refine hK.out _ _ O26.out.l (fun hHeld2 => ?_)
      clear hK K hHeld
      have hHeld := hHeld2
      clear hHeld2
      obtain ⟨B26, hB26⟩ : ∃ n, wd.heap.size = n := ⟨_, rfl⟩
      generalize wd.alloc (.cells #[.int .i64 0, .int .i64 0, .int .i64 0, .int .i64 0, .int .i64 0, .int .i64 0, .int .i64 0, .int .i64 0, .int .i64 0, .int .i64 0] 29) = v26 at *
      simp only [hB26] at O26 ⊢
      clear hB26
      refine wpAnyH_ready (rs := [1, 4]) (by kernel_rfl) (by simp) ?_
      refine AllReadyH.cons (o := _) rfl (fun K hK => ?_) ?_
      · go_simp
        refine (OA.out _ hHeld.p).mono ?_
        rintro e u27 ⟨rfl, hb27⟩
        have O27 := hidden (O26.out.keep hb27)
        go_wp2_with fail
        refine hK.out _ _ O27.out.l (fun hHeld2 => ?_)
        clear hK K hHeld hb27
        have hHeld := hHeld2
        clear hHeld2
        refine wpAnyH_ready (rs := [3, 4]) (by kernel_rfl) (by simp) ?_
        refine AllReadyH.cons (o := _) rfl (fun K hK => ?_) ?_
        · go_simp
          refine (OB.out _ hHeld.p).mono ?_
          rintro e u28 ⟨rfl, hb28⟩
          have O28 := hidden (O27.out.keep hb28)
          go_wp2_with fail
          refine hK.out _ _ O28.out.l (fun hHeld2 => ?_)
          clear hK K hHeld hb28
          have hHeld := hHeld2
          clear hHeld2
          refine wpAnyH_ready (rs := [4]) (by kernel_rfl) (by simp) ?_
          refine AllReadyH.cons (o := _) rfl (fun K hK => ?_) AllReadyH.nil
          · have O29 := hidden (O28.out.new 29)
            go_simp
            refine hK.out _ _ O29.out.l (fun hHeld2 => ?_)
            clear hK K hHeld
            have hHeld := hHeld2
            clear hHeld2
            obtain ⟨B29, hB29⟩ : ∃ n, u28.heap.size = n := ⟨_, rfl⟩
            generalize u28.alloc (.cells #[.int .i64 0, .int .i64 0, .int .i64 0, .int .i64 0, .int .i64 0, .int .i64 0, .int .i64 0, .int .i64 0, .int .i64 0, .int .i64 0] 29) = v29 at *
            simp only [hB29] at O29 ⊢
            have m29_0 : B26 < B29 := by have := O28.out.lt (B26, Z10) (by simp); omega
            clear hB29
            have P1 := hidden (O29.out.set (c := B29) (o := Z10) (ds := cx) (M := [(B26, Z10)]) (by simp) HLX.out (by simp; omega))
            have THP1 : v29.there B29 0 cx.toArray.size := by have := (O29.out.r (B29, Z10) (by simp)).2.1; simpa [HLX.out] using this
            refine wpAnyH_ready (rs := [6]) (by kernel_rfl) (by simp) ?_
            refine AllReadyH.cons (o := _) rfl (fun K hK => ?_) AllReadyH.nil
            rw [if_pos (by rfl)]
            refine wp_store_mid _ _ _ rfl _ _ (List.toArray cx) rfl rfl THP1 HI2X.out HOX.out ?_
            refine hK.out _ _ P1.out.l (fun hHeld2 => ?_)
            clear hK K hHeld
            have hHeld := hHeld2
            clear hHeld2
            have P2 := hidden (P1.out.set (c := B26) (o := Z10) (ds := cy) (M := [(B29, cx)]) (by simp) HLY.out (by simp; omega))
            have THP2 : (v29.setCells B29 0 cx).there B26 0 cy.toArray.size := by have := (P1.out.r (B26, Z10) (by simp)).2.1; simpa [HLY.out] using this
            refine wpAnyH_ready (rs := [7]) (by kernel_rfl) (by simp) ?_
            refine AllReadyH.cons (o := _) rfl (fun K hK => ?_) AllReadyH.nil
            rw [if_pos (by rfl)]
            refine wp_store_mid _ _ _ rfl _ _ (List.toArray cy) rfl rfl THP2 HI2Y.out HOY.out ?_
            refine hK.out _ _ P2.out.l (fun hHeld2 => ?_)
            clear hK K hHeld
            have hHeld := hHeld2
            clear hHeld2
            refine wpAnyH_done (by kernel_rfl) ?_ _
            have P3 := hidden (P2.out.sub (M := [(B26, cy), (B29, cx)]) (by simp))
            clear P1 P2 THP1 THP2
            go_wp2_with fail
            go_meet
            exact ⟨B29, B26, rfl, rfl, by omega, P3.out⟩
        refine AllReadyH.cons (o := _) rfl (fun K hK => ?_) AllReadyH.nil
        · have O30 := hidden (O27.out.new 29)
          go_simp
          refine hK.out _ _ O30.out.l (fun hHeld2 => ?_)
          clear hK K hHeld
          have hHeld := hHeld2
          clear hHeld2
          obtain ⟨B30, hB30⟩ : ∃ n, u27.heap.size = n := ⟨_, rfl⟩
          generalize u27.alloc (.cells #[.int .i64 0, .int .i64 0, .int .i64 0, .int .i64 0, .int .i64 0, .int .i64 0, .int .i64 0, .int .i64 0, .int .i64 0, .int .i64 0] 29) = v30 at *
          simp only [hB30] at O30 ⊢
          have m30_0 : B26 < B30 := by have := O27.out.lt (B26, Z10) (by simp); omega
          clear hB30
          refine wpAnyH_ready (rs := [3]) (by kernel_rfl) (by simp) ?_
          refine AllReadyH.cons (o := _) rfl (fun K hK => ?_) AllReadyH.nil
          · go_simp
            refine (OB.out _ hHeld.p).mono ?_
            rintro e u31 ⟨rfl, hb31⟩
            have O31 := hidden (O30.out.keep hb31)
            go_wp2_with fail
            refine hK.out _ _ O31.out.l (fun hHeld2 => ?_)
            clear hK K hHeld hb31
            have hHeld := hHeld2
            clear hHeld2
            have P1 := hidden (O31.out.set (c := B30) (o := Z10) (ds := cx) (M := [(B26, Z10)]) (by simp) HLX.out (by simp; omega))
            have THP1 : u31.there B30 0 cx.toArray.size := by have := (O31.out.r (B30, Z10) (by simp)).2.1; simpa [HLX.out] using this
            refine wpAnyH_ready (rs := [6]) (by kernel_rfl) (by simp) ?_
            refine AllReadyH.cons (o := _) rfl (fun K hK => ?_) AllReadyH.nil
            rw [if_pos (by rfl)]
            refine wp_store_mid _ _ _ rfl _ _ (List.toArray cx) rfl rfl THP1 HI2X.out HOX.out ?_
            refine hK.out _ _ P1.out.l (fun hHeld2 => ?_)
            clear hK K hHeld
            have hHeld := hHeld2
            clear hHeld2
            have P2 := hidden (P1.out.set (c := B26) (o := Z10) (ds := cy) (M := [(B30, cx)]) (by simp) HLY.out (by simp; omega))
            have THP2 : (u31.setCells B30 0 cx).there B26 0 cy.toArray.size := by have := (P1.out.r (B26, Z10) (by simp)).2.1; simpa [HLY.out] using this
            refine wpAnyH_ready (rs := [7]) (by kernel_rfl) (by simp) ?_
            refine AllReadyH.cons (o := _) rfl (fun K hK => ?_) AllReadyH.nil
            rw [if_pos (by rfl)]
            refine wp_store_mid _ _ _ rfl _ _ (List.toArray cy) rfl rfl THP2 HI2Y.out HOY.out ?_
            refine hK.out _ _ P2.out.l (fun hHeld2 => ?_)
            clear hK K hHeld
            have hHeld := hHeld2
            clear hHeld2
            refine wpAnyH_done (by kernel_rfl) ?_ _
            have P3 := hidden (P2.out.sub (M := [(B26, cy), (B30, cx)]) (by simp))
            clear P1 P2 THP1 THP2
            go_wp2_with fail
            go_meet
            exact ⟨B30, B26, rfl, rfl, by omega, P3.out⟩
      refine AllReadyH.cons (o := _) rfl (fun K hK => ?_) AllReadyH.nil
      · have O32 := hidden (O26.out.new 29)
        go_simp
        refine hK.out _ _ O32.out.l (fun hHeld2 => ?_)
        clear hK K hHeld
        have hHeld := hHeld2
        clear hHeld2
        obtain ⟨B32, hB32⟩ : ∃ n, v26.heap.size = n := ⟨_, rfl⟩
        generalize v26.alloc (.cells #[.int .i64 0, .int .i64 0, .int .i64 0, .int .i64 0, .int .i64 0, .int .i64 0, .int .i64 0, .int .i64 0, .int .i64 0, .int .i64 0] 29) = v32 at *
        simp only [hB32] at O32 ⊢
        have m32_0 : B26 < B32 := by have := O26.out.lt (B26, Z10) (by simp); omega
        clear hB32
        refine wpAnyH_ready (rs := [1]) (by kernel_rfl) (by simp) ?_
        refine AllReadyH.cons (o := _) rfl (fun K hK => ?_) AllReadyH.nil
        · go_simp
          refine (OA.out _ hHeld.p).mono ?_
          rintro e u33 ⟨rfl, hb33⟩
          have O33 := hidden (O32.out.keep hb33)
          go_wp2_with fail
          refine hK.out _ _ O33.out.l (fun hHeld2 => ?_)
          clear hK K hHeld hb33
          have hHeld := hHeld2
          clear hHeld2
          refine wpAnyH_ready (rs := [3]) (by kernel_rfl) (by simp) ?_
          refine AllReadyH.cons (o := _) rfl (fun K hK => ?_) AllReadyH.nil
          · go_simp
            refine (OB.out _ hHeld.p).mono ?_
            rintro e u34 ⟨rfl, hb34⟩
            have O34 := hidden (O33.out.keep hb34)
            go_wp2_with fail
            refine hK.out _ _ O34.out.l (fun hHeld2 => ?_)
            clear hK K hHeld hb34
            have hHeld := hHeld2
            clear hHeld2
            have P1 := hidden (O34.out.set (c := B32) (o := Z10) (ds := cx) (M := [(B26, Z10)]) (by simp) HLX.out (by simp; omega))
            have THP1 : u34.there B32 0 cx.toArray.size := by have := (O34.out.r (B32, Z10) (by simp)).2.1; simpa [HLX.out] using this
            refine wpAnyH_ready (rs := [6]) (by kernel_rfl) (by simp) ?_
            refine AllReadyH.cons (o := _) rfl (fun K hK => ?_) AllReadyH.nil
            rw [if_pos (by rfl)]
            refine wp_store_mid _ _ _ rfl _ _ (List.toArray cx) rfl rfl THP1 HI2X.out HOX.out ?_
            refine hK.out _ _ P1.out.l (fun hHeld2 => ?_)
            clear hK K hHeld
            have hHeld := hHeld2
            clear hHeld2
            have P2 := hidden (P1.out.set (c := B26) (o := Z10) (ds := cy) (M := [(B32, cx)]) (by simp) HLY.out (by simp; omega))
            have THP2 : (u34.setCells B32 0 cx).there B26 0 cy.toArray.size := by have := (P1.out.r (B26, Z10) (by simp)).2.1; simpa [HLY.out] using this
            refine wpAnyH_ready (rs := [7]) (by kernel_rfl) (by simp) ?_
            refine AllReadyH.cons (o := _) rfl (fun K hK => ?_) AllReadyH.nil
            rw [if_pos (by rfl)]
            refine wp_store_mid _ _ _ rfl _ _ (List.toArray cy) rfl rfl THP2 HI2Y.out HOY.out ?_
            refine hK.out _ _ P2.out.l (fun hHeld2 => ?_)
            clear hK K hHeld
            have hHeld := hHeld2
            clear hHeld2
            refine wpAnyH_done (by kernel_rfl) ?_ _
            have P3 := hidden (P2.out.sub (M := [(B26, cy), (B32, cx)]) (by simp))
            clear P1 P2 THP1 THP2
            go_wp2_with fail
            go_meet
            exact ⟨B32, B26, rfl, rfl, by omega, P3.out⟩
  case rest =>
  obtain ⟨X, Y, rfl, rfl, hXY, xw⟩ := hcut
  have XX := hidden xw
  clear xw S0 OA OB
  go_upto_region 2 with fail
  have OW := hidden (XX.out.keep (drew_bl wc))
  refine wp_region_held_drew (S := XW w a b False [(Y, cy), (X, cx)]) (by kernel_rfl) OW.out (fun hHeld => ?_)
  generalize wc.drew = wd at OW hHeld ⊢
  clear XX OW
  refine wpAnyH_take (i := 0) (oi := _) (v := ?_) rfl (by kernel_rfl) (by kernel_rfl) (by kernel_rfl) (fun _ _ _ h => h) (Or.inl ⟨by rfl, ?_⟩) hHeld ?_
  rotate_left 1
  · (intro w0 hSw; have d0 := hSw.l.a.c 0 (by omega); have d1 := hSw.l.a.c 1 (by omega); have d2 := hSw.l.a.c 2 (by omega); have d3 := hSw.l.a.c 3 (by omega); have d4 := hSw.l.a.c 4 (by omega); simp only [lmf] at d0 d1 d2 d3 d4; clear hSw; go_simp; try with_reducible rfl)
  refine wpAnyH_take (i := 1) (oi := _) (v := ?_) rfl (by kernel_rfl) (by kernel_rfl) (by kernel_rfl) (fun _ _ _ h => h) (Or.inl ⟨by rfl, ?_⟩) hHeld ?_
  rotate_left 1
  · (intro w0 hSw; have d0 := hSw.l.b.c 0 (by omega); have d1 := hSw.l.b.c 1 (by omega); have d2 := hSw.l.b.c 2 (by omega); have d3 := hSw.l.b.c 3 (by omega); have d4 := hSw.l.b.c 4 (by omega); simp only [lmf] at d0 d1 d2 d3 d4; clear hSw; go_simp; try with_reducible rfl)
  refine wpAnyH_take (i := 3) (oi := _) (v := _) rfl (by kernel_rfl) (by kernel_rfl) (by kernel_rfl) (fun _ _ _ h => h) (yieldsIf_load_mid (by rfl) _ _ rfl _ _ rfl _ _ (fun _ h => (h.r (X, cx) (by simp)).1) HU.out rfl HIX.out) hHeld ?_
  refine wpAnyH_take (i := 4) (oi := _) (v := _) rfl (by kernel_rfl) (by kernel_rfl) (by kernel_rfl) (fun _ _ _ h => h) (yieldsIf_load_mid (by rfl) _ _ rfl _ _ rfl _ _ (fun _ h => (h.r (Y, cy) (by simp)).1) HU.out rfl HIY.out) hHeld ?_
  refine wpAnyH_ready (rs := [2]) (by kernel_rfl) (by simp) ?_
  refine AllReadyH.cons (o := _) rfl (fun K hK => ?_) AllReadyH.nil
  go_simp
  refine (ML.out _).mono ?_
  rintro e w1 ⟨rfl, hb1⟩
  have k1 := hidden (hHeld.keep hb1)
  go_wp2_with fail
  refine hK.out _ _ k1.out (fun hHeld2 => ?_)
  clear hK K hHeld hb1
  have hHeld := hHeld2
  clear hHeld2
  refine wpAnyH_ready (rs := [5]) (by kernel_rfl) (by simp) ?_
  refine AllReadyH.cons (o := _) rfl (fun K hK => ?_) AllReadyH.nil
  go_simp
  refine (RM.out _ hHeld.l.p).mono ?_
  rintro e w2 ⟨rfl, hb2⟩
  have k2 := hidden (hHeld.keep hb2)
  go_wp2_with fail
  refine hK.out _ _ k2.out (fun hHeld2 => ?_)
  clear hK K hHeld hb2
  have hHeld := hHeld2
  clear hHeld2
  refine wpAnyH_ready (rs := [6]) (by kernel_rfl) (by simp) ?_
  refine AllReadyH.cons (o := _) rfl (fun K hK => ?_) AllReadyH.nil
  go_simp
  refine (IA.out _).mono ?_
  rintro e w3 ⟨rfl, hb3⟩
  have k3 := hidden (hHeld.keep hb3)
  go_wp2_with fail
  refine hK.out _ _ k3.out (fun hHeld2 => ?_)
  clear hK K hHeld hb3
  have hHeld := hHeld2
  clear hHeld2
  refine wpAnyH_take (i := 7) (oi := _) (v := ?_) rfl (by kernel_rfl) (by kernel_rfl) (by kernel_rfl) (fun _ _ _ h => h) (Or.inl ⟨by rfl, ?_⟩) hHeld ?_
  rotate_left 1
  · (intro w0 hSw; clear hSw; go_simp; try with_reducible rfl)
  refine wpAnyH_take (i := 8) (oi := _) (v := ?_) rfl (by kernel_rfl) (by kernel_rfl) (by kernel_rfl) (fun _ _ _ h => h) (Or.inl ⟨by rfl, ?_⟩) hHeld ?_
  rotate_left 1
  · (intro w0 hSw; have d0 := hSw.l.a.c 0 (by omega); have d1 := hSw.l.a.c 1 (by omega); have d2 := hSw.l.a.c 2 (by omega); have d3 := hSw.l.a.c 3 (by omega); have d4 := hSw.l.a.c 4 (by omega); simp only [lmf] at d0 d1 d2 d3 d4; clear hSw; go_simp; try with_reducible rfl)
  refine wpAnyH_take (i := 10) (oi := _) (v := _) rfl (by kernel_rfl) (by kernel_rfl) (by kernel_rfl) (fun _ _ _ h => h) (yieldsIf_load_mid (by rfl) _ _ rfl _ _ rfl _ _ (fun _ h => (h.r (X, cx) (by simp)).1) HU.out rfl HIX.out) hHeld ?_
  refine wpAnyH_take (i := 11) (oi := _) (v := _) rfl (by kernel_rfl) (by kernel_rfl) (by kernel_rfl) (fun _ _ _ h => h) (yieldsIf_load_mid (by rfl) _ _ rfl _ _ rfl _ _ (fun _ h => (h.r (X, cx) (by simp)).1) HU.out rfl HIX.out) hHeld ?_
  refine wpAnyH_ready (rs := [9]) (by kernel_rfl) (by simp) ?_
  refine AllReadyH.cons (o := _) rfl (fun K hK => ?_) AllReadyH.nil
  go_simp
  refine (SQ.out _).mono ?_
  rintro e w4 ⟨rfl, hb4⟩
  have k4 := hidden (hHeld.keep hb4)
  go_wp2_with fail
  refine hK.out _ _ k4.out (fun hHeld2 => ?_)
  clear hK K hHeld hb4
  have hHeld := hHeld2
  clear hHeld2
  refine wpAnyH_ready (rs := [12]) (by kernel_rfl) (by simp) ?_
  refine AllReadyH.cons (o := _) rfl (fun K hK => ?_) AllReadyH.nil
  go_simp
  refine (RQ.out _ hHeld.l.p).mono ?_
  rintro e w5 ⟨rfl, hb5⟩
  have k5 := hidden (hHeld.keep hb5)
  go_wp2_with fail
  refine hK.out _ _ k5.out (fun hHeld2 => ?_)
  clear hK K hHeld hb5
  have hHeld := hHeld2
  clear hHeld2
  refine wpAnyH_ready (rs := [13]) (by kernel_rfl) (by simp) ?_
  refine AllReadyH.cons (o := _) rfl (fun K hK => ?_) AllReadyH.nil
  go_simp
  refine (IS.out _).mono ?_
  rintro e w6 ⟨rfl, hb6⟩
  have k6 := hidden (hHeld.keep hb6)
  go_wp2_with fail
  refine hK.out _ _ k6.out (fun hHeld2 => ?_)
  clear hK K hHeld hb6
  have hHeld := hHeld2
  clear hHeld2
  refine wpAnyH_take (i := 14) (oi := _) (v := ?_) rfl (by kernel_rfl) (by kernel_rfl) (by kernel_rfl) (fun _ _ _ h => h) (Or.inl ⟨by rfl, ?_⟩) hHeld ?_
  rotate_left 1
  · (intro w0 hSw; clear hSw; go_simp; try with_reducible rfl)
  refine wpAnyH_take (i := 15) (oi := _) (v := ?_) rfl (by kernel_rfl) (by kernel_rfl) (by kernel_rfl) (fun _ _ _ h => h) (Or.inl ⟨by rfl, ?_⟩) hHeld ?_
  rotate_left 1
  · (intro w0 hSw; clear hSw; go_simp; try with_reducible rfl)
  refine wpAnyH_done (by kernel_rfl) ?_ _
  have BB := hidden hHeld.l.bel
  clear hHeld
  go_wp2_with fail
  go_ret
  exact ⟨rfl, BB.out⟩
end Go.Proofs.YtgijodenblpbgaaDoor
