import Derived.Test.YtgijodenblpbgaaDoorRon
namespace Go.Proofs.YtgijodenblpbgaaDoor
open Go.RowKit
/-- the exponent of the reference's Invert -/
def eI : Nat := (2 ^ 250 - 1) * 2 ^ 5 + 8 + 2 + 1
set_option maxRecDepth 100000 in
set_option maxHeartbeats 16000000 in
theorem rInvert_any (X : Int) (w : World) (hx : 0 ≤ X ∧ X < pF) (hP : Pm w) :
    Calls Tryd.prog 35 #[.agg (dg X).toArray] w fun e w' => e = .returned (.agg (dg (X ^ eI % pF)).toArray) ∧ Below w.heap.size w w' := by
  have D := hidden dgs
  have F2 := ((FR.start w hP).row X 29).zero 29
  simp only [World.size_alloc] at F2
  have FF := hidden F2
  have IH := hidden (fun w P => ones_any X hx 250 250 w (by omega) (by omega) (by omega) P)
  obtain ⟨B, hB⟩ : ∃ B : Nat, 2 ^ 250 - 1 = B := ⟨_, rfl⟩
  rw [hB] at IH
  have HE : Hid (eI = B * 2 ^ 5 + 8 + 2 + 1) := hidden (by unfold eI; rw [hB])
  clear hB F2 hP
  have MQ := hidden (fun (s t : Nat) w P => mul_dg (X ^ s % pF) (X ^ t % pF) w (mod_in _) (mod_in _) P)
  have M1 := hidden (fun w P => mul_dg X X w hx hx P)
  have MX := hidden (fun (s : Nat) w P => mul_dg (X ^ s % pF) X w (mod_in _) hx P)
  rw [show X * X % pF = X ^ 2 % pF by rw [Int.pow_succ, Int.pow_succ, Int.pow_zero, Int.one_mul]] at M1
  simp only [pow_mul, pow_x] at MQ MX
  have RX := hidden (FF.out.ra w.heap.size X (by simp))
  clear hx
  go_enter Tryd.func35, Tryd.ntmps35
  go_upto_region 1 with fail
  generalize ((w.alloc (.cells (dg X).toArray 29)).alloc (.cells #[.int .i64 0, .int .i64 0, .int .i64 0, .int .i64 0, .int .i64 0, .int .i64 0, .int .i64 0, .int .i64 0, .int .i64 0, .int .i64 0] 29)) = wB at FF RX ⊢
  obtain ⟨E, hE⟩ : ∃ E, X ^ B % pF = E := ⟨_, rfl⟩
  have HB := hidden hE
  rw [hE] at IH
  clear hE
  go_cut [3] (fun v wx => ∃ O : Nat, v = .pointer (some ⟨O, 0, none⟩) ∧ w.heap.size + 1 < O ∧ FR w [(O, E), (w.heap.size + 1, 0), (w.heap.size, X)] wx)
  case first =>
    go_wp2_with (first | refine wpList_load_mid rfl 29 _ rfl w.heap.size 0 (by rfl) (dg X) _ RX.out D.out.u rfl (D.out.i X) ?_)
    refine (IH.out _ FF.out.p).mono ?_
    rintro e w1 ⟨rfl, hb⟩
    have k1 := FF.out.keep hb
    have l1 := k1.lt (w.heap.size + 1, 0) (by simp)
    obtain ⟨n1, th⟩ := k1.new2 E 29
    have N1 := hidden n1
    have TH := hidden th
    have I2 := hidden (D.out.i2 E)
    have OE := hidden (D.out.o E)
    have l2 : w.heap.size + 1 < w1.heap.size := l1
    clear k1 n1 th hb l1 FF RX IH
    generalize dg E = ds at N1 TH I2 OE ⊢
    go_wp2_with (first | refine wpList_store_mid rfl 29 _ _ rfl w1.heap.size 0 ds.toArray (by rfl) (by rfl) TH.out I2.out OE.out ?_)
    go_meet
    exact ⟨_, rfl, l2, N1.out⟩
  case rest =>
  obtain ⟨O, rfl, hO, f1⟩ := hcut
  clear FF RX IH
  have FF := hidden f1
  clear f1
  go_wp2_with fail
  go_loopw [4] (fun jv w' => ∃ j : Nat, j ≤ 5 ∧ jv = .int .i64 j ∧ Hid (FR w [(O, X ^ (B * 2 ^ j) % pF), (w.heap.size + 1, 0), (w.heap.size, X)] w')) (fun j _ => 5 - (intOf j).toNat)
  case atStart => exact ⟨0, by omega, rfl, hidden (by rw [Nat.pow_zero, Nat.mul_one, HB.out]; exact FF.out)⟩
  case round =>
    clear FF
    obtain ⟨j, hj, rfl, hF⟩ := hrel
    by_cases hjm : j < 5
    · have j0 : (0 : Int) ≤ (j : Int) := by omega
      have j1 : (j : Int) < 5 := by omega
      have QQ := hidden (MQ.out (B * 2 ^ j) (B * 2 ^ j))
      rw [show B * 2 ^ j + B * 2 ^ j = B * 2 ^ (j + 1) by rw [Nat.pow_succ, ← Nat.mul_assoc]; omega] at QQ
      obtain ⟨Q, hQ⟩ : ∃ Q, X ^ (B * 2 ^ j) % pF = Q := ⟨_, rfl⟩
      obtain ⟨S, hS⟩ : ∃ S, X ^ (B * 2 ^ (j + 1)) % pF = S := ⟨_, rfl⟩
      rw [hQ, hS] at QQ
      rw [hQ] at hF
      have HS := hidden hS
      clear hQ hS
      have RQ := hidden (hF.out.ra O Q (by simp))
      have wj : IntKind.i64.wrap ((j : Int) + 1) = (j : Int) + 1 := IntWalk.i64_in _ (by omega)
      go_wp2_with (first | refine wpList_load_mid rfl 29 _ rfl O 0 (by rfl) (dg Q) _ RQ.out D.out.u rfl (D.out.i Q) ?_)
      refine (QQ.out _ hF.out.p).mono ?_
      rintro e w1 ⟨rfl, hb1⟩
      have k1 := hF.out.keep hb1
      have TH := hidden (k1.th O Q S (by simp))
      have F2 := hidden (k1.set (c := O) (o := Q) S (M := [(w.heap.size + 1, 0), (w.heap.size, X)]) (by simp) (by simp; omega))
      have I2 := hidden (D.out.i2 S)
      have OS := hidden (D.out.o S)
      clear k1 hb1 hF RQ QQ
      generalize dg S = ds at TH F2 I2 OS ⊢
      go_wp2_with (first | refine wpList_store_mid rfl 29 _ _ rfl O 0 ds.toArray (by rfl) (by rfl) TH.out I2.out OS.out ?_)
      go_roundw
      case rel => exact ⟨j + 1, by omega, by go_num, by rw [HS.out]; exact F2⟩
      case measure => simp [intOf]; omega
    · have hjm : j = 5 := by omega
      subst hjm
      have Q4 := hidden (MQ.out 2 2)
      have Q6 := hidden (MQ.out 4 2)
      have Q8 := hidden (MQ.out 6 2)
      have R8 := hidden (MQ.out (B * 2 ^ 5) 8)
      have R2 := hidden (MQ.out (B * 2 ^ 5 + 8) 2)
      have R1 := hidden (MX.out (B * 2 ^ 5 + 8 + 2))
      rw [← HE.out] at R1
      rw [show 2 + 2 = 4 from rfl] at Q4
      rw [show 4 + 2 = 6 from rfl] at Q6
      rw [show 6 + 2 = 8 from rfl] at Q8
      clear MQ MX HE HB
      obtain ⟨T, hT⟩ : ∃ T, X ^ (B * 2 ^ 5) % pF = T := ⟨_, rfl⟩
      rw [hT] at R8 hF
      obtain ⟨T8, hT8⟩ : ∃ T, X ^ (B * 2 ^ 5 + 8) % pF = T := ⟨_, rfl⟩
      rw [hT8] at R8 R2
      obtain ⟨T10, hT10⟩ : ∃ T, X ^ (B * 2 ^ 5 + 8 + 2) % pF = T := ⟨_, rfl⟩
      rw [hT10] at R2 R1
      obtain ⟨V, hV⟩ : ∃ T, X ^ eI % pF = T := ⟨_, rfl⟩
      rw [hV] at R1
      have HV := hidden hV
      obtain ⟨W2, h2⟩ : ∃ T, X ^ 2 % pF = T := ⟨_, rfl⟩
      obtain ⟨W4, h4⟩ : ∃ T, X ^ 4 % pF = T := ⟨_, rfl⟩
      obtain ⟨W6, h6⟩ : ∃ T, X ^ 6 % pF = T := ⟨_, rfl⟩
      obtain ⟨W8, h8⟩ : ∃ T, X ^ 8 % pF = T := ⟨_, rfl⟩
      rw [h2] at M1 Q4 Q6 Q8 R2
      rw [h4] at Q4 Q6
      rw [h6] at Q6 Q8
      rw [h8] at Q8 R8
      clear hT hT8 hT10 hV h2 h4 h6 h8
      go_upto_region 6 with fail
      generalize ((5 : Nat) : Int) = z5
      have RX := hidden (hF.out.ra w.heap.size X (by simp))
      go_cut [5] (fun v wx => ∃ P : Nat, v = .pointer (some ⟨P, 0, none⟩) ∧ O < P ∧ FR w [(P, W2), (O, T), (w.heap.size + 1, 0), (w.heap.size, X)] wx)
      case first =>
        go_wp2_with (first | refine wpList_load_mid rfl 29 _ rfl w.heap.size 0 (by rfl) (dg X) _ RX.out D.out.u rfl (D.out.i X) ?_)
        refine (M1.out _ hF.out.p).mono ?_
        rintro e w1 ⟨rfl, hb⟩
        have k1 := hF.out.keep hb
        have l1 := k1.lt (O, T) (by simp)
        obtain ⟨n1, th⟩ := k1.new2 W2 29
        have N1 := hidden n1
        have TH := hidden th
        have I2 := hidden (D.out.i2 W2)
        have OE := hidden (D.out.o W2)
        have l2 : O < w1.heap.size := l1
        clear k1 n1 th hb l1 hF RX
        generalize dg W2 = ds at N1 TH I2 OE ⊢
        go_wp2_with (first | refine wpList_store_mid rfl 29 _ _ rfl w1.heap.size 0 ds.toArray (by rfl) (by rfl) TH.out I2.out OE.out ?_)
        go_meet
        exact ⟨_, rfl, l2, N1.out⟩
      case rest =>
      obtain ⟨P, rfl, hPO, f1⟩ := hcut
      clear hF RX M1
      have FF := hidden f1
      clear f1
      go_upto_region 7 with fail
      go_cut [6] (fun v wx => ∃ G : Nat, v = .pointer (some ⟨G, 0, none⟩) ∧ P < G ∧ FR w [(G, W8), (P, W2), (O, T), (w.heap.size + 1, 0), (w.heap.size, X)] wx)
      case first =>
        have OW := hidden (FF.out.keep (drew_bl wc))
        refine wp_region_held_drew (S := FR w [(P, W2), (O, T), (w.heap.size + 1, 0), (w.heap.size, X)]) (by kernel_rfl) OW.out (fun hHeld => ?_)
        generalize wc.drew = wd at OW hHeld ⊢
        refine wpAnyH_take (i := 0) (oi := _) (v := _) rfl (by kernel_rfl) (by kernel_rfl) (by kernel_rfl) (fun _ _ _ h => h) (yieldsIf_load_mid (by rfl) _ _ rfl _ _ rfl _ _ (fun _ h => h.ra P W2 (by simp)) D.out.u rfl (D.out.i W2)) hHeld ?_
        refine wpAnyH_take (i := 1) (oi := _) (v := _) rfl (by kernel_rfl) (by kernel_rfl) (by kernel_rfl) (fun _ _ _ h => h) (yieldsIf_load_mid (by rfl) _ _ rfl _ _ rfl _ _ (fun _ h => h.ra P W2 (by simp)) D.out.u rfl (D.out.i W2)) hHeld ?_
        refine wpAnyH_take (i := 3) (oi := _) (v := _) rfl (by kernel_rfl) (by kernel_rfl) (by kernel_rfl) (fun _ _ _ h => h) (yieldsIf_load_mid (by rfl) _ _ rfl _ _ rfl _ _ (fun _ h => h.ra P W2 (by simp)) D.out.u rfl (D.out.i W2)) hHeld ?_
        refine wpAnyH_take (i := 5) (oi := _) (v := _) rfl (by kernel_rfl) (by kernel_rfl) (by kernel_rfl) (fun _ _ _ h => h) (yieldsIf_load_mid (by rfl) _ _ rfl _ _ rfl _ _ (fun _ h => h.ra P W2 (by simp)) D.out.u rfl (D.out.i W2)) hHeld ?_
        refine wpAnyH_ready (rs := [2, 7]) (by kernel_rfl) (by simp) ?_
        refine AllReadyH.cons (o := _) rfl (fun K hK => ?_) ?_
        · go_simp
          refine (Q4.out _ hHeld.p).mono ?_
          rintro e u1 ⟨rfl, hb1⟩
          have C1 := hidden (OW.out.keep hb1)
          go_wp2_with fail
          refine hK.out _ _ (C1.out.sub (by simp)) (fun hHeld2 => ?_)
          clear hK K hHeld hb1
          have hHeld := hHeld2
          clear hHeld2
          refine wpAnyH_ready (rs := [4, 7]) (by kernel_rfl) (by simp) ?_
          refine AllReadyH.cons (o := _) rfl (fun K hK => ?_) ?_
          · go_simp
            refine (Q6.out _ hHeld.p).mono ?_
            rintro e u2 ⟨rfl, hb2⟩
            have C2 := hidden (C1.out.keep hb2)
            go_wp2_with fail
            refine hK.out _ _ (C2.out.sub (by simp)) (fun hHeld2 => ?_)
            clear hK K hHeld hb2
            have hHeld := hHeld2
            clear hHeld2
            refine wpAnyH_ready (rs := [6, 7]) (by kernel_rfl) (by simp) ?_
            refine AllReadyH.cons (o := _) rfl (fun K hK => ?_) ?_
            · go_simp
              refine (Q8.out _ hHeld.p).mono ?_
              rintro e u3 ⟨rfl, hb3⟩
              have C3 := hidden (C2.out.keep hb3)
              go_wp2_with fail
              refine hK.out _ _ (C3.out.sub (by simp)) (fun hHeld2 => ?_)
              clear hK K hHeld hb3
              have hHeld := hHeld2
              clear hHeld2
              refine wpAnyH_ready (rs := [7]) (by kernel_rfl) (by simp) ?_
              refine AllReadyH.cons (o := _) rfl (fun K hK => ?_) AllReadyH.nil
              · have C4 := hidden (C3.out.zero 29)
                have l4 : P < u3.heap.size := C3.out.lt (P, W2) (by simp)
                go_simp
                refine hK.out _ _ (C4.out.sub (by simp)) (fun hHeld2 => ?_)
                clear hK K hHeld
                have hHeld := hHeld2
                clear hHeld2
                obtain ⟨G4, hG4⟩ : ∃ n, u3.heap.size = n := ⟨_, rfl⟩
                generalize u3.alloc (.cells #[.int .i64 0, .int .i64 0, .int .i64 0, .int .i64 0, .int .i64 0, .int .i64 0, .int .i64 0, .int .i64 0, .int .i64 0, .int .i64 0] 29) = v4 at *
                simp only [hG4] at C4 l4 ⊢
                clear hG4
                have TH := C4.out.th G4 0 W8 (by simp)
                have N3 := hidden (C4.out.set (c := G4) (o := 0) W8 (M := [(P, W2), (O, T), (w.heap.size + 1, 0), (w.heap.size, X)]) (by simp) (by simp; omega))
                refine wpAnyH_ready (rs := [8]) (by kernel_rfl) (by simp) ?_
                refine AllReadyH.cons (o := _) rfl (fun K hK => ?_) AllReadyH.nil
                rw [if_pos (by rfl)]
                refine wp_store_mid _ _ _ rfl _ _ (List.toArray (dg W8)) rfl rfl TH (D.out.i2 W8) (D.out.o W8) ?_
                refine hK.out _ _ (N3.out.sub (by simp)) (fun hHeld2 => ?_)
                clear hK K hHeld hHeld2 TH
                refine wpAnyH_done (by kernel_rfl) ?_ _
                generalize dg W8 = dT at N3 ⊢
                go_wp2_with fail
                go_meet
                exact ⟨G4, rfl, by omega, N3.out⟩
            refine AllReadyH.cons (o := _) rfl (fun K hK => ?_) AllReadyH.nil
            · have C5 := hidden (C2.out.zero 29)
              have l5 : P < u2.heap.size := C2.out.lt (P, W2) (by simp)
              go_simp
              refine hK.out _ _ (C5.out.sub (by simp)) (fun hHeld2 => ?_)
              clear hK K hHeld
              have hHeld := hHeld2
              clear hHeld2
              obtain ⟨G5, hG5⟩ : ∃ n, u2.heap.size = n := ⟨_, rfl⟩
              generalize u2.alloc (.cells #[.int .i64 0, .int .i64 0, .int .i64 0, .int .i64 0, .int .i64 0, .int .i64 0, .int .i64 0, .int .i64 0, .int .i64 0, .int .i64 0] 29) = v5 at *
              simp only [hG5] at C5 l5 ⊢
              clear hG5
              refine wpAnyH_ready (rs := [6]) (by kernel_rfl) (by simp) ?_
              refine AllReadyH.cons (o := _) rfl (fun K hK => ?_) AllReadyH.nil
              · go_simp
                refine (Q8.out _ hHeld.p).mono ?_
                rintro e u6 ⟨rfl, hb6⟩
                have C6 := hidden (C5.out.keep hb6)
                go_wp2_with fail
                refine hK.out _ _ (C6.out.sub (by simp)) (fun hHeld2 => ?_)
                clear hK K hHeld hb6
                have hHeld := hHeld2
                clear hHeld2
                have TH := C6.out.th G5 0 W8 (by simp)
                have N3 := hidden (C6.out.set (c := G5) (o := 0) W8 (M := [(P, W2), (O, T), (w.heap.size + 1, 0), (w.heap.size, X)]) (by simp) (by simp; omega))
                refine wpAnyH_ready (rs := [8]) (by kernel_rfl) (by simp) ?_
                refine AllReadyH.cons (o := _) rfl (fun K hK => ?_) AllReadyH.nil
                rw [if_pos (by rfl)]
                refine wp_store_mid _ _ _ rfl _ _ (List.toArray (dg W8)) rfl rfl TH (D.out.i2 W8) (D.out.o W8) ?_
                refine hK.out _ _ (N3.out.sub (by simp)) (fun hHeld2 => ?_)
                clear hK K hHeld hHeld2 TH
                refine wpAnyH_done (by kernel_rfl) ?_ _
                generalize dg W8 = dT at N3 ⊢
                go_wp2_with fail
                go_meet
                exact ⟨G5, rfl, by omega, N3.out⟩
          refine AllReadyH.cons (o := _) rfl (fun K hK => ?_) AllReadyH.nil
          · have C7 := hidden (C1.out.zero 29)
            have l7 : P < u1.heap.size := C1.out.lt (P, W2) (by simp)
            go_simp
            refine hK.out _ _ (C7.out.sub (by simp)) (fun hHeld2 => ?_)
            clear hK K hHeld
            have hHeld := hHeld2
            clear hHeld2
            obtain ⟨G7, hG7⟩ : ∃ n, u1.heap.size = n := ⟨_, rfl⟩
            generalize u1.alloc (.cells #[.int .i64 0, .int .i64 0, .int .i64 0, .int .i64 0, .int .i64 0, .int .i64 0, .int .i64 0, .int .i64 0, .int .i64 0, .int .i64 0] 29) = v7 at *
            simp only [hG7] at C7 l7 ⊢
            clear hG7
            refine wpAnyH_ready (rs := [4]) (by kernel_rfl) (by simp) ?_
            refine AllReadyH.cons (o := _) rfl (fun K hK => ?_) AllReadyH.nil
            · go_simp
              refine (Q6.out _ hHeld.p).mono ?_
              rintro e u8 ⟨rfl, hb8⟩
              have C8 := hidden (C7.out.keep hb8)
              go_wp2_with fail
              refine hK.out _ _ (C8.out.sub (by simp)) (fun hHeld2 => ?_)
              clear hK K hHeld hb8
              have hHeld := hHeld2
              clear hHeld2
              refine wpAnyH_ready (rs := [6]) (by kernel_rfl) (by simp) ?_
              refine AllReadyH.cons (o := _) rfl (fun K hK => ?_) AllReadyH.nil
              · go_simp
                refine (Q8.out _ hHeld.p).mono ?_
                rintro e u9 ⟨rfl, hb9⟩
                have C9 := hidden (C8.out.keep hb9)
                go_wp2_with fail
                refine hK.out _ _ (C9.out.sub (by simp)) (fun hHeld2 => ?_)
                clear hK K hHeld hb9
                have hHeld := hHeld2
                clear hHeld2
                have TH := C9.out.th G7 0 W8 (by simp)
                have N3 := hidden (C9.out.set (c := G7) (o := 0) W8 (M := [(P, W2), (O, T), (w.heap.size + 1, 0), (w.heap.size, X)]) (by simp) (by simp; omega))
                refine wpAnyH_ready (rs := [8]) (by kernel_rfl) (by simp) ?_
                refine AllReadyH.cons (o := _) rfl (fun K hK => ?_) AllReadyH.nil
                rw [if_pos (by rfl)]
                refine wp_store_mid _ _ _ rfl _ _ (List.toArray (dg W8)) rfl rfl TH (D.out.i2 W8) (D.out.o W8) ?_
                refine hK.out _ _ (N3.out.sub (by simp)) (fun hHeld2 => ?_)
                clear hK K hHeld hHeld2 TH
                refine wpAnyH_done (by kernel_rfl) ?_ _
                generalize dg W8 = dT at N3 ⊢
                go_wp2_with fail
                go_meet
                exact ⟨G7, rfl, by omega, N3.out⟩
        refine AllReadyH.cons (o := _) rfl (fun K hK => ?_) AllReadyH.nil
        · have C10 := hidden (OW.out.zero 29)
          have l10 : P < wd.heap.size := OW.out.lt (P, W2) (by simp)
          go_simp
          refine hK.out _ _ (C10.out.sub (by simp)) (fun hHeld2 => ?_)
          clear hK K hHeld
          have hHeld := hHeld2
          clear hHeld2
          obtain ⟨G10, hG10⟩ : ∃ n, wd.heap.size = n := ⟨_, rfl⟩
          generalize wd.alloc (.cells #[.int .i64 0, .int .i64 0, .int .i64 0, .int .i64 0, .int .i64 0, .int .i64 0, .int .i64 0, .int .i64 0, .int .i64 0, .int .i64 0] 29) = v10 at *
          simp only [hG10] at C10 l10 ⊢
          clear hG10
          refine wpAnyH_ready (rs := [2]) (by kernel_rfl) (by simp) ?_
          refine AllReadyH.cons (o := _) rfl (fun K hK => ?_) AllReadyH.nil
          · go_simp
            refine (Q4.out _ hHeld.p).mono ?_
            rintro e u11 ⟨rfl, hb11⟩
            have C11 := hidden (C10.out.keep hb11)
            go_wp2_with fail
            refine hK.out _ _ (C11.out.sub (by simp)) (fun hHeld2 => ?_)
            clear hK K hHeld hb11
            have hHeld := hHeld2
            clear hHeld2
            refine wpAnyH_ready (rs := [4]) (by kernel_rfl) (by simp) ?_
            refine AllReadyH.cons (o := _) rfl (fun K hK => ?_) AllReadyH.nil
            · go_simp
              refine (Q6.out _ hHeld.p).mono ?_
              rintro e u12 ⟨rfl, hb12⟩
              have C12 := hidden (C11.out.keep hb12)
              go_wp2_with fail
              refine hK.out _ _ (C12.out.sub (by simp)) (fun hHeld2 => ?_)
              clear hK K hHeld hb12
              have hHeld := hHeld2
              clear hHeld2
              refine wpAnyH_ready (rs := [6]) (by kernel_rfl) (by simp) ?_
              refine AllReadyH.cons (o := _) rfl (fun K hK => ?_) AllReadyH.nil
              · go_simp
                refine (Q8.out _ hHeld.p).mono ?_
                rintro e u13 ⟨rfl, hb13⟩
                have C13 := hidden (C12.out.keep hb13)
                go_wp2_with fail
                refine hK.out _ _ (C13.out.sub (by simp)) (fun hHeld2 => ?_)
                clear hK K hHeld hb13
                have hHeld := hHeld2
                clear hHeld2
                have TH := C13.out.th G10 0 W8 (by simp)
                have N3 := hidden (C13.out.set (c := G10) (o := 0) W8 (M := [(P, W2), (O, T), (w.heap.size + 1, 0), (w.heap.size, X)]) (by simp) (by simp; omega))
                refine wpAnyH_ready (rs := [8]) (by kernel_rfl) (by simp) ?_
                refine AllReadyH.cons (o := _) rfl (fun K hK => ?_) AllReadyH.nil
                rw [if_pos (by rfl)]
                refine wp_store_mid _ _ _ rfl _ _ (List.toArray (dg W8)) rfl rfl TH (D.out.i2 W8) (D.out.o W8) ?_
                refine hK.out _ _ (N3.out.sub (by simp)) (fun hHeld2 => ?_)
                clear hK K hHeld hHeld2 TH
                refine wpAnyH_done (by kernel_rfl) ?_ _
                generalize dg W8 = dT at N3 ⊢
                go_wp2_with fail
                go_meet
                exact ⟨G10, rfl, by omega, N3.out⟩
      case rest =>
      obtain ⟨G, rfl, hGP, f1⟩ := hcut
      clear FF Q4 Q6 Q8
      have FF := hidden f1
      clear f1
      go_upto_region 8 with fail
      have OW := hidden (FF.out.keep (drew_bl wc))
      refine wp_region_held_drew (S := FR w [(G, W8), (P, W2), (O, T), (w.heap.size, X)]) (by kernel_rfl) (OW.out.sub (by simp)) (fun hHeld => ?_)
      generalize wc.drew = wd at OW hHeld ⊢
      refine wpAnyH_take (i := 0) (oi := _) (v := _) rfl (by kernel_rfl) (by kernel_rfl) (by kernel_rfl) (fun _ _ _ h => h) (yieldsIf_load_mid (by rfl) _ _ rfl _ _ rfl _ _ (fun _ h => h.ra O T (by simp)) D.out.u rfl (D.out.i T)) hHeld ?_
      refine wpAnyH_take (i := 1) (oi := _) (v := _) rfl (by kernel_rfl) (by kernel_rfl) (by kernel_rfl) (fun _ _ _ h => h) (yieldsIf_load_mid (by rfl) _ _ rfl _ _ rfl _ _ (fun _ h => h.ra G W8 (by simp)) D.out.u rfl (D.out.i W8)) hHeld ?_
      refine wpAnyH_take (i := 3) (oi := _) (v := _) rfl (by kernel_rfl) (by kernel_rfl) (by kernel_rfl) (fun _ _ _ h => h) (yieldsIf_load_mid (by rfl) _ _ rfl _ _ rfl _ _ (fun _ h => h.ra P W2 (by simp)) D.out.u rfl (D.out.i W2)) hHeld ?_
      refine wpAnyH_take (i := 5) (oi := _) (v := _) rfl (by kernel_rfl) (by kernel_rfl) (by kernel_rfl) (fun _ _ _ h => h) (yieldsIf_load_mid (by rfl) _ _ rfl _ _ rfl _ _ (fun _ h => h.ra w.heap.size X (by simp)) D.out.u rfl (D.out.i X)) hHeld ?_
      refine wpAnyH_ready (rs := [2]) (by kernel_rfl) (by simp) ?_
      refine AllReadyH.cons (o := _) rfl (fun K hK => ?_) AllReadyH.nil
      go_simp
      refine (R8.out _ hHeld.p).mono ?_
      rintro e y0 ⟨rfl, hc0⟩
      have D0 := hidden (OW.out.keep hc0)
      go_wp2_with fail
      refine hK.out _ _ (D0.out.sub (by simp)) (fun hHeld2 => ?_)
      clear hK K hHeld hc0
      have hHeld := hHeld2
      clear hHeld2
      refine wpAnyH_ready (rs := [4]) (by kernel_rfl) (by simp) ?_
      refine AllReadyH.cons (o := _) rfl (fun K hK => ?_) AllReadyH.nil
      go_simp
      refine (R2.out _ hHeld.p).mono ?_
      rintro e y1 ⟨rfl, hc1⟩
      have D1 := hidden (D0.out.keep hc1)
      go_wp2_with fail
      refine hK.out _ _ (D1.out.sub (by simp)) (fun hHeld2 => ?_)
      clear hK K hHeld hc1
      have hHeld := hHeld2
      clear hHeld2
      refine wpAnyH_ready (rs := [6]) (by kernel_rfl) (by simp) ?_
      refine AllReadyH.cons (o := _) rfl (fun K hK => ?_) AllReadyH.nil
      go_simp
      refine (R1.out _ hHeld.p).mono ?_
      rintro e y2 ⟨rfl, hc2⟩
      have D2 := hidden (D1.out.keep hc2)
      go_wp2_with fail
      refine hK.out _ _ (D2.out.sub (by simp)) (fun hHeld2 => ?_)
      clear hK K hHeld hc2
      have hHeld := hHeld2
      clear hHeld2
      have TH := D2.out.th (w.heap.size + 1) 0 V (by simp)
      have RDH := hidden (dg_load y2 (w.heap.size + 1) V TH)
      have BL4 := hidden (below_setCellsR (w.heap.size + 1) (dg V) 0 D2.out.bel (by omega))
      have N3 := hidden (D2.out.set (c := w.heap.size + 1) (o := 0) V (M := [(G, W8), (P, W2), (O, T), (w.heap.size, X)]) (by simp) (by simp; omega))
      have EE : Hid (dg (X ^ eI % pF) = dg V) := hidden (by rw [HV.out])
      refine wpAnyH_ready (rs := [7]) (by kernel_rfl) (by simp) ?_
      refine AllReadyH.cons (o := _) rfl (fun K hK => ?_) AllReadyH.nil
      rw [if_pos (by rfl)]
      refine wp_store_mid _ _ _ rfl _ _ (List.toArray (dg V)) rfl rfl TH (D.out.i2 V) (D.out.o V) ?_
      refine hK.out _ _ (N3.out.sub (by simp)) (fun hHeld2 => ?_)
      clear hK K hHeld hHeld2 TH N3 D0 D1 D2 OW FF
      refine wpAnyH_done (by kernel_rfl) ?_ _
      generalize dg V = ds at RDH BL4 EE ⊢
      go_wp2_with fail
      have RD := RDH.out
      refine bodyPost_ret (v := .agg ds.toArray) (results_cellR Tryd.results35 _ _ _ _ _ (by rfl) RD) rfl ⟨by rw [EE.out], BL4.out⟩
end Go.Proofs.YtgijodenblpbgaaDoor
