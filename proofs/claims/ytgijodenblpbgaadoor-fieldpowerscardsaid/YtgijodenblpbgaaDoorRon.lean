import Derived.Test.YtgijodenblpbgaaDoorRpo
namespace Go.Proofs.YtgijodenblpbgaaDoor
open Go.RowKit
theorem e_two (m : Nat) : (2 ^ m - 1) * 2 ^ m + (2 ^ m - 1) = 2 ^ (2 * m) - 1 := by
  have h : 0 < 2 ^ m := Nat.pow_pos (by decide)
  rw [show 2 * m = m + m by omega, Nat.pow_add]
  generalize 2 ^ m = x at *
  obtain ⟨y, rfl⟩ : ∃ y, x = y + 1 := ⟨x - 1, by omega⟩
  rw [Nat.add_sub_cancel, Nat.mul_add, Nat.mul_one, Nat.add_mul, Nat.mul_add]
  omega
theorem e_odd (m : Nat) : 2 ^ m - 1 + (2 ^ m - 1) + 1 = 2 ^ (m + 1) - 1 := by
  have h : 0 < 2 ^ m := Nat.pow_pos (by decide)
  rw [Nat.pow_succ]
  omega
theorem pow_x (X : Int) (s : Nat) : (X ^ s % pF) * X % pF = X ^ (s + 1) % pF := by rw [Int.pow_succ, Int.mul_emod, Int.emod_emod, ← Int.mul_emod]
theorem FR.new2 {w0 : World} {L : List (Nat × Int)} {w : World} (h : FR w0 L w) (N : Int) (t : TypeId) : FR w0 ((w.heap.size, N) :: L) ((w.alloc (.cells #[.int .i64 0, .int .i64 0, .int .i64 0, .int .i64 0, .int .i64 0, .int .i64 0, .int .i64 0, .int .i64 0, .int .i64 0, .int .i64 0] t)).setCells w.heap.size 0 (dg N)) ∧ (w.alloc (.cells #[.int .i64 0, .int .i64 0, .int .i64 0, .int .i64 0, .int .i64 0, .int .i64 0, .int .i64 0, .int .i64 0, .int .i64 0, .int .i64 0] t)).there w.heap.size 0 (dg N).toArray.size := by
  have z := h.zero t
  exact ⟨z.set (c := w.heap.size) (o := 0) N (M := L) (by simp) (fun p hp => ⟨List.mem_cons_of_mem _ hp, by have := h.lt p hp; omega⟩), z.th w.heap.size 0 N (by simp)⟩
set_option maxRecDepth 100000 in
set_option maxHeartbeats 16000000 in
theorem ones_any (X : Int) (hx : 0 ≤ X ∧ X < pF) : ∀ (f n : Nat) (w : World), n ≤ f → 1 ≤ n → n ≤ 1000 → Pm w →
    Calls Tryd.prog 53 #[.agg (dg X).toArray, .int .i64 n] w fun e w' => e = .returned (.agg (dg (X ^ (2 ^ n - 1) % pF)).toArray) ∧ Below w.heap.size w w'
  | 0, n, w, h0, h1, _, _ => by omega
  | f + 1, n, w, h0, h1, h2, hP => by
    have D := hidden dgs
    have F2 := ((FR.start w hP).row X 29).zero 29
    simp only [World.size_alloc] at F2
    have FF := hidden F2
    have n0 : (0 : Int) ≤ (n : Int) := by omega
    by_cases hn : n = 1
    · subst hn
      have TH := hidden (F2.th (w.heap.size + 1) 0 X (by simp))
      have RX := hidden (F2.ra w.heap.size X (by simp))
      have eX : X ^ (2 ^ 1 - 1) % pF = X := by rw [show 2 ^ 1 - 1 = 1 from rfl, Int.pow_succ, Int.pow_zero, Int.one_mul, Int.emod_eq_of_lt hx.1 hx.2]
      rw [eX]
      have RDH := hidden (dg_load _ (w.heap.size + 1) X TH.out)
      have BL := hidden (below_setCellsR (w.heap.size + 1) (dg X) 0 F2.bel (by omega))
      have IX := hidden (D.out.i X)
      have I2 := hidden (D.out.i2 X)
      have OX := hidden (D.out.o X)
      clear F2 FF eX hP
      generalize dg X = cx at *
      go_enter Tryd.func53, Tryd.ntmps53
      go_wp2_with (first | refine wpList_load_mid rfl 29 _ rfl w.heap.size 0 (by rfl) cx _ RX.out D.out.u rfl IX.out ?_ | refine wpList_store_mid rfl 29 _ _ rfl (w.heap.size + 1) 0 cx.toArray (by rfl) (by rfl) TH.out I2.out OX.out ?_)
      have RD := RDH.out
      refine bodyPost_ret (v := .agg cx.toArray) (results_cellR Tryd.results53 _ _ _ _ _ (by rfl) RD) rfl ⟨rfl, BL.out⟩
    · obtain ⟨m, hm⟩ : ∃ m, n / 2 = m := ⟨_, rfl⟩
      have IH := hidden (fun w P => ones_any X hx f m w (by omega) (by omega) (by omega) P)
      have HX := hidden hx
      have hnb : ((n : Int) == 1) = false := by simp; omega
      have t1 : (n : Int).tdiv 2 = (m : Int) := by rw [Int.tdiv_eq_ediv_of_nonneg n0]; omega
      have wm : IntKind.i64.wrap (m : Int) = (m : Int) := IntWalk.i64_in _ (by omega)
      have m0 : (0 : Int) ≤ (m : Int) := by omega
      have RX := hidden (F2.ra w.heap.size X (by simp))
      have HM := hidden hm
      clear F2 hP hx
      go_enter Tryd.func53, Tryd.ntmps53
      go_upto_region 3 with fail
      generalize ((w.alloc (.cells (dg X).toArray 29)).alloc (.cells #[.int .i64 0, .int .i64 0, .int .i64 0, .int .i64 0, .int .i64 0, .int .i64 0, .int .i64 0, .int .i64 0, .int .i64 0, .int .i64 0] 29)) = wB at FF RX ⊢
      obtain ⟨E, hE⟩ : ∃ E, X ^ (2 ^ m - 1) % pF = E := ⟨_, rfl⟩
      rw [hE] at IH
      have HE := hidden hE
      clear hE
      go_cut [5] (fun v wx => ∃ H : Nat, v = .pointer (some ⟨H, 0, none⟩) ∧ w.heap.size + 1 < H ∧ FR w [(H, E), (w.heap.size + 1, 0), (w.heap.size, X)] wx)
      case first =>
        go_wp2_with (first | refine wpList_load_mid rfl 29 _ rfl w.heap.size 0 (by rfl) (dg X) _ RX.out D.out.u rfl (D.out.i X) ?_)
        refine (IH.out _ FF.out.p).mono ?_
        rintro e w1 ⟨rfl, hb⟩
        have k1 := FF.out.keep hb
        have l1 := k1.lt (w.heap.size + 1, 0) (by simp)
        obtain ⟨n1, th⟩ := k1.new2 E 29
        have N1 := hidden n1
        have TH := hidden th
        have I2 := hidden (D.out.i2 E)
        have OE := hidden (D.out.o E)
        have l2 : w.heap.size + 1 < w1.heap.size := l1
        clear k1 n1 th hb l1 FF RX IH
        generalize dg E = ds at N1 TH I2 OE ⊢
        go_wp2_with (first | refine wpList_store_mid rfl 29 _ _ rfl w1.heap.size 0 ds.toArray (by rfl) (by rfl) TH.out I2.out OE.out ?_)
        go_meet
        exact ⟨_, rfl, l2, N1.out⟩
      case rest =>
      obtain ⟨H, rfl, hH, f1⟩ := hcut
      clear FF RX IH hnb
      have FF := hidden f1
      clear f1
      go_upto_region 4 with fail
      go_cut [6] (fun v wx => ∃ O : Nat, v = .pointer (some ⟨O, 0, none⟩) ∧ H < O ∧ FR w [(O, E), (H, E), (w.heap.size + 1, 0), (w.heap.size, X)] wx)
      case first =>
        have RH := hidden (FF.out.ra H E (by simp))
        have l1 := FF.out.lt (H, E) (by simp)
        obtain ⟨n1, th⟩ := FF.out.new2 E 29
        have N1 := hidden n1
        have TH := hidden th
        have I1 := hidden (D.out.i E)
        have I2 := hidden (D.out.i2 E)
        have OE := hidden (D.out.o E)
        have l2 : H < wc.heap.size := l1
        clear n1 th l1 FF
        generalize dg E = ds at N1 TH I1 I2 OE RH ⊢
        go_wp2_with (first | refine wpList_load_mid rfl 29 _ rfl H 0 (by rfl) ds _ RH.out D.out.u rfl I1.out ?_ | refine wpList_store_mid rfl 29 _ _ rfl wc.heap.size 0 ds.toArray (by rfl) (by rfl) TH.out I2.out OE.out ?_)
        go_meet
        exact ⟨_, rfl, l2, N1.out⟩
      case rest =>
      obtain ⟨O, rfl, hO, f1⟩ := hcut
      clear FF
      have FF := hidden f1
      clear f1
      go_wp2_with fail
      go_loopw [7] (fun jv w' => ∃ j : Nat, j ≤ m ∧ jv = .int .i64 j ∧ Hid (FR w [(O, X ^ ((2 ^ m - 1) * 2 ^ j) % pF), (H, E), (w.heap.size + 1, 0), (w.heap.size, X)] w')) (fun j _ => m - (intOf j).toNat)
      case atStart => exact ⟨0, by omega, rfl, hidden (by rw [Nat.pow_zero, Nat.mul_one, HE.out]; exact FF.out)⟩
      case round =>
        clear FF
        obtain ⟨j, hj, rfl, hF⟩ := hrel
        by_cases hjm : j < m
        · have j0 : (0 : Int) ≤ (j : Int) := by omega
          have j1 : (j : Int) < (m : Int) := by omega
          have QQ := hidden (fun w P => mul_dg (X ^ ((2 ^ m - 1) * 2 ^ j) % pF) (X ^ ((2 ^ m - 1) * 2 ^ j) % pF) w (mod_in _) (mod_in _) P)
          rw [pow_mul, show (2 ^ m - 1) * 2 ^ j + (2 ^ m - 1) * 2 ^ j = (2 ^ m - 1) * 2 ^ (j + 1) by rw [Nat.pow_succ, ← Nat.mul_assoc]; omega] at QQ
          obtain ⟨Q, hQ⟩ : ∃ Q, X ^ ((2 ^ m - 1) * 2 ^ j) % pF = Q := ⟨_, rfl⟩
          obtain ⟨S, hS⟩ : ∃ S, X ^ ((2 ^ m - 1) * 2 ^ (j + 1)) % pF = S := ⟨_, rfl⟩
          rw [hQ, hS] at QQ
          rw [hQ] at hF
          have HS := hidden hS
          clear hQ hS
          have RQ := hidden (hF.out.ra O Q (by simp))
          have wj : IntKind.i64.wrap ((j : Int) + 1) = (j : Int) + 1 := IntWalk.i64_in _ (by omega)
          go_wp2_with (first | refine wpList_load_mid rfl 29 _ rfl O 0 (by rfl) (dg Q) _ RQ.out D.out.u rfl (D.out.i Q) ?_)
          refine (QQ.out _ hF.out.p).mono ?_
          rintro e w1 ⟨rfl, hb1⟩
          have k1 := hF.out.keep hb1
          have TH := hidden (k1.th O Q S (by simp))
          have F2 := hidden (k1.set (c := O) (o := Q) S (M := [(H, E), (w.heap.size + 1, 0), (w.heap.size, X)]) (by simp) (by simp; omega))
          have I2 := hidden (D.out.i2 S)
          have OS := hidden (D.out.o S)
          clear k1 hb1 hF RQ QQ
          generalize dg S = ds at TH F2 I2 OS ⊢
          go_wp2_with (first | refine wpList_store_mid rfl 29 _ _ rfl O 0 ds.toArray (by rfl) (by rfl) TH.out I2.out OS.out ?_)
          go_roundw
          case rel => exact ⟨j + 1, by omega, by go_num, by rw [HS.out]; exact F2⟩
          case measure => simp [intOf]; omega
        · have hjm : j = m := by omega
          subst hjm
          have lq : ¬ (j : Int) < (j : Int) := by omega
          have QQ := hidden (fun w P => mul_dg (X ^ ((2 ^ j - 1) * 2 ^ j) % pF) E w (mod_in _) (by rw [← HE.out]; exact mod_in _) P)
          rw [← HE.out, pow_mul, e_two, HE.out] at QQ
          have MQ := hidden (fun w P => mul_dg (X ^ (2 ^ (2 * j) - 1) % pF) (X ^ (2 ^ (2 * j) - 1) % pF) w (mod_in _) (mod_in _) P)
          have MX := hidden (fun w P => mul_dg (X ^ (2 ^ (2 * j) - 1 + (2 ^ (2 * j) - 1)) % pF) X w (mod_in _) HX.out P)
          rw [pow_mul] at MQ
          rw [pow_x, e_odd] at MX
          obtain ⟨Q, hQ⟩ : ∃ Q, X ^ ((2 ^ j - 1) * 2 ^ j) % pF = Q := ⟨_, rfl⟩
          obtain ⟨S, hS⟩ : ∃ S, X ^ (2 ^ (2 * j) - 1) % pF = S := ⟨_, rfl⟩
          obtain ⟨U, hU⟩ : ∃ U, X ^ (2 ^ (2 * j) - 1 + (2 ^ (2 * j) - 1)) % pF = U := ⟨_, rfl⟩
          obtain ⟨T, hT⟩ : ∃ T, X ^ (2 ^ (2 * j + 1) - 1) % pF = T := ⟨_, rfl⟩
          rw [hQ, hS] at QQ
          rw [hS, hU] at MQ
          rw [hU, hT] at MX
          rw [hQ] at hF
          have EV : Hid (n = 2 * j → X ^ (2 ^ n - 1) % pF = S) := hidden (fun h => by rw [h, hS])
          have OD : Hid (n = 2 * j + 1 → X ^ (2 ^ n - 1) % pF = T) := hidden (fun h => by rw [h, hT])
          clear hQ hS hU hT
          have RQ := hidden (hF.out.ra O Q (by simp))
          have RH := hidden (hF.out.ra H E (by simp))
          go_wp2_with (first | refine wpList_load_mid rfl 29 _ rfl O 0 (by rfl) (dg Q) _ RQ.out D.out.u rfl (D.out.i Q) ?_ | refine wpList_load_mid rfl 29 _ rfl H 0 (by rfl) (dg E) _ RH.out D.out.u rfl (D.out.i E) ?_)
          refine (QQ.out _ hF.out.p).mono ?_
          rintro e w1 ⟨rfl, hb1⟩
          have k1 := hF.out.keep hb1
          have TH := hidden (k1.th O Q S (by simp))
          have F2 := hidden (k1.set (c := O) (o := Q) S (M := [(w.heap.size + 1, 0), (w.heap.size, X)]) (by simp) (by simp; omega))
          have I2 := hidden (D.out.i2 S)
          have OS := hidden (D.out.o S)
          clear k1 hb1 hF RQ QQ RH
          go_upto_region 10 with (first | refine wpList_store_mid rfl 29 _ _ rfl O 0 (dg S).toArray (by rfl) (by rfl) TH.out I2.out OS.out ?_)
          simp only [Act.put]
          generalize w1.setCells O 0 (dg S) = w2 at F2 ⊢
          clear TH I2 OS
          have hnj := HM.out
          by_cases hpar : n % 2 = 1
          · have t2 : (n : Int).tmod 2 = 1 := by rw [Int.tmod_eq_emod_of_nonneg n0]; omega
            have OT := hidden (OD.out (by omega))
            clear EV OD HM hnj
            go_upto_region 11 with fail
            go_cut [6] (fun v wx => v = .pointer (some ⟨O, 0, none⟩) ∧ FR w [(O, T), (w.heap.size + 1, 0), (w.heap.size, X)] wx)
            case first =>
              have OW := hidden (F2.out.keep (drew_bl w2))
              refine wp_region_held_drew (S := FR w [(w.heap.size + 1, 0), (w.heap.size, X)]) (by kernel_rfl) (OW.out.sub (by simp)) (fun hHeld => ?_)
              generalize w2.drew = wd at OW hHeld ⊢
              have RO := hidden (OW.out.ra O S (by simp))
              refine wpAnyH_take (i := 3) (oi := _) (v := _) rfl (by kernel_rfl) (by kernel_rfl) (by kernel_rfl) (fun _ _ _ h => h) (yieldsIf_load_mid (by rfl) _ _ rfl _ _ rfl _ _ (fun _ h => h.ra w.heap.size X (by simp)) D.out.u rfl (D.out.i X)) hHeld ?_
              refine wpAnyH_ready (rs := [0, 1]) (by kernel_rfl) (by simp) ?_
              refine AllReadyH.cons (o := _) rfl (fun K hK => ?_) ?_
              · rw [if_pos (by rfl)]
                refine wp_load_mid _ _ rfl _ _ rfl _ _ RO.out D.out.u rfl (D.out.i S) ?_
                refine hK.out _ _ hHeld (fun hHeld2 => ?_)
                clear hK K hHeld2
                refine wpAnyH_ready (rs := [1]) (by kernel_rfl) (by simp) ?_
                refine AllReadyH.cons (o := _) rfl (fun K hK => ?_) AllReadyH.nil
                rw [if_pos (by rfl)]
                refine wp_load_mid _ _ rfl _ _ rfl _ _ RO.out D.out.u rfl (D.out.i S) ?_
                refine hK.out _ _ hHeld (fun hHeld2 => ?_)
                clear hK K hHeld2
                refine wpAnyH_ready (rs := [2]) (by kernel_rfl) (by simp) ?_
                refine AllReadyH.cons (o := _) rfl (fun K hK => ?_) AllReadyH.nil
                go_simp
                refine (MQ.out _ hHeld.p).mono ?_
                rintro e u0 ⟨rfl, hb0⟩
                have C0 := hidden (OW.out.keep hb0)
                go_wp2_with fail
                refine hK.out _ _ (C0.out.sub (by simp)) (fun hHeld2 => ?_)
                clear hK K hHeld hb0
                have hHeld := hHeld2
                clear hHeld2
                refine wpAnyH_ready (rs := [4]) (by kernel_rfl) (by simp) ?_
                refine AllReadyH.cons (o := _) rfl (fun K hK => ?_) AllReadyH.nil
                go_simp
                refine (MX.out _ hHeld.p).mono ?_
                rintro e u1 ⟨rfl, hb1⟩
                have C1 := hidden (C0.out.keep hb1)
                go_wp2_with fail
                refine hK.out _ _ (C1.out.sub (by simp)) (fun hHeld2 => ?_)
                clear hK K hHeld hb1
                have hHeld := hHeld2
                clear hHeld2
                have TH := C1.out.th O S T (by simp)
                have N3 := hidden (C1.out.set (c := O) (o := S) T (M := [(w.heap.size + 1, 0), (w.heap.size, X)]) (by simp) (by simp; omega))
                refine wpAnyH_ready (rs := [5]) (by kernel_rfl) (by simp) ?_
                refine AllReadyH.cons (o := _) rfl (fun K hK => ?_) AllReadyH.nil
                rw [if_pos (by rfl)]
                refine wp_store_mid _ _ _ rfl _ _ (List.toArray (dg T)) rfl rfl TH (D.out.i2 T) (D.out.o T) ?_
                refine hK.out _ _ (N3.out.sub (by simp)) (fun hHeld2 => ?_)
                clear hK K hHeld hHeld2 OW RO C0 C1 TH
                refine wpAnyH_done (by kernel_rfl) ?_ _
                generalize dg T = dT at N3 ⊢
                go_wp2_with fail
                go_meet
                exact ⟨rfl, N3.out⟩
              refine AllReadyH.cons (o := _) rfl (fun K hK => ?_) AllReadyH.nil
              · rw [if_pos (by rfl)]
                refine wp_load_mid _ _ rfl _ _ rfl _ _ RO.out D.out.u rfl (D.out.i S) ?_
                refine hK.out _ _ hHeld (fun hHeld2 => ?_)
                clear hK K hHeld2
                refine wpAnyH_ready (rs := [0]) (by kernel_rfl) (by simp) ?_
                refine AllReadyH.cons (o := _) rfl (fun K hK => ?_) AllReadyH.nil
                rw [if_pos (by rfl)]
                refine wp_load_mid _ _ rfl _ _ rfl _ _ RO.out D.out.u rfl (D.out.i S) ?_
                refine hK.out _ _ hHeld (fun hHeld2 => ?_)
                clear hK K hHeld2
                refine wpAnyH_ready (rs := [2]) (by kernel_rfl) (by simp) ?_
                refine AllReadyH.cons (o := _) rfl (fun K hK => ?_) AllReadyH.nil
                go_simp
                refine (MQ.out _ hHeld.p).mono ?_
                rintro e u0 ⟨rfl, hb0⟩
                have C0 := hidden (OW.out.keep hb0)
                go_wp2_with fail
                refine hK.out _ _ (C0.out.sub (by simp)) (fun hHeld2 => ?_)
                clear hK K hHeld hb0
                have hHeld := hHeld2
                clear hHeld2
                refine wpAnyH_ready (rs := [4]) (by kernel_rfl) (by simp) ?_
                refine AllReadyH.cons (o := _) rfl (fun K hK => ?_) AllReadyH.nil
                go_simp
                refine (MX.out _ hHeld.p).mono ?_
                rintro e u1 ⟨rfl, hb1⟩
                have C1 := hidden (C0.out.keep hb1)
                go_wp2_with fail
                refine hK.out _ _ (C1.out.sub (by simp)) (fun hHeld2 => ?_)
                clear hK K hHeld hb1
                have hHeld := hHeld2
                clear hHeld2
                have TH := C1.out.th O S T (by simp)
                have N3 := hidden (C1.out.set (c := O) (o := S) T (M := [(w.heap.size + 1, 0), (w.heap.size, X)]) (by simp) (by simp; omega))
                refine wpAnyH_ready (rs := [5]) (by kernel_rfl) (by simp) ?_
                refine AllReadyH.cons (o := _) rfl (fun K hK => ?_) AllReadyH.nil
                rw [if_pos (by rfl)]
                refine wp_store_mid _ _ _ rfl _ _ (List.toArray (dg T)) rfl rfl TH (D.out.i2 T) (D.out.o T) ?_
                refine hK.out _ _ (N3.out.sub (by simp)) (fun hHeld2 => ?_)
                clear hK K hHeld hHeld2 OW RO C0 C1 TH
                refine wpAnyH_done (by kernel_rfl) ?_ _
                generalize dg T = dT at N3 ⊢
                go_wp2_with fail
                go_meet
                exact ⟨rfl, N3.out⟩
            case rest =>
            obtain ⟨rfl, f3⟩ := hcut
            have F3 := hidden f3
            clear f3 F2 MQ MX
            have RT := hidden (F3.out.ra O T (by simp))
            have TH := hidden (F3.out.th (w.heap.size + 1) 0 T (by simp))
            have RDH := hidden (dg_load wc (w.heap.size + 1) T TH.out)
            have BL4 := hidden (below_setCellsR (w.heap.size + 1) (dg T) 0 F3.out.bel (by omega))
            have I1 := hidden (D.out.i T)
            have I2 := hidden (D.out.i2 T)
            have O1 := hidden (D.out.o T)
            have EE : Hid (dg (X ^ (2 ^ n - 1) % pF) = dg T) := hidden (by rw [OT.out])
            clear F3 OT
            generalize dg T = ds at RT TH RDH BL4 I1 I2 O1 EE ⊢
            go_wp2_with (first | refine wpList_load_mid rfl 29 _ rfl O 0 (by rfl) ds _ RT.out D.out.u rfl I1.out ?_ | refine wpList_store_mid rfl 29 _ _ rfl (w.heap.size + 1) 0 ds.toArray (by rfl) (by rfl) TH.out I2.out O1.out ?_)
            have RD := RDH.out
            refine bodyPost_ret (v := .agg ds.toArray) (results_cellR Tryd.results53 _ _ _ _ _ (by rfl) RD) rfl ⟨by rw [EE.out], BL4.out⟩
          · have t2 : (n : Int).tmod 2 = 0 := by rw [Int.tmod_eq_emod_of_nonneg n0]; omega
            have OT := hidden (EV.out (by omega))
            clear EV OD HM hnj MQ MX
            have F3 := hidden F2.out
            clear F2
            generalize w2 = wc at F3 ⊢
            have RT := hidden (F3.out.ra O S (by simp))
            have TH := hidden (F3.out.th (w.heap.size + 1) 0 S (by simp))
            have RDH := hidden (dg_load wc (w.heap.size + 1) S TH.out)
            have BL4 := hidden (below_setCellsR (w.heap.size + 1) (dg S) 0 F3.out.bel (by omega))
            have I1 := hidden (D.out.i S)
            have I2 := hidden (D.out.i2 S)
            have O1 := hidden (D.out.o S)
            have EE : Hid (dg (X ^ (2 ^ n - 1) % pF) = dg S) := hidden (by rw [OT.out])
            clear F3 OT
            generalize dg S = ds at RT TH RDH BL4 I1 I2 O1 EE ⊢
            go_wp2_with (first | refine wpList_load_mid rfl 29 _ rfl O 0 (by rfl) ds _ RT.out D.out.u rfl I1.out ?_ | refine wpList_store_mid rfl 29 _ _ rfl (w.heap.size + 1) 0 ds.toArray (by rfl) (by rfl) TH.out I2.out O1.out ?_)
            have RD := RDH.out
            refine bodyPost_ret (v := .agg ds.toArray) (results_cellR Tryd.results53 _ _ _ _ _ (by rfl) RD) rfl ⟨by rw [EE.out], BL4.out⟩
end Go.Proofs.YtgijodenblpbgaaDoor
