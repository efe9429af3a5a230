import Derived.Test.YtnbhkhhghhfjoaaDoorCmq
namespace Go.Proofs.YtnbhkhhghhfjoaaDoor
open Go.RowKit
set_option linter.unusedVariables false
set_option linter.unusedSimpArgs false
open Cm (Wr Tm co bf Ls lf ins Eqm)
namespace Ci
set_option maxRecDepth 100000
set_option maxHeartbeats 4000000
theorem full_any (a b : Int) (w : World) (hT : Tb w) (a0 : -9223372036854775808 ≤ a) (a1 : a ≤ 9223372036854775807) (b0 : -9223372036854775808 ≤ b) (b1 : b ≤ 9223372036854775807) : Calls Tryd.prog 3 #[.int .i64 a, .int .i64 b] w fun e w' => e = .returned (.bool true) ∧ Below w.heap.size w w' := by
  have CA := hidden (around_any 17 a w (.inl rfl) a0 a1)
  have CB := hidden (fun y => around_any 3 b y (.inr rfl) b0 b1)
  have HT := hidden hT
  clear a0 a1 b0 b1 hT
  have eqq : ∀ (q : Wr) (y : World), (Op.equalIn 10000 29 (.agg #[.int .i64 q.1, .int .i64 q.2]) (.agg #[.int .i64 q.1, .int .i64 q.2])).run Tryd.prog y = .ok true y := fun q y => by
    have := eqW q q y
    unfold wv at this
    rw [this]
    simp
  go_enter Tryd.func3, Tryd.ntmps3
  go_upto_region 2 with (go_at_call 4; refine CA.out.mono ?_; rintro e w1 ⟨m, rfl, hm, rfl⟩; have HM := hidden hm; clear hm)
  clear CA
  have C1 := hidden (New_any m w1 HT.out (by have := HM.out; omega))
  go_upto_region 3 with (go_at_call 5; refine C1.out.mono ?_; rintro e w2 ⟨rfl, hn⟩; have N1 := hidden (ty_new (Below.refl _ _) hn); clear hn)
  clear C1
  generalize hs : w1.heap.size = s at *
  have HSS := hidden hs
  clear hs
  have CG := hidden (ty_gates N1.out)
  have CR := hidden (ty_requires N1.out)
  go_upto_region 5 with (first | (go_at_call 6; refine CG.out.mono ?_; rintro e w3 ⟨rfl, rfl⟩) | (go_at_call 7; refine CR.out.mono ?_; rintro e w3 ⟨rfl, rfl⟩))
  clear CG CR
  go_loopw [8] (fun _ w' => ∃ K : Nat, m ≤ K ∧ K ≤ 1024 ∧ Hid (Ty w1 s m K m w')) (fun _ w' => 1024 - gOf w' s)
  case atStart => exact ⟨m, Nat.le_refl _, by have := HM.out; omega, N1⟩
  case round =>
    clear N1
    obtain ⟨K, hmK, hK, hN⟩ := hrel
    have CG := hidden (ty_gates hN.out)
    by_cases hlt : K < 1024
    · have l0 : (K : Int) < 1024 := by omega
      have w9 : IntKind.i64.wrap ((K : Int) + 1) = (K : Int) + 1 := IntWalk.i64_in _ (by omega)
      have C2 := ty_gate hN.out hlt
      simp only [tup] at C2
      replace C2 := hidden C2
      have eq2 := fun y => eqq (2, (K : Int)) y
      simp only at eq2
      have GK := hidden (ty_g hN.out)
      go_upto_region 7 with (go_at_call 6; refine CG.out.mono ?_; rintro e w3 ⟨rfl, rfl⟩)
      clear CG
      go_upto_region 8 with (go_at_call 8; refine C2.out.mono ?_; rintro e w4 ⟨rfl, hn⟩; have N2 := hidden hn; clear hn)
      clear C2
      have N3 := hidden (N2.out.keep (bl_alloc3 w4 (.cells #[.int .i64 2, .int .i64 (K : Int)] 29) (.cells #[.int .i64 3, .int .i64 (K : Int)] 29) (.cells #[.int .i64 4, .int .i64 (K : Int)] 29)))
      have CG := hidden (ty_gates N3.out)
      have ek : ((K + 1 : Nat) : Int) = (K : Int) + 1 := by omega
      rw [ek] at CG
      clear ek
      go_wp2_with (first | (go_at_call 6; refine CG.out.mono ?_; rintro e w5 ⟨rfl, rfl⟩))
      go_roundw
      case rel => exact ⟨K + 1, by omega, by omega, N3⟩
      case measure =>
        rw [ty_g N3.out, GK.out]
        omega
    · have lq : ¬ (K : Int) < 1024 := by omega
      obtain rfl : K = 1024 := by omega
      have CO1 := hidden (fun y => Of_any (4, 1023) y)
      simp only at CO1
      go_upto_region 11 with (first | (go_at_call 6; refine CG.out.mono ?_; rintro e w3 ⟨rfl, rfl⟩) | (go_at_call 9; refine (CO1.out _).mono ?_; rintro e w4 ⟨vl, rfl, hq⟩; have Q4 := hidden hq; clear hq))
      clear CG CO1
      have N4 := hidden (hN.out.keep Q4.out.2.1)
      obtain ⟨Pl, cl, el, _, _⟩ := own_shT Q4.out.1
      subst el
      have L4 : Hid (Lt w4 Pl 1 (ft [(((4 : Int), (1023 : Int)), 1)])) := hidden (own_lts (X := [((4, 1023), 1)]) Q4.out.1)
      have C2 := ty_gatefull N4.out (by omega)
      simp only [tup] at C2
      replace C2 := hidden C2
      have eq0 := fun y => eqq (0, 0) y
      simp only at eq0
      go_upto_region 12 with (go_at_call 8; refine C2.out.mono ?_; rintro e w5 ⟨rfl, hb⟩; have B5 := hidden hb; clear hb)
      clear C2
      have B6 := hidden (bl_trans B5.out (bl_alloc3 w5 (.cells #[.int .i64 0, .int .i64 0] 29) (.cells #[.int .i64 0, .int .i64 0] 29) (.cells #[.int .i64 0, .int .i64 0] 29)))
      have y0 : (((w5.alloc (.cells #[.int .i64 0, .int .i64 0] 29)).alloc (.cells #[.int .i64 0, .int .i64 0] 29)).alloc (.cells #[.int .i64 0, .int .i64 0] 29)).cell? ⟨w5.heap.size, 0, none⟩ = some (.int .i64 0) := by go_simp
      have y1 : (((w5.alloc (.cells #[.int .i64 0, .int .i64 0] 29)).alloc (.cells #[.int .i64 0, .int .i64 0] 29)).alloc (.cells #[.int .i64 0, .int .i64 0] 29)).cell? ⟨w5.heap.size, 1, none⟩ = some (.int .i64 0) := by go_simp
      generalize ((w5.alloc (.cells #[.int .i64 0, .int .i64 0] 29)).alloc (.cells #[.int .i64 0, .int .i64 0] 29)).alloc (.cells #[.int .i64 0, .int .i64 0] 29) = w6 at *
      have N6 := hidden (N4.out.keep B6.out)
      have C3 := ty_mulfull HT.out N6.out Pl 1 cl (ft [((4, 1023), 1)]) (by omega) (fun _ _ => lst_ok _) (L4.out.keep B6.out) (by rw [nm_of]; exact hs_last m) (.inr (by omega))
      simp only [tup] at C3
      replace C3 := hidden C3
      clear N4 B5 B6 L4 Q4
      generalize w5.heap.size = tb5 at *
      go_upto_region 13 with (go_at_call 10; refine C3.out.mono ?_; rintro e w7 ⟨rfl, hb⟩; have B7 := hidden hb; have z0 := cell_keep y0 hb; have z1 := cell_keep y1 hb; clear hb y0 y1)
      clear C3
      have N7 := hidden (N6.out.keep (bl_trans B7.out (bl_alloc3 w7 (.cells #[.int .i64 0, .int .i64 0] 29) (.cells #[.int .i64 0, .int .i64 0] 29) (.cells #[.int .i64 0, .int .i64 0] 29))))
      have z00 := cell_keep z0 (bl_alloc3 w7 (.cells #[.int .i64 0, .int .i64 0] 29) (.cells #[.int .i64 0, .int .i64 0] 29) (.cells #[.int .i64 0, .int .i64 0] 29))
      have z11 := cell_keep z1 (bl_alloc3 w7 (.cells #[.int .i64 0, .int .i64 0] 29) (.cells #[.int .i64 0, .int .i64 0] 29) (.cells #[.int .i64 0, .int .i64 0] 29))
      clear N6 B7 z0 z1
      generalize ((w7.alloc (.cells #[.int .i64 0, .int .i64 0] 29)).alloc (.cells #[.int .i64 0, .int .i64 0] 29)).alloc (.cells #[.int .i64 0, .int .i64 0] 29) = w8 at *
      have CG := hidden (ty_gates N7.out)
      have CR := hidden (ty_requires N7.out)
      go_upto_region 15 with (first | (go_at_call 6; refine CG.out.mono ?_; rintro e w9 ⟨rfl, rfl⟩) | (go_at_call 7; refine CR.out.mono ?_; rintro e w9 ⟨rfl, rfl⟩))
      clear CG CR z00 z11 eq0 eqq hN lq
      have C1 := hidden (New_any m w9 (HT.out.keep N7.out.bl) (by have := HM.out; omega))
      have BL8 := hidden N7.out.bl
      clear N7
      go_upto_region 16 with (go_at_call 5; refine C1.out.mono ?_; rintro e wA ⟨rfl, hn⟩; have N9 := hidden (ty_new BL8.out hn); clear hn)
      clear C1
      generalize w9.heap.size = t at *
      clear BL8
      go_upto_region 17 with (go_at_call 4; refine (CB.out _).mono ?_; rintro e w10 ⟨fr, rfl, hf, rfl⟩; have HF := hidden hf; clear hf)
      clear CB
      have w96 : IntKind.i64.wrap (4096 - (fr : Int)) = 4096 - (fr : Int) := IntWalk.i64_in _ (by have := HF.out; omega)
      go_loopw [131] (fun _ w' => ∃ n : Nat, n ≤ 4096 - fr ∧ Hid (Ty w1 t m m n w')) (fun _ w' => 4096 - rOf w' t)
      case atStart => exact ⟨m, by have := HM.out; have := HF.out; omega, N9⟩
      case round =>
        clear N9
        obtain ⟨n, hn, hN⟩ := hrel
        have CR := hidden (ty_requires hN.out)
        by_cases hlt : n < 4096 - fr
        · have l0 : (n : Int) < 4096 - (fr : Int) := by omega
          have n0 : (n : Int) ≤ 4096 := by omega
          have wu : IntKind.u64.wrap (n : Int) = (n : Int) := by rw [IntKind.wrap_u64]; omega
          obtain ⟨k, hk⟩ : ∃ k, lst (n : Int) = k := ⟨_, rfl⟩
          have CI := fun y => fix (R := k) (Int_any (n : Int) y (by unfold Sm.Wd; omega)) hk
          have ok : k.ok := hk ▸ lst_ok _
          have CC := hidden (fun y (hT : Tb y) => Const_any k y hT ok)
          simp only [E4.v] at CI
          replace CI := hidden CI
          have NC := hidden (nm_const m m k)
          have LC := hidden (const_len k)
          have GK := hidden (ty_r hN.out)
          have HLT := hidden hlt
          clear hk ok
          generalize lf Sm.L (glM k 1 oneT) = Xc at *
          go_wp2_with (first | (go_at_call 7; refine CR.out.mono ?_; rintro e w11 ⟨rfl, rfl⟩) | (go_at_call 13; refine (CI.out _).mono ?_; rintro e w12 ⟨rfl, hb⟩; have B12 := hidden hb; clear hb) | (go_at_call 12; refine (CC.out _ ((HT.out.keep hN.out.bl).keep B12.out)).mono ?_; rintro e w13 ⟨vc, rfl, hq⟩; have N13 := hidden (hN.out.keep (bl_trans B12.out hq.2.1)); obtain ⟨Pc, cc, ec, _, _⟩ := own_shT hq.1; subst ec; have CQ := hidden (ty_req HT.out N13.out Pc Xc.length cc (ft Xc) (by have := LC.out; omega) (fun _ _ => lst_ok _) (own_lts hq.1) NC.out (by have := HLT.out; omega)); clear hq) | (go_at_call 11; refine CQ.out.mono ?_; rintro e w14 ⟨rfl, hn2⟩; have N14 := hidden hn2; clear hn2))
          go_roundw
          case rel => exact ⟨n + 1, by omega, N14⟩
          case measure =>
            rw [ty_r N14.out, GK.out]
            omega
        · have lq : ¬ (n : Int) < 4096 - (fr : Int) := by omega
          obtain rfl : n = 4096 - fr := by omega
          obtain ⟨nn, hnn⟩ : ∃ nn : Nat, 4096 - fr = nn := ⟨_, rfl⟩
          have en : 4096 - (fr : Int) = (nn : Int) := by have := HF.out; omega
          have HNN := hidden hnn
          rw [hnn] at hN CR lq
          rw [en] at w96 lq
          clear hn hnn
          by_cases h2 : fr = 2
          · subst h2
            obtain rfl : nn = 4094 := by have := HNN.out; omega
            have C4 := ty_mul HT.out hN.out none 0 0 (fun _ => default) (by omega) (fun j hj => by omega) (Lt.none _ _) (nm_nil m m _) (by omega) (by have := HM.out; omega)
            simp only [tup] at C4
            replace C4 := hidden C4
            go_upto_region 20 with (go_at_call 7; refine CR.out.mono ?_; rintro e w11 ⟨rfl, rfl⟩)
            clear CR lq
            go_upto_region 23 with (first | (go_at_call 10; refine C4.out.mono ?_; rintro e w15 ⟨rfl, hn2⟩; have N15 := hidden hn2; clear hn2))
            clear C4 hN
            go_loopw [170] (fun _ w' => ∃ n : Nat, n ≤ 4096 ∧ Hid (Ty w1 t m (m + 1) n w')) (fun _ w' => 4096 - rOf w' t)
            case atStart => exact ⟨4096, by first | omega | (have := HNN.out; omega), N15⟩
            case round =>
              clear N15
              obtain ⟨n, hn, hN⟩ := hrel
              have CR := hidden (ty_requires hN.out)
              by_cases hlt : n < 4096
              · have l0 : (n : Int) < 4096 := by omega
                have CQ := hidden (ty_req HT.out hN.out none 0 0 (fun _ => default) (by omega) (fun j hj => by omega) (Lt.none _ _) (nm_nil m (m + 1) _) hlt)
                have GK := hidden (ty_r hN.out)
                go_wp2_with (first | (go_at_call 7; refine CR.out.mono ?_; rintro e w18 ⟨rfl, rfl⟩) | (go_at_call 11; refine CQ.out.mono ?_; rintro e w19 ⟨rfl, hn2⟩; have N19 := hidden hn2; clear hn2))
                go_roundw
                case rel => first | exact ⟨n + 1, by omega, N19⟩ | exact ⟨_, _, _, _, _, _, _, ⟨n + 1, by omega, N19⟩, rfl⟩
                case measure =>
                  rw [ty_r N19.out, GK.out]
                  omega
              · obtain rfl : n = 4096 := by omega
                have lq : ¬ (4096 : Int) < 4096 := by omega
                have CQ := hidden (ty_reqfull HT.out hN.out none 0 0 (fun _ => default) (by omega) (fun j hj => by omega) (Lt.none _ _) (nm_nil m (m + 1) _) (by omega))
                have CR2 := hidden (fun y (hy : Below wr.heap.size wr y) => ty_requires (hN.out.keep hy))
                have CO2 := hidden (fun y => Of_any (9, 0) y)
                simp only at CO2
                have CL := hidden (fun y (hy : Below wr.heap.size wr y) => longest_any y ((HT.out.keep hN.out.bl).keep hy))
                go_wp2_with (first | (go_at_call 7; first | (have _t := CQ; refine CR.out.mono ?_; rintro e w18 ⟨rfl, rfl⟩) | (refine (CR2.out _ B20.out).mono ?_; rintro e w21 ⟨rfl, rfl⟩)) | (have _t := CQ; go_at_call 11; refine CQ.out.mono ?_; rintro e w20 ⟨rfl, hb⟩; have B20 := hidden hb; clear hb CQ) | (go_at_call 9; refine (CO2.out _).mono ?_; rintro e w22 ⟨vo, rfl, hq⟩; have B22 := hidden (bl_trans B20.out hq.2.1); obtain ⟨Po, co, eo, _, _⟩ := own_shT hq.1; subst eo; have CW := hidden (ty_reqwire HT.out (hN.out.keep B22.out) Po 1 co (ft [((9, 0), 1)]) (by omega) (fun _ _ => lst_ok _) (own_lts (X := [((9, 0), 1)]) hq.1) (by rw [nm_of]; exact hs_nine m (m + 1))); clear hq) | (go_at_call 11; refine CW.out.mono ?_; rintro e w23 ⟨rfl, hb⟩; have B23 := hidden (bl_trans B22.out hb); clear hb) | (go_at_call 14; refine (CL.out _ B23.out).mono ?_; rintro e w24 ⟨rfl, hb⟩; have B24 := hidden (bl_trans B23.out hb); clear hb))
                refine bodyPost_ret (v := .bool true) (by simp [results, Tryd.results3, go_sem]) rfl ⟨rfl, ?_⟩
                exact hN.out.bl.trans (B24.out.mono hN.out.bl.size)
          · have C4 := ty_mulfull HT.out hN.out none 0 0 (fun _ => default) (by omega) (fun j hj => by omega) (Lt.none _ _) (nm_nil m m _) (.inl (by have := HF.out; have := HNN.out; omega))
            simp only [tup] at C4
            replace C4 := hidden C4
            have f2 : ¬ (fr : Int) = 2 := by omega
            have f2b : ((fr : Int) == 2) = false := by simpa using f2
            have CG := hidden (fun y (hy : Below wr.heap.size wr y) => ty_gates (hN.out.keep hy))
            have CR2 := hidden (fun y (hy : Below wr.heap.size wr y) => ty_requires (hN.out.keep hy))
            go_upto_region 20 with (go_at_call 7; refine CR.out.mono ?_; rintro e w11 ⟨rfl, rfl⟩)
            clear CR lq
            go_upto_region 23 with (first | (go_at_call 10; refine C4.out.mono ?_; rintro e w15 ⟨rfl, hb⟩; have B15 := hidden hb; clear hb) | (go_at_call 6; refine (CG.out _ B15.out).mono ?_; rintro e w16 ⟨rfl, rfl⟩) | (go_at_call 7; refine (CR2.out _ B15.out).mono ?_; rintro e w17 ⟨rfl, rfl⟩))
            have N15 := hidden (hN.out.keep B15.out)
            clear C4 CG CR2 hN
            try simp only [f2b]
            go_loopw [170] (fun _ w' => ∃ n : Nat, n ≤ 4096 ∧ Hid (Ty w1 t m (m) n w')) (fun _ w' => 4096 - rOf w' t)
            case atStart => exact ⟨nn, by first | omega | (have := HNN.out; omega), N15⟩
            case round =>
              clear N15
              obtain ⟨n, hn, hN⟩ := hrel
              have CR := hidden (ty_requires hN.out)
              by_cases hlt : n < 4096
              · have l0 : (n : Int) < 4096 := by omega
                have CQ := hidden (ty_req HT.out hN.out none 0 0 (fun _ => default) (by omega) (fun j hj => by omega) (Lt.none _ _) (nm_nil m (m) _) hlt)
                have GK := hidden (ty_r hN.out)
                go_wp2_with (first | (go_at_call 7; refine CR.out.mono ?_; rintro e w18 ⟨rfl, rfl⟩) | (go_at_call 11; refine CQ.out.mono ?_; rintro e w19 ⟨rfl, hn2⟩; have N19 := hidden hn2; clear hn2))
                go_roundw
                case rel => first | exact ⟨n + 1, by omega, N19⟩ | exact ⟨_, _, _, _, _, _, _, ⟨n + 1, by omega, N19⟩, rfl⟩
                case measure =>
                  rw [ty_r N19.out, GK.out]
                  omega
              · obtain rfl : n = 4096 := by omega
                have lq : ¬ (4096 : Int) < 4096 := by omega
                have CQ := hidden (ty_reqfull HT.out hN.out none 0 0 (fun _ => default) (by omega) (fun j hj => by omega) (Lt.none _ _) (nm_nil m (m) _) (by omega))
                have CR2 := hidden (fun y (hy : Below wr.heap.size wr y) => ty_requires (hN.out.keep hy))
                have CO2 := hidden (fun y => Of_any (9, 0) y)
                simp only at CO2
                have CL := hidden (fun y (hy : Below wr.heap.size wr y) => longest_any y ((HT.out.keep hN.out.bl).keep hy))
                go_wp2_with (first | (go_at_call 7; first | (have _t := CQ; refine CR.out.mono ?_; rintro e w18 ⟨rfl, rfl⟩) | (refine (CR2.out _ B20.out).mono ?_; rintro e w21 ⟨rfl, rfl⟩)) | (have _t := CQ; go_at_call 11; refine CQ.out.mono ?_; rintro e w20 ⟨rfl, hb⟩; have B20 := hidden hb; clear hb CQ) | (go_at_call 9; refine (CO2.out _).mono ?_; rintro e w22 ⟨vo, rfl, hq⟩; have B22 := hidden (bl_trans B20.out hq.2.1); obtain ⟨Po, co, eo, _, _⟩ := own_shT hq.1; subst eo; have CW := hidden (ty_reqwire HT.out (hN.out.keep B22.out) Po 1 co (ft [((9, 0), 1)]) (by omega) (fun _ _ => lst_ok _) (own_lts (X := [((9, 0), 1)]) hq.1) (by rw [nm_of]; exact hs_nine m (m))); clear hq) | (go_at_call 11; refine CW.out.mono ?_; rintro e w23 ⟨rfl, hb⟩; have B23 := hidden (bl_trans B22.out hb); clear hb) | (go_at_call 14; refine (CL.out _ B23.out).mono ?_; rintro e w24 ⟨rfl, hb⟩; have B24 := hidden (bl_trans B23.out hb); clear hb))
                refine bodyPost_ret (v := .bool true) (by simp [results, Tryd.results3, go_sem]) rfl ⟨rfl, ?_⟩
                exact hN.out.bl.trans (B24.out.mono hN.out.bl.size)
end Ci
end Go.Proofs.YtnbhkhhghhfjoaaDoor
