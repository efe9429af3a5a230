import Derived.Test.YthhcdjndfepbaaaAsn
import Derived.Test.YthhcdjndfepbaaaAnm
import Derived.Test.YthhcdjndfepbaaaAhm
namespace Go.Proofs.Ythhcdjndfepbaaa
open Go.RowKit
theorem inv_a (s x p : Int) : s * x * p = s * (p * x) := by grind
theorem inv_b (x p s : Int) : x * (p * s) = s * (p * x) := by grind
set_option maxRecDepth 100000 in
set_option maxHeartbeats 8000000 in
theorem invertAll_any (G n cG : Nat) (h : Nat → Int) (w : World) (h40 : n ≤ 40) (hG : ∀ k, k < n → w.cell? ⟨G, k, none⟩ = some (.int .i64 (h k))) (hz : ∀ k, k < n → ¬ Mx.C 7 (h k) 0) :
    Calls Try.prog 37 #[.slice (some ⟨G, 0, none⟩) n cG] w fun e w' => ∃ (I : Nat) (r : Nat → Int), e = .returned (.slice (some ⟨I, 0, none⟩) n n) ∧ w.heap.size ≤ I ∧ Rk w' I 0 n r ∧ (∀ k, k < n → Mx.C 7 (h k * r k) 1) ∧ Below w.heap.size w w' := by
  have N40 := hidden h40
  have HG := hidden hG
  have HZ := hidden hz
  have nn0 : (0 : Int) ≤ (n : Int) := by omega
  have w8 : IntKind.i64.wrap ((n : Int) - 1) = (n : Int) - 1 := IntWalk.i64_in _ (by omega)
  obtain ⟨i0, hi, hz0, hz1, hz2⟩ := info_parts seveninfo
  have hmk := fun w => run_make (P := Try.prog) w 24 27 i0 (.agg #[.int .i64 0]) (by kernel_rfl) hi hz0 .i64 .i64 (n : Int) (n : Int) (by omega) (Int.le_refl _) (by rw [hz2]; omega) (by omega)
  simp only [Int.toNat_natCast, hz1, Nat.mul_one, Value.cells] at hmk
  have B0 := bl_alloc w (.cells (madeCells #[.int .i64 0] n) 27)
  have R0 := hidden ((Rk.made w n 27).keep (bl_alloc _ (.cells #[.int .i64 0] 27)))
  have X0 := Bx.new B0 0 27
  rw [World.size_alloc] at X0
  replace X0 := hidden X0
  replace B0 := hidden (bl_trans B0 (bl_alloc _ (.cells #[.int .i64 0] 27)))
  clear h40 hG hz hi hz0 hz1 hz2
  go_enter Try.func37, Try.ntmps37
  go_upto_region 3 with fail
  generalize ((w.alloc (.cells (madeCells #[.int .i64 0] n) 27)).alloc (.cells #[.int .i64 0] 27)) = w1 at *
  go_cut [5] (fun v5 wx => ∃ bp : Nat, v5 = .pointer (some ⟨bp, 0, none⟩) ∧ w.heap.size < bp ∧ Bx w wx bp 1 ∧ Rk wx w.heap.size 0 n (fun _ => 0) ∧ Below w.heap.size w wx)
  case first =>
    have c1 := X0.out.c
    have m1 := mt_One 0
    have ON := hidden (fun w => sOne_any 0 w)
    unfold sv at ON
    go_wp2_with (first | (go_at_call 59; refine (ON.out _).mono ?_; rintro e wa ⟨rfl, ha⟩; have HA := hidden ha; clear ha))
    go_meet
    have hl := (R0.out.keep HA.out).lt
    exact ⟨_, rfl, hl, Bx.new (bl_trans B0.out HA.out) 1 _, (R0.out.keep HA.out).keep (bl_alloc _ _), bl_trans (bl_trans B0.out HA.out) (bl_alloc _ _)⟩
  case rest =>
  obtain ⟨bp, rfl, hbp, hx, hr, hb⟩ := hcut
  clear X0 R0 B0 hmk
  have X0 := hidden hx
  have R0 := hidden hr
  have B0 := hidden hb
  clear hx hr hb
  go_wp2_with fail
  go_loopw [18] (fun kv w' => ∃ (k : Nat) (s : Int) (f : Nat → Int), k ≤ n ∧ kv = .int .i64 (k : Int) ∧ Hid (Mx.C 7 s (Mx.pr h k)) ∧ Hid (∀ j, j < k → Mx.C 7 (f j) (Mx.pr h j)) ∧ Hid (Bx w w' bp s) ∧ Hid (Rk w' w.heap.size 0 n f) ∧ Hid (Below w.heap.size w w')) (fun k _ => n - (intOf k).toNat)
  case atStart => exact ⟨0, 1, _, by omega, rfl, hidden Mx.C.rfl, hidden (fun j hj => absurd hj (by omega)), X0, R0, B0⟩
  case round =>
    clear X0 R0 B0
    obtain ⟨k, s, f, hk, rfl, hs, hq, h1, hR, hB⟩ := hrel
    by_cases hkn : k < n
    · have k0 : (0 : Int) ≤ (k : Int) := by omega
      have k1 : (k : Int) < (n : Int) := by omega
      have w9 : IntKind.i64.wrap ((k : Int) + 1) = (k : Int) + 1 := IntWalk.i64_in _ (by have := N40.out; omega)
      have c1 := cell_keep (HG.out k hkn) hB.out
      have hd : (h k % 7 == 0) = false := by rw [beq_eq_false_iff_ne]; exact fun e => HZ.out k hkn (Mx.C.of_mod e)
      have IZ := hidden (fun w => sIsZero_any (h k) w)
      unfold sv at IZ
      simp only [hd] at IZ
      have m1 := mt_IsZero (h k)
      have m2 := mt_Mul s
      have MU := hidden (fun w => sMulC s (h k) w)
      have NQ : Hid (∀ j, j < k + 1 → Mx.C 7 (if j = k then s else f j) (Mx.pr h j)) := hidden (fun j hj => by
        by_cases e : j = k
        · subst e; rw [if_pos rfl]; exact hs.out
        · rw [if_neg e]; exact hq.out j (by omega))
      have hXl : bp < wr.heap.size := h1.out.lt
      have hXr : w.heap.size < wr.heap.size := hR.out.lt
      clear hd
      go_wp2_with (first | (go_at_call 57; refine (IZ.out _).mono ?_; rintro e wa ⟨rfl, ha⟩; have BA := bl_trans (bl_alloc wr (.cells #[.int .i64 (h k)] 27)) ha; have P1 := h1.out.keep BA; have R1 := hR.out.keep BA; have T1 := (Bx.new hB.out (h k) 27).keep ha; have c2 := P1.c; have c3 := R1.c0 k hkn; have f3 := R1.f0 k hkn; have P2 := P1.far (d := w.heap.size) (o := k) (v := .int .i64 s) (by omega); have T2 := T1.far (d := w.heap.size) (o := k) (v := .int .i64 s) (by omega); have c4 := P2.c; have c5 := T2.c; have HP2 := hidden P2; have HR2 := hidden (R1.set0 k hkn s); have HB2 := hidden ((bl_trans hB.out BA).setCell (p := ⟨w.heap.size, k, none⟩) (Nat.le_refl _) (.int .i64 s)); clear ha BA P1 R1 T1 P2 T2) | (go_at_call 58; refine (MU.out _).mono ?_; rintro e wb ⟨z, rfl, hzz, hb⟩; have HZZ := hidden hzz; have P3 := HP2.out.keep hb; have c6 := P3.c; have f6 := P3.f; have HWB := hidden hb; clear hzz hb P3))
      have NS : Hid (Mx.C 7 z (Mx.pr h (k + 1))) := hidden (HZZ.out.trans (hs.out.mul Mx.C.rfl))
      have Y1 := hidden ((HP2.out.keep HWB.out).put z)
      have YR := hidden ((HR2.out.keep HWB.out).but ((But.refl bp wb).set (o := 0) (.int .i64 z)) (by omega))
      have YB := hidden ((bl_trans HB2.out HWB.out).setCell (p := ⟨bp, 0, none⟩) h1.out.ge (.int .i64 z))
      go_roundw
      case rel => exact ⟨k + 1, z, _, by omega, by go_num, NS, NQ, Y1, YR, YB⟩
      case measure => simp [intOf]; omega
    · obtain rfl : k = n := by omega
      clear hkn
      go_upto_region 11 with fail
      go_cut [8] (fun v8 wx => ∃ (br : Nat) (z : Int), v8 = .pointer (some ⟨br, 0, none⟩) ∧ w.heap.size < br ∧ Mx.C 7 (z * Mx.pr h k) 1 ∧ Bx w wx br z ∧ Rk wx w.heap.size 0 k f ∧ Below w.heap.size w wx)
      case first =>
        have c1 := h1.out.c
        have m1 := mt_Invert s
        have IV := hidden (fun w => sInvC s w)
        go_wp2_with (first | (go_at_call 56; refine (IV.out _).mono ?_; rintro e wa ⟨z, rfl, hzz, ha⟩; have HZZ := hidden hzz; have HA := hidden ha; clear hzz ha))
        go_meet
        have hl := (hR.out.keep HA.out).lt
        have nz : ¬ Mx.C 7 s 0 := fun e => Mx.pr_nz pm7 HZ.out k (Nat.le_refl _) (hs.out.symm.trans e)
        exact ⟨_, z, rfl, hl, (Mx.C.of_eq (Int.mul_comm _ _)).trans ((hs.out.symm.mul Mx.C.rfl).trans (HZZ.out nz)), Bx.new (bl_trans hB.out HA.out) z _, (hR.out.keep HA.out).keep (bl_alloc _ _), bl_trans (bl_trans hB.out HA.out) (bl_alloc _ _)⟩
      case rest =>
      obtain ⟨br, z, rfl, hbr, hzp, hx, hr, hb⟩ := hcut
      clear h1 hR hB
      have HZP := hidden hzp
      have X0 := hidden hx
      have R0 := hidden hr
      have B0 := hidden hb
      clear hx hr hb hzp hs
      go_wp2_with fail
      clear w8
      go_loopw [9] (fun iv w' => ∃ (m : Nat) (s : Int) (g : Nat → Int), m ≤ k ∧ iv = .int .i64 ((m : Int) - 1) ∧ Hid (Mx.C 7 (s * Mx.pr h m) 1) ∧ Hid (∀ j, j < m → Mx.C 7 (g j) (Mx.pr h j)) ∧ Hid (∀ j, m ≤ j → j < k → Mx.C 7 (h j * g j) 1) ∧ Hid (Bx w w' br s) ∧ Hid (Rk w' w.heap.size 0 k g) ∧ Hid (Below w.heap.size w w')) (fun i _ => (intOf i + 1).toNat)
      case atStart => exact ⟨k, z, f, by omega, rfl, HZP, hq, hidden (fun j a b => absurd a (by omega)), X0, R0, B0⟩
      case round =>
        clear X0 R0 B0 hq HZP
        clear f
        obtain ⟨m, s, f, hm, rfl, hs, hq, hd, h1, hR, hB⟩ := hrel
        by_cases hm0 : 0 < m
        · obtain ⟨i, rfl⟩ : ∃ i, m = i + 1 := ⟨m - 1, by omega⟩
          rw [show ((i + 1 : Nat) : Int) - 1 = (i : Int) by omega]
          have i0 : (0 : Int) ≤ (i : Int) := by omega
          have i1 : (i : Int) < (k : Int) := by omega
          have hik : i < k := by omega
          have v9 : IntKind.i64.wrap ((i : Int) - 1) = (i : Int) - 1 := IntWalk.i64_in _ (by have := N40.out; omega)
          have c1 := cell_keep (HG.out i hik) hB.out
          have hd0 : (h i % 7 == 0) = false := by rw [beq_eq_false_iff_ne]; exact fun e => HZ.out i hik (Mx.C.of_mod e)
          have IZ := hidden (fun w => sIsZero_any (h i) w)
          unfold sv at IZ
          simp only [hd0] at IZ
          have m1 := mt_IsZero (h i)
          clear hd0
          go_upto_region 16 with (first | (go_at_call 57; refine (IZ.out _).mono ?_; rintro e wa ⟨rfl, ha⟩; have HA := hidden ha; clear ha))
          have K1 := hidden (h1.out.keep HA.out)
          have KR := hidden (hR.out.keep HA.out)
          have KB := hidden (bl_trans hB.out HA.out)
          have KC := hidden (cell_keep c1 HA.out)
          clear h1 hR hB HA c1 m1 IZ
          go_cut [62] (fun _ wx => ∃ y : Int, Mx.C 7 y (f i * s) ∧ Bx w wx br s ∧ Rk wx w.heap.size 0 k (fun j => if j = i then y else f j) ∧ Below w.heap.size w wx)
          case first =>
            have c2 := cell_keep (KR.out.c0 i hik) (bl_drew _)
            have c3 := cell_keep K1.out.c (bl_drew _)
            have m2 := mt_Mul (f i)
            have MU := hidden (fun w => sMulC (f i) s w)
            go_region_with (first | (go_at_call 58; with_reducible refine (MU.out _).mono ?_; rintro e wb ⟨y, rfl, hy, hb⟩; have HY := hidden hy; have hab := bl_trans (bl_drew wa) hb; have c4 := (KR.out.keep hab).c0 i hik; have f4 := (KR.out.keep hab).f0 i hik; have HAB := hidden hab; clear hy hb hab))
            all_goals
              have Y1 := hidden ((K1.out.keep HAB.out).far (d := w.heap.size) (o := i) (v := .int .i64 y) (by omega))
              have YR := hidden ((KR.out.keep HAB.out).set0 i hik y)
              have YB := hidden ((bl_trans KB.out HAB.out).setCell (p := ⟨w.heap.size, i, none⟩) (Nat.le_refl _) (.int .i64 y))
              go_wp2_with fail
              go_meet
              exact ⟨y, HY.out, Y1.out, YR.out, YB.out⟩
          case rest =>
          obtain ⟨y, hy, hx, hr, hb⟩ := hcut
          clear KR KB KC K1
          have HY := hidden hy
          have K1 := hidden hx
          have KR := hidden hr
          have KB := hidden hb
          clear hy hx hr hb
          have c2 := cell_keep (cell_keep (HG.out i hik) KB.out) (bl_drew _)
          have c3 := cell_keep K1.out.c (bl_drew _)
          have m2 := mt_Mul s
          have MU := hidden (fun w => sMulC s (h i) w)
          go_upto_region 17 with fail
          go_region_with (first | (go_at_call 58; with_reducible refine (MU.out _).mono ?_; rintro e wb ⟨z, rfl, hz, hb⟩; have HZZ := hidden hz; have hab := bl_trans (bl_drew _) hb; have c4 := (K1.out.keep hab).c; have f4 := (K1.out.keep hab).f; have HAB := hidden hab; clear hz hb hab))
          all_goals
            have Y1 := hidden ((K1.out.keep HAB.out).put z)
            have YR := hidden ((KR.out.keep HAB.out).but ((But.refl br wb).set (o := 0) (.int .i64 z)) (by omega))
            have YB := hidden ((bl_trans KB.out HAB.out).setCell (p := ⟨br, 0, none⟩) K1.out.ge (.int .i64 z))
            have NS : Hid (Mx.C 7 (z * Mx.pr h i) 1) := hidden ((HZZ.out.mul Mx.C.rfl).trans ((Mx.C.of_eq (inv_a _ _ _)).trans hs.out))
            have NQ : Hid (∀ j, j < i → Mx.C 7 (if j = i then y else f j) (Mx.pr h j)) := hidden (fun j hj => by rw [if_neg (by omega)]; exact hq.out j (by omega))
            have ND : Hid (∀ j, i ≤ j → j < k → Mx.C 7 (h j * (if j = i then y else f j)) 1) := hidden (fun j a b => by
              by_cases e : j = i
              · subst e
                rw [if_pos rfl]
                have q := hq.out j (by omega)
                refine (Mx.C.rfl.mul (HY.out.trans (q.mul Mx.C.rfl))).trans ((Mx.C.of_eq (inv_b _ _ _)).trans hs.out)
              · rw [if_neg e]; exact hd.out j (by omega) b)
            clear c2 c3 c4 f4 m2
            go_wp2_with fail
            go_roundw
            case rel => exact ⟨i, z, _, by omega, by go_num, NS, NQ, ND, Y1, YR, YB⟩
            case measure => simp [intOf]
        · obtain rfl : m = 0 := by omega
          have e1 : ((0 : Nat) : Int) - 1 = -1 := rfl
          rw [e1]
          clear hm0
          go_wp2_with fail
          refine bodyPost_ret (v := .slice (some ⟨w.heap.size, 0, none⟩) k k) (by simp [results, Try.results37, go_sem]) rfl ⟨w.heap.size, f, rfl, Nat.le_refl _, hR.out, fun j hj => hd.out j (Nat.zero_le _) hj, hB.out⟩
end Go.Proofs.Ythhcdjndfepbaaa
