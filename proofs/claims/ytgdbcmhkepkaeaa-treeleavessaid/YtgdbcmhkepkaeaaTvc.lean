import Derived.Test.YtgdbcmhkepkaeaaTvb
namespace Go.Proofs.Ytgdbcmhkepkaeaa
open Go.RowKit
set_option linter.unusedVariables false
set_option maxRecDepth 100000 in
set_option maxHeartbeats 4000000 in
theorem rleaves_out (b c : Int) (h : al b c = false) (w : World) : Calls Try.prog 5 #[.agg #[.int .i64 b, .int .i64 c]] w fun e w' => e = .returned (.int .i64 0) ∧ Below w.heap.size w w' := by
  have B0 := hidden (bl_alloc w (.cells #[.int .i64 b, .int .i64 c] 23))
  have P0 := hidden (Pb.new w b c 23)
  have AL := hidden (fun w => Allowed_any b c w)
  rw [h] at AL
  clear h
  go_enter Try.func5, Try.ntmps5
  go_upto_region 1 with fail
  generalize w.alloc (.cells #[.int .i64 b, .int .i64 c] 23) = w1 at *
  have x0 := P0.out.c0
  have x1 := P0.out.c1
  go_wp2_with (first | (go_at_call 6; refine (AL.out _).mono ?_; rintro e wa ⟨rfl, hb⟩; have HB := hidden (bl_trans B0.out hb); clear hb x0 x1 P0 B0))
  refine bodyPost_ret (v := .int .i64 0) (by simp [results, Try.results5, go_sem]) rfl ⟨rfl, HB.out⟩
theorem four_le {q k r : Nat} (hq : q ≤ 1024 * 18 * 6) (hk : k ≤ 10) : q * 4 ^ k ≤ 1024 * 18 * 6 * 1048576 := Nat.mul_le_mul hq (by
  calc 4 ^ k ≤ 4 ^ 10 := Nat.pow_le_pow_right (by omega) hk
    _ = 1048576 := by decide)
set_option maxRecDepth 100000 in
set_option maxHeartbeats 4000000 in
theorem rleaves_in (B C n : Nat) (h : al B C = true) (hn : B * C = n) (hB : B ≤ 64) (hC : C ≤ 16) (w : World) : Calls Try.prog 5 #[.agg #[.int .i64 B, .int .i64 C]] w fun e w' => e = .returned (.int .i64 (n * (C + 2) * 6 * 4 ^ rd n : Nat)) ∧ Below w.heap.size w w' := by
  have B0 := hidden (bl_alloc w (.cells #[.int .i64 B, .int .i64 C] 23))
  have P0 := hidden (Pb.new w B C 23)
  have AL := hidden (fun w => Allowed_any B C w)
  rw [h] at AL
  clear h
  have hle : B * C ≤ 64 * 16 := Nat.mul_le_mul hB hC
  have SZ := hidden (fun w => Size_any B C n hn hB hC w)
  have RO := hidden (fun w => Rounds_any B C n hn hB hC w)
  rw [hn] at hle
  have b1 : n * (C + 2) ≤ 1024 * 18 := Nat.mul_le_mul hle (by omega)
  have e0 : IntKind.i64.wrap ((C : Int) + 2) = ((C + 2 : Nat) : Int) := by rw [IntWalk.i64_in _ (by omega)]; push_cast; rfl
  have hr := rd_le n
  generalize rd n = r at *
  generalize C + 2 = m at *
  obtain ⟨p1, hp1⟩ : ∃ p, n * m = p := ⟨_, rfl⟩
  rw [hp1] at b1 ⊢
  have e1 : IntKind.i64.wrap ((n : Int) * (m : Int)) = (p1 : Int) := by rw [← Int.natCast_mul, hp1]; exact IntWalk.i64_in _ (by omega)
  have e2 : IntKind.i64.wrap ((p1 : Int) * 6) = ((p1 * 6 : Nat) : Int) := by rw [IntWalk.i64_in _ (by omega)]; omega
  have b2 : Hid (p1 * 6 ≤ 1024 * 18 * 6) := hidden (by omega)
  have hR : Hid (r ≤ 10) := hidden hr
  generalize p1 * 6 = q at *
  clear hp1 b1 hle hn hB hC hr
  go_enter Try.func5, Try.ntmps5
  go_upto_region 1 with fail
  generalize w.alloc (.cells #[.int .i64 B, .int .i64 C] 23) = w1 at *
  have x0 := P0.out.c0
  have x1 := P0.out.c1
  go_upto_region 4 with (first | (go_at_call 6; refine (AL.out _).mono ?_; rintro e wa ⟨rfl, hb⟩; have HA := hidden (bl_trans B0.out hb); have P1 := hidden (P0.out.keep hb); clear hb x0 x1 P0 B0))
  have x0 := P1.out.drew.c0
  have x1 := P1.out.drew.c1
  go_region_with (first | (go_at_call 7; refine (SZ.out _).mono ?_; rintro e wb ⟨rfl, hb⟩; have HB := hidden (bl_trans (bl_trans HA.out (bl_drew _)) hb); have P2 := hidden (P1.out.drew.keep hb); clear hb x0 x1; have x0 := P2.out.c0; have x1 := P2.out.c1))
  all_goals
    clear x0 x1 P1 HA
    go_wp2_with fail
    go_loopw [4, 5] (fun nv kv w' => ∃ k : Nat, nv = .int .i64 ((q * 4 ^ k : Nat) : Int) ∧ kv = .int .i64 k ∧ Hid (k ≤ r) ∧ Hid (Pb w' w.heap.size B C) ∧ Hid (Below w.heap.size w w')) (fun _ k _ => r - (intOf k).toNat)
    case atStart => exact ⟨0, by simp, rfl, hidden (by omega), P2, HB⟩
    case round =>
      clear HB P2
      obtain ⟨k, rfl, rfl, hk, hP, hb0⟩ := hrel
      have x0 := hP.out.c0
      have x1 := hP.out.c1
      have b3 := four_le (r := r) b2.out (by have := hk.out; have := hR.out; omega : k ≤ 10)
      obtain ⟨v, hv⟩ : ∃ v, q * 4 ^ k = v := ⟨_, rfl⟩
      have HV := hidden hv
      rw [hv] at b3 ⊢
      have w9 : IntKind.i64.wrap ((k : Int) + 1) = (k : Int) + 1 := IntWalk.i64_in _ (by have := hk.out; have := hR.out; omega)
      have w8 : IntKind.i64.wrap ((v : Int) * 4) = ((v * 4 : Nat) : Int) := by rw [IntWalk.i64_in _ (by omega)]; omega
      clear hv b3
      by_cases hlt : k < r
      · have hlt' : (k : Int) < (r : Int) := by omega
        have HL := hidden hlt
        clear hlt
        go_wp2_with (first | (go_at_call 9; refine (RO.out _).mono ?_; rintro e wb ⟨rfl, hb⟩; have HB := hidden (bl_trans hb0.out hb); have P2 := hidden (hP.out.keep hb); clear hb x0 x1))
        go_roundw
        case rel => exact ⟨k + 1, by rw [← HV.out, Nat.pow_succ, ← Nat.mul_assoc]; push_cast; rfl, by simp, hidden HL.out, P2, HB⟩
        case measure => have := HL.out; simp [intOf]; omega
      · have hlt' : ¬ (k : Int) < (r : Int) := by omega
        have HE : Hid (k = r) := hidden (by have := hk.out; omega)
        clear hlt
        go_wp2_with (first | (go_at_call 9; refine (RO.out _).mono ?_; rintro e wb ⟨rfl, hb⟩; have HB := hidden (bl_trans hb0.out hb); clear hb x0 x1))
        refine bodyPost_ret (v := .int .i64 v) (by simp [results, Try.results5, go_sem]) rfl ⟨by rw [← HE.out, HV.out], HB.out⟩
theorem leaves_any (b c : Int) (w : World) : Calls Try.prog 4 #[.agg #[.int .i64 b, .int .i64 c]] w fun e w' => e = .returned (.int .i64 (lv b c)) ∧ Below w.heap.size w w' := by
  cases h : al b c
  · rw [lv_out h]; exact leaves_out b c h w
  · obtain ⟨B, C, rfl, rfl, h1, h2, h3, h4⟩ := al_in h
    rw [lv_in h rfl]; exact leaves_in B C _ h rfl h2 h4 w
theorem rleaves_any (b c : Int) (w : World) : Calls Try.prog 5 #[.agg #[.int .i64 b, .int .i64 c]] w fun e w' => e = .returned (.int .i64 (lv b c)) ∧ Below w.heap.size w w' := by
  cases h : al b c
  · rw [lv_out h]; exact rleaves_out b c h w
  · obtain ⟨B, C, rfl, rfl, h1, h2, h3, h4⟩ := al_in h
    rw [lv_in h rfl]
    have := rleaves_in B C _ h rfl h2 h4 w
    rw [al_pow h h2 h1 h4 h3] at this
    simpa [Nat.mul_assoc] using this
end Go.Proofs.Ytgdbcmhkepkaeaa
