import Derived.Test.YtgdbcmhkepkaeaaTva
namespace Go.Proofs.Ytgdbcmhkepkaeaa
open Go.RowKit
set_option linter.unusedVariables false
set_option maxRecDepth 100000 in
theorem two_pow : ∀ B : Nat, B ≤ 64 → 1 ≤ B → bits .and .i64 (B : Int) ((B : Int) - 1) = 0 → B = 1 ∨ B = 2 ∨ B = 4 ∨ B = 8 ∨ B = 16 ∨ B = 32 ∨ B = 64 := by
  decide
theorem rd_sq {B C n : Nat} (hB : B = 1 ∨ B = 2 ∨ B = 4 ∨ B = 8 ∨ B = 16 ∨ B = 32 ∨ B = 64) (hC : C = 1 ∨ C = 2 ∨ C = 4 ∨ C = 8 ∨ C = 16 ∨ C = 32 ∨ C = 64) (hC2 : C ≤ 16) (hn : B * C = n) : 4 ^ rd n = n * n := by
  subst hn
  rcases hB with rfl | rfl | rfl | rfl | rfl | rfl | rfl <;> rcases hC with rfl | rfl | rfl | rfl | rfl | rfl | rfl <;> first | omega | decide
/-- the leaves -/
noncomputable def lv (b c : Int) : Int := if al b c then b * c * (c + 2) * 6 * (b * c) * (b * c) else 0
theorem lv_out {b c : Int} (h : al b c = false) : lv b c = 0 := by unfold lv; rw [h]; rfl
theorem lv_in {B C n : Nat} (h : al B C = true) (hn : B * C = n) : lv B C = ((n * (C + 2) * 6 * n * n : Nat) : Int) := by
  unfold lv; rw [h, if_pos rfl]; subst hn; push_cast; rfl
theorem al_pow {B C : Nat} (h : al B C = true) (hB : B ≤ 64) (hB1 : 1 ≤ B) (hC : C ≤ 16) (hC1 : 1 ≤ C) : 4 ^ rd (B * C) = B * C * (B * C) := by
  have := of_decide_eq_true h
  exact rd_sq (two_pow B hB hB1 this.2.2.1) (two_pow C (by omega) hC1 this.2.2.2.2.2) hC rfl
set_option maxRecDepth 100000 in
set_option maxHeartbeats 4000000 in
theorem zsOf_any (B C m : Nat) (hm : C + 2 = m) (hC : C ≤ 16) (w : World) : Calls Try.prog 8 #[.agg #[.int .i64 B, .int .i64 C]] w fun e w' => e = .returned (.int .i64 m) ∧ Below w.heap.size w w' := by
  have B0 := hidden (bl_alloc w (.cells #[.int .i64 B, .int .i64 C] 23))
  have hw : IntKind.i64.wrap ((C : Int) + 2) = (m : Int) := by rw [← hm]; rw [IntWalk.i64_in _ (by omega)]; push_cast; rfl
  clear hm
  go_enter Try.func8, Try.ntmps8
  go_wp2_with fail
  refine bodyPost_ret (v := .int .i64 m) (by simp [results, Try.results8, go_sem]) rfl ⟨rfl, B0.out⟩
set_option maxRecDepth 100000 in
set_option maxHeartbeats 4000000 in
theorem leaves_out (b c : Int) (h : al b c = false) (w : World) : Calls Try.prog 4 #[.agg #[.int .i64 b, .int .i64 c]] w fun e w' => e = .returned (.int .i64 0) ∧ Below w.heap.size w w' := by
  have B0 := hidden (bl_alloc w (.cells #[.int .i64 b, .int .i64 c] 23))
  have P0 := hidden (Pb.new w b c 23)
  have AL := hidden (fun w => Allowed_any b c w)
  rw [h] at AL
  clear h
  go_enter Try.func4, Try.ntmps4
  go_upto_region 1 with fail
  generalize w.alloc (.cells #[.int .i64 b, .int .i64 c] 23) = w1 at *
  have x0 := P0.out.c0
  have x1 := P0.out.c1
  go_wp2_with (first | (go_at_call 6; refine (AL.out _).mono ?_; rintro e wa ⟨rfl, hb⟩; have HB := hidden (bl_trans B0.out hb); clear hb x0 x1 P0 B0))
  refine bodyPost_ret (v := .int .i64 0) (by simp [results, Try.results4, go_sem]) rfl ⟨rfl, HB.out⟩
set_option maxRecDepth 100000 in
set_option maxHeartbeats 4000000 in
theorem leaves_in (B C n : Nat) (h : al B C = true) (hn : B * C = n) (hB : B ≤ 64) (hC : C ≤ 16) (w : World) : Calls Try.prog 4 #[.agg #[.int .i64 B, .int .i64 C]] w fun e w' => e = .returned (.int .i64 (n * (C + 2) * 6 * n * n : Nat)) ∧ Below w.heap.size w w' := by
  have B0 := hidden (bl_alloc w (.cells #[.int .i64 B, .int .i64 C] 23))
  have P0 := hidden (Pb.new w B C 23)
  have AL := hidden (fun w => Allowed_any B C w)
  rw [h] at AL
  clear h
  have hle : B * C ≤ 64 * 16 := Nat.mul_le_mul hB hC
  have SZ := hidden (fun w => Size_any B C n hn hB hC w)
  have ZS := hidden (fun w => zsOf_any B C (C + 2) rfl hC w)
  rw [hn] at hle
  have b1 : n * (C + 2) ≤ 1024 * 18 := Nat.mul_le_mul hle (by omega)
  have b2 : n * (C + 2) * 6 * n ≤ 1024 * 18 * 6 * 1024 := Nat.mul_le_mul (by omega) hle
  have b3 : n * (C + 2) * 6 * n * n ≤ 1024 * 18 * 6 * 1024 * 1024 := Nat.mul_le_mul b2 hle
  obtain ⟨m, hm⟩ : ∃ m, C + 2 = m := ⟨_, rfl⟩
  rw [hm] at ZS b1 b2 b3 ⊢
  obtain ⟨p1, hp1⟩ : ∃ p, n * m = p := ⟨_, rfl⟩
  rw [hp1] at b1 b2 b3 ⊢
  obtain ⟨p2, hp2⟩ : ∃ p, p1 * 6 * n = p := ⟨_, rfl⟩
  rw [hp2] at b2 b3 ⊢
  obtain ⟨p3, hp3⟩ : ∃ p, p2 * n = p := ⟨_, rfl⟩
  rw [hp3] at b3 ⊢
  have e1 : IntKind.i64.wrap ((n : Int) * (m : Int)) = (p1 : Int) := by rw [← Int.natCast_mul, hp1]; exact IntWalk.i64_in _ (by omega)
  have e2 : IntKind.i64.wrap ((p1 : Int) * 3) = (p1 : Int) * 3 := IntWalk.i64_in _ (by omega)
  have e3 : IntKind.i64.wrap ((p1 : Int) * 3 * 2) = ((p1 * 6 : Nat) : Int) := by rw [IntWalk.i64_in _ (by omega)]; omega
  have e4 : IntKind.i64.wrap (((p1 * 6 : Nat) : Int) * (n : Int)) = (p2 : Int) := by rw [← Int.natCast_mul, hp2]; exact IntWalk.i64_in _ (by omega)
  have e5 : IntKind.i64.wrap ((p2 : Int) * (n : Int)) = (p3 : Int) := by rw [← Int.natCast_mul, hp3]; exact IntWalk.i64_in _ (by omega)
  generalize p1 * 6 = p16 at *
  clear hm hp1 hp2 hp3 b1 b2 b3 hle hn hB hC
  go_enter Try.func4, Try.ntmps4
  go_upto_region 1 with fail
  generalize w.alloc (.cells #[.int .i64 B, .int .i64 C] 23) = w1 at *
  have x0 := P0.out.c0
  have x1 := P0.out.c1
  go_wp2_with (first | (go_at_call 6; refine (AL.out _).mono ?_; rintro e wa ⟨rfl, hb⟩; have HB := hidden (bl_trans B0.out hb); have P1 := hidden (P0.out.keep hb); clear hb x0 x1 P0 B0; have x0 := P1.out.c0; have x1 := P1.out.c1) | (go_at_call 7; refine (SZ.out _).mono ?_; rintro e wb ⟨rfl, hb⟩; have HC := hidden (bl_trans HB.out hb); have P2 := hidden (P1.out.keep hb); clear hb x0 x1 P1 HB; have x0 := P2.out.c0; have x1 := P2.out.c1) | (go_at_call 8; refine (ZS.out _).mono ?_; rintro e wc ⟨rfl, hb⟩; have HD := hidden (bl_trans HC.out hb); clear hb x0 x1 P2 HC))
  refine bodyPost_ret (v := .int .i64 p3) (by simp [results, Try.results4, go_sem]) rfl ⟨rfl, HD.out⟩
end Go.Proofs.Ytgdbcmhkepkaeaa
