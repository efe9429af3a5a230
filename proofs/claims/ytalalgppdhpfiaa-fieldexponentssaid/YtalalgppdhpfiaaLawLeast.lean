import Derived.Test.YtalalgppdhpfiaaNum
namespace Go.Proofs.Ytalalgppdhpfiaa
open Go.RowKit

theorem lst_least (n : Int) : ((lst n).x0 ≤ 2251799813685247 ∧ (lst n).x1 ≤ 2251799813685247 ∧ (lst n).x2 ≤ 2251799813685247 ∧ (lst n).x3 ≤ 2251799813685247 ∧ (lst n).x4 ≤ 2251799813685247) ∧
    ((lst n).x0 < 2251799813685229 ∨ (lst n).x1 < 2251799813685247 ∨ (lst n).x2 < 2251799813685247 ∨ (lst n).x3 < 2251799813685247 ∨ (lst n).x4 < 2251799813685247) := by
  have h0 := Fm.lim_bd 0 (n % Fm.P)
  have h1 := Fm.lim_bd 1 (n % Fm.P)
  have h2 := Fm.lim_bd 2 (n % Fm.P)
  have h3 := Fm.lim_bd 3 (n % Fm.P)
  have h4 := Fm.lim_bd 4 (n % Fm.P)
  have hn := lst_n n
  have hl : n % Fm.P < Fm.P := Int.emod_lt_of_pos _ (by decide)
  unfold E5.n lst at *
  simp only at *
  generalize n % Fm.P = m at *
  generalize Fm.lim 0 m = x0 at *
  generalize Fm.lim 1 m = x1 at *
  generalize Fm.lim 2 m = x2 at *
  generalize Fm.lim 3 m = x3 at *
  generalize Fm.lim 4 m = x4 at *
  unfold Fm.V Fm.P at *
  refine ⟨by omega, ?_⟩
  omega

set_option maxRecDepth 100000 in
set_option maxHeartbeats 4000000 in
theorem lawLeast_any (a : E5) (w : World) (n : Int) (h : a = lst n) :
    Calls Try.prog 17 #[a.v] w fun e w' => e = .returned (.bool true) ∧ Below w.heap.size w w' := by
  obtain ⟨⟨b0, b1, b2, b3, b4⟩, hx⟩ := lst_least n
  rw [← h] at b0 b1 b2 b3 b4 hx
  clear h
  have HX := hidden hx
  clear hx
  simp only [E5.v]
  go_enter Try.func17, Try.ntmps17
  go_wp2_with fail
  go_loop [3] (fun i => ∃ k : Nat, k ≤ 5 ∧ i = .int .i64 k) (fun i => 5 - (intOf i).toNat)
  case atStart => exact ⟨0, by omega, rfl⟩
  case round =>
    obtain ⟨k, hk, rfl⟩ := hrel
    by_cases hlt : k < 5
    · have hc : k = 0 ∨ k = 1 ∨ k = 2 ∨ k = 3 ∨ k = 4 := by omega
      rcases hc with rfl | rfl | rfl | rfl | rfl
      · go_wp2_with fail
        go_round
        case rel => exact ⟨1, by omega, rfl⟩
        case measure => simp [intOf]
      · go_wp2_with fail
        go_round
        case rel => exact ⟨2, by omega, rfl⟩
        case measure => simp [intOf]
      · go_wp2_with fail
        go_round
        case rel => exact ⟨3, by omega, rfl⟩
        case measure => simp [intOf]
      · go_wp2_with fail
        go_round
        case rel => exact ⟨4, by omega, rfl⟩
        case measure => simp [intOf]
      · go_wp2_with fail
        go_round
        case rel => exact ⟨5, by omega, rfl⟩
        case measure => simp [intOf]
    · have hk5 : k = 5 := by omega
      subst hk5
      have hx := HX.out
      have hx0 : a.x0 < 2251799813685229 ∨ (¬ a.x0 < 2251799813685229 ∧ a.x1 < 2251799813685247) ∨ (¬ a.x0 < 2251799813685229 ∧ ¬ a.x1 < 2251799813685247 ∧ a.x2 < 2251799813685247) ∨ (¬ a.x0 < 2251799813685229 ∧ ¬ a.x1 < 2251799813685247 ∧ ¬ a.x2 < 2251799813685247 ∧ a.x3 < 2251799813685247) ∨ (¬ a.x0 < 2251799813685229 ∧ ¬ a.x1 < 2251799813685247 ∧ ¬ a.x2 < 2251799813685247 ∧ ¬ a.x3 < 2251799813685247 ∧ a.x4 < 2251799813685247) := by omega
      clear hx
      rcases hx0 with h0 | ⟨h0, h1⟩ | ⟨h0, h1, h2⟩ | ⟨h0, h1, h2, h3⟩ | ⟨h0, h1, h2, h3, h4⟩
      all_goals
        go_wp2_with fail
        go_ret
        exact ⟨rfl, bl_alloc _ _⟩

end Go.Proofs.Ytalalgppdhpfiaa
