import Derived.Test.YtbkiobfjabadeaaDoorSop
import Derived.Laws.Bits64b
import Derived.Laws.BitsAllLaws
namespace Go.Proofs.YtbkiobfjabadeaaDoor
open Go.RowKit
set_option linter.unusedVariables false
/-- may there be such proofs? -/
noncomputable def al (b c : Int) : Bool := decide (1 ≤ b ∧ b ≤ 64 ∧ bits .and .i64 b (b - 1) = 0 ∧ 1 ≤ c ∧ c ≤ 16 ∧ bits .and .i64 c (c - 1) = 0)
theorem al_in {b c : Int} (h : al b c = true) : ∃ B C : Nat, b = B ∧ c = C ∧ 1 ≤ B ∧ B ≤ 64 ∧ 1 ≤ C ∧ C ≤ 16 := by
  have := of_decide_eq_true h
  exact ⟨b.toNat, c.toNat, by omega, by omega, by omega, by omega, by omega, by omega⟩
set_option maxRecDepth 100000 in
set_option maxHeartbeats 4000000 in
theorem Allowed_any (b c : Int) (w : World) : Calls Tryd.prog 18 #[.agg #[.int .i64 b, .int .i64 c]] w fun e w' => e = .returned (.bool (al b c)) ∧ Below w.heap.size w w' := by
  have B0 := hidden (bl_alloc w (.cells #[.int .i64 b, .int .i64 c] 23))
  obtain ⟨A, hA⟩ : ∃ A, al b c = A := ⟨_, rfl⟩
  have HA := hidden hA
  rw [hA]
  clear hA
  by_cases h1 : 1 ≤ b
  · by_cases h2 : b ≤ 64
    · have wb : IntKind.i64.wrap (b - 1) = b - 1 := IntWalk.i64_in _ (by omega)
      obtain ⟨x, hx⟩ : ∃ x, bits .and .i64 b (b - 1) = x := ⟨_, rfl⟩
      by_cases h3 : x = 0
      · by_cases h4 : 1 ≤ c
        · by_cases h5 : c ≤ 16
          · have wc : IntKind.i64.wrap (c - 1) = c - 1 := IntWalk.i64_in _ (by omega)
            obtain ⟨y, hy⟩ : ∃ y, bits .and .i64 c (c - 1) = y := ⟨_, rfl⟩
            by_cases h6 : y = 0
            · have e : A = true := by
                rw [← HA.out]; unfold al
                exact decide_eq_true ⟨by omega, by omega, by rw [hx]; exact h3, by omega, by omega, by rw [hy]; exact h6⟩
              subst e
              clear HA
              go_enter Tryd.func18, Tryd.ntmps18
              go_wp2_with fail
              refine bodyPost_ret (v := .bool true) (by simp [results, Tryd.results18, go_sem] <;> assumption) rfl ⟨rfl, B0.out⟩
            · have e : A = false := by
                rw [← HA.out]; unfold al
                refine decide_eq_false ?_; rintro ⟨k1, k2, k3, k4, k5, k6⟩; first | omega | (rw [hx] at k3; omega) | (rw [hy] at k6; omega)
              subst e
              clear HA
              go_enter Tryd.func18, Tryd.ntmps18
              go_wp2_with fail
              refine bodyPost_ret (v := .bool false) (by simp [results, Tryd.results18, go_sem] <;> assumption) rfl ⟨rfl, B0.out⟩
          · have e : A = false := by
              rw [← HA.out]; unfold al
              refine decide_eq_false ?_; rintro ⟨k1, k2, k3, k4, k5, k6⟩; first | omega | (rw [hx] at k3; omega) | (rw [hy] at k6; omega)
            subst e
            clear HA
            go_enter Tryd.func18, Tryd.ntmps18
            go_wp2_with fail
            refine bodyPost_ret (v := .bool false) (by simp [results, Tryd.results18, go_sem] <;> assumption) rfl ⟨rfl, B0.out⟩
        · have e : A = false := by
            rw [← HA.out]; unfold al
            refine decide_eq_false ?_; rintro ⟨k1, k2, k3, k4, k5, k6⟩; first | omega | (rw [hx] at k3; omega) | (rw [hy] at k6; omega)
          subst e
          clear HA
          go_enter Tryd.func18, Tryd.ntmps18
          go_wp2_with fail
          refine bodyPost_ret (v := .bool false) (by simp [results, Tryd.results18, go_sem] <;> assumption) rfl ⟨rfl, B0.out⟩
      · have e : A = false := by
          rw [← HA.out]; unfold al
          refine decide_eq_false ?_; rintro ⟨k1, k2, k3, k4, k5, k6⟩; first | omega | (rw [hx] at k3; omega) | (rw [hy] at k6; omega)
        subst e
        clear HA
        go_enter Tryd.func18, Tryd.ntmps18
        go_wp2_with fail
        refine bodyPost_ret (v := .bool false) (by simp [results, Tryd.results18, go_sem] <;> assumption) rfl ⟨rfl, B0.out⟩
    · have e : A = false := by
        rw [← HA.out]; unfold al
        refine decide_eq_false ?_; rintro ⟨k1, k2, k3, k4, k5, k6⟩; first | omega | (rw [hx] at k3; omega) | (rw [hy] at k6; omega)
      subst e
      clear HA
      go_enter Tryd.func18, Tryd.ntmps18
      go_wp2_with fail
      refine bodyPost_ret (v := .bool false) (by simp [results, Tryd.results18, go_sem] <;> assumption) rfl ⟨rfl, B0.out⟩
  · have e : A = false := by
      rw [← HA.out]; unfold al
      refine decide_eq_false ?_; rintro ⟨k1, k2, k3, k4, k5, k6⟩; first | omega | (rw [hx] at k3; omega) | (rw [hy] at k6; omega)
    subst e
    clear HA
    go_enter Tryd.func18, Tryd.ntmps18
    go_wp2_with fail
    refine bodyPost_ret (v := .bool false) (by simp [results, Tryd.results18, go_sem] <;> assumption) rfl ⟨rfl, B0.out⟩
/-- the rounds of so many places -/
def rd (n : Nat) : Nat := if n ≤ 1 then 0 else if n ≤ 2 then 1 else if n ≤ 4 then 2 else if n ≤ 8 then 3 else if n ≤ 16 then 4 else if n ≤ 32 then 5 else if n ≤ 64 then 6 else if n ≤ 128 then 7 else if n ≤ 256 then 8 else if n ≤ 512 then 9 else 10
theorem rd_le (n : Nat) : rd n ≤ 10 := by
  unfold rd
  (repeat' split)
  all_goals omega
theorem rd_is (n k : Nat) (hk : k ≤ 10) (h1 : k = 0 ∨ 2 ^ (k - 1) < n) (h2 : n ≤ 2 ^ k) : rd n = k := by
  obtain rfl | rfl | rfl | rfl | rfl | rfl | rfl | rfl | rfl | rfl | rfl : k = 0 ∨ k = 1 ∨ k = 2 ∨ k = 3 ∨ k = 4 ∨ k = 5 ∨ k = 6 ∨ k = 7 ∨ k = 8 ∨ k = 9 ∨ k = 10 := by omega
  all_goals
    simp at h1 h2
    unfold rd
    (repeat' split)
    all_goals omega
end Go.Proofs.YtbkiobfjabadeaaDoor
