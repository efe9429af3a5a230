import Derived.Test.YtnbcfchbhappeaaDoorAin
namespace Go.Proofs.YtnbcfchbhappeaaDoor.Al
open Go.RowKit
/-- a system: rows in blocks of their own, each from a column on -/
structure Ms (w : World) (S n : Nat) (b c : Nat → Nat) (lo : Nat → Nat) (M : Nat → Nat → Int) : Prop where
  h : ∀ i, i < n → w.cell? ⟨S, i, none⟩ = some (.slice (some ⟨b i, 0, none⟩) (n + 1) (c i))
  hf : ∀ i, i < n → w.frozen? ⟨S, i, none⟩ = false
  cap : ∀ i, i < n → n + 1 ≤ c i
  r : ∀ i, i < n → Rk w (b i) (lo i) (n + 1 - lo i) (fun j => M i (lo i + j))
  apart : ∀ i j, i < n → j < n → i ≠ j → b i ≠ b j
  off : ∀ i, i < n → b i ≠ S
  lo : ∀ i, i < n → lo i ≤ n
theorem Ms.keep {w w' : World} {S n : Nat} {b c lo : Nat → Nat} {M : Nat → Nat → Int} (h : Ms w S n b c lo M) (hb : Below w.heap.size w w') : Ms w' S n b c lo M :=
  ⟨fun i hi => cell_keep (h.h i hi) hb, fun i hi => frozen_keep (h.hf i hi) (World.block_lt_of_cell? _ ⟨S, i, none⟩ (h.h i hi)) hb, h.cap, fun i hi => (h.r i hi).keep hb, h.apart, h.off, h.lo⟩
theorem Ms.cell {w : World} {S n : Nat} {b c lo : Nat → Nat} {M : Nat → Nat → Int} (h : Ms w S n b c lo M) {i j : Nat} (hi : i < n) (h1 : lo i ≤ j) (h2 : j ≤ n) : w.cell? ⟨b i, j, none⟩ = some (.int .i64 (M i j)) := by
  have := (h.r i hi).c (j - lo i) (by omega)
  rwa [show lo i + (j - lo i) = j by omega] at this
set_option maxRecDepth 100000 in
set_option maxHeartbeats 4000000 in
theorem pivot_any (S n cS k : Nat) (b c lo : Nat → Nat) (M : Nat → Nat → Int) (w : World) (hn40 : n ≤ 40) (hk : k < n) (hlo : ∀ i, k ≤ i → i < n → lo i ≤ k) (hM : Ms w S n b c lo M) :
    Calls Tryd.prog 54 #[.slice (some ⟨S, 0, none⟩) n cS, .int .i64 k] w fun e w' => Below w.heap.size w w' ∧ ((∃ p : Nat, e = .returned (.int .i64 p) ∧ k ≤ p ∧ p < n ∧ ¬ Mx.C 7 (M p k) 0) ∨ (e = .panicked [{ v := .iface 47 (.int .i64 61), recovered := false }] ∧ ∀ i, k ≤ i → i < n → Mx.C 7 (M i k) 0)) := by
  have HM := hidden hM
  have HL := hidden hlo
  have N40 := hidden hn40
  have k0 : (0 : Int) ≤ (k : Int) := by omega
  clear hn40 hM hlo
  go_enter Tryd.func54, Tryd.ntmps54
  go_wp2_with fail
  go_loopw [5] (fun kv w' => ∃ i : Nat, k ≤ i ∧ i ≤ n ∧ kv = .int .i64 (i : Int) ∧ Hid (∀ j, k ≤ j → j < i → Mx.C 7 (M j k) 0) ∧ Hid (Below w.heap.size w w')) (fun k _ => n - (intOf k).toNat)
  case atStart => exact ⟨k, by omega, by omega, rfl, hidden (fun j h1 h2 => absurd h1 (by omega)), hidden (Below.refl _ _)⟩
  case round =>
    obtain ⟨i, hi1, hi2, rfl, hz, hB⟩ := hrel
    by_cases hin : i < n
    · have i0 : (0 : Int) ≤ (i : Int) := by omega
      have i1 : (i : Int) < (n : Int) := by omega
      have i3 : (k : Int) < (n : Int) + 1 := by omega
      have i4 : (k : Int) < ((n + 1 : Nat) : Int) := by omega
      have w9 : IntKind.i64.wrap ((i : Int) + 1) = (i : Int) + 1 := IntWalk.i64_in _ (by have := N40.out; omega)
      have c1 := cell_keep (HM.out.h i hin) hB.out
      have c2 := cell_keep (HM.out.cell hin (HL.out i hi1 hin) (show k ≤ n by omega)) hB.out
      have IZ := hidden (fun w => sIsZero_any (M i k) w)
      unfold sv at IZ
      have m1 := mt_IsZero (M i k)
      by_cases h0 : M i k % 7 = 0
      · have hd : (M i k % 7 == 0) = true := by rw [beq_iff_eq]; exact h0
        simp only [hd] at IZ
        have NZ : Hid (∀ j, k ≤ j → j < i + 1 → Mx.C 7 (M j k) 0) := hidden (fun j h1 h2 => by
          by_cases e : j = i
          · subst e; exact Mx.C.of_mod h0
          · exact hz.out j h1 (by omega))
        go_wp2_with (first | (go_at_call 84; refine (IZ.out _).mono ?_; rintro e wa ⟨rfl, ha⟩; have HA := hidden (bl_trans hB.out ha); clear ha))
        go_roundw
        case rel => exact ⟨i + 1, by omega, by omega, by go_num, NZ, HA⟩
        case measure => simp [intOf]; omega
      · have hd : (M i k % 7 == 0) = false := by rw [beq_eq_false_iff_ne]; exact h0
        simp only [hd] at IZ
        have NZ : Hid (¬ Mx.C 7 (M i k) 0) := hidden (fun e => h0 e.mod)
        go_wp2_with (first | (go_at_call 84; refine (IZ.out _).mono ?_; rintro e wa ⟨rfl, ha⟩; have HA := hidden (bl_trans hB.out ha); clear ha))
        refine bodyPost_ret (v := .int .i64 i) (by simp [results, Tryd.results54, go_sem]) rfl ⟨HA.out, .inl ⟨i, rfl, hi1, hin, NZ.out⟩⟩
    · obtain rfl : i = n := by omega
      go_wp2_with fail
      exact ⟨rfl, hB.out, .inr ⟨rfl, hz.out⟩⟩
end Go.Proofs.YtnbcfchbhappeaaDoor.Al
