import Derived.Test.YtaejedhdpilhjaaDoorSdg
import Derived.Deep.LoopGhost
namespace Go.Proofs.YtaejedhdpilhjaaDoor
open Go.RowKit

/-- the digits of a non-adjacent form from place i on, c being carried -/
def nf (N : Int) (m : Nat) : Nat → Nat → Int → Nat → Int
  | 0, _, _, _ => 0
  | f + 1, i, c, j => if 254 ≤ i then 0 else if (win N i m + c) % 2 = 0 then nf N m f (i + 1) c j else if j = i then win N i m + c - (win N i m + c) / 2 ^ (m - 1) * 2 ^ m else nf N m f (i + m) ((win N i m + c) / 2 ^ (m - 1)) j
theorem nf_low (N : Int) (m f : Nat) : ∀ (i : Nat) (c : Int) (j : Nat), j < i → nf N m f i c j = 0 := by
  induction f with
  | zero => intro i c j _; rfl
  | succ f ih =>
    intro i c j h
    rw [nf]
    split
    · rfl
    split
    · exact ih _ _ _ (by omega)
    rw [if_neg (by omega)]
    exact ih _ _ _ (by omega)
/-- what is done and what is to come -/
structure Nf (N : Int) (m f i : Nat) (c : Int) (g : Nat → Int) : Prop where
  fu : 254 ≤ i + f
  c01 : c = 0 ∨ c = 1
  z : ∀ j, i ≤ j → g j = 0
  t : ∀ j, j < 254 → nf N m 254 0 0 j = if j < i then g j else nf N m f i c j
theorem Nf.start (N : Int) (m : Nat) : Nf N m 254 0 0 (fun _ => 0) := ⟨by omega, Or.inl rfl, fun _ _ => rfl, fun j _ => by rw [if_neg (by omega)]⟩
theorem Nf.even {N : Int} {m f i : Nat} {c : Int} {g : Nat → Int} (h : Nf N m f i c g) (hi : i < 254) (he : (win N i m + c) % 2 = 0) : Nf N m (f - 1) (i + 1) c g := by
  have fu := h.fu
  obtain ⟨f, rfl⟩ : ∃ k, f = k + 1 := ⟨f - 1, by omega⟩
  refine ⟨by omega, h.c01, fun j hj => h.z j (by omega), fun j hj => ?_⟩
  rw [h.t j hj]
  by_cases h1 : j < i
  · rw [if_pos h1, if_pos (by omega)]
  · rw [if_neg h1, nf, if_neg (by omega), if_pos he, Nat.add_sub_cancel]
    by_cases h2 : j < i + 1
    · rw [if_pos h2, nf_low _ _ _ _ _ _ h2, h.z j (by omega)]
    · rw [if_neg h2]
theorem Nf.odd {N : Int} {m f i : Nat} {c : Int} {g : Nat → Int} (h : Nf N m f i c g) (hi : i < 254) (hm : 1 ≤ m) (he : ¬ (win N i m + c) % 2 = 0) (hq : (win N i m + c) / 2 ^ (m - 1) = 0 ∨ (win N i m + c) / 2 ^ (m - 1) = 1) :
    Nf N m (f - 1) (i + m) ((win N i m + c) / 2 ^ (m - 1)) (fun j => if j = i then win N i m + c - (win N i m + c) / 2 ^ (m - 1) * 2 ^ m else g j) := by
  have fu := h.fu
  obtain ⟨f, rfl⟩ : ∃ k, f = k + 1 := ⟨f - 1, by omega⟩
  refine ⟨by omega, hq, fun j hj => ?_, fun j hj => ?_⟩
  · rw [if_neg (by omega)]
    exact h.z j (by omega)
  rw [h.t j hj]
  by_cases h1 : j < i
  · rw [if_pos h1, if_pos (by omega), if_neg (by omega)]
  · rw [if_neg h1, nf, if_neg (by omega), if_neg he, Nat.add_sub_cancel]
    by_cases h2 : j = i
    · rw [if_pos h2, if_pos (by omega), if_pos h2]
    · rw [if_neg h2]
      by_cases h3 : j < i + m
      · rw [if_pos h3, nf_low _ _ _ _ _ _ h3, if_neg h2, h.z j (by omega)]
      · rw [if_neg h3]
theorem Nf.done {N : Int} {m f i : Nat} {c : Int} {g : Nat → Int} (h : Nf N m f i c g) (hi : 254 ≤ i) (j : Nat) (hj : j < 254) : g j = nf N m 254 0 0 j := by rw [h.t j hj, if_pos (by omega)]
theorem naf_q (x c M H : Int) (hM : M = 2 * H) (h0 : 0 ≤ x) (h1 : x < M) (hc : c = 0 ∨ c = 1) (hH : 0 < H) (ho : ¬ (x + c) % 2 = 0) : (x + c) / H = 0 ∨ (x + c) / H = 1 := by
  have a : x + c < M := by omega
  have b : 0 ≤ (x + c) / H := Int.ediv_nonneg (by omega) (by omega)
  have d : (x + c) / H < 2 := Int.ediv_lt_of_lt_mul hH (by omega)
  omega

end Go.Proofs.YtaejedhdpilhjaaDoor
