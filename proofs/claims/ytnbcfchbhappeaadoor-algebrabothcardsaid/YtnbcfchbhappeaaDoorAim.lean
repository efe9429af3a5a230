import Derived.Test.YtnbcfchbhappeaaDoorArw
namespace Go.Proofs.YtnbcfchbhappeaaDoor.Al
open Go.RowKit
/-- the product of all that are not 0 -/
noncomputable def prz (m : Int) (a : Nat → Int) : Nat → Int
  | 0 => 1
  | k + 1 => if a k % m = 0 then prz m a k else prz m a k * a k
theorem c_zero {m x : Int} : Mx.C m x 0 ↔ x % m = 0 := ⟨fun h => by have := h.mod; rwa [Int.zero_emod] at this, fun h => Mx.C.of_mod (by rw [h, Int.zero_emod])⟩
theorem prz_skip {m : Int} {a : Nat → Int} {k : Nat} (h : Mx.C m (a k) 0) : prz m a (k + 1) = prz m a k := if_pos (c_zero.1 h)
theorem prz_next {m : Int} {a : Nat → Int} {k : Nat} (h : ¬ Mx.C m (a k) 0) : prz m a (k + 1) = prz m a k * a k := if_neg (fun e => h (c_zero.2 e))
theorem prz_nz {m : Int} (pm : Mx.Pm m) (a : Nat → Int) : ∀ k, ¬ Mx.C m (prz m a k) 0
  | 0 => pm.one
  | k + 1 => fun e => by
    by_cases h : Mx.C m (a k) 0
    · rw [prz_skip h] at e; exact prz_nz pm a k e
    · rw [prz_next h] at e; exact h (pm.mul (prz_nz pm a k) e)
section
variable {E : Type} {nn : E → Int} {ok : E → Prop} {m : Int} {n k i : Nat} {a : Nat → Int} {s : E} {f : Nat → E}
/-- forwards -/
structure Fw (nn : E → Int) (ok : E → Prop) (m : Int) (n k : Nat) (a : Nat → Int) (s : E) (f : Nat → E) : Prop where
  so : ok s
  s : Mx.C m (nn s) (prz m a k)
  o : ∀ j, j < n → ok (f j)
  z : ∀ j, j < n → (Mx.C m (a j) 0 ∨ k ≤ j) → Mx.C m (nn (f j)) 0
  l : ∀ j, j < k → ¬ Mx.C m (a j) 0 → Mx.C m (nn (f j)) (prz m a j)
theorem Fw.skip (h : Fw nn ok m n k a s f) (hz : Mx.C m (a k) 0) : Fw nn ok m n (k + 1) a s f :=
  ⟨h.so, by rw [prz_skip hz]; exact h.s, h.o, fun j hj e => h.z j hj (e.imp id (fun q => by omega)), fun j hj e => by
    by_cases q : j = k
    · subst q; exact absurd hz e
    · exact h.l j (by omega) e⟩
theorem Fw.next (h : Fw nn ok m n k a s f) (hz : ¬ Mx.C m (a k) 0) {z : E} (zo : ok z) (zn : Mx.C m (nn z) (nn s * a k)) : Fw nn ok m n (k + 1) a z (fun j => if j = k then s else f j) :=
  ⟨zo, by rw [prz_next hz]; exact zn.trans (h.s.mul Mx.C.rfl), fun j hj => by
    by_cases q : j = k
    · rw [if_pos q]; exact h.so
    · rw [if_neg q]; exact h.o j hj, fun j hj e => by
    by_cases q : j = k
    · subst q; rcases e with e | e
      · exact absurd e hz
      · omega
    · rw [if_neg q]; exact h.z j hj (e.imp id (fun q => by omega)), fun j hj e => by
    by_cases q : j = k
    · subst q; rw [if_pos rfl]; exact h.s
    · rw [if_neg q]; exact h.l j (by omega) e⟩
/-- backwards -/
structure Bw (nn : E → Int) (ok : E → Prop) (m : Int) (n k : Nat) (a : Nat → Int) (s : E) (f : Nat → E) : Prop where
  so : ok s
  s : Mx.C m (nn s * prz m a k) 1
  o : ∀ j, j < n → ok (f j)
  z : ∀ j, j < n → Mx.C m (a j) 0 → Mx.C m (nn (f j)) 0
  l : ∀ j, j < k → ¬ Mx.C m (a j) 0 → Mx.C m (nn (f j)) (prz m a j)
  d : ∀ j, k ≤ j → j < n → ¬ Mx.C m (a j) 0 → Mx.C m (a j * nn (f j)) 1
theorem Fw.turn (h : Fw nn ok m n n a s f) {z : E} (zo : ok z) (zn : Mx.C m (nn s * nn z) 1) : Bw nn ok m n n a z f :=
  ⟨zo, (Mx.C.of_eq (Int.mul_comm _ _)).trans ((h.s.symm.mul Mx.C.rfl).trans zn), h.o, fun j hj e => h.z j hj (.inl e), h.l, fun j h1 h2 => by omega⟩
theorem Bw.skip (h : Bw nn ok m n (i + 1) a s f) (hz : Mx.C m (a i) 0) : Bw nn ok m n i a s f :=
  ⟨h.so, by have := h.s; rwa [prz_skip hz] at this, h.o, h.z, fun j hj => h.l j (by omega), fun j h1 h2 e => by
    by_cases q : j = i
    · subst q; exact absurd hz e
    · exact h.d j (by omega) h2 e⟩
theorem bw_a (s x p : Int) : s * x * p = s * (p * x) := by grind
theorem bw_b (x p s : Int) : x * (p * s) = s * (p * x) := by grind
theorem Bw.next (h : Bw nn ok m n (i + 1) a s f) (hi : i < n) (hz : ¬ Mx.C m (a i) 0) {y z : E} (yo : ok y) (yn : Mx.C m (nn y) (nn (f i) * nn s)) (zo : ok z) (zn : Mx.C m (nn z) (nn s * a i)) : Bw nn ok m n i a z (fun j => if j = i then y else f j) := by
  have hs := h.s
  rw [prz_next hz] at hs
  refine ⟨zo, (zn.mul Mx.C.rfl).trans ((Mx.C.of_eq (bw_a _ _ _)).trans hs), fun j hj => ?_, fun j hj e => ?_, fun j hj e => ?_, fun j h1 h2 e => ?_⟩
  · by_cases q : j = i
    · rw [if_pos q]; exact yo
    · rw [if_neg q]; exact h.o j hj
  · by_cases q : j = i
    · subst q; exact absurd e hz
    · rw [if_neg q]; exact h.z j hj e
  · rw [if_neg (by omega)]; exact h.l j (by omega) e
  · by_cases q : j = i
    · subst q
      rw [if_pos rfl]
      exact (Mx.C.rfl.mul (yn.trans ((h.l j (by omega) e).mul Mx.C.rfl))).trans ((Mx.C.of_eq (bw_b _ _ _)).trans hs)
    · rw [if_neg q]; exact h.d j (by omega) h2 e
end
end Go.Proofs.YtnbcfchbhappeaaDoor.Al
