import Derived.Test.YtnbcfchbhappeaaDoorMx
namespace Go.Proofs.YtnbcfchbhappeaaDoor.Al
namespace Mx
/-- a sum from a place on -/
def tl (k n : Nat) (f : Nat → Int) : Int := sm (n - k) (fun j => f (k + j))
theorem tl_first {k n : Nat} (h : k < n) (f : Nat → Int) : tl k n f = f k + tl (k + 1) n f := by
  unfold tl
  rw [show n - k = (n - (k + 1)) + 1 by omega, sm_first]
  congr 1
  refine sm_congr fun i _ => ?_
  rw [show k + (i + 1) = k + 1 + i by omega]
theorem tl_all (n : Nat) (f : Nat → Int) : tl 0 n f = sm n f := by
  unfold tl
  rw [Nat.sub_zero]
  exact sm_congr fun i _ => by rw [Nat.zero_add]
theorem tl_C {m : Int} {k n : Nat} {f g : Nat → Int} (h : ∀ j, k ≤ j → j < n → C m (f j) (g j)) : C m (tl k n f) (tl k n g) := sm_C fun i hi => h (k + i) (by omega) (by omega)
theorem tl_mul (k n : Nat) (a : Int) (f : Nat → Int) : tl k n (fun j => a * f j) = a * tl k n f := sm_mul _ _ _
theorem tl_add (k n : Nat) (f g : Nat → Int) : tl k n (fun j => f j + g j) = tl k n f + tl k n g := sm_add _ _ _
/-- what x solves: the first k rows are done, the others begin with column k -/
def Sy (m : Int) (n k : Nat) (M : Nat → Nat → Int) (x : Nat → Int) : Prop :=
  (∀ i, i < k → i < n → C m (x i + tl (i + 1) n (fun j => M i j * x j)) (M i n)) ∧ ∀ i, k ≤ i → i < n → C m (tl k n (fun j => M i j * x j)) (M i n)
/-- what an elimination keeps -/
structure Ei (m : Int) (n : Nat) (A : Nat → Nat → Int) (r : Nat → Int) (k : Nat) (M : Nat → Nat → Int) : Prop where
  sol : ∀ x, Sy m n k M x → ∀ i, i < n → C m (sm n (fun j => A i j * x j)) (r i)
  det : C m (det (n - k) (fun i j => M (k + i) (k + j))) 0 ↔ C m (Mx.det n A) 0
theorem Ei.start {m : Int} {n : Nat} {A M : Nat → Nat → Int} {r : Nat → Int} (h : ∀ i j, i < n → j < n → M i j = A i j) (hr : ∀ i, i < n → M i n = r i) : Ei m n A r 0 M := by
  refine ⟨fun x hx i hi => ?_, ?_⟩
  · have := hx.2 i (by omega) hi
    rw [tl_all, hr i hi] at this
    rwa [sm_congr (g := fun j => M i j * x j) (fun j hj => by rw [h i j hi hj])]
  · rw [Nat.sub_zero, det_congr (B := A) (fun i j hi hj => by rw [Nat.zero_add, Nat.zero_add]; exact h i j hi hj)]
theorem Ei.none {m : Int} {n k : Nat} {A M : Nat → Nat → Int} {r : Nat → Int} (h : Ei m n A r k M) (hk : k < n) (h0 : ∀ i, k ≤ i → i < n → C m (M i k) 0) : C m (Mx.det n A) 0 := by
  refine h.det.1 ?_
  rw [show n - k = (n - k - 1) + 1 by omega]
  exact det_none fun i hi => h0 (k + i) (by omega) (by omega)
theorem Ei.full {m : Int} (pm : Pm m) {n : Nat} {A M : Nat → Nat → Int} {r : Nat → Int} (h : Ei m n A r n M) : ¬ C m (Mx.det n A) 0 := by
  rw [← h.det, Nat.sub_self]
  exact pm.one
theorem Ei.solve {m : Int} {n : Nat} {A M : Nat → Nat → Int} {r x : Nat → Int} (h : Ei m n A r n M) (hx : ∀ i, i < n → C m (x i + tl (i + 1) n (fun j => M i j * x j)) (M i n)) : ∀ i, i < n → C m (sm n (fun j => A i j * x j)) (r i) :=
  h.sol x ⟨fun i _ hi => hx i hi, fun i h1 h2 => absurd h1 (by omega)⟩
theorem sw_lo (M : Nat → Nat → Int) {k p i : Nat} (h1 : i < k) (h2 : k ≤ p) : sw M k p i = M i := by
  unfold sw
  rw [if_neg (by omega), if_neg (by omega)]
theorem Ei.swap {m : Int} {n k p : Nat} {A M : Nat → Nat → Int} {r : Nat → Int} (h : Ei m n A r k M) (hk : k < n) (hp : k ≤ p) (hpn : p < n) : Ei m n A r k (sw M k p) := by
  refine ⟨fun x hx => h.sol x ⟨fun i h1 h2 => ?_, fun i h1 h2 => ?_⟩, ?_⟩
  · have := hx.1 i h1 h2
    rwa [sw_lo M h1 hp] at this
  · have := hx.2 (if i = k then p else if i = p then k else i) (by split <;> (try split) <;> omega) (by split <;> (try split) <;> omega)
    have e : sw M k p (if i = k then p else if i = p then k else i) = M i := by
      unfold sw
      by_cases a : i = k
      · subst a
        rw [if_pos rfl]
        by_cases b : p = i
        · rw [if_pos b, b]
        · rw [if_neg b, if_pos rfl]
      · rw [if_neg a]
        by_cases b : i = p
        · subst b
          rw [if_pos rfl, if_pos rfl]
        · rw [if_neg b, if_neg a, if_neg b]
    rwa [e] at this
  · rw [← h.det]
    by_cases e : p = k
    · subst e
      rw [det_congr (B := fun i j => M (p + i) (p + j)) (fun i j _ _ => by unfold sw; split <;> simp_all)]
    · have e2 : (fun i j => sw M k p (k + i) (k + j)) = sw (fun i j => M (k + i) (k + j)) 0 (p - k) := by
        funext i j
        unfold sw
        by_cases a : i = 0
        · subst a
          rw [if_pos (by omega), if_pos rfl]
          show M p (k + j) = M (k + (p - k)) (k + j)
          rw [show k + (p - k) = p by omega]
        · rw [if_neg (by omega), if_neg a]
          by_cases b : i = p - k
          · rw [if_pos (by omega), if_pos b]; rfl
          · rw [if_neg (by omega), if_neg b]
      rw [e2, det_swap (by omega) (by omega) (by omega)]
      constructor
      · intro g
        have := g.neg
        exact this.symm.symm.trans (C.of_eq (by omega)) |> fun q => (C.of_eq (by grind)).trans q
      · intro g
        exact g.neg.trans (C.of_eq (by omega))
theorem Ei.step {m : Int} (pm : Pm m) {n k : Nat} {A M M' : Nat → Nat → Int} {r : Nat → Int} {u : Int} (h : Ei m n A r k M) (hk : k < n) (hu : C m (M k k * u) 1)
    (h0 : ∀ i j, i < k → j ≤ n → i < j → M' i j = M i j) (h1 : ∀ j, k < j → j ≤ n → C m (M' k j) (M k j * u))
    (h2 : ∀ i j, k < i → i < n → k < j → j ≤ n → C m (M' i j) (M i j - M i k * M' k j)) : Ei m n A r (k + 1) M' := by
  have hnz : ¬ C m (M k k) 0 := fun e => pm.one (hu.symm.trans e.zmul)
  refine ⟨fun x hx => h.sol x ⟨fun i i1 i2 => ?_, fun i i1 i2 => ?_⟩, ?_⟩
  · have := hx.1 i (by omega) i2
    rw [h0 i n i1 (by omega) i2] at this
    refine ((C.rfl (x := x i)).add (tl_C fun j j1 j2 => C.of_eq ?_)).trans this
    rw [h0 i j i1 (by omega) (by omega)]
  · have hrow := hx.1 k (by omega) hk
    have hT : C m (tl (k + 1) n (fun j => M' k j * x j)) (u * tl (k + 1) n (fun j => M k j * x j)) := by
      rw [← tl_mul]
      exact tl_C fun j j1 j2 => ((h1 j (by omega) (by omega)).mul C.rfl).trans (C.of_eq (by grind))
    rw [tl_first hk]
    by_cases e : i = k
    · subst e
      have g := (C.rfl (x := M i i)).mul (hrow.symm.trans ((C.rfl (x := x i)).add hT))
      have g2 : C m (M i i * M' i n) (M i n) := ((C.rfl (x := M i i)).mul (h1 n hk (by omega))).trans (((C.rfl (x := M i n)).mul hu).symm.symm |> fun q => (C.of_eq (by grind : M i i * (M i n * u) = M i n * (M i i * u))).trans (q.trans (C.of_eq (by grind))))
      have g3 : C m (M i i * (x i + u * tl (i + 1) n (fun j => M i j * x j))) (M i i * x i + tl (i + 1) n (fun j => M i j * x j)) := by
        have q := ((hu.mul (C.rfl (x := tl (i + 1) n (fun j => M i j * x j)))).trans (C.of_eq (Int.one_mul _)))
        exact (C.of_eq (by grind)).trans ((C.rfl (x := M i i * x i)).add q)
      exact g3.symm.trans (g.symm.trans g2)
    · have q := hx.2 i (by omega) i2
      have q2 : C m (tl (k + 1) n (fun j => M' i j * x j)) (tl (k + 1) n (fun j => M i j * x j) - M i k * tl (k + 1) n (fun j => M' k j * x j)) := by
        have e3 : tl (k + 1) n (fun j => M i j * x j) - M i k * tl (k + 1) n (fun j => M' k j * x j) = tl (k + 1) n (fun j => M i j * x j + -M i k * (M' k j * x j)) := by
          rw [tl_add, tl_mul]; grind
        rw [e3]
        exact tl_C fun j j1 j2 => ((h2 i j (by omega) i2 (by omega) (by omega)).mul C.rfl).trans (C.of_eq (by grind))
      have q3 := (q2.symm.trans q).trans (h2 i n (by omega) i2 (by omega) (by omega))
      have q4 := (C.rfl (x := M i k)).mul hrow
      have q5 := q3.add q4
      exact (C.of_eq (by grind)).trans (q5.trans (C.of_eq (by grind)))
  · rw [← h.det, show n - k = (n - (k + 1)) + 1 by omega]
    have s := det_step (m := m) (n := n - (k + 1)) (fun i j => M (k + i) (k + j)) (fun i => M (k + i) k * u) (fun i i1 i2 => by
      show C m (M (k + i) k) (M (k + i) k * u * M k k)
      exact ((C.of_eq (by grind : M (k + i) k * u * M k k = M (k + i) k * (M k k * u))).trans (((C.rfl (x := M (k + i) k)).mul hu).trans (C.of_eq (by grind)))).symm)
    have t : C m (Mx.det (n - (k + 1)) (fun i j => M' (k + 1 + i) (k + 1 + j))) (Mx.det (n - (k + 1)) (fun i j => M (k + (i + 1)) (k + (j + 1)) - M (k + (i + 1)) k * u * M (k + 0) (k + (j + 1)))) := by
      refine det_C fun i j hi hj => ?_
      rw [show k + (i + 1) = k + 1 + i by omega, show k + (j + 1) = k + 1 + j by omega]
      refine (h2 (k + 1 + i) (k + 1 + j) (by omega) (by omega) (by omega) (by omega)).trans ((C.rfl (x := M (k + 1 + i) (k + 1 + j))).sub ?_)
      exact ((C.rfl (x := M (k + 1 + i) k)).mul (h1 (k + 1 + j) (by omega) (by omega))).trans (C.of_eq (by rw [Nat.add_zero]; grind))
    constructor
    · intro g
      exact s.trans (t.symm.trans g).mulz
    · intro g
      exact t.trans (pm.mul hnz (s.symm.trans g))
end Mx
end Go.Proofs.YtnbcfchbhappeaaDoor.Al
