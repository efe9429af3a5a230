import Derived.Test.YthhcdjndfepbaaaMx
namespace Go.Proofs.Ythhcdjndfepbaaa
namespace Mx
/-- a product -/
def pr (g : Nat → Int) : Nat → Int
  | 0 => 1
  | n + 1 => pr g n * g n
theorem pr_nz {m : Int} (pm : Pm m) {g : Nat → Int} {n : Nat} (h : ∀ j, j < n → ¬ C m (g j) 0) : ∀ k, k ≤ n → ¬ C m (pr g k) 0
  | 0, _ => pm.one
  | k + 1, hk => fun e => h k (by omega) (pm.mul (pr_nz pm h k (by omega)) e)
/-- Newton's polynomial: from the front -/
def ps (c x : Nat → Int) : Nat → Int → Int
  | 0, _ => 0
  | d + 1, X => c 0 + (X - x 0) * ps (fun j => c (j + 1)) (fun l => x (l + 1)) d X
/-- the product of X less the places -/
def pd (x : Nat → Int) : Nat → Int → Int
  | 0, _ => 1
  | d + 1, X => (X - x 0) * pd (fun l => x (l + 1)) d X
theorem pd_last : ∀ (d : Nat) (x : Nat → Int) (X : Int), pd x (d + 1) X = pd x d X * (X - x d)
  | 0, x, X => by simp only [pd]; grind
  | d + 1, x, X => by
    have := pd_last d (fun l => x (l + 1)) X
    show (X - x 0) * pd (fun l => x (l + 1)) (d + 1) X = (X - x 0) * pd (fun l => x (l + 1)) d X * (X - x (d + 1))
    rw [this]
    grind
theorem ps_last : ∀ (d : Nat) (c x : Nat → Int) (X : Int), ps c x (d + 1) X = ps c x d X + c d * pd x d X
  | 0, c, x, X => by simp only [ps, pd]; grind
  | d + 1, c, x, X => by
    have := ps_last d (fun j => c (j + 1)) (fun l => x (l + 1)) X
    show c 0 + (X - x 0) * ps (fun j => c (j + 1)) (fun l => x (l + 1)) (d + 1) X = c 0 + (X - x 0) * ps (fun j => c (j + 1)) (fun l => x (l + 1)) d X + c (d + 1) * ((X - x 0) * pd (fun l => x (l + 1)) d X)
    rw [this]
    grind
theorem pd_root : ∀ (d : Nat) (x : Nat → Int) (t : Nat), t < d → pd x d (x t) = 0
  | 0, _, _, h => absurd h (by omega)
  | d + 1, x, 0, _ => by simp only [pd]; grind
  | d + 1, x, t + 1, h => by
    have := pd_root d (fun l => x (l + 1)) t (by omega)
    show (x (t + 1) - x 0) * pd (fun l => x (l + 1)) d (x (t + 1)) = 0
    rw [this]
    grind
theorem ps_C {m : Int} : ∀ {d : Nat} {c c' x : Nat → Int} {X : Int}, (∀ j, j < d → C m (c j) (c' j)) → C m (ps c x d X) (ps c' x d X)
  | 0, _, _, _, _, _ => C.rfl
  | d + 1, c, c', x, X, h => (h 0 (by omega)).add (C.rfl.mul (ps_C fun j hj => h (j + 1) (by omega)))
/-- a table of differences: what Newton's steps are -/
structure Dd (m : Int) (n a : Nat) (X Y : Nat → Int) (F : Nat → Nat → Int) : Prop where
  z : ∀ i, i < n → F 0 i = Y i
  s : ∀ k i, k + 1 < a → k + 1 ≤ i → i < n → C m (F (k + 1) i * (X i - X (i - (k + 1)))) (F k i - F k (i - 1))
/-- the polynomial of a part of the table -/
def tp (X : Nat → Int) (F : Nat → Nat → Int) (s k : Nat) (x : Int) : Int := ps (fun j => F j (s + j)) (fun l => X (s + l)) k x
theorem tp_last (X : Nat → Int) (F : Nat → Nat → Int) (s k : Nat) (x : Int) : tp X F s (k + 1) x = tp X F s k x + F k (s + k) * pd (fun l => X (s + l)) k x := ps_last k _ _ x
theorem tp_diff {m : Int} {n a : Nat} {X Y : Nat → Int} {F : Nat → Nat → Int} (h : Dd m n a X Y F) (x : Int) : ∀ (k s : Nat), k < a → s + k + 1 < n → C m (tp X F (s + 1) (k + 1) x - tp X F s (k + 1) x) ((F k (s + k + 1) - F k (s + k)) * pd (fun l => X (s + 1 + l)) k x)
  | 0, s, _, _ => by
    refine C.of_eq ?_
    rw [tp_last, tp_last]
    simp only [tp, ps, pd, Nat.add_zero]
    grind
  | k + 1, s, hk, hs => by
    have ih := tp_diff h x k s (by omega) (by omega)
    rw [tp_last X F (s + 1) (k + 1), tp_last X F s (k + 1)]
    have e1 : pd (fun l => X (s + l)) (k + 1) x = (x - X s) * pd (fun l => X (s + 1 + l)) k x := by
      show (x - X (s + 0)) * pd (fun l => X (s + (l + 1))) k x = _
      rw [Nat.add_zero]
      have : (fun l => X (s + (l + 1))) = (fun l => X (s + 1 + l)) := by funext l; rw [show s + (l + 1) = s + 1 + l by omega]
      rw [this]
    have e2 := pd_last k (fun l => X (s + 1 + l)) x
    have st := h.s k (s + k + 1) hk (by omega) (by omega)
    rw [show s + k + 1 - (k + 1) = s by omega, show s + k + 1 - 1 = s + k by omega] at st
    rw [e1, e2, show s + 1 + (k + 1) = s + (k + 1) + 1 by omega, show s + (k + 1) = s + k + 1 by omega, show s + 1 + k = s + k + 1 by omega]
    have q := (ih.trans ((st.symm).mul C.rfl)).add (C.rfl (x := F (k + 1) (s + k + 1 + 1) * (pd (fun l => X (s + 1 + l)) k x * (x - X (s + k + 1))) - F (k + 1) (s + k + 1) * ((x - X s) * pd (fun l => X (s + 1 + l)) k x)))
    exact (C.of_eq (by grind)).trans (q.trans (C.of_eq (by grind)))
theorem tp_meets {m : Int} {n a : Nat} {X Y : Nat → Int} {F : Nat → Nat → Int} (h : Dd m n a X Y F) : ∀ (k s t : Nat), k < a → s + k < n → s ≤ t → t ≤ s + k → C m (tp X F s (k + 1) (X t)) (Y t)
  | 0, s, t, _, hn, h1, h2 => by
    obtain rfl : t = s := by omega
    rw [tp_last]
    refine C.of_eq ?_
    simp only [tp, ps, pd, Nat.add_zero]
    rw [h.z t (by omega)]
    grind
  | k + 1, s, t, ha, hn, h1, h2 => by
    rw [tp_last]
    by_cases e : t = s + k + 1
    · subst e
      have d := tp_diff h (X (s + k + 1)) k s (by omega) (by omega)
      have st := h.s k (s + k + 1) ha (by omega) (by omega)
      rw [show s + k + 1 - (k + 1) = s by omega, show s + k + 1 - 1 = s + k by omega] at st
      have e1 : pd (fun l => X (s + l)) (k + 1) (X (s + k + 1)) = (X (s + k + 1) - X s) * pd (fun l => X (s + 1 + l)) k (X (s + k + 1)) := by
        show (X (s + k + 1) - X s) * pd (fun l => X (s + (l + 1))) k (X (s + k + 1)) = _
        have : (fun l => X (s + (l + 1))) = (fun l => X (s + 1 + l)) := by funext l; rw [show s + (l + 1) = s + 1 + l by omega]
        rw [this]
      have ih := tp_meets h k (s + 1) (s + k + 1) (by omega) (by omega) (by omega) (by omega)
      rw [e1, show s + (k + 1) = s + k + 1 by omega]
      have q := (d.trans (st.symm.mul C.rfl)).symm
      have q2 := (C.rfl (x := tp X F s (k + 1) (X (s + k + 1)))).add q
      exact (C.of_eq (by grind)).trans (q2.trans ((C.of_eq (by grind)).trans ih))
    · have r : pd (fun l => X (s + l)) (k + 1) (X (s + (t - s))) = 0 := pd_root (k + 1) (fun l => X (s + l)) (t - s) (by omega)
      rw [show s + (t - s) = t by omega] at r
      rw [r]
      exact (C.of_eq (by grind)).trans (tp_meets h k s t (by omega) (by omega) h1 (by omega))
/-- Newton's steps meet the values -/
theorem Dd.meets {m : Int} {n : Nat} {X Y st : Nat → Int} {F : Nat → Nat → Int} (h : Dd m n n X Y F) (hs : ∀ i, i < n → st i = F i i) (t : Nat) (ht : t < n) : C m (ps st X n (X t)) (Y t) := by
  have q := tp_meets h (n - 1) 0 t (by omega) (by omega) (by omega) (by omega)
  rw [show n - 1 + 1 = n by omega] at q
  refine (ps_C (c' := fun j => F j (0 + j)) fun j hj => C.of_eq (by rw [Nat.zero_add]; exact hs j hj)).trans ?_
  have e : (fun l => X (0 + l)) = X := by funext l; rw [Nat.zero_add]
  unfold tp at q
  rw [e] at q
  exact q
/-- a polynomial times X less x, and a number -/
theorem ev_out {m : Int} {n : Nat} {c c' : Nat → Int} {st x : Int} (hn : 0 < n) (h0 : C m (c' 0) (st - x * c 0)) (hi : ∀ i, 0 < i → i < n → C m (c' i) (c (i - 1) - x * c i)) (hl : C m (c (n - 1)) 0) (X : Int) : C m (ev n c' X) (st + (X - x) * ev n c X) := by
  obtain ⟨k, rfl⟩ : ∃ k, n = k + 1 := ⟨n - 1, by omega⟩
  rw [Nat.add_sub_cancel] at hl
  have e1 : ev (k + 1) c X = ev k c X + c k * X ^ k := rfl
  have e2 := ev_first k c X
  have e3 : C m (ev k (fun i => c' (i + 1)) X) (ev k c X - x * ev k (fun i => c (i + 1)) X) := by
    have q : ev k c X - x * ev k (fun i => c (i + 1)) X = ev k (fun i => c i - x * c (i + 1)) X := by rw [ev_sub, ev_mul]
    rw [q]
    exact ev_C (fun i hi2 => by
      have := hi (i + 1) (by omega) (by omega)
      rwa [Nat.add_sub_cancel] at this) C.rfl
  rw [ev_first k c' X]
  have q := h0.add ((C.rfl (x := X)).mul e3)
  have z : C m (X * (c k * X ^ k)) 0 := hl.zmul.mulz
  have r := q.add z.symm
  exact (C.of_eq (by grind)).trans (r.trans (C.of_eq (by grind)))
end Mx
end Go.Proofs.Ythhcdjndfepbaaa
