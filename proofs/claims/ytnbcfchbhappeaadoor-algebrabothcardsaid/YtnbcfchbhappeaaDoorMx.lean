namespace Go.Proofs.YtnbcfchbhappeaaDoor.Al
namespace Mx
/-- the same modulo m -/
def C (m x y : Int) : Prop := ∃ k, x - y = m * k
theorem C.rfl {m x : Int} : C m x x := ⟨0, by grind⟩
theorem C.of_eq {m x y : Int} (h : x = y) : C m x y := ⟨0, by grind⟩
theorem C.symm {m x y : Int} (h : C m x y) : C m y x := by obtain ⟨k, hk⟩ := h; exact ⟨-k, by grind⟩
theorem C.trans {m x y z : Int} (h : C m x y) (g : C m y z) : C m x z := by obtain ⟨k, hk⟩ := h; obtain ⟨j, hj⟩ := g; exact ⟨k + j, by grind⟩
theorem C.add {m x y u v : Int} (h : C m x y) (g : C m u v) : C m (x + u) (y + v) := by obtain ⟨k, hk⟩ := h; obtain ⟨j, hj⟩ := g; exact ⟨k + j, by grind⟩
theorem C.sub {m x y u v : Int} (h : C m x y) (g : C m u v) : C m (x - u) (y - v) := by obtain ⟨k, hk⟩ := h; obtain ⟨j, hj⟩ := g; exact ⟨k - j, by grind⟩
theorem C.neg {m x y : Int} (h : C m x y) : C m (-x) (-y) := by obtain ⟨k, hk⟩ := h; exact ⟨-k, by grind⟩
theorem C.mul {m x y u v : Int} (h : C m x y) (g : C m u v) : C m (x * u) (y * v) := by obtain ⟨k, hk⟩ := h; obtain ⟨j, hj⟩ := g; exact ⟨k * u + y * j, by grind⟩
theorem C.zmul {m x u : Int} (h : C m x 0) : C m (x * u) 0 := (h.mul (C.rfl (x := u))).trans (C.of_eq (by grind))
theorem C.mulz {m x u : Int} (h : C m x 0) : C m (u * x) 0 := ((C.rfl (x := u)).mul h).trans (C.of_eq (by grind))
theorem C.pow {m x y : Int} (h : C m x y) (n : Nat) : C m (x ^ n) (y ^ n) := by
  induction n with
  | zero => exact C.of_eq (by simp)
  | succ n ih => rw [Int.pow_succ, Int.pow_succ]; exact ih.mul h
theorem C.of_mod {m x y : Int} (h : x % m = y % m) : C m x y := ⟨x / m - y / m, by have h1 := Int.mul_ediv_add_emod x m; have h2 := Int.mul_ediv_add_emod y m; grind⟩
theorem C.mod {m x y : Int} (h : C m x y) : x % m = y % m := by
  obtain ⟨k, hk⟩ := h
  rw [show x = y + m * k by grind, Int.add_mul_emod_self_left]
theorem C.emod (m x : Int) : C m (x % m) x := C.of_mod (Int.emod_emod_of_dvd _ (Int.dvd_refl _))

/-- a modulus by which all but 0 can be inverted -/
structure Pm (m : Int) : Prop where
  one : ¬ C m 1 0
  inv : ∀ a, ¬ C m a 0 → ∃ b, C m (a * b) 1
theorem Pm.mul {m a b : Int} (h : Pm m) (ha : ¬ C m a 0) (hab : C m (a * b) 0) : C m b 0 := by
  obtain ⟨c, hc⟩ := h.inv a ha
  have h1 : C m (a * c * b) b := (hc.mul (C.rfl (x := b))).trans (C.of_eq (by grind))
  have h2 : C m (a * c * b) 0 := (C.of_eq (by grind : a * c * b = c * (a * b))).trans hab.mulz
  exact h1.symm.trans h2

/-- a sum -/
def sm : Nat → (Nat → Int) → Int
  | 0, _ => 0
  | n + 1, f => sm n f + f n
theorem sm_congr {n : Nat} {f g : Nat → Int} (h : ∀ i, i < n → f i = g i) : sm n f = sm n g := by
  induction n with
  | zero => rfl
  | succ n ih => simp only [sm]; rw [ih (fun i hi => h i (by omega)), h n (by omega)]
theorem sm_C {m : Int} {n : Nat} {f g : Nat → Int} (h : ∀ i, i < n → C m (f i) (g i)) : C m (sm n f) (sm n g) := by
  induction n with
  | zero => exact C.rfl
  | succ n ih => exact (ih (fun i hi => h i (by omega))).add (h n (by omega))
theorem sm_add (n : Nat) (f g : Nat → Int) : sm n (fun i => f i + g i) = sm n f + sm n g := by
  induction n with
  | zero => rfl
  | succ n ih => simp only [sm, ih]; grind
theorem sm_mul (n : Nat) (a : Int) (f : Nat → Int) : sm n (fun i => a * f i) = a * sm n f := by
  induction n with
  | zero => simp [sm]
  | succ n ih => simp only [sm, ih]; grind
theorem sm_zero (n : Nat) : sm n (fun _ => 0) = 0 := by
  induction n with
  | zero => rfl
  | succ n ih => simp only [sm, ih]; rfl
theorem sm_zeroC {m : Int} {n : Nat} {f : Nat → Int} (h : ∀ i, i < n → C m (f i) 0) : C m (sm n f) 0 := (sm_C h).trans (C.of_eq (sm_zero n))
theorem sm_one {n r : Nat} {f : Nat → Int} (hr : r < n) (h : ∀ i, i < n → i ≠ r → f i = 0) : sm n f = f r := by
  induction n with
  | zero => omega
  | succ n ih =>
    simp only [sm]
    by_cases hn : r = n
    · subst hn
      rw [sm_congr (g := fun _ => 0) (fun i hi => h i (by omega) (by omega)), sm_zero]; omega
    · rw [ih (by omega) (fun i hi hn => h i (by omega) hn), h n (by omega) (by omega)]; omega
theorem sm_two {n r s : Nat} {f : Nat → Int} (hr : r < n) (hs : s < n) (hrs : r ≠ s) (h : ∀ i, i < n → i ≠ r → i ≠ s → f i = 0) : sm n f = f r + f s := by
  have e : sm n f = sm n (fun i => (if i = r then f r else 0) + (if i = r then 0 else f i)) := sm_congr fun i _ => by by_cases hi : i = r <;> simp [hi]
  rw [e, sm_add, sm_one hr (fun i _ hi => by simp [hi]), sm_one hs (fun i hi hn => by
    by_cases hr' : i = r
    · simp [hr']
    · simp [hr', h i hi hr' hn])]
  simp [hrs.symm]
/-- the first one apart -/
theorem sm_first (n : Nat) (f : Nat → Int) : sm (n + 1) f = f 0 + sm n (fun i => f (i + 1)) := by
  induction n with
  | zero => simp [sm]
  | succ n ih => rw [sm, ih, sm]; omega

def sg : Nat → Int
  | 0 => 1
  | n + 1 => - sg n
def sk (i r : Nat) : Nat := if r < i then r else r + 1
def mi (A : Nat → Nat → Int) (i : Nat) : Nat → Nat → Int := fun r c => A (sk i r) (c + 1)
/-- the determinant, by its first column -/
def det : Nat → (Nat → Nat → Int) → Int
  | 0, _ => 1
  | n + 1, A => sm (n + 1) (fun i => sg i * A i 0 * det n (mi A i))
theorem det_C {m : Int} {n : Nat} : ∀ {A B : Nat → Nat → Int}, (∀ i j, i < n → j < n → C m (A i j) (B i j)) → C m (det n A) (det n B) := by
  induction n with
  | zero => intro A B _; exact C.rfl
  | succ n ih =>
    intro A B h
    refine sm_C fun i hi => ((C.rfl (x := sg i)).mul (h i 0 hi (by omega))).mul (ih fun r c hr hc => h _ _ ?_ (by omega))
    unfold sk; split <;> omega
theorem det_congr {n : Nat} {A B : Nat → Nat → Int} (h : ∀ i j, i < n → j < n → A i j = B i j) : det n A = det n B := by
  have := det_C (m := 0) (n := n) (A := A) (B := B) (fun i j hi hj => C.of_eq (h i j hi hj))
  obtain ⟨k, hk⟩ := this
  grind
/-- a row in the place of another -/
def sr (A : Nat → Nat → Int) (r : Nat) (X : Nat → Int) : Nat → Nat → Int := fun i j => if i = r then X j else A i j
def sc (A : Nat → Nat → Int) (c : Nat) (X : Nat → Int) : Nat → Nat → Int := fun i j => if j = c then X i else A i j
theorem mi_sr_same (A : Nat → Nat → Int) (r : Nat) (X : Nat → Int) : mi (sr A r X) r = mi A r := by
  funext i j
  unfold mi sr sk
  rw [if_neg (by split <;> omega)]
theorem mi_sr (A : Nat → Nat → Int) (r i : Nat) (X : Nat → Int) (h : i ≠ r) : mi (sr A r X) i = sr (mi A i) (if r < i then r else r - 1) (fun c => X (c + 1)) := by
  funext a j
  unfold mi sr sk
  by_cases hr : r < i
  · rw [if_pos hr]
    by_cases ha : a = r
    · subst ha; simp [hr]
    · rw [if_neg ha, if_neg (by split <;> omega)]
  · rw [if_neg hr]
    by_cases ha : a = r - 1
    · subst ha
      rw [if_neg (show ¬ r - 1 < i by omega), if_pos (by omega), if_pos rfl]
    · rw [if_neg ha, if_neg (by split <;> omega)]
theorem det_row {n : Nat} : ∀ (A : Nat → Nat → Int) (r : Nat) (u v : Int) (X Y : Nat → Int), r < n → det n (sr A r (fun c => u * X c + v * Y c)) = u * det n (sr A r X) + v * det n (sr A r Y) := by
  induction n with
  | zero => intro A r u v X Y h; omega
  | succ n ih =>
    intro A r u v X Y hr
    simp only [det]
    rw [← sm_mul, ← sm_mul, ← sm_add]
    refine sm_congr fun i hi => ?_
    by_cases h : i = r
    · subst h
      rw [mi_sr_same, mi_sr_same, mi_sr_same]
      simp only [sr, if_true]
      grind
    · rw [mi_sr _ _ _ _ h, mi_sr _ _ _ _ h, mi_sr _ _ _ _ h, ih _ _ _ _ _ _ (by split <;> omega)]
      simp only [sr, if_neg h]
      grind
theorem det_adj {n : Nat} : ∀ (A : Nat → Nat → Int) (r : Nat), r + 1 < n → (∀ j, j < n → A r j = A (r + 1) j) → det n A = 0 := by
  induction n with
  | zero => intro A r h; omega
  | succ n ih =>
    intro A r hr h
    simp only [det]
    rw [sm_two (r := r) (s := r + 1) (by omega) hr (by omega) (fun i hi h1 h2 => by
      rw [show det n (mi A i) = 0 by
        by_cases hl : i < r
        · refine ih (mi A i) (r - 1) (by omega) (fun j hj => ?_)
          unfold mi sk
          rw [if_neg (by omega), if_neg (by omega), show r - 1 + 1 = r by omega]
          exact h _ (by omega)
        · refine ih (mi A i) r (by omega) (fun j hj => ?_)
          unfold mi sk
          rw [if_pos (by omega), if_pos (by omega)]
          exact h _ (by omega)]
      simp)]
    have e : det n (mi A r) = det n (mi A (r + 1)) := det_congr fun i j hi hj => by
      unfold mi sk
      by_cases h1 : i < r
      · rw [if_pos h1, if_pos (by omega)]
      · by_cases h2 : i = r
        · subst h2
          rw [if_neg (by omega), if_pos (by omega)]
          exact (h _ (by omega)).symm
        · rw [if_neg h1, if_neg (by omega)]
    rw [e, h 0 (by omega)]
    simp only [sg]
    grind
theorem sr_comm (A : Nat → Nat → Int) {r s : Nat} (h : r ≠ s) (X Y : Nat → Int) : sr (sr A r X) s Y = sr (sr A s Y) r X := by
  funext i j
  unfold sr
  by_cases h1 : i = s
  · rw [if_pos h1, if_neg (by omega), if_pos h1]
  · by_cases h2 : i = r
    · rw [if_neg h1, if_pos h2, if_pos h2]
    · rw [if_neg h1, if_neg h2, if_neg h2, if_neg h1]
theorem sr_self (A : Nat → Nat → Int) (r : Nat) : sr A r (A r) = A := by
  funext i j
  unfold sr
  by_cases h : i = r
  · rw [if_pos h, h]
  · rw [if_neg h]
/-- two rows changed for one another: if equal rows make 0, the sign turns -/
theorem swap_of {n r s : Nat} (hr : r < n) (hs : s < n) (hrs : r ≠ s) (h0 : ∀ B : Nat → Nat → Int, (∀ j, B r j = B s j) → det n B = 0) (A : Nat → Nat → Int) (X Y : Nat → Int) :
    det n (sr (sr A r X) s Y) = - det n (sr (sr A r Y) s X) := by
  have h := h0 (sr (sr A r (fun c => 1 * X c + 1 * Y c)) s (fun c => 1 * X c + 1 * Y c)) (fun j => by simp [sr, hrs])
  have e1 := h0 (sr (sr A r X) s X) (fun j => by simp [sr, hrs])
  have e2 := h0 (sr (sr A r Y) s Y) (fun j => by simp [sr, hrs])
  rw [det_row _ _ _ _ _ _ hs, sr_comm _ hrs, sr_comm _ hrs _ Y, det_row _ _ _ _ _ _ hr, det_row _ _ _ _ _ _ hr, ← sr_comm _ hrs, ← sr_comm _ hrs, ← sr_comm _ hrs, ← sr_comm _ hrs, e1, e2] at h
  grind
/-- two equal rows -/
theorem det_eq {n : Nat} : ∀ (d r : Nat) (A : Nat → Nat → Int), r + d + 1 < n → (∀ j, A r j = A (r + d + 1) j) → det n A = 0 := by
  intro d
  induction d with
  | zero => intro r A h e; exact det_adj A r h (fun j _ => e j)
  | succ d ih =>
    intro r A h e
    have sw := swap_of (n := n) (r := r + d + 1) (s := r + d + 2) (by omega) (by omega) (by omega) (fun B hB => det_adj B (r + d + 1) (by omega) (fun j _ => hB j)) A (A (r + d + 1)) (A (r + d + 2))
    rw [sr_self, sr_self] at sw
    rw [sw, ih r (sr (sr A (r + d + 1) (A (r + d + 2))) (r + d + 2) (A (r + d + 1))) (by omega) (fun j => by
      unfold sr
      rw [if_neg (by omega), if_neg (by omega), if_neg (by omega), if_pos rfl]
      exact e j)]
    rfl
theorem det_same {n r s : Nat} (hr : r < n) (hs : s < n) (hrs : r ≠ s) (A : Nat → Nat → Int) (h : ∀ j, A r j = A s j) : det n A = 0 := by
  by_cases hl : r < s
  · exact det_eq (s - r - 1) r A (by omega) (by rw [show r + (s - r - 1) + 1 = s by omega]; exact h)
  · exact det_eq (r - s - 1) s A (by omega) (by rw [show s + (r - s - 1) + 1 = r by omega]; exact fun j => (h j).symm)
/-- two rows of a matrix changed for one another -/
def sw (A : Nat → Nat → Int) (r s : Nat) : Nat → Nat → Int := fun i => if i = r then A s else if i = s then A r else A i
theorem det_swap {n r s : Nat} (hr : r < n) (hs : s < n) (hrs : r ≠ s) (A : Nat → Nat → Int) : det n (sw A r s) = - det n A := by
  have h := swap_of hr hs hrs (fun B hB => det_same hr hs hrs B hB) A (A s) (A r)
  rw [sr_comm _ hrs (A r) (A s)] at h
  have e1 : sr (sr A r (A s)) s (A r) = sw A r s := by
    funext i j
    unfold sr sw
    by_cases h1 : i = s
    · rw [if_pos h1]
      by_cases h2 : i = r
      · omega
      · rw [if_neg h2, if_pos h1]
    · rw [if_neg h1]
      by_cases h2 : i = r
      · rw [if_pos h2, if_pos h2]
      · rw [if_neg h2, if_neg h2, if_neg h1]
  have e2 : sr (sr A s (A s)) r (A r) = A := by rw [sr_self, sr_self]
  rw [e1, e2] at h
  exact h
/-- a row less a multiple of another -/
theorem det_less {n r s : Nat} (hr : r < n) (hs : s < n) (hrs : r ≠ s) (A : Nat → Nat → Int) (f : Int) : det n (sr A r (fun j => A r j - f * A s j)) = det n A := by
  have e : (fun j => A r j - f * A s j) = (fun j => 1 * A r j + -f * A s j) := by funext j; grind
  rw [e, det_row _ _ _ _ _ _ hr, sr_self, det_same hr hs hrs (sr A r (A s)) (fun j => by simp [sr, hrs.symm])]
  grind
/-- all rows behind the first one less multiples of it -/
def ro (B : Nat → Nat → Int) (f : Nat → Int) (k : Nat) : Nat → Nat → Int := fun i j => if 0 < i ∧ i ≤ k then B i j - f i * B 0 j else B i j
theorem det_ro {n : Nat} (B : Nat → Nat → Int) (f : Nat → Int) : ∀ k, k < n → det n (ro B f k) = det n B
  | 0, _ => det_congr fun i j _ _ => by unfold ro; rw [if_neg (by omega)]
  | k + 1, h => by
    have e : ro B f (k + 1) = sr (ro B f k) (k + 1) (fun j => ro B f k (k + 1) j - f (k + 1) * ro B f k 0 j) := by
      funext i j
      simp only [ro, sr]
      by_cases h1 : i = k + 1
      · subst h1
        rw [if_pos (by omega), if_pos rfl, if_neg (by omega), if_neg (by omega)]
      · rw [if_neg h1]
        by_cases h2 : 0 < i ∧ i ≤ k
        · rw [if_pos h2, if_pos (by omega)]
        · rw [if_neg h2, if_neg (by omega)]
    rw [e, det_less h (by omega) (by omega), det_ro B f k (by omega)]
/-- a first column that is 0 -/
theorem det_none {m : Int} {n : Nat} {A : Nat → Nat → Int} (h : ∀ i, i < n + 1 → C m (A i 0) 0) : C m (det (n + 1) A) 0 :=
  sm_zeroC fun i hi => ((h i hi).mulz).zmul
/-- one step of turning the rows into a triangle -/
theorem det_step {m : Int} {n : Nat} (B : Nat → Nat → Int) (f : Nat → Int) (h : ∀ i, 0 < i → i < n + 1 → C m (B i 0) (f i * B 0 0)) :
    C m (det (n + 1) B) (B 0 0 * det n (fun i j => B (i + 1) (j + 1) - f (i + 1) * B 0 (j + 1))) := by
  rw [← det_ro B f n (by omega)]
  simp only [det]
  rw [sm_first]
  refine ((C.of_eq ?_).add (sm_zeroC fun i hi => ?_)).trans (C.of_eq (Int.add_zero _))
  · have e1 : ro B f n 0 0 = B 0 0 := by unfold ro; rw [if_neg (by omega)]
    rw [e1, show sg 0 = 1 from rfl, Int.one_mul]
    congr 1
    refine det_congr fun i j hi hj => ?_
    show ro B f n (sk 0 i) (j + 1) = _
    rw [show sk 0 i = i + 1 by unfold sk; rw [if_neg (by omega)]]
    unfold ro
    rw [if_pos (by omega)]
  · have e1 : C m (ro B f n (i + 1) 0) 0 := by
      unfold ro
      rw [if_pos (by omega)]
      exact ((h (i + 1) (by omega) (by omega)).sub (C.rfl (x := f (i + 1) * B 0 0))).trans (C.of_eq (by grind))
    exact e1.mulz.zmul
/-- what a matrix turns into 0 -/
theorem det_kernel {m : Int} (pm : Pm m) : ∀ (n : Nat) (B : Nat → Nat → Int) (v : Nat → Int), (∀ i, i < n → C m (sm n (fun j => B i j * v j)) 0) → (∃ j, j < n ∧ ¬ C m (v j) 0) → C m (det n B) 0
  | 0, _, _, _, ⟨_, h, _⟩ => absurd h (by omega)
  | n + 1, B, v, hv, hne => by
    have top : ∀ B : Nat → Nat → Int, ¬ C m (B 0 0) 0 → (∀ i, i < n + 1 → C m (sm (n + 1) (fun j => B i j * v j)) 0) → C m (det (n + 1) B) 0 := by
      intro B h0 hv
      obtain ⟨c, hc⟩ := pm.inv _ h0
      have hf : ∀ i, 0 < i → i < n + 1 → C m (B i 0) (B i 0 * c * B 0 0) := fun i _ _ => ((C.rfl (x := B i 0)).mul hc.symm).trans (C.of_eq (by grind)) |> fun h => (C.of_eq (by grind : B i 0 = B i 0 * 1)).trans h
      refine (det_step B (fun i => B i 0 * c) hf).trans (C.mulz ?_)
      have hv0 := hv 0 (by omega)
      rw [sm_first] at hv0
      refine det_kernel pm n _ (fun j => v (j + 1)) (fun i hi => ?_) ?_
      · have hvi := hv (i + 1) (by omega)
        rw [sm_first] at hvi
        have e : sm n (fun j => (B (i + 1) (j + 1) - B (i + 1) 0 * c * B 0 (j + 1)) * v (j + 1)) = sm n (fun j => B (i + 1) (j + 1) * v (j + 1)) + -(B (i + 1) 0 * c) * sm n (fun j => B 0 (j + 1) * v (j + 1)) := by
          rw [← sm_mul, ← sm_add]
          exact sm_congr fun j _ => by grind
        rw [e]
        obtain ⟨k0, e0⟩ := hv0
        obtain ⟨k1, e1⟩ := hvi
        obtain ⟨k2, e2⟩ := hf (i + 1) (by omega) (by omega)
        exact ⟨k1 - B (i + 1) 0 * c * k0 - k2 * v 0, by grind⟩
      · apply Classical.byContradiction
        intro hno
        have hz : ∀ j, j < n → C m (v (j + 1)) 0 := fun j hj => Classical.byContradiction fun h => hno ⟨j, hj, h⟩
        have h1 : C m (B 0 0 * v 0) 0 := by
          have h2 : C m (sm n (fun j => B 0 (j + 1) * v (j + 1))) 0 := sm_zeroC fun j hj => (hz j hj).mulz
          exact (C.of_eq (by grind)).trans ((hv0.sub h2).trans (C.of_eq (by grind)))
        have h2 := pm.mul h0 h1
        obtain ⟨j, hj, hjn⟩ := hne
        cases j with
        | zero => exact hjn h2
        | succ j => exact hjn (hz j (by omega))
    by_cases h0 : ∃ k, k < n + 1 ∧ ¬ C m (B k 0) 0
    · obtain ⟨k, hk, hk0⟩ := h0
      by_cases hk1 : k = 0
      · subst hk1
        exact top B hk0 hv
      · have hd := det_swap (n := n + 1) (r := 0) (s := k) (by omega) hk (by omega) B
        have ht := top (sw B 0 k) (by simpa [sw] using hk0) (fun i hi => by
          unfold sw
          by_cases h1 : i = 0
          · simp only [h1, if_true]; exact hv k hk
          · by_cases h2 : i = k
            · simp only [h2, if_true, if_neg hk1]; exact hv 0 (by omega)
            · simp only [if_neg h1, if_neg h2]; exact hv i hi)
        rw [hd] at ht
        exact (C.of_eq (by grind)).trans (ht.neg.trans (C.of_eq (by grind)))
    · exact det_none fun i hi => Classical.byContradiction fun h => h0 ⟨i, hi, h⟩
/-- columns -/
theorem mi_sc (A : Nat → Nat → Int) (c i : Nat) (X : Nat → Int) : mi (sc A (c + 1) X) i = sc (mi A i) c (fun r => X (sk i r)) := by
  funext r j
  unfold mi sc
  by_cases h : j = c
  · rw [if_pos (by omega), if_pos h]
  · rw [if_neg (by omega), if_neg h]
theorem mi_sc0 (A : Nat → Nat → Int) (i : Nat) (X : Nat → Int) : mi (sc A 0 X) i = mi A i := by
  funext r j
  unfold mi sc
  rw [if_neg (by omega)]
theorem det_col {n : Nat} : ∀ (A : Nat → Nat → Int) (c : Nat) (u v : Int) (X Y : Nat → Int), c < n → det n (sc A c (fun r => u * X r + v * Y r)) = u * det n (sc A c X) + v * det n (sc A c Y) := by
  induction n with
  | zero => intro A c u v X Y h; omega
  | succ n ih =>
    intro A c u v X Y hc
    simp only [det]
    rw [← sm_mul, ← sm_mul, ← sm_add]
    refine sm_congr fun i hi => ?_
    cases c with
    | zero =>
      rw [mi_sc0, mi_sc0, mi_sc0]
      simp only [sc, if_true]
      grind
    | succ c =>
      rw [mi_sc, mi_sc, mi_sc, ih _ _ _ _ _ _ (by omega)]
      simp only [sc]
      rw [if_neg (by omega)]
      grind
theorem det_cols {n : Nat} (A : Nat → Nat → Int) (c : Nat) (hc : c < n) (x : Nat → Int) (Z : Nat → Nat → Int) : ∀ k, det n (sc A c (fun r => sm k (fun j => x j * Z j r))) = sm k (fun j => x j * det n (sc A c (Z j)))
  | 0 => by
    have h := det_col A c 0 0 (fun _ => 0) (fun _ => 0) hc
    simp only [sm]
    simpa using h
  | k + 1 => by
    have h := det_col A c 1 (x k) (fun r => sm k (fun j => x j * Z j r)) (Z k) hc
    simp only [sm]
    rw [← det_cols A c hc x Z k]
    have e : (fun r => sm k (fun j => x j * Z j r) + x k * Z k r) = (fun r => 1 * sm k (fun j => x j * Z j r) + x k * Z k r) := by funext r; grind
    rw [e, h]
    grind
theorem sc_self (A : Nat → Nat → Int) (c : Nat) : sc A c (fun r => A r c) = A := by
  funext i j
  unfold sc
  by_cases h : j = c
  · rw [if_pos h, h]
  · rw [if_neg h]
/-- Cramer's rule -/
theorem cramer {m : Int} (pm : Pm m) {n : Nat} (A : Nat → Nat → Int) (x b : Nat → Int) (h : ∀ i, i < n → C m (sm n (fun j => A i j * x j)) (b i)) (c : Nat) (hc : c < n) : C m (det n (sc A c b)) (x c * det n A) := by
  have h1 : C m (det n (sc A c b)) (det n (sc A c (fun r => sm n (fun j => x j * A r j)))) := det_C fun i j hi hj => by
    unfold sc
    by_cases hj : j = c
    · rw [if_pos hj, if_pos hj]
      exact (h i hi).symm.trans (C.of_eq (sm_congr fun j _ => by grind))
    · rw [if_neg hj, if_neg hj]; exact C.rfl
  refine h1.trans ?_
  rw [det_cols A c hc x (fun j r => A r j) n]
  have h2 : C m (sm n (fun j => x j * det n (sc A c (fun r => A r j)))) (sm n (fun j => if j = c then x c * det n A else 0)) := sm_C fun j hj => by
    by_cases hjc : j = c
    · subst hjc
      rw [if_pos rfl, sc_self]
      exact C.rfl
    · rw [if_neg hjc]
      refine C.mulz (det_kernel pm n _ (fun i => if i = c then 1 else if i = j then -1 else 0) (fun i hi => C.of_eq ?_) ⟨c, hc, by rw [if_pos rfl]; exact pm.one⟩)
      rw [sm_two hc hj (fun e => hjc e.symm) (fun k _ h1 h2 => by rw [if_neg h1, if_neg h2]; grind)]
      simp only [sc, if_true, if_neg hjc]
      grind
  refine h2.trans (C.of_eq ?_)
  rw [sm_one hc (fun i _ hi => by rw [if_neg hi]), if_pos rfl]
/-- a polynomial's value -/
def ev (n : Nat) (c : Nat → Int) (x : Int) : Int := sm n (fun i => c i * x ^ i)
theorem ev_C {m : Int} {n : Nat} {c d : Nat → Int} {x y : Int} (h : ∀ i, i < n → C m (c i) (d i)) (hx : C m x y) : C m (ev n c x) (ev n d y) := sm_C fun i hi => (h i hi).mul (hx.pow i)
theorem ev_first (n : Nat) (c : Nat → Int) (x : Int) : ev (n + 1) c x = c 0 + x * ev n (fun i => c (i + 1)) x := by
  unfold ev
  rw [sm_first, ← sm_mul]
  rw [show c 0 * x ^ 0 = c 0 by rw [Int.pow_zero, Int.mul_one]]
  congr 1
  exact sm_congr fun i _ => by rw [Int.pow_succ]; grind
theorem ev_sub (n : Nat) (c d : Nat → Int) (x : Int) : ev n (fun i => c i - d i) x = ev n c x - ev n d x := by
  unfold ev
  have h := sm_add n (fun i => (c i - d i) * x ^ i) (fun i => d i * x ^ i)
  rw [sm_congr (g := fun i => c i * x ^ i) (fun i _ => by grind)] at h
  grind
theorem ev_add (n : Nat) (c d : Nat → Int) (x : Int) : ev n (fun i => c i + d i) x = ev n c x + ev n d x := by
  unfold ev
  rw [← sm_add]
  exact sm_congr fun i _ => by grind
theorem ev_mul (n : Nat) (c : Nat → Int) (u x : Int) : ev n (fun i => u * c i) x = u * ev n c x := by
  unfold ev
  rw [← sm_mul]
  exact sm_congr fun i _ => by grind
/-- what is left behind a root is taken out -/
def dv (n : Nat) (c : Nat → Int) (a : Int) (i : Nat) : Int := ev (n - i) (fun j => c (i + 1 + j)) a
theorem dv_zero (n : Nat) (c : Nat → Int) (a : Int) : dv n c a 0 = ev n (fun j => c (j + 1)) a := by
  unfold dv
  rw [Nat.sub_zero]
  congr 1
  funext j
  congr 1
  omega
theorem dv_succ (n : Nat) (c : Nat → Int) (a : Int) (i : Nat) : dv (n + 1) c a (i + 1) = dv n (fun j => c (j + 1)) a i := by
  unfold dv
  rw [show n + 1 - (i + 1) = n - i by omega]
  congr 1
  funext j
  congr 1
  omega
theorem ev_div : ∀ (n : Nat) (c : Nat → Int) (a x : Int), ev (n + 1) c x - ev (n + 1) c a = (x - a) * ev n (dv n c a) x
  | 0, c, a, x => by simp [ev, sm]
  | n + 1, c, a, x => by
    rw [ev_first (n + 1) c x, ev_first (n + 1) c a, ev_first n (dv (n + 1) c a) x, dv_zero]
    have h := ev_div n (fun i => c (i + 1)) a x
    have e : ev n (fun i => dv (n + 1) c a (i + 1)) x = ev n (dv n (fun j => c (j + 1)) a) x := by
      congr 1
      funext i
      exact dv_succ n c a i
    rw [e]
    grind
theorem ev_zeroC {m : Int} {n : Nat} {c : Nat → Int} {x : Int} (h : ∀ i, i < n → C m (c i) 0) : C m (ev n c x) 0 := sm_zeroC fun i hi => (h i hi).zmul
/-- if nothing is left, there was nothing -/
theorem dv_none {m : Int} : ∀ (n : Nat) (c : Nat → Int) (a : Int), (∀ i, i < n → C m (dv n c a i) 0) → ∀ i, i < n → C m (c (i + 1)) 0
  | 0, _, _, _, _, hi => absurd hi (by omega)
  | n + 1, c, a, h, i, hi => by
    have ih := dv_none n (fun j => c (j + 1)) a (fun k hk => by rw [← dv_succ]; exact h (k + 1) (by omega))
    cases i with
    | succ i => exact ih i (by omega)
    | zero =>
      have h0 := h 0 (by omega)
      rw [dv_zero, ev_first] at h0
      have h1 : C m (ev n (fun i => c (i + 1 + 1)) a) 0 := ev_zeroC fun k hk => ih k hk
      exact (C.of_eq (by grind)).trans ((h0.sub (h1.mulz (u := a))).trans (C.of_eq (by grind : (0 : Int) - 0 = 0)))
/-- a polynomial that is 0 at as many unlike places as it has coefficients is 0 -/
theorem ev_roots {m : Int} (pm : Pm m) : ∀ (n : Nat) (c xs : Nat → Int), (∀ i j, i < n → j < n → i ≠ j → ¬ C m (xs i) (xs j)) → (∀ k, k < n → C m (ev n c (xs k)) 0) → ∀ i, i < n → C m (c i) 0
  | 0, _, _, _, _, _, hi => absurd hi (by omega)
  | n + 1, c, xs, hx, h, i, hi => by
    have hn := h n (by omega)
    have hq : ∀ k, k < n → C m (ev n (dv n c (xs n)) (xs k)) 0 := fun k hk => by
      have h1 := (h k (by omega)).sub hn
      rw [ev_div] at h1
      refine pm.mul (fun h2 => hx k n (by omega) (by omega) (by omega) ?_) (h1.trans (C.of_eq (by grind : (0 : Int) - 0 = 0)))
      exact (C.of_eq (by grind)).trans ((h2.add (C.rfl (x := xs n))).trans (C.of_eq (by grind)))
    have hd := ev_roots pm n (dv n c (xs n)) xs (fun i j hi hj => hx i j (by omega) (by omega)) hq
    have hr := dv_none n c (xs n) hd
    cases i with
    | succ i => exact hr i (by omega)
    | zero =>
      rw [ev_first] at hn
      have h1 : C m (ev n (fun i => c (i + 1)) (xs n)) 0 := ev_zeroC fun k hk => hr k hk
      exact (C.of_eq (by grind)).trans ((hn.sub (h1.mulz (u := xs n))).trans (C.of_eq (by grind : (0 : Int) - 0 = 0)))
/-- the polynomial through unlike places is the only one -/
theorem ev_only {m : Int} (pm : Pm m) (n : Nat) (c d xs : Nat → Int) (hx : ∀ i j, i < n → j < n → i ≠ j → ¬ C m (xs i) (xs j)) (h : ∀ k, k < n → C m (ev n c (xs k)) (ev n d (xs k))) : ∀ i, i < n → C m (c i) (d i) := fun i hi => by
  have := ev_roots pm n (fun i => c i - d i) xs hx (fun k hk => by rw [ev_sub]; exact ((h k hk).sub (C.rfl (x := ev n d (xs k)))).trans (C.of_eq (by grind))) i hi
  exact (C.of_eq (by grind)).trans ((this.add (C.rfl (x := d i))).trans (C.of_eq (by grind)))
/-- sums of sums -/
theorem sm_swap (n k : Nat) (f : Nat → Nat → Int) : sm n (fun i => sm k (fun j => f i j)) = sm k (fun j => sm n (fun i => f i j)) := by
  induction n with
  | zero => simp only [sm]; rw [sm_zero]
  | succ n ih => simp only [sm]; rw [ih, ← sm_add]
theorem sm_more (n k : Nat) (f : Nat → Int) (h : ∀ i, n ≤ i → f i = 0) : sm (n + k) f = sm n f := by
  induction k with
  | zero => rfl
  | succ k ih => rw [← Nat.add_assoc, sm, ih, h _ (by omega)]; omega
theorem sm_shift (N i : Nat) (f : Nat → Int) (h : i ≤ N) : sm N (fun k => if i ≤ k then f (k - i) else 0) = sm (N - i) f := by
  induction N with
  | zero => rw [show i = 0 by omega]; rfl
  | succ N ih =>
    by_cases hi : i = N + 1
    · subst hi
      rw [show N + 1 - (N + 1) = 0 by omega, sm_congr (g := fun _ => 0) (fun k hk => by rw [if_neg (by omega)]), sm_zero]
      rfl
    · rw [sm, ih (by omega), if_pos (by omega), show N + 1 - i = (N - i) + 1 by omega, sm]
/-- the coefficients of a product; d is 0 behind its end -/
def cv (n : Nat) (c d : Nat → Int) (k : Nat) : Int := sm n (fun i => if i ≤ k then c i * d (k - i) else 0)
def zx (l : Nat) (d : Nat → Int) (j : Nat) : Int := if j < l then d j else 0
theorem ev_zx (n l : Nat) (d : Nat → Int) (x : Int) (h : l ≤ n) : ev n (zx l d) x = ev l d x := by
  unfold ev
  obtain ⟨k, rfl⟩ : ∃ k, n = l + k := ⟨n - l, by omega⟩
  rw [sm_more _ _ _ (fun i hi => by unfold zx; rw [if_neg (by omega)]; omega)]
  exact sm_congr fun i hi => by unfold zx; rw [if_pos hi]
theorem ev_cv (n l N : Nat) (c d : Nat → Int) (x : Int) (hN : n + l ≤ N + 1) : ev N (cv n c (zx l d)) x = ev n c x * ev l d x := by
  have e : ev N (cv n c (zx l d)) x = sm n (fun i => sm N (fun k => if i ≤ k then c i * zx l d (k - i) * x ^ k else 0)) := by
    unfold ev cv
    rw [sm_swap]
    refine sm_congr fun k _ => ?_
    rw [Int.mul_comm, ← sm_mul]
    refine sm_congr fun i _ => ?_
    by_cases h : i ≤ k
    · rw [if_pos h, if_pos h]; grind
    · rw [if_neg h, if_neg h]; grind
  rw [e]
  have e2 : ev n c x * ev l d x = sm n (fun i => ev l d x * (c i * x ^ i)) := by rw [sm_mul]; unfold ev; grind
  rw [e2]
  refine sm_congr fun i hi => ?_
  have e3 : sm N (fun k => if i ≤ k then c i * zx l d (k - i) * x ^ k else 0) = sm N (fun k => if i ≤ k then (fun j => c i * x ^ i * (zx l d j * x ^ j)) (k - i) else 0) := sm_congr fun k _ => by
    by_cases h : i ≤ k
    · rw [if_pos h, if_pos h]
      have : x ^ k = x ^ i * x ^ (k - i) := by rw [← Int.pow_add]; congr 1; omega
      rw [this]; grind
    · rw [if_neg h, if_neg h]
  by_cases hl : l = 0
  · subst hl
    rw [sm_congr (g := fun _ => 0) (fun k _ => by
      by_cases h : i ≤ k
      · rw [if_pos h, show zx 0 d (k - i) = 0 from if_neg (by omega)]; grind
      · rw [if_neg h]), sm_zero]
    simp [ev, sm]
  · rw [e3, sm_shift N i (fun j => c i * x ^ i * (zx l d j * x ^ j)) (by omega), sm_mul]
    have e4 : sm (N - i) (fun j => zx l d j * x ^ j) = ev l d x := ev_zx (N - i) l d x (by omega)
    rw [e4]; grind
/-- rows that hang together -/
def dep (m : Int) (N n : Nat) (B : Nat → Nat → Int) : Prop := ∃ c : Nat → Int, (∃ i, i < N ∧ ¬ C m (c i) 0) ∧ ∀ j, j < n → C m (sm N (fun i => c i * B i j)) 0
theorem dep_lift {m u : Int} {N n : Nat} {B : Nat → Nat → Int} (hu : C m (B 0 0 * u) 1) (h : dep m N n (fun i j => B (i + 1) (j + 1) - B (i + 1) 0 * u * B 0 (j + 1))) : dep m (N + 1) (n + 1) B := by
  obtain ⟨c, ⟨i, hi, hci⟩, hc⟩ := h
  refine ⟨fun i => if i = 0 then -sm N (fun i => c i * (B (i + 1) 0 * u)) else c (i - 1), ⟨i + 1, by omega, by simpa using hci⟩, fun j hj => ?_⟩
  rw [sm_first]
  simp only [if_true, Nat.add_eq_zero_iff, Nat.one_ne_zero, and_false, if_false, Nat.add_sub_cancel]
  cases j with
  | zero =>
    have e : sm N (fun i => c i * (B (i + 1) 0 * u)) = u * sm N (fun i => c i * B (i + 1) 0) := by rw [← sm_mul]; exact sm_congr fun i _ => by grind
    rw [e]
    obtain ⟨k, hk⟩ := hu
    exact ⟨-(k * sm N (fun i => c i * B (i + 1) 0)), by grind⟩
  | succ j =>
    have h1 := hc j (by omega)
    have e : sm N (fun i => c i * (B (i + 1) (j + 1) - B (i + 1) 0 * u * B 0 (j + 1))) = sm N (fun i => c i * B (i + 1) (j + 1)) + -B 0 (j + 1) * sm N (fun i => c i * (B (i + 1) 0 * u)) := by
      rw [← sm_mul, ← sm_add]
      exact sm_congr fun i _ => by grind
    rw [e] at h1
    exact (C.of_eq (by grind)).trans h1
theorem dep_swap {m : Int} {N n k : Nat} {B : Nat → Nat → Int} (hN : 0 < N) (hk : k < N) (h0 : k ≠ 0) (h : dep m N n (sw B 0 k)) : dep m N n B := by
  obtain ⟨c, ⟨i, hi, hci⟩, hc⟩ := h
  refine ⟨fun i => if i = 0 then c k else if i = k then c 0 else c i, ?_, fun j hj => ?_⟩
  · by_cases h1 : i = 0
    · subst h1
      exact ⟨k, hk, by simpa [h0] using hci⟩
    · by_cases h2 : i = k
      · subst h2
        exact ⟨0, hN, by simpa using hci⟩
      · exact ⟨i, hi, by simpa [h1, h2] using hci⟩
  · refine (C.of_eq ?_).trans (hc j hj)
    have h := sm_two (n := N) (r := 0) (s := k) (f := fun i => (if i = 0 then c k else if i = k then c 0 else c i) * B i j + -1 * (c i * sw B 0 k i j)) hN hk (fun e => h0 e.symm) (fun i _ h1 h2 => by simp only [sw, if_neg h1, if_neg h2]; grind)
    rw [sm_add, sm_mul] at h
    simp only [sw, if_true, if_neg h0] at h
    simp only [sw]
    grind
/-- one row more than columns -/
theorem dep_more {m : Int} (pm : Pm m) : ∀ (n : Nat) (B : Nat → Nat → Int), dep m (n + 1) n B
  | 0, _ => ⟨fun _ => 1, ⟨0, by omega, pm.one⟩, fun j hj => absurd hj (by omega)⟩
  | n + 1, B => by
    by_cases h0 : ∃ k, k < n + 2 ∧ ¬ C m (B k 0) 0
    · obtain ⟨k, hk, hk0⟩ := h0
      have top : ∀ B : Nat → Nat → Int, ¬ C m (B 0 0) 0 → dep m (n + 2) (n + 1) B := fun B hB => by
        obtain ⟨u, hu⟩ := pm.inv _ hB
        exact dep_lift hu (dep_more pm n _)
      by_cases hk1 : k = 0
      · subst hk1; exact top B hk0
      · exact dep_swap (by omega) hk hk1 (top _ (by simpa [sw] using hk0))
    · obtain ⟨c, ⟨i, hi, hci⟩, hc⟩ := dep_more pm n (fun i j => B i (j + 1))
      refine ⟨fun i => if i = n + 1 then 0 else c i, ⟨i, by omega, by simpa [show i ≠ n + 1 by omega] using hci⟩, fun j hj => ?_⟩
      cases j with
      | zero => exact sm_zeroC fun i hi => (Classical.byContradiction fun h => h0 ⟨i, hi, h⟩ : C m (B i 0) 0).mulz
      | succ j =>
        rw [sm]
        simp only [if_true]
        rw [sm_congr (g := fun i => c i * B i (j + 1)) (fun i hi => by simp only [if_neg (show i ≠ n + 1 by omega)])]
        exact (C.of_eq (by grind)).trans (hc j (by omega))
/-- where the determinant is 0 the rows hang together -/
theorem dep_det {m : Int} (pm : Pm m) : ∀ (n : Nat) (B : Nat → Nat → Int), C m (det n B) 0 → dep m n n B
  | 0, _, h => absurd h pm.one
  | n + 1, B, h => by
    by_cases h0 : ∃ k, k < n + 1 ∧ ¬ C m (B k 0) 0
    · obtain ⟨k, hk, hk0⟩ := h0
      have top : ∀ B : Nat → Nat → Int, ¬ C m (B 0 0) 0 → C m (det (n + 1) B) 0 → dep m (n + 1) (n + 1) B := fun B hB hd => by
        obtain ⟨u, hu⟩ := pm.inv _ hB
        have hf : ∀ i, 0 < i → i < n + 1 → C m (B i 0) (B i 0 * u * B 0 0) := fun i _ _ => by
          obtain ⟨k, hk⟩ := hu
          exact ⟨-(B i 0 * k), by grind⟩
        exact dep_lift hu (dep_det pm n _ (pm.mul hB ((det_step B (fun i => B i 0 * u) hf).symm.trans hd)))
      by_cases hk1 : k = 0
      · subst hk1; exact top B hk0 h
      · refine dep_swap (by omega) hk hk1 (top _ (by simpa [sw] using hk0) ?_)
        rw [det_swap (by omega) hk (fun e => hk1 e.symm)]
        exact h.neg.trans (C.of_eq (by grind))
    · obtain ⟨c, hi, hc⟩ := dep_more pm n (fun i j => B i (j + 1))
      refine ⟨c, hi, fun j hj => ?_⟩
      cases j with
      | zero => exact sm_zeroC fun i hi => (Classical.byContradiction fun h => h0 ⟨i, hi, h⟩ : C m (B i 0) 0).mulz
      | succ j => exact hc j (by omega)
theorem det_rows {n : Nat} (A : Nat → Nat → Int) (r : Nat) (hr : r < n) (x : Nat → Int) (Z : Nat → Nat → Int) : ∀ k, det n (sr A r (fun j => sm k (fun i => x i * Z i j))) = sm k (fun i => x i * det n (sr A r (Z i)))
  | 0 => by
    have h := det_row A r 0 0 (fun _ => 0) (fun _ => 0) hr
    simp only [sm]
    simpa using h
  | k + 1 => by
    have h := det_row A r 1 (x k) (fun j => sm k (fun i => x i * Z i j)) (Z k) hr
    simp only [sm]
    rw [← det_rows A r hr x Z k]
    have e : (fun j => sm k (fun i => x i * Z i j) + x k * Z k j) = (fun j => 1 * sm k (fun i => x i * Z i j) + x k * Z k j) := by funext j; grind
    rw [e, h]
    grind
theorem det_zero_row {n : Nat} (A : Nat → Nat → Int) (r : Nat) (hr : r < n) : det n (sr A r (fun _ => 0)) = 0 := by
  have h := det_row A r 0 0 (fun _ => 0) (fun _ => 0) hr
  simpa using h
/-- where rows hang together the determinant is 0 -/
theorem det_dep {m : Int} (pm : Pm m) {n : Nat} {B : Nat → Nat → Int} (h : dep m n n B) : C m (det n B) 0 := by
  obtain ⟨c, ⟨k, hk, hck⟩, hc⟩ := h
  refine pm.mul hck ?_
  have h1 := det_rows B k hk c B n
  have h2 : sm n (fun i => c i * det n (sr B k (B i))) = c k * det n B := by
    rw [sm_one hk (fun i hi hik => by rw [det_same hk hi (fun e => hik e.symm) (sr B k (B i)) (fun j => by simp [sr, hik])]; grind), sr_self]
  rw [← h2, ← h1, ← det_zero_row B k hk]
  refine det_C fun i j hi hj => ?_
  unfold sr
  by_cases hik : i = k
  · rw [if_pos hik, if_pos hik]; exact hc j hj
  · rw [if_neg hik, if_neg hik]; exact C.rfl
end Mx
end Go.Proofs.YtnbcfchbhappeaaDoor.Al
