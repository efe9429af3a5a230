namespace Go.Proofs.YtljmgfclhbadjaaGreatDoor.Nt

def Prime (p : Nat) : Prop := 2 ≤ p ∧ ∀ d, d ∣ p → d = 1 ∨ d = p

theorem Prime.coprime {p a : Nat} (h : Prime p) (ha : ¬ p ∣ a) : Nat.Coprime p a := by
  rcases h.2 _ (Nat.gcd_dvd_left p a) with e | e
  · exact e
  · exact absurd (e ▸ Nat.gcd_dvd_right p a) ha

theorem Prime.euclid {p a b : Nat} (h : Prime p) (hd : p ∣ a * b) : p ∣ a ∨ p ∣ b := by
  by_cases ha : p ∣ a
  · exact Or.inl ha
  · exact Or.inr ((h.coprime ha).dvd_of_dvd_mul_left hd)

def ch : Nat → Nat → Nat
  | _, 0 => 1
  | 0, _ + 1 => 0
  | n + 1, k + 1 => ch n k + ch n (k + 1)

theorem ch_zero (n : Nat) : ch n 0 = 1 := by cases n <;> rfl
theorem ch_zero_succ (k : Nat) : ch 0 (k + 1) = 0 := rfl
theorem ch_succ (n k : Nat) : ch (n + 1) (k + 1) = ch n k + ch n (k + 1) := rfl

theorem ch_mul (n : Nat) : ∀ k, (k + 1) * ch (n + 1) (k + 1) = (n + 1) * ch n k := by
  induction n with
  | zero =>
    intro k
    cases k with
    | zero => rfl
    | succ k => simp [ch_succ, ch_zero_succ]
  | succ n ih =>
    intro k
    rw [ch_succ (n + 1) k, Nat.mul_add, ih k]
    cases k with
    | zero => simp [ch_zero]; omega
    | succ j =>
      have h := ih j
      have e := ch_succ n j
      rw [show j + 1 + 1 = (j + 1) + 1 from rfl, Nat.add_mul (j + 1) 1, h, e]
      grind

theorem ch_above (n : Nat) : ∀ k, n < k → ch n k = 0 := by
  induction n with
  | zero => intro k h; obtain ⟨j, rfl⟩ : ∃ j, k = j + 1 := ⟨k - 1, by omega⟩; rfl
  | succ n ih =>
    intro k h
    obtain ⟨j, rfl⟩ : ∃ j, k = j + 1 := ⟨k - 1, by omega⟩
    rw [ch_succ, ih j (by omega), ih (j + 1) (by omega)]

theorem ch_top (n : Nat) : ch n n = 1 := by
  induction n with
  | zero => rfl
  | succ n ih => rw [ch_succ, ih, ch_above n (n + 1) (by omega)]

def bs (n x : Nat) : Nat → Nat
  | 0 => 0
  | m + 1 => bs n x m + ch n m * x ^ m

theorem bs_step (n x m : Nat) : bs (n + 1) x (m + 1) = bs n x (m + 1) + x * bs n x m := by
  induction m with
  | zero => simp [bs, ch_zero]
  | succ m ih =>
    rw [bs, ih, ch_succ]
    simp only [bs, Nat.pow_succ]
    grind

theorem bs_all (n x : Nat) : bs n x (n + 1) = (x + 1) ^ n := by
  induction n with
  | zero => simp [bs, ch_zero]
  | succ n ih =>
    rw [bs_step]
    have e : bs n x (n + 1 + 1) = bs n x (n + 1) := by rw [bs, ch_above n (n + 1) (by omega)]; simp
    rw [e, ih, Nat.pow_succ]
    grind

theorem bs_mod {p : Nat} (hp : Prime p) (x : Nat) : ∀ m, m < p → bs p x (m + 1) % p = 1 % p := by
  intro m
  induction m with
  | zero => intro _; simp [bs, ch_zero]
  | succ m ih =>
    intro h
    rw [bs, Nat.add_mod, ih (by omega)]
    have h2 : p ∣ ch p (m + 1) := by
      have e := ch_mul (p - 1) m
      have hp2 := hp.1
      rw [show p - 1 + 1 = p by omega] at e
      have d : p ∣ (m + 1) * ch p (m + 1) := ⟨_, e⟩
      rcases hp.euclid d with d | d
      · have := Nat.le_of_dvd (by omega) d; omega
      · exact d
    have h3 : ch p (m + 1) * x ^ (m + 1) % p = 0 := Nat.mod_eq_zero_of_dvd (Nat.dvd_trans h2 (Nat.dvd_mul_right _ _))
    rw [h3]; simp

theorem dream {p : Nat} (hp : Prime p) (x : Nat) : (x + 1) ^ p % p = (x ^ p + 1) % p := by
  have hp2 := hp.1
  rw [← bs_all, bs, ch_top, Nat.one_mul, Nat.add_mod]
  have h := bs_mod hp x (p - 1) (by omega)
  rw [show p - 1 + 1 = p by omega] at h
  rw [h, ← Nat.add_mod, Nat.add_comm]

theorem fermat_all {p : Nat} (hp : Prime p) (a : Nat) : a ^ p % p = a % p := by
  have hp2 := hp.1
  induction a with
  | zero => rw [Nat.zero_pow (by omega)]
  | succ a ih => rw [dream hp, Nat.add_mod, ih, ← Nat.add_mod]

theorem fermat {p a : Nat} (hp : Prime p) (ha : ¬ p ∣ a) : a ^ (p - 1) % p = 1 := by
  have hp2 := hp.1
  have h := fermat_all hp a
  have e : a ^ p = a * a ^ (p - 1) := by
    rw [← Nat.pow_succ', show (p - 1).succ = p by omega]
  have ha0 : 0 < a := by
    rcases Nat.eq_zero_or_pos a with h0 | h0
    · subst h0; exact absurd (Nat.dvd_zero p) ha
    · exact h0
  have hpos : 1 ≤ a ^ (p - 1) := Nat.pow_pos ha0
  have d : p ∣ a * (a ^ (p - 1) - 1) := by
    rw [Nat.mul_sub, ← e, Nat.mul_one]
    have hle : a ≤ a ^ p := by rw [e]; exact Nat.le_mul_of_pos_right a hpos
    exact (Nat.dvd_of_mod_eq_zero (Nat.sub_mod_eq_zero_of_mod_eq h))
  rcases hp.euclid d with d | d
  · exact absurd d ha
  · obtain ⟨t, ht⟩ := d
    have : a ^ (p - 1) = p * t + 1 := by omega
    rw [this, Nat.mul_add_mod, Nat.mod_eq_of_lt (by omega)]

theorem exists_prime_dvd (n : Nat) (hn : 2 ≤ n) : ∃ r, Prime r ∧ r ∣ n := by
  induction n using Nat.strongRecOn with
  | _ n ih =>
    by_cases h : Prime n
    · exact ⟨n, h, Nat.dvd_refl n⟩
    · have : ∃ d, d ∣ n ∧ d ≠ 1 ∧ d ≠ n := by
        apply Classical.byContradiction
        intro hc
        apply h
        refine ⟨hn, fun d hd => ?_⟩
        apply Classical.byContradiction
        intro h2
        exact hc ⟨d, hd, fun e => h2 (Or.inl e), fun e => h2 (Or.inr e)⟩
      obtain ⟨d, hd, h1, h2⟩ := this
      have hle := Nat.le_of_dvd (by omega) hd
      have hpos := Nat.pos_of_dvd_of_pos hd (by omega)
      obtain ⟨r, hr, hrd⟩ := ih d (by omega) (by omega)
      exact ⟨r, hr, Nat.dvd_trans hrd hd⟩

/-- If all prime divisors are above the root, it is a prime. -/
theorem prime_of_big (n : Nat) (hn : 2 ≤ n) (h : ∀ r, Prime r → r ∣ n → n < r * r) : Prime n := by
  refine ⟨hn, fun d hd => ?_⟩
  apply Classical.byContradiction
  intro hc
  obtain ⟨e, he⟩ := hd
  have h1 : d ≠ 1 := fun x => hc (Or.inl x)
  have h2 : d ≠ n := fun x => hc (Or.inr x)
  have hd0 : d ≠ 0 := by intro x; subst x; simp at he; omega
  have he0 : e ≠ 0 := by intro x; subst x; simp at he; omega
  have he1 : e ≠ 1 := by intro x; subst x; simp at he; omega
  obtain ⟨r, hr, hrd⟩ := exists_prime_dvd d (by omega)
  obtain ⟨s, hs, hse⟩ := exists_prime_dvd e (by omega)
  have a1 := h r hr (Nat.dvd_trans hrd ⟨e, he⟩)
  have a2 := h s hs (Nat.dvd_trans hse ⟨d, by rw [he, Nat.mul_comm]⟩)
  have b1 := Nat.le_of_dvd (by omega) hrd
  have b2 := Nat.le_of_dvd (by omega) hse
  have b3 : r * s ≤ d * e := Nat.mul_le_mul b1 b2
  rcases Nat.le_total r s with c | c
  · have : r * r ≤ r * s := Nat.mul_le_mul_left r c
    omega
  · have : s * s ≤ r * s := Nat.mul_le_mul_right s c
    omega

theorem pow_mod_one {r b : Nat} (hr : 2 ≤ r) (k : Nat) (h : b % r = 1) : b ^ k % r = 1 := by
  rw [Nat.pow_mod, h, Nat.one_pow, Nat.mod_eq_of_lt (by omega)]

/-- Pocklington's step. -/
theorem pock_step {n a q m r : Nat} (hq : Prime q) (hm : n - 1 = q * m) (h1 : a ^ (n - 1) % n = 1) (hn : 2 ≤ n)
    (hc : Nat.Coprime (a ^ m % n + (n - 1)) n) (hr : Prime r) (hrn : r ∣ n) : q ∣ r - 1 := by
  apply Classical.byContradiction
  intro hnq
  have hr2 := hr.1
  have hq2 := hq.1
  have h1r : a ^ (n - 1) % r = 1 := by
    have : a ^ (n - 1) % n % r = a ^ (n - 1) % r := Nat.mod_mod_of_dvd _ hrn
    rw [← this, h1, Nat.mod_eq_of_lt (by omega)]
  have hra : ¬ r ∣ a := by
    intro hd
    have hpos : 0 < n - 1 := by omega
    have : r ∣ a ^ (n - 1) := Nat.dvd_trans hd (by rw [show n - 1 = (n - 2) + 1 by omega, Nat.pow_succ']; exact Nat.dvd_mul_right _ _)
    have := Nat.mod_eq_zero_of_dvd this
    omega
  have hf := fermat hr hra
  -- b = a ^ m
  have hbq : (a ^ m) ^ q % r = 1 := by rw [← Nat.pow_mul, Nat.mul_comm m q, ← hm]; exact h1r
  have hbr : (a ^ m) ^ (r - 1) % r = 1 := by rw [← Nat.pow_mul, Nat.mul_comm, Nat.pow_mul]; exact pow_mod_one hr2 m hf
  have hfq := fermat hq hnq
  obtain ⟨t, ht⟩ : ∃ t, (r - 1) ^ (q - 1) = q * t + 1 := ⟨(r - 1) ^ (q - 1) / q, by
    have := Nat.div_add_mod ((r - 1) ^ (q - 1)) q; omega⟩
  have e1 : (a ^ m) ^ ((r - 1) ^ (q - 1)) % r = 1 := by
    rw [show q - 1 = (q - 2) + 1 by omega, Nat.pow_succ', Nat.pow_mul]
    exact pow_mod_one hr2 _ hbr
  have e2 : (a ^ m) % r = 1 := by
    rw [ht, Nat.pow_succ, Nat.pow_mul, Nat.mul_mod, pow_mod_one hr2 t hbq, Nat.one_mul, Nat.mod_mod] at e1
    exact e1
  have e3 : r ∣ a ^ m % n + (n - 1) := by
    obtain ⟨k, hk⟩ := hrn
    have e4 : a ^ m % n % r = 1 := by rw [Nat.mod_mod_of_dvd _ ⟨k, hk⟩]; exact e2
    have e5 := Nat.div_add_mod (a ^ m % n) r
    refine ⟨a ^ m % n / r + k, ?_⟩
    rw [Nat.mul_add, ← hk]
    omega
  have := Nat.dvd_gcd e3 hrn
  rw [hc] at this
  have := Nat.le_of_dvd (by omega) this
  omega

def force {α : Type} (n : Nat) (f : Nat → α) : α :=
  match n with
  | 0 => f 0
  | k + 1 => f (k + 1)
theorem force_eq {α : Type} (n : Nat) (f : Nat → α) : force n f = f n := by cases n <;> rfl

def pmod (n : Nat) : Nat → Nat → Nat → Nat → Nat
  | 0, _, _, acc => acc
  | f + 1, a, e, acc => force (a * a % n) fun a2 => force (e / 2) fun e2 => force (cond (Nat.beq (e % 2) 1) (acc * a % n) acc) fun acc2 => pmod n f a2 e2 acc2

theorem pmod_eq (n : Nat) : ∀ f a e acc, e < 2 ^ f → pmod n f a e acc % n = acc * a ^ e % n := by
  intro f
  induction f with
  | zero => intro a e acc h; have : e = 0 := by simpa using h
            subst this; simp [pmod]
  | succ f ih =>
    intro a e acc h
    have h2 : e / 2 < 2 ^ f := by rw [Nat.pow_succ] at h; omega
    simp only [pmod, force_eq]
    rw [ih _ _ _ h2]
    have ee := Nat.div_add_mod e 2
    have key : (a * a % n) ^ (e / 2) % n = a ^ (2 * (e / 2)) % n := by rw [← Nat.pow_mod, ← Nat.pow_two, ← Nat.pow_mul]
    by_cases hb : e % 2 = 1
    · have : Nat.beq (e % 2) 1 = true := by rw [hb]; rfl
      rw [this, cond_true, Nat.mul_mod, key, ← Nat.mul_mod]
      have e3 : a ^ e = a * a ^ (2 * (e / 2)) := by
        rw [← Nat.pow_succ']; congr 1; omega
      rw [Nat.mul_mod (acc * a % n), Nat.mod_mod, ← Nat.mul_mod, Nat.mul_assoc, ← e3]
    · have : Nat.beq (e % 2) 1 = false := by
        have : e % 2 = 0 := by omega
        rw [this]; rfl
      rw [this, cond_false, Nat.mul_mod, key, ← Nat.mul_mod]
      congr 3; omega

theorem pmod_at {n f a e v : Nat} (hf : e < 2 ^ f) (h : pmod n f a e 1 % n = v) : a ^ e % n = v := by
  rw [pmod_eq n f a e 1 hf, Nat.one_mul] at h; exact h


def PowIs (a e n v : Nat) : Prop := a ^ e % n = v
theorem PowIs.out {a e n v : Nat} (h : PowIs a e n v) : a ^ e % n = v := h
theorem pow_is {a e n v : Nat} (f : Nat) (hf : e < 2 ^ f) (h : pmod n f a e 1 % n = v) : PowIs a e n v := pmod_at hf h

theorem pock1 {n a q m e v : Nat} (hq : Prime q) (hm : e = q * m) (he : n = e + 1) (h1 : PowIs a e n 1) (hn : 2 ≤ n)
    (h2 : PowIs a m n v) (hc : Nat.Coprime (v + e) n) (hb : n < (q + 1) * (q + 1)) : Prime n := by
  have hen : n - 1 = e := by omega
  refine prime_of_big n hn fun r hr hrn => ?_
  have d := pock_step hq (hen.trans hm) (by rw [hen]; exact h1) hn (by rw [hen, h2.out]; exact hc) hr hrn
  have hr2 := hr.1
  have := Nat.le_of_dvd (by omega) d
  exact Nat.lt_of_lt_of_le hb (Nat.mul_le_mul (by omega) (by omega))

theorem pock2 {n a b q m s k e v x : Nat} (he : n = e + 1) (hn : 2 ≤ n) (hq : Prime q) (hm : e = q * m) (h1 : PowIs a e n 1)
    (h2 : PowIs a m n v) (hc : Nat.Coprime (v + e) n) (hs : Prime s) (hk : e = s * k) (h3 : PowIs b e n 1)
    (h4 : PowIs b k n x) (hc2 : Nat.Coprime (x + e) n) (hqs : Nat.Coprime q s) (hb : n < (q * s + 1) * (q * s + 1)) : Prime n := by
  have hen : n - 1 = e := by omega
  refine prime_of_big n hn fun r hr hrn => ?_
  have d1 := pock_step hq (hen.trans hm) (by rw [hen]; exact h1) hn (by rw [hen, h2.out]; exact hc) hr hrn
  have d2 := pock_step hs (hen.trans hk) (by rw [hen]; exact h3) hn (by rw [hen, h4.out]; exact hc2) hr hrn
  have d := hqs.mul_dvd_of_dvd_of_dvd d1 d2
  have hr2 := hr.1
  have := Nat.le_of_dvd (by omega) d
  exact Nat.lt_of_lt_of_le hb (Nat.mul_le_mul (by omega) (by omega))

def noDiv (n : Nat) : Nat → Bool
  | 0 => true
  | f + 1 => (! Nat.beq (n % (f + 2)) 0) && noDiv n f

theorem noDiv_get (n : Nat) : ∀ f, noDiv n f = true → ∀ d, 2 ≤ d → d < f + 2 → n % d ≠ 0 := by
  intro f
  induction f with
  | zero => intro _ d h1 h2; omega
  | succ f ih =>
    intro h d h1 h2
    simp only [noDiv, Bool.and_eq_true, Bool.not_eq_true'] at h
    by_cases e : d = f + 2
    · subst e; intro h0; rw [h0] at h; exact absurd h.1 (by decide)
    · exact ih h.2 d h1 (by omega)

theorem prime_small (n f : Nat) (hn : 2 ≤ n) (h : noDiv n f = true) (hf : n < (f + 2) * (f + 2)) : Prime n := by
  refine prime_of_big n hn fun r hr hrn => ?_
  have hr2 := hr.1
  by_cases e : r < f + 2
  · exact absurd (Nat.mod_eq_zero_of_dvd hrn) (noDiv_get n f h r hr2 e)
  · exact Nat.lt_of_lt_of_le hf (Nat.mul_le_mul (by omega) (by omega))

theorem p1224481 : Prime 1224481 := prime_small 1224481 1105 (by omega) (by decide +kernel) (by decide +kernel)
theorem p531581 : Prime 531581 := prime_small 531581 728 (by omega) (by decide +kernel) (by decide +kernel)
theorem pQ5q_a : PowIs 2 1257559732178652 1257559732178653 1 := pow_is 51 (by decide +kernel) (by decide +kernel)
theorem pQ5q_b : PowIs 2 1027014492 1257559732178653 1252739704402215 := pow_is 51 (by decide +kernel) (by decide +kernel)
theorem pQ5s_a : PowIs 2 1257559732178652 1257559732178653 1 := pow_is 51 (by decide +kernel) (by decide +kernel)
theorem pQ5s_b : PowIs 2 2365697292 1257559732178653 1139842034583224 := pow_is 51 (by decide +kernel) (by decide +kernel)
theorem pQ5 : Prime 1257559732178653 := pock2 (by decide +kernel) (by decide +kernel) p1224481 (by decide +kernel) pQ5q_a pQ5q_b (by decide +kernel) p531581 (by decide +kernel) pQ5s_a pQ5s_b (by decide +kernel) (by decide +kernel) (by decide +kernel)
theorem pQ4_a : PowIs 2 4434155615661930478 4434155615661930479 1 := pow_is 62 (by decide +kernel) (by decide +kernel)
theorem pQ4_b : PowIs 2 3526 4434155615661930479 415787812636281767 := pow_is 62 (by decide +kernel) (by decide +kernel)
theorem pQ4 : Prime 4434155615661930479 := pock1 pQ5 (by decide +kernel) (by decide +kernel) pQ4_a (by decide +kernel) pQ4_b (by decide +kernel) (by decide +kernel)
theorem pQ3_a : PowIs 2 172054593956031949258510690 172054593956031949258510691 1 := pow_is 88 (by decide +kernel) (by decide +kernel)
theorem pQ3_b : PowIs 2 38802110 172054593956031949258510691 81982237619807054769897707 := pow_is 88 (by decide +kernel) (by decide +kernel)
theorem pQ3 : Prime 172054593956031949258510691 := pock1 pQ4 (by decide +kernel) (by decide +kernel) pQ3_a (by decide +kernel) pQ3_b (by decide +kernel) (by decide +kernel)
theorem pQ2_a : PowIs 2 19757330305831588566944191468367130476338 19757330305831588566944191468367130476339 1 := pow_is 134 (by decide +kernel) (by decide +kernel)
theorem pQ2_b : PowIs 2 114831751082918 19757330305831588566944191468367130476339 9148758478138211201771971577098600188172 := pow_is 134 (by decide +kernel) (by decide +kernel)
theorem pQ2 : Prime 19757330305831588566944191468367130476339 := pock1 pQ3 (by decide +kernel) (by decide +kernel) pQ2_a (by decide +kernel) pQ2_b (by decide +kernel) (by decide +kernel)
theorem pQ1_a : PowIs 2 276602624281642239937218680557139826668746 276602624281642239937218680557139826668747 1 := pow_is 138 (by decide +kernel) (by decide +kernel)
theorem pQ1_b : PowIs 2 14 276602624281642239937218680557139826668747 16384 := pow_is 138 (by decide +kernel) (by decide +kernel)
theorem pQ1 : Prime 276602624281642239937218680557139826668747 := pock1 pQ2 (by decide +kernel) (by decide +kernel) pQ1_a (by decide +kernel) pQ1_b (by decide +kernel) (by decide +kernel)
theorem pL_a : PowIs 2 7237005577332262213973186563042994240857116359379907606001950938285454250988 7237005577332262213973186563042994240857116359379907606001950938285454250989 1 := pow_is 253 (by decide +kernel) (by decide +kernel)
theorem pL_b : PowIs 2 26163907866482859529727157400808004 7237005577332262213973186563042994240857116359379907606001950938285454250989 2975531125133123119648879457563281269120703404158613135195788908093573672641 := pow_is 253 (by decide +kernel) (by decide +kernel)
theorem pL : Prime 7237005577332262213973186563042994240857116359379907606001950938285454250989 := pock1 pQ1 (by decide +kernel) (by decide +kernel) pL_a (by decide +kernel) pL_b (by decide +kernel) (by decide +kernel)

theorem fermat_int (p e : Nat) (hp : Prime p) (he : p = e + 2) (a : Int) (h : a % (p : Int) ≠ 0) : a * a ^ e % (p : Int) = 1 := by
  have hp2 := hp.1
  have hpos : (0 : Int) < p := by omega
  have h0 : 0 ≤ a % (p : Int) := Int.emod_nonneg _ (by omega)
  obtain ⟨m, hm⟩ := Int.eq_ofNat_of_zero_le h0
  have hmp : m < p := by
    have := Int.emod_lt_of_pos a hpos
    omega
  have hd : ¬ p ∣ m := by
    intro hd
    have hm0 : m ≠ 0 := by intro e0; subst e0; exact h (by omega)
    have := Nat.le_of_dvd (by omega) hd
    omega
  have hf := fermat hp hd
  have key : ∀ k : Nat, a ^ k % (p : Int) = ((m ^ k % p : Nat) : Int) := by
    intro k
    induction k with
    | zero => simp
    | succ k ih =>
      rw [Int.pow_succ, Int.mul_emod, ih, hm, Nat.pow_succ, Nat.mul_mod, Nat.mod_eq_of_lt hmp]
      simp
      rw [Int.mul_emod, Int.emod_emod_of_dvd _ (Int.dvd_refl _), ← Int.mul_emod]
  have e1 : a * a ^ e = a ^ (p - 1) := by
    rw [show p - 1 = e + 1 by omega, Int.pow_succ, Int.mul_comm]
  rw [e1, key, hf]
  rfl


end Go.Proofs.YtljmgfclhbadjaaGreatDoor.Nt
