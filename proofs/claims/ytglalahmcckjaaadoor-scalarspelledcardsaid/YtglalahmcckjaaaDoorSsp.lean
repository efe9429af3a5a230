import Derived.Test.YtglalahmcckjaaaDoorSnr
namespace Go.Proofs.YtglalahmcckjaaaDoor
open Go.RowKit

/-- the sum of digits, w bits apart -/
def sw (g : Nat → Int) (w : Nat) : Nat → Int
  | 0 => 0
  | n + 1 => sw g w n + g n * 2 ^ (w * n)
theorem sw_congr {g f : Nat → Int} (w n : Nat) (h : ∀ j, j < n → g j = f j) : sw g w n = sw f w n := by
  induction n with
  | zero => rfl
  | succ n ih => rw [sw, sw, ih (fun j hj => h j (by omega)), h n (by omega)]
theorem sw_zero (w n : Nat) : sw (fun _ => 0) w n = 0 := by
  induction n with
  | zero => rfl
  | succ n ih => rw [sw, ih]; omega
theorem sw_put (g : Nat → Int) (w i : Nat) (d : Int) (n : Nat) (h : i < n) : sw (fun j => if j = i then d else g j) w n = sw g w n + (d - g i) * 2 ^ (w * i) := by
  induction n with
  | zero => omega
  | succ n ih =>
    rw [sw, sw]
    by_cases hi : i = n
    · subst hi
      rw [if_pos rfl, sw_congr w i (f := g) (fun j hj => if_neg (by omega)), Int.sub_mul]
      omega
    · rw [ih (by omega), if_neg (fun e => hi e.symm)]
      omega
/-- a remainder with more bits -/
theorem mod_more (N : Int) (hN : 0 ≤ N) (p m : Nat) : N % 2 ^ (p + m) = N % 2 ^ p + win N p m * 2 ^ p := by
  obtain ⟨n, rfl⟩ := Int.eq_ofNat_of_zero_le hN
  unfold win
  have e2 : (n : Int) % 2 ^ (p + m) = ((n % 2 ^ (p + m) : Nat) : Int) := by simp
  have e3 : (n : Int) % 2 ^ p = ((n % 2 ^ p : Nat) : Int) := by simp
  have e4 : (n : Int) / 2 ^ p % 2 ^ m = ((n / 2 ^ p % 2 ^ m : Nat) : Int) := by simp
  rw [e2, e3, e4, Nat.pow_add, Nat.mod_mul, Int.natCast_add, Int.natCast_mul, Int.mul_comm]
  simp
theorem dg_eq (N : Int) (m i : Nat) : dg N m i = win N (m * i) m + dgc N m i - dgc N m (i + 1) * 2 ^ m := by
  unfold dg
  rw [dgc]
  split <;> omega
theorem dg_sum (N : Int) (hN : 0 ≤ N) (m i : Nat) : sw (dg N m) m i + dgc N m i * 2 ^ (m * i) = N % 2 ^ (m * i) := by
  induction i with
  | zero => simp [sw, dgc, Int.emod_one]
  | succ i ih =>
    rw [sw, dg_eq, show m * (i + 1) = m * i + m by rw [Nat.mul_succ], mod_more N hN, ← ih, Int.pow_add]
    generalize (2 : Int) ^ (m * i) = P
    generalize (2 : Int) ^ m = M
    generalize dgc N m (i + 1) = c'
    generalize dgc N m i = c
    generalize win N (m * i) m = W
    generalize sw (dg N m) m i = s
    rw [Int.sub_mul, Int.add_mul, show c' * (P * M) = c' * M * P by rw [Int.mul_comm P, Int.mul_assoc]]
    omega
theorem pow_le (a b : Nat) (h : a ≤ b) : (2 : Int) ^ a ≤ 2 ^ b := by
  rw [p2mul a b h]
  have h1 := Int.mul_le_mul_of_nonneg_left (c := 2 ^ a) (show (1 : Int) ≤ 2 ^ (b - a) by have := p2pos (b - a); omega) (by have := p2pos a; omega)
  rw [Int.mul_one] at h1
  exact h1
/-- a window that reaches the top has a bit to spare -/
theorem win_top_bd (N : Int) (hN : 0 ≤ N) (h : N < 2 ^ 253) (p m : Nat) (hp : p ≤ 253) (hm : 254 ≤ p + m) : win N p m < 2 ^ (m - 1) := by
  have hq : N / 2 ^ p < 2 ^ (253 - p) := by
    apply Int.ediv_lt_of_lt_mul (p2pos p)
    rw [Int.mul_comm, ← p2mul p 253 hp]
    exact h
  have hl := pow_le (253 - p) (m - 1) (by omega)
  have h0 : 0 ≤ N / 2 ^ p := Int.ediv_nonneg hN (by have := p2pos p; omega)
  unfold win
  have := Int.emod_lt_of_pos (N / 2 ^ p) (p2pos m)
  have h2 : N / 2 ^ p % 2 ^ m ≤ N / 2 ^ p := by
    have e := Int.emod_add_mul_ediv (N / 2 ^ p) (2 ^ m)
    have : 0 ≤ 2 ^ m * (N / 2 ^ p / 2 ^ m) := Int.mul_nonneg (by have := p2pos m; omega) (Int.ediv_nonneg h0 (by have := p2pos m; omega))
    omega
  omega
theorem dg_all (N : Int) (hN : 0 ≤ N) (h : N < 2 ^ 253) (m : Nat) (hm : 1 ≤ m) : sw (dg N m) m (253 / m + 1) = N := by
  have hd := Nat.div_add_mod 253 m
  have hr := Nat.mod_lt 253 (show 0 < m by omega)
  have e := dg_sum N hN m (253 / m + 1)
  have hz : dgc N m (253 / m + 1) = 0 := by
    rw [dgc]
    have h1 := win_top_bd N hN h (m * (253 / m)) m (by omega) (by omega)
    have h2 := dgc_bd N m (253 / m)
    rw [if_neg (by omega)]
  have hl : N < 2 ^ (m * (253 / m + 1)) := by
    have := pow_le 253 (m * (253 / m + 1)) (by rw [Nat.mul_succ]; omega)
    omega
  rw [hz, Int.zero_mul, Int.add_zero, Int.emod_eq_of_lt hN hl] at e
  exact e
theorem dg_range (N : Int) (m i : Nat) (hm : 1 ≤ m) : -(2 ^ (m - 1)) < dg N m i ∧ dg N m i ≤ 2 ^ (m - 1) := by
  have hb := win_bd N (m * i) m
  have hc := dgc_bd N m i
  have hM : (2 : Int) ^ m = 2 * 2 ^ (m - 1) := p2mul 1 m hm
  have hp := p2pos (m - 1)
  unfold dg
  split <;> omega
/-- the digits of a non-adjacent form add up -/
theorem nf_sum (N : Int) (hN : 0 ≤ N) (h : N < 2 ^ 253) (m : Nat) (hm : 2 ≤ m) (f : Nat) : ∀ (i : Nat) (c : Int), 254 ≤ i + f → (c = 0 ∨ c = 1) → (254 ≤ i → c = 0) →
    sw (nf N m f i c) 1 254 = N - N % 2 ^ i + c * 2 ^ i := by
  have top : ∀ i : Nat, 254 ≤ i → N % 2 ^ i = N := fun i hi => Int.emod_eq_of_lt hN (by have := pow_le 253 i (by omega); omega)
  induction f with
  | zero =>
    intro i c hf hc hz
    rw [hz (by omega), top i (by omega), show nf N m 0 i 0 = fun _ => 0 from rfl, sw_zero]
    omega
  | succ f ih =>
    intro i c hf hc hz
    by_cases hi : 254 ≤ i
    · rw [hz hi, top i hi, sw_congr 1 254 (f := fun _ => 0) (fun j _ => by rw [nf, if_pos hi]), sw_zero]
      omega
    · have wb := win_bd N i m
      have wp := win_par N i m (by omega)
      have bb := bt_bd N i
      have hM : (2 : Int) ^ m = 2 * 2 ^ (m - 1) := p2mul 1 m (by omega)
      have hH : (2 : Int) ^ (m - 1) = 2 * 2 ^ (m - 1 - 1) := p2mul 1 (m - 1) (by omega)
      have hp := p2pos (m - 1)
      by_cases he : (win N i m + c) % 2 = 0
      · have hc2 : bt N i = c := by omega
        have hz2 : 254 ≤ i + 1 → c = 0 := fun h1 => by
          have : bt N i = 0 := by
            unfold bt
            rw [Int.ediv_eq_zero_of_lt hN (by rw [show i = 253 by omega]; exact h)]
            rfl
          omega
        rw [sw_congr 1 254 (f := nf N m f (i + 1) c) (fun j _ => by rw [nf, if_neg hi, if_pos he]), ih (i + 1) c (by omega) hc hz2, mod_more N hN i 1, win_one, hc2, Int.pow_succ]
        generalize (2 : Int) ^ i = P
        rw [← Int.mul_assoc]
        generalize c * P = Q
        omega
      · have hq := naf_q (win N i m) c (2 ^ m) (2 ^ (m - 1)) hM wb.1 wb.2 hc hp he
        have hz2 : 254 ≤ i + m → (win N i m + c) / 2 ^ (m - 1) = 0 := fun h1 => by
          have h2 := win_top_bd N hN h i m (by omega) h1
          exact Int.ediv_eq_zero_of_lt (by omega) (by omega)
        rw [sw_congr 1 254 (f := fun j => if j = i then win N i m + c - (win N i m + c) / 2 ^ (m - 1) * 2 ^ m else nf N m f (i + m) ((win N i m + c) / 2 ^ (m - 1)) j) (fun j _ => by rw [nf, if_neg hi, if_neg he]), sw_put _ _ _ _ _ (by omega), nf_low _ _ _ _ _ _ (show i < i + m by omega), ih (i + m) _ (by omega) hq hz2, mod_more N hN i m, Int.pow_add, Nat.one_mul, Int.sub_zero]
        generalize (win N i m + c) / 2 ^ (m - 1) = q
        generalize win N i m = W
        generalize (2 : Int) ^ i = P
        generalize (2 : Int) ^ m = M
        rw [Int.sub_mul, Int.add_mul, show q * (P * M) = q * M * P by rw [Int.mul_comm P, Int.mul_assoc]]
        omega
theorem nf_all (N : Int) (hN : 0 ≤ N) (h : N < 2 ^ 253) (m : Nat) (hm : 2 ≤ m) : sw (nf N m 254 0 0) 1 254 = N := by
  rw [nf_sum N hN h m hm 254 0 0 (by omega) (Or.inl rfl) (fun _ => rfl)]
  simp [Int.emod_one]
/-- what its digits are -/
theorem nf_digit (N : Int) (m : Nat) (hm : 2 ≤ m) (f : Nat) : ∀ (i : Nat) (c : Int), (c = 0 ∨ c = 1) → ∀ j, nf N m f i c j = 0 ∨ (nf N m f i c j % 2 = 1 ∧ -(2 ^ (m - 1)) < nf N m f i c j ∧ nf N m f i c j < 2 ^ (m - 1)) := by
  induction f with
  | zero => intro i c _ j; exact Or.inl rfl
  | succ f ih =>
    intro i c hc j
    rw [nf]
    split
    · exact Or.inl rfl
    have wb := win_bd N i m
    have hM : (2 : Int) ^ m = 2 * 2 ^ (m - 1) := p2mul 1 m (by omega)
    have hH : (2 : Int) ^ (m - 1) = 2 * 2 ^ (m - 1 - 1) := p2mul 1 (m - 1) (by omega)
    have hp := p2pos (m - 1)
    split
    · exact ih _ _ hc j
    · rename_i he
      have hq := naf_q (win N i m) c (2 ^ m) (2 ^ (m - 1)) hM wb.1 wb.2 hc hp he
      split
      · refine Or.inr ?_
        have e := Int.emod_add_mul_ediv (win N i m + c) (2 ^ (m - 1))
        have e2 := Int.emod_nonneg (win N i m + c) (show (2 : Int) ^ (m - 1) ≠ 0 by omega)
        have e3 := Int.emod_lt_of_pos (win N i m + c) hp
        rcases hq with h | h <;> rw [h] at e ⊢ <;> omega
      · exact ih _ _ hq j
theorem nf_gap (N : Int) (m : Nat) (hm : 1 ≤ m) (f : Nat) : ∀ (i : Nat) (c : Int) (x y : Nat), x < y → nf N m f i c x ≠ 0 → nf N m f i c y ≠ 0 → x + m ≤ y := by
  induction f with
  | zero => intro i c x y _ hx _; exact absurd rfl hx
  | succ f ih =>
    intro i c x y hxy hx hy
    rw [nf] at hx hy
    by_cases h1 : 254 ≤ i
    · rw [if_pos h1] at hx; exact absurd rfl hx
    rw [if_neg h1] at hx hy
    by_cases he : (win N i m + c) % 2 = 0
    · rw [if_pos he] at hx hy
      exact ih _ _ x y hxy hx hy
    · rw [if_neg he] at hx hy
      by_cases h2 : y = i
      · have : x < i := by omega
        rw [if_neg (by omega)] at hx
        exact absurd (nf_low _ _ _ _ _ _ (by omega)) hx
      · rw [if_neg h2] at hy
        by_cases h3 : x = i
        · by_cases h4 : y < i + m
          · exact absurd (nf_low _ _ _ _ _ _ h4) hy
          · omega
        · rw [if_neg h3] at hx
          exact ih _ _ x y hxy hx hy
theorem lst_253 (n : Int) : 0 ≤ (lst n).n ∧ (lst n).n < 2 ^ 253 := by
  have h := mod_bd n
  rw [lst_n]
  have : Sm.L < 2 ^ 253 := by decide
  omega
end Go.Proofs.YtglalahmcckjaaaDoor
