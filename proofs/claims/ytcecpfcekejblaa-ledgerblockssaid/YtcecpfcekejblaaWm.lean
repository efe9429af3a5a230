namespace Go.Proofs.Ytcecpfcekejblaa
/-- the bytes of a number, of k + 1 bytes at most -/
def vf : Nat → Nat → List UInt8
  | 0, n => [UInt8.ofNat n]
  | k + 1, n => if n < 128 then [UInt8.ofNat n] else UInt8.ofNat (n % 128 + 128) :: vf k (n / 128)
/-- the bytes of a number -/
def vn (n : Nat) : List UInt8 := vf 9 n
theorem vf_small (k n : Nat) (h : n < 128) : vf k n = [UInt8.ofNat n] := by
  cases k with
  | zero => rfl
  | succ k => simp [vf, h]
theorem vf_big (k n : Nat) (h : ¬ n < 128) : vf (k + 1) n = UInt8.ofNat (n % 128 + 128) :: vf k (n / 128) := by simp [vf, h]
theorem vf_len : ∀ k n, 1 ≤ (vf k n).length ∧ (vf k n).length ≤ k + 1
  | 0, n => by simp [vf]
  | k + 1, n => by
    have := vf_len k (n / 128)
    unfold vf
    split
    · simp
    · simp only [List.length_cons]; omega
theorem vn_len (n : Nat) : 1 ≤ (vn n).length ∧ (vn n).length ≤ 10 := vf_len 9 n
/-- what a Reader sees at the front: number, how many bytes, fault -/
def rd : Nat → Nat → List UInt8 → Nat × Nat × Nat
  | _, _, [] => (0, 0, 100)
  | i, acc, c :: r =>
    if i = 9 ∧ 1 < c.toNat then (0, 0, 102)
    else if 128 ≤ c.toNat then rd (i + 1) (acc + (c.toNat - 128) * 2 ^ (7 * i)) r
    else if c.toNat = 0 ∧ 0 < i then (0, 0, 102)
    else (acc + c.toNat * 2 ^ (7 * i), i + 1, 0)
/-- the same, most at most -/
def nm (bs : List UInt8) (most : Nat) : Nat × Nat × Nat :=
  let x := rd 0 0 bs
  if x.2.2 = 0 ∧ most < x.1 then (0, 0, 102) else x
theorem rd_end : ∀ (bs : List UInt8) (i acc : Nat), (rd i acc bs).2.2 = 100 → i ≤ 9 → (∀ c ∈ bs, 128 ≤ c.toNat) ∧ bs.length + i ≤ 9
  | [], i, acc, _, hi => ⟨by simp, by simpa using hi⟩
  | c :: r, i, acc, h, hi => by
    unfold rd at h
    split at h
    · simp at h
    · split at h
      · rename_i h1 h2
        have hi9 : i ≠ 9 := fun e => h1 ⟨e, by omega⟩
        have := rd_end r (i + 1) _ h (by omega)
        refine ⟨fun x hx => ?_, by simp only [List.length_cons]; omega⟩
        rcases List.mem_cons.1 hx with rfl | hx
        · exact h2
        · exact this.1 x hx
      · split at h <;> simp at h
theorem rd_fault : ∀ (bs : List UInt8) (i acc : Nat), (rd i acc bs).2.2 ≠ 0 → (rd i acc bs).1 = 0 ∧ (rd i acc bs).2.1 = 0 ∧ ((rd i acc bs).2.2 = 100 ∨ (rd i acc bs).2.2 = 102)
  | [], i, acc, _ => by simp [rd]
  | c :: r, i, acc, h => by
    unfold rd at h ⊢
    split
    · simp
    · rename_i h1
      rw [if_neg h1] at h
      split
      · rename_i h2
        rw [if_pos h2] at h
        exact rd_fault r _ _ h
      · rename_i h2
        rw [if_neg h2] at h
        split
        · simp
        · rename_i h3
          rw [if_neg h3] at h
          simp at h
theorem ofNat_toNat (c : UInt8) : UInt8.ofNat c.toNat = c := by simp
theorem rd_ok : ∀ (bs : List UInt8) (i acc : Nat), (rd i acc bs).2.2 = 0 → i ≤ 9 → acc < 2 ^ (7 * i) →
    ∃ m k, (rd i acc bs).1 = acc + m * 2 ^ (7 * i) ∧ (rd i acc bs).2.1 = i + k ∧ k ≤ bs.length ∧ bs.take k = vf (9 - i) m ∧ m < 2 ^ (64 - 7 * i) ∧ (0 < i → 0 < m)
  | [], i, acc, h, _, _ => by simp [rd] at h
  | c :: r, i, acc, h, hi, ha => by
    have hc := c.toNat_lt
    unfold rd at h ⊢
    split
    · rename_i h1
      rw [if_pos h1] at h
      simp at h
    · rename_i h1
      rw [if_neg h1] at h
      split
      · rename_i h2
        rw [if_pos h2] at h
        have hi9 : i ≠ 9 := fun e => h1 ⟨e, by omega⟩
        have hp : 2 ^ (7 * (i + 1)) = 2 ^ (7 * i) * 128 := by rw [Nat.mul_add, Nat.pow_add]
        have hpos : 0 < 2 ^ (7 * i) := Nat.two_pow_pos _
        have hlt : acc + (c.toNat - 128) * 2 ^ (7 * i) < 2 ^ (7 * (i + 1)) := by
          rw [hp]
          have : (c.toNat - 128) * 2 ^ (7 * i) ≤ 127 * 2 ^ (7 * i) := Nat.mul_le_mul_right _ (by omega)
          omega
        obtain ⟨m, k, e1, e2, e3, e4, e5, e6⟩ := rd_ok r (i + 1) _ h (by omega) hlt
        have e6 := e6 (by omega)
        have h64 : 2 ^ (64 - 7 * i) = 128 * 2 ^ (64 - 7 * (i + 1)) := by
          rw [show 64 - 7 * i = 7 + (64 - 7 * (i + 1)) by omega, Nat.pow_add]
        refine ⟨c.toNat - 128 + 128 * m, k + 1, ?_, by omega, by simp; omega, ?_, by omega, fun _ => by omega⟩
        · rw [e1, hp, Nat.add_mul]
          have : m * (2 ^ (7 * i) * 128) = 128 * m * 2 ^ (7 * i) := by rw [Nat.mul_comm (2 ^ (7 * i)) 128, ← Nat.mul_assoc, Nat.mul_comm m 128]
          omega
        · rw [List.take_succ_cons, e4, show 9 - i = (9 - (i + 1)) + 1 by omega, vf_big _ _ (by omega)]
          congr 1
          · rw [show (c.toNat - 128 + 128 * m) % 128 + 128 = c.toNat by omega, ofNat_toNat]
          · rw [show (c.toNat - 128 + 128 * m) / 128 = m by omega]
      · rename_i h2
        rw [if_neg h2] at h
        split
        · rename_i h3
          rw [if_pos h3] at h
          simp at h
        · rename_i h3
          refine ⟨c.toNat, 1, rfl, rfl, by simp, ?_, ?_, fun h => by omega⟩
          · rw [vf_small _ _ (by omega), ofNat_toNat]
            simp
          · by_cases e : i = 9
            · subst e
              have : ¬ 1 < c.toNat := fun h => h1 ⟨rfl, h⟩
              simp
              omega
            · have : 2 ^ 8 ≤ 2 ^ (64 - 7 * i) := Nat.pow_le_pow_right (by omega) (by omega)
              omega
theorem rd_all : ∀ (j m i acc : Nat) (r : List UInt8), i + j = 9 → m < 2 ^ (64 - 7 * i) → (0 < i → 0 < m) → rd i acc (vf j m ++ r) = (acc + m * 2 ^ (7 * i), i + (vf j m).length, 0)
  | 0, m, i, acc, r, hi, hm, h0 => by
    obtain rfl : i = 9 := by omega
    have hm2 : m < 2 := by simpa using hm
    have e : (UInt8.ofNat m).toNat = m := by rw [UInt8.toNat_ofNat']; omega
    have := h0 (by omega)
    simp only [vf, List.cons_append, List.nil_append]
    unfold rd
    rw [e, if_neg (by omega), if_neg (by omega), if_neg (by omega)]
    simp
  | j + 1, m, i, acc, r, hi, hm, h0 => by
    by_cases hs : m < 128
    · have e : (UInt8.ofNat m).toNat = m := by rw [UInt8.toNat_ofNat']; omega
      rw [vf_small _ _ hs]
      simp only [List.cons_append, List.nil_append]
      unfold rd
      rw [e, if_neg (by omega), if_neg (by omega), if_neg (by omega)]
      simp
    · have e : (UInt8.ofNat (m % 128 + 128)).toNat = m % 128 + 128 := by rw [UInt8.toNat_ofNat']; omega
      rw [vf_big _ _ hs]
      simp only [List.cons_append]
      unfold rd
      rw [e, if_neg (by omega), if_pos (by omega)]
      have h64 : 2 ^ (64 - 7 * i) = 128 * 2 ^ (64 - 7 * (i + 1)) := by
        rw [show 64 - 7 * i = 7 + (64 - 7 * (i + 1)) by omega, Nat.pow_add]
      rw [rd_all j (m / 128) (i + 1) _ r (by omega) (by omega) (fun _ => by omega)]
      have hp : 2 ^ (7 * (i + 1)) = 2 ^ (7 * i) * 128 := by rw [Nat.mul_add, Nat.pow_add]
      have e2 : m / 128 * (2 ^ (7 * i) * 128) = 128 * (m / 128) * 2 ^ (7 * i) := by rw [Nat.mul_comm (2 ^ (7 * i)) 128, ← Nat.mul_assoc, Nat.mul_comm (m / 128) 128]
      have e3 : m * 2 ^ (7 * i) = (m % 128) * 2 ^ (7 * i) + 128 * (m / 128) * 2 ^ (7 * i) := by rw [← Nat.add_mul, Nat.mod_add_div]
      simp only [List.length_cons, hp, e2, Prod.mk.injEq, Nat.add_sub_cancel, and_true]
      omega
theorem rd_cut : ∀ (j m i acc k : Nat), i + j = 9 → k < (vf j m).length → rd i acc ((vf j m).take k) = (0, 0, 100)
  | 0, m, i, acc, k, hi, hk => by
    simp only [vf, List.length_cons, List.length_nil] at hk
    obtain rfl : k = 0 := by omega
    simp [rd]
  | j + 1, m, i, acc, 0, hi, hk => by simp [rd]
  | j + 1, m, i, acc, k + 1, hi, hk => by
    by_cases hs : m < 128
    · rw [vf_small _ _ hs] at hk
      simp at hk
    · have e : (UInt8.ofNat (m % 128 + 128)).toNat = m % 128 + 128 := by rw [UInt8.toNat_ofNat']; omega
      rw [vf_big _ _ hs] at hk ⊢
      simp only [List.length_cons] at hk
      rw [List.take_succ_cons]
      unfold rd
      rw [e, if_neg (by omega), if_pos (by omega)]
      exact rd_cut j (m / 128) (i + 1) _ k (by omega) (by omega)
/-- what is written is read -/
theorem nm_all (n most : Nat) (r : List UInt8) (h : n < 2 ^ 64) (hm : n ≤ most) : nm (vn n ++ r) most = (n, (vn n).length, 0) := by
  have := rd_all 9 n 0 0 r rfl (by simpa using h) (by omega)
  unfold nm vn
  rw [this]
  simp
  omega
theorem nm_less (n most : Nat) (r : List UInt8) (h : n < 2 ^ 64) (hm : most < n) : nm (vn n ++ r) most = (0, 0, 102) := by
  have := rd_all 9 n 0 0 r rfl (by simpa using h) (by omega)
  unfold nm vn
  rw [this]
  simp
  omega
theorem nm_cut (n most k : Nat) (hk : k < (vn n).length) : nm ((vn n).take k) most = (0, 0, 100) := by
  have := rd_cut 9 n 0 0 k rfl hk
  unfold nm vn
  rw [this]
  simp
theorem nm_ok (bs : List UInt8) (most : Nat) (h : (nm bs most).2.2 = 0) : (nm bs most).1 < 2 ^ 64 ∧ (nm bs most).1 ≤ most ∧ (nm bs most).2.1 ≤ bs.length ∧ bs.take (nm bs most).2.1 = vn (nm bs most).1 ∧ 1 ≤ (nm bs most).2.1 ∧ rd 0 0 bs = nm bs most := by
  unfold nm at h ⊢
  dsimp only at h ⊢
  split at h
  · simp at h
  · rename_i h1
    rw [if_neg h1]
    obtain ⟨m, k, e1, e2, e3, e4, e5, _⟩ := rd_ok bs 0 0 h (by omega) (by simp)
    simp only [Nat.mul_zero, Nat.pow_zero, Nat.mul_one, Nat.zero_add, Nat.sub_zero] at e1 e2 e4 e5
    rw [e1] at h1 ⊢
    rw [e2]
    refine ⟨e5, by omega, e3, e4, ?_, rfl⟩
    have := (vf_len 9 m).1
    rw [← e4, List.length_take] at this
    omega
theorem nm_fault (bs : List UInt8) (most : Nat) (h : (nm bs most).2.2 ≠ 0) : (nm bs most).1 = 0 ∧ (nm bs most).2.1 = 0 ∧ ((nm bs most).2.2 = 100 ∨ (nm bs most).2.2 = 102) := by
  unfold nm at h ⊢
  dsimp only at h ⊢
  split at h
  · rename_i h1
    rw [if_pos h1]
    simp
  · rename_i h1
    rw [if_neg h1]
    exact rd_fault bs 0 0 h
theorem nm_end (bs : List UInt8) (most : Nat) (h : (nm bs most).2.2 = 100) : (∀ c ∈ bs, 128 ≤ c.toNat) ∧ bs.length ≤ 9 := by
  unfold nm at h
  dsimp only at h
  split at h
  · simp at h
  · simpa using rd_end bs 0 0 h (by omega)
theorem vn_inj {a b : Nat} (ha : a < 2 ^ 64) (hb : b < 2 ^ 64) (h : vn a = vn b) : a = b := by
  have h1 := nm_all a (2 ^ 64) [] ha (by omega)
  have h2 := nm_all b (2 ^ 64) [] hb (by omega)
  rw [h, h2] at h1
  exact (congrArg Prod.fst h1).symm
end Go.Proofs.Ytcecpfcekejblaa
