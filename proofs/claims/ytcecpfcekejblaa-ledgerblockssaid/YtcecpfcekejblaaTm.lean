namespace Go.Proofs.Ytcecpfcekejblaa
/-- a length: eight bytes, the lowest first -/
def le8 (n : Nat) : List UInt8 := (List.range 8).map fun i => UInt8.ofNat (n / 2 ^ (8 * i))
theorem le8_len (n : Nat) : (le8 n).length = 8 := by simp [le8]
theorem le8_take (n k : Nat) (h : k < 8) : (le8 n).take (k + 1) = (le8 n).take k ++ [UInt8.ofNat (n / 2 ^ (8 * k))] := by
  rw [List.take_add_one]
  congr 1
  simp [le8, List.getElem?_map, List.getElem?_range h]
theorem le8_all (n : Nat) : (le8 n).take 8 = le8 n := List.take_of_length_le (by rw [le8_len]; exact Nat.le_refl _)
theorem le8_inj {a b : Nat} (ha : a < 2 ^ 64) (hb : b < 2 ^ 64) (h : le8 a = le8 b) : a = b := by
  have k : ∀ i, i < 8 → a / 2 ^ (8 * i) % 256 = b / 2 ^ (8 * i) % 256 := fun i hi => by
    have h1 := congrArg (fun l => (l.getD i 0).toNat) h
    simpa [le8, List.getElem?_map, List.getElem?_range hi] using h1
  have k0 := k 0 (by omega)
  have k1 := k 1 (by omega)
  have k2 := k 2 (by omega)
  have k3 := k 3 (by omega)
  have k4 := k 4 (by omega)
  have k5 := k 5 (by omega)
  have k6 := k 6 (by omega)
  have k7 := k 7 (by omega)
  simp only [Nat.mul_zero, Nat.pow_zero, Nat.div_one, Nat.reduceMul, Nat.reducePow] at k0 k1 k2 k3 k4 k5 k6 k7 ha hb
  omega
/-- a part in a frame -/
def pt8 (p : List UInt8) : List UInt8 := le8 p.length ++ p
/-- the frame -/
def fr (l : List UInt8) (ps : List (List UInt8)) : List UInt8 := le8 l.length ++ l ++ le8 ps.length ++ ps.flatMap pt8
/-- its length -/
def frl (l : List UInt8) (ps : List (List UInt8)) : Nat := 16 + l.length + (ps.map fun p => 8 + p.length).sum
theorem parts_len : ∀ ps : List (List UInt8), (ps.flatMap pt8).length = (ps.map fun p => 8 + p.length).sum
  | [] => rfl
  | p :: r => by
    rw [List.flatMap_cons, List.length_append, parts_len r, List.map_cons, List.sum_cons, pt8, List.length_append, le8_len]
theorem fr_len (l : List UInt8) (ps : List (List UInt8)) : (fr l ps).length = frl l ps := by
  simp only [fr, frl, List.length_append, le8_len, parts_len]
  omega
theorem parts_inj : ∀ (a b : List (List UInt8)) (r t : List UInt8), a.length = b.length → (∀ p ∈ a, p.length < 2 ^ 64) → (∀ p ∈ b, p.length < 2 ^ 64) → a.flatMap pt8 ++ r = b.flatMap pt8 ++ t → a = b
  | [], [], _, _, _, _, _, _ => rfl
  | [], _ :: _, _, _, h, _, _, _ => by simp at h
  | _ :: _, [], _, _, h, _, _, _ => by simp at h
  | p :: a, q :: b, r, t, h, ha, hb, e => by
    simp only [List.flatMap_cons, pt8, List.append_assoc] at e
    have e1 := List.append_inj e (by simp [le8_len])
    have e2 := le8_inj (ha p (by simp)) (hb q (by simp)) e1.1
    have e3 := List.append_inj e1.2 e2
    have e4 := parts_inj a b r t (by simpa using h) (fun x hx => ha x (by simp [hx])) (fun x hx => hb x (by simp [hx])) e3.2
    rw [e3.1, e4]
theorem fr_inj {l m : List UInt8} {a b : List (List UInt8)} {r t : List UInt8} (hl : l.length < 2 ^ 64) (hm : m.length < 2 ^ 64) (hla : a.length < 2 ^ 64) (hlb : b.length < 2 ^ 64) (ha : ∀ p ∈ a, p.length < 2 ^ 64) (hb : ∀ p ∈ b, p.length < 2 ^ 64) (e : fr l a ++ r = fr m b ++ t) : l = m ∧ a = b := by
  simp only [fr, List.append_assoc] at e
  have e1 := List.append_inj e (by simp [le8_len])
  have e2 := le8_inj hl hm e1.1
  have e3 := List.append_inj e1.2 e2
  have e4 := List.append_inj e3.2 (by simp [le8_len])
  have e5 := le8_inj hla hlb e4.1
  exact ⟨e3.1, parts_inj a b r t e5 ha hb e4.2⟩
/-- a member's length -/
theorem mem_le : ∀ (ps : List (List UInt8)) (p : List UInt8), p ∈ ps → 8 + p.length ≤ (ps.map fun p => 8 + p.length).sum
  | q :: r, p, h => by
    rw [List.map_cons, List.sum_cons]
    rcases List.mem_cons.1 h with rfl | h
    · omega
    · have := mem_le r p h
      omega
theorem len_le : ∀ (ps : List (List UInt8)), 8 * ps.length ≤ (ps.map fun p => 8 + p.length).sum
  | [] => by simp
  | q :: r => by
    have := len_le r
    rw [List.map_cons, List.sum_cons, List.length_cons]
    omega
theorem take_sum : ∀ (ps : List (List UInt8)) (k : Nat), ((ps.take k).map fun p => 8 + p.length).sum ≤ (ps.map fun p => 8 + p.length).sum
  | [], k => by simp
  | q :: r, 0 => by simp
  | q :: r, k + 1 => by
    have := take_sum r k
    simp only [List.take_succ_cons, List.map_cons, List.sum_cons]
    omega
theorem fr_apart {l m : List UInt8} {a b : List (List UInt8)} (ha : frl l a < 2 ^ 62) (hb : frl m b < 2 ^ 62) {r : List UInt8} (e : fr l a ++ r = fr m b) : l = m ∧ a = b := by
  unfold frl at ha hb
  have la := len_le a
  have lb := len_le b
  refine fr_inj (r := r) (t := []) (by omega) (by omega) (by omega) (by omega) (fun p hp => ?_) (fun p hp => ?_) (by simpa using e)
  · have := mem_le a p hp
    omega
  · have := mem_le b p hp
    omega
theorem take_next {α : Type} (l : List α) (d : α) (k : Nat) (h : k < l.length) : l.take (k + 1) = l.take k ++ [l.getD k d] := by
  rw [List.take_add_one]
  congr 1
  simp [List.getElem?_eq_getElem h]
theorem parts_next (ps : List (List UInt8)) (k : Nat) (h : k < ps.length) : (ps.take (k + 1)).flatMap pt8 = (ps.take k).flatMap pt8 ++ (le8 (ps.getD k []).length ++ ps.getD k []) := by
  rw [take_next ps [] k h, List.flatMap_append]
  simp [pt8]
theorem sum_next (ps : List (List UInt8)) (k : Nat) (h : k < ps.length) : ((ps.take (k + 1)).map fun p => 8 + p.length).sum = ((ps.take k).map fun p => 8 + p.length).sum + (8 + (ps.getD k []).length) := by
  rw [take_next ps [] k h, List.map_append, List.sum_append]
  simp
theorem fr_big (l : List UInt8) (a : List (List UInt8)) : 16 ≤ (fr l a).length := by rw [fr_len]; unfold frl; omega
/-- parts that a machine may hold -/
def Bd (ps : List (List UInt8)) : Prop := ps.length ≤ 5864062014634 ∧ ∀ r, r < ps.length → (ps.getD r []).length ≤ 140737488351232
theorem frl_bd {ps : List (List UInt8)} (h : frl [] ps ≤ 2 ^ 40) : Bd ps := by
  unfold frl at h
  refine ⟨by have := len_le ps; omega, fun r hr => ?_⟩
  have h1 := sum_next ps r hr
  have h2 := take_sum ps (r + 1)
  omega
end Go.Proofs.Ytcecpfcekejblaa
