import Derived.Test.YtfkigebbcbfkiaaWx
namespace Go.Proofs.Ytfkigebbcbfkiaa
/-- a thing that is written -/
structure Tg where
  tx : Bool
  n : Nat
  B : List UInt8
  P : Option Addr
  c : Nat
/-- its bytes -/
def tb (t : Tg) : List UInt8 := if t.tx then vn t.B.length ++ t.B else vn t.n
/-- all bytes -/
def eb (ts : List Tg) : List UInt8 := ts.flatMap tb
/-- things that a machine may hold -/
def Tok (t : Tg) : Prop := t.n < 2 ^ 64 ∧ t.B.length < 2 ^ 60
/-- the reading of things from bytes, with a fault, ends so, and what is read without one is right -/
def Gd (res : Int) : List Tg → List UInt8 → Int → Prop
  | [], r, e => en r e = res
  | t :: ts, r, e =>
    if e ≠ 0 then Gd res ts r e
    else if t.tx then ((bt r t.B.length).2.2 = 0 → (bt r t.B.length).1 = t.B) ∧ Gd res ts (r.drop (bt r t.B.length).2.1) ((bt r t.B.length).2.2 : Int)
    else ((nm r t.n).2.2 = 0 → (nm r t.n).1 = t.n) ∧ Gd res ts (r.drop (nm r t.n).2.1) ((nm r t.n).2.2 : Int)
theorem Gd.fault {e : Int} (he : e ≠ 0) : ∀ (ts : List Tg) (r : List UInt8), Gd e ts r e
  | [], r => by unfold Gd en; rw [if_neg (fun h => he h.1)]
  | t :: ts, r => by unfold Gd; rw [if_pos he]; exact Gd.fault he ts r
theorem Gd.skip {res e : Int} {t : Tg} {ts : List Tg} {r : List UInt8} (h : Gd res (t :: ts) r e) (he : e ≠ 0) : Gd res ts r e := by
  unfold Gd at h; rw [if_pos he] at h; exact h
theorem Gd.text {res : Int} {t : Tg} {ts : List Tg} {r : List UInt8} (h : Gd res (t :: ts) r 0) (ht : t.tx = true) : ((bt r t.B.length).2.2 = 0 → (bt r t.B.length).1 = t.B) ∧ Gd res ts (r.drop (bt r t.B.length).2.1) ((bt r t.B.length).2.2 : Int) := by
  unfold Gd at h; rw [if_neg (by simp), if_pos ht] at h; exact h
theorem Gd.numb {res : Int} {t : Tg} {ts : List Tg} {r : List UInt8} (h : Gd res (t :: ts) r 0) (ht : t.tx = false) : ((nm r t.n).2.2 = 0 → (nm r t.n).1 = t.n) ∧ Gd res ts (r.drop (nm r t.n).2.1) ((nm r t.n).2.2 : Int) := by
  unfold Gd at h; rw [if_neg (by simp), if_neg (by simp [ht])] at h; exact h
theorem bt_all (B r : List UInt8) (h : B.length < 2 ^ 60) : bt (vn B.length ++ B ++ r) B.length = (B, (vn B.length ++ B).length, 0) := by
  have h1 := nm_all B.length 18446744073709551615 (B ++ r) (by omega) (by omega)
  rw [← List.append_assoc] at h1
  have h2 : ct (vn B.length ++ B ++ r) B.length = (B.length, (vn B.length).length, 0) := by
    rw [ct_ok (by rw [h1]) (by rw [h1]; simp), h1]
  rw [bt_ok (by rw [h2]) (by rw [h2]; simp), h2]
  simp [List.append_assoc]
theorem bt_cut (B r : List UInt8) (k : Nat) (h : B.length < 2 ^ 60) (hk : k < (vn B.length ++ B).length) : bt ((vn B.length ++ B ++ r).take k) B.length = ([], 0, 100) := by
  by_cases h1 : k < (vn B.length).length
  · have h2 : (vn B.length ++ B ++ r).take k = (vn B.length).take k := by
      rw [List.append_assoc, List.take_append_of_le_length (by omega)]
    have h3 := nm_cut B.length 18446744073709551615 k h1
    rw [h2]
    have h4 : ct ((vn B.length).take k) B.length = (0, 0, 100) := by rw [ct_bad (by rw [h3]; simp), h3]
    rw [bt_bad (by rw [h4]; simp), h4]
  · have h2 : (vn B.length ++ B ++ r).take k = vn B.length ++ (B ++ r).take (k - (vn B.length).length) := by
      rw [List.append_assoc, List.take_append, List.take_of_length_le (by omega)]
    have h3 := nm_all B.length 18446744073709551615 ((B ++ r).take (k - (vn B.length).length)) (by omega) (by omega)
    rw [h2]
    have h4 : ct (vn B.length ++ (B ++ r).take (k - (vn B.length).length)) B.length = (B.length, (vn B.length).length, 0) := by
      rw [ct_ok (by rw [h3]) (by rw [h3]; simp), h3]
    rw [bt_end (by rw [h4]) (by rw [h4]; simp only [List.length_append, List.length_take] at hk ⊢; omega)]
/-- what is written is read back -/
theorem Gd.all (r : List UInt8) : ∀ ts : List Tg, (∀ t ∈ ts, Tok t) → Gd (en r 0) ts (eb ts ++ r) 0
  | [], _ => rfl
  | t :: ts, h => by
    have ht := h t (by simp)
    have ih := Gd.all r ts (fun x hx => h x (by simp [hx]))
    unfold Gd
    rw [if_neg (by simp)]
    by_cases hx : t.tx = true
    · have e : eb (t :: ts) ++ r = vn t.B.length ++ t.B ++ (eb ts ++ r) := by simp [eb, tb, hx, List.append_assoc]
      rw [if_pos hx, e, bt_all _ _ ht.2]
      exact ⟨fun _ => rfl, by simpa [List.append_assoc] using ih⟩
    · have e : eb (t :: ts) ++ r = vn t.n ++ (eb ts ++ r) := by simp [eb, tb, hx, List.append_assoc]
      rw [if_neg hx, e, nm_all _ _ _ ht.1 (Nat.le_refl _)]
      exact ⟨fun _ => rfl, by simpa using ih⟩
/-- cut off anywhere the reading ends with the fault 100 -/
theorem Gd.cut : ∀ (ts : List Tg) (k : Nat), (∀ t ∈ ts, Tok t) → k < (eb ts).length → Gd 100 ts ((eb ts).take k) 0
  | [], k, _, hk => by simp [eb] at hk
  | t :: ts, k, h, hk => by
    have ht := h t (by simp)
    have ih := fun k => Gd.cut ts k (fun x hx => h x (by simp [hx]))
    unfold Gd
    rw [if_neg (by simp)]
    by_cases hx : t.tx = true
    · have e : eb (t :: ts) = vn t.B.length ++ t.B ++ eb ts := by simp [eb, tb, hx, List.append_assoc]
      rw [e] at hk ⊢
      rw [if_pos hx]
      by_cases h1 : k < (vn t.B.length ++ t.B).length
      · rw [bt_cut _ _ _ ht.2 h1]
        exact ⟨fun h => by simp at h, Gd.fault (by decide) _ _⟩
      · have e2 : (vn t.B.length ++ t.B ++ eb ts).take k = vn t.B.length ++ t.B ++ (eb ts).take (k - (vn t.B.length ++ t.B).length) := by
          rw [List.take_append, List.take_of_length_le (by omega)]
        rw [e2, bt_all _ _ ht.2]
        refine ⟨fun _ => rfl, ?_⟩
        have := ih (k - (vn t.B.length ++ t.B).length) (by rw [List.length_append] at hk; omega)
        simpa using this
    · have e : eb (t :: ts) = vn t.n ++ eb ts := by simp [eb, tb, hx]
      rw [e] at hk ⊢
      rw [if_neg hx]
      by_cases h1 : k < (vn t.n).length
      · rw [List.take_append_of_le_length (by omega), nm_cut _ _ _ h1]
        exact ⟨fun h => by simp at h, Gd.fault (by decide) _ _⟩
      · rw [List.take_append, List.take_of_length_le (by omega), nm_all _ _ _ ht.1 (Nat.le_refl _)]
        refine ⟨fun _ => rfl, ?_⟩
        have := ih (k - (vn t.n).length) (by rw [List.length_append] at hk; omega)
        simpa using this
end Go.Proofs.Ytfkigebbcbfkiaa
