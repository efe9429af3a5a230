import Derived.Test.YtkfkmndhbfeagaaGreatDoorPh
namespace Go.Proofs.YtkfkmndhbfeagaaGreatDoor
open Go.RowKit
set_option linter.unusedVariables false
/-- the reader behind i things of 32 bytes; what it read -/
def ts (l : List UInt8) : Nat → List UInt8 × Int
  | 0 => (l, 0)
  | i + 1 => (nb (ts l i).1 (ts l i).2, ne (ts l i).1 (ts l i).2)
def sv (l : List UInt8) (i : Nat) : E4 := nd (ts l i).1 (ts l i).2
/-- the 32 bytes in place i -/
def ck (l : List UInt8) (i : Nat) : List UInt8 := (l.drop (32 * i)).take 32
theorem ck_len {l : List UInt8} {m i : Nat} (hl : l.length = 32 * m) (hi : i < m) : (ck l i).length = 32 := by unfold ck; rw [List.length_take, List.length_drop]; omega
theorem de_good {bs : List UInt8} (h : dn (bs.take 32) < Sm.L) : de bs = 0 ∧ d4 bs = lst (dn (bs.take 32)) := by unfold de d4; simp [h]
theorem de_wrong {bs : List UInt8} (h : ¬ dn (bs.take 32) < Sm.L) : de bs = 3 := by unfold de; simp [h]
theorem ts_inv (l : List UInt8) (m : Nat) (hl : l.length = 32 * m) : ∀ i, i ≤ m → ((ts l i).2 = 0 ∧ (ts l i).1 = l.drop (32 * i) ∧ (∀ j, j < i → dn (ck l j) < Sm.L) ∧ ∀ j, j < i → sv l j = lst (dn (ck l j))) ∨ ((ts l i).2 = 3 ∧ ∃ j, j < i ∧ ¬ dn (ck l j) < Sm.L)
  | 0, _ => .inl ⟨rfl, rfl, fun j hj => by omega, fun j hj => by omega⟩
  | i + 1, hi => by
    rcases ts_inv l m hl i (by omega) with ⟨h1, h2, h3, h4⟩ | ⟨h1, j, hj, hb⟩
    · have hck : (ts l i).1.take 32 = ck l i := by rw [h2]; rfl
      by_cases hg : dn (ck l i) < Sm.L
      · obtain ⟨g1, g2⟩ := de_good (bs := (ts l i).1) (by rw [hck]; exact hg)
        refine .inl ⟨?_, ?_, ?_, ?_⟩
        · show ne (ts l i).1 (ts l i).2 = 0
          rw [h1]; exact (nb_ok g1).2.1
        · show nb (ts l i).1 (ts l i).2 = _
          rw [h1, (nb_ok g1).1, h2, List.drop_drop, show 32 * i + 32 = 32 * (i + 1) by omega]
        · intro j hj
          by_cases e : j = i
          · subst e; exact hg
          · exact h3 j (by omega)
        · intro j hj
          by_cases e : j = i
          · subst e
            show nd (ts l j).1 (ts l j).2 = _
            rw [h1, (nb_ok g1).2.2, g2, hck]
          · exact h4 j (by omega)
      · right
        have g1 := de_wrong (bs := (ts l i).1) (by rw [hck]; exact hg)
        refine ⟨?_, i, by omega, hg⟩
        show ne (ts l i).1 (ts l i).2 = 3
        unfold ne
        rw [h1, if_pos rfl, g1]
    · right
      refine ⟨?_, j, by omega, hb⟩
      show ne (ts l i).1 (ts l i).2 = 3
      unfold ne
      rw [h1]; rfl
theorem ts_room (l : List UInt8) (m : Nat) (hl : l.length = 32 * m) (i : Nat) (hi : i < m) (h0 : (ts l i).2 = 0) : 32 ≤ (ts l i).1.length := by
  rcases ts_inv l m hl i (by omega) with ⟨h1, h2, h3, h4⟩ | ⟨h1, j, hj, hb⟩
  · rw [h2, List.length_drop]; omega
  · rw [h1] at h0; cases h0
theorem z4_ok : zero4.ok := by unfold zero4 E4.ok Sm.Wd; exact ⟨by decide, by decide, by decide, by decide⟩
theorem sv_ok (l : List UInt8) (i : Nat) : (sv l i).ok := by
  unfold sv nd
  split
  · unfold d4
    cases decide (dn ((ts l i).1.take 32) < Sm.L)
    · exact z4_ok
    · exact lst_ok _
  · exact z4_ok
/-- the cells of a proof, by its parts -/
def pcv (a0 a1 a2 a3 a4 a5 a6 a7 a8 : E4) (LV RV : Value) : List Value := [.int .u64 a0.x0, .int .u64 a0.x1, .int .u64 a0.x2, .int .u64 a0.x3, .int .u64 a1.x0, .int .u64 a1.x1, .int .u64 a1.x2, .int .u64 a1.x3, .int .u64 a2.x0, .int .u64 a2.x1, .int .u64 a2.x2, .int .u64 a2.x3, .int .u64 a3.x0, .int .u64 a3.x1, .int .u64 a3.x2, .int .u64 a3.x3, .int .u64 a4.x0, .int .u64 a4.x1, .int .u64 a4.x2, .int .u64 a4.x3, .int .u64 a5.x0, .int .u64 a5.x1, .int .u64 a5.x2, .int .u64 a5.x3, .int .u64 a6.x0, .int .u64 a6.x1, .int .u64 a6.x2, .int .u64 a6.x3, LV, RV, .int .u64 a7.x0, .int .u64 a7.x1, .int .u64 a7.x2, .int .u64 a7.x3, .int .u64 a8.x0, .int .u64 a8.x1, .int .u64 a8.x2, .int .u64 a8.x3]
theorem pcv_pc (s : Nat → E4) (LV RV : Value) : pc s LV RV = pcv (s 0) (s 1) (s 2) (s 3) (s 4) (s 5) (s 6) (s 7) (s 8) LV RV := rfl
theorem range_app {w : World} {b o : Nat} {xs ys : List Value} : w.rangeAt b o (xs ++ ys) ↔ w.rangeAt b o xs ∧ w.rangeAt b (o + xs.length) ys := by
  constructor
  · intro h
    refine ⟨fun j v hv => h j v (by rw [List.getElem?_append_left (List.getElem?_eq_some_iff.1 hv).1]; exact hv), fun j v hv => ?_⟩
    have := h (xs.length + j) v (by rw [List.getElem?_append_right (by omega), show xs.length + j - xs.length = j by omega]; exact hv)
    rwa [show o + (xs.length + j) = o + xs.length + j by omega] at this
  · rintro ⟨h1, h2⟩ j v hv
    by_cases hj : j < xs.length
    · rw [List.getElem?_append_left hj] at hv
      exact h1 j v hv
    · rw [List.getElem?_append_right (by omega)] at hv
      have := h2 (j - xs.length) v hv
      rwa [show o + xs.length + (j - xs.length) = o + j by omega] at this
theorem there_part {w : World} {b n : Nat} (h : w.there b 0 n) (o m : Nat) (hm : o + m ≤ n) : w.there b o m := fun j hj => by
  have := h (o + j) (by omega)
  rwa [Nat.zero_add] at this
theorem Mw.kp {w0 w w' : World} {L : List (Nat × List Value)} {g : Nat} (h : Mw w0 L w) (k : Tr.Kp g w w') (hg : w0.heap.size ≤ g) (hne : ∀ p ∈ L, p.1 ≠ g) : Mw w0 L w' :=
  ⟨Tr.below_trans h.bel (k.below hg h.bel.size), fun p hp => ⟨range_kp (h.r p hp).1 k (hne p hp), there_kp (h.r p hp).2.1 k (hne p hp), (h.r p hp).2.2.1, Nat.lt_of_lt_of_le (h.r p hp).2.2.2 k.size⟩⟩
theorem Mw.patch {w0 w : World} {L : List (Nat × List Value)} {b : Nat} {cs : List Value} (h : Mw w0 ((b, cs) :: L) w) (o : Nat) (vs xs ys : List Value) (hcs : ∃ us, us.length = vs.length ∧ cs = xs ++ (us ++ ys)) (ho : xs.length = o) (hne : ∀ p ∈ L, p.1 ≠ b) :
    Mw w0 ((b, xs ++ (vs ++ ys)) :: L) (w.setCells b o vs) ∧ w.there b o vs.toArray.size := by
  obtain ⟨us, hu, rfl⟩ := hcs
  obtain ⟨h1, h2, h3, h4⟩ := h.r (b, xs ++ (us ++ ys)) (List.Mem.head _)
  simp only at h1 h2 h3 h4
  subst ho
  rw [range_app, range_app] at h1
  have ht : w.there b xs.length vs.length := there_part h2 _ _ (by simp only [List.length_append]; omega)
  have K := kp_setCells b vs xs.length w
  refine ⟨⟨Tr.below_trans h.bel (K.below h3 h.bel.size), fun p hp => ?_⟩, by simpa using ht⟩
  rcases List.mem_cons.1 hp with rfl | hp
  · refine ⟨?_, ?_, h3, by simpa using (show b < (w.setCells b xs.length vs).heap.size by rw [size_setCellsM]; exact h4)⟩
    · simp only
      rw [range_app, range_app]
      refine ⟨World.rangeAt_setCells_apart h1.1 _ _ _ (by omega), ?_, ?_⟩
      · rw [Nat.zero_add]; exact World.rangeAt_setCells_same w b xs.length vs ht
      · have := World.rangeAt_setCells_apart h1.2.2 b xs.length vs (by omega)
        rwa [hu] at this
    · have e : (xs ++ (vs ++ ys)).length = (xs ++ (us ++ ys)).length := by simp only [List.length_append]; omega
      simp only [e]
      exact World.there_setCells h2 _ _ _
  · have := h.r p (List.mem_cons_of_mem _ hp)
    exact ⟨range_kp this.1 K (hne p hp), there_kp this.2.1 K (hne p hp), this.2.2.1, Nat.lt_of_lt_of_le this.2.2.2 K.size⟩
end Go.Proofs.YtkfkmndhbfeagaaGreatDoor
