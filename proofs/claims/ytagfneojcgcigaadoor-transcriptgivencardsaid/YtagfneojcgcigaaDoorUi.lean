import Derived.Test.YtagfneojcgcigaaDoorUh
namespace Go.Proofs.YtagfneojcgcigaaDoor.Tr
open Go.RowKit
/-- copies of calls, in a list -/
structure Hz (w : World) (base g n i : Nat) (en : Nat → En) (gm : Nat → Nat) (Q : Nat → Nat → Option Addr) (C : Nat → Nat → Nat) : Prop where
  c0 : ∀ t, t < i → w.cell? ⟨g, t * 3, none⟩ = some (.bool (en t).d)
  c1 : ∀ t, t < i → w.cell? ⟨g, t * 3 + 1, none⟩ = some (.string (sb (en t).l))
  c2 : ∀ t, t < i → w.cell? ⟨g, t * 3 + 2, none⟩ = some (.slice (some ⟨gm t, 0, none⟩) (en t).ps.length (en t).ps.length)
  ce : ∀ x, x < n * 3 → ∃ v, w.cell? ⟨g, x, none⟩ = some v
  fr : ∀ x, x < n * 3 → w.frozen? ⟨g, x, none⟩ = false
  ow : ∀ t, t < i → Ow w base (gm t) (en t).ps.length (en t).ps.length (fun s => (en t).ps.getD s []) (Q t) (C t)
  far : ∀ t, t < i → g < gm t
  ord : ∀ t u, t < u → u < i → gm t < gm u ∧ ∀ j, j < (en t).ps.length → ∀ a, Q t j = some a → a.block < gm u
  gl : base ≤ g ∧ g < w.heap.size
theorem set3_ne (w : World) (b x k : Nat) (u v z : Value) (h : k < x ∨ x + 3 ≤ k) : (((w.setCell ⟨b, x, none⟩ u).setCell ⟨b, x + 1, none⟩ v).setCell ⟨b, x + 2, none⟩ z).cell? ⟨b, k, none⟩ = w.cell? ⟨b, k, none⟩ := by
  rw [World.cell?_setCell_other _ _ _ _ (fun e => by simp only [Addr.mk.injEq, and_true, true_and] at e; omega), World.cell?_setCell_other _ _ _ _ (fun e => by simp only [Addr.mk.injEq, and_true, true_and] at e; omega), World.cell?_setCell_other _ _ _ _ (fun e => by simp only [Addr.mk.injEq, and_true, true_and] at e; omega)]
theorem set3_in (w : World) (b x : Nat) (u v z a b' c : Value) (h0 : w.cell? ⟨b, x, none⟩ = some a) (h1 : w.cell? ⟨b, x + 1, none⟩ = some b') (h2 : w.cell? ⟨b, x + 2, none⟩ = some c) :
    (((w.setCell ⟨b, x, none⟩ u).setCell ⟨b, x + 1, none⟩ v).setCell ⟨b, x + 2, none⟩ z).cell? ⟨b, x, none⟩ = some u ∧ (((w.setCell ⟨b, x, none⟩ u).setCell ⟨b, x + 1, none⟩ v).setCell ⟨b, x + 2, none⟩ z).cell? ⟨b, x + 1, none⟩ = some v ∧ (((w.setCell ⟨b, x, none⟩ u).setCell ⟨b, x + 1, none⟩ v).setCell ⟨b, x + 2, none⟩ z).cell? ⟨b, x + 2, none⟩ = some z := by
  refine ⟨?_, ?_, ?_⟩ <;> go_simp
theorem Hz.add {w w1 : World} {base g n i : Nat} {en : Nat → En} {gm : Nat → Nat} {Q : Nat → Nat → Option Addr} {C : Nat → Nat → Nat} (h : Hz w base g n i en gm Q C) (hi : i < n) (hbs : base ≤ w.heap.size) (hb : Below w.heap.size w w1) {gn : Nat} {Qn : Nat → Option Addr} {Cn : Nat → Nat} (ho : Ow w1 w.heap.size gn (en i).ps.length (en i).ps.length (fun s => (en i).ps.getD s []) Qn Cn) :
    Hz (((w1.setCell ⟨g, i * 3, none⟩ (.bool (en i).d)).setCell ⟨g, i * 3 + 1, none⟩ (.string (sb (en i).l))).setCell ⟨g, i * 3 + 2, none⟩ (.slice (some ⟨gn, 0, none⟩) (en i).ps.length (en i).ps.length)) base g n (i + 1) en (fun t => if t = i then gn else gm t) (fun t => if t = i then Qn else Q t) (fun t => if t = i then Cn else C t) := by
  have hgn : w.heap.size ≤ gn := (ho.list.lt gn rfl).1
  have hgl := h.gl
  have cw : ∀ x, w1.cell? ⟨g, x, none⟩ = w.cell? ⟨g, x, none⟩ := fun x => World.cell?_of_block (a := ⟨g, x, none⟩) (hb.block g hgl.2)
  have fw : ∀ x, w1.frozen? ⟨g, x, none⟩ = w.frozen? ⟨g, x, none⟩ := fun x => World.frozen?_of_block (a := ⟨g, x, none⟩) (hb.block g hgl.2)
  obtain ⟨v0, e0⟩ := h.ce (i * 3) (by omega)
  obtain ⟨v1, e1⟩ := h.ce (i * 3 + 1) (by omega)
  obtain ⟨v2, e2⟩ := h.ce (i * 3 + 2) (by omega)
  have hin := set3_in w1 g (i * 3) (.bool (en i).d) (.string (sb (en i).l)) (.slice (some ⟨gn, 0, none⟩) (en i).ps.length (en i).ps.length) v0 v1 v2 (by rw [cw]; exact e0) (by rw [cw]; exact e1) (by rw [cw]; exact e2)
  have hout := fun k hk => set3_ne w1 g (i * 3) k (.bool (en i).d) (.string (sb (en i).l)) (.slice (some ⟨gn, 0, none⟩) (en i).ps.length (en i).ps.length) hk
  have hblk : ∀ j, j ≠ g → (((w1.setCell ⟨g, i * 3, none⟩ (.bool (en i).d)).setCell ⟨g, i * 3 + 1, none⟩ (.string (sb (en i).l))).setCell ⟨g, i * 3 + 2, none⟩ (.slice (some ⟨gn, 0, none⟩) (en i).ps.length (en i).ps.length)).heap[j]? = w1.heap[j]? := fun j hj => by rw [set_ne _ _ _ _ _ hj, set_ne _ _ _ _ _ hj, set_ne _ _ _ _ _ hj]
  have hlt : ∀ t, t < i → gm t < w.heap.size ∧ ∀ j, j < (en t).ps.length → ∀ a, Q t j = some a → a.block < w.heap.size := fun t ht => ⟨((h.ow t ht).list.lt (gm t) rfl).2, fun j hj a ha => (own_farQ ((h.ow t ht).row j hj) a ha).2⟩
  refine ⟨fun t ht => ?_, fun t ht => ?_, fun t ht => ?_, fun x hx => ?_, fun x hx => ?_, fun t ht => ?_, fun t ht => ?_, fun t u htu hu => ?_, hgl.1, ?_⟩
  · by_cases e : t = i
    · subst e; exact hin.1
    · rw [hout _ (by omega), cw]; exact h.c0 t (by omega)
  · by_cases e : t = i
    · subst e; exact hin.2.1
    · rw [hout _ (by omega), cw]; exact h.c1 t (by omega)
  · by_cases e : t = i
    · subst e; simp only [if_true]; exact hin.2.2
    · simp only [if_neg e]; rw [hout _ (by omega), cw]; exact h.c2 t (by omega)
  · by_cases q0 : x = i * 3
    · subst q0; exact ⟨_, hin.1⟩
    · by_cases q1 : x = i * 3 + 1
      · subst q1; exact ⟨_, hin.2.1⟩
      · by_cases q2 : x = i * 3 + 2
        · subst q2; exact ⟨_, hin.2.2⟩
        · rw [hout _ (by omega), cw]; exact h.ce x hx
  · rw [World.frozen?_setCell, World.frozen?_setCell, World.frozen?_setCell, fw]; exact h.fr x hx
  · by_cases e : t = i
    · subst e
      simp only [if_true]
      exact (ho.base hbs).keep (fun j hj _ => hblk j (by omega))
    · simp only [if_neg e]
      have hf := h.far t (by omega)
      exact ((h.ow t (by omega)).keep (w' := w1) (fun j _ hj => hb.block j hj)).keep (fun j hj _ => hblk j (by omega))
  · by_cases e : t = i
    · subst e; simp only [if_true]; omega
    · simp only [if_neg e]; exact h.far t (by omega)
  · have et : t ≠ i := by omega
    by_cases e : u = i
    · subst e
      simp only [if_true, if_neg et]
      have hl := hlt t htu
      exact ⟨by omega, fun j hj a ha => by have := hl.2 j hj a ha; omega⟩
    · simp only [if_neg e, if_neg et]
      exact h.ord t u htu (by omega)
  · have := hb.size
    simp
    omega
/-- what Heard answers -/
def HrdR (w : World) (n : Nat) (en : Nat → En) (e : Ending) (w' : World) : Prop := ∃ (g : Nat) (gm : Nat → Nat) (Q : Nat → Nat → Option Addr) (C : Nat → Nat → Nat), e = .returned (.slice (some ⟨g, 0, none⟩) n n) ∧ Hz w' w.heap.size g n n en gm Q C ∧ Below w.heap.size w w'
theorem made3 (w : World) (n : Nat) (x y z : Value) (t : TypeId) (j : Nat) (hj : j < n * 3) : ∃ v, (w.alloc (.cells (madeCells #[x, y, z] (n * 3)) t)).cell? ⟨w.heap.size, j, none⟩ = some v := by
  rw [cell_of_row (w.alloc (.cells (madeCells #[x, y, z] (n * 3)) t)) w.heap.size j _ t (0, 0) (heap_alloc_new w _)]
  exact ⟨(madeCells #[x, y, z] (n * 3))[j]'(by simp [madeCells]; exact hj), by rw [Array.getElem?_eq_getElem]⟩
end Go.Proofs.YtagfneojcgcigaaDoor.Tr
