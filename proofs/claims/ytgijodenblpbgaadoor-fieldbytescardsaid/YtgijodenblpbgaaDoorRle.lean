import Derived.Test.YtgijodenblpbgaaDoorRlm
namespace Go.Proofs.YtgijodenblpbgaaDoor
open Go.RowKit
/-- n numbers lie there -/
structure Ri (w : World) (b n : Nat) (g : Nat → Int) : Prop where
  c : ∀ j, j < n → w.cell? ⟨b, j, none⟩ = some (.int .i64 (g j))
  fr : ∀ j, j < n → w.frozen? ⟨b, j, none⟩ = false
  lt : b < w.heap.size
theorem Ri.keep {w w' : World} {b n : Nat} {g : Nat → Int} (h : Ri w b n g) (hb : Below w.heap.size w w') : Ri w' b n g :=
  ⟨fun j hj => by rw [hb.cell (p := ⟨b, j, none⟩) h.lt]; exact h.c j hj, fun j hj => (hb.frozen (p := ⟨b, j, none⟩) h.lt).trans (h.fr j hj), Nat.lt_of_lt_of_le h.lt hb.size⟩
theorem Ri.congr {w : World} {b n : Nat} {g f : Nat → Int} (h : Ri w b n g) (e : ∀ j, j < n → g j = f j) : Ri w b n f := ⟨fun j hj => by rw [← e j hj]; exact h.c j hj, h.fr, h.lt⟩
theorem Ri.far {w : World} {b n : Nat} {g : Nat → Int} (h : Ri w b n g) {c : Nat} (hne : c ≠ b) (k : Nat) (v : Value) : Ri (w.setCell ⟨c, k, none⟩ v) b n g :=
  ⟨fun j hj => (World.cell?_setCell_far w _ _ _ hne).trans (h.c j hj), fun j hj => by rw [World.frozen?_setCell]; exact h.fr j hj, by have := h.lt; simpa using this⟩
theorem Ri.at {w : World} {b n : Nat} {g : Nat → Int} (h : Ri w b n g) (k : Nat) (hk : k < n) (v : Int) : Ri (w.setCell ⟨b, k, none⟩ (.int .i64 v)) b n (fun j => if j = k then v else g j) := by
  refine ⟨fun j hj => ?_, fun j hj => by rw [World.frozen?_setCell]; exact h.fr j hj, by have := h.lt; simpa using this⟩
  by_cases hjk : j = k
  · subst hjk
    have hb := h.c j hj
    rw [if_pos rfl]
    go_simp
  · rw [if_neg hjk, World.cell?_setCell_other w _ _ _ (by intro e; exact hjk (congrArg Addr.off e).symm)]
    exact h.c j hj
theorem Ri.new (w : World) (xs : List Int) (t : TypeId) : Ri (w.alloc (.cells (xs.map fun z => Value.int .i64 z).toArray t)) w.heap.size xs.length (fun j => xs.getD j 0) := by
  refine ⟨fun j hj => ?_, fun j _ => by go_simp, by simp⟩
  rw [World.cell?_alloc_mark]
  simp [hj]
theorem getD_rep (n j : Nat) : (List.replicate n (0 : Int)).getD j 0 = 0 := by
  rw [List.getD_eq_getElem?_getD, List.getElem?_replicate]
  split <;> rfl
theorem Ri.zero10 (w : World) (t : TypeId) : Ri (w.alloc (.cells #[.int .i64 0, .int .i64 0, .int .i64 0, .int .i64 0, .int .i64 0, .int .i64 0, .int .i64 0, .int .i64 0, .int .i64 0, .int .i64 0] t)) w.heap.size 10 (fun _ => 0) :=
  (Ri.new w (List.replicate 10 0) t).congr (fun j _ => getD_rep 10 j)
/-- the values of a row -/
def vs (n : Nat) (g : Nat → Int) : List Value := (List.range n).map fun j => Value.int .i64 (g j)
theorem Ri.range {w : World} {b n : Nat} {g : Nat → Int} (h : Ri w b n g) : w.rangeAt b 0 (vs n g) := fun j v hv => by
  have hj : j < n := by
    have := (List.getElem?_eq_some_iff.1 hv).1
    simpa [vs] using this
  simp [vs, hj] at hv
  rw [Nat.zero_add, h.c j hj, hv]
theorem Ri.there {w : World} {b n : Nat} {g : Nat → Int} (h : Ri w b n g) : w.there b 0 n := fun j hj => by
  rw [Nat.zero_add]
  exact ⟨by rw [h.c j hj]; rfl, h.fr j hj⟩
theorem vs_digs (D : Int) : vs 10 (dig D) = (digs D).map fun z => Value.int .i64 z := by simp [vs, digs]
theorem drew_bl (w : World) : Below w.heap.size w w.drew := (Below.refl _ _).drew

/-- the prime's digits -/
def prF : List Int := [67108845, 67108863, 67108863, 67108863, 67108863, 67108863, 67108863, 67108863, 67108863, 2097151]
structure Pm (w : World) : Prop where
  r : w.rangeAt 1 0 (prF.map fun z => Value.int .i64 z)
theorem Pm.keep {w w' : World} (h : Pm w) (hb : Below w.heap.size w w') : Pm w' := ⟨fun j v hv => by
  have := h.r j v hv
  rw [hb.cell (p := ⟨1, 0 + j, none⟩) (World.block_lt_of_cell? w ⟨1, 0 + j, none⟩ this)]
  exact this⟩
structure L2 (w0 : World) (d : Nat → Int) (w : World) : Prop where
  a : Ri w w0.heap.size 20 d
  r : Ri w (w0.heap.size + 1) 10 (fun _ => 0)
  bel : Below w0.heap.size w0 w
structure L3 (w0 : World) (O : Nat) (d y : Nat → Int) (w : World) : Prop where
  l : L2 w0 d w
  o : Ri w O 10 y
  ne : w0.heap.size + 1 < O
theorem L2.keep {w0 : World} {d : Nat → Int} {w w' : World} (h : L2 w0 d w) (hb : Below w.heap.size w w') : L2 w0 d w' := ⟨h.a.keep hb, h.r.keep hb, bl_trans h.bel hb⟩
theorem L3.keep {w0 : World} {O : Nat} {d y : Nat → Int} {w w' : World} (h : L3 w0 O d y w) (hb : Below w.heap.size w w') : L3 w0 O d y w' := ⟨h.l.keep hb, h.o.keep hb, h.ne⟩
theorem L2.start (w : World) (xs : List Int) (t t2 : TypeId) (lx : xs.length = 20) :
    L2 w (fun j => xs.getD j 0) ((w.alloc (.cells (xs.map fun z => Value.int .i64 z).toArray t)).alloc (.cells #[.int .i64 0, .int .i64 0, .int .i64 0, .int .i64 0, .int .i64 0, .int .i64 0, .int .i64 0, .int .i64 0, .int .i64 0, .int .i64 0] t2)) := by
  have h1 := Ri.new w xs t
  rw [lx] at h1
  have h2 := Ri.zero10 (w.alloc (.cells (xs.map fun z => Value.int .i64 z).toArray t)) t2
  rw [World.size_alloc] at h2
  exact ⟨h1.keep (bl_alloc _ _), h2, bl_alloc2 _ _ _⟩
theorem L2.put {w0 : World} {d : Nat → Int} {w : World} (h : L2 w0 d w) (k : Nat) (hk : k < 20) (v : Int) : L2 w0 (fun j => if j = k then v else d j) (w.setCell ⟨w0.heap.size, k, none⟩ (.int .i64 v)) :=
  ⟨h.a.at k hk v, h.r.far (by omega) _ _, h.bel.setCell (Nat.le_refl _) _⟩
theorem L2.congr {w0 : World} {d e : Nat → Int} {w : World} (h : L2 w0 d w) (hd : ∀ j, j < 20 → d j = e j) : L2 w0 e w := ⟨h.a.congr hd, h.r, h.bel⟩
theorem L3.put {w0 : World} {O : Nat} {d y : Nat → Int} {w : World} (h : L3 w0 O d y w) (k : Nat) (hk : k < 10) (v : Int) : L3 w0 O d (fun j => if j = k then v else y j) (w.setCell ⟨O, k, none⟩ (.int .i64 v)) :=
  ⟨⟨h.l.a.far (by have := h.ne; omega) _ _, h.l.r.far (by have := h.ne; omega) _ _, h.l.bel.setCell (by have := h.ne; show w0.heap.size ≤ O; omega) _⟩, h.o.at k hk v, h.ne⟩
theorem L3.congr {w0 : World} {O : Nat} {d y z : Nat → Int} {w : World} (h : L3 w0 O d y w) (hd : ∀ j, j < 10 → y j = z j) : L3 w0 O d z w := ⟨h.l, h.o.congr hd, h.ne⟩
end Go.Proofs.YtgijodenblpbgaaDoor
