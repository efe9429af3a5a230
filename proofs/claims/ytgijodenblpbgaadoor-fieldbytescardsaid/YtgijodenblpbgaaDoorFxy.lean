import Derived.Test.YtgijodenblpbgaaDoorRsu
namespace Go.Proofs.YtgijodenblpbgaaDoor
open Go.RowKit
/-- what lies where in the laws: two elements; rows of ten digits; hz: the law lists Zero -/
structure LW (w0 : World) (a b : E5) (hz : Prop) (w : World) : Prop where
  a : Ru w w0.heap.size 5 (lmf a)
  b : Ru w (w0.heap.size + 1) 5 (lmf b)
  p : Pm w
  z : hz → Zr w
  bel : Below w0.heap.size w0 w
theorem LW.keep {w0 : World} {a b : E5} {hz : Prop} {w w' : World} (h : LW w0 a b hz w) (hb : Below w.heap.size w w') : LW w0 a b hz w' := ⟨h.a.keep hb, h.b.keep hb, h.p.keep hb, fun x => (h.z x).keep hb, bl_trans h.bel hb⟩
def Z10 : List Value := vs 10 (fun _ => 0)
structure XW (w0 : World) (a b : E5) (hz : Prop) (L : List (Nat × List Value)) (w : World) : Prop where
  l : LW w0 a b hz w
  r : ∀ p ∈ L, w.rangeAt p.1 0 p.2 ∧ w.there p.1 0 10 ∧ w0.heap.size + 1 < p.1
theorem XW.keep {w0 : World} {a b : E5} {hz : Prop} {L : List (Nat × List Value)} {w w' : World} (h : XW w0 a b hz L w) (hb : Below w.heap.size w w') : XW w0 a b hz L w' :=
  ⟨h.l.keep hb, fun p hp => ⟨range_keep (h.r p hp).1 hb, there_keepF (h.r p hp).2.1 hb, (h.r p hp).2.2⟩⟩
theorem XW.lt {w0 : World} {a b : E5} {hz : Prop} {L : List (Nat × List Value)} {w : World} (h : XW w0 a b hz L w) (p : Nat × List Value) (hp : p ∈ L) : p.1 < w.heap.size := by
  obtain ⟨u, hu⟩ := Option.isSome_iff_exists.1 ((h.r p hp).2.1 0 (by omega)).1
  exact World.block_lt_of_cell? w _ hu
theorem XW.sub {w0 : World} {a b : E5} {hz : Prop} {L M : List (Nat × List Value)} {w : World} (h : XW w0 a b hz L w) (hs : ∀ p ∈ M, p ∈ L) : XW w0 a b hz M w := ⟨h.l, fun p hp => h.r p (hs p hp)⟩
theorem XW.new {w0 : World} {a b : E5} {hz : Prop} {L : List (Nat × List Value)} {w : World} (h : XW w0 a b hz L w) (t : TypeId) :
    XW w0 a b hz ((w.heap.size, Z10) :: L) (w.alloc (.cells #[.int .i64 0, .int .i64 0, .int .i64 0, .int .i64 0, .int .i64 0, .int .i64 0, .int .i64 0, .int .i64 0, .int .i64 0, .int .i64 0] t)) := by
  have k := h.keep (bl_alloc w (.cells #[.int .i64 0, .int .i64 0, .int .i64 0, .int .i64 0, .int .i64 0, .int .i64 0, .int .i64 0, .int .i64 0, .int .i64 0, .int .i64 0] t))
  refine ⟨k.l, fun p hp => ?_⟩
  rcases List.mem_cons.1 hp with rfl | hp
  · have z := Ri.zero10 w t
    exact ⟨z.range, z.there, h.l.b.lt⟩
  · exact k.r p hp
theorem size_setCells (b : Nat) : ∀ (vs : List Value) (o : Nat) (w : World), (w.setCells b o vs).heap.size = w.heap.size
  | [], _, _ => rfl
  | v :: vs, o, w => by rw [World.setCells, size_setCells b vs (o + 1)]; simp
theorem XW.set {w0 : World} {a b : E5} {hz : Prop} {L M : List (Nat × List Value)} {w : World} (h : XW w0 a b hz L w) {c : Nat} {o ds : List Value} (hc : (c, o) ∈ L) (hl : ds.length = 10) (hs : ∀ p ∈ M, p ∈ L ∧ c ≠ p.1) :
    XW w0 a b hz ((c, ds) :: M) (w.setCells c 0 ds) := by
  have hg := (h.r _ hc).2.2
  have ht := (h.r _ hc).2.1
  have hne : ∀ (k : Nat) (d : Nat), d ≠ c → (w.setCells c 0 ds).cell? ⟨d, k, none⟩ = w.cell? ⟨d, k, none⟩ := fun k d hd => World.cell?_setCells_out c ds 0 w ⟨d, k, none⟩ (fun e _ => absurd e hd)
  simp only at hg ht
  have hsz : w.heap.size ≤ (w.setCells c 0 ds).heap.size := Nat.le_of_eq (size_setCells c ds 0 w).symm
  refine ⟨⟨⟨fun j hj => (hne _ _ (by omega)).trans (h.l.a.c j hj), fun j hj => by rw [World.frozen?_setCells]; exact h.l.a.fr j hj, Nat.lt_of_lt_of_le h.l.a.lt hsz⟩, ⟨fun j hj => (hne _ _ (by omega)).trans (h.l.b.c j hj), fun j hj => by rw [World.frozen?_setCells]; exact h.l.b.fr j hj, Nat.lt_of_lt_of_le h.l.b.lt hsz⟩, h.l.p.set _ (by omega) _, fun x => (h.l.z x).set _ (by omega) _, below_setCellsR c ds 0 h.l.bel (by omega)⟩, fun p hp => ?_⟩
  rcases List.mem_cons.1 hp with rfl | hp
  · exact ⟨World.rangeAt_setCells_same w c 0 ds (by rw [hl]; exact ht), there_set ht _ _, hg⟩
  · obtain ⟨h1, h2⟩ := hs p hp
    exact ⟨World.rangeAt_setCells_apart (h.r p h1).1 _ _ _ (Or.inl (fun e => h2 e.symm)), there_set (h.r p h1).2.1 _ _, (h.r p h1).2.2⟩
theorem fixF {P : Program} {f : FuncId} {args : Array Value} {w : World} {n : Int} (h : Calls P f args w fun e w' => ∃ r : E5, e = .returned r.v ∧ r.is n ∧ Below w.heap.size w w') : Calls P f args w fun e w' => e = .returned (lst (n % pF)).v ∧ Below w.heap.size w w' :=
  h.mono fun e w' ⟨r, he, hr, hb⟩ => ⟨by rw [he, hr]; unfold lst; rw [show pF = Fm.P from rfl, Int.emod_emod], hb⟩
end Go.Proofs.YtgijodenblpbgaaDoor
