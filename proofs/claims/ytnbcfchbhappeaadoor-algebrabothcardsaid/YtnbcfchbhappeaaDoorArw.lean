import Derived.Test.YtnbcfchbhappeaaDoorAsl
import Derived.Test.YtnbcfchbhappeaaDoorAem
import Derived.Laws.OwnMore
namespace Go.Proofs.YtnbcfchbhappeaaDoor.Al
open Go.RowKit
/-- numbers that lie in a block from a place on, and may be written -/
structure Rk (w : World) (b o n : Nat) (f : Nat → Int) : Prop where
  c : ∀ k, k < n → w.cell? ⟨b, o + k, none⟩ = some (.int .i64 (f k))
  f : ∀ k, k < n → w.frozen? ⟨b, o + k, none⟩ = false
  lt : b < w.heap.size
/-- all old blocks but one are as they were -/
structure But (b : Nat) (w w' : World) : Prop where
  os : w'.os = w.os
  tape : w'.tape = w.tape
  output : w'.output = w.output
  size : w.heap.size ≤ w'.heap.size
  block : ∀ k, k < w.heap.size → k ≠ b → w'.heap[k]? = w.heap[k]?
theorem But.of {b : Nat} {w w' : World} (h : Below w.heap.size w w') : But b w w' := ⟨h.os, h.tape, h.output, h.size, fun k hk _ => h.block k hk⟩
theorem But.refl (b : Nat) (w : World) : But b w w := But.of (Below.refl _ _)
theorem But.trans {b : Nat} {w w1 w2 : World} (h : But b w w1) (g : But b w1 w2) : But b w w2 := ⟨g.os.trans h.os, g.tape.trans h.tape, g.output.trans h.output, Nat.le_trans h.size g.size, fun k hk hn => (g.block k (Nat.lt_of_lt_of_le hk h.size) hn).trans (h.block k hk hn)⟩
theorem But.set {b o : Nat} {w w' : World} (h : But b w w') (v : Value) : But b w (w'.setCell ⟨b, o, none⟩ v) := by
  refine h.trans ⟨rfl, rfl, rfl, by simp, fun k _ hn => Below.heap_setCell w' ⟨b, o, none⟩ v k hn⟩
theorem But.cell {b : Nat} {w w' : World} (h : But b w w') {a : Addr} {v : Value} (hc : w.cell? a = some v) (hn : a.block ≠ b) : w'.cell? a = some v := by
  rw [World.cell?_of_block (w := w) (h.block a.block (World.block_lt_of_cell? w a hc) hn)]; exact hc
theorem But.frozen {b : Nat} {w w' : World} (h : But b w w') {a : Addr} {z : Bool} (hc : w.frozen? a = z) (hl : a.block < w.heap.size) (hn : a.block ≠ b) : w'.frozen? a = z := by
  rw [World.frozen?_of_block (w := w) (h.block a.block hl hn)]; exact hc
theorem But.below {b m : Nat} {w0 w w' : World} (h0 : Below m w0 w) (h : But b w w') (hm : m ≤ b) (hs : m ≤ w.heap.size) : Below m w0 w' :=
  ⟨h.os.trans h0.os, h.tape.trans h0.tape, h.output.trans h0.output, Nat.le_trans h0.size h.size, fun k hk => (h.block k (by omega) (by omega)).trans (h0.block k hk)⟩
theorem But.bel {b : Nat} {w0 w w' : World} (h0 : Below w0.heap.size w0 w) (h : But b w w') (hm : w0.heap.size ≤ b) : Below w0.heap.size w0 w' := h.below h0 hm h0.size
theorem Rk.keep {w w' : World} {b o n : Nat} {f : Nat → Int} (h : Rk w b o n f) (hb : Below w.heap.size w w') : Rk w' b o n f :=
  ⟨fun k hk => cell_keep (h.c k hk) hb, fun k hk => frozen_keep (h.f k hk) h.lt hb, Nat.lt_of_lt_of_le h.lt hb.size⟩
theorem Rk.but {w w' : World} {b o n d : Nat} {f : Nat → Int} (h : Rk w b o n f) (hb : But d w w') (hn : b ≠ d) : Rk w' b o n f :=
  ⟨fun k hk => hb.cell (h.c k hk) hn, fun k hk => hb.frozen (h.f k hk) h.lt hn, Nat.lt_of_lt_of_le h.lt hb.size⟩
theorem Rk.congr {w : World} {b o n : Nat} {f g : Nat → Int} (h : Rk w b o n f) (e : ∀ k, k < n → f k = g k) : Rk w b o n g := ⟨fun k hk => by rw [← e k hk]; exact h.c k hk, h.f, h.lt⟩
theorem Rk.set {w : World} {b o n : Nat} {f : Nat → Int} (h : Rk w b o n f) (k : Nat) (hk : k < n) (x : Int) : Rk (w.setCell ⟨b, o + k, none⟩ (.int .i64 x)) b o n (fun j => if j = k then x else f j) := by
  refine ⟨fun j hj => ?_, fun j hj => by rw [World.frozen?_setCell]; exact h.f j hj, by simpa using h.lt⟩
  by_cases e : j = k
  · subst e
    rw [if_pos rfl, World.cell?_setCell_same _ _ _ (h.c j hj)]
  · rw [if_neg e, World.cell?_setCell_other _ _ _ _ (fun q => e (by have := congrArg Addr.off q; simp only at this; omega))]
    exact h.c j hj
theorem Rk.sub {w : World} {b o n : Nat} {f : Nat → Int} (h : Rk w b o n f) (i m : Nat) (hm : i + m ≤ n) : Rk w b (o + i) m (fun k => f (i + k)) :=
  ⟨fun k hk => by rw [Nat.add_assoc]; exact h.c (i + k) (by omega), fun k hk => by rw [Nat.add_assoc]; exact h.f (i + k) (by omega), h.lt⟩
theorem Rk.il {w : World} {b o n : Nat} {f : Nat → Int} (h : Rk w b o n f) : Il w (some ⟨b, o, none⟩) n f := ⟨b, o, fun _ => rfl, h.c⟩
theorem Rk.made (w : World) (n : Nat) (t : TypeId) : Rk (w.alloc (.cells (madeCells #[.int .i64 0] n) t)) w.heap.size 0 n (fun _ => 0) := by
  refine ⟨fun k hk => ?_, fun k hk => by go_simp, by simp⟩
  rw [Nat.zero_add, cell_of_row (w.alloc (.cells (madeCells #[.int .i64 0] n) t)) w.heap.size k _ t (0, 0) (heap_alloc_new w _)]
  simp [madeCells, hk, Nat.mod_one]
/-- one number in a block of its own -/
structure Bx (w0 w : World) (b : Nat) (s : Int) : Prop where
  ge : w0.heap.size ≤ b
  c : w.cell? ⟨b, 0, none⟩ = some (.int .i64 s)
  f : w.frozen? ⟨b, 0, none⟩ = false
theorem Bx.lt {w0 w : World} {b : Nat} {s : Int} (h : Bx w0 w b s) : b < w.heap.size := World.block_lt_of_cell? _ ⟨b, 0, none⟩ h.c
theorem Bx.keep {w0 w w' : World} {b : Nat} {s : Int} (h : Bx w0 w b s) (hb : Below w.heap.size w w') : Bx w0 w' b s := ⟨h.ge, cell_keep h.c hb, frozen_keep h.f h.lt hb⟩
theorem Bx.put {w0 w : World} {b : Nat} {s : Int} (h : Bx w0 w b s) (x : Int) : Bx w0 (w.setCell ⟨b, 0, none⟩ (.int .i64 x)) b x := ⟨h.ge, World.cell?_setCell_same _ _ _ h.c, by rw [World.frozen?_setCell]; exact h.f⟩
theorem Bx.far {w0 w : World} {b d o : Nat} {s : Int} {v : Value} (h : Bx w0 w b s) (hn : d ≠ b) : Bx w0 (w.setCell ⟨d, o, none⟩ v) b s := ⟨h.ge, by rw [World.cell?_setCell_far _ _ _ _ hn]; exact h.c, by rw [World.frozen?_setCell]; exact h.f⟩
theorem Bx.bel {w0 w : World} {b : Nat} {s x : Int} (h : Bx w0 w b s) (hb : Below w0.heap.size w0 w) : Below w0.heap.size w0 (w.setCell ⟨b, 0, none⟩ (.int .i64 x)) := hb.setCell (p := ⟨b, 0, none⟩) h.ge _
theorem Bx.but {w0 w w' : World} {b d : Nat} {s : Int} (h : Bx w0 w b s) (hb : But d w w') (hn : b ≠ d) : Bx w0 w' b s := ⟨h.ge, hb.cell h.c hn, hb.frozen h.f h.lt hn⟩
theorem Bx.new {w0 w : World} (hb : Below w0.heap.size w0 w) (x : Int) (t : TypeId) : Bx w0 (w.alloc (.cells #[.int .i64 x] t)) w.heap.size x := ⟨hb.size, by go_simp, by go_simp⟩
end Go.Proofs.YtnbcfchbhappeaaDoor.Al
