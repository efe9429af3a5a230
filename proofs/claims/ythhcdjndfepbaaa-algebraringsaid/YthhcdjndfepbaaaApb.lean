import Derived.Test.YthhcdjndfepbaaaAri
import Derived.Test.YthhcdjndfepbaaaArw
namespace Go.Proofs.Ythhcdjndfepbaaa
open Go.RowKit
theorem pAddC (a b c d : Int) (w : World) : Calls Try.prog 23 #[.agg #[.int .i64 a, .int .i64 b], .agg #[.int .i64 c, .int .i64 d]] w fun e w' => ∃ x y : Int, e = .returned (.agg #[.int .i64 x, .int .i64 y]) ∧ Q57 x y (a + c) (b + d) ∧ Below w.heap.size w w' :=
  (pAdd_any a b c d w).mono fun _ _ ⟨x, y, h1, h2, h3, h4⟩ => ⟨x, y, h1, ⟨h2, h3⟩, h4⟩
theorem pMulC (a b c d : Int) (w : World) : Calls Try.prog 18 #[.agg #[.int .i64 a, .int .i64 b], .agg #[.int .i64 c, .int .i64 d]] w fun e w' => ∃ x y : Int, e = .returned (.agg #[.int .i64 x, .int .i64 y]) ∧ Q57 x y (a * c) (b * d) ∧ Below w.heap.size w w' :=
  (pMul_any a b c d w).mono fun _ _ ⟨x, y, h1, h2, h3, h4⟩ => ⟨x, y, h1, ⟨h2, h3⟩, h4⟩
theorem Q57.rfl {a b : Int} : Q57 a b a b := ⟨Mx.C.rfl, Mx.C.rfl⟩
theorem Q57.add {a b c d x y z t : Int} (h : Q57 a b x y) (g : Q57 c d z t) : Q57 (a + c) (b + d) (x + z) (y + t) := ⟨h.1.add g.1, h.2.add g.2⟩
theorem Q57.mul {a b c d x y z t : Int} (h : Q57 a b x y) (g : Q57 c d z t) : Q57 (a * c) (b * d) (x * z) (y * t) := ⟨h.1.mul g.1, h.2.mul g.2⟩
/-- a pair in a block of its own -/
structure Bp (w0 w : World) (b : Nat) (x y : Int) : Prop where
  ge : w0.heap.size ≤ b
  c : w.cell? ⟨b, 0, none⟩ = some (.int .i64 x)
  d : w.cell? ⟨b, 1, none⟩ = some (.int .i64 y)
  f : w.frozen? ⟨b, 0, none⟩ = false
  g : w.frozen? ⟨b, 1, none⟩ = false
/-- a pair is written -/
def setp (w : World) (b o : Nat) (x y : Int) : World := (w.setCell ⟨b, o, none⟩ (.int .i64 x)).setCell ⟨b, o + 1, none⟩ (.int .i64 y)
theorem setp_frozen (w : World) (b o : Nat) (x y : Int) (a : Addr) : (setp w b o x y).frozen? a = w.frozen? a := by unfold setp; rw [World.frozen?_setCell, World.frozen?_setCell]
theorem setp_far (w : World) (b o : Nat) (x y : Int) {a : Addr} (h : b ≠ a.block) : (setp w b o x y).cell? a = w.cell? a := by
  unfold setp; rw [World.cell?_setCell_far _ _ _ _ h, World.cell?_setCell_far _ _ _ _ h]
theorem setp_out (w : World) (b o : Nat) (x y : Int) {k : Nat} (h : k ≠ o) (g : k ≠ o + 1) : (setp w b o x y).cell? ⟨b, k, none⟩ = w.cell? ⟨b, k, none⟩ := by
  unfold setp
  rw [World.cell?_setCell_other _ _ _ _ (fun e => g (by have := congrArg Addr.off e; simp only at this; omega)), World.cell?_setCell_other _ _ _ _ (fun e => h (by have := congrArg Addr.off e; simp only at this; omega))]
theorem setp_in (w : World) (b o : Nat) (x y : Int) {u v : Value} (h : w.cell? ⟨b, o, none⟩ = some u) (g : w.cell? ⟨b, o + 1, none⟩ = some v) : (setp w b o x y).cell? ⟨b, o, none⟩ = some (.int .i64 x) ∧ (setp w b o x y).cell? ⟨b, o + 1, none⟩ = some (.int .i64 y) := by
  have e1 : (w.setCell ⟨b, o, none⟩ (.int .i64 x)).cell? ⟨b, o + 1, none⟩ = some v := by
    rw [World.cell?_setCell_other _ _ _ _ (fun e => by have := congrArg Addr.off e; simp only at this; omega)]; exact g
  unfold setp
  refine ⟨?_, World.cell?_setCell_same _ _ _ e1⟩
  rw [World.cell?_setCell_other _ _ _ _ (fun e => by have := congrArg Addr.off e; simp only at this; omega)]
  exact World.cell?_setCell_same _ _ _ h
theorem setp_bel {w0 w : World} {m b o : Nat} {x y : Int} (h : Below m w0 w) (hb : m ≤ b) : Below m w0 (setp w b o x y) := (h.setCell (p := ⟨b, o, none⟩) hb _).setCell (p := ⟨b, o + 1, none⟩) hb _
theorem Bp.lt {w0 w : World} {b : Nat} {x y : Int} (h : Bp w0 w b x y) : b < w.heap.size := World.block_lt_of_cell? _ ⟨b, 0, none⟩ h.c
theorem Bp.keep {w0 w w' : World} {b : Nat} {x y : Int} (h : Bp w0 w b x y) (hb : Below w.heap.size w w') : Bp w0 w' b x y := ⟨h.ge, cell_keep h.c hb, cell_keep h.d hb, frozen_keep h.f h.lt hb, frozen_keep h.g h.lt hb⟩
theorem Bp.put {w0 w : World} {b : Nat} {x y : Int} (h : Bp w0 w b x y) (u v : Int) : Bp w0 (setp w b 0 u v) b u v :=
  ⟨h.ge, (setp_in w b 0 u v h.c h.d).1, (setp_in w b 0 u v h.c h.d).2, by rw [setp_frozen]; exact h.f, by rw [setp_frozen]; exact h.g⟩
theorem Bp.far {w0 w : World} {b d o : Nat} {x y u v : Int} (h : Bp w0 w b x y) (hn : d ≠ b) : Bp w0 (setp w d o u v) b x y :=
  ⟨h.ge, by rw [setp_far _ _ _ _ _ hn]; exact h.c, by rw [setp_far _ _ _ _ _ hn]; exact h.d, by rw [setp_frozen]; exact h.f, by rw [setp_frozen]; exact h.g⟩
theorem Bp.new {w0 w : World} (hb : Below w0.heap.size w0 w) (x y : Int) (t : TypeId) : Bp w0 (w.alloc (.cells #[.int .i64 x, .int .i64 y] t)) w.heap.size x y := ⟨hb.size, by go_simp, by go_simp, by go_simp, by go_simp⟩
/-- pairs in a block, that may be written -/
structure Rp (w : World) (b n : Nat) (f g : Nat → Int) : Prop where
  c : ∀ k, k < n → w.cell? ⟨b, k * 2, none⟩ = some (.int .i64 (f k))
  d : ∀ k, k < n → w.cell? ⟨b, k * 2 + 1, none⟩ = some (.int .i64 (g k))
  f : ∀ k, k < n → w.frozen? ⟨b, k * 2, none⟩ = false
  g : ∀ k, k < n → w.frozen? ⟨b, k * 2 + 1, none⟩ = false
  lt : b < w.heap.size
theorem Rp.keep {w w' : World} {b n : Nat} {f g : Nat → Int} (h : Rp w b n f g) (hb : Below w.heap.size w w') : Rp w' b n f g :=
  ⟨fun k hk => cell_keep (h.c k hk) hb, fun k hk => cell_keep (h.d k hk) hb, fun k hk => frozen_keep (h.f k hk) h.lt hb, fun k hk => frozen_keep (h.g k hk) h.lt hb, Nat.lt_of_lt_of_le h.lt hb.size⟩
theorem Rp.set {w : World} {b n : Nat} {f g : Nat → Int} (h : Rp w b n f g) (k : Nat) (hk : k < n) (x y : Int) : Rp (setp w b (k * 2) x y) b n (fun j => if j = k then x else f j) (fun j => if j = k then y else g j) := by
  obtain ⟨e1, e2⟩ := setp_in w b (k * 2) x y (h.c k hk) (h.d k hk)
  refine ⟨fun j hj => ?_, fun j hj => ?_, fun j hj => by rw [setp_frozen]; exact h.f j hj, fun j hj => by rw [setp_frozen]; exact h.g j hj, by unfold setp; simpa using h.lt⟩
  · by_cases e : j = k
    · subst e; rw [if_pos rfl]; exact e1
    · rw [if_neg e, setp_out _ _ _ _ _ (by omega) (by omega)]; exact h.c j hj
  · by_cases e : j = k
    · subst e; rw [if_pos rfl]; exact e2
    · rw [if_neg e, setp_out _ _ _ _ _ (by omega) (by omega)]; exact h.d j hj
theorem Rp.far {w : World} {b n d o : Nat} {f g : Nat → Int} {x y : Int} (h : Rp w b n f g) (hn : d ≠ b) : Rp (setp w d o x y) b n f g :=
  ⟨fun k hk => by rw [setp_far _ _ _ _ _ hn]; exact h.c k hk, fun k hk => by rw [setp_far _ _ _ _ _ hn]; exact h.d k hk, fun k hk => by rw [setp_frozen]; exact h.f k hk, fun k hk => by rw [setp_frozen]; exact h.g k hk, by unfold setp; simpa using h.lt⟩
theorem Rp.ip {w : World} {b n : Nat} {f g : Nat → Int} (h : Rp w b n f g) : Ip w (some ⟨b, 0, none⟩) n f g := ⟨b, 0, fun _ => rfl, fun k hk => ⟨by rw [Nat.zero_add]; exact h.c k hk, by rw [Nat.zero_add]; exact h.d k hk⟩⟩
theorem Rp.made (w : World) (n : Nat) (t : TypeId) : Rp (w.alloc (.cells (madeCells #[.int .i64 0, .int .i64 0] (n * 2)) t)) w.heap.size n (fun _ => 0) (fun _ => 0) := by
  have hc : ∀ j, j < n * 2 → (w.alloc (.cells (madeCells #[.int .i64 0, .int .i64 0] (n * 2)) t)).cell? ⟨w.heap.size, j, none⟩ = some (.int .i64 0) := fun j hj => by
    rw [cell_of_row (w.alloc (.cells (madeCells #[.int .i64 0, .int .i64 0] (n * 2)) t)) w.heap.size j _ t (0, 0) (heap_alloc_new w _)]
    have h2 : j % 2 = 0 ∨ j % 2 = 1 := by omega
    rcases h2 with h2 | h2 <;> simp [madeCells, hj, h2]
  exact ⟨fun k hk => hc _ (by omega), fun k hk => hc _ (by omega), fun k hk => by go_simp, fun k hk => by go_simp, by simp⟩
end Go.Proofs.Ythhcdjndfepbaaa
