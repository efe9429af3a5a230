import Derived.Test.YtnbcfchbhappeaaDoorProd
namespace Go.Proofs.YtnbcfchbhappeaaDoor.Fe
open Go.RowKit

/-- five cells of a block hold the limbs of an element -/
structure Blc (w : World) (b : Nat) (r : E5) : Prop where
  c0 : w.cell? ⟨b, 0, none⟩ = some (.int .u64 r.x0)
  c1 : w.cell? ⟨b, 1, none⟩ = some (.int .u64 r.x1)
  c2 : w.cell? ⟨b, 2, none⟩ = some (.int .u64 r.x2)
  c3 : w.cell? ⟨b, 3, none⟩ = some (.int .u64 r.x3)
  c4 : w.cell? ⟨b, 4, none⟩ = some (.int .u64 r.x4)
/-- and may be written -/
structure Wrt (w : World) (b : Nat) : Prop where
  f0 : w.frozen? ⟨b, 0, none⟩ = false
  f1 : w.frozen? ⟨b, 1, none⟩ = false
  f2 : w.frozen? ⟨b, 2, none⟩ = false
  f3 : w.frozen? ⟨b, 3, none⟩ = false
  f4 : w.frozen? ⟨b, 4, none⟩ = false

theorem Blc.lt {w : World} {b : Nat} {r : E5} (h : Blc w b r) : b < w.heap.size := World.block_lt_of_cell? w ⟨b, 0, none⟩ h.c0
theorem Blc.keep {w1 w2 : World} {b : Nat} {r : E5} (h : Blc w1 b r) (hb : Below w1.heap.size w1 w2) : Blc w2 b r :=
  ⟨cell_keep h.c0 hb, cell_keep h.c1 hb, cell_keep h.c2 hb, cell_keep h.c3 hb, cell_keep h.c4 hb⟩
theorem Blc.drew {w : World} {b : Nat} {r : E5} (h : Blc w b r) : Blc w.drew b r := h.keep ((Below.refl _ _).drew)
theorem Wrt.keep {w1 w2 : World} {b : Nat} (h : Wrt w1 b) (hl : b < w1.heap.size) (hb : Below w1.heap.size w1 w2) : Wrt w2 b :=
  ⟨((bcell hb).2 _ _ hl).trans h.f0, ((bcell hb).2 _ _ hl).trans h.f1, ((bcell hb).2 _ _ hl).trans h.f2, ((bcell hb).2 _ _ hl).trans h.f3, ((bcell hb).2 _ _ hl).trans h.f4⟩

/-- an element is written into a block -/
def set5 (w : World) (b : Nat) (r : E5) : World :=
  ((((w.setCell ⟨b, 0, none⟩ (.int .u64 r.x0)).setCell ⟨b, 1, none⟩ (.int .u64 r.x1)).setCell ⟨b, 2, none⟩ (.int .u64 r.x2)).setCell ⟨b, 3, none⟩ (.int .u64 r.x3)).setCell ⟨b, 4, none⟩ (.int .u64 r.x4)
theorem set5_eq (w : World) (b : Nat) (r : E5) : ((((w.setCell ⟨b, 0, none⟩ (.int .u64 r.x0)).setCell ⟨b, 1, none⟩ (.int .u64 r.x1)).setCell ⟨b, 2, none⟩ (.int .u64 r.x2)).setCell ⟨b, 3, none⟩ (.int .u64 r.x3)).setCell ⟨b, 4, none⟩ (.int .u64 r.x4) = set5 w b r := rfl
theorem set5_cell_far (w : World) (b : Nat) (r : E5) (a : Addr) (h : b ≠ a.block) : (set5 w b r).cell? a = w.cell? a := by
  unfold set5
  rw [World.cell?_setCell_far _ _ _ _ h, World.cell?_setCell_far _ _ _ _ h, World.cell?_setCell_far _ _ _ _ h, World.cell?_setCell_far _ _ _ _ h, World.cell?_setCell_far _ _ _ _ h]
theorem Blc.far {w : World} {b c : Nat} {r s : E5} (h : Blc w b r) (hne : c ≠ b) : Blc (set5 w c s) b r :=
  ⟨(set5_cell_far w c s _ hne).trans h.c0, (set5_cell_far w c s _ hne).trans h.c1, (set5_cell_far w c s _ hne).trans h.c2, (set5_cell_far w c s _ hne).trans h.c3, (set5_cell_far w c s _ hne).trans h.c4⟩
theorem Blc.set {w : World} {b : Nat} {r : E5} (h : Blc w b r) (s : E5) : Blc (set5 w b s) b s := by
  obtain ⟨h0, h1, h2, h3, h4⟩ := h
  constructor <;> (unfold set5; go_simp)
theorem set5_below (w : World) (b : Nat) (r : E5) {w0 : World} (h : Below w0.heap.size w0 w) (hb : w0.heap.size ≤ b) : Below w0.heap.size w0 (set5 w b r) := bl_set5 _ _ _ _ _ h hb
theorem Wrt.set {w : World} {b c : Nat} {s : E5} (h : Wrt w b) : Wrt (set5 w c s) b := by
  obtain ⟨h0, h1, h2, h3, h4⟩ := h
  constructor <;> (unfold set5; go_simp)
theorem set5_size (w : World) (b : Nat) (r : E5) : (set5 w b r).heap.size = w.heap.size := by unfold set5; simp

/-- a new block -/
theorem Blc.new (w : World) (r : E5) (t : TypeId) : Blc (w.alloc (.cells #[.int .u64 r.x0, .int .u64 r.x1, .int .u64 r.x2, .int .u64 r.x3, .int .u64 r.x4] t)) w.heap.size r := by
  constructor <;> go_simp
theorem Wrt.new (w : World) (r : E5) (t : TypeId) : Wrt (w.alloc (.cells #[.int .u64 r.x0, .int .u64 r.x1, .int .u64 r.x2, .int .u64 r.x3, .int .u64 r.x4] t)) w.heap.size := by
  constructor <;> go_simp

def zero5 : E5 := ⟨0, 0, 0, 0, 0⟩

theorem Blc.new0 (w : World) (t : TypeId) : Blc (w.alloc (.cells #[.int .u64 0, .int .u64 0, .int .u64 0, .int .u64 0, .int .u64 0] t)) w.heap.size zero5 := Blc.new w zero5 t
theorem Wrt.new0 (w : World) (t : TypeId) : Wrt (w.alloc (.cells #[.int .u64 0, .int .u64 0, .int .u64 0, .int .u64 0, .int .u64 0] t)) w.heap.size := Wrt.new w zero5 t
theorem Blc.new1 (w : World) (o : Obj) (t : TypeId) : Blc ((w.alloc o).alloc (.cells #[.int .u64 0, .int .u64 0, .int .u64 0, .int .u64 0, .int .u64 0] t)) (w.heap.size + 1) zero5 := by
  have := Blc.new0 (w.alloc o) t
  simpa using this
theorem Wrt.new1 (w : World) (o : Obj) (t : TypeId) : Wrt ((w.alloc o).alloc (.cells #[.int .u64 0, .int .u64 0, .int .u64 0, .int .u64 0, .int .u64 0] t)) (w.heap.size + 1) := by
  have := Wrt.new0 (w.alloc o) t
  simpa using this
theorem Blc.new2 (w : World) (o p : Obj) (t : TypeId) : Blc (((w.alloc o).alloc p).alloc (.cells #[.int .u64 0, .int .u64 0, .int .u64 0, .int .u64 0, .int .u64 0] t)) (w.heap.size + 1 + 1) zero5 := by
  have := Blc.new0 ((w.alloc o).alloc p) t
  simpa using this
theorem Wrt.new2 (w : World) (o p : Obj) (t : TypeId) : Wrt (((w.alloc o).alloc p).alloc (.cells #[.int .u64 0, .int .u64 0, .int .u64 0, .int .u64 0, .int .u64 0] t)) (w.heap.size + 1 + 1) := by
  have := Wrt.new0 ((w.alloc o).alloc p) t
  simpa using this

/-- r is a power of a -/
def E5.pw (r a : E5) (e : Nat) : Prop := r.is (a.n ^ e)
theorem is_of {r : E5} {n m : Int} (h : r.is n) (e : n % Fm.P = m % Fm.P) : r.is m := by unfold E5.is lst at *; rw [h, e]
theorem pow_emod (a b : Int) (k : Nat) (h : a % Fm.P = b % Fm.P) : a ^ k % Fm.P = b ^ k % Fm.P := by
  induction k with
  | zero => rw [Int.pow_zero, Int.pow_zero]
  | succ k ih => rw [Int.pow_succ, Int.pow_succ]; exact mul_cong ih h
theorem E5.pw.ok {r a : E5} {e : Nat} (h : r.pw a e) : r.ok := E5.is.ok h
theorem E5.pw.mul {r s t a : E5} {e f g : Nat} (h : r.pw a e) (k : s.pw a f) (m : t.is (r.n * s.n)) (hg : e + f = g) : t.pw a g := by
  refine is_of m ?_
  rw [← hg, Int.pow_add]
  exact mul_cong (by rw [E5.is.n h, Int.emod_emod_of_dvd _ (Int.dvd_refl _)]) (by rw [E5.is.n k, Int.emod_emod_of_dvd _ (Int.dvd_refl _)])
theorem E5.pw.mulR {r t a : E5} {e g : Nat} (h : r.pw a e) (m : t.is (r.n * a.n)) (hg : e + 1 = g) : t.pw a g := by
  refine is_of m ?_
  rw [← hg, Int.pow_succ]
  exact mul_cong (by rw [E5.is.n h, Int.emod_emod_of_dvd _ (Int.dvd_refl _)]) rfl
theorem E5.pw.one {r a : E5} (h : r.is (a.n * a.n)) : r.pw a 2 := by
  unfold E5.pw; rw [Int.pow_succ, Int.pow_succ, Int.pow_zero, Int.one_mul]; exact h
theorem E5.pw.pow {r t a : E5} {e f g : Nat} (h : r.pw a e) (k : t.is (r.n ^ f)) (hg : e * f = g) : t.pw a g := by
  refine is_of k ?_
  rw [← hg, Int.pow_mul]
  exact pow_emod _ _ _ (by rw [E5.is.n h, Int.emod_emod_of_dvd _ (Int.dvd_refl _)])
end Go.Proofs.YtnbcfchbhappeaaDoor.Fe
