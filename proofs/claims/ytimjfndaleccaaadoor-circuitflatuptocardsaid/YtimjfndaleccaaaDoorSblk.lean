import Derived.Test.YtimjfndaleccaaaDoorSsum
import Derived.Deep.RegionHeld3
import Derived.Deep.DeepCutAuto
import Derived.Deep.DeepMust
namespace Go.Proofs.YtimjfndaleccaaaDoor
open Go.RowKit
structure Blc (w : World) (b : Nat) (r : E4) : Prop where
 c0 : w.cell? ⟨b, 0, none⟩ = some (.int .u64 r.x0)
 c1 : w.cell? ⟨b, 1, none⟩ = some (.int .u64 r.x1)
 c2 : w.cell? ⟨b, 2, none⟩ = some (.int .u64 r.x2)
 c3 : w.cell? ⟨b, 3, none⟩ = some (.int .u64 r.x3)
structure Wrt (w : World) (b : Nat) : Prop where
 f0 : w.frozen? ⟨b, 0, none⟩ = false
 f1 : w.frozen? ⟨b, 1, none⟩ = false
 f2 : w.frozen? ⟨b, 2, none⟩ = false
 f3 : w.frozen? ⟨b, 3, none⟩ = false
theorem Blc.lt {w : World} {b : Nat} {r : E4} (h : Blc w b r) : b < w.heap.size := World.block_lt_of_cell? w ⟨b, 0, none⟩ h.c0
theorem Blc.keep {w1 w2 : World} {b : Nat} {r : E4} (h : Blc w1 b r) (hb : Below w1.heap.size w1 w2) : Blc w2 b r :=
 ⟨cell_keep h.c0 hb, cell_keep h.c1 hb, cell_keep h.c2 hb, cell_keep h.c3 hb⟩
theorem Blc.drew {w : World} {b : Nat} {r : E4} (h : Blc w b r) : Blc w.drew b r := h.keep ((Below.refl _ _).drew)
theorem Wrt.keep {w1 w2 : World} {b : Nat} (h : Wrt w1 b) (hl : b < w1.heap.size) (hb : Below w1.heap.size w1 w2) : Wrt w2 b :=
 ⟨((bcell hb).2 _ _ hl).trans h.f0, ((bcell hb).2 _ _ hl).trans h.f1, ((bcell hb).2 _ _ hl).trans h.f2, ((bcell hb).2 _ _ hl).trans h.f3⟩
def set4 (w : World) (b : Nat) (r : E4) : World :=
 (((w.setCell ⟨b, 0, none⟩ (.int .u64 r.x0)).setCell ⟨b, 1, none⟩ (.int .u64 r.x1)).setCell ⟨b, 2, none⟩ (.int .u64 r.x2)).setCell ⟨b, 3, none⟩ (.int .u64 r.x3)
theorem set4_cell_far (w : World) (b : Nat) (r : E4) (a : Addr) (h : b ≠ a.block) : (set4 w b r).cell? a = w.cell? a := by
 unfold set4
 rw [World.cell?_setCell_far _ _ _ _ h, World.cell?_setCell_far _ _ _ _ h, World.cell?_setCell_far _ _ _ _ h, World.cell?_setCell_far _ _ _ _ h]
theorem Blc.far {w : World} {b c : Nat} {r s : E4} (h : Blc w b r) (hne : c ≠ b) : Blc (set4 w c s) b r :=
 ⟨(set4_cell_far w c s _ hne).trans h.c0, (set4_cell_far w c s _ hne).trans h.c1, (set4_cell_far w c s _ hne).trans h.c2, (set4_cell_far w c s _ hne).trans h.c3⟩
theorem Blc.set {w : World} {b : Nat} {r : E4} (h : Blc w b r) (s : E4) : Blc (set4 w b s) b s := by
 obtain ⟨h0, h1, h2, h3⟩ := h
 constructor <;> (unfold set4; go_simp)
theorem set4_below (w : World) (b : Nat) (r : E4) {w0 : World} (h : Below w0.heap.size w0 w) (hb : w0.heap.size ≤ b) : Below w0.heap.size w0 (set4 w b r) := bl_set4 _ _ _ _ h hb
theorem Wrt.set {w : World} {b c : Nat} {s : E4} (h : Wrt w b) : Wrt (set4 w c s) b := by
 obtain ⟨h0, h1, h2, h3⟩ := h
 constructor <;> (unfold set4; go_simp)
theorem set4_size (w : World) (b : Nat) (r : E4) : (set4 w b r).heap.size = w.heap.size := by unfold set4; simp
theorem Blc.new (w : World) (r : E4) (t : TypeId) : Blc (w.alloc (.cells #[.int .u64 r.x0, .int .u64 r.x1, .int .u64 r.x2, .int .u64 r.x3] t)) w.heap.size r := by
 constructor <;> go_simp
theorem Wrt.new (w : World) (r : E4) (t : TypeId) : Wrt (w.alloc (.cells #[.int .u64 r.x0, .int .u64 r.x1, .int .u64 r.x2, .int .u64 r.x3] t)) w.heap.size := by
 constructor <;> go_simp
def zero4 : E4 := ⟨0, 0, 0, 0⟩
theorem Blc.new0 (w : World) (t : TypeId) : Blc (w.alloc (.cells #[.int .u64 0, .int .u64 0, .int .u64 0, .int .u64 0] t)) w.heap.size zero4 := Blc.new w zero4 t
theorem Wrt.new0 (w : World) (t : TypeId) : Wrt (w.alloc (.cells #[.int .u64 0, .int .u64 0, .int .u64 0, .int .u64 0] t)) w.heap.size := Wrt.new w zero4 t
theorem Blc.new1 (w : World) (o : Obj) (t : TypeId) : Blc ((w.alloc o).alloc (.cells #[.int .u64 0, .int .u64 0, .int .u64 0, .int .u64 0] t)) (w.heap.size + 1) zero4 := by
 have := Blc.new0 (w.alloc o) t
 simpa using this
theorem Wrt.new1 (w : World) (o : Obj) (t : TypeId) : Wrt ((w.alloc o).alloc (.cells #[.int .u64 0, .int .u64 0, .int .u64 0, .int .u64 0] t)) (w.heap.size + 1) := by
 have := Wrt.new0 (w.alloc o) t
 simpa using this
theorem Blc.new2 (w : World) (o p : Obj) (t : TypeId) : Blc (((w.alloc o).alloc p).alloc (.cells #[.int .u64 0, .int .u64 0, .int .u64 0, .int .u64 0] t)) (w.heap.size + 1 + 1) zero4 := by
 have := Blc.new0 ((w.alloc o).alloc p) t
 simpa using this
theorem Wrt.new2 (w : World) (o p : Obj) (t : TypeId) : Wrt (((w.alloc o).alloc p).alloc (.cells #[.int .u64 0, .int .u64 0, .int .u64 0, .int .u64 0] t)) (w.heap.size + 1 + 1) := by
 have := Wrt.new0 ((w.alloc o).alloc p) t
 simpa using this
structure St (w0 : World) (L : List (Nat × E4)) (R : List Nat) (w : World) : Prop where
 live : ∀ p ∈ L, Blc w p.1 p.2
 wrt : ∀ b ∈ R, Wrt w b ∧ b < w.heap.size
 bel : Below w0.heap.size w0 w
theorem St.keep {w0 : World} {L : List (Nat × E4)} {R : List Nat} {w1 w2 : World} (h : St w0 L R w1) (hb : Below w1.heap.size w1 w2) : St w0 L R w2 :=
 ⟨fun p hp => (h.live p hp).keep hb, fun b hb' => ⟨(h.wrt b hb').1.keep (h.wrt b hb').2 hb, Nat.lt_of_lt_of_le (h.wrt b hb').2 hb.size⟩, bl_trans h.bel hb⟩
theorem St.drew {w0 : World} {L : List (Nat × E4)} {R : List Nat} {w1 : World} (h : St w0 L R w1) : St w0 L R w1.drew := h.keep ((Below.refl _ _).drew)
theorem St.new {w0 : World} {L : List (Nat × E4)} {R : List Nat} {w1 : World} (h : St w0 L R w1) (r : E4) (t : TypeId) :
  St w0 ((w1.heap.size, r) :: L) R (w1.alloc (.cells #[.int .u64 r.x0, .int .u64 r.x1, .int .u64 r.x2, .int .u64 r.x3] t)) := by
 have k := h.keep (bl_alloc w1 (.cells #[.int .u64 r.x0, .int .u64 r.x1, .int .u64 r.x2, .int .u64 r.x3] t))
 refine ⟨fun p hp => ?_, k.wrt, k.bel⟩
 rcases List.mem_cons.1 hp with rfl | hp
 ·exact Blc.new w1 r t
 ·exact k.live p hp
theorem St.sub {w0 : World} {L M : List (Nat × E4)} {R : List Nat} {w1 : World} (h : St w0 L R w1) (hs : ∀ p ∈ M, p ∈ L) : St w0 M R w1 := ⟨fun p hp => h.live p (hs p hp), h.wrt, h.bel⟩
theorem St.set {w0 : World} {L M : List (Nat × E4)} {R : List Nat} {w1 : World} {b : Nat} {old : E4} (h : St w0 L R w1) (s : E4) (hb : (b, old) ∈ L) (h0 : w0.heap.size ≤ b) (hs : ∀ p ∈ M, p ∈ L ∧ b ≠ p.1) :
  St w0 ((b, s) :: M) R (set4 w1 b s) := by
 refine ⟨fun p hp => ?_, fun c hc => ⟨(h.wrt c hc).1.set, by rw [set4_size]; exact (h.wrt c hc).2⟩, set4_below _ _ _ h.bel h0⟩
 rcases List.mem_cons.1 hp with rfl | hp
 ·exact (h.live _ hb).set s
 ·exact (h.live p (hs p hp).1).far (hs p hp).2
theorem St.aside {w0 : World} {L : List (Nat × E4)} {R : List Nat} {w1 : World} {b : Nat} (h : St w0 L R w1) (hn : ∀ p ∈ L, b ≠ p.1) (h0 : w0.heap.size ≤ b) (s : E4) : St w0 L R (set4 w1 b s) :=
 ⟨fun p hp => (h.live p hp).far (hn p hp), fun c hc => ⟨(h.wrt c hc).1.set, by rw [set4_size]; exact (h.wrt c hc).2⟩, set4_below _ _ _ h.bel h0⟩
theorem St.again {w0 : World} {L : List (Nat × E4)} {R : List Nat} {w1 : World} {b : Nat} {s : E4} (h : St w0 L R w1) (hb : (b, s) ∈ L) (hn : ∀ p ∈ L, b ≠ p.1 ∨ p = (b, s)) (h0 : w0.heap.size ≤ b) : St w0 L R (set4 w1 b s) :=
 ⟨fun p hp => by
  rcases hn p hp with hq | hq
  ·exact (h.live p hp).far hq
  ·subst hq; exact (h.live _ hb).set s, fun c hc => ⟨(h.wrt c hc).1.set, by rw [set4_size]; exact (h.wrt c hc).2⟩, set4_below _ _ _ h.bel h0⟩
theorem St.start (w : World) (a : E4) (t : TypeId) : St w [(w.heap.size, a)] [] (w.alloc (.cells #[.int .u64 a.x0, .int .u64 a.x1, .int .u64 a.x2, .int .u64 a.x3] t)) := by
 have h0 : St w [] [] w := ⟨fun p hp => absurd hp (by simp), fun b hb => absurd hb (by simp), Below.refl _ _⟩
 exact h0.new a t
theorem St.room {w0 : World} {L : List (Nat × E4)} {R : List Nat} {w1 : World} (h : St w0 L R w1) (t : TypeId) :
  St w0 ((w1.heap.size, zero4) :: L) (w1.heap.size :: R) (w1.alloc (.cells #[.int .u64 0, .int .u64 0, .int .u64 0, .int .u64 0] t)) := by
 have k := h.new zero4 t
 refine ⟨k.live, fun b hb => ?_, k.bel⟩
 rcases List.mem_cons.1 hb with rfl | hb
 ·exact ⟨Wrt.new w1 zero4 t, by simp⟩
 ·exact k.wrt b hb
theorem St.nil (w : World) : St w [] [] w := ⟨fun p hp => absurd hp (by simp), fun b hb => absurd hb (by simp), Below.refl _ _⟩
theorem St.tb {w0 : World} {L : List (Nat × E4)} {R : List Nat} {w1 : World} (h : St w0 L R w1) (hT : Tb w0) : Tb w1 := hT.keep h.bel
theorem is_of {r : E4} {n m : Int} (h : r.is n) (e : n % Sm.L = m % Sm.L) : r.is m := by unfold E4.is lst at *; rw [h, e]
theorem mul_cong {a b c d : Int} (h : a % Sm.L = b % Sm.L) (k : c % Sm.L = d % Sm.L) : a * c % Sm.L = b * d % Sm.L := by rw [Int.mul_emod, h, k, ← Int.mul_emod]
theorem emod_emod_L (n : Int) : n % Sm.L % Sm.L = n % Sm.L := Int.emod_emod_of_dvd _ (Int.dvd_refl _)
theorem E4.is.m {r : E4} {n : Int} (h : r.is n) : r.n % Sm.L = n % Sm.L := by rw [h.n, emod_emod_L]
end Go.Proofs.YtimjfndaleccaaaDoor
