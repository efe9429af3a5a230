import Derived.Test.YtnbcfchbhappeaaDoorSqs
namespace Go.Proofs.YtnbcfchbhappeaaDoor.Fe
open Go.RowKit

/-- what lies where: the blocks that hold elements, those that may be written, and that nothing older has turned -/
structure St (w0 : World) (L : List (Nat × E5)) (R : List Nat) (w : World) : Prop where
  live : ∀ p ∈ L, Blc w p.1 p.2
  wrt : ∀ b ∈ R, Wrt w b ∧ b < w.heap.size
  bel : Below w0.heap.size w0 w

theorem St.keep {w0 : World} {L : List (Nat × E5)} {R : List Nat} {w1 w2 : World} (h : St w0 L R w1) (hb : Below w1.heap.size w1 w2) : St w0 L R w2 :=
  ⟨fun p hp => (h.live p hp).keep hb, fun b hb' => ⟨(h.wrt b hb').1.keep (h.wrt b hb').2 hb, Nat.lt_of_lt_of_le (h.wrt b hb').2 hb.size⟩, bl_trans h.bel hb⟩
theorem St.drew {w0 : World} {L : List (Nat × E5)} {R : List Nat} {w1 : World} (h : St w0 L R w1) : St w0 L R w1.drew := h.keep ((Below.refl _ _).drew)
theorem St.new {w0 : World} {L : List (Nat × E5)} {R : List Nat} {w1 : World} (h : St w0 L R w1) (r : E5) (t : TypeId) :
    St w0 ((w1.heap.size, r) :: L) R (w1.alloc (.cells #[.int .u64 r.x0, .int .u64 r.x1, .int .u64 r.x2, .int .u64 r.x3, .int .u64 r.x4] t)) := by
  have k := h.keep (bl_alloc w1 (.cells #[.int .u64 r.x0, .int .u64 r.x1, .int .u64 r.x2, .int .u64 r.x3, .int .u64 r.x4] t))
  refine ⟨fun p hp => ?_, k.wrt, k.bel⟩
  rcases List.mem_cons.1 hp with rfl | hp
  · exact Blc.new w1 r t
  · exact k.live p hp
theorem St.sub {w0 : World} {L M : List (Nat × E5)} {R : List Nat} {w1 : World} (h : St w0 L R w1) (hs : ∀ p ∈ M, p ∈ L) : St w0 M R w1 := ⟨fun p hp => h.live p (hs p hp), h.wrt, h.bel⟩
theorem St.set {w0 : World} {L M : List (Nat × E5)} {R : List Nat} {w1 : World} {b : Nat} {old : E5} (h : St w0 L R w1) (s : E5) (hb : (b, old) ∈ L) (h0 : w0.heap.size ≤ b) (hs : ∀ p ∈ M, p ∈ L ∧ b ≠ p.1) :
    St w0 ((b, s) :: M) R (set5 w1 b s) := by
  refine ⟨fun p hp => ?_, fun c hc => ⟨(h.wrt c hc).1.set, by rw [set5_size]; exact (h.wrt c hc).2⟩, set5_below _ _ _ h.bel h0⟩
  rcases List.mem_cons.1 hp with rfl | hp
  · exact (h.live _ hb).set s
  · exact (h.live p (hs p hp).1).far (hs p hp).2

theorem St.aside {w0 : World} {L : List (Nat × E5)} {R : List Nat} {w1 : World} {b : Nat} (h : St w0 L R w1) (hn : ∀ p ∈ L, b ≠ p.1) (h0 : w0.heap.size ≤ b) (s : E5) : St w0 L R (set5 w1 b s) :=
  ⟨fun p hp => (h.live p hp).far (hn p hp), fun c hc => ⟨(h.wrt c hc).1.set, by rw [set5_size]; exact (h.wrt c hc).2⟩, set5_below _ _ _ h.bel h0⟩
theorem St.again {w0 : World} {L : List (Nat × E5)} {R : List Nat} {w1 : World} {b : Nat} {s : E5} (h : St w0 L R w1) (hb : (b, s) ∈ L) (hn : ∀ p ∈ L, b ≠ p.1 ∨ p = (b, s)) (h0 : w0.heap.size ≤ b) : St w0 L R (set5 w1 b s) :=
  ⟨fun p hp => by
    rcases hn p hp with hq | hq
    · exact (h.live p hp).far hq
    · subst hq; exact (h.live _ hb).set s, fun c hc => ⟨(h.wrt c hc).1.set, by rw [set5_size]; exact (h.wrt c hc).2⟩, set5_below _ _ _ h.bel h0⟩
theorem St.fresh {w0 : World} {L : List (Nat × E5)} {R : List Nat} {w1 : World} (h : St w0 L R w1) : (∀ p ∈ L, w1.heap.size ≠ p.1) ∧ w0.heap.size ≤ w1.heap.size :=
  ⟨fun p hp => by have := (h.live p hp).lt; omega, h.bel.size⟩

/-- a block that was made in between (behind it all of L lay already) is written last -/
theorem St.late {w0 : World} {L : List (Nat × E5)} {R : List Nat} {w1 w3 : World} {b : Nat} (h1 : St w0 L R w1) (hb : b = w1.heap.size) (h3 : St w0 L R w3) (hz : Blc w3 b zero5) (s : E5) : St w0 ((b, s) :: L) R (set5 w3 b s) := by
  have h4 : St w0 ((b, zero5) :: L) R w3 := ⟨fun p hp => by
    rcases List.mem_cons.1 hp with rfl | hp
    · exact hz
    · exact h3.live p hp, h3.wrt, h3.bel⟩
  refine h4.set (M := L) s (old := zero5) (by simp) (by have := h1.bel.size; omega) (fun p hp => ⟨by simp [hp], ?_⟩)
  have := (h1.live p hp).lt
  omega

/-- the beginning: one element is boxed -/
theorem St.start (w : World) (a : E5) (t : TypeId) : St w [(w.heap.size, a)] [] (w.alloc (.cells #[.int .u64 a.x0, .int .u64 a.x1, .int .u64 a.x2, .int .u64 a.x3, .int .u64 a.x4] t)) := by
  have h0 : St w [] [] w := ⟨fun p hp => absurd hp (by simp), fun b hb => absurd hb (by simp), Below.refl _ _⟩
  exact h0.new a t
/-- and a block for a result -/
theorem St.room {w0 : World} {L : List (Nat × E5)} {R : List Nat} {w1 : World} (h : St w0 L R w1) (t : TypeId) :
    St w0 ((w1.heap.size, zero5) :: L) (w1.heap.size :: R) (w1.alloc (.cells #[.int .u64 0, .int .u64 0, .int .u64 0, .int .u64 0, .int .u64 0] t)) := by
  have k := h.new zero5 t
  refine ⟨k.live, fun b hb => ?_, k.bel⟩
  rcases List.mem_cons.1 hb with rfl | hb
  · exact ⟨Wrt.new w1 zero5 t, by simp⟩
  · exact k.wrt b hb

theorem squares_lit (a : E5) (n : Nat) (m : Int) (hm : m = n) (w : World) (ha : a.ok) (h1 : 1 ≤ n) (hn : n ≤ 1000) :
    Calls Tryd.prog 31 #[a.v, .int .i64 m] w fun e w' => ∃ r : E5, e = .returned r.v ∧ r.is (a.n ^ (2 ^ n)) ∧ Below w.heap.size w w' := by
  subst hm; exact squares_any a n w ha h1 hn
end Go.Proofs.YtnbcfchbhappeaaDoor.Fe
