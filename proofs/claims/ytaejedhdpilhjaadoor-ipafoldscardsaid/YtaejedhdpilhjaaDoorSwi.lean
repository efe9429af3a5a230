import Derived.Test.YtaejedhdpilhjaaDoorSde
namespace Go.Proofs.YtaejedhdpilhjaaDoor
open Go.RowKit

/-- scalars that lie there, and 64 bytes by halves -/
structure WW (w0 : World) (L : List (Nat × E4)) (R : List Nat) (los his : List Value) (w : World) : Prop where
  st : St w0 L R w
  r1 : w.rangeAt w0.heap.size 0 los
  r2 : w.rangeAt w0.heap.size 32 his
theorem WW.keep {w0 : World} {L : List (Nat × E4)} {R : List Nat} {los his : List Value} {w1 w2 : World} (h : WW w0 L R los his w1) (hb : Below w1.heap.size w1 w2) : WW w0 L R los his w2 := ⟨h.st.keep hb, range_keep h.r1 hb, range_keep h.r2 hb⟩
theorem WW.drew {w0 : World} {L : List (Nat × E4)} {R : List Nat} {los his : List Value} {w1 : World} (h : WW w0 L R los his w1) : WW w0 L R los his w1.drew := h.keep ((Below.refl _ _).drew)
theorem WW.room {w0 : World} {L : List (Nat × E4)} {R : List Nat} {los his : List Value} {w1 : World} (h : WW w0 L R los his w1) (t : TypeId) : WW w0 ((w1.heap.size, zero4) :: L) (w1.heap.size :: R) los his (w1.alloc (.cells #[.int .u64 0, .int .u64 0, .int .u64 0, .int .u64 0] t)) := ⟨h.st.room t, range_keep h.r1 (bl_alloc _ _), range_keep h.r2 (bl_alloc _ _)⟩
theorem WW.set {w0 : World} {L M : List (Nat × E4)} {R : List Nat} {los his : List Value} {w1 : World} {b : Nat} {old : E4} (h : WW w0 L R los his w1) (s : E4) (hb : (b, old) ∈ L) (h0 : w0.heap.size < b) (hs : ∀ p ∈ M, p ∈ L ∧ b ≠ p.1) : WW w0 ((b, s) :: M) R los his (set4 w1 b s) :=
  ⟨h.st.set s hb (by omega) hs, fun j v hv => (set4_cell_far w1 b s _ (by show b ≠ w0.heap.size; omega)).trans (h.r1 j v hv), fun j v hv => (set4_cell_far w1 b s _ (by show b ≠ w0.heap.size; omega)).trans (h.r2 j v hv)⟩

theorem WW.sub {w0 : World} {L M : List (Nat × E4)} {R Q : List Nat} {los his : List Value} {w1 : World} (h : WW w0 L R los his w1) (hs : ∀ p ∈ M, p ∈ L) (hr : ∀ b ∈ Q, b ∈ R) : WW w0 M Q los his w1 := ⟨⟨fun p hp => h.st.live p (hs p hp), fun b hb => h.st.wrt b (hr b hb), h.st.bel⟩, h.r1, h.r2⟩

theorem range_split {w : World} {b : Nat} {cs ds : List Value} (h : w.rangeAt b 0 (cs ++ ds)) (hl : cs.length = 32) : w.rangeAt b 0 cs ∧ w.rangeAt b 32 ds := by
  refine ⟨fun j v hv => h j v ?_, fun j v hv => ?_⟩
  · rw [List.getElem?_append_left (List.getElem?_eq_some_iff.1 hv).1]; exact hv
  · have := h (32 + j) v (by rw [List.getElem?_append_right (by omega), hl, Nat.add_sub_cancel_left]; exact hv)
    rwa [Nat.zero_add] at this

theorem run_arrayAt {P : Program} {w : World} {t e : TypeId} {n len cap : Nat} {a : Addr} (h : P.underlying t = some (.array n e)) (hl : n ≤ len) :
    (Instr.arrayAt t (.slice (some a) len cap)).run P w = .ok (.pointer (some a)) w := by
  have hl2 : ¬ len < n := by omega
  simp [Instr.arrayAt, run_underlying h, hl2, go_sem]

end Go.Proofs.YtaejedhdpilhjaaDoor
