import Derived.Test.YtapieajkmpnmoaaGreatDoorGc
namespace Go.Proofs.YtapieajkmpnmoaaGreatDoor
open Go.RowKit
section
variable (Q : Exit → Act → World → Prop) (n X : Nat) (x1 x3 x4 x5 x6 x7 x9 x10 x11 x12 x13 x14 x15 x16 x17 : Value) (w0 : World)
def sw5 (w : World) (s : Nat) (a b c d f : Value) : World := ((((w.setCell ⟨s, 0, none⟩ a).setCell ⟨s, 1, none⟩ b).setCell ⟨s, 2, none⟩ c).setCell ⟨s, 3, none⟩ d).setCell ⟨s, 4, none⟩ f
theorem sw5_bel {m s : Nat} {w1 w : World} (h : Below m w1 w) (hs : m ≤ s) (a b c d f : Value) : Below m w1 (sw5 w s a b c d f) := ((((h.setCell hs _).setCell hs _).setCell hs _).setCell hs _).setCell hs _
/-- the makes -/
def HM3 : Prop := ∀ w, (Instr.makeSlice 27 (.int .i64 (n : Int)) (.int .i64 (n : Int))).run Tryz.prog w = .ok (.slice (some ⟨w.heap.size, 0, none⟩) n n) (w.alloc (.cells (madeCells #[.slice none 0 0] n) 32))
end
end Go.Proofs.YtapieajkmpnmoaaGreatDoor
