import Derived.Test.YtagfneojcgcigaaDoorTf
namespace Go.Proofs.YtagfneojcgcigaaDoor.Tr
open Go.RowKit
/-- lists of bytes, in a list -/
structure Pt (w : World) (P : Option Addr) (ps : List (List UInt8)) (q : Nat → Option Addr) (c : Nat → Nat) : Prop where
  lie : 0 < ps.length → ∃ b o : Nat, P = some ⟨b, o, none⟩ ∧ ∀ i, i < ps.length → w.cell? ⟨b, o + i, none⟩ = some (.slice (q i) (ps.getD i []).length (c i))
  each : ∀ i, i < ps.length → By w (q i) (c i) (ps.getD i [])
theorem Pt.keep {w w' : World} {P : Option Addr} {ps : List (List UInt8)} {q : Nat → Option Addr} {c : Nat → Nat} (h : Pt w P ps q c) (hb : Below w.heap.size w w') : Pt w' P ps q c :=
  ⟨fun h0 => by obtain ⟨b, o, e, h1⟩ := h.lie h0; exact ⟨b, o, e, fun i hi => cell_keep (h1 i hi) hb⟩, fun i hi => (h.each i hi).keep hb⟩
end Go.Proofs.YtagfneojcgcigaaDoor.Tr
