import Derived.Test.YtlijigolfggcfaaDoorGm
namespace Go.Proofs.YtlijigolfggcfaaDoor
open Go.RowKit
theorem wpList_loadG {P : Program} {ops : Array Oper} {rest : List Oper} {op : Oper} {a : Act} {w : World} {Q : Exit → Act → World → Prop} (hw : Region.wanted op (yielded ops a.tmps) = true) (ty : TypeId) (x : Operand) (ho : op.op = .load ty x)
    (b o : Nat) (hx : a.eval x = .pointer (some ⟨b, o, none⟩)) (cs : List Value) (d : TypeDesc) (hc : w.rangeAt b o cs)
    (hu : P.underlying ty = some d) (hd : d.isRow = true) (hi : (P.info? ty).map (·.size) = some cs.length)
    (h : wpList P ops Q rest (a.put op.dst (.agg cs.toArray)) w) : wpList P ops Q (op :: rest) a w := by
  unfold wpList
  rw [if_pos hw]
  exact Or.inl (wp_load_mid ty x ho b o hx cs d hc hu hd hi h)
theorem range_keepO {w w' : World} {b o m : Nat} {cs : List Value} (h : w.rangeAt b o cs) (hb : Below m w w') (hm : b < m) : w'.rangeAt b o cs := fun j v hv => (hb.cell (p := ⟨b, o + j, none⟩) hm).trans (h j v hv)
/-- what a round looks at -/
def S8 (W : World) (A D g1 g2 gG cG gH cH n k : Nat) (e1 e2 L1 L2 : Value) (w : World) : Prop :=
  Below W.heap.size W w ∧ w.cell? ⟨A, 3, none⟩ = some (.slice (some ⟨g1, 0, none⟩) n n) ∧ w.cell? ⟨A, 4, none⟩ = some (.slice (some ⟨g2, 0, none⟩) n n) ∧ w.cell? ⟨D, 79, none⟩ = some (.slice (some ⟨gG, 0, none⟩) n cG) ∧ w.cell? ⟨D, 80, none⟩ = some (.slice (some ⟨gH, 0, none⟩) n cH) ∧ w.cell? ⟨g1, k, none⟩ = some e1 ∧ w.cell? ⟨g2, k, none⟩ = some e2 ∧ w.rangeAt gG (k * 26) (fe L1) ∧ w.rangeAt gH (k * 26) (fe L2)
theorem S8.keep {W : World} {A D g1 g2 gG cG gH cH n k : Nat} {e1 e2 L1 L2 : Value} {w w' : World} (h : S8 W A D g1 g2 gG cG gH cH n k e1 e2 L1 L2 w) (hb : Below w.heap.size w w') : S8 W A D g1 g2 gG cG gH cH n k e1 e2 L1 L2 w' := by
  obtain ⟨h0, h1, h2, h3, h4, h5, h6, h7, h8⟩ := h
  have q7 := World.block_lt_of_cell? w _ (h7 0 _ rfl)
  have q8 := World.block_lt_of_cell? w _ (h8 0 _ rfl)
  exact ⟨bl_trans h0 hb, cell_keep h1 hb, cell_keep h2 hb, cell_keep h3 hb, cell_keep h4 hb, cell_keep h5 hb, cell_keep h6 hb, range_keepO h7 hb q7, range_keepO h8 hb q8⟩
end Go.Proofs.YtlijigolfggcfaaDoor
