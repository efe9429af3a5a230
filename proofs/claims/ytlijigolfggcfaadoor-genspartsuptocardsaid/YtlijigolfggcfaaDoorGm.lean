import Derived.Test.YtlijigolfggcfaaDoorGl
namespace Go.Proofs.YtlijigolfggcfaaDoor
open Go.RowKit
theorem hd3_one {L0 L1 L2 Gv Hv : Value} (h0 : L0.oneCell' = true) (h1 : L1.oneCell' = true) (h2 : L2.oneCell' = true) (hg : Gv.oneCell' = true) (hh : Hv.oneCell' = true) : (hd3 L0 L1 L2 ++ [Gv, Hv]).toArray.all (·.oneCell') = true := by
  simp [hd3, fe, h0, h1, h2, hg, hh]
  simp [Value.oneCell']
theorem own_one {w : World} {B s n : Nat} {e : TypeId} {v : Value} {xs : List Value} (h : w.ownsRow B e s v n xs) : v.oneCell' = true := by
  rcases h.2 with ⟨rfl, _⟩ | ⟨g, cap, cur, rfl, _⟩ <;> rfl
theorem hd3_size (L0 L1 L2 Gv Hv : Value) : (hd3 L0 L1 L2 ++ [Gv, Hv]).toArray.size = 81 := rfl
theorem range_ps {w : World} {b : Nat} {cs : List Value} {t : TypeId} {fr : Nat × Nat} (h : w.heap[b]? = some (.cells cs.toArray t fr)) : w.rangeAt b 0 cs := fun j v hv => by
  rw [cell_of_row w b (0 + j) cs.toArray t fr h, Nat.zero_add]
  simpa using hv
/-- the set as it is told: what its cells lead to -/
structure Sq (B n : Nat) (w : World) (L0 L1 L2 Gv Hv : Value) : Prop where
  g : OL B 3 w Gv n
  h : OL B (3 + n) w Hv n
  l0 : w.ownsRow B 41 4 L0 1 (svs 1 (uf 0))
  l1 : w.ownsRow B 41 4 L1 2 (svs 2 (uf 1))
  l2 : w.ownsRow B 41 4 L2 3 (svs 3 (uf 2))
theorem OL.setCells {B o : Nat} {w : World} {v : Value} {k b : Nat} (h : OL B o w v k) (hb : b < B) (ds : List Value) : OL B o (w.setCells b 0 ds) v k := by
  obtain ⟨f, h1, h2⟩ := h
  exact ⟨f, own_setCells h1 hb ds, fun j hj => own_setCells (h2 j hj) hb ds⟩
theorem OL.less {B C o : Nat} {w : World} {v : Value} {k : Nat} (h : OL B o w v k) (hc : C ≤ B) : OL C o w v k := by
  obtain ⟨f, h1, h2⟩ := h
  exact ⟨f, own_less h1 hc, fun j hj => own_less (h2 j hj) hc⟩
end Go.Proofs.YtlijigolfggcfaaDoor
