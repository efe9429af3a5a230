import Derived.Test.YtlijigolfggcfaaDoorHs
namespace Go.Proofs.YtlijigolfggcfaaDoor
open Go.RowKit
set_option linter.unusedVariables false
/-- what sameLines looks at in the document's set -/
def K3 (w : World) (T : Nat) (Gv Hv : Value) (q0 q1 q2 : List Value) : Prop := w.cell? ⟨T, 79, none⟩ = some Gv ∧ w.cell? ⟨T, 80, none⟩ = some Hv ∧ w.rangeAt T 1 q0 ∧ w.rangeAt T 27 q1 ∧ w.rangeAt T 53 q2
theorem k3_keep {w w' : World} {T : Nat} {Gv Hv : Value} {q0 q1 q2 : List Value} (h : K3 w T Gv Hv q0 q1 q2) (hb : Below w.heap.size w w') (ht : T < w.heap.size) : K3 w' T Gv Hv q0 q1 q2 :=
  ⟨cell_keep h.1 hb, cell_keep h.2.1 hb, range_keepO h.2.2.1 hb ht, range_keepO h.2.2.2.1 hb ht, range_keepO h.2.2.2.2 hb ht⟩
theorem own_rangeE {w : World} {B n g c k : Nat} {f : Nat → E4} (h : w.ownsRow B 44 26 (.slice (some ⟨g, 0, none⟩) n c) n (evs n f)) (hk : k < n) : w.rangeAt g (k * 26) (el (f k)) := fun j v hv => by
  have hj : j < 26 := (List.getElem?_eq_some_iff.1 hv).1
  rw [h.cellAt (k * 26 + j) (by omega), evs_get hk hj]
  exact hv
theorem s6_of {w : World} {T2 T3 fo so n c1 cE k B1 B2 : Nat} {P1 PE : Option Addr} {f : Nat → E4} (hk : k < n) (h1 : w.cell? ⟨T2, fo, none⟩ = some (.slice P1 n c1)) (h2 : w.cell? ⟨T3, so, none⟩ = some (.slice PE n cE)) (o1 : w.ownsRow B1 29 4 (.slice P1 n c1) n (svs n f)) (o2 : w.ownsRow B2 44 26 (.slice PE n cE) n (evs n (lf f))) :
    ∃ g gE : Nat, P1 = some ⟨g, 0, none⟩ ∧ PE = some ⟨gE, 0, none⟩ ∧ S6 w T2 T3 fo so g c1 gE cE n k (f k) (lf f k) w := by
  obtain ⟨g, cc, e1, _, _, _⟩ := own_shapeG o1 (by omega)
  obtain ⟨gE, cc2, e2, _, _, _⟩ := own_shapeG o2 (by omega)
  simp only [Value.slice.injEq, true_and] at e1 e2
  obtain ⟨rfl, rfl⟩ := e1
  obtain ⟨rfl, rfl⟩ := e2
  have r := own_rl o1
  have x0 := r.c0 k hk; have x1 := r.c1 k hk; have x2 := r.c2 k hk; have x3 := r.c3 k hk
  rw [Nat.zero_add] at x0 x1 x2 x3
  exact ⟨g, gE, rfl, rfl, Below.refl _ _, h1, h2, x0, x1, x2, x3, own_rangeE o2 hk⟩
end Go.Proofs.YtlijigolfggcfaaDoor
