import Derived.Test.YthhcdjndfepbaaaRows
import Derived.Test.YthhcdjndfepbaaaAfi
import Derived.Test.YthhcdjndfepbaaaAit
import Derived.Test.YthhcdjndfepbaaaAsd
import Derived.Test.YthhcdjndfepbaaaAev
import Derived.WalkKit
import Derived.ProofKit
import Derived.OpenShut
import Derived.ChangeSlices
import Derived.Carry
namespace Go.Proofs.Ythhcdjndfepbaaa.algebraField
open Go.ChangeShapes Go.WideShapes Go.ChangeAt Go.RowKit
set_option linter.unusedVariables false

theorem own : ownKnob Try.prog.godebug = none := by kernel_rfl
theorem laidOut : laidOutB Try.prog = true := by kernel_rfl
section
variable {H : Type} {enc : TypeId × Value → H} {w : World} {base : Nat} {sp : Nat → Bool} {held : Bool}
theorem undN : Try.prog.underlying 22 = some (.slice 3) := by kernel_rfl
theorem undi : Try.prog.underlying 3 = some (.int .i64) := by kernel_rfl
theorem celi : Try.prog.cellsOf 3 = 1 := by kernel_rfl
theorem openN {v : Value} {d : DataW H} {p : List MemPlace} (h : DataW.Trod enc Try.prog w 0 (fun _ => true) true 22 v d p) (hv : ∃ a0 len cap, v = .slice a0 len cap) :
    ∃ (P : Option Addr) (L cap : Nat) (f : Nat → Int), v = .slice P L cap ∧ Il w P L f := by
  obtain ⟨a0, len, cap, rfl⟩ := hv
  obtain ⟨fuel, hf⟩ := h
  rcases open_ints undN undi celi hf with ⟨hcs, hx⟩ | ⟨a, len', cap', zs, hcs, _, hl, hm, hz, hx, hcell, hwz⟩
  · simp [Value.cells] at hcs
    obtain ⟨rfl, rfl, rfl⟩ := hcs
    exact ⟨none, 0, 0, fun _ => 0, rfl, ⟨0, 0, fun h => by omega, fun k hk => by omega⟩⟩
  · simp [Value.cells] at hcs
    obtain ⟨rfl, rfl, rfl⟩ := hcs
    simp only [if_true] at hz
    obtain ⟨b, off, spot⟩ := a
    by_cases h0 : 0 < len
    · have hs : spot = none := by simpa [Addr.add] using World.cell?_spot (hcell 0 (by omega))
      subst hs
      refine ⟨_, len, cap, fun j => zs.getD j 0, rfl, ⟨b, off, fun _ => rfl, fun k hk => ?_⟩⟩
      have := hcell k (by omega)
      rwa [Addr.add_lit] at this
    · exact ⟨_, len, cap, fun _ => 0, rfl, ⟨0, 0, fun h => absurd h h0, fun k hk => by omega⟩⟩
end

set_option maxRecDepth 100000 in
theorem lifted  (os : Os) (started : os.Started) (H : Type) (enc : TypeId × Value → H) :
    ReturnsInHanded {} Try.checked os 4 .any (Rows.algebraFieldSpec.pre6 enc Try.prog Try.f4 Rows.algebraFieldRow.domain false) (Rows.algebraFieldSpec.post enc Try.prog Try.f4 false true false false) := by
  refine returnsInHanded_of_change (C := Try.checked) own started (by kernel_rfl) Try.func4
    (ChangeSpec.witness6 (enc := enc) (C := Try.checked) false ⟨#[], #[.slice none 0 0, .slice none 0 0], []⟩ 8 (by kernel_rfl) (by kernel_rfl) (by kernel_rfl) (by kernel_rfl)) ?_
  intro W base args ds gs before hval0 hW hcnd _
  have hval : ∀ (j : Nat) t v, Try.f4.params[j]? = some t → args[j]? = some v → Value.okWide Try.prog W .any base t v := hval0
  have hW' := hW
  obtain ⟨p, q, hA0, hV, rfl, hfz, hnd⟩ := hW
  have hA : DataW.TrodAll enc Try.prog W 0 (fun _ => true) true Try.f4.params.toList args.toList ds p := hA0
  rw [Try.params4] at hA hval
  obtain ⟨v0, vs0, d0, ds0, p0, q0, hargs, rfl, rfl, h0, r0⟩ := trodAll_cons hA
  obtain ⟨v1, vs1, d1, ds1, p1, q1, rfl, rfl, rfl, h1, r1⟩ := trodAll_cons r0
  obtain ⟨rfl, rfl, rfl⟩ := trodAll_nil r1
  obtain rfl : args = #[v0, v1] := by cases args; simp_all
  obtain ⟨rfl, rfl⟩ := trodVars_none hV
  have hk0 := h0
  obtain ⟨P0, L0, c0, f0, rfl, s0⟩ := openN h0 (okWide_slice undN (hval 0 22 v0 rfl rfl))
  have hk1 := h1
  obtain ⟨P1, L1, c1, f1, rfl, s1⟩ := openN h1 (okWide_slice undN (hval 1 22 v1 rfl rfl))
  clear hA0 hval0
  simp only [List.append_nil] at hW'
  have hlt0 : ∀ x ∈ p0, x.block < W.heap.size := fun x hx => hW'.lt x (by simp [hx])
  have hlt1 : ∀ x ∈ p1, x.block < W.heap.size := fun x hx => hW'.lt x (by simp [hx])
  refine (field_any interp_seven solve_seven ev_seven P0 P1 L0 c0 L1 c1 f0 f1 W s0 s1).mono fun e W' ⟨he, bel⟩ => ?_
  subst he
  exact ⟨_, rfl, _, _, _, [], _, [], hW', trodAll_mk1 (shut_bool Try.underlying4 _), (trodAll_cons_mk (Below.trod laidOut (by kernel_rfl) (of_decide_eq_true (by kernel_rfl)) hk0 bel hlt0) (trodAll_cons_mk (Below.trod laidOut (by kernel_rfl) (of_decide_eq_true (by kernel_rfl)) hk1 bel hlt1) trodAll_mk0)), rfl, bel.frame _, fun h => by cases h⟩

theorem over  : Rows.algebraFieldRow.holds Try.pinned (OpenSpec.ofChange Rows.algebraFieldSpec) :=
  OpenClaim.holds_of_wide 4 Try.f4 rfl rfl rfl rfl rfl rfl rfl ⟨rfl, rfl, rfl, rfl, rfl⟩ rfl rfl rfl rfl rfl (by kernel_rfl) Try.func4 (by kernel_rfl)
    (of_decide_eq_true (by kernel_rfl)) (by unfold Func.isWrapper; first | (rw [if_pos (by decide +kernel)]; kernel_rfl) | (rw [if_neg (by decide +kernel)]; exact ⟨rfl, rfl⟩))
    (fun os started H enc _ => lifted  os started H enc)
end Go.Proofs.Ythhcdjndfepbaaa.algebraField

namespace Go.Proofs.Ythhcdjndfepbaaa
theorem algebraField_proved : Rows.AlgebraFieldSaid := algebraField.over
#print axioms algebraField_proved
end Go.Proofs.Ythhcdjndfepbaaa
