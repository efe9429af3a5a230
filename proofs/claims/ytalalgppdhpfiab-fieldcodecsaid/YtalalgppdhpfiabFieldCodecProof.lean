import Derived.Test.YtalalgppdhpfiabArr
import Derived.Test.YtalalgppdhpfiabCod
namespace Go.Proofs.Ytalalgppdhpfiab.fieldCodec
open Go.ChangeShapes Go.WideShapes Go.ChangeAt Go.RowKit
set_option linter.unusedVariables false

theorem own : ownKnob Try.prog.godebug = none := by kernel_rfl

section
variable {H : Type} {enc : TypeId × Value → H} {w : World} {base : Nat} {sp : Nat → Bool} {held : Bool}
theorem list5 : ∀ zs : List Int, zs.length = 5 → ∃ a : E5, zs = [a.x0, a.x1, a.x2, a.x3, a.x4]
  | [x0, x1, x2, x3, x4], _ => ⟨⟨x0, x1, x2, x3, x4⟩, rfl⟩
theorem und5 : Try.prog.underlying 24 = some (.array 5 22) := by kernel_rfl
theorem undu : Try.prog.underlying 22 = some (.int .u64) := by kernel_rfl
theorem cel5 : Try.prog.cellsOf 24 = 5 := by kernel_rfl
theorem celu : Try.prog.cellsOf 22 = 1 := by kernel_rfl
theorem open5 {r : Reach} {b0 : Nat} {v : Value} {d : DataW H} {p : List MemPlace} (hv : Value.okWide Try.prog w r b0 24 v) (h : DataW.Trod enc Try.prog w base sp held 24 v d p) :
    ∃ a : E5, v = a.v ∧ d = .agg ([a.x0, a.x1, a.x2, a.x3, a.x4].map fun z => .lit (.int .u64 z)) ∧ p = [] ∧ a.ok := by
  obtain ⟨zs, hl, hv', hd, hp, hw⟩ := open_arr und5 undu celu cel5 hv h
  obtain ⟨a, rfl⟩ := list5 zs hl
  exact ⟨a, hv', hd, hp, bounds_u64 (hw _ (by simp)), bounds_u64 (hw _ (by simp)), bounds_u64 (hw _ (by simp)), bounds_u64 (hw _ (by simp)), bounds_u64 (hw _ (by simp))⟩
theorem shut5 (a : E5) (h : a.ok) : DataW.Trod enc Try.prog w base sp held 24 a.v (.agg ([a.x0, a.x1, a.x2, a.x3, a.x4].map fun z => .lit (.int .u64 z))) [] := by
  obtain ⟨h0, h1, h2, h3, h4⟩ := h
  refine shut_arr und5 undu celu cel5 [a.x0, a.x1, a.x2, a.x3, a.x4] rfl ?_
  intro z hz
  simp only [List.mem_cons, List.not_mem_nil, or_false] at hz
  rcases hz with rfl | rfl | rfl | rfl | rfl
  · exact WalkArith.wf_u64 h0
  · exact WalkArith.wf_u64 h1
  · exact WalkArith.wf_u64 h2
  · exact WalkArith.wf_u64 h3
  · exact WalkArith.wf_u64 h4
theorem undB : Try.prog.underlying 26 = some (.array 32 5) := by kernel_rfl
theorem undb : Try.prog.underlying 5 = some (.int .u8) := by kernel_rfl
theorem celB : Try.prog.cellsOf 26 = 32 := by kernel_rfl
theorem celb : Try.prog.cellsOf 5 = 1 := by kernel_rfl
end

set_option maxRecDepth 100000 in
theorem lifted (os : Os) (started : os.Started) (H : Type) (enc : TypeId × Value → H) :
    ReturnsInHanded {} Try.checked os 3 .any (Rows.fieldCodecSpec.pre6 enc Try.prog Try.f3 Rows.fieldCodecRow.domain false) (Rows.fieldCodecSpec.post enc Try.prog Try.f3 false true false false) := by
  refine returnsInHanded_of_change (C := Try.checked) own started (by kernel_rfl) Try.func3
    (ChangeSpec.witness6 (enc := enc) (C := Try.checked) false ⟨#[], #[.agg #[.int .u64 0, .int .u64 0, .int .u64 0, .int .u64 0, .int .u64 0], .agg #[.int .u64 0, .int .u64 0, .int .u64 0, .int .u64 0, .int .u64 0], .agg #[.int .u8 0, .int .u8 0, .int .u8 0, .int .u8 0, .int .u8 0, .int .u8 0, .int .u8 0, .int .u8 0, .int .u8 0, .int .u8 0, .int .u8 0, .int .u8 0, .int .u8 0, .int .u8 0, .int .u8 0, .int .u8 0, .int .u8 0, .int .u8 0, .int .u8 0, .int .u8 0, .int .u8 0, .int .u8 0, .int .u8 0, .int .u8 0, .int .u8 0, .int .u8 0, .int .u8 0, .int .u8 0, .int .u8 0, .int .u8 0, .int .u8 0, .int .u8 0]], []⟩ 8 (by kernel_rfl) (by kernel_rfl) (by kernel_rfl) (by kernel_rfl)) ?_
  intro W base args ds gs before hval0 hW hcnd _
  have hval : ∀ (j : Nat) t v, Try.f3.params[j]? = some t → args[j]? = some v → Value.okWide Try.prog W .any base t v := hval0
  have hW' := hW
  obtain ⟨p, q, hA0, hV, rfl, hfz, hnd⟩ := hW
  have hA : DataW.TrodAll enc Try.prog W 0 (fun _ => true) true Try.f3.params.toList args.toList ds p := hA0
  rw [Try.params3] at hA hval
  obtain ⟨v0, vs0, d0, ds0, p0, q0, hargs, rfl, rfl, h0, r0⟩ := trodAll_cons hA
  obtain ⟨v1, vs1, d1, ds1, p1, q1, rfl, rfl, rfl, h1, r1⟩ := trodAll_cons r0
  obtain ⟨v2, vs2, d2, ds2, p2, q2, rfl, rfl, rfl, h2, r2⟩ := trodAll_cons r1
  obtain ⟨rfl, rfl, rfl⟩ := trodAll_nil r2
  obtain rfl : args = #[v0, v1, v2] := by cases args; simp_all
  obtain ⟨rfl, rfl⟩ := trodVars_none hV
  obtain ⟨a0, rfl, rfl, rfl, w0⟩ := open5 (hval 0 24 v0 rfl rfl) h0
  obtain ⟨a1, rfl, rfl, rfl, w1⟩ := open5 (hval 1 24 v1 rfl rfl) h1
  obtain ⟨a2, l2, rfl, rfl, rfl, w2⟩ := open_arr undB undb celb celB (hval 2 26 v2 rfl rfl) h2
  clear hA0 hval0
  refine (codec_any a0 a1 a2 W w0 w1 l2 (fun z h => bounds_u8 (w2 z h))).mono fun e W' ⟨he, bel⟩ => ?_
  subst he
  exact ⟨_, rfl, _, _, _, [], _, [], hW', trodAll_mk1 (shut_bool Try.underlying4 _), (trodAll_cons_mk (shut5 a0 w0) (trodAll_cons_mk (shut5 a1 w1) (trodAll_cons_mk (shut_arr undB undb celb celB a2 l2 w2) trodAll_mk0))), rfl, bel.frame _, fun h => by cases h⟩

theorem over : Rows.fieldCodecRow.holds Try.pinned (OpenSpec.ofChange Rows.fieldCodecSpec) :=
  OpenClaim.holds_of_wide 3 Try.f3 rfl rfl rfl rfl rfl rfl rfl ⟨rfl, rfl, rfl, rfl, rfl⟩ rfl rfl rfl rfl rfl (by kernel_rfl) Try.func3 (by kernel_rfl)
    (of_decide_eq_true (by kernel_rfl)) (by unfold Func.isWrapper; first | (rw [if_pos (by decide +kernel)]; kernel_rfl) | (rw [if_neg (by decide +kernel)]; exact ⟨rfl, rfl⟩))
    (fun os started H enc _ => lifted os started H enc)
end Go.Proofs.Ytalalgppdhpfiab.fieldCodec

namespace Go.Proofs.Ytalalgppdhpfiab
theorem fieldCodec_proved : Rows.FieldCodecSaid := fieldCodec.over
#print axioms fieldCodec_proved
end Go.Proofs.Ytalalgppdhpfiab
