import Derived.Test.YtcecpfcekejblaaWd
import Derived.Lib.AppendZeros
namespace Go.Proofs.Ytcecpfcekejblaa
open Go.RowKit
set_option linter.unusedVariables false
/-- lists of bytes, in a list -/
structure Pt (w : World) (P : Option Addr) (ps : List (List UInt8)) (q : Nat → Option Addr) (c : Nat → Nat) : Prop where
  lie : 0 < ps.length → ∃ b o : Nat, P = some ⟨b, o, none⟩ ∧ ∀ i, i < ps.length → w.cell? ⟨b, o + i, none⟩ = some (.slice (q i) (ps.getD i []).length (c i))
  each : ∀ i, i < ps.length → By w (q i) (c i) (ps.getD i [])
theorem Pt.keep {w w' : World} {P : Option Addr} {ps : List (List UInt8)} {q : Nat → Option Addr} {c : Nat → Nat} (h : Pt w P ps q c) (hb : Below w.heap.size w w') : Pt w' P ps q c :=
  ⟨fun h0 => by obtain ⟨b, o, e, h1⟩ := h.lie h0; exact ⟨b, o, e, fun i hi => cell_keep (h1 i hi) hb⟩, fun i hi => (h.each i hi).keep hb⟩
theorem flat_next (ps : List (List UInt8)) (k : Nat) (h : k < ps.length) : (ps.take (k + 1)).flatten = (ps.take k).flatten ++ ps.getD k [] := by
  rw [List.take_succ_eq_append_getElem h, List.flatten_append]
  simp [List.getElem?_eq_getElem h]
theorem flat_take (ps : List (List UInt8)) (k : Nat) : (ps.take k).flatten.length ≤ ps.flatten.length := by
  have h := congrArg List.length (congrArg List.flatten (List.take_append_drop k ps))
  rw [List.flatten_append, List.length_append] at h
  omega
set_option maxRecDepth 100000 in
set_option maxHeartbeats 4000000 in
theorem grow_any (n : Nat) (w : World) (h0 : 0 < n) (hn : n ≤ 2 ^ 40) :
    Calls Try.prog 19 #[.slice none 0 0, .int .i64 n] w fun e w' => ∃ (v : Value), e = .returned v ∧ w'.ownsRow w.heap.size 5 1 v 0 [] ∧ Below w.heap.size w w' := by
  have hi : Try.prog.info? 5 = some (Try.prog.info? 5).get! := by kernel_rfl
  have hz : (Try.prog.info? 5).get!.zero = some (.int .u8 0) := by kernel_rfl
  have hs : (Try.prog.info? 5).get!.size = 1 := by kernel_rfl
  have hy : (Try.prog.info? 5).get!.bytes = 1 := by kernel_rfl
  have hge := grownCap_ge w n 0 5
  have hle := grownCap_le_maxLen w n 0 5 (by unfold maxLen; omega)
  have hr := Lib.run_append_nil_zeros w 24 3 24 5 (Try.prog.info? 5).get! (.int .u8 0) .i64 .i64 (by kernel_rfl) (by kernel_rfl) hi hz n h0 (by rw [hs]; decide) (by omega) (by rw [hy]; omega)
  obtain ⟨G, hG⟩ : ∃ G, G = grownCap w n 0 5 := ⟨_, rfl⟩
  rw [← hG] at hge hle hr
  obtain ⟨Z, hZ⟩ : ∃ Z, Z = Builtin.zeroCells (Value.int IntKind.u8 0).cells n ++ Builtin.zeroCells (Value.int IntKind.u8 0).cells (G - n) := ⟨_, rfl⟩
  rw [← hZ] at hr
  have hZs : Z.size = G * 1 := by rw [hZ]; simp [size_zeroCells, Value.cells]; omega
  have OW := hidden (World.ownsRow_made (base := w.heap.size) (e := 5) (size := 1) w.drew Z G (Nat.le_refl _) hle hZs)
  have BB := hidden (bl_trans (drew_blW w) (bl_alloc w.drew (.cells Z 5)))
  have HR := hidden hr
  have w1 : IntKind.i64.wrap ((n : Int) - 0) = (n : Int) := by rw [IntWalk.i64_in _ (by omega)]; omega
  have w2 : IntKind.i64.wrap (n : Int) = (n : Int) := IntWalk.i64_in _ (by omega)
  have n0 : ¬ ((n : Int) < 0) := by omega
  have n1 : (0 : Int) < (n : Int) := by omega
  have n2 : (n : Int) > 0 := by omega
  have g0 : (0 : Int) ≤ (G : Int) := by omega
  clear hi hz hs hy hr hZ hZs hG hn
  go_enter Try.func19, Try.ntmps19
  go_wp2_with (first | (at_builtin; refine Lib.wpList_append_run _ rfl _ _ _ _ rfl _ _ rfl rfl _ _ HR.out ?_))
  refine bodyPost_ret (v := .slice (some ⟨w.heap.size, 0, none⟩) 0 G) (by simp [results, Try.results19, go_sem]) rfl ⟨_, rfl, OW.out, BB.out⟩
end Go.Proofs.Ytcecpfcekejblaa
