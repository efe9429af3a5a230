import Derived.Test.YtnbcfchbhappeaaDoorArw
import Derived.Lib.AppendZeros
namespace Go.Proofs.YtnbcfchbhappeaaDoor.Al
open Go.RowKit
set_option maxRecDepth 100000 in
set_option maxHeartbeats 4000000 in
theorem grow_any (n : Nat) (w : World) (h0 : 0 < n) (h100 : n ≤ 100) :
    Calls Tryd.prog 59 #[.slice none 0 0, .int .i64 n] w fun e w' => ∃ (v : Value), e = .returned v ∧ w'.ownsRow w.heap.size 51 1 v 0 [] ∧ Below w.heap.size w w' := by
  obtain ⟨i0, hi, hz0, hz1, hz2⟩ := info_parts seveninfo
  have hge := grownCap_ge w n 0 51
  have hle := grownCap_le_maxLen w n 0 51 (by unfold maxLen; omega)
  have hr := Lib.run_append_nil_zeros w 46 3 46 51 i0 (.agg #[.int .i64 0]) .i64 .i64 (by kernel_rfl) (by kernel_rfl) hi hz0 n h0 (by rw [hz1]; decide) (by omega) (by rw [hz2]; omega)
  obtain ⟨G, hG⟩ : ∃ G, G = grownCap w n 0 51 := ⟨_, rfl⟩
  rw [← hG] at hge hle hr
  obtain ⟨Z, hZ⟩ : ∃ Z, Z = Builtin.zeroCells (Value.agg #[Value.int IntKind.i64 0]).cells n ++ Builtin.zeroCells (Value.agg #[Value.int IntKind.i64 0]).cells (G - n) := ⟨_, rfl⟩
  rw [← hZ] at hr
  have hZs : Z.size = G * 1 := by rw [hZ]; simp [size_zeroCells, Value.cells]; omega
  have OW := hidden (World.ownsRow_made (base := w.heap.size) (e := 51) (size := 1) w.drew Z G (Nat.le_refl _) hle hZs)
  have BB := hidden (bl_trans (bl_drew w) (bl_alloc w.drew (.cells Z 51)))
  have HR := hidden hr
  have w1 : IntKind.i64.wrap ((n : Int) - 0) = (n : Int) := by rw [IntWalk.i64_in _ (by omega)]; omega
  have w2 : IntKind.i64.wrap (n : Int) = (n : Int) := IntWalk.i64_in _ (by omega)
  have n0 : ¬ ((n : Int) < 0) := by omega
  have n1 : (0 : Int) < (n : Int) := by omega
  have n2 : (n : Int) > 0 := by omega
  have g0 : (0 : Int) ≤ (G : Int) := by omega
  clear hi hz0 hz1 hz2 hr hZ hZs hG
  go_enter Tryd.func59, Tryd.ntmps59
  go_wp2_with (first | (at_builtin; refine Lib.wpList_append_run _ rfl _ _ _ _ rfl _ _ rfl rfl _ _ HR.out ?_))
  refine bodyPost_ret (v := .slice (some ⟨w.heap.size, 0, none⟩) 0 G) (by simp [results, Tryd.results59, go_sem]) rfl ⟨_, rfl, OW.out, BB.out⟩
end Go.Proofs.YtnbcfchbhappeaaDoor.Al
