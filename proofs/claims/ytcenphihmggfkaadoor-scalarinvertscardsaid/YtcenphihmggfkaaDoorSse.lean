import Derived.Test.YtcenphihmggfkaaDoorSrf
import Derived.Test.YtcenphihmggfkaaDoorSnum
import Derived.Test.YtcenphihmggfkaaDoorSrd2
namespace Go.Proofs.YtcenphihmggfkaaDoor
open Go.RowKit

theorem requal (a b : E4) (w : World) : (Op.equalIn 10000 34 a.v b.v).run Tryd.prog w = .ok (a.same b) w := by
  have hi : Tryd.prog.info? 31 = some (Tryd.prog.info? 31).get! := by kernel_rfl
  have hc : Tryd.prog.cellsOf 31 = 1 := by kernel_rfl
  unfold E4.v
  rw [run_equalIn_array w 9999 _ _ (by kernel_rfl : Tryd.prog.underlying 34 = some (.array 4 31)) hi, hc]
  rw [eqItems_ints w (k := .u64) 9998 (by kernel_rfl) (by kernel_rfl) _ _ (fun i => [a.x0, a.x1, a.x2, a.x3].getD i 0) (fun i => [b.x0, b.x1, b.x2, b.x3].getD i 0)]
  · rw [show List.range 4 = [0, 1, 2, 3] from rfl]
    simp only [List.all_cons, List.all_nil, Bool.and_true]
    rfl
  · intro i hi
    have : i < 4 := List.mem_range.1 hi
    match i, this with
    | 0, _ => exact ⟨rfl, rfl⟩
    | 1, _ => exact ⟨rfl, rfl⟩
    | 2, _ => exact ⟨rfl, rfl⟩
    | 3, _ => exact ⟨rfl, rfl⟩

set_option maxHeartbeats 1000000 in
theorem rIsZero_any (a : E4) (w : World) :
    Calls Tryd.prog 30 #[a.v] w fun e w' => e = .returned (.bool (a.same zero4)) ∧ Below w.heap.size w w' := by
  have hq := fun w => requal a zero4 w
  simp only [E4.v] at hq ⊢
  generalize hB : a.same zero4 = B at hq
  simp only [zero4] at hq
  go_enter Tryd.func30, Tryd.ntmps30
  go_wp2_with fail
  refine bodyPost_ret (v := .bool B) (by simp [results, Tryd.results30, go_sem]) rfl ⟨rfl, ?_⟩
  exact bl_alloc w _
set_option maxRecDepth 100000 in
set_option maxHeartbeats 4000000 in
theorem is_any (a : E4) (w : World) :
    Calls Tryd.prog 7 #[a.v, a.v] w fun e w' => e = .returned (.bool true) ∧ Below w.heap.size w w' := by
  have s0 := ((St.start w a 33).new a 34)
  simp only [World.size_alloc] at s0
  have S0 := hidden s0
  clear s0
  simp only [E4.v]
  go_enter Tryd.func7, Tryd.ntmps7
  go_wp2_with fail
  go_loopw [5] (fun i w' => ∃ k : Nat, k ≤ 4 ∧ i = .int .i64 k ∧ St w [(w.heap.size + 1, a), (w.heap.size, a)] [] w') (fun i _ => 4 - (intOf i).toNat)
  case atStart => exact ⟨0, by omega, rfl, S0.out⟩
  case round =>
    obtain ⟨k, hk, rfl, hst⟩ := hrel
    clear S0
    by_cases hk4 : k < 4
    · have kk0 : (0 : Int) ≤ (k : Int) := by omega
      have kk1 : (k : Int) < 4 := by omega
      have ca := (hst.drew.live (w.heap.size, a) (by simp)).get k hk4
      have cb := (hst.drew.live (w.heap.size + 1, a) (by simp)).get k hk4
      have ST := hidden hst.drew
      clear hst
      simp only at ca cb
      go_upto_region 4 with fail
      go_region_with fail
      all_goals
        clear ca cb
        go_wp2_with fail
        go_roundw
        case rel => exact ⟨k + 1, by omega, by go_num, ST.out⟩
        case measure => simp [intOf]; omega
    · have hkk : k = 4 := by omega
      subst hkk
      have ST := hidden hst
      clear hst
      rw [show ((4 : Nat) : Int) = 4 from rfl]
      go_wp2_with fail
      go_ret
      exact ⟨rfl, ST.out.bel⟩
end Go.Proofs.YtcenphihmggfkaaDoor
