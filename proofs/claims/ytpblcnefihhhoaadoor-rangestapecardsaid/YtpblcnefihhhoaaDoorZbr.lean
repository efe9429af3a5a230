import Derived.Test.YtpblcnefihhhoaaDoorZbp
import Derived.Test.YtpblcnefihhhoaaDoorZbq
namespace Go.Proofs.YtpblcnefihhhoaaDoor
open Go.RowKit
set_option maxRecDepth 100000 in
set_option maxHeartbeats 4000000 in
theorem rBound_any (n : Int) (hn : -9223372036854775808 ≤ n ∧ n ≤ 9223372036854775807) (w : World) :
    Calls Tryd.prog 21 #[.int .i64 n] w fun e w' => e = .returned (.int .i64 (bdW n)) ∧ Below w.heap.size w w' := by
  unfold bdW
  by_cases h1 : n < 0
  · rw [if_pos (Or.inl h1)]
    go_enter Tryd.func21, Tryd.ntmps21
    go_wp2_with fail
    refine bodyPost_ret (v := .int .i64 0) (by simp [results, Tryd.results21, go_sem]) rfl ⟨rfl, Below.refl _ _⟩
  · by_cases h2 : 8192 < n
    · rw [if_pos (Or.inr h2)]
      go_enter Tryd.func21, Tryd.ntmps21
      go_wp2_with fail
      refine bodyPost_ret (v := .int .i64 0) (by simp [results, Tryd.results21, go_sem]) rfl ⟨rfl, Below.refl _ _⟩
    · rw [if_neg (by omega)]
      have HN : Hid (0 ≤ n ∧ n ≤ 8192) := hidden (by omega)
      have C1 := hidden (rpm_any n HN.out w 1 (by omega) (by omega))
      go_enter Tryd.func21, Tryd.ntmps21
      go_wp2_with (first | (go_at_call 34; refine (C1.out).mono ?_; rintro e wa ⟨rfl, ha⟩; have HA := hidden ha; clear ha C1))
      go_loopw [3, 4] (fun lv kv w' => ∃ (k : Nat), 1 ≤ k ∧ k ≤ 12 ∧ lv = .int .i64 (loW n k) ∧ kv = .int .i64 ((k : Int) + 1) ∧ Hid (Below w.heap.size w w')) (fun _ k _ => 13 - (intOf k).toNat)
      case atStart => exact ⟨1, by omega, by omega, rfl, rfl, HA⟩
      case round =>
        obtain ⟨k, hk1, hk2, rfl, rfl, hB⟩ := hrel
        clear HA
        by_cases hk : k < 12
        · have C := hidden (rpm_any n HN.out wr (k + 1) (by omega) (by omega))
          rw [Int.natCast_add, Int.natCast_one] at C
          have k1 : (k : Int) + 1 < 13 := by omega
          have w9 : IntKind.i64.wrap ((k : Int) + 1 + 1) = (k : Int) + 1 + 1 := IntWalk.i64_in _ (by omega)
          have nx := loW_next n k hk1
          by_cases hlt : pmW n (k + 1) < loW n k
          · rw [if_pos hlt] at nx
            go_wp2_with (first | (go_at_call 34; refine (C.out).mono ?_; rintro e wa ⟨rfl, ha⟩; have HA := hidden (bl_trans hB.out ha); clear ha C))
            go_roundw
            case rel => exact ⟨k + 1, by omega, by omega, by rw [nx], by simp, HA⟩
            case measure => simp [intOf]; omega
          · rw [if_neg hlt] at nx
            go_wp2_with (first | (go_at_call 34; refine (C.out).mono ?_; rintro e wa ⟨rfl, ha⟩; have HA := hidden (bl_trans hB.out ha); clear ha C))
            go_roundw
            case rel => exact ⟨k + 1, by omega, by omega, by rw [nx], by simp, HA⟩
            case measure => simp [intOf]; omega
        · obtain rfl : k = 12 := by omega
          go_wp2_with fail
          refine bodyPost_ret (v := .int .i64 (loW n 12)) (by simp [results, Tryd.results21, go_sem]) rfl ⟨rfl, hB.out⟩
end Go.Proofs.YtpblcnefihhhoaaDoor
