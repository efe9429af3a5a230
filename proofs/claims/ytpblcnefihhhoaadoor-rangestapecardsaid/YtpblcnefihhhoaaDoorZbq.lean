import Derived.Test.YtpblcnefihhhoaaDoorZbo
namespace Go.Proofs.YtpblcnefihhhoaaDoor
open Go.RowKit
set_option maxRecDepth 100000 in
set_option maxHeartbeats 4000000 in
theorem bleast_any (n : Int) (hn : 0 ≤ n ∧ n ≤ 8192) (X : Nat) (w : World) (hX : w.cell? ⟨X, 0, none⟩ = some (.int .i64 n)) :
    Calls Tryd.prog 32 #[.int .i64 12, .func (.func 33) #[] #[.pointer (some ⟨X, 0, none⟩)]] w fun e w' => (∃ m : Int, e = .returned (.tuple #[.int .i64 m, .int .i64 (loW n 12)])) ∧ Below w.heap.size w w' := by
  have HX := hidden hX
  have HN := hidden hn
  have C1 := hidden (bclo_any n hn X w hX 1 (by omega) (by omega))
  clear hX hn
  go_enter Tryd.func32, Tryd.ntmps32
  go_wp2_with (first | (go_at_call 33; refine (C1.out).mono ?_; rintro e wa ⟨rfl, ha⟩; have HA := hidden ha; clear ha C1))
  go_loopw [6, 7, 8] (fun mv lv kv w' => ∃ (m : Int) (k : Nat), 1 ≤ k ∧ k ≤ 12 ∧ mv = .int .i64 m ∧ lv = .int .i64 (loW n k) ∧ kv = .int .i64 ((k : Int) + 1) ∧ Hid (Below w.heap.size w w')) (fun _ _ k _ => 13 - (intOf k).toNat)
  case atStart => exact ⟨1, 1, by omega, by omega, rfl, rfl, rfl, HA⟩
  case round =>
    obtain ⟨m, k, hk1, hk2, rfl, rfl, rfl, hB⟩ := hrel
    clear HA
    by_cases hk : k < 12
    · have C := hidden (bclo_any n HN.out X wr (cell_keep HX.out hB.out) (k + 1) (by omega) (by omega))
      rw [Int.natCast_add, Int.natCast_one] at C
      have k1 : (k : Int) + 1 ≤ 12 := by omega
      have w9 : IntKind.i64.wrap ((k : Int) + 1 + 1) = (k : Int) + 1 + 1 := IntWalk.i64_in _ (by omega)
      have nx := loW_next n k hk1
      by_cases hlt : pmW n (k + 1) < loW n k
      · rw [if_pos hlt] at nx
        go_wp2_with (first | (go_at_call 33; refine (C.out).mono ?_; rintro e wa ⟨rfl, ha⟩; have HA := hidden (bl_trans hB.out ha); clear ha C))
        go_roundw
        case rel => exact ⟨(k : Int) + 1, k + 1, by omega, by omega, rfl, by rw [nx], by simp, HA⟩
        case measure => simp [intOf]; omega
      · rw [if_neg hlt] at nx
        go_wp2_with (first | (go_at_call 33; refine (C.out).mono ?_; rintro e wa ⟨rfl, ha⟩; have HA := hidden (bl_trans hB.out ha); clear ha C))
        go_roundw
        case rel => exact ⟨m, k + 1, by omega, by omega, rfl, by rw [nx], by simp, HA⟩
        case measure => simp [intOf]; omega
    · obtain rfl : k = 12 := by omega
      go_wp2_with fail
      refine bodyPost_ret (v := .tuple #[.int .i64 m, .int .i64 (loW n 12)]) (by simp [results, Tryd.results32, go_sem]) rfl ⟨⟨m, rfl⟩, hB.out⟩
set_option maxRecDepth 100000 in
set_option maxHeartbeats 4000000 in
theorem Bound_any (n : Int) (hn : -9223372036854775808 ≤ n ∧ n ≤ 9223372036854775807) (w : World) :
    Calls Tryd.prog 19 #[.int .i64 n] w fun e w' => e = .returned (.int .i64 (bdW n)) ∧ Below w.heap.size w w' := by
  have hmf : ∀ (fn : Fn) (first cap : Array Value) (w : World), (Instr.makeFunc fn first cap).run Tryd.prog w = .ok (.func fn first cap) w := fun _ _ _ _ => rfl
  have B0 := hidden (bl_alloc w (.cells #[.int .i64 n] 3))
  unfold bdW
  by_cases h1 : n < 0
  · rw [if_pos (Or.inl h1)]
    go_enter Tryd.func19, Tryd.ntmps19
    go_wp2_with fail
    refine bodyPost_ret (v := .int .i64 0) (by simp [results, Tryd.results19, go_sem]) rfl ⟨rfl, B0.out⟩
  · by_cases h2 : 8192 < n
    · rw [if_pos (Or.inr h2)]
      go_enter Tryd.func19, Tryd.ntmps19
      go_wp2_with fail
      refine bodyPost_ret (v := .int .i64 0) (by simp [results, Tryd.results19, go_sem]) rfl ⟨rfl, B0.out⟩
    · rw [if_neg (by omega)]
      have LE := hidden (bleast_any n (by omega) w.heap.size (w.alloc (.cells #[.int .i64 n] 3)) (by go_simp))
      go_enter Tryd.func19, Tryd.ntmps19
      go_wp2_with (first | (go_at_call 32; refine (LE.out).mono ?_; rintro e wa ⟨⟨m, rfl⟩, ha⟩; have HA := hidden (bl_trans B0.out ha); clear ha))
      refine bodyPost_ret (v := .int .i64 (loW n 12)) (by simp [results, Tryd.results19, go_sem]) rfl ⟨rfl, HA.out⟩
end Go.Proofs.YtpblcnefihhhoaaDoor
