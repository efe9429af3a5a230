import Derived.Test.YtpblcnefihhhoaaDoorZbo
namespace Go.Proofs.YtpblcnefihhhoaaDoor
open Go.RowKit

set_option maxRecDepth 100000 in
set_option maxHeartbeats 4000000 in
theorem rwin_1 (w : World) :
    Calls Tryd.prog 55 #[.int .i64 1] w fun e w' => e = .returned (.int .i64 257) ∧ Below w.heap.size w w' := by
  go_enter Tryd.func55, Tryd.ntmps55
  go_wp2_with fail
  refine bodyPost_ret (v := .int .i64 257) (by simp [results, Tryd.results55, go_sem]) rfl ⟨rfl, Below.refl _ _⟩
set_option maxRecDepth 100000 in
set_option maxHeartbeats 4000000 in
theorem rpm_1 (n : Int) (hn : 0 ≤ n ∧ n ≤ 8192) (w : World) :
    Calls Tryd.prog 34 #[.int .i64 n, .int .i64 (1 : Nat)] w fun e w' => e = .returned (.int .i64 (pmW n 1)) ∧ Below w.heap.size w w' := by
  have s1 : ∀ w : World, (Op.shift .shl .i64 2 .i64 1).run Tryd.prog w = .ok (.int .i64 4) w := fun _ => rfl
  have s2 : IntKind.i64.wrap 4 = 4 := by decide
  have e1 : IntKind.i64.wrap (n + 4) = n + 4 := IntWalk.i64_in _ (by omega)
  have e2 : IntKind.i64.wrap (n + 4 + 1) = n + 5 := (IntWalk.i64_in _ (by omega)).trans (by omega)
  have e3 : IntKind.i64.wrap (n + 5 + 1) = n + 6 := (IntWalk.i64_in _ (by omega)).trans (by omega)
  have e4 : IntKind.i64.wrap (257 * (n + 6)) = 257 * (n + 6) := IntWalk.i64_in _ (by omega)
  have WN := hidden (fun w => rwin_1 w)
  have K0 := hidden (drew_blW w)
  simp only [pmW, wdW, exW]
  go_enter Tryd.func34, Tryd.ntmps34
  go_wp2_with fail
  go_region_held3 (fun w' => Below w.heap.size w w') (first | with_reducible exact K0.out | with_reducible exact hk.out)
    (first | (go_at_call 55; with_reducible refine (WN.out _).mono ?_; rintro e wn ⟨rfl, hb⟩; have hk := hidden (bl_trans (show Below w.heap.size w _ by assumption) hb)))
  all_goals (go_wp2_with fail; refine bodyPost_ret (v := .int .i64 (257 * (n + 6))) (by simp [results, Tryd.results34, go_sem]) rfl ⟨rfl, hk.out⟩)
set_option maxRecDepth 100000 in
set_option maxHeartbeats 4000000 in
theorem rwin_2 (w : World) :
    Calls Tryd.prog 55 #[.int .i64 2] w fun e w' => e = .returned (.int .i64 129) ∧ Below w.heap.size w w' := by
  go_enter Tryd.func55, Tryd.ntmps55
  go_wp2_with fail
  refine bodyPost_ret (v := .int .i64 129) (by simp [results, Tryd.results55, go_sem]) rfl ⟨rfl, Below.refl _ _⟩
set_option maxRecDepth 100000 in
set_option maxHeartbeats 4000000 in
theorem rpm_2 (n : Int) (hn : 0 ≤ n ∧ n ≤ 8192) (w : World) :
    Calls Tryd.prog 34 #[.int .i64 n, .int .i64 (2 : Nat)] w fun e w' => e = .returned (.int .i64 (pmW n 2)) ∧ Below w.heap.size w w' := by
  have s1 : ∀ w : World, (Op.shift .shl .i64 2 .i64 2).run Tryd.prog w = .ok (.int .i64 8) w := fun _ => rfl
  have s2 : IntKind.i64.wrap 8 = 8 := by decide
  have e1 : IntKind.i64.wrap (n + 8) = n + 8 := IntWalk.i64_in _ (by omega)
  have e2 : IntKind.i64.wrap (n + 8 + 2) = n + 10 := (IntWalk.i64_in _ (by omega)).trans (by omega)
  have e3 : IntKind.i64.wrap (n + 10 + 1) = n + 11 := (IntWalk.i64_in _ (by omega)).trans (by omega)
  have e4 : IntKind.i64.wrap (129 * (n + 11)) = 129 * (n + 11) := IntWalk.i64_in _ (by omega)
  have WN := hidden (fun w => rwin_2 w)
  have K0 := hidden (drew_blW w)
  simp only [pmW, wdW, exW]
  go_enter Tryd.func34, Tryd.ntmps34
  go_wp2_with fail
  go_region_held3 (fun w' => Below w.heap.size w w') (first | with_reducible exact K0.out | with_reducible exact hk.out)
    (first | (go_at_call 55; with_reducible refine (WN.out _).mono ?_; rintro e wn ⟨rfl, hb⟩; have hk := hidden (bl_trans (show Below w.heap.size w _ by assumption) hb)))
  all_goals (go_wp2_with fail; refine bodyPost_ret (v := .int .i64 (129 * (n + 11))) (by simp [results, Tryd.results34, go_sem]) rfl ⟨rfl, hk.out⟩)
set_option maxRecDepth 100000 in
set_option maxHeartbeats 4000000 in
theorem rwin_3 (w : World) :
    Calls Tryd.prog 55 #[.int .i64 3] w fun e w' => e = .returned (.int .i64 87) ∧ Below w.heap.size w w' := by
  go_enter Tryd.func55, Tryd.ntmps55
  go_wp2_with fail
  refine bodyPost_ret (v := .int .i64 87) (by simp [results, Tryd.results55, go_sem]) rfl ⟨rfl, Below.refl _ _⟩
set_option maxRecDepth 100000 in
set_option maxHeartbeats 4000000 in
theorem rpm_3 (n : Int) (hn : 0 ≤ n ∧ n ≤ 8192) (w : World) :
    Calls Tryd.prog 34 #[.int .i64 n, .int .i64 (3 : Nat)] w fun e w' => e = .returned (.int .i64 (pmW n 3)) ∧ Below w.heap.size w w' := by
  have s1 : ∀ w : World, (Op.shift .shl .i64 2 .i64 3).run Tryd.prog w = .ok (.int .i64 16) w := fun _ => rfl
  have s2 : IntKind.i64.wrap 16 = 16 := by decide
  have e1 : IntKind.i64.wrap (n + 16) = n + 16 := IntWalk.i64_in _ (by omega)
  have e2 : IntKind.i64.wrap (n + 16 + 3) = n + 19 := (IntWalk.i64_in _ (by omega)).trans (by omega)
  have e3 : IntKind.i64.wrap (n + 19 + 1) = n + 20 := (IntWalk.i64_in _ (by omega)).trans (by omega)
  have e4 : IntKind.i64.wrap (87 * (n + 20)) = 87 * (n + 20) := IntWalk.i64_in _ (by omega)
  have WN := hidden (fun w => rwin_3 w)
  have K0 := hidden (drew_blW w)
  simp only [pmW, wdW, exW]
  go_enter Tryd.func34, Tryd.ntmps34
  go_wp2_with fail
  go_region_held3 (fun w' => Below w.heap.size w w') (first | with_reducible exact K0.out | with_reducible exact hk.out)
    (first | (go_at_call 55; with_reducible refine (WN.out _).mono ?_; rintro e wn ⟨rfl, hb⟩; have hk := hidden (bl_trans (show Below w.heap.size w _ by assumption) hb)))
  all_goals (go_wp2_with fail; refine bodyPost_ret (v := .int .i64 (87 * (n + 20))) (by simp [results, Tryd.results34, go_sem]) rfl ⟨rfl, hk.out⟩)
set_option maxRecDepth 100000 in
set_option maxHeartbeats 4000000 in
theorem rwin_4 (w : World) :
    Calls Tryd.prog 55 #[.int .i64 4] w fun e w' => e = .returned (.int .i64 65) ∧ Below w.heap.size w w' := by
  go_enter Tryd.func55, Tryd.ntmps55
  go_wp2_with fail
  refine bodyPost_ret (v := .int .i64 65) (by simp [results, Tryd.results55, go_sem]) rfl ⟨rfl, Below.refl _ _⟩
set_option maxRecDepth 100000 in
set_option maxHeartbeats 4000000 in
theorem rpm_4 (n : Int) (hn : 0 ≤ n ∧ n ≤ 8192) (w : World) :
    Calls Tryd.prog 34 #[.int .i64 n, .int .i64 (4 : Nat)] w fun e w' => e = .returned (.int .i64 (pmW n 4)) ∧ Below w.heap.size w w' := by
  have s1 : ∀ w : World, (Op.shift .shl .i64 2 .i64 4).run Tryd.prog w = .ok (.int .i64 32) w := fun _ => rfl
  have s2 : IntKind.i64.wrap 32 = 32 := by decide
  have e1 : IntKind.i64.wrap (n + 32) = n + 32 := IntWalk.i64_in _ (by omega)
  have e2 : IntKind.i64.wrap (n + 32 + 4) = n + 36 := (IntWalk.i64_in _ (by omega)).trans (by omega)
  have e3 : IntKind.i64.wrap (n + 36 + 1) = n + 37 := (IntWalk.i64_in _ (by omega)).trans (by omega)
  have e4 : IntKind.i64.wrap (65 * (n + 37)) = 65 * (n + 37) := IntWalk.i64_in _ (by omega)
  have WN := hidden (fun w => rwin_4 w)
  have K0 := hidden (drew_blW w)
  simp only [pmW, wdW, exW]
  go_enter Tryd.func34, Tryd.ntmps34
  go_wp2_with fail
  go_region_held3 (fun w' => Below w.heap.size w w') (first | with_reducible exact K0.out | with_reducible exact hk.out)
    (first | (go_at_call 55; with_reducible refine (WN.out _).mono ?_; rintro e wn ⟨rfl, hb⟩; have hk := hidden (bl_trans (show Below w.heap.size w _ by assumption) hb)))
  all_goals (go_wp2_with fail; refine bodyPost_ret (v := .int .i64 (65 * (n + 37))) (by simp [results, Tryd.results34, go_sem]) rfl ⟨rfl, hk.out⟩)
set_option maxRecDepth 100000 in
set_option maxHeartbeats 4000000 in
theorem rwin_5 (w : World) :
    Calls Tryd.prog 55 #[.int .i64 5] w fun e w' => e = .returned (.int .i64 53) ∧ Below w.heap.size w w' := by
  go_enter Tryd.func55, Tryd.ntmps55
  go_wp2_with fail
  refine bodyPost_ret (v := .int .i64 53) (by simp [results, Tryd.results55, go_sem]) rfl ⟨rfl, Below.refl _ _⟩
set_option maxRecDepth 100000 in
set_option maxHeartbeats 4000000 in
theorem rpm_5 (n : Int) (hn : 0 ≤ n ∧ n ≤ 8192) (w : World) :
    Calls Tryd.prog 34 #[.int .i64 n, .int .i64 (5 : Nat)] w fun e w' => e = .returned (.int .i64 (pmW n 5)) ∧ Below w.heap.size w w' := by
  have s1 : ∀ w : World, (Op.shift .shl .i64 2 .i64 5).run Tryd.prog w = .ok (.int .i64 64) w := fun _ => rfl
  have s2 : IntKind.i64.wrap 64 = 64 := by decide
  have e1 : IntKind.i64.wrap (n + 64) = n + 64 := IntWalk.i64_in _ (by omega)
  have e2 : IntKind.i64.wrap (n + 64 + 5) = n + 69 := (IntWalk.i64_in _ (by omega)).trans (by omega)
  have e3 : IntKind.i64.wrap (n + 69 + 1) = n + 70 := (IntWalk.i64_in _ (by omega)).trans (by omega)
  have e4 : IntKind.i64.wrap (53 * (n + 70)) = 53 * (n + 70) := IntWalk.i64_in _ (by omega)
  have WN := hidden (fun w => rwin_5 w)
  have K0 := hidden (drew_blW w)
  simp only [pmW, wdW, exW]
  go_enter Tryd.func34, Tryd.ntmps34
  go_wp2_with fail
  go_region_held3 (fun w' => Below w.heap.size w w') (first | with_reducible exact K0.out | with_reducible exact hk.out)
    (first | (go_at_call 55; with_reducible refine (WN.out _).mono ?_; rintro e wn ⟨rfl, hb⟩; have hk := hidden (bl_trans (show Below w.heap.size w _ by assumption) hb)))
  all_goals (go_wp2_with fail; refine bodyPost_ret (v := .int .i64 (53 * (n + 70))) (by simp [results, Tryd.results34, go_sem]) rfl ⟨rfl, hk.out⟩)
set_option maxRecDepth 100000 in
set_option maxHeartbeats 4000000 in
theorem rwin_6 (w : World) :
    Calls Tryd.prog 55 #[.int .i64 6] w fun e w' => e = .returned (.int .i64 44) ∧ Below w.heap.size w w' := by
  go_enter Tryd.func55, Tryd.ntmps55
  go_wp2_with fail
  refine bodyPost_ret (v := .int .i64 44) (by simp [results, Tryd.results55, go_sem]) rfl ⟨rfl, Below.refl _ _⟩
set_option maxRecDepth 100000 in
set_option maxHeartbeats 4000000 in
theorem rpm_6 (n : Int) (hn : 0 ≤ n ∧ n ≤ 8192) (w : World) :
    Calls Tryd.prog 34 #[.int .i64 n, .int .i64 (6 : Nat)] w fun e w' => e = .returned (.int .i64 (pmW n 6)) ∧ Below w.heap.size w w' := by
  have s1 : ∀ w : World, (Op.shift .shl .i64 2 .i64 6).run Tryd.prog w = .ok (.int .i64 128) w := fun _ => rfl
  have s2 : IntKind.i64.wrap 128 = 128 := by decide
  have e1 : IntKind.i64.wrap (n + 128) = n + 128 := IntWalk.i64_in _ (by omega)
  have e2 : IntKind.i64.wrap (n + 128 + 6) = n + 134 := (IntWalk.i64_in _ (by omega)).trans (by omega)
  have e3 : IntKind.i64.wrap (n + 134 + 1) = n + 135 := (IntWalk.i64_in _ (by omega)).trans (by omega)
  have e4 : IntKind.i64.wrap (44 * (n + 135)) = 44 * (n + 135) := IntWalk.i64_in _ (by omega)
  have WN := hidden (fun w => rwin_6 w)
  have K0 := hidden (drew_blW w)
  simp only [pmW, wdW, exW]
  go_enter Tryd.func34, Tryd.ntmps34
  go_wp2_with fail
  go_region_held3 (fun w' => Below w.heap.size w w') (first | with_reducible exact K0.out | with_reducible exact hk.out)
    (first | (go_at_call 55; with_reducible refine (WN.out _).mono ?_; rintro e wn ⟨rfl, hb⟩; have hk := hidden (bl_trans (show Below w.heap.size w _ by assumption) hb)))
  all_goals (go_wp2_with fail; refine bodyPost_ret (v := .int .i64 (44 * (n + 135))) (by simp [results, Tryd.results34, go_sem]) rfl ⟨rfl, hk.out⟩)
set_option maxRecDepth 100000 in
set_option maxHeartbeats 4000000 in
theorem rwin_7 (w : World) :
    Calls Tryd.prog 55 #[.int .i64 7] w fun e w' => e = .returned (.int .i64 38) ∧ Below w.heap.size w w' := by
  go_enter Tryd.func55, Tryd.ntmps55
  go_wp2_with fail
  refine bodyPost_ret (v := .int .i64 38) (by simp [results, Tryd.results55, go_sem]) rfl ⟨rfl, Below.refl _ _⟩
set_option maxRecDepth 100000 in
set_option maxHeartbeats 4000000 in
theorem rpm_7 (n : Int) (hn : 0 ≤ n ∧ n ≤ 8192) (w : World) :
    Calls Tryd.prog 34 #[.int .i64 n, .int .i64 (7 : Nat)] w fun e w' => e = .returned (.int .i64 (pmW n 7)) ∧ Below w.heap.size w w' := by
  have s1 : ∀ w : World, (Op.shift .shl .i64 2 .i64 7).run Tryd.prog w = .ok (.int .i64 256) w := fun _ => rfl
  have s2 : IntKind.i64.wrap 256 = 256 := by decide
  have e1 : IntKind.i64.wrap (n + 256) = n + 256 := IntWalk.i64_in _ (by omega)
  have e2 : IntKind.i64.wrap (n + 256 + 7) = n + 263 := (IntWalk.i64_in _ (by omega)).trans (by omega)
  have e3 : IntKind.i64.wrap (n + 263 + 1) = n + 264 := (IntWalk.i64_in _ (by omega)).trans (by omega)
  have e4 : IntKind.i64.wrap (38 * (n + 264)) = 38 * (n + 264) := IntWalk.i64_in _ (by omega)
  have WN := hidden (fun w => rwin_7 w)
  have K0 := hidden (drew_blW w)
  simp only [pmW, wdW, exW]
  go_enter Tryd.func34, Tryd.ntmps34
  go_wp2_with fail
  go_region_held3 (fun w' => Below w.heap.size w w') (first | with_reducible exact K0.out | with_reducible exact hk.out)
    (first | (go_at_call 55; with_reducible refine (WN.out _).mono ?_; rintro e wn ⟨rfl, hb⟩; have hk := hidden (bl_trans (show Below w.heap.size w _ by assumption) hb)))
  all_goals (go_wp2_with fail; refine bodyPost_ret (v := .int .i64 (38 * (n + 264))) (by simp [results, Tryd.results34, go_sem]) rfl ⟨rfl, hk.out⟩)
set_option maxRecDepth 100000 in
set_option maxHeartbeats 4000000 in
theorem rwin_8 (w : World) :
    Calls Tryd.prog 55 #[.int .i64 8] w fun e w' => e = .returned (.int .i64 33) ∧ Below w.heap.size w w' := by
  go_enter Tryd.func55, Tryd.ntmps55
  go_wp2_with fail
  refine bodyPost_ret (v := .int .i64 33) (by simp [results, Tryd.results55, go_sem]) rfl ⟨rfl, Below.refl _ _⟩
set_option maxRecDepth 100000 in
set_option maxHeartbeats 4000000 in
theorem rpm_8 (n : Int) (hn : 0 ≤ n ∧ n ≤ 8192) (w : World) :
    Calls Tryd.prog 34 #[.int .i64 n, .int .i64 (8 : Nat)] w fun e w' => e = .returned (.int .i64 (pmW n 8)) ∧ Below w.heap.size w w' := by
  have s1 : ∀ w : World, (Op.shift .shl .i64 2 .i64 8).run Tryd.prog w = .ok (.int .i64 512) w := fun _ => rfl
  have s2 : IntKind.i64.wrap 512 = 512 := by decide
  have e1 : IntKind.i64.wrap (n + 512) = n + 512 := IntWalk.i64_in _ (by omega)
  have e2 : IntKind.i64.wrap (n + 512 + 8) = n + 520 := (IntWalk.i64_in _ (by omega)).trans (by omega)
  have e3 : IntKind.i64.wrap (n + 520 + 1) = n + 521 := (IntWalk.i64_in _ (by omega)).trans (by omega)
  have e4 : IntKind.i64.wrap (33 * (n + 521)) = 33 * (n + 521) := IntWalk.i64_in _ (by omega)
  have WN := hidden (fun w => rwin_8 w)
  have K0 := hidden (drew_blW w)
  simp only [pmW, wdW, exW]
  go_enter Tryd.func34, Tryd.ntmps34
  go_wp2_with fail
  go_region_held3 (fun w' => Below w.heap.size w w') (first | with_reducible exact K0.out | with_reducible exact hk.out)
    (first | (go_at_call 55; with_reducible refine (WN.out _).mono ?_; rintro e wn ⟨rfl, hb⟩; have hk := hidden (bl_trans (show Below w.heap.size w _ by assumption) hb)))
  all_goals (go_wp2_with fail; refine bodyPost_ret (v := .int .i64 (33 * (n + 521))) (by simp [results, Tryd.results34, go_sem]) rfl ⟨rfl, hk.out⟩)
set_option maxRecDepth 100000 in
set_option maxHeartbeats 4000000 in
theorem rwin_9 (w : World) :
    Calls Tryd.prog 55 #[.int .i64 9] w fun e w' => e = .returned (.int .i64 30) ∧ Below w.heap.size w w' := by
  go_enter Tryd.func55, Tryd.ntmps55
  go_wp2_with fail
  refine bodyPost_ret (v := .int .i64 30) (by simp [results, Tryd.results55, go_sem]) rfl ⟨rfl, Below.refl _ _⟩
set_option maxRecDepth 100000 in
set_option maxHeartbeats 4000000 in
theorem rpm_9 (n : Int) (hn : 0 ≤ n ∧ n ≤ 8192) (w : World) :
    Calls Tryd.prog 34 #[.int .i64 n, .int .i64 (9 : Nat)] w fun e w' => e = .returned (.int .i64 (pmW n 9)) ∧ Below w.heap.size w w' := by
  have s1 : ∀ w : World, (Op.shift .shl .i64 2 .i64 9).run Tryd.prog w = .ok (.int .i64 1024) w := fun _ => rfl
  have s2 : IntKind.i64.wrap 1024 = 1024 := by decide
  have e1 : IntKind.i64.wrap (n + 1024) = n + 1024 := IntWalk.i64_in _ (by omega)
  have e2 : IntKind.i64.wrap (n + 1024 + 9) = n + 1033 := (IntWalk.i64_in _ (by omega)).trans (by omega)
  have e3 : IntKind.i64.wrap (n + 1033 + 1) = n + 1034 := (IntWalk.i64_in _ (by omega)).trans (by omega)
  have e4 : IntKind.i64.wrap (30 * (n + 1034)) = 30 * (n + 1034) := IntWalk.i64_in _ (by omega)
  have WN := hidden (fun w => rwin_9 w)
  have K0 := hidden (drew_blW w)
  simp only [pmW, wdW, exW]
  go_enter Tryd.func34, Tryd.ntmps34
  go_wp2_with fail
  go_region_held3 (fun w' => Below w.heap.size w w') (first | with_reducible exact K0.out | with_reducible exact hk.out)
    (first | (go_at_call 55; with_reducible refine (WN.out _).mono ?_; rintro e wn ⟨rfl, hb⟩; have hk := hidden (bl_trans (show Below w.heap.size w _ by assumption) hb)))
  all_goals (go_wp2_with fail; refine bodyPost_ret (v := .int .i64 (30 * (n + 1034))) (by simp [results, Tryd.results34, go_sem]) rfl ⟨rfl, hk.out⟩)
set_option maxRecDepth 100000 in
set_option maxHeartbeats 4000000 in
theorem rwin_10 (w : World) :
    Calls Tryd.prog 55 #[.int .i64 10] w fun e w' => e = .returned (.int .i64 27) ∧ Below w.heap.size w w' := by
  go_enter Tryd.func55, Tryd.ntmps55
  go_wp2_with fail
  refine bodyPost_ret (v := .int .i64 27) (by simp [results, Tryd.results55, go_sem]) rfl ⟨rfl, Below.refl _ _⟩
set_option maxRecDepth 100000 in
set_option maxHeartbeats 4000000 in
theorem rpm_10 (n : Int) (hn : 0 ≤ n ∧ n ≤ 8192) (w : World) :
    Calls Tryd.prog 34 #[.int .i64 n, .int .i64 (10 : Nat)] w fun e w' => e = .returned (.int .i64 (pmW n 10)) ∧ Below w.heap.size w w' := by
  have s1 : ∀ w : World, (Op.shift .shl .i64 2 .i64 10).run Tryd.prog w = .ok (.int .i64 2048) w := fun _ => rfl
  have s2 : IntKind.i64.wrap 2048 = 2048 := by decide
  have e1 : IntKind.i64.wrap (n + 2048) = n + 2048 := IntWalk.i64_in _ (by omega)
  have e2 : IntKind.i64.wrap (n + 2048 + 10) = n + 2058 := (IntWalk.i64_in _ (by omega)).trans (by omega)
  have e3 : IntKind.i64.wrap (n + 2058 + 1) = n + 2059 := (IntWalk.i64_in _ (by omega)).trans (by omega)
  have e4 : IntKind.i64.wrap (27 * (n + 2059)) = 27 * (n + 2059) := IntWalk.i64_in _ (by omega)
  have WN := hidden (fun w => rwin_10 w)
  have K0 := hidden (drew_blW w)
  simp only [pmW, wdW, exW]
  go_enter Tryd.func34, Tryd.ntmps34
  go_wp2_with fail
  go_region_held3 (fun w' => Below w.heap.size w w') (first | with_reducible exact K0.out | with_reducible exact hk.out)
    (first | (go_at_call 55; with_reducible refine (WN.out _).mono ?_; rintro e wn ⟨rfl, hb⟩; have hk := hidden (bl_trans (show Below w.heap.size w _ by assumption) hb)))
  all_goals (go_wp2_with fail; refine bodyPost_ret (v := .int .i64 (27 * (n + 2059))) (by simp [results, Tryd.results34, go_sem]) rfl ⟨rfl, hk.out⟩)
set_option maxRecDepth 100000 in
set_option maxHeartbeats 4000000 in
theorem rwin_11 (w : World) :
    Calls Tryd.prog 55 #[.int .i64 11] w fun e w' => e = .returned (.int .i64 25) ∧ Below w.heap.size w w' := by
  go_enter Tryd.func55, Tryd.ntmps55
  go_wp2_with fail
  refine bodyPost_ret (v := .int .i64 25) (by simp [results, Tryd.results55, go_sem]) rfl ⟨rfl, Below.refl _ _⟩
set_option maxRecDepth 100000 in
set_option maxHeartbeats 4000000 in
theorem rpm_11 (n : Int) (hn : 0 ≤ n ∧ n ≤ 8192) (w : World) :
    Calls Tryd.prog 34 #[.int .i64 n, .int .i64 (11 : Nat)] w fun e w' => e = .returned (.int .i64 (pmW n 11)) ∧ Below w.heap.size w w' := by
  have s1 : ∀ w : World, (Op.shift .shl .i64 2 .i64 11).run Tryd.prog w = .ok (.int .i64 4096) w := fun _ => rfl
  have s2 : IntKind.i64.wrap 4096 = 4096 := by decide
  have e1 : IntKind.i64.wrap (n + 4096) = n + 4096 := IntWalk.i64_in _ (by omega)
  have e2 : IntKind.i64.wrap (n + 4096 + 11) = n + 4107 := (IntWalk.i64_in _ (by omega)).trans (by omega)
  have e3 : IntKind.i64.wrap (n + 4107 + 1) = n + 4108 := (IntWalk.i64_in _ (by omega)).trans (by omega)
  have e4 : IntKind.i64.wrap (25 * (n + 4108)) = 25 * (n + 4108) := IntWalk.i64_in _ (by omega)
  have WN := hidden (fun w => rwin_11 w)
  have K0 := hidden (drew_blW w)
  simp only [pmW, wdW, exW]
  go_enter Tryd.func34, Tryd.ntmps34
  go_wp2_with fail
  go_region_held3 (fun w' => Below w.heap.size w w') (first | with_reducible exact K0.out | with_reducible exact hk.out)
    (first | (go_at_call 55; with_reducible refine (WN.out _).mono ?_; rintro e wn ⟨rfl, hb⟩; have hk := hidden (bl_trans (show Below w.heap.size w _ by assumption) hb)))
  all_goals (go_wp2_with fail; refine bodyPost_ret (v := .int .i64 (25 * (n + 4108))) (by simp [results, Tryd.results34, go_sem]) rfl ⟨rfl, hk.out⟩)
set_option maxRecDepth 100000 in
set_option maxHeartbeats 4000000 in
theorem rwin_12 (w : World) :
    Calls Tryd.prog 55 #[.int .i64 12] w fun e w' => e = .returned (.int .i64 23) ∧ Below w.heap.size w w' := by
  go_enter Tryd.func55, Tryd.ntmps55
  go_wp2_with fail
  refine bodyPost_ret (v := .int .i64 23) (by simp [results, Tryd.results55, go_sem]) rfl ⟨rfl, Below.refl _ _⟩
set_option maxRecDepth 100000 in
set_option maxHeartbeats 4000000 in
theorem rpm_12 (n : Int) (hn : 0 ≤ n ∧ n ≤ 8192) (w : World) :
    Calls Tryd.prog 34 #[.int .i64 n, .int .i64 (12 : Nat)] w fun e w' => e = .returned (.int .i64 (pmW n 12)) ∧ Below w.heap.size w w' := by
  have s1 : ∀ w : World, (Op.shift .shl .i64 2 .i64 12).run Tryd.prog w = .ok (.int .i64 8192) w := fun _ => rfl
  have s2 : IntKind.i64.wrap 8192 = 8192 := by decide
  have e1 : IntKind.i64.wrap (n + 8192) = n + 8192 := IntWalk.i64_in _ (by omega)
  have e2 : IntKind.i64.wrap (n + 8192 + 12) = n + 8204 := (IntWalk.i64_in _ (by omega)).trans (by omega)
  have e3 : IntKind.i64.wrap (n + 8204 + 1) = n + 8205 := (IntWalk.i64_in _ (by omega)).trans (by omega)
  have e4 : IntKind.i64.wrap (23 * (n + 8205)) = 23 * (n + 8205) := IntWalk.i64_in _ (by omega)
  have WN := hidden (fun w => rwin_12 w)
  have K0 := hidden (drew_blW w)
  simp only [pmW, wdW, exW]
  go_enter Tryd.func34, Tryd.ntmps34
  go_wp2_with fail
  go_region_held3 (fun w' => Below w.heap.size w w') (first | with_reducible exact K0.out | with_reducible exact hk.out)
    (first | (go_at_call 55; with_reducible refine (WN.out _).mono ?_; rintro e wn ⟨rfl, hb⟩; have hk := hidden (bl_trans (show Below w.heap.size w _ by assumption) hb)))
  all_goals (go_wp2_with fail; refine bodyPost_ret (v := .int .i64 (23 * (n + 8205))) (by simp [results, Tryd.results34, go_sem]) rfl ⟨rfl, hk.out⟩)
theorem rpm_any (n : Int) (hn : 0 ≤ n ∧ n ≤ 8192) (w : World) (k : Nat) (h1 : 1 ≤ k) (h12 : k ≤ 12) :
    Calls Tryd.prog 34 #[.int .i64 n, .int .i64 k] w fun e w' => e = .returned (.int .i64 (pmW n k)) ∧ Below w.heap.size w w' :=
  twelve (P := fun k => Calls Tryd.prog 34 #[.int .i64 n, .int .i64 k] w fun e w' => e = .returned (.int .i64 (pmW n k)) ∧ Below w.heap.size w w') (rpm_1 n hn w) (rpm_2 n hn w) (rpm_3 n hn w) (rpm_4 n hn w) (rpm_5 n hn w) (rpm_6 n hn w) (rpm_7 n hn w) (rpm_8 n hn w) (rpm_9 n hn w) (rpm_10 n hn w) (rpm_11 n hn w) (rpm_12 n hn w) k h1 h12
end Go.Proofs.YtpblcnefihhhoaaDoor
