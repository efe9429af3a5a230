import Derived.Test.YtpblcnefihhhoaaDoorSsum
import Derived.Deep.RegionHeld3
import Derived.Deep.DeepCutAuto
import Derived.Deep.DeepMust
import Derived.Deep.MidRow
import Derived.Deep.OwnRows
import Derived.Laws.OwnMore
import Derived.Laws.AppendOwn
import Derived.Laws.AppendOwnNone
import Derived.Maps.AppendAt
import Derived.OwnWalk
namespace Go.Proofs.YtpblcnefihhhoaaDoor
open Go.RowKit
theorem drew_blW (w : World) : Below w.heap.size w w.drew := ⟨rfl, rfl, rfl, Nat.le_refl _, fun _ _ => rfl⟩
/-- the most operations for n terms, digits of w bits -/
def wdW : Nat → Int
  | 1 => 257 | 2 => 129 | 3 => 87 | 4 => 65 | 5 => 53 | 6 => 44 | 7 => 38 | 8 => 33 | 9 => 30 | 10 => 27 | 11 => 25 | _ => 23
def exW : Nat → Int
  | 1 => 6 | 2 => 11 | 3 => 20 | 4 => 37 | 5 => 70 | 6 => 135 | 7 => 264 | 8 => 521 | 9 => 1034 | 10 => 2059 | 11 => 4108 | _ => 8205
def pmW (n : Int) (w : Nat) : Int := wdW w * (n + exW w)
def loW (n : Int) : Nat → Int
  | 0 => 0
  | 1 => pmW n 1
  | w + 2 => if pmW n (w + 2) < loW n (w + 1) then pmW n (w + 2) else loW n (w + 1)
def bdW (n : Int) : Int := if n < 0 ∨ 8192 < n then 0 else loW n 12
theorem loW_next (n : Int) (w : Nat) (h : 1 ≤ w) : loW n (w + 1) = if pmW n (w + 1) < loW n w then pmW n (w + 1) else loW n w := by
  obtain ⟨v, rfl⟩ : ∃ v, w = v + 1 := ⟨w - 1, by omega⟩
  rfl
theorem twelve {P : Nat → Prop} (h1 : P 1) (h2 : P 2) (h3 : P 3) (h4 : P 4) (h5 : P 5) (h6 : P 6) (h7 : P 7) (h8 : P 8) (h9 : P 9) (h10 : P 10) (h11 : P 11) (h12 : P 12) (k : Nat) (a : 1 ≤ k) (b : k ≤ 12) : P k := by
  have : k = 1 ∨ k = 2 ∨ k = 3 ∨ k = 4 ∨ k = 5 ∨ k = 6 ∨ k = 7 ∨ k = 8 ∨ k = 9 ∨ k = 10 ∨ k = 11 ∨ k = 12 := by omega
  rcases this with rfl | rfl | rfl | rfl | rfl | rfl | rfl | rfl | rfl | rfl | rfl | rfl <;> assumption

set_option maxRecDepth 100000 in
set_option maxHeartbeats 4000000 in
theorem bclo_1 (n : Int) (hn : 0 ≤ n ∧ n ≤ 8192) (X : Nat) (w : World) (hX : w.cell? ⟨X, 0, none⟩ = some (.int .i64 n)) :
    Calls Tryd.prog 33 #[.int .i64 (1 : Nat), .pointer (some ⟨X, 0, none⟩)] w fun e w' => e = .returned (.int .i64 (pmW n 1)) ∧ Below w.heap.size w w' := by
  have s0 : IntKind.i64.wrap 2 = 2 := by decide
  have s1 : ∀ w : World, (Op.shift .shl .i64 1 .i64 2).run Tryd.prog w = .ok (.int .i64 4) w := fun _ => rfl
  have s2 : IntKind.i64.wrap 4 = 4 := by decide
  have e1 : IntKind.i64.wrap (n + 4) = n + 4 := IntWalk.i64_in _ (by omega)
  have e2 : IntKind.i64.wrap (n + 4 + 1) = n + 5 := (IntWalk.i64_in _ (by omega)).trans (by omega)
  have e3 : IntKind.i64.wrap (n + 5 + 1) = n + 6 := (IntWalk.i64_in _ (by omega)).trans (by omega)
  have e4 : IntKind.i64.wrap (257 * (n + 6)) = 257 * (n + 6) := IntWalk.i64_in _ (by omega)
  simp only [pmW, wdW, exW]
  go_enter Tryd.func33, Tryd.ntmps33
  go_wp2_with fail
  go_region_with fail
  all_goals (go_wp2_with fail; refine bodyPost_ret (v := .int .i64 (257 * (n + 6))) (by simp [results, Tryd.results33, go_sem]) rfl ⟨rfl, drew_blW w⟩)
set_option maxRecDepth 100000 in
set_option maxHeartbeats 4000000 in
theorem bclo_2 (n : Int) (hn : 0 ≤ n ∧ n ≤ 8192) (X : Nat) (w : World) (hX : w.cell? ⟨X, 0, none⟩ = some (.int .i64 n)) :
    Calls Tryd.prog 33 #[.int .i64 (2 : Nat), .pointer (some ⟨X, 0, none⟩)] w fun e w' => e = .returned (.int .i64 (pmW n 2)) ∧ Below w.heap.size w w' := by
  have s0 : IntKind.i64.wrap 3 = 3 := by decide
  have s1 : ∀ w : World, (Op.shift .shl .i64 1 .i64 3).run Tryd.prog w = .ok (.int .i64 8) w := fun _ => rfl
  have s2 : IntKind.i64.wrap 8 = 8 := by decide
  have e1 : IntKind.i64.wrap (n + 8) = n + 8 := IntWalk.i64_in _ (by omega)
  have e2 : IntKind.i64.wrap (n + 8 + 2) = n + 10 := (IntWalk.i64_in _ (by omega)).trans (by omega)
  have e3 : IntKind.i64.wrap (n + 10 + 1) = n + 11 := (IntWalk.i64_in _ (by omega)).trans (by omega)
  have e4 : IntKind.i64.wrap (129 * (n + 11)) = 129 * (n + 11) := IntWalk.i64_in _ (by omega)
  simp only [pmW, wdW, exW]
  go_enter Tryd.func33, Tryd.ntmps33
  go_wp2_with fail
  go_region_with fail
  all_goals (go_wp2_with fail; refine bodyPost_ret (v := .int .i64 (129 * (n + 11))) (by simp [results, Tryd.results33, go_sem]) rfl ⟨rfl, drew_blW w⟩)
set_option maxRecDepth 100000 in
set_option maxHeartbeats 4000000 in
theorem bclo_3 (n : Int) (hn : 0 ≤ n ∧ n ≤ 8192) (X : Nat) (w : World) (hX : w.cell? ⟨X, 0, none⟩ = some (.int .i64 n)) :
    Calls Tryd.prog 33 #[.int .i64 (3 : Nat), .pointer (some ⟨X, 0, none⟩)] w fun e w' => e = .returned (.int .i64 (pmW n 3)) ∧ Below w.heap.size w w' := by
  have s0 : IntKind.i64.wrap 4 = 4 := by decide
  have s1 : ∀ w : World, (Op.shift .shl .i64 1 .i64 4).run Tryd.prog w = .ok (.int .i64 16) w := fun _ => rfl
  have s2 : IntKind.i64.wrap 16 = 16 := by decide
  have e1 : IntKind.i64.wrap (n + 16) = n + 16 := IntWalk.i64_in _ (by omega)
  have e2 : IntKind.i64.wrap (n + 16 + 3) = n + 19 := (IntWalk.i64_in _ (by omega)).trans (by omega)
  have e3 : IntKind.i64.wrap (n + 19 + 1) = n + 20 := (IntWalk.i64_in _ (by omega)).trans (by omega)
  have e4 : IntKind.i64.wrap (87 * (n + 20)) = 87 * (n + 20) := IntWalk.i64_in _ (by omega)
  simp only [pmW, wdW, exW]
  go_enter Tryd.func33, Tryd.ntmps33
  go_wp2_with fail
  go_region_with fail
  all_goals (go_wp2_with fail; refine bodyPost_ret (v := .int .i64 (87 * (n + 20))) (by simp [results, Tryd.results33, go_sem]) rfl ⟨rfl, drew_blW w⟩)
set_option maxRecDepth 100000 in
set_option maxHeartbeats 4000000 in
theorem bclo_4 (n : Int) (hn : 0 ≤ n ∧ n ≤ 8192) (X : Nat) (w : World) (hX : w.cell? ⟨X, 0, none⟩ = some (.int .i64 n)) :
    Calls Tryd.prog 33 #[.int .i64 (4 : Nat), .pointer (some ⟨X, 0, none⟩)] w fun e w' => e = .returned (.int .i64 (pmW n 4)) ∧ Below w.heap.size w w' := by
  have s0 : IntKind.i64.wrap 5 = 5 := by decide
  have s1 : ∀ w : World, (Op.shift .shl .i64 1 .i64 5).run Tryd.prog w = .ok (.int .i64 32) w := fun _ => rfl
  have s2 : IntKind.i64.wrap 32 = 32 := by decide
  have e1 : IntKind.i64.wrap (n + 32) = n + 32 := IntWalk.i64_in _ (by omega)
  have e2 : IntKind.i64.wrap (n + 32 + 4) = n + 36 := (IntWalk.i64_in _ (by omega)).trans (by omega)
  have e3 : IntKind.i64.wrap (n + 36 + 1) = n + 37 := (IntWalk.i64_in _ (by omega)).trans (by omega)
  have e4 : IntKind.i64.wrap (65 * (n + 37)) = 65 * (n + 37) := IntWalk.i64_in _ (by omega)
  simp only [pmW, wdW, exW]
  go_enter Tryd.func33, Tryd.ntmps33
  go_wp2_with fail
  go_region_with fail
  all_goals (go_wp2_with fail; refine bodyPost_ret (v := .int .i64 (65 * (n + 37))) (by simp [results, Tryd.results33, go_sem]) rfl ⟨rfl, drew_blW w⟩)
set_option maxRecDepth 100000 in
set_option maxHeartbeats 4000000 in
theorem bclo_5 (n : Int) (hn : 0 ≤ n ∧ n ≤ 8192) (X : Nat) (w : World) (hX : w.cell? ⟨X, 0, none⟩ = some (.int .i64 n)) :
    Calls Tryd.prog 33 #[.int .i64 (5 : Nat), .pointer (some ⟨X, 0, none⟩)] w fun e w' => e = .returned (.int .i64 (pmW n 5)) ∧ Below w.heap.size w w' := by
  have s0 : IntKind.i64.wrap 6 = 6 := by decide
  have s1 : ∀ w : World, (Op.shift .shl .i64 1 .i64 6).run Tryd.prog w = .ok (.int .i64 64) w := fun _ => rfl
  have s2 : IntKind.i64.wrap 64 = 64 := by decide
  have e1 : IntKind.i64.wrap (n + 64) = n + 64 := IntWalk.i64_in _ (by omega)
  have e2 : IntKind.i64.wrap (n + 64 + 5) = n + 69 := (IntWalk.i64_in _ (by omega)).trans (by omega)
  have e3 : IntKind.i64.wrap (n + 69 + 1) = n + 70 := (IntWalk.i64_in _ (by omega)).trans (by omega)
  have e4 : IntKind.i64.wrap (53 * (n + 70)) = 53 * (n + 70) := IntWalk.i64_in _ (by omega)
  simp only [pmW, wdW, exW]
  go_enter Tryd.func33, Tryd.ntmps33
  go_wp2_with fail
  go_region_with fail
  all_goals (go_wp2_with fail; refine bodyPost_ret (v := .int .i64 (53 * (n + 70))) (by simp [results, Tryd.results33, go_sem]) rfl ⟨rfl, drew_blW w⟩)
set_option maxRecDepth 100000 in
set_option maxHeartbeats 4000000 in
theorem bclo_6 (n : Int) (hn : 0 ≤ n ∧ n ≤ 8192) (X : Nat) (w : World) (hX : w.cell? ⟨X, 0, none⟩ = some (.int .i64 n)) :
    Calls Tryd.prog 33 #[.int .i64 (6 : Nat), .pointer (some ⟨X, 0, none⟩)] w fun e w' => e = .returned (.int .i64 (pmW n 6)) ∧ Below w.heap.size w w' := by
  have s0 : IntKind.i64.wrap 7 = 7 := by decide
  have s1 : ∀ w : World, (Op.shift .shl .i64 1 .i64 7).run Tryd.prog w = .ok (.int .i64 128) w := fun _ => rfl
  have s2 : IntKind.i64.wrap 128 = 128 := by decide
  have e1 : IntKind.i64.wrap (n + 128) = n + 128 := IntWalk.i64_in _ (by omega)
  have e2 : IntKind.i64.wrap (n + 128 + 6) = n + 134 := (IntWalk.i64_in _ (by omega)).trans (by omega)
  have e3 : IntKind.i64.wrap (n + 134 + 1) = n + 135 := (IntWalk.i64_in _ (by omega)).trans (by omega)
  have e4 : IntKind.i64.wrap (44 * (n + 135)) = 44 * (n + 135) := IntWalk.i64_in _ (by omega)
  simp only [pmW, wdW, exW]
  go_enter Tryd.func33, Tryd.ntmps33
  go_wp2_with fail
  go_region_with fail
  all_goals (go_wp2_with fail; refine bodyPost_ret (v := .int .i64 (44 * (n + 135))) (by simp [results, Tryd.results33, go_sem]) rfl ⟨rfl, drew_blW w⟩)
set_option maxRecDepth 100000 in
set_option maxHeartbeats 4000000 in
theorem bclo_7 (n : Int) (hn : 0 ≤ n ∧ n ≤ 8192) (X : Nat) (w : World) (hX : w.cell? ⟨X, 0, none⟩ = some (.int .i64 n)) :
    Calls Tryd.prog 33 #[.int .i64 (7 : Nat), .pointer (some ⟨X, 0, none⟩)] w fun e w' => e = .returned (.int .i64 (pmW n 7)) ∧ Below w.heap.size w w' := by
  have s0 : IntKind.i64.wrap 8 = 8 := by decide
  have s1 : ∀ w : World, (Op.shift .shl .i64 1 .i64 8).run Tryd.prog w = .ok (.int .i64 256) w := fun _ => rfl
  have s2 : IntKind.i64.wrap 256 = 256 := by decide
  have e1 : IntKind.i64.wrap (n + 256) = n + 256 := IntWalk.i64_in _ (by omega)
  have e2 : IntKind.i64.wrap (n + 256 + 7) = n + 263 := (IntWalk.i64_in _ (by omega)).trans (by omega)
  have e3 : IntKind.i64.wrap (n + 263 + 1) = n + 264 := (IntWalk.i64_in _ (by omega)).trans (by omega)
  have e4 : IntKind.i64.wrap (38 * (n + 264)) = 38 * (n + 264) := IntWalk.i64_in _ (by omega)
  simp only [pmW, wdW, exW]
  go_enter Tryd.func33, Tryd.ntmps33
  go_wp2_with fail
  go_region_with fail
  all_goals (go_wp2_with fail; refine bodyPost_ret (v := .int .i64 (38 * (n + 264))) (by simp [results, Tryd.results33, go_sem]) rfl ⟨rfl, drew_blW w⟩)
set_option maxRecDepth 100000 in
set_option maxHeartbeats 4000000 in
theorem bclo_8 (n : Int) (hn : 0 ≤ n ∧ n ≤ 8192) (X : Nat) (w : World) (hX : w.cell? ⟨X, 0, none⟩ = some (.int .i64 n)) :
    Calls Tryd.prog 33 #[.int .i64 (8 : Nat), .pointer (some ⟨X, 0, none⟩)] w fun e w' => e = .returned (.int .i64 (pmW n 8)) ∧ Below w.heap.size w w' := by
  have s0 : IntKind.i64.wrap 9 = 9 := by decide
  have s1 : ∀ w : World, (Op.shift .shl .i64 1 .i64 9).run Tryd.prog w = .ok (.int .i64 512) w := fun _ => rfl
  have s2 : IntKind.i64.wrap 512 = 512 := by decide
  have e1 : IntKind.i64.wrap (n + 512) = n + 512 := IntWalk.i64_in _ (by omega)
  have e2 : IntKind.i64.wrap (n + 512 + 8) = n + 520 := (IntWalk.i64_in _ (by omega)).trans (by omega)
  have e3 : IntKind.i64.wrap (n + 520 + 1) = n + 521 := (IntWalk.i64_in _ (by omega)).trans (by omega)
  have e4 : IntKind.i64.wrap (33 * (n + 521)) = 33 * (n + 521) := IntWalk.i64_in _ (by omega)
  simp only [pmW, wdW, exW]
  go_enter Tryd.func33, Tryd.ntmps33
  go_wp2_with fail
  go_region_with fail
  all_goals (go_wp2_with fail; refine bodyPost_ret (v := .int .i64 (33 * (n + 521))) (by simp [results, Tryd.results33, go_sem]) rfl ⟨rfl, drew_blW w⟩)
set_option maxRecDepth 100000 in
set_option maxHeartbeats 4000000 in
theorem bclo_9 (n : Int) (hn : 0 ≤ n ∧ n ≤ 8192) (X : Nat) (w : World) (hX : w.cell? ⟨X, 0, none⟩ = some (.int .i64 n)) :
    Calls Tryd.prog 33 #[.int .i64 (9 : Nat), .pointer (some ⟨X, 0, none⟩)] w fun e w' => e = .returned (.int .i64 (pmW n 9)) ∧ Below w.heap.size w w' := by
  have s0 : IntKind.i64.wrap 10 = 10 := by decide
  have s1 : ∀ w : World, (Op.shift .shl .i64 1 .i64 10).run Tryd.prog w = .ok (.int .i64 1024) w := fun _ => rfl
  have s2 : IntKind.i64.wrap 1024 = 1024 := by decide
  have e1 : IntKind.i64.wrap (n + 1024) = n + 1024 := IntWalk.i64_in _ (by omega)
  have e2 : IntKind.i64.wrap (n + 1024 + 9) = n + 1033 := (IntWalk.i64_in _ (by omega)).trans (by omega)
  have e3 : IntKind.i64.wrap (n + 1033 + 1) = n + 1034 := (IntWalk.i64_in _ (by omega)).trans (by omega)
  have e4 : IntKind.i64.wrap (30 * (n + 1034)) = 30 * (n + 1034) := IntWalk.i64_in _ (by omega)
  simp only [pmW, wdW, exW]
  go_enter Tryd.func33, Tryd.ntmps33
  go_wp2_with fail
  go_region_with fail
  all_goals (go_wp2_with fail; refine bodyPost_ret (v := .int .i64 (30 * (n + 1034))) (by simp [results, Tryd.results33, go_sem]) rfl ⟨rfl, drew_blW w⟩)
set_option maxRecDepth 100000 in
set_option maxHeartbeats 4000000 in
theorem bclo_10 (n : Int) (hn : 0 ≤ n ∧ n ≤ 8192) (X : Nat) (w : World) (hX : w.cell? ⟨X, 0, none⟩ = some (.int .i64 n)) :
    Calls Tryd.prog 33 #[.int .i64 (10 : Nat), .pointer (some ⟨X, 0, none⟩)] w fun e w' => e = .returned (.int .i64 (pmW n 10)) ∧ Below w.heap.size w w' := by
  have s0 : IntKind.i64.wrap 11 = 11 := by decide
  have s1 : ∀ w : World, (Op.shift .shl .i64 1 .i64 11).run Tryd.prog w = .ok (.int .i64 2048) w := fun _ => rfl
  have s2 : IntKind.i64.wrap 2048 = 2048 := by decide
  have e1 : IntKind.i64.wrap (n + 2048) = n + 2048 := IntWalk.i64_in _ (by omega)
  have e2 : IntKind.i64.wrap (n + 2048 + 10) = n + 2058 := (IntWalk.i64_in _ (by omega)).trans (by omega)
  have e3 : IntKind.i64.wrap (n + 2058 + 1) = n + 2059 := (IntWalk.i64_in _ (by omega)).trans (by omega)
  have e4 : IntKind.i64.wrap (27 * (n + 2059)) = 27 * (n + 2059) := IntWalk.i64_in _ (by omega)
  simp only [pmW, wdW, exW]
  go_enter Tryd.func33, Tryd.ntmps33
  go_wp2_with fail
  go_region_with fail
  all_goals (go_wp2_with fail; refine bodyPost_ret (v := .int .i64 (27 * (n + 2059))) (by simp [results, Tryd.results33, go_sem]) rfl ⟨rfl, drew_blW w⟩)
set_option maxRecDepth 100000 in
set_option maxHeartbeats 4000000 in
theorem bclo_11 (n : Int) (hn : 0 ≤ n ∧ n ≤ 8192) (X : Nat) (w : World) (hX : w.cell? ⟨X, 0, none⟩ = some (.int .i64 n)) :
    Calls Tryd.prog 33 #[.int .i64 (11 : Nat), .pointer (some ⟨X, 0, none⟩)] w fun e w' => e = .returned (.int .i64 (pmW n 11)) ∧ Below w.heap.size w w' := by
  have s0 : IntKind.i64.wrap 12 = 12 := by decide
  have s1 : ∀ w : World, (Op.shift .shl .i64 1 .i64 12).run Tryd.prog w = .ok (.int .i64 4096) w := fun _ => rfl
  have s2 : IntKind.i64.wrap 4096 = 4096 := by decide
  have e1 : IntKind.i64.wrap (n + 4096) = n + 4096 := IntWalk.i64_in _ (by omega)
  have e2 : IntKind.i64.wrap (n + 4096 + 11) = n + 4107 := (IntWalk.i64_in _ (by omega)).trans (by omega)
  have e3 : IntKind.i64.wrap (n + 4107 + 1) = n + 4108 := (IntWalk.i64_in _ (by omega)).trans (by omega)
  have e4 : IntKind.i64.wrap (25 * (n + 4108)) = 25 * (n + 4108) := IntWalk.i64_in _ (by omega)
  simp only [pmW, wdW, exW]
  go_enter Tryd.func33, Tryd.ntmps33
  go_wp2_with fail
  go_region_with fail
  all_goals (go_wp2_with fail; refine bodyPost_ret (v := .int .i64 (25 * (n + 4108))) (by simp [results, Tryd.results33, go_sem]) rfl ⟨rfl, drew_blW w⟩)
set_option maxRecDepth 100000 in
set_option maxHeartbeats 4000000 in
theorem bclo_12 (n : Int) (hn : 0 ≤ n ∧ n ≤ 8192) (X : Nat) (w : World) (hX : w.cell? ⟨X, 0, none⟩ = some (.int .i64 n)) :
    Calls Tryd.prog 33 #[.int .i64 (12 : Nat), .pointer (some ⟨X, 0, none⟩)] w fun e w' => e = .returned (.int .i64 (pmW n 12)) ∧ Below w.heap.size w w' := by
  have s0 : IntKind.i64.wrap 13 = 13 := by decide
  have s1 : ∀ w : World, (Op.shift .shl .i64 1 .i64 13).run Tryd.prog w = .ok (.int .i64 8192) w := fun _ => rfl
  have s2 : IntKind.i64.wrap 8192 = 8192 := by decide
  have e1 : IntKind.i64.wrap (n + 8192) = n + 8192 := IntWalk.i64_in _ (by omega)
  have e2 : IntKind.i64.wrap (n + 8192 + 12) = n + 8204 := (IntWalk.i64_in _ (by omega)).trans (by omega)
  have e3 : IntKind.i64.wrap (n + 8204 + 1) = n + 8205 := (IntWalk.i64_in _ (by omega)).trans (by omega)
  have e4 : IntKind.i64.wrap (23 * (n + 8205)) = 23 * (n + 8205) := IntWalk.i64_in _ (by omega)
  simp only [pmW, wdW, exW]
  go_enter Tryd.func33, Tryd.ntmps33
  go_wp2_with fail
  go_region_with fail
  all_goals (go_wp2_with fail; refine bodyPost_ret (v := .int .i64 (23 * (n + 8205))) (by simp [results, Tryd.results33, go_sem]) rfl ⟨rfl, drew_blW w⟩)
theorem bclo_any (n : Int) (hn : 0 ≤ n ∧ n ≤ 8192) (X : Nat) (w : World) (hX : w.cell? ⟨X, 0, none⟩ = some (.int .i64 n)) (k : Nat) (h1 : 1 ≤ k) (h12 : k ≤ 12) :
    Calls Tryd.prog 33 #[.int .i64 k, .pointer (some ⟨X, 0, none⟩)] w fun e w' => e = .returned (.int .i64 (pmW n k)) ∧ Below w.heap.size w w' :=
  twelve (P := fun k => Calls Tryd.prog 33 #[.int .i64 k, .pointer (some ⟨X, 0, none⟩)] w fun e w' => e = .returned (.int .i64 (pmW n k)) ∧ Below w.heap.size w w') (bclo_1 n hn X w hX) (bclo_2 n hn X w hX) (bclo_3 n hn X w hX) (bclo_4 n hn X w hX) (bclo_5 n hn X w hX) (bclo_6 n hn X w hX) (bclo_7 n hn X w hX) (bclo_8 n hn X w hX) (bclo_9 n hn X w hX) (bclo_10 n hn X w hX) (bclo_11 n hn X w hX) (bclo_12 n hn X w hX) k h1 h12
theorem pmW_bd (n : Int) (hn : 0 ≤ n ∧ n ≤ 8192) (k : Nat) (h1 : 1 ≤ k) (h12 : k ≤ 12) : 0 ≤ pmW n k ∧ pmW n k ≤ 10000000 :=
  twelve (P := fun k => 0 ≤ pmW n k ∧ pmW n k ≤ 10000000) (by simp only [pmW, wdW, exW]; omega) (by simp only [pmW, wdW, exW]; omega) (by simp only [pmW, wdW, exW]; omega) (by simp only [pmW, wdW, exW]; omega) (by simp only [pmW, wdW, exW]; omega) (by simp only [pmW, wdW, exW]; omega) (by simp only [pmW, wdW, exW]; omega) (by simp only [pmW, wdW, exW]; omega) (by simp only [pmW, wdW, exW]; omega) (by simp only [pmW, wdW, exW]; omega) (by simp only [pmW, wdW, exW]; omega) (by simp only [pmW, wdW, exW]; omega) k h1 h12
theorem loW_bd (n : Int) (hn : 0 ≤ n ∧ n ≤ 8192) (k : Nat) (h1 : 1 ≤ k) (h12 : k ≤ 12) : 0 ≤ loW n k ∧ loW n k ≤ 10000000 := by
  induction k with
  | zero => omega
  | succ k ih =>
    by_cases hk : 1 ≤ k
    · rw [loW_next n k hk]
      have := ih hk (by omega)
      have := pmW_bd n hn (k + 1) (by omega) h12
      split <;> omega
    · obtain rfl : k = 0 := by omega
      exact pmW_bd n hn 1 (by omega) (by omega)

end Go.Proofs.YtpblcnefihhhoaaDoor
