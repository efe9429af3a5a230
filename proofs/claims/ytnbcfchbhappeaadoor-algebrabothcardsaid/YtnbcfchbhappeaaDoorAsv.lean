import Derived.Test.YtnbcfchbhappeaaDoorProg
import Derived.WalkKit
import Derived.WalkSpells
import Derived.WalkLawsBesides
import Derived.Deep.DeepCutAuto
import Derived.Deep.DeepMust
import Derived.Deep.RegionHeld3
import Derived.Deep.RegionLaw
import Derived.OwnWalk
namespace Go.Proofs.YtnbcfchbhappeaaDoor.Al
open Go.RowKit
theorem hidden {p : Prop} (h : p) : Hid p := h
theorem bl_trans {w w1 w2 : World} (h1 : Below w.heap.size w w1) (h2 : Below w1.heap.size w1 w2) : Below w.heap.size w w2 := h1.trans (h2.mono h1.size)
theorem bl_alloc (w : World) (o : Obj) : Below w.heap.size w (w.alloc o) := (Below.refl _ _).alloc (Nat.le_refl _) _
theorem bl_drew (w : World) : Below w.heap.size w w.drew := (Below.refl _ _).drew
theorem cell_keep {w w' : World} {a : Addr} {v : Value} (h : w.cell? a = some v) (hb : Below w.heap.size w w') : w'.cell? a = some v := by
  rw [hb.cell (p := a) (World.block_lt_of_cell? w a h)]; exact h
theorem frozen_keep {w w' : World} {a : Addr} {f : Bool} (h : w.frozen? a = f) (hl : a.block < w.heap.size) (hb : Below w.heap.size w w') : w'.frozen? a = f := (hb.frozen (p := a) hl).trans h
/-- an element modulo 7, as a value -/
def sv (n : Int) : Value := .agg #[.int .i64 n]
theorem tmod7 (n : Int) : (n.tmod 7 + 7).tmod 7 = n % 7 := by
  rw [Int.tmod_eq_emod_of_nonneg (by have := Int.lt_tmod_of_pos n (show (0 : Int) < 7 by decide); omega)]
  have := Int.tmod_add_mul_tdiv n 7
  omega
set_option maxRecDepth 100000 in
theorem r_any (n : Int) (w : World) : Calls Tryd.prog 23 #[sv n] w fun e w' => e = .returned (.int .i64 (n % 7)) ∧ Below w.heap.size w w' := by
  have h1 : IntKind.i64.wrap (n.tmod 7) = n.tmod 7 := IntWalk.i64_in _ (by have := Int.lt_tmod_of_pos n (show (0 : Int) < 7 by decide); have := Int.tmod_lt_of_pos n (show (0 : Int) < 7 by decide); omega)
  have h2 : IntKind.i64.wrap (n.tmod 7 + 7) = n.tmod 7 + 7 := IntWalk.i64_in _ (by have := Int.lt_tmod_of_pos n (show (0 : Int) < 7 by decide); have := Int.tmod_lt_of_pos n (show (0 : Int) < 7 by decide); omega)
  have h3 : IntKind.i64.wrap ((n.tmod 7 + 7).tmod 7) = (n.tmod 7 + 7).tmod 7 := IntWalk.i64_in _ (by rw [tmod7]; omega)
  have h4 := tmod7 n
  unfold sv
  go_enter Tryd.func23, Tryd.ntmps23
  go_wp2_with fail
  refine bodyPost_ret (v := .int .i64 (n % 7)) (by simp [results, Tryd.results23, go_sem]) rfl ⟨rfl, bl_alloc w _⟩
set_option maxRecDepth 100000 in
set_option maxHeartbeats 2000000 in
theorem sAdd_any (n m : Int) (w : World) : Calls Tryd.prog 82 #[sv n, sv m] w fun e w' => e = .returned (sv (n % 7 + m % 7)) ∧ Below w.heap.size w w' := by
  have RN := hidden (fun w => r_any n w)
  have RM := hidden (fun w => r_any m w)
  have wz : IntKind.i64.wrap (n % 7 + m % 7) = n % 7 + m % 7 := IntWalk.i64_in _ (by
    have h1 := Int.emod_nonneg n (show (7 : Int) ≠ 0 by decide)
    have h2 := Int.emod_lt_of_pos n (show (0 : Int) < 7 by decide)
    have h3 := Int.emod_nonneg m (show (7 : Int) ≠ 0 by decide)
    have h4 := Int.emod_lt_of_pos m (show (0 : Int) < 7 by decide)
    omega)
  unfold sv at RN RM ⊢
  obtain ⟨x, hx⟩ : ∃ x, n % 7 = x := ⟨_, rfl⟩
  obtain ⟨y, hy⟩ : ∃ y, m % 7 = y := ⟨_, rfl⟩
  rw [hx] at RN wz ⊢
  rw [hy] at RM wz ⊢
  clear hx hy
  go_enter Tryd.func82, Tryd.ntmps82
  go_upto_region 1 with fail
  have B0 := hidden (bl_trans (bl_trans (bl_alloc w (.cells #[.int .i64 n] 51)) (bl_alloc _ (.cells #[.int .i64 m] 51))) (bl_alloc _ (.cells #[.int .i64 0] 51)))
  have ca : (((w.alloc (.cells #[.int .i64 n] 51)).alloc (.cells #[.int .i64 m] 51)).alloc (.cells #[.int .i64 0] 51)).drew.cell? ⟨w.heap.size, 0, none⟩ = some (.int .i64 n) := by go_simp
  have cb : (((w.alloc (.cells #[.int .i64 n] 51)).alloc (.cells #[.int .i64 m] 51)).alloc (.cells #[.int .i64 0] 51)).drew.cell? ⟨w.heap.size + 1, 0, none⟩ = some (.int .i64 m) := by go_simp
  have cc : (((w.alloc (.cells #[.int .i64 n] 51)).alloc (.cells #[.int .i64 m] 51)).alloc (.cells #[.int .i64 0] 51)).drew.cell? ⟨w.heap.size + 1 + 1, 0, none⟩ = some (.int .i64 0) := by go_simp
  have cf : (((w.alloc (.cells #[.int .i64 n] 51)).alloc (.cells #[.int .i64 m] 51)).alloc (.cells #[.int .i64 0] 51)).drew.frozen? ⟨w.heap.size + 1 + 1, 0, none⟩ = false := by go_simp
  have cl : w.heap.size + 1 + 1 < (((w.alloc (.cells #[.int .i64 n] 51)).alloc (.cells #[.int .i64 m] 51)).alloc (.cells #[.int .i64 0] 51)).drew.heap.size := World.block_lt_of_cell? _ ⟨w.heap.size + 1 + 1, 0, none⟩ cc
  have BD := hidden (bl_trans B0.out (bl_drew _))
  clear B0
  generalize (((w.alloc (.cells #[.int .i64 n] 51)).alloc (.cells #[.int .i64 m] 51)).alloc (.cells #[.int .i64 0] 51)) = w0 at *
  go_region_with (first | (go_at_call 23; with_reducible refine (RN.out _).mono ?_; rintro e wa ⟨rfl, ha⟩; have cb1 := cell_keep cb ha; have cc1 := cell_keep cc ha; have cf1 := frozen_keep cf cl ha; have cl1 := Nat.lt_of_lt_of_le cl ha.size; have B1 := hidden (bl_trans BD.out ha); clear ha) | (go_at_call 23; with_reducible refine (RM.out _).mono ?_; rintro e wb ⟨rfl, hb2⟩; have cc2 := cell_keep cc1 hb2; have cf2 := frozen_keep cf1 cl1 hb2; have B2 := hidden ((bl_trans B1.out hb2).setCell (p := ⟨w.heap.size + 1 + 1, 0, none⟩) (by show w.heap.size ≤ w.heap.size + 1 + 1; omega) (.int .i64 (x + y))); have c3 : (wb.setCell ⟨w.heap.size + 1 + 1, 0, none⟩ (.int .i64 (x + y))).cell? ⟨w.heap.size + 1 + 1, 0, none⟩ = some (.int .i64 (x + y)) := (by go_simp); clear hb2))
  all_goals
    clear ca cb cc cf cl cb1 cc1 cf1 cl1 cc2 cf2 wz
    generalize wb.setCell ⟨w.heap.size + 1 + 1, 0, none⟩ (.int .i64 (x + y)) = w9 at *
    go_wp2_with fail
    refine bodyPost_ret (v := .agg #[.int .i64 (x + y)]) (by simp [results, Tryd.results82, go_sem, c3]) rfl ⟨rfl, B2.out⟩
set_option maxRecDepth 100000 in
set_option maxHeartbeats 2000000 in
theorem sSub_any (n m : Int) (w : World) : Calls Tryd.prog 87 #[sv n, sv m] w fun e w' => e = .returned (sv (n % 7 - m % 7)) ∧ Below w.heap.size w w' := by
  have RN := hidden (fun w => r_any n w)
  have RM := hidden (fun w => r_any m w)
  have wz : IntKind.i64.wrap (n % 7 - m % 7) = n % 7 - m % 7 := IntWalk.i64_in _ (by
    have h1 := Int.emod_nonneg n (show (7 : Int) ≠ 0 by decide)
    have h2 := Int.emod_lt_of_pos n (show (0 : Int) < 7 by decide)
    have h3 := Int.emod_nonneg m (show (7 : Int) ≠ 0 by decide)
    have h4 := Int.emod_lt_of_pos m (show (0 : Int) < 7 by decide)
    omega)
  unfold sv at RN RM ⊢
  obtain ⟨x, hx⟩ : ∃ x, n % 7 = x := ⟨_, rfl⟩
  obtain ⟨y, hy⟩ : ∃ y, m % 7 = y := ⟨_, rfl⟩
  rw [hx] at RN wz ⊢
  rw [hy] at RM wz ⊢
  clear hx hy
  go_enter Tryd.func87, Tryd.ntmps87
  go_upto_region 1 with fail
  have B0 := hidden (bl_trans (bl_trans (bl_alloc w (.cells #[.int .i64 n] 51)) (bl_alloc _ (.cells #[.int .i64 m] 51))) (bl_alloc _ (.cells #[.int .i64 0] 51)))
  have ca : (((w.alloc (.cells #[.int .i64 n] 51)).alloc (.cells #[.int .i64 m] 51)).alloc (.cells #[.int .i64 0] 51)).drew.cell? ⟨w.heap.size, 0, none⟩ = some (.int .i64 n) := by go_simp
  have cb : (((w.alloc (.cells #[.int .i64 n] 51)).alloc (.cells #[.int .i64 m] 51)).alloc (.cells #[.int .i64 0] 51)).drew.cell? ⟨w.heap.size + 1, 0, none⟩ = some (.int .i64 m) := by go_simp
  have cc : (((w.alloc (.cells #[.int .i64 n] 51)).alloc (.cells #[.int .i64 m] 51)).alloc (.cells #[.int .i64 0] 51)).drew.cell? ⟨w.heap.size + 1 + 1, 0, none⟩ = some (.int .i64 0) := by go_simp
  have cf : (((w.alloc (.cells #[.int .i64 n] 51)).alloc (.cells #[.int .i64 m] 51)).alloc (.cells #[.int .i64 0] 51)).drew.frozen? ⟨w.heap.size + 1 + 1, 0, none⟩ = false := by go_simp
  have cl : w.heap.size + 1 + 1 < (((w.alloc (.cells #[.int .i64 n] 51)).alloc (.cells #[.int .i64 m] 51)).alloc (.cells #[.int .i64 0] 51)).drew.heap.size := World.block_lt_of_cell? _ ⟨w.heap.size + 1 + 1, 0, none⟩ cc
  have BD := hidden (bl_trans B0.out (bl_drew _))
  clear B0
  generalize (((w.alloc (.cells #[.int .i64 n] 51)).alloc (.cells #[.int .i64 m] 51)).alloc (.cells #[.int .i64 0] 51)) = w0 at *
  go_region_with (first | (go_at_call 23; with_reducible refine (RN.out _).mono ?_; rintro e wa ⟨rfl, ha⟩; have cb1 := cell_keep cb ha; have cc1 := cell_keep cc ha; have cf1 := frozen_keep cf cl ha; have cl1 := Nat.lt_of_lt_of_le cl ha.size; have B1 := hidden (bl_trans BD.out ha); clear ha) | (go_at_call 23; with_reducible refine (RM.out _).mono ?_; rintro e wb ⟨rfl, hb2⟩; have cc2 := cell_keep cc1 hb2; have cf2 := frozen_keep cf1 cl1 hb2; have B2 := hidden ((bl_trans B1.out hb2).setCell (p := ⟨w.heap.size + 1 + 1, 0, none⟩) (by show w.heap.size ≤ w.heap.size + 1 + 1; omega) (.int .i64 (x - y))); have c3 : (wb.setCell ⟨w.heap.size + 1 + 1, 0, none⟩ (.int .i64 (x - y))).cell? ⟨w.heap.size + 1 + 1, 0, none⟩ = some (.int .i64 (x - y)) := (by go_simp); clear hb2))
  all_goals
    clear ca cb cc cf cl cb1 cc1 cf1 cl1 cc2 cf2 wz
    generalize wb.setCell ⟨w.heap.size + 1 + 1, 0, none⟩ (.int .i64 (x - y)) = w9 at *
    go_wp2_with fail
    refine bodyPost_ret (v := .agg #[.int .i64 (x - y)]) (by simp [results, Tryd.results87, go_sem, c3]) rfl ⟨rfl, B2.out⟩
set_option maxRecDepth 100000 in
set_option maxHeartbeats 2000000 in
theorem sMul_any (n m : Int) (w : World) : Calls Tryd.prog 85 #[sv n, sv m] w fun e w' => e = .returned (sv (n % 7 * (m % 7))) ∧ Below w.heap.size w w' := by
  have RN := hidden (fun w => r_any n w)
  have RM := hidden (fun w => r_any m w)
  have wz : IntKind.i64.wrap (n % 7 * (m % 7)) = n % 7 * (m % 7) := IntWalk.i64_in _ (by
    have h1 := Int.emod_nonneg n (show (7 : Int) ≠ 0 by decide)
    have h2 := Int.emod_lt_of_pos n (show (0 : Int) < 7 by decide)
    have h3 := Int.emod_nonneg m (show (7 : Int) ≠ 0 by decide)
    have h4 := Int.emod_lt_of_pos m (show (0 : Int) < 7 by decide)
    have h5 : 0 ≤ n % 7 * (m % 7) := Int.mul_nonneg h1 h3; have h6 : n % 7 * (m % 7) ≤ 6 * 6 := Int.mul_le_mul (by omega) (by omega) h3 (by decide); omega)
  unfold sv at RN RM ⊢
  obtain ⟨x, hx⟩ : ∃ x, n % 7 = x := ⟨_, rfl⟩
  obtain ⟨y, hy⟩ : ∃ y, m % 7 = y := ⟨_, rfl⟩
  rw [hx] at RN wz ⊢
  rw [hy] at RM wz ⊢
  clear hx hy
  go_enter Tryd.func85, Tryd.ntmps85
  go_upto_region 1 with fail
  have B0 := hidden (bl_trans (bl_trans (bl_alloc w (.cells #[.int .i64 n] 51)) (bl_alloc _ (.cells #[.int .i64 m] 51))) (bl_alloc _ (.cells #[.int .i64 0] 51)))
  have ca : (((w.alloc (.cells #[.int .i64 n] 51)).alloc (.cells #[.int .i64 m] 51)).alloc (.cells #[.int .i64 0] 51)).drew.cell? ⟨w.heap.size, 0, none⟩ = some (.int .i64 n) := by go_simp
  have cb : (((w.alloc (.cells #[.int .i64 n] 51)).alloc (.cells #[.int .i64 m] 51)).alloc (.cells #[.int .i64 0] 51)).drew.cell? ⟨w.heap.size + 1, 0, none⟩ = some (.int .i64 m) := by go_simp
  have cc : (((w.alloc (.cells #[.int .i64 n] 51)).alloc (.cells #[.int .i64 m] 51)).alloc (.cells #[.int .i64 0] 51)).drew.cell? ⟨w.heap.size + 1 + 1, 0, none⟩ = some (.int .i64 0) := by go_simp
  have cf : (((w.alloc (.cells #[.int .i64 n] 51)).alloc (.cells #[.int .i64 m] 51)).alloc (.cells #[.int .i64 0] 51)).drew.frozen? ⟨w.heap.size + 1 + 1, 0, none⟩ = false := by go_simp
  have cl : w.heap.size + 1 + 1 < (((w.alloc (.cells #[.int .i64 n] 51)).alloc (.cells #[.int .i64 m] 51)).alloc (.cells #[.int .i64 0] 51)).drew.heap.size := World.block_lt_of_cell? _ ⟨w.heap.size + 1 + 1, 0, none⟩ cc
  have BD := hidden (bl_trans B0.out (bl_drew _))
  clear B0
  generalize (((w.alloc (.cells #[.int .i64 n] 51)).alloc (.cells #[.int .i64 m] 51)).alloc (.cells #[.int .i64 0] 51)) = w0 at *
  go_region_with (first | (go_at_call 23; with_reducible refine (RN.out _).mono ?_; rintro e wa ⟨rfl, ha⟩; have cb1 := cell_keep cb ha; have cc1 := cell_keep cc ha; have cf1 := frozen_keep cf cl ha; have cl1 := Nat.lt_of_lt_of_le cl ha.size; have B1 := hidden (bl_trans BD.out ha); clear ha) | (go_at_call 23; with_reducible refine (RM.out _).mono ?_; rintro e wb ⟨rfl, hb2⟩; have cc2 := cell_keep cc1 hb2; have cf2 := frozen_keep cf1 cl1 hb2; have B2 := hidden ((bl_trans B1.out hb2).setCell (p := ⟨w.heap.size + 1 + 1, 0, none⟩) (by show w.heap.size ≤ w.heap.size + 1 + 1; omega) (.int .i64 (x * y))); have c3 : (wb.setCell ⟨w.heap.size + 1 + 1, 0, none⟩ (.int .i64 (x * y))).cell? ⟨w.heap.size + 1 + 1, 0, none⟩ = some (.int .i64 (x * y)) := (by go_simp); clear hb2))
  all_goals
    clear ca cb cc cf cl cb1 cc1 cf1 cl1 cc2 cf2 wz
    generalize wb.setCell ⟨w.heap.size + 1 + 1, 0, none⟩ (.int .i64 (x * y)) = w9 at *
    go_wp2_with fail
    refine bodyPost_ret (v := .agg #[.int .i64 (x * y)]) (by simp [results, Tryd.results85, go_sem, c3]) rfl ⟨rfl, B2.out⟩
set_option maxRecDepth 100000 in
theorem sOne_any (n : Int) (w : World) : Calls Tryd.prog 86 #[sv n] w fun e w' => e = .returned (sv 1) ∧ Below w.heap.size w w' := by
  unfold sv
  go_enter Tryd.func86, Tryd.ntmps86
  go_wp2_with fail
  refine bodyPost_ret (v := .agg #[.int .i64 1]) (by simp [results, Tryd.results86, go_sem]) rfl ⟨rfl, bl_trans (bl_alloc w _) (bl_alloc _ _)⟩
set_option maxRecDepth 100000 in
theorem sIsZero_any (n : Int) (w : World) : Calls Tryd.prog 84 #[sv n] w fun e w' => e = .returned (.bool (n % 7 == 0)) ∧ Below w.heap.size w w' := by
  have RN := hidden (fun w => r_any n w)
  unfold sv at RN ⊢
  have B0 := hidden (bl_alloc w (.cells #[.int .i64 n] 51))
  generalize n % 7 = x at *
  go_enter Tryd.func84, Tryd.ntmps84
  go_wp2_with fail
  refine (RN.out _).mono ?_
  rintro e wa ⟨rfl, ha⟩
  have B1 := hidden (bl_trans B0.out ha)
  clear ha
  go_wp2_with fail
  refine bodyPost_ret (v := .bool (x == 0)) (by simp [results, Tryd.results84, go_sem]) rfl ⟨rfl, B1.out⟩
theorem inv7_zero {x : Int} (h0 : 0 ≤ x) (h1 : x < 7) (h : ∀ j : Nat, 1 ≤ j → j < 7 → x * (j : Int) % 7 ≠ 1) : x = 0 := by
  have h2 : x = 0 ∨ x = 1 ∨ x = 2 ∨ x = 3 ∨ x = 4 ∨ x = 5 ∨ x = 6 := by omega
  rcases h2 with rfl | rfl | rfl | rfl | rfl | rfl | rfl
  · rfl
  · exact absurd (by decide) (h 1 (by decide) (by decide))
  · exact absurd (by decide) (h 4 (by decide) (by decide))
  · exact absurd (by decide) (h 5 (by decide) (by decide))
  · exact absurd (by decide) (h 2 (by decide) (by decide))
  · exact absurd (by decide) (h 3 (by decide) (by decide))
  · exact absurd (by decide) (h 6 (by decide) (by decide))
set_option maxRecDepth 100000 in
set_option maxHeartbeats 2000000 in
theorem sInvert_any (n : Int) (w : World) : Calls Tryd.prog 83 #[sv n] w fun e w' => ∃ k : Int, e = .returned (sv k) ∧ 0 ≤ k ∧ k < 7 ∧ (n % 7 ≠ 0 → n % 7 * k % 7 = 1) ∧ (n % 7 = 0 → k = 0) ∧ Below w.heap.size w w' := by
  have RN := hidden (fun w => r_any n w)
  have X0 := hidden (Int.emod_nonneg n (show (7 : Int) ≠ 0 by decide))
  have X1 := hidden (Int.emod_lt_of_pos n (show (0 : Int) < 7 by decide))
  unfold sv at RN ⊢
  generalize n % 7 = x at *
  have I0 : Hid (Below w.heap.size w ((w.alloc (.cells #[.int .i64 n] 51)).alloc (.cells #[.int .i64 0] 51)) ∧ ((w.alloc (.cells #[.int .i64 n] 51)).alloc (.cells #[.int .i64 0] 51)).cell? ⟨w.heap.size, 0, none⟩ = some (.int .i64 n) ∧ ((w.alloc (.cells #[.int .i64 n] 51)).alloc (.cells #[.int .i64 0] 51)).cell? ⟨w.heap.size + 1, 0, none⟩ = some (.int .i64 0) ∧ ((w.alloc (.cells #[.int .i64 n] 51)).alloc (.cells #[.int .i64 0] 51)).frozen? ⟨w.heap.size + 1, 0, none⟩ = false) := hidden ⟨bl_trans (bl_alloc w _) (bl_alloc _ _), by go_simp, by go_simp, by go_simp⟩
  go_enter Tryd.func83, Tryd.ntmps83
  go_wp2_with fail
  go_loopw [3] (fun kv w' => ∃ k : Nat, 1 ≤ k ∧ k ≤ 7 ∧ kv = .int .i64 k ∧ (∀ j : Nat, 1 ≤ j → j < k → x * (j : Int) % 7 ≠ 1) ∧ Hid (Below w.heap.size w w' ∧ w'.cell? ⟨w.heap.size, 0, none⟩ = some (.int .i64 n) ∧ w'.cell? ⟨w.heap.size + 1, 0, none⟩ = some (.int .i64 0) ∧ w'.frozen? ⟨w.heap.size + 1, 0, none⟩ = false)) (fun k _ => 7 - (intOf k).toNat)
  case atStart => exact ⟨1, by omega, by omega, rfl, fun j h1 h2 => by omega, I0⟩
  case round =>
    clear I0
    obtain ⟨k, hk1, hk7, rfl, hno, hI⟩ := hrel
    have HNO := hidden hno
    clear hno
    by_cases hlt : k < 7
    · have k0 : (k : Int) < 7 := by omega
      have x0 := X0.out
      have x1 := X1.out
      have m1 : 0 ≤ x * (k : Int) := Int.mul_nonneg x0 (by omega)
      have m2 : x * (k : Int) ≤ 6 * 6 := Int.mul_le_mul (by omega) (by omega) (by omega) (by decide)
      have w1 : IntKind.i64.wrap (x * (k : Int)) = x * (k : Int) := IntWalk.i64_in _ (by omega)
      have t1 : (x * (k : Int)).tmod 7 = x * (k : Int) % 7 := Int.tmod_eq_emod_of_nonneg m1
      obtain ⟨y, hy⟩ : ∃ y, x * (k : Int) % 7 = y := ⟨_, rfl⟩
      have y0 : 0 ≤ y ∧ y < 7 := by rw [← hy]; exact ⟨Int.emod_nonneg _ (by decide), Int.emod_lt_of_pos _ (by decide)⟩
      have w2 : IntKind.i64.wrap y = y := IntWalk.i64_in _ (by omega)
      have w9 : IntKind.i64.wrap ((k : Int) + 1) = (k : Int) + 1 := IntWalk.i64_in _ (by omega)
      rw [hy] at t1
      have HY := hidden hy
      have ca := hI.out.2.1
      clear hy x0 x1 m1 m2 y0
      go_upto_region 4 with fail
      go_cut [13] (fun v wx => v = .bool (y == 1) ∧ Below w.heap.size w wx ∧ wx.cell? ⟨w.heap.size, 0, none⟩ = some (.int .i64 n) ∧ wx.cell? ⟨w.heap.size + 1, 0, none⟩ = some (.int .i64 0) ∧ wx.frozen? ⟨w.heap.size + 1, 0, none⟩ = false)
      case first =>
        go_wp2_with fail
        refine (RN.out _).mono ?_
        rintro e wa ⟨rfl, ha⟩
        have I1 := hidden (⟨bl_trans hI.out.1 ha, cell_keep hI.out.2.1 ha, cell_keep hI.out.2.2.1 ha, frozen_keep hI.out.2.2.2 (World.block_lt_of_cell? _ ⟨w.heap.size + 1, 0, none⟩ hI.out.2.2.1) ha⟩ : Below w.heap.size w wa ∧ wa.cell? ⟨w.heap.size, 0, none⟩ = some (.int .i64 n) ∧ wa.cell? ⟨w.heap.size + 1, 0, none⟩ = some (.int .i64 0) ∧ wa.frozen? ⟨w.heap.size + 1, 0, none⟩ = false)
        clear ha
        go_wp2_with fail
        go_meet
        exact ⟨rfl, I1.out⟩
      case rest =>
      obtain ⟨rfl, i1⟩ := hcut
      have I1 := hidden i1
      have cc := i1.2.2.1
      have cf := i1.2.2.2
      clear i1 ca w1 w2 t1 hI
      by_cases hy1 : y = 1
      · have B2 := hidden (I1.out.1.setCell (p := ⟨w.heap.size + 1, 0, none⟩) (by show w.heap.size ≤ w.heap.size + 1; omega) (.int .i64 (k : Int)))
        have e1 : (y == 1) = true := by rw [hy1]; rfl
        rw [e1]
        have KK : Hid (x ≠ 0 → x * (k : Int) % 7 = 1) := hidden (fun _ => by rw [HY.out]; exact hy1)
        have KZ : Hid (x = 0 → (k : Int) = 0) := hidden (fun h => by have := HY.out; rw [h, hy1] at this; simp at this)
        have c3 : (wc.setCell ⟨w.heap.size + 1, 0, none⟩ (.int .i64 (k : Int))).cell? ⟨w.heap.size + 1, 0, none⟩ = some (.int .i64 (k : Int)) := by go_simp
        clear hy1 e1
        go_wp2_with fail
        refine bodyPost_ret (v := .agg #[.int .i64 (k : Int)]) (by simp [results, Tryd.results83, go_sem, c3]) rfl ⟨k, rfl, by omega, by omega, KK.out, KZ.out, B2.out⟩
      · have e1 : (y == 1) = false := by simpa using hy1
        rw [e1]
        have HN2 := hidden (fun (j : Nat) (h1 : 1 ≤ j) (h2 : j < k + 1) => (by
          by_cases hj : j = k
          · rw [hj, HY.out]; exact hy1
          · exact HNO.out j h1 (by omega) : x * (j : Int) % 7 ≠ 1))
        clear e1 hy1 cc cf
        go_wp2_with fail
        go_roundw
        case rel => exact ⟨k + 1, by omega, by omega, by go_num, HN2.out, I1⟩
        case measure => simp [intOf]; omega
    · have hk : k = 7 := by omega
      subst hk
      have hx := inv7_zero X0.out X1.out HNO.out
      have cc := hI.out.2.2.1
      have cf := hI.out.2.2.2
      have B2 := hidden (hI.out.1.setCell (p := ⟨w.heap.size + 1, 0, none⟩) (by show w.heap.size ≤ w.heap.size + 1; omega) (.int .i64 0))
      have KK : Hid (x ≠ 0 → x * (0 : Int) % 7 = 1) := hidden (fun h => absurd hx h)
      have c3 : (wr.setCell ⟨w.heap.size + 1, 0, none⟩ (.int .i64 0)).cell? ⟨w.heap.size + 1, 0, none⟩ = some (.int .i64 0) := by go_simp
      clear hx
      go_wp2_with fail
      refine bodyPost_ret (v := .agg #[.int .i64 0]) (by simp [results, Tryd.results83, go_sem, c3]) rfl ⟨0, rfl, by omega, by omega, KK.out, fun _ => rfl, B2.out⟩
end Go.Proofs.YtnbcfchbhappeaaDoor.Al
