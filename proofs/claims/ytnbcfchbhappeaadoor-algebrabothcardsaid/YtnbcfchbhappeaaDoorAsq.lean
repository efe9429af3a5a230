import Derived.Test.YtnbcfchbhappeaaDoorAhg
import Derived.Test.YtnbcfchbhappeaaDoorArw
namespace Go.Proofs.YtnbcfchbhappeaaDoor.Al
open Go.RowKit
set_option maxRecDepth 100000 in
set_option maxHeartbeats 2000000 in
theorem sqlit_any (P : Option Addr) (n c X : Nat) (w : World) (hX : w.cell? ⟨X, 0, none⟩ = some (.int .i64 n)) :
    Calls Tryd.prog 52 #[.slice P n c, .pointer (some ⟨X, 0, none⟩)] w fun e w' => e = .returned (.bool false) ∧ Below w.heap.size w w' := by
  go_enter Tryd.func52, Tryd.ntmps52
  go_wp2_with fail
  refine bodyPost_ret (v := .bool false) (by simp [results, Tryd.results52, go_sem]) rfl ⟨rfl, Below.refl _ _⟩
set_option maxRecDepth 100000 in
set_option maxHeartbeats 4000000 in
theorem sqidx_any (P : Option Addr) (B o n cB X : Nat) (b f c : Nat → Nat) (A : Nat → Nat → Int) (w : World) (h40 : n ≤ 40) (hP : 0 < n → P = some ⟨B, o, none⟩) (hM : Mt w B o n b f c A) (hX : w.cell? ⟨X, 0, none⟩ = some (.int .i64 n)) :
    Calls Tryd.prog 58 #[.slice P n cB, .func (.func 52) #[] #[.pointer (some ⟨X, 0, none⟩)]] w fun e w' => e = .returned (.int .i64 (-1)) ∧ Below w.heap.size w w' := by
  have HM := hidden hM
  have HP := hidden hP
  have HX := hidden hX
  have H40 := hidden h40
  have nn0 : (0 : Int) ≤ (n : Int) := by omega
  clear hM hP hX h40
  go_enter Tryd.func58, Tryd.ntmps58
  go_wp2_with fail
  go_loopw [8] (fun kv w' => ∃ k : Nat, k ≤ n ∧ kv = .int .i64 (k : Int) ∧ Hid (Below w.heap.size w w')) (fun k _ => n - (intOf k).toNat)
  case atStart => exact ⟨0, by omega, rfl, hidden (Below.refl _ _)⟩
  case round =>
    obtain ⟨k, hk, rfl, hB⟩ := hrel
    by_cases hkn : k < n
    · have k0 : (0 : Int) ≤ (k : Int) := by omega
      have k1 : (k : Int) < (n : Int) := by omega
      have w9 : IntKind.i64.wrap ((k : Int) + 1) = (k : Int) + 1 := IntWalk.i64_in _ (by have := H40.out; omega)
      obtain rfl := HP.out (by omega)
      have c1 := cell_keep (HM.out.row k hkn) hB.out
      have SQ := hidden (sqlit_any (some ⟨b k, f k, none⟩) n (c k) X wr (cell_keep HX.out hB.out))
      go_wp2_with (first | (go_at_call 52; refine (SQ.out).mono ?_; rintro e wa ⟨rfl, ha⟩; have HA := hidden (bl_trans hB.out ha); clear ha))
      go_roundw
      case rel => exact ⟨k + 1, by omega, by go_num, HA⟩
      case measure => simp [intOf]; omega
    · obtain rfl : k = n := by omega
      clear hkn
      go_wp2_with fail
      refine bodyPost_ret (v := .int .i64 (-1)) (by simp [results, Tryd.results58, go_sem]) rfl ⟨rfl, hB.out⟩
set_option maxRecDepth 100000 in
set_option maxHeartbeats 2000000 in
theorem sqcon_any (P : Option Addr) (B o n cB X : Nat) (b f c : Nat → Nat) (A : Nat → Nat → Int) (w : World) (h40 : n ≤ 40) (hP : 0 < n → P = some ⟨B, o, none⟩) (hM : Mt w B o n b f c A) (hX : w.cell? ⟨X, 0, none⟩ = some (.int .i64 n)) :
    Calls Tryd.prog 51 #[.slice P n cB, .func (.func 52) #[] #[.pointer (some ⟨X, 0, none⟩)]] w fun e w' => e = .returned (.bool false) ∧ Below w.heap.size w w' := by
  have IX := hidden (sqidx_any P B o n cB X b f c A w h40 hP hM hX)
  clear hM hP hX h40
  go_enter Tryd.func51, Tryd.ntmps51
  go_wp2_with (first | (go_at_call 58; refine (IX.out).mono ?_; rintro e wa ⟨rfl, ha⟩; have HA := hidden ha; clear ha))
  refine bodyPost_ret (v := .bool false) (by simp [results, Tryd.results51, go_sem]) rfl ⟨rfl, HA.out⟩
set_option maxRecDepth 100000 in
set_option maxHeartbeats 2000000 in
theorem square_any (P : Option Addr) (B o n cB : Nat) (b f c : Nat → Nat) (A : Nat → Nat → Int) (w : World) (h40 : n ≤ 40) (hP : 0 < n → P = some ⟨B, o, none⟩) (hM : Mt w B o n b f c A) :
    Calls Tryd.prog 39 #[.slice P n cB, .int .i64 n] w fun e w' => e = .returned (.bool true) ∧ Below w.heap.size w w' := by
  have CO := hidden (sqcon_any P B o n cB w.heap.size b f c A (w.alloc (.cells #[.int .i64 n] 3)) h40 hP (hM.keep (bl_alloc _ _)) (by go_simp))
  have B0 := hidden (bl_alloc w (.cells #[.int .i64 n] 3))
  have hmf : ∀ (fn : Fn) (first cap : Array Value) (w : World), (Instr.makeFunc fn first cap).run Tryd.prog w = .ok (.func fn first cap) w := fun _ _ _ _ => rfl
  clear hM hP h40
  go_enter Tryd.func39, Tryd.ntmps39
  go_wp2_with (first | (go_at_call 51; refine (CO.out).mono ?_; rintro e wa ⟨rfl, ha⟩; have HA := hidden (bl_trans B0.out ha); clear ha))
  refine bodyPost_ret (v := .bool true) (by simp [results, Tryd.results39, go_sem]) rfl ⟨rfl, HA.out⟩
end Go.Proofs.YtnbcfchbhappeaaDoor.Al
