import Derived.Test.YtaejedhdpilhjaaDoorRM2
import Derived.Lib.BitFns
namespace Go.Proofs.YtaejedhdpilhjaaDoor
namespace Rp
open Go.RowKit
set_option linter.unusedVariables false
theorem p2 {k : Nat} (hk : k ≤ 5) : (k = 0 ∧ 2 ^ k = 1) ∨ (k = 1 ∧ 2 ^ k = 2) ∨ (k = 2 ∧ 2 ^ k = 4) ∨ (k = 3 ∧ 2 ^ k = 8) ∨ (k = 4 ∧ 2 ^ k = 16) ∨ (k = 5 ∧ 2 ^ k = 32) := by
  obtain rfl | rfl | rfl | rfl | rfl | rfl : k = 0 ∨ k = 1 ∨ k = 2 ∨ k = 3 ∨ k = 4 ∨ k = 5 := by omega
  all_goals simp
set_option maxRecDepth 100000 in
set_option maxHeartbeats 1000000 in
theorem len64_small (x b : Int) (hx0 : 0 ≤ x) (hx : x ≤ 255) (hb : wrap64 (wrap64 (Lib.len8 x)) = b) (w : World) : Calls Tryd.prog 48 #[.int .u64 x] w fun e w' => e = .returned (.int .i64 b) ∧ w' = w := by
  have g0 : ¬ 4294967296 ≤ x := by omega
  have g1 : ¬ 65536 ≤ x := by omega
  have g2 : ¬ 256 ≤ x := by omega
  have HB := hidden hb
  clear hb
  go_enter Tryd.func48, Tryd.ntmps48
  go_wp2_with fail
  refine bodyPost_ret (v := .int .i64 (wrap64 (wrap64 (Lib.len8 x)))) (by simp [results, Tryd.results48, go_sem]) rfl ⟨by rw [HB.out], rfl⟩
theorem len8_lit (k : Nat) (hk : k ≤ 5) : wrap64 (wrap64 (Lib.len8 ((2 ^ k : Nat) : Int))) = ((k + 1 : Nat) : Int) := by
  obtain rfl | rfl | rfl | rfl | rfl | rfl : k = 0 ∨ k = 1 ∨ k = 2 ∨ k = 3 ∨ k = 4 ∨ k = 5 := by omega
  all_goals (rw [Lib.len8_of _ (by decide) (by decide)]; decide +kernel)
set_option maxRecDepth 100000 in
set_option maxHeartbeats 1000000 in
theorem blen_any (k : Nat) (hk : k ≤ 5) (w : World) : Calls Tryd.prog 44 #[.int .u64 ((2 ^ k : Nat) : Int)] w fun e w' => e = .returned (.int .i64 ((k + 1 : Nat) : Int)) ∧ w' = w := by
  have LL := hidden (len64_small ((2 ^ k : Nat) : Int) ((k + 1 : Nat) : Int) (Int.natCast_nonneg _) (by rcases p2 hk with ⟨_, h⟩ | ⟨_, h⟩ | ⟨_, h⟩ | ⟨_, h⟩ | ⟨_, h⟩ | ⟨_, h⟩ <;> rw [h] <;> decide) (len8_lit k hk) w)
  have h1 : (0 : Int) ≤ ((2 ^ k : Nat) : Int) := Int.natCast_nonneg _
  have h2 : ((2 ^ k : Nat) : Int) < 18446744073709551616 := by rcases p2 hk with ⟨_, h⟩ | ⟨_, h⟩ | ⟨_, h⟩ | ⟨_, h⟩ | ⟨_, h⟩ | ⟨_, h⟩ <;> rw [h] <;> decide
  generalize ((2 ^ k : Nat) : Int) = x at *
  generalize ((k + 1 : Nat) : Int) = y at *
  go_enter Tryd.func44, Tryd.ntmps44
  go_wp2_with (first | (go_at_call 48; refine (LL.out).mono ?_; rintro e w1 ⟨rfl, rfl⟩))
  refine bodyPost_ret (v := .int .i64 y) (by simp [results, Tryd.results44, go_sem]) rfl ⟨rfl, rfl⟩
set_option maxRecDepth 100000 in
set_option maxHeartbeats 1000000 in
theorem rnds_any (k : Nat) (hk : k ≤ 5) (w : World) : Calls Tryd.prog 34 #[.int .i64 ((2 ^ k : Nat) : Int)] w fun e w' => e = .returned (.int .i64 (k : Int)) ∧ w' = w := by
  have BL := hidden (blen_any k hk w)
  have h1 : (0 : Int) ≤ ((2 ^ k : Nat) : Int) := Int.natCast_nonneg _
  have h2 : ((2 ^ k : Nat) : Int) < 18446744073709551616 := by rcases p2 hk with ⟨_, h⟩ | ⟨_, h⟩ | ⟨_, h⟩ | ⟨_, h⟩ | ⟨_, h⟩ | ⟨_, h⟩ <;> rw [h] <;> decide
  have w9 : IntKind.i64.wrap (((k + 1 : Nat) : Int) - 1) = (k : Int) := by rw [show ((k + 1 : Nat) : Int) - 1 = (k : Int) by omega]; exact IntWalk.i64_in _ (by omega)
  generalize ((2 ^ k : Nat) : Int) = x at *
  generalize ((k + 1 : Nat) : Int) = y at *
  go_enter Tryd.func34, Tryd.ntmps34
  go_wp2_with (first | (go_at_call 44; refine (BL.out).mono ?_; rintro e w1 ⟨rfl, rfl⟩))
  refine bodyPost_ret (v := .int .i64 (k : Int)) (by simp [results, Tryd.results34, go_sem]) rfl ⟨rfl, rfl⟩
set_option maxRecDepth 100000 in
set_option maxHeartbeats 1000000 in
theorem isSize_any (k : Nat) (hk : k ≤ 5) (w : World) : Calls Tryd.prog 32 #[.int .i64 ((2 ^ k : Nat) : Int)] w fun e w' => e = .returned (.bool true) ∧ w' = w := by
  rcases p2 hk with ⟨_, h⟩ | ⟨_, h⟩ | ⟨_, h⟩ | ⟨_, h⟩ | ⟨_, h⟩ | ⟨_, h⟩
  all_goals
    rw [h]
    clear h
    go_enter Tryd.func32, Tryd.ntmps32
    go_wp2_with fail
    refine bodyPost_ret (v := .bool true) (by simp [results, Tryd.results32, go_sem]; decide +kernel) rfl ⟨rfl, rfl⟩
end Rp
end Go.Proofs.YtaejedhdpilhjaaDoor
namespace Go.Proofs.YtaejedhdpilhjaaDoor
namespace Rp
open Go.RowKit
set_option linter.unusedVariables false
theorem buildI3 (x y z : Int) (w : World) : (Instr.buildSlice 72 3 #[(0, Value.int .i64 x), (1, Value.int .i64 y), (2, Value.int .i64 z)]).run Tryd.prog w = .ok (.slice (some ⟨w.heap.size, 0, none⟩) 3 3) (w.alloc (.cells #[.int .i64 x, .int .i64 y, .int .i64 z] 3)) := by kernel_rfl
theorem wp_buildI3 {w : World} {o : Oper} {a : Act} {K : Act → World → Prop} {Q : Exit → Act → World → Prop} (x0 x1 x2 : Operand) (ho : o.op = .buildSlice 72 3 #[(0, x0), (1, x1), (2, x2)]) (y0 y1 y2 : Int) (h0 : a.eval x0 = .int .i64 y0) (h1 : a.eval x1 = .int .i64 y1) (h2 : a.eval x2 = .int .i64 y2)
    (h : ∀ (m1 : Nat) (w1 : World), w.heap.size ≤ m1 → Below w.heap.size w w1 → w1.rangeAt m1 0 [.int .i64 y0, .int .i64 y1, .int .i64 y2] → K (a.put o.dst (.slice (some ⟨m1, 0, none⟩) 3 3)) w1) : o.wp Tryd.prog a w K Q := by
  have hb := buildI3 y0 y1 y2 w
  have hk := h w.heap.size _ (Nat.le_refl _) (bl_alloc w (.cells #[.int .i64 y0, .int .i64 y1, .int .i64 y2] 3)) (range_newM w [.int .i64 y0, .int .i64 y1, .int .i64 y2] 3)
  unfold Oper.wp execOp
  simp only [ho, Sem.run_bind, Sem.run_pure, Result.andThen_ok, List.map_toArray, List.map_cons, List.map_nil, h0, h1, h2, hb]
  exact hk
set_option maxRecDepth 100000 in
set_option maxHeartbeats 2000000 in
theorem alike_any (k b c : Nat) (hk : k ≤ 10) (w : World) (hr : w.rangeAt b 0 [.int .i64 (k : Int), .int .i64 (k : Int), .int .i64 (k : Int)]) : Calls Tryd.prog 33 #[.int .i64 (k : Int), .slice (some ⟨b, 0, none⟩) 3 c] w fun e w' => e = .returned (.bool true) ∧ w' = w := by
  have HR := hidden hr
  clear hr
  go_enter Tryd.func33, Tryd.ntmps33
  go_wp2_with fail
  go_loopw [9] (fun iv V => ∃ t : Nat, t ≤ 3 ∧ iv = .int .i64 (t : Int) ∧ V = w) (fun i _ => 3 - (intOf i).toNat)
  case atStart => exact ⟨0, by omega, rfl, rfl⟩
  case round =>
    obtain ⟨t, ht, rfl, rfl⟩ := hrel
    by_cases h3 : t < 3
    · have t0 : (0 : Int) ≤ (t : Int) := by omega
      have t1 : (t : Int) < 3 := by omega
      have w9 : IntKind.i64.wrap ((t : Int) + 1) = (t : Int) + 1 := IntWalk.i64_in _ (by omega)
      have c0 : wr.cell? ⟨b, t, none⟩ = some (.int .i64 (k : Int)) := by
        have := HR.out t (.int .i64 (k : Int)) (by rcases (show t = 0 ∨ t = 1 ∨ t = 2 by omega) with rfl | rfl | rfl <;> rfl)
        rwa [Nat.zero_add] at this
      go_wp2_with fail
      go_roundw
      case rel => refine ⟨t + 1, by omega, ?_⟩; first | trivial | simp
      case measure => simp [intOf]; omega
    · obtain rfl : t = 3 := by omega
      go_wp2_with fail
      refine bodyPost_ret (v := .bool true) (by simp [results, Tryd.results33, go_sem]) rfl ⟨rfl, rfl⟩
def rf2o : Array Oper := #[{ dst := some 11, op := Op.fieldAddr 35 (Operand.tmp 3) 3, type := 0, pos := "rounds.go:49", after := #[], guard := none },
  { dst := some 12, op := Op.load 29 (Operand.tmp 11), type := 29, pos := "rounds.go:49", after := #[{ on := 0, ground := Ground.data }], guard := none },
  { dst := some 13, op := Op.call { callee := Callee.builtin Builtin.len, args := #[Operand.tmp 12], argTypes := #[29] }, type := 3, pos := "rounds.go:49", after := #[{ on := 1, ground := Ground.data }], guard := none },
  { dst := some 14, op := Op.move (Operand.tmp 7), type := 3, pos := "rounds.go:49", after := #[], guard := none },
  { dst := some 15, op := Op.binOp BinOp.neq 3 (Operand.tmp 13) (Operand.tmp 14) 3, type := 4, pos := "rounds.go:49", after := #[{ on := 2, ground := Ground.data }, { on := 3, ground := Ground.data }], guard := none },
  { dst := some 16, op := Op.move (Operand.tmp 15), type := 4, pos := "rounds.go:49", after := #[{ on := 4, ground := Ground.data }], guard := none },
  { dst := some 17, op := Op.move (Operand.tmp 7), type := 3, pos := "rounds.go:49", after := #[{ on := 5, ground := Ground.guard }], guard := some (5, false) },
  { dst := some 18, op := Op.call { callee := Callee.value (Operand.func 32), args := #[Operand.tmp 17], argTypes := #[3] }, type := 4, pos := "rounds.go:49", after := #[{ on := 6, ground := Ground.data }, { on := 5, ground := Ground.chain }, { on := 5, ground := Ground.guard }], guard := some (5, false) },
  { dst := some 19, op := Op.unOp UnOp.not 4 (Operand.tmp 18), type := 4, pos := "rounds.go:49", after := #[{ on := 7, ground := Ground.data }, { on := 5, ground := Ground.guard }], guard := some (5, false) },
  { dst := some 20, op := Op.pick (Operand.tmp 16) (Operand.const (Value.bool true)) (Operand.tmp 19), type := 4, pos := "rounds.go:49", after := #[{ on := 5, ground := Ground.data }, { on := 8, ground := Ground.data }], guard := none },
  { dst := some 21, op := Op.move (Operand.tmp 20), type := 4, pos := "rounds.go:49", after := #[{ on := 9, ground := Ground.data }, { on := 7, ground := Ground.chain }], guard := none },
  { dst := some 22, op := Op.move (Operand.tmp 7), type := 3, pos := "rounds.go:49", after := #[{ on := 10, ground := Ground.guard }], guard := some (10, false) },
  { dst := some 23, op := Op.call { callee := Callee.value (Operand.func 34), args := #[Operand.tmp 22], argTypes := #[3] }, type := 3, pos := "rounds.go:49", after := #[{ on := 11, ground := Ground.data }, { on := 10, ground := Ground.chain }, { on := 10, ground := Ground.guard }], guard := some (10, false) },
  { dst := some 24, op := Op.fieldAddr 31 (Operand.tmp 4) 0, type := 0, pos := "rounds.go:49", after := #[{ on := 10, ground := Ground.guard }], guard := some (10, false) },
  { dst := some 25, op := Op.load 29 (Operand.tmp 24), type := 29, pos := "rounds.go:49", after := #[{ on := 13, ground := Ground.data }, { on := 10, ground := Ground.guard }], guard := some (10, false) },
  { dst := some 26, op := Op.call { callee := Callee.builtin Builtin.len, args := #[Operand.tmp 25], argTypes := #[29] }, type := 3, pos := "rounds.go:49", after := #[{ on := 14, ground := Ground.data }, { on := 10, ground := Ground.guard }], guard := some (10, false) },
  { dst := some 27, op := Op.fieldAddr 31 (Operand.tmp 4) 1, type := 0, pos := "rounds.go:49", after := #[{ on := 10, ground := Ground.guard }], guard := some (10, false) },
  { dst := some 28, op := Op.load 29 (Operand.tmp 27), type := 29, pos := "rounds.go:49", after := #[{ on := 16, ground := Ground.data }, { on := 10, ground := Ground.guard }], guard := some (10, false) },
  { dst := some 29, op := Op.call { callee := Callee.builtin Builtin.len, args := #[Operand.tmp 28], argTypes := #[29] }, type := 3, pos := "rounds.go:49", after := #[{ on := 17, ground := Ground.data }, { on := 10, ground := Ground.guard }], guard := some (10, false) },
  { dst := some 30, op := Op.move (Operand.tmp 2), type := 23, pos := "rounds.go:49", after := #[{ on := 10, ground := Ground.guard }], guard := some (10, false) },
  { dst := some 31, op := Op.call { callee := Callee.builtin Builtin.len, args := #[Operand.tmp 30], argTypes := #[23] }, type := 3, pos := "rounds.go:49", after := #[{ on := 19, ground := Ground.data }, { on := 10, ground := Ground.guard }], guard := some (10, false) },
  { dst := some 32, op := Op.buildSlice 72 3 #[(0, Operand.tmp 26), (1, Operand.tmp 29), (2, Operand.tmp 31)], type := 72, pos := "rounds.go:49", after := #[{ on := 15, ground := Ground.data }, { on := 18, ground := Ground.data }, { on := 20, ground := Ground.data }, { on := 10, ground := Ground.guard }], guard := some (10, false) },
  { dst := some 33, op := Op.call { callee := Callee.value (Operand.func 33), args := #[Operand.tmp 23, Operand.tmp 32], argTypes := #[3, 72] }, type := 4, pos := "rounds.go:49", after := #[{ on := 12, ground := Ground.data }, { on := 21, ground := Ground.data }, { on := 12, ground := Ground.chain }, { on := 10, ground := Ground.guard }], guard := some (10, false) },
  { dst := some 34, op := Op.unOp UnOp.not 4 (Operand.tmp 33), type := 4, pos := "rounds.go:49", after := #[{ on := 22, ground := Ground.data }, { on := 10, ground := Ground.guard }], guard := some (10, false) },
  { dst := some 35, op := Op.pick (Operand.tmp 21) (Operand.const (Value.bool true)) (Operand.tmp 34), type := 4, pos := "rounds.go:49", after := #[{ on := 10, ground := Ground.data }, { on := 23, ground := Ground.data }], guard := none }]
set_option maxRecDepth 100000 in
set_option maxHeartbeats 16000000 in
theorem rf2 (Q : Exit → Act → World → Prop) (T3 T4 n k h hc lc rc uc : Nat) (lp rp up : Option Addr) (u0 u1 u5 u6 u8 u9 u10 u11 u12 u13 u14 u15 u16 u17 u18 u19 u20 u21 u22 u23 u24 u25 u26 u27 u28 u29 u30 u31 u32 u33 u34 u35 u36 u37 : Value) (W : World)
    (c9 : W.cell? ⟨T3, 9, none⟩ = some (.slice (some ⟨h, 0, none⟩) n hc)) (d0 : W.cell? ⟨T4, 0, none⟩ = some (.slice lp k lc)) (d1 : W.cell? ⟨T4, 1, none⟩ = some (.slice rp k rc))
    (CS : Hid (∀ y, Calls Tryd.prog 32 #[.int .i64 (n : Int)] y fun e w' => e = .returned (.bool true) ∧ w' = y))
    (CR : Hid (∀ y, Calls Tryd.prog 34 #[.int .i64 (n : Int)] y fun e w' => e = .returned (.int .i64 (k : Int)) ∧ w' = y))
    (CA : Hid (∀ (y : World) (m1 : Nat), y.rangeAt m1 0 [.int .i64 (k : Int), .int .i64 (k : Int), .int .i64 (k : Int)] → Calls Tryd.prog 33 #[.int .i64 (k : Int), .slice (some ⟨m1, 0, none⟩) 3 3] y fun e w' => e = .returned (.bool true) ∧ w' = y))
    (HQ : Hid (∀ (m1 : Nat) (wz : World), Below W.heap.size W wz → Q .normal ⟨#[u0, u1, .slice up k uc, .pointer (some ⟨T3, 0, none⟩), .pointer (some ⟨T4, 0, none⟩), u5, u6, .int .i64 (n : Int), u8, u9, u10, .pointer (some ⟨T3, 9, none⟩), .slice (some ⟨h, 0, none⟩) n hc, .int .i64 (n : Int), .int .i64 (n : Int), .bool false, .bool false, .int .i64 (n : Int), .bool true, .bool false, .bool false, .bool false, .int .i64 (n : Int), .int .i64 (k : Int), .pointer (some ⟨T4, 0, none⟩), .slice lp k lc, .int .i64 (k : Int), .pointer (some ⟨T4, 1, none⟩), .slice rp k rc, .int .i64 (k : Int), .slice up k uc, .int .i64 (k : Int), .slice (some ⟨m1, 0, none⟩) 3 3, .bool true, .bool false, .bool false, u36, u37], []⟩ wz)) : (Code.region 2 rf2o true).wp Tryd.prog Q ⟨#[u0, u1, .slice up k uc, .pointer (some ⟨T3, 0, none⟩), .pointer (some ⟨T4, 0, none⟩), u5, u6, .int .i64 (n : Int), u8, u9, u10, u11, u12, u13, u14, u15, u16, u17, u18, u19, u20, u21, u22, u23, u24, u25, u26, u27, u28, u29, u30, u31, u32, u33, u34, u35, u36, u37], []⟩ W := by
  unfold rf2o
  refine wp_region_noPanic ?_
  refine wp_region_held_drew (S := fun x => Below W.heap.size W x) (by kernel_rfl) (bl_drewR W) (fun hH0 => ?_)
  refine wpAnyH_take (i := 0) (oi := { dst := some 11, op := Op.fieldAddr 35 (Operand.tmp 3) 3, type := 0, pos := "rounds.go:49", after := #[], guard := none }) (v := .pointer (some ⟨T3, 9, none⟩)) rfl (by kernel_rfl) (by kernel_rfl) (by kernel_rfl) (fun _ _ _ h => h) (Or.inl ⟨by rfl, fun w0 hSw => ?_⟩) hH0 ?_
  · (clear hSw; go_simp)
  simp only [Act.put, List.setIfInBounds_toArray, List.set_cons_zero, List.set_cons_succ]
  refine wpAnyH_take (i := 3) (oi := { dst := some 14, op := Op.move (Operand.tmp 7), type := 3, pos := "rounds.go:49", after := #[], guard := none }) (v := .int .i64 (n : Int)) rfl (by kernel_rfl) (by kernel_rfl) (by kernel_rfl) (fun _ _ _ h => h) (Or.inl ⟨by rfl, fun w0 hSw => ?_⟩) hH0 ?_
  · (clear hSw; go_simp)
  simp only [Act.put, List.setIfInBounds_toArray, List.set_cons_zero, List.set_cons_succ]
  refine wpAnyH_take (i := 1) (oi := { dst := some 12, op := Op.load 29 (Operand.tmp 11), type := 29, pos := "rounds.go:49", after := #[{ on := 0, ground := Ground.data }], guard := none }) (v := .slice (some ⟨h, 0, none⟩) n hc) rfl (by kernel_rfl) (by kernel_rfl) (by kernel_rfl) (fun _ _ _ h => h) (Or.inl ⟨by rfl, fun w0 hSw => ?_⟩) hH0 ?_
  · (have hS : Below W.heap.size W w0 := hSw; have a0 := cell_keep c9 hS; clear hS hSw; go_simp)
  simp only [Act.put, List.setIfInBounds_toArray, List.set_cons_zero, List.set_cons_succ]
  refine wpAnyH_take (i := 2) (oi := { dst := some 13, op := Op.call { callee := Callee.builtin Builtin.len, args := #[Operand.tmp 12], argTypes := #[29] }, type := 3, pos := "rounds.go:49", after := #[{ on := 1, ground := Ground.data }], guard := none }) (v := .int .i64 (n : Int)) rfl (by kernel_rfl) (by kernel_rfl) (by kernel_rfl) (fun _ _ _ h => h) (Or.inl ⟨by rfl, fun w0 hSw => ?_⟩) hH0 ?_
  · (clear hSw; go_simp)
  simp only [Act.put, List.setIfInBounds_toArray, List.set_cons_zero, List.set_cons_succ]
  refine wpAnyH_take (i := 4) (oi := { dst := some 15, op := Op.binOp BinOp.neq 3 (Operand.tmp 13) (Operand.tmp 14) 3, type := 4, pos := "rounds.go:49", after := #[{ on := 2, ground := Ground.data }, { on := 3, ground := Ground.data }], guard := none }) (v := .bool false) rfl (by kernel_rfl) (by kernel_rfl) (by kernel_rfl) (fun _ _ _ h => h) (Or.inl ⟨by rfl, fun w0 hSw => ?_⟩) hH0 ?_
  · (clear hSw; go_simp)
  simp only [Act.put, List.setIfInBounds_toArray, List.set_cons_zero, List.set_cons_succ]
  refine wpAnyH_take (i := 5) (oi := { dst := some 16, op := Op.move (Operand.tmp 15), type := 4, pos := "rounds.go:49", after := #[{ on := 4, ground := Ground.data }], guard := none }) (v := .bool false) rfl (by kernel_rfl) (by kernel_rfl) (by kernel_rfl) (fun _ _ _ h => h) (Or.inl ⟨by rfl, fun w0 hSw => ?_⟩) hH0 ?_
  · (clear hSw; go_simp)
  simp only [Act.put, List.setIfInBounds_toArray, List.set_cons_zero, List.set_cons_succ]
  refine wpAnyH_take (i := 6) (oi := { dst := some 17, op := Op.move (Operand.tmp 7), type := 3, pos := "rounds.go:49", after := #[{ on := 5, ground := Ground.guard }], guard := some (5, false) }) (v := .int .i64 (n : Int)) rfl (by kernel_rfl) (by kernel_rfl) (by kernel_rfl) (fun _ _ _ h => h) (Or.inl ⟨by rfl, fun w0 hSw => ?_⟩) hH0 ?_
  · (clear hSw; go_simp)
  simp only [Act.put, List.setIfInBounds_toArray, List.set_cons_zero, List.set_cons_succ]
  refine wpAnyH_ready (rs := [7]) (by kernel_rfl) (by simp) ?_
  refine AllReadyH.cons (o := { dst := some 18, op := Op.call { callee := Callee.value (Operand.func 32), args := #[Operand.tmp 17], argTypes := #[3] }, type := 4, pos := "rounds.go:49", after := #[{ on := 6, ground := Ground.data }, { on := 5, ground := Ground.chain }, { on := 5, ground := Ground.guard }], guard := some (5, false) }) rfl (fun K hK => ?_) AllReadyH.nil
  have HH := hidden hH0
  clear hH0
  go_simp
  refine (CS.out _).mono ?_
  rintro e wn1 ⟨rfl, rfl⟩
  have SN := hidden (HH.out)
  clear HH CS
  go_wp2_with fail
  refine hK.out _ _ SN.out (fun hH1 => ?_)
  clear hK K SN
  refine wpAnyH_take (i := 8) (oi := { dst := some 19, op := Op.unOp UnOp.not 4 (Operand.tmp 18), type := 4, pos := "rounds.go:49", after := #[{ on := 7, ground := Ground.data }, { on := 5, ground := Ground.guard }], guard := some (5, false) }) (v := .bool false) rfl (by kernel_rfl) (by kernel_rfl) (by kernel_rfl) (fun _ _ _ h => h) (Or.inl ⟨by rfl, fun w0 hSw => ?_⟩) hH1 ?_
  · (clear hSw; go_simp)
  simp only [Act.put, List.setIfInBounds_toArray, List.set_cons_zero, List.set_cons_succ]
  refine wpAnyH_take (i := 9) (oi := { dst := some 20, op := Op.pick (Operand.tmp 16) (Operand.const (Value.bool true)) (Operand.tmp 19), type := 4, pos := "rounds.go:49", after := #[{ on := 5, ground := Ground.data }, { on := 8, ground := Ground.data }], guard := none }) (v := .bool false) rfl (by kernel_rfl) (by kernel_rfl) (by kernel_rfl) (fun _ _ _ h => h) (Or.inl ⟨by rfl, fun w0 hSw => ?_⟩) hH1 ?_
  · (clear hSw; go_simp)
  simp only [Act.put, List.setIfInBounds_toArray, List.set_cons_zero, List.set_cons_succ]
  refine wpAnyH_take (i := 10) (oi := { dst := some 21, op := Op.move (Operand.tmp 20), type := 4, pos := "rounds.go:49", after := #[{ on := 9, ground := Ground.data }, { on := 7, ground := Ground.chain }], guard := none }) (v := .bool false) rfl (by kernel_rfl) (by kernel_rfl) (by kernel_rfl) (fun _ _ _ h => h) (Or.inl ⟨by rfl, fun w0 hSw => ?_⟩) hH1 ?_
  · (clear hSw; go_simp)
  simp only [Act.put, List.setIfInBounds_toArray, List.set_cons_zero, List.set_cons_succ]
  refine wpAnyH_take (i := 11) (oi := { dst := some 22, op := Op.move (Operand.tmp 7), type := 3, pos := "rounds.go:49", after := #[{ on := 10, ground := Ground.guard }], guard := some (10, false) }) (v := .int .i64 (n : Int)) rfl (by kernel_rfl) (by kernel_rfl) (by kernel_rfl) (fun _ _ _ h => h) (Or.inl ⟨by rfl, fun w0 hSw => ?_⟩) hH1 ?_
  · (clear hSw; go_simp)
  simp only [Act.put, List.setIfInBounds_toArray, List.set_cons_zero, List.set_cons_succ]
  refine wpAnyH_take (i := 13) (oi := { dst := some 24, op := Op.fieldAddr 31 (Operand.tmp 4) 0, type := 0, pos := "rounds.go:49", after := #[{ on := 10, ground := Ground.guard }], guard := some (10, false) }) (v := .pointer (some ⟨T4, 0, none⟩)) rfl (by kernel_rfl) (by kernel_rfl) (by kernel_rfl) (fun _ _ _ h => h) (Or.inl ⟨by rfl, fun w0 hSw => ?_⟩) hH1 ?_
  · (clear hSw; go_simp)
  simp only [Act.put, List.setIfInBounds_toArray, List.set_cons_zero, List.set_cons_succ]
  refine wpAnyH_take (i := 16) (oi := { dst := some 27, op := Op.fieldAddr 31 (Operand.tmp 4) 1, type := 0, pos := "rounds.go:49", after := #[{ on := 10, ground := Ground.guard }], guard := some (10, false) }) (v := .pointer (some ⟨T4, 1, none⟩)) rfl (by kernel_rfl) (by kernel_rfl) (by kernel_rfl) (fun _ _ _ h => h) (Or.inl ⟨by rfl, fun w0 hSw => ?_⟩) hH1 ?_
  · (clear hSw; go_simp)
  simp only [Act.put, List.setIfInBounds_toArray, List.set_cons_zero, List.set_cons_succ]
  refine wpAnyH_take (i := 19) (oi := { dst := some 30, op := Op.move (Operand.tmp 2), type := 23, pos := "rounds.go:49", after := #[{ on := 10, ground := Ground.guard }], guard := some (10, false) }) (v := .slice up k uc) rfl (by kernel_rfl) (by kernel_rfl) (by kernel_rfl) (fun _ _ _ h => h) (Or.inl ⟨by rfl, fun w0 hSw => ?_⟩) hH1 ?_
  · (clear hSw; go_simp)
  simp only [Act.put, List.setIfInBounds_toArray, List.set_cons_zero, List.set_cons_succ]
  refine wpAnyH_take (i := 14) (oi := { dst := some 25, op := Op.load 29 (Operand.tmp 24), type := 29, pos := "rounds.go:49", after := #[{ on := 13, ground := Ground.data }, { on := 10, ground := Ground.guard }], guard := some (10, false) }) (v := .slice lp k lc) rfl (by kernel_rfl) (by kernel_rfl) (by kernel_rfl) (fun _ _ _ h => h) (Or.inl ⟨by rfl, fun w0 hSw => ?_⟩) hH1 ?_
  · (have hS : Below W.heap.size W w0 := hSw; have a0 := cell_keep d0 hS; clear hS hSw; go_simp)
  simp only [Act.put, List.setIfInBounds_toArray, List.set_cons_zero, List.set_cons_succ]
  refine wpAnyH_take (i := 17) (oi := { dst := some 28, op := Op.load 29 (Operand.tmp 27), type := 29, pos := "rounds.go:49", after := #[{ on := 16, ground := Ground.data }, { on := 10, ground := Ground.guard }], guard := some (10, false) }) (v := .slice rp k rc) rfl (by kernel_rfl) (by kernel_rfl) (by kernel_rfl) (fun _ _ _ h => h) (Or.inl ⟨by rfl, fun w0 hSw => ?_⟩) hH1 ?_
  · (have hS : Below W.heap.size W w0 := hSw; have a0 := cell_keep d1 hS; clear hS hSw; go_simp)
  simp only [Act.put, List.setIfInBounds_toArray, List.set_cons_zero, List.set_cons_succ]
  refine wpAnyH_take (i := 20) (oi := { dst := some 31, op := Op.call { callee := Callee.builtin Builtin.len, args := #[Operand.tmp 30], argTypes := #[23] }, type := 3, pos := "rounds.go:49", after := #[{ on := 19, ground := Ground.data }, { on := 10, ground := Ground.guard }], guard := some (10, false) }) (v := .int .i64 (k : Int)) rfl (by kernel_rfl) (by kernel_rfl) (by kernel_rfl) (fun _ _ _ h => h) (Or.inl ⟨by rfl, fun w0 hSw => ?_⟩) hH1 ?_
  · (clear hSw; go_simp)
  simp only [Act.put, List.setIfInBounds_toArray, List.set_cons_zero, List.set_cons_succ]
  refine wpAnyH_take (i := 15) (oi := { dst := some 26, op := Op.call { callee := Callee.builtin Builtin.len, args := #[Operand.tmp 25], argTypes := #[29] }, type := 3, pos := "rounds.go:49", after := #[{ on := 14, ground := Ground.data }, { on := 10, ground := Ground.guard }], guard := some (10, false) }) (v := .int .i64 (k : Int)) rfl (by kernel_rfl) (by kernel_rfl) (by kernel_rfl) (fun _ _ _ h => h) (Or.inl ⟨by rfl, fun w0 hSw => ?_⟩) hH1 ?_
  · (clear hSw; go_simp)
  simp only [Act.put, List.setIfInBounds_toArray, List.set_cons_zero, List.set_cons_succ]
  refine wpAnyH_take (i := 18) (oi := { dst := some 29, op := Op.call { callee := Callee.builtin Builtin.len, args := #[Operand.tmp 28], argTypes := #[29] }, type := 3, pos := "rounds.go:49", after := #[{ on := 17, ground := Ground.data }, { on := 10, ground := Ground.guard }], guard := some (10, false) }) (v := .int .i64 (k : Int)) rfl (by kernel_rfl) (by kernel_rfl) (by kernel_rfl) (fun _ _ _ h => h) (Or.inl ⟨by rfl, fun w0 hSw => ?_⟩) hH1 ?_
  · (clear hSw; go_simp)
  simp only [Act.put, List.setIfInBounds_toArray, List.set_cons_zero, List.set_cons_succ]
  refine wpAnyH_ready (rs := [12, 21]) (by kernel_rfl) (by simp) ?_
  refine AllReadyH.cons (o := { dst := some 23, op := Op.call { callee := Callee.value (Operand.func 34), args := #[Operand.tmp 22], argTypes := #[3] }, type := 3, pos := "rounds.go:49", after := #[{ on := 11, ground := Ground.data }, { on := 10, ground := Ground.chain }, { on := 10, ground := Ground.guard }], guard := some (10, false) }) rfl (fun K hK => ?_) (AllReadyH.cons (o := { dst := some 32, op := Op.buildSlice 72 3 #[(0, Operand.tmp 26), (1, Operand.tmp 29), (2, Operand.tmp 31)], type := 72, pos := "rounds.go:49", after := #[{ on := 15, ground := Ground.data }, { on := 18, ground := Ground.data }, { on := 20, ground := Ground.data }, { on := 10, ground := Ground.guard }], guard := some (10, false) }) rfl (fun K hK => ?_) AllReadyH.nil)
  · have HH := hidden hH1
    clear hH1
    go_simp
    refine (CR.out _).mono ?_
    rintro e wn2 ⟨rfl, rfl⟩
    have SN := hidden (HH.out)
    clear HH CR
    go_wp2_with fail
    refine hK.out _ _ SN.out (fun hH2 => ?_)
    clear hK K SN
    refine wpAnyH_ready (rs := [21]) (by kernel_rfl) (by simp) ?_
    refine AllReadyH.cons (o := { dst := some 32, op := Op.buildSlice 72 3 #[(0, Operand.tmp 26), (1, Operand.tmp 29), (2, Operand.tmp 31)], type := 72, pos := "rounds.go:49", after := #[{ on := 15, ground := Ground.data }, { on := 18, ground := Ground.data }, { on := 20, ground := Ground.data }, { on := 10, ground := Ground.guard }], guard := some (10, false) }) rfl (fun K hK => ?_) AllReadyH.nil
    have HH := hidden hH2
    clear hH2
    refine Eq.mpr (if_pos (by exact rfl)) ?_
    refine wp_buildI3 (.tmp 26) (.tmp 29) (.tmp 31) rfl (k : Int) (k : Int) (k : Int) rfl rfl rfl (fun m1 wn3 hm hb hc => ?_)
    have RM := hidden (hc)
    have GM := hidden (And.intro hm hb)
    have SN := hidden (bl_trans HH.out hb)
    clear HH 
    simp only [Act.put, List.setIfInBounds_toArray, List.set_cons_zero, List.set_cons_succ]
    refine hK.out _ _ SN.out (fun hH3 => ?_)
    clear hK K SN
    refine wpAnyH_ready (rs := [22]) (by kernel_rfl) (by simp) ?_
    refine AllReadyH.cons (o := { dst := some 33, op := Op.call { callee := Callee.value (Operand.func 33), args := #[Operand.tmp 23, Operand.tmp 32], argTypes := #[3, 72] }, type := 4, pos := "rounds.go:49", after := #[{ on := 12, ground := Ground.data }, { on := 21, ground := Ground.data }, { on := 12, ground := Ground.chain }, { on := 10, ground := Ground.guard }], guard := some (10, false) }) rfl (fun K hK => ?_) AllReadyH.nil
    have HH := hidden hH3
    clear hH3
    go_simp
    refine (CA.out _ _ RM.out).mono ?_
    rintro e wn4 ⟨rfl, rfl⟩
    have SN := hidden (HH.out)
    clear HH CA
    go_wp2_with fail
    refine hK.out _ _ SN.out (fun hH4 => ?_)
    clear hK K SN
    refine wpAnyH_take (i := 23) (oi := { dst := some 34, op := Op.unOp UnOp.not 4 (Operand.tmp 33), type := 4, pos := "rounds.go:49", after := #[{ on := 22, ground := Ground.data }, { on := 10, ground := Ground.guard }], guard := some (10, false) }) (v := .bool false) rfl (by kernel_rfl) (by kernel_rfl) (by kernel_rfl) (fun _ _ _ h => h) (Or.inl ⟨by rfl, fun w0 hSw => ?_⟩) hH4 ?_
    · (clear hSw; go_simp)
    simp only [Act.put, List.setIfInBounds_toArray, List.set_cons_zero, List.set_cons_succ]
    refine wpAnyH_take (i := 24) (oi := { dst := some 35, op := Op.pick (Operand.tmp 21) (Operand.const (Value.bool true)) (Operand.tmp 34), type := 4, pos := "rounds.go:49", after := #[{ on := 10, ground := Ground.data }, { on := 23, ground := Ground.data }], guard := none }) (v := .bool false) rfl (by kernel_rfl) (by kernel_rfl) (by kernel_rfl) (fun _ _ _ h => h) (Or.inl ⟨by rfl, fun w0 hSw => ?_⟩) hH4 ?_
    · (clear hSw; go_simp)
    simp only [Act.put, List.setIfInBounds_toArray, List.set_cons_zero, List.set_cons_succ]
    have HH := hidden hH4
    have FQ := hidden (HQ.out m1 _ HH.out)
    refine wpAnyH_done (by kernel_rfl) ?_ _
    refine NoPanic.normal ?_
    exact FQ.out
  · have HH := hidden hH1
    clear hH1
    refine Eq.mpr (if_pos (by exact rfl)) ?_
    refine wp_buildI3 (.tmp 26) (.tmp 29) (.tmp 31) rfl (k : Int) (k : Int) (k : Int) rfl rfl rfl (fun m1 wn2 hm hb hc => ?_)
    have RM := hidden (hc)
    have GM := hidden (And.intro hm hb)
    have SN := hidden (bl_trans HH.out hb)
    clear HH 
    simp only [Act.put, List.setIfInBounds_toArray, List.set_cons_zero, List.set_cons_succ]
    refine hK.out _ _ SN.out (fun hH2 => ?_)
    clear hK K SN
    refine wpAnyH_ready (rs := [12]) (by kernel_rfl) (by simp) ?_
    refine AllReadyH.cons (o := { dst := some 23, op := Op.call { callee := Callee.value (Operand.func 34), args := #[Operand.tmp 22], argTypes := #[3] }, type := 3, pos := "rounds.go:49", after := #[{ on := 11, ground := Ground.data }, { on := 10, ground := Ground.chain }, { on := 10, ground := Ground.guard }], guard := some (10, false) }) rfl (fun K hK => ?_) AllReadyH.nil
    have HH := hidden hH2
    clear hH2
    go_simp
    refine (CR.out _).mono ?_
    rintro e wn3 ⟨rfl, rfl⟩
    have SN := hidden (HH.out)
    clear HH CR
    go_wp2_with fail
    refine hK.out _ _ SN.out (fun hH3 => ?_)
    clear hK K SN
    refine wpAnyH_ready (rs := [22]) (by kernel_rfl) (by simp) ?_
    refine AllReadyH.cons (o := { dst := some 33, op := Op.call { callee := Callee.value (Operand.func 33), args := #[Operand.tmp 23, Operand.tmp 32], argTypes := #[3, 72] }, type := 4, pos := "rounds.go:49", after := #[{ on := 12, ground := Ground.data }, { on := 21, ground := Ground.data }, { on := 12, ground := Ground.chain }, { on := 10, ground := Ground.guard }], guard := some (10, false) }) rfl (fun K hK => ?_) AllReadyH.nil
    have HH := hidden hH3
    clear hH3
    go_simp
    refine (CA.out _ _ RM.out).mono ?_
    rintro e wn4 ⟨rfl, rfl⟩
    have SN := hidden (HH.out)
    clear HH CA
    go_wp2_with fail
    refine hK.out _ _ SN.out (fun hH4 => ?_)
    clear hK K SN
    refine wpAnyH_take (i := 23) (oi := { dst := some 34, op := Op.unOp UnOp.not 4 (Operand.tmp 33), type := 4, pos := "rounds.go:49", after := #[{ on := 22, ground := Ground.data }, { on := 10, ground := Ground.guard }], guard := some (10, false) }) (v := .bool false) rfl (by kernel_rfl) (by kernel_rfl) (by kernel_rfl) (fun _ _ _ h => h) (Or.inl ⟨by rfl, fun w0 hSw => ?_⟩) hH4 ?_
    · (clear hSw; go_simp)
    simp only [Act.put, List.setIfInBounds_toArray, List.set_cons_zero, List.set_cons_succ]
    refine wpAnyH_take (i := 24) (oi := { dst := some 35, op := Op.pick (Operand.tmp 21) (Operand.const (Value.bool true)) (Operand.tmp 34), type := 4, pos := "rounds.go:49", after := #[{ on := 10, ground := Ground.data }, { on := 23, ground := Ground.data }], guard := none }) (v := .bool false) rfl (by kernel_rfl) (by kernel_rfl) (by kernel_rfl) (fun _ _ _ h => h) (Or.inl ⟨by rfl, fun w0 hSw => ?_⟩) hH4 ?_
    · (clear hSw; go_simp)
    simp only [Act.put, List.setIfInBounds_toArray, List.set_cons_zero, List.set_cons_succ]
    have HH := hidden hH4
    have FQ := hidden (HQ.out m1 _ HH.out)
    refine wpAnyH_done (by kernel_rfl) ?_ _
    refine NoPanic.normal ?_
    exact FQ.out
set_option maxRecDepth 100000 in
set_option maxHeartbeats 4000000 in
theorem refusal_any (x : Sx) (k lc rc uc : Nat) (lp rp up : Option Addr) (w : World) (hk : k ≤ 5) (n0 : x.n = 2 ^ k) (ZA : ∀ y, Below w.heap.size w y → Calls Tryd.prog 23 #[.slice up k uc] y fun e w' => e = .returned (.int .i64 0) ∧ Below y.heap.size y w') :
    Calls Tryd.prog 15 #[x.v, .agg #[.slice lp k lc, .slice rp k rc, .int .u64 0, .int .u64 0, .int .u64 0, .int .u64 0, .int .u64 0, .int .u64 0, .int .u64 0, .int .u64 0], .slice up k uc] w fun e w' => e = .returned (.int .i64 0) ∧ Below w.heap.size w w' := by
  obtain ⟨p, q, n, g, gc, h, hc⟩ := x
  simp only at n0
  subst n0
  have M1 := ((Mw.start w).new (sc p q (.slice (some ⟨g, 0, none⟩) (2 ^ k) gc) (.slice (some ⟨h, 0, none⟩) (2 ^ k) hc)) 35).new [.slice lp k lc, .slice rp k rc, .int .u64 0, .int .u64 0, .int .u64 0, .int .u64 0, .int .u64 0, .int .u64 0, .int .u64 0, .int .u64 0] 31
  simp only [World.size_alloc] at M1
  have CS := hidden (fun y => isSize_any k hk y)
  have CR := hidden (fun y => rnds_any k hk y)
  obtain ⟨n, hn⟩ : ∃ n, 2 ^ k = n := ⟨_, rfl⟩
  unfold Sx.v Sx.cs
  simp only [hn] at *
  clear hn
  have MM := hidden M1
  have HZ := hidden ZA
  clear M1 ZA
  go_enter Tryd.func15, Tryd.ntmps15
  generalize hw2 : (w.alloc (.cells (sc p q (.slice (some ⟨g, 0, none⟩) n gc) (.slice (some ⟨h, 0, none⟩) n hc)).toArray 35)).alloc (.cells #[.slice lp k lc, .slice rp k rc, .int .u64 0, .int .u64 0, .int .u64 0, .int .u64 0, .int .u64 0, .int .u64 0, .int .u64 0, .int .u64 0] 31) = wx at MM
  have rP := (MM.out.r (w.heap.size, sc p q (.slice (some ⟨g, 0, none⟩) n gc) (.slice (some ⟨h, 0, none⟩) n hc)) (by simp)).1
  have rA := (MM.out.r (w.heap.size + 1, [.slice lp k lc, .slice rp k rc, .int .u64 0, .int .u64 0, .int .u64 0, .int .u64 0, .int .u64 0, .int .u64 0, .int .u64 0, .int .u64 0]) (by simp)).1
  have c8 := rP 8 _ rfl
  have c9 := rP 9 _ rfl
  have d0 := rA 0 _ rfl
  have d1 := rA 1 _ rfl
  simp only [Nat.zero_add] at c8 c9 d0 d1
  clear rP rA
  go_upto_region 2 with fail
  refine rf2 _ w.heap.size (w.heap.size + 1) n k h hc lc rc uc lp rp up _ _ _ _ _ _ _ _ _ _ _ _ _ _ _ _ _ _ _ _ _ _ _ _ _ _ _ _ _ _ _ _ _ _ wx c9 d0 d1 CS CR (hidden (fun y m1 hr => alike_any k m1 3 (by omega) y hr)) (hidden ?_)
  intro m1 wz hb
  have B1 := hidden (bl_trans MM.out.bel hb)
  clear hb MM CS CR c8 c9 d0 d1
  go_wp2_with (first | (go_at_call 23; refine (HZ.out _ B1.out).mono ?_; rintro e w1 ⟨rfl, hb1⟩; have B2 := hidden (bl_trans B1.out hb1); clear hb1))
  refine bodyPost_ret (v := .int .i64 0) (by simp [results, Tryd.results15, go_sem]) rfl ⟨rfl, B2.out⟩
end Rp
end Go.Proofs.YtaejedhdpilhjaaDoor
namespace Go.Proofs.YtaejedhdpilhjaaDoor
namespace Rp
open Go.RowKit
set_option linter.unusedVariables false
set_option linter.unusedSimpArgs false
theorem wp_allocF {o : Oper} {a : Act} {w : World} {K : Act → World → Prop} {Q : Exit → Act → World → Prop} (ho : o.op = .alloc 37)
    (h : ∀ (tb : Nat) (w1 : World), w.heap.size ≤ tb → Below w.heap.size w w1 → w1.cell? ⟨tb, 0, none⟩ = some .nilFunc → w1.there tb 0 1 → K (a.put o.dst (.pointer (some ⟨tb, 0, none⟩))) w1) : o.wp Tryd.prog a w K Q := by
  have hz : (zeroValue 37).run Tryd.prog w = .ok .nilFunc w := by kernel_rfl
  have hk := h w.heap.size (w.alloc (.cells #[.nilFunc] 37)) (Nat.le_refl _) (bl_alloc _ _) (by have := range_newM w [.nilFunc] 37 0 .nilFunc rfl; exact this) (there_newM w [.nilFunc] 37)
  clear h
  unfold Oper.wp execOp
  simp [ho, Instr.alloc, hz]
  exact hk
theorem wp_storeFn {o : Oper} {a : Act} {w : World} {K : Act → World → Prop} {Q : Exit → Act → World → Prop} {T : TypeId} {x y : Operand} (ho : o.op = .store T x y) (hz : ∀ w, (sizeOf T).run Tryd.prog w = .ok 1 w) (b : Nat) (fn : Fn) (f c : Array Value) (hx : a.eval x = .pointer (some ⟨b, 0, none⟩)) (hy : a.eval y = .func fn f c) {u : Value} (hc : w.cell? ⟨b, 0, none⟩ = some u) (ht : w.there b 0 1)
    (h : ∀ w1, w1 = w.setCell ⟨b, 0, none⟩ (.func fn f c) → w.grownBy w1 (some b) → K (a.put o.dst undef) w1) : o.wp Tryd.prog a w K Q := by
  have hf : w.frozen? ⟨b, 0, none⟩ = false := (ht 0 (by omega)).2
  have hs := fun m => stF (P := Tryd.prog) fn f c m hc hf
  have hk := h _ rfl (grownBy_setCell' w b _)
  clear h
  unfold Oper.wp execOp
  have hz' := hz w
  simp only [ho, hx, hy]
  go_simp
  exact hk
theorem below_box {W w w' : World} {b : Nat} (h : Below W.heap.size W w) (hg : w.grownBy w' (some b)) (hb : W.heap.size ≤ b) : Below W.heap.size W w' := h.grown hg h.size (fun j hj => by obtain rfl := Option.some.inj hj; exact hb)
def rr3o : Array Oper := #[{ dst := some 13, op := Op.load 35 (Operand.tmp 3), type := 35, pos := "rounds.go:18", after := #[], guard := none },
  { dst := some 14, op := Op.call { callee := Callee.value (Operand.func 18), args := #[Operand.tmp 13], argTypes := #[35] }, type := 35, pos := "rounds.go:18", after := #[{ on := 0, ground := Ground.data }], guard := none },
  { dst := some 15, op := Op.fieldAddr 31 (Operand.tmp 4) 0, type := 0, pos := "rounds.go:18", after := #[], guard := none },
  { dst := some 16, op := Op.load 29 (Operand.tmp 15), type := 29, pos := "rounds.go:18", after := #[{ on := 2, ground := Ground.data }], guard := none },
  { dst := some 17, op := Op.call { callee := Callee.value (Operand.func 19), args := #[Operand.tmp 16], argTypes := #[29] }, type := 29, pos := "rounds.go:18", after := #[{ on := 3, ground := Ground.data }, { on := 1, ground := Ground.chain }], guard := none },
  { dst := some 18, op := Op.fieldAddr 31 (Operand.tmp 4) 1, type := 0, pos := "rounds.go:18", after := #[], guard := none },
  { dst := some 19, op := Op.load 29 (Operand.tmp 18), type := 29, pos := "rounds.go:18", after := #[{ on := 5, ground := Ground.data }], guard := none },
  { dst := some 20, op := Op.call { callee := Callee.value (Operand.func 19), args := #[Operand.tmp 19], argTypes := #[29] }, type := 29, pos := "rounds.go:18", after := #[{ on := 6, ground := Ground.data }, { on := 4, ground := Ground.chain }], guard := none },
  { dst := some 21, op := Op.build 31 #[(0, Operand.tmp 17), (1, Operand.tmp 20)], type := 31, pos := "rounds.go:18", after := #[{ on := 4, ground := Ground.data }, { on := 7, ground := Ground.data }], guard := none },
  { dst := some 22, op := Op.move (Operand.tmp 2), type := 23, pos := "rounds.go:18", after := #[], guard := none },
  { dst := some 23, op := Op.call { callee := Callee.value (Operand.func 20), args := #[Operand.tmp 22], argTypes := #[23] }, type := 23, pos := "rounds.go:18", after := #[{ on := 9, ground := Ground.data }, { on := 7, ground := Ground.chain }], guard := none },
  { dst := some 24, op := Op.call { callee := Callee.value (Operand.func 17), args := #[Operand.tmp 14, Operand.tmp 21, Operand.tmp 23], argTypes := #[35, 31, 23] }, type := 37, pos := "rounds.go:18", after := #[{ on := 1, ground := Ground.data }, { on := 8, ground := Ground.data }, { on := 10, ground := Ground.data }, { on := 10, ground := Ground.chain }], guard := none },
  { dst := some 7, op := Op.alloc 37, type := 0, pos := "rounds.go:18", after := #[], guard := none },
  { dst := none, op := Op.store 37 (Operand.tmp 7) (Operand.tmp 24), type := 0, pos := "rounds.go:18", after := #[{ on := 12, ground := Ground.data }, { on := 11, ground := Ground.data }, { on := 11, ground := Ground.chain }, { on := 0, ground := Ground.phase }, { on := 1, ground := Ground.phase }, { on := 2, ground := Ground.phase }, { on := 3, ground := Ground.phase }, { on := 4, ground := Ground.phase }, { on := 5, ground := Ground.phase }, { on := 6, ground := Ground.phase }, { on := 7, ground := Ground.phase }, { on := 8, ground := Ground.phase }, { on := 9, ground := Ground.phase }, { on := 10, ground := Ground.phase }, { on := 11, ground := Ground.phase }, { on := 12, ground := Ground.phase }], guard := none }]
set_option maxRecDepth 100000 in
set_option maxHeartbeats 16000000 in
theorem rr3 (Q : Exit → Act → World → Prop) (ud : TypeDesc) (T3 T4 k la lc ra rc uc : Nat) (up : Option Addr) (C : List Value) (R1 R4 : World → Value → Prop) (R2 R3 : World → Nat → Nat → Prop) (R5 : World → Value → Nat → Nat → Nat → Nat → Value → Nat → Nat → Nat → Prop) (u0 u1 u5 u6 u7 u8 u9 u10 u11 u12 u13 u14 u15 u16 u17 u18 u19 u20 u21 u22 u23 u24 u25 : Value) (W : World)
    (rc0 : W.rangeAt T3 0 C) (IT : Hid ((Tryd.prog.info? 35).map (·.size) = some C.length)) (UT : Hid (Tryd.prog.underlying 35 = some ud)) (ur : ud.isRow = true) (d0 : W.cell? ⟨T4, 0, none⟩ = some (.slice (some ⟨la, 0, none⟩) k lc)) (d1 : W.cell? ⟨T4, 1, none⟩ = some (.slice (some ⟨ra, 0, none⟩) k rc))
    (K1 : Hid (∀ (v v' : World) (a : Value), R1 v a → Below v.heap.size v v' → R1 v' a)) (K2 : Hid (∀ (v v' : World) (a b : Nat), R2 v a b → Below v.heap.size v v' → R2 v' a b)) (K3 : Hid (∀ (v v' : World) (a b : Nat), R3 v a b → Below v.heap.size v v' → R3 v' a b)) (K4 : Hid (∀ (v v' : World) (a : Value), R4 v a → Below v.heap.size v v' → R4 v' a))
    (K5 : Hid (∀ (v v' : World) (a : Value) (b c d e : Nat) (f : Value) (g h i : Nat), R5 v a b c d e f g h i → Below v.heap.size v v' → R5 v' a b c d e f g h i))
    (C1 : Hid (∀ y, Below W.heap.size W y → Calls Tryd.prog 18 #[.agg C.toArray] y fun e w' => ∃ D1 : Value, e = .returned (D1) ∧ R1 w' D1 ∧ Below y.heap.size y w'))
    (C4 : Hid (∀ y, Below W.heap.size W y → Calls Tryd.prog 19 #[.slice (some ⟨la, 0, none⟩) k lc] y fun e w' => ∃ n2 m2 : Nat, e = .returned (.slice (some ⟨n2, 0, none⟩) k m2) ∧ R2 w' n2 m2 ∧ Below y.heap.size y w'))
    (C7 : Hid (∀ y, Below W.heap.size W y → Calls Tryd.prog 19 #[.slice (some ⟨ra, 0, none⟩) k rc] y fun e w' => ∃ n3 m3 : Nat, e = .returned (.slice (some ⟨n3, 0, none⟩) k m3) ∧ R3 w' n3 m3 ∧ Below y.heap.size y w'))
    (C10 : Hid (∀ y, Below W.heap.size W y → Calls Tryd.prog 20 #[.slice up k uc] y fun e w' => ∃ D4 : Value, e = .returned (D4) ∧ R4 w' D4 ∧ Below y.heap.size y w'))
    (C11 : Hid (∀ (y : World) (D1 : Value) (n2 m2 n3 m3 : Nat) (D4 : Value), R1 y D1 → R2 y n2 m2 → R3 y n3 m3 → R4 y D4 → Calls Tryd.prog 17 #[D1, .agg #[.slice (some ⟨n2, 0, none⟩) k m2, .slice (some ⟨n3, 0, none⟩) k m3, .int .u64 0, .int .u64 0, .int .u64 0, .int .u64 0, .int .u64 0, .int .u64 0, .int .u64 0, .int .u64 0], D4] y fun e w' => ∃ Bs Bu Bx : Nat, e = .returned (.func (.func 35) #[] #[.pointer (some ⟨Bs, 0, none⟩), .pointer (some ⟨Bu, 0, none⟩), .pointer (some ⟨Bx, 0, none⟩)]) ∧ R5 w' D1 n2 m2 n3 m3 D4 Bs Bu Bx ∧ Below y.heap.size y w'))
    (HQ : Hid (∀ (D1 : Value) (n2 m2 n3 m3 : Nat) (D4 : Value) (Bs Bu Bx tb : Nat) (wz : World), W.heap.size ≤ tb → (∃ wy, Below W.heap.size W wy ∧ R5 wy D1 n2 m2 n3 m3 D4 Bs Bu Bx ∧ wy.cell? ⟨tb, 0, none⟩ = some .nilFunc ∧ wz = wy.setCell ⟨tb, 0, none⟩ (.func (.func 35) #[] #[.pointer (some ⟨Bs, 0, none⟩), .pointer (some ⟨Bu, 0, none⟩), .pointer (some ⟨Bx, 0, none⟩)])) → Q .normal ⟨#[u0, u1, .slice up k uc, .pointer (some ⟨T3, 0, none⟩), .pointer (some ⟨T4, 0, none⟩), u5, u6, .pointer (some ⟨tb, 0, none⟩), u8, u9, u10, u11, u12, .agg C.toArray, D1, .pointer (some ⟨T4, 0, none⟩), .slice (some ⟨la, 0, none⟩) k lc, .slice (some ⟨n2, 0, none⟩) k m2, .pointer (some ⟨T4, 1, none⟩), .slice (some ⟨ra, 0, none⟩) k rc, .slice (some ⟨n3, 0, none⟩) k m3, .agg #[.slice (some ⟨n2, 0, none⟩) k m2, .slice (some ⟨n3, 0, none⟩) k m3, .int .u64 0, .int .u64 0, .int .u64 0, .int .u64 0, .int .u64 0, .int .u64 0, .int .u64 0, .int .u64 0], .slice up k uc, D4, .func (.func 35) #[] #[.pointer (some ⟨Bs, 0, none⟩), .pointer (some ⟨Bu, 0, none⟩), .pointer (some ⟨Bx, 0, none⟩)], u25], []⟩ wz)) : (Code.region 3 rr3o true).wp Tryd.prog Q ⟨#[u0, u1, .slice up k uc, .pointer (some ⟨T3, 0, none⟩), .pointer (some ⟨T4, 0, none⟩), u5, u6, u7, u8, u9, u10, u11, u12, u13, u14, u15, u16, u17, u18, u19, u20, u21, u22, u23, u24, u25], []⟩ W := by
  have RC := hidden rc0
  clear rc0
  unfold rr3o
  refine wp_region_noPanic ?_
  refine wp_region_held_drew (S := fun x => Below W.heap.size W x) (by kernel_rfl) (bl_drewR W) (fun hH0 => ?_)
  refine wpAnyH_take (i := 0) (oi := { dst := some 13, op := Op.load 35 (Operand.tmp 3), type := 35, pos := "rounds.go:18", after := #[], guard := none }) (v := .agg (C).toArray) rfl (by kernel_rfl) (by kernel_rfl) (by kernel_rfl) (fun _ _ _ h => h) (yieldsIf_load_mid (by rfl) 35 _ rfl (T3) (0) rfl (C) _ (fun w0 hSw => range_keepM RC.out hSw) UT.out ur IT.out) hH0 ?_
  simp only [Act.put, List.setIfInBounds_toArray, List.set_cons_zero, List.set_cons_succ]
  refine wpAnyH_take (i := 2) (oi := { dst := some 15, op := Op.fieldAddr 31 (Operand.tmp 4) 0, type := 0, pos := "rounds.go:18", after := #[], guard := none }) (v := .pointer (some ⟨T4, 0, none⟩)) rfl (by kernel_rfl) (by kernel_rfl) (by kernel_rfl) (fun _ _ _ h => h) (Or.inl ⟨by rfl, fun w0 hSw => ?_⟩) hH0 ?_
  · (clear hSw; go_simp)
  simp only [Act.put, List.setIfInBounds_toArray, List.set_cons_zero, List.set_cons_succ]
  refine wpAnyH_take (i := 5) (oi := { dst := some 18, op := Op.fieldAddr 31 (Operand.tmp 4) 1, type := 0, pos := "rounds.go:18", after := #[], guard := none }) (v := .pointer (some ⟨T4, 1, none⟩)) rfl (by kernel_rfl) (by kernel_rfl) (by kernel_rfl) (fun _ _ _ h => h) (Or.inl ⟨by rfl, fun w0 hSw => ?_⟩) hH0 ?_
  · (clear hSw; go_simp)
  simp only [Act.put, List.setIfInBounds_toArray, List.set_cons_zero, List.set_cons_succ]
  refine wpAnyH_take (i := 9) (oi := { dst := some 22, op := Op.move (Operand.tmp 2), type := 23, pos := "rounds.go:18", after := #[], guard := none }) (v := .slice up k uc) rfl (by kernel_rfl) (by kernel_rfl) (by kernel_rfl) (fun _ _ _ h => h) (Or.inl ⟨by rfl, fun w0 hSw => ?_⟩) hH0 ?_
  · (clear hSw; go_simp)
  simp only [Act.put, List.setIfInBounds_toArray, List.set_cons_zero, List.set_cons_succ]
  refine wpAnyH_take (i := 3) (oi := { dst := some 16, op := Op.load 29 (Operand.tmp 15), type := 29, pos := "rounds.go:18", after := #[{ on := 2, ground := Ground.data }], guard := none }) (v := .slice (some ⟨la, 0, none⟩) k lc) rfl (by kernel_rfl) (by kernel_rfl) (by kernel_rfl) (fun _ _ _ h => h) (Or.inl ⟨by rfl, fun w0 hSw => ?_⟩) hH0 ?_
  · (have hS : Below W.heap.size W w0 := hSw; have a0 := cell_keep d0 hS; clear hS hSw; go_simp)
  simp only [Act.put, List.setIfInBounds_toArray, List.set_cons_zero, List.set_cons_succ]
  refine wpAnyH_take (i := 6) (oi := { dst := some 19, op := Op.load 29 (Operand.tmp 18), type := 29, pos := "rounds.go:18", after := #[{ on := 5, ground := Ground.data }], guard := none }) (v := .slice (some ⟨ra, 0, none⟩) k rc) rfl (by kernel_rfl) (by kernel_rfl) (by kernel_rfl) (fun _ _ _ h => h) (Or.inl ⟨by rfl, fun w0 hSw => ?_⟩) hH0 ?_
  · (have hS : Below W.heap.size W w0 := hSw; have a0 := cell_keep d1 hS; clear hS hSw; go_simp)
  simp only [Act.put, List.setIfInBounds_toArray, List.set_cons_zero, List.set_cons_succ]
  refine wpAnyH_ready (rs := [1, 12]) (by kernel_rfl) (by simp) ?_
  refine AllReadyH.cons (o := { dst := some 14, op := Op.call { callee := Callee.value (Operand.func 18), args := #[Operand.tmp 13], argTypes := #[35] }, type := 35, pos := "rounds.go:18", after := #[{ on := 0, ground := Ground.data }], guard := none }) rfl (fun K hK => ?_) (AllReadyH.cons (o := { dst := some 7, op := Op.alloc 37, type := 0, pos := "rounds.go:18", after := #[], guard := none }) rfl (fun K hK => ?_) AllReadyH.nil)
  · have HH := hidden hH0
    clear hH0
    go_simp
    refine (C1.out _ HH.out).mono ?_
    rintro e wn1 ⟨D1, rfl, h1, hb⟩
    have G1 := hidden (h1)
    have SN := hidden (bl_trans HH.out hb)
    clear HH C1 h1 hb
    go_wp2_with fail
    refine hK.out _ _ SN.out (fun hH1 => ?_)
    clear hK K SN
    refine wpAnyH_ready (rs := [4, 12]) (by kernel_rfl) (by simp) ?_
    refine AllReadyH.cons (o := { dst := some 17, op := Op.call { callee := Callee.value (Operand.func 19), args := #[Operand.tmp 16], argTypes := #[29] }, type := 29, pos := "rounds.go:18", after := #[{ on := 3, ground := Ground.data }, { on := 1, ground := Ground.chain }], guard := none }) rfl (fun K hK => ?_) (AllReadyH.cons (o := { dst := some 7, op := Op.alloc 37, type := 0, pos := "rounds.go:18", after := #[], guard := none }) rfl (fun K hK => ?_) AllReadyH.nil)
    · have HH := hidden hH1
      clear hH1
      go_simp
      refine (C4.out _ HH.out).mono ?_
      rintro e wn2 ⟨n2, m2, rfl, h1, hb⟩
      have G2 := hidden (h1)
      replace G1 := hidden (K1.out _ _ _ G1.out hb)
      have SN := hidden (bl_trans HH.out hb)
      clear HH C4 h1 hb
      go_wp2_with fail
      refine hK.out _ _ SN.out (fun hH2 => ?_)
      clear hK K SN
      refine wpAnyH_ready (rs := [7, 12]) (by kernel_rfl) (by simp) ?_
      refine AllReadyH.cons (o := { dst := some 20, op := Op.call { callee := Callee.value (Operand.func 19), args := #[Operand.tmp 19], argTypes := #[29] }, type := 29, pos := "rounds.go:18", after := #[{ on := 6, ground := Ground.data }, { on := 4, ground := Ground.chain }], guard := none }) rfl (fun K hK => ?_) (AllReadyH.cons (o := { dst := some 7, op := Op.alloc 37, type := 0, pos := "rounds.go:18", after := #[], guard := none }) rfl (fun K hK => ?_) AllReadyH.nil)
      · have HH := hidden hH2
        clear hH2
        go_simp
        refine (C7.out _ HH.out).mono ?_
        rintro e wn3 ⟨n3, m3, rfl, h1, hb⟩
        have G3 := hidden (h1)
        replace G1 := hidden (K1.out _ _ _ G1.out hb)
        replace G2 := hidden (K2.out _ _ _ _ G2.out hb)
        have SN := hidden (bl_trans HH.out hb)
        clear HH C7 h1 hb
        go_wp2_with fail
        refine hK.out _ _ SN.out (fun hH3 => ?_)
        clear hK K SN
        refine wpAnyH_take (i := 8) (oi := { dst := some 21, op := Op.build 31 #[(0, Operand.tmp 17), (1, Operand.tmp 20)], type := 31, pos := "rounds.go:18", after := #[{ on := 4, ground := Ground.data }, { on := 7, ground := Ground.data }], guard := none }) (v := .agg #[.slice (some ⟨n2, 0, none⟩) k m2, .slice (some ⟨n3, 0, none⟩) k m3, .int .u64 0, .int .u64 0, .int .u64 0, .int .u64 0, .int .u64 0, .int .u64 0, .int .u64 0, .int .u64 0]) rfl (by kernel_rfl) (by kernel_rfl) (by kernel_rfl) (fun _ _ _ h => h) (Or.inl ⟨by rfl, fun w0 hSw => ?_⟩) hH3 ?_
        · (clear hSw; go_simp)
        simp only [Act.put, List.setIfInBounds_toArray, List.set_cons_zero, List.set_cons_succ]
        refine wpAnyH_ready (rs := [10, 12]) (by kernel_rfl) (by simp) ?_
        refine AllReadyH.cons (o := { dst := some 23, op := Op.call { callee := Callee.value (Operand.func 20), args := #[Operand.tmp 22], argTypes := #[23] }, type := 23, pos := "rounds.go:18", after := #[{ on := 9, ground := Ground.data }, { on := 7, ground := Ground.chain }], guard := none }) rfl (fun K hK => ?_) (AllReadyH.cons (o := { dst := some 7, op := Op.alloc 37, type := 0, pos := "rounds.go:18", after := #[], guard := none }) rfl (fun K hK => ?_) AllReadyH.nil)
        · have HH := hidden hH3
          clear hH3
          go_simp
          refine (C10.out _ HH.out).mono ?_
          rintro e wn4 ⟨D4, rfl, h1, hb⟩
          have G4 := hidden (h1)
          replace G1 := hidden (K1.out _ _ _ G1.out hb)
          replace G2 := hidden (K2.out _ _ _ _ G2.out hb)
          replace G3 := hidden (K3.out _ _ _ _ G3.out hb)
          have SN := hidden (bl_trans HH.out hb)
          clear HH C10 h1 hb
          go_wp2_with fail
          refine hK.out _ _ SN.out (fun hH4 => ?_)
          clear hK K SN
          refine wpAnyH_ready (rs := [11, 12]) (by kernel_rfl) (by simp) ?_
          refine AllReadyH.cons (o := { dst := some 24, op := Op.call { callee := Callee.value (Operand.func 17), args := #[Operand.tmp 14, Operand.tmp 21, Operand.tmp 23], argTypes := #[35, 31, 23] }, type := 37, pos := "rounds.go:18", after := #[{ on := 1, ground := Ground.data }, { on := 8, ground := Ground.data }, { on := 10, ground := Ground.data }, { on := 10, ground := Ground.chain }], guard := none }) rfl (fun K hK => ?_) (AllReadyH.cons (o := { dst := some 7, op := Op.alloc 37, type := 0, pos := "rounds.go:18", after := #[], guard := none }) rfl (fun K hK => ?_) AllReadyH.nil)
          · have HH := hidden hH4
            clear hH4
            go_simp
            refine (C11.out _ D1 n2 m2 n3 m3 D4 G1.out G2.out G3.out G4.out).mono ?_
            rintro e wn5 ⟨Bs, Bu, Bx, rfl, h1, hb⟩
            have G5 := hidden (h1)
            have SZ := hidden (HH.out.size)
            have SN := hidden (bl_trans HH.out hb)
            clear HH C11 h1 hb G1 G2 G3 G4 SZ
            go_wp2_with fail
            refine hK.out _ _ SN.out (fun hH5 => ?_)
            clear hK K SN
            refine wpAnyH_ready (rs := [12]) (by kernel_rfl) (by simp) ?_
            refine AllReadyH.cons (o := { dst := some 7, op := Op.alloc 37, type := 0, pos := "rounds.go:18", after := #[], guard := none }) rfl (fun K hK => ?_) AllReadyH.nil
            have HH := hidden hH5
            clear hH5
            refine wp_allocF rfl (fun tb wn6 ht hb hc hh => ?_)
            have NF := hidden (hc)
            have NH := hidden (hh)
            have TL := hidden (Nat.le_trans HH.out.size ht)
            replace G5 := hidden (K5.out _ _ _ _ _ _ _ _ _ _ _ G5.out hb)
            have SN := hidden (bl_trans HH.out hb)
            clear HH ht hb hc hh
            simp only [Act.put, List.setIfInBounds_toArray, List.set_cons_zero, List.set_cons_succ]
            refine hK.out _ _ SN.out (fun hH6 => ?_)
            clear hK K SN
            refine wpAnyH_ready (rs := [13]) (by kernel_rfl) (by simp) ?_
            refine AllReadyH.cons (o := { dst := none, op := Op.store 37 (Operand.tmp 7) (Operand.tmp 24), type := 0, pos := "rounds.go:18", after := #[{ on := 12, ground := Ground.data }, { on := 11, ground := Ground.data }, { on := 11, ground := Ground.chain }, { on := 0, ground := Ground.phase }, { on := 1, ground := Ground.phase }, { on := 2, ground := Ground.phase }, { on := 3, ground := Ground.phase }, { on := 4, ground := Ground.phase }, { on := 5, ground := Ground.phase }, { on := 6, ground := Ground.phase }, { on := 7, ground := Ground.phase }, { on := 8, ground := Ground.phase }, { on := 9, ground := Ground.phase }, { on := 10, ground := Ground.phase }, { on := 11, ground := Ground.phase }, { on := 12, ground := Ground.phase }], guard := none }) rfl (fun K hK => ?_) AllReadyH.nil
            have HH := hidden hH6
            clear hH6
            refine wp_storeFn (T := 37) rfl (fun _ => by kernel_rfl) tb (.func 35) #[] #[.pointer (some ⟨Bs, 0, none⟩), .pointer (some ⟨Bu, 0, none⟩), .pointer (some ⟨Bx, 0, none⟩)] (by rfl) (by rfl) NF.out NH.out (fun wn7 hw hg => ?_)
            have FE := hidden ((⟨_, HH.out, G5.out, NF.out, hw⟩ : ∃ wy, Below W.heap.size W wy ∧ R5 wy D1 n2 m2 n3 m3 D4 Bs Bu Bx ∧ wy.cell? ⟨tb, 0, none⟩ = some .nilFunc ∧ _ = wy.setCell ⟨tb, 0, none⟩ (.func (.func 35) #[] #[.pointer (some ⟨Bs, 0, none⟩), .pointer (some ⟨Bu, 0, none⟩), .pointer (some ⟨Bx, 0, none⟩)])))
            have SN := hidden (below_box HH.out hg TL.out)
            clear HH hw hg
            simp only [Act.put, List.setIfInBounds_toArray, List.set_cons_zero, List.set_cons_succ]
            refine hK.out _ _ SN.out (fun hH7 => ?_)
            clear hK K SN
            have HH := hidden hH7
            have FQ := hidden (HQ.out D1 n2 m2 n3 m3 D4 Bs Bu Bx tb _ TL.out FE.out)
            refine wpAnyH_done (by kernel_rfl) ?_ _
            refine NoPanic.normal ?_
            exact FQ.out
          · have HH := hidden hH4
            clear hH4
            refine wp_allocF rfl (fun tb wn5 ht hb hc hh => ?_)
            have NF := hidden (hc)
            have NH := hidden (hh)
            have TL := hidden (Nat.le_trans HH.out.size ht)
            replace G1 := hidden (K1.out _ _ _ G1.out hb)
            replace G2 := hidden (K2.out _ _ _ _ G2.out hb)
            replace G3 := hidden (K3.out _ _ _ _ G3.out hb)
            replace G4 := hidden (K4.out _ _ _ G4.out hb)
            have SN := hidden (bl_trans HH.out hb)
            clear HH ht hb hc hh
            simp only [Act.put, List.setIfInBounds_toArray, List.set_cons_zero, List.set_cons_succ]
            refine hK.out _ _ SN.out (fun hH5 => ?_)
            clear hK K SN
            refine wpAnyH_ready (rs := [11]) (by kernel_rfl) (by simp) ?_
            refine AllReadyH.cons (o := { dst := some 24, op := Op.call { callee := Callee.value (Operand.func 17), args := #[Operand.tmp 14, Operand.tmp 21, Operand.tmp 23], argTypes := #[35, 31, 23] }, type := 37, pos := "rounds.go:18", after := #[{ on := 1, ground := Ground.data }, { on := 8, ground := Ground.data }, { on := 10, ground := Ground.data }, { on := 10, ground := Ground.chain }], guard := none }) rfl (fun K hK => ?_) AllReadyH.nil
            have HH := hidden hH5
            clear hH5
            go_simp
            refine (C11.out _ D1 n2 m2 n3 m3 D4 G1.out G2.out G3.out G4.out).mono ?_
            rintro e wn6 ⟨Bs, Bu, Bx, rfl, h1, hb⟩
            have G5 := hidden (h1)
            have SZ := hidden (HH.out.size)
            replace NF := hidden (cell_keep NF.out hb)
            replace NH := hidden (there_keepM NH.out hb)
            have SN := hidden (bl_trans HH.out hb)
            clear HH C11 h1 hb G1 G2 G3 G4 SZ
            go_wp2_with fail
            refine hK.out _ _ SN.out (fun hH6 => ?_)
            clear hK K SN
            refine wpAnyH_ready (rs := [13]) (by kernel_rfl) (by simp) ?_
            refine AllReadyH.cons (o := { dst := none, op := Op.store 37 (Operand.tmp 7) (Operand.tmp 24), type := 0, pos := "rounds.go:18", after := #[{ on := 12, ground := Ground.data }, { on := 11, ground := Ground.data }, { on := 11, ground := Ground.chain }, { on := 0, ground := Ground.phase }, { on := 1, ground := Ground.phase }, { on := 2, ground := Ground.phase }, { on := 3, ground := Ground.phase }, { on := 4, ground := Ground.phase }, { on := 5, ground := Ground.phase }, { on := 6, ground := Ground.phase }, { on := 7, ground := Ground.phase }, { on := 8, ground := Ground.phase }, { on := 9, ground := Ground.phase }, { on := 10, ground := Ground.phase }, { on := 11, ground := Ground.phase }, { on := 12, ground := Ground.phase }], guard := none }) rfl (fun K hK => ?_) AllReadyH.nil
            have HH := hidden hH6
            clear hH6
            refine wp_storeFn (T := 37) rfl (fun _ => by kernel_rfl) tb (.func 35) #[] #[.pointer (some ⟨Bs, 0, none⟩), .pointer (some ⟨Bu, 0, none⟩), .pointer (some ⟨Bx, 0, none⟩)] (by rfl) (by rfl) NF.out NH.out (fun wn7 hw hg => ?_)
            have FE := hidden ((⟨_, HH.out, G5.out, NF.out, hw⟩ : ∃ wy, Below W.heap.size W wy ∧ R5 wy D1 n2 m2 n3 m3 D4 Bs Bu Bx ∧ wy.cell? ⟨tb, 0, none⟩ = some .nilFunc ∧ _ = wy.setCell ⟨tb, 0, none⟩ (.func (.func 35) #[] #[.pointer (some ⟨Bs, 0, none⟩), .pointer (some ⟨Bu, 0, none⟩), .pointer (some ⟨Bx, 0, none⟩)])))
            have SN := hidden (below_box HH.out hg TL.out)
            clear HH hw hg
            simp only [Act.put, List.setIfInBounds_toArray, List.set_cons_zero, List.set_cons_succ]
            refine hK.out _ _ SN.out (fun hH7 => ?_)
            clear hK K SN
            have HH := hidden hH7
            have FQ := hidden (HQ.out D1 n2 m2 n3 m3 D4 Bs Bu Bx tb _ TL.out FE.out)
            refine wpAnyH_done (by kernel_rfl) ?_ _
            refine NoPanic.normal ?_
            exact FQ.out
        · have HH := hidden hH3
          clear hH3
          refine wp_allocF rfl (fun tb wn4 ht hb hc hh => ?_)
          have NF := hidden (hc)
          have NH := hidden (hh)
          have TL := hidden (Nat.le_trans HH.out.size ht)
          replace G1 := hidden (K1.out _ _ _ G1.out hb)
          replace G2 := hidden (K2.out _ _ _ _ G2.out hb)
          replace G3 := hidden (K3.out _ _ _ _ G3.out hb)
          have SN := hidden (bl_trans HH.out hb)
          clear HH ht hb hc hh
          simp only [Act.put, List.setIfInBounds_toArray, List.set_cons_zero, List.set_cons_succ]
          refine hK.out _ _ SN.out (fun hH4 => ?_)
          clear hK K SN
          refine wpAnyH_ready (rs := [10]) (by kernel_rfl) (by simp) ?_
          refine AllReadyH.cons (o := { dst := some 23, op := Op.call { callee := Callee.value (Operand.func 20), args := #[Operand.tmp 22], argTypes := #[23] }, type := 23, pos := "rounds.go:18", after := #[{ on := 9, ground := Ground.data }, { on := 7, ground := Ground.chain }], guard := none }) rfl (fun K hK => ?_) AllReadyH.nil
          have HH := hidden hH4
          clear hH4
          go_simp
          refine (C10.out _ HH.out).mono ?_
          rintro e wn5 ⟨D4, rfl, h1, hb⟩
          have G4 := hidden (h1)
          replace G1 := hidden (K1.out _ _ _ G1.out hb)
          replace G2 := hidden (K2.out _ _ _ _ G2.out hb)
          replace G3 := hidden (K3.out _ _ _ _ G3.out hb)
          replace NF := hidden (cell_keep NF.out hb)
          replace NH := hidden (there_keepM NH.out hb)
          have SN := hidden (bl_trans HH.out hb)
          clear HH C10 h1 hb
          go_wp2_with fail
          refine hK.out _ _ SN.out (fun hH5 => ?_)
          clear hK K SN
          refine wpAnyH_ready (rs := [11]) (by kernel_rfl) (by simp) ?_
          refine AllReadyH.cons (o := { dst := some 24, op := Op.call { callee := Callee.value (Operand.func 17), args := #[Operand.tmp 14, Operand.tmp 21, Operand.tmp 23], argTypes := #[35, 31, 23] }, type := 37, pos := "rounds.go:18", after := #[{ on := 1, ground := Ground.data }, { on := 8, ground := Ground.data }, { on := 10, ground := Ground.data }, { on := 10, ground := Ground.chain }], guard := none }) rfl (fun K hK => ?_) AllReadyH.nil
          have HH := hidden hH5
          clear hH5
          go_simp
          refine (C11.out _ D1 n2 m2 n3 m3 D4 G1.out G2.out G3.out G4.out).mono ?_
          rintro e wn6 ⟨Bs, Bu, Bx, rfl, h1, hb⟩
          have G5 := hidden (h1)
          have SZ := hidden (HH.out.size)
          replace NF := hidden (cell_keep NF.out hb)
          replace NH := hidden (there_keepM NH.out hb)
          have SN := hidden (bl_trans HH.out hb)
          clear HH C11 h1 hb G1 G2 G3 G4 SZ
          go_wp2_with fail
          refine hK.out _ _ SN.out (fun hH6 => ?_)
          clear hK K SN
          refine wpAnyH_ready (rs := [13]) (by kernel_rfl) (by simp) ?_
          refine AllReadyH.cons (o := { dst := none, op := Op.store 37 (Operand.tmp 7) (Operand.tmp 24), type := 0, pos := "rounds.go:18", after := #[{ on := 12, ground := Ground.data }, { on := 11, ground := Ground.data }, { on := 11, ground := Ground.chain }, { on := 0, ground := Ground.phase }, { on := 1, ground := Ground.phase }, { on := 2, ground := Ground.phase }, { on := 3, ground := Ground.phase }, { on := 4, ground := Ground.phase }, { on := 5, ground := Ground.phase }, { on := 6, ground := Ground.phase }, { on := 7, ground := Ground.phase }, { on := 8, ground := Ground.phase }, { on := 9, ground := Ground.phase }, { on := 10, ground := Ground.phase }, { on := 11, ground := Ground.phase }, { on := 12, ground := Ground.phase }], guard := none }) rfl (fun K hK => ?_) AllReadyH.nil
          have HH := hidden hH6
          clear hH6
          refine wp_storeFn (T := 37) rfl (fun _ => by kernel_rfl) tb (.func 35) #[] #[.pointer (some ⟨Bs, 0, none⟩), .pointer (some ⟨Bu, 0, none⟩), .pointer (some ⟨Bx, 0, none⟩)] (by rfl) (by rfl) NF.out NH.out (fun wn7 hw hg => ?_)
          have FE := hidden ((⟨_, HH.out, G5.out, NF.out, hw⟩ : ∃ wy, Below W.heap.size W wy ∧ R5 wy D1 n2 m2 n3 m3 D4 Bs Bu Bx ∧ wy.cell? ⟨tb, 0, none⟩ = some .nilFunc ∧ _ = wy.setCell ⟨tb, 0, none⟩ (.func (.func 35) #[] #[.pointer (some ⟨Bs, 0, none⟩), .pointer (some ⟨Bu, 0, none⟩), .pointer (some ⟨Bx, 0, none⟩)])))
          have SN := hidden (below_box HH.out hg TL.out)
          clear HH hw hg
          simp only [Act.put, List.setIfInBounds_toArray, List.set_cons_zero, List.set_cons_succ]
          refine hK.out _ _ SN.out (fun hH7 => ?_)
          clear hK K SN
          have HH := hidden hH7
          have FQ := hidden (HQ.out D1 n2 m2 n3 m3 D4 Bs Bu Bx tb _ TL.out FE.out)
          refine wpAnyH_done (by kernel_rfl) ?_ _
          refine NoPanic.normal ?_
          exact FQ.out
      · have HH := hidden hH2
        clear hH2
        refine wp_allocF rfl (fun tb wn3 ht hb hc hh => ?_)
        have NF := hidden (hc)
        have NH := hidden (hh)
        have TL := hidden (Nat.le_trans HH.out.size ht)
        replace G1 := hidden (K1.out _ _ _ G1.out hb)
        replace G2 := hidden (K2.out _ _ _ _ G2.out hb)
        have SN := hidden (bl_trans HH.out hb)
        clear HH ht hb hc hh
        simp only [Act.put, List.setIfInBounds_toArray, List.set_cons_zero, List.set_cons_succ]
        refine hK.out _ _ SN.out (fun hH3 => ?_)
        clear hK K SN
        refine wpAnyH_ready (rs := [7]) (by kernel_rfl) (by simp) ?_
        refine AllReadyH.cons (o := { dst := some 20, op := Op.call { callee := Callee.value (Operand.func 19), args := #[Operand.tmp 19], argTypes := #[29] }, type := 29, pos := "rounds.go:18", after := #[{ on := 6, ground := Ground.data }, { on := 4, ground := Ground.chain }], guard := none }) rfl (fun K hK => ?_) AllReadyH.nil
        have HH := hidden hH3
        clear hH3
        go_simp
        refine (C7.out _ HH.out).mono ?_
        rintro e wn4 ⟨n3, m3, rfl, h1, hb⟩
        have G3 := hidden (h1)
        replace G1 := hidden (K1.out _ _ _ G1.out hb)
        replace G2 := hidden (K2.out _ _ _ _ G2.out hb)
        replace NF := hidden (cell_keep NF.out hb)
        replace NH := hidden (there_keepM NH.out hb)
        have SN := hidden (bl_trans HH.out hb)
        clear HH C7 h1 hb
        go_wp2_with fail
        refine hK.out _ _ SN.out (fun hH4 => ?_)
        clear hK K SN
        refine wpAnyH_take (i := 8) (oi := { dst := some 21, op := Op.build 31 #[(0, Operand.tmp 17), (1, Operand.tmp 20)], type := 31, pos := "rounds.go:18", after := #[{ on := 4, ground := Ground.data }, { on := 7, ground := Ground.data }], guard := none }) (v := .agg #[.slice (some ⟨n2, 0, none⟩) k m2, .slice (some ⟨n3, 0, none⟩) k m3, .int .u64 0, .int .u64 0, .int .u64 0, .int .u64 0, .int .u64 0, .int .u64 0, .int .u64 0, .int .u64 0]) rfl (by kernel_rfl) (by kernel_rfl) (by kernel_rfl) (fun _ _ _ h => h) (Or.inl ⟨by rfl, fun w0 hSw => ?_⟩) hH4 ?_
        · (clear hSw; go_simp)
        simp only [Act.put, List.setIfInBounds_toArray, List.set_cons_zero, List.set_cons_succ]
        refine wpAnyH_ready (rs := [10]) (by kernel_rfl) (by simp) ?_
        refine AllReadyH.cons (o := { dst := some 23, op := Op.call { callee := Callee.value (Operand.func 20), args := #[Operand.tmp 22], argTypes := #[23] }, type := 23, pos := "rounds.go:18", after := #[{ on := 9, ground := Ground.data }, { on := 7, ground := Ground.chain }], guard := none }) rfl (fun K hK => ?_) AllReadyH.nil
        have HH := hidden hH4
        clear hH4
        go_simp
        refine (C10.out _ HH.out).mono ?_
        rintro e wn5 ⟨D4, rfl, h1, hb⟩
        have G4 := hidden (h1)
        replace G1 := hidden (K1.out _ _ _ G1.out hb)
        replace G2 := hidden (K2.out _ _ _ _ G2.out hb)
        replace G3 := hidden (K3.out _ _ _ _ G3.out hb)
        replace NF := hidden (cell_keep NF.out hb)
        replace NH := hidden (there_keepM NH.out hb)
        have SN := hidden (bl_trans HH.out hb)
        clear HH C10 h1 hb
        go_wp2_with fail
        refine hK.out _ _ SN.out (fun hH5 => ?_)
        clear hK K SN
        refine wpAnyH_ready (rs := [11]) (by kernel_rfl) (by simp) ?_
        refine AllReadyH.cons (o := { dst := some 24, op := Op.call { callee := Callee.value (Operand.func 17), args := #[Operand.tmp 14, Operand.tmp 21, Operand.tmp 23], argTypes := #[35, 31, 23] }, type := 37, pos := "rounds.go:18", after := #[{ on := 1, ground := Ground.data }, { on := 8, ground := Ground.data }, { on := 10, ground := Ground.data }, { on := 10, ground := Ground.chain }], guard := none }) rfl (fun K hK => ?_) AllReadyH.nil
        have HH := hidden hH5
        clear hH5
        go_simp
        refine (C11.out _ D1 n2 m2 n3 m3 D4 G1.out G2.out G3.out G4.out).mono ?_
        rintro e wn6 ⟨Bs, Bu, Bx, rfl, h1, hb⟩
        have G5 := hidden (h1)
        have SZ := hidden (HH.out.size)
        replace NF := hidden (cell_keep NF.out hb)
        replace NH := hidden (there_keepM NH.out hb)
        have SN := hidden (bl_trans HH.out hb)
        clear HH C11 h1 hb G1 G2 G3 G4 SZ
        go_wp2_with fail
        refine hK.out _ _ SN.out (fun hH6 => ?_)
        clear hK K SN
        refine wpAnyH_ready (rs := [13]) (by kernel_rfl) (by simp) ?_
        refine AllReadyH.cons (o := { dst := none, op := Op.store 37 (Operand.tmp 7) (Operand.tmp 24), type := 0, pos := "rounds.go:18", after := #[{ on := 12, ground := Ground.data }, { on := 11, ground := Ground.data }, { on := 11, ground := Ground.chain }, { on := 0, ground := Ground.phase }, { on := 1, ground := Ground.phase }, { on := 2, ground := Ground.phase }, { on := 3, ground := Ground.phase }, { on := 4, ground := Ground.phase }, { on := 5, ground := Ground.phase }, { on := 6, ground := Ground.phase }, { on := 7, ground := Ground.phase }, { on := 8, ground := Ground.phase }, { on := 9, ground := Ground.phase }, { on := 10, ground := Ground.phase }, { on := 11, ground := Ground.phase }, { on := 12, ground := Ground.phase }], guard := none }) rfl (fun K hK => ?_) AllReadyH.nil
        have HH := hidden hH6
        clear hH6
        refine wp_storeFn (T := 37) rfl (fun _ => by kernel_rfl) tb (.func 35) #[] #[.pointer (some ⟨Bs, 0, none⟩), .pointer (some ⟨Bu, 0, none⟩), .pointer (some ⟨Bx, 0, none⟩)] (by rfl) (by rfl) NF.out NH.out (fun wn7 hw hg => ?_)
        have FE := hidden ((⟨_, HH.out, G5.out, NF.out, hw⟩ : ∃ wy, Below W.heap.size W wy ∧ R5 wy D1 n2 m2 n3 m3 D4 Bs Bu Bx ∧ wy.cell? ⟨tb, 0, none⟩ = some .nilFunc ∧ _ = wy.setCell ⟨tb, 0, none⟩ (.func (.func 35) #[] #[.pointer (some ⟨Bs, 0, none⟩), .pointer (some ⟨Bu, 0, none⟩), .pointer (some ⟨Bx, 0, none⟩)])))
        have SN := hidden (below_box HH.out hg TL.out)
        clear HH hw hg
        simp only [Act.put, List.setIfInBounds_toArray, List.set_cons_zero, List.set_cons_succ]
        refine hK.out _ _ SN.out (fun hH7 => ?_)
        clear hK K SN
        have HH := hidden hH7
        have FQ := hidden (HQ.out D1 n2 m2 n3 m3 D4 Bs Bu Bx tb _ TL.out FE.out)
        refine wpAnyH_done (by kernel_rfl) ?_ _
        refine NoPanic.normal ?_
        exact FQ.out
    · have HH := hidden hH1
      clear hH1
      refine wp_allocF rfl (fun tb wn2 ht hb hc hh => ?_)
      have NF := hidden (hc)
      have NH := hidden (hh)
      have TL := hidden (Nat.le_trans HH.out.size ht)
      replace G1 := hidden (K1.out _ _ _ G1.out hb)
      have SN := hidden (bl_trans HH.out hb)
      clear HH ht hb hc hh
      simp only [Act.put, List.setIfInBounds_toArray, List.set_cons_zero, List.set_cons_succ]
      refine hK.out _ _ SN.out (fun hH2 => ?_)
      clear hK K SN
      refine wpAnyH_ready (rs := [4]) (by kernel_rfl) (by simp) ?_
      refine AllReadyH.cons (o := { dst := some 17, op := Op.call { callee := Callee.value (Operand.func 19), args := #[Operand.tmp 16], argTypes := #[29] }, type := 29, pos := "rounds.go:18", after := #[{ on := 3, ground := Ground.data }, { on := 1, ground := Ground.chain }], guard := none }) rfl (fun K hK => ?_) AllReadyH.nil
      have HH := hidden hH2
      clear hH2
      go_simp
      refine (C4.out _ HH.out).mono ?_
      rintro e wn3 ⟨n2, m2, rfl, h1, hb⟩
      have G2 := hidden (h1)
      replace G1 := hidden (K1.out _ _ _ G1.out hb)
      replace NF := hidden (cell_keep NF.out hb)
      replace NH := hidden (there_keepM NH.out hb)
      have SN := hidden (bl_trans HH.out hb)
      clear HH C4 h1 hb
      go_wp2_with fail
      refine hK.out _ _ SN.out (fun hH3 => ?_)
      clear hK K SN
      refine wpAnyH_ready (rs := [7]) (by kernel_rfl) (by simp) ?_
      refine AllReadyH.cons (o := { dst := some 20, op := Op.call { callee := Callee.value (Operand.func 19), args := #[Operand.tmp 19], argTypes := #[29] }, type := 29, pos := "rounds.go:18", after := #[{ on := 6, ground := Ground.data }, { on := 4, ground := Ground.chain }], guard := none }) rfl (fun K hK => ?_) AllReadyH.nil
      have HH := hidden hH3
      clear hH3
      go_simp
      refine (C7.out _ HH.out).mono ?_
      rintro e wn4 ⟨n3, m3, rfl, h1, hb⟩
      have G3 := hidden (h1)
      replace G1 := hidden (K1.out _ _ _ G1.out hb)
      replace G2 := hidden (K2.out _ _ _ _ G2.out hb)
      replace NF := hidden (cell_keep NF.out hb)
      replace NH := hidden (there_keepM NH.out hb)
      have SN := hidden (bl_trans HH.out hb)
      clear HH C7 h1 hb
      go_wp2_with fail
      refine hK.out _ _ SN.out (fun hH4 => ?_)
      clear hK K SN
      refine wpAnyH_take (i := 8) (oi := { dst := some 21, op := Op.build 31 #[(0, Operand.tmp 17), (1, Operand.tmp 20)], type := 31, pos := "rounds.go:18", after := #[{ on := 4, ground := Ground.data }, { on := 7, ground := Ground.data }], guard := none }) (v := .agg #[.slice (some ⟨n2, 0, none⟩) k m2, .slice (some ⟨n3, 0, none⟩) k m3, .int .u64 0, .int .u64 0, .int .u64 0, .int .u64 0, .int .u64 0, .int .u64 0, .int .u64 0, .int .u64 0]) rfl (by kernel_rfl) (by kernel_rfl) (by kernel_rfl) (fun _ _ _ h => h) (Or.inl ⟨by rfl, fun w0 hSw => ?_⟩) hH4 ?_
      · (clear hSw; go_simp)
      simp only [Act.put, List.setIfInBounds_toArray, List.set_cons_zero, List.set_cons_succ]
      refine wpAnyH_ready (rs := [10]) (by kernel_rfl) (by simp) ?_
      refine AllReadyH.cons (o := { dst := some 23, op := Op.call { callee := Callee.value (Operand.func 20), args := #[Operand.tmp 22], argTypes := #[23] }, type := 23, pos := "rounds.go:18", after := #[{ on := 9, ground := Ground.data }, { on := 7, ground := Ground.chain }], guard := none }) rfl (fun K hK => ?_) AllReadyH.nil
      have HH := hidden hH4
      clear hH4
      go_simp
      refine (C10.out _ HH.out).mono ?_
      rintro e wn5 ⟨D4, rfl, h1, hb⟩
      have G4 := hidden (h1)
      replace G1 := hidden (K1.out _ _ _ G1.out hb)
      replace G2 := hidden (K2.out _ _ _ _ G2.out hb)
      replace G3 := hidden (K3.out _ _ _ _ G3.out hb)
      replace NF := hidden (cell_keep NF.out hb)
      replace NH := hidden (there_keepM NH.out hb)
      have SN := hidden (bl_trans HH.out hb)
      clear HH C10 h1 hb
      go_wp2_with fail
      refine hK.out _ _ SN.out (fun hH5 => ?_)
      clear hK K SN
      refine wpAnyH_ready (rs := [11]) (by kernel_rfl) (by simp) ?_
      refine AllReadyH.cons (o := { dst := some 24, op := Op.call { callee := Callee.value (Operand.func 17), args := #[Operand.tmp 14, Operand.tmp 21, Operand.tmp 23], argTypes := #[35, 31, 23] }, type := 37, pos := "rounds.go:18", after := #[{ on := 1, ground := Ground.data }, { on := 8, ground := Ground.data }, { on := 10, ground := Ground.data }, { on := 10, ground := Ground.chain }], guard := none }) rfl (fun K hK => ?_) AllReadyH.nil
      have HH := hidden hH5
      clear hH5
      go_simp
      refine (C11.out _ D1 n2 m2 n3 m3 D4 G1.out G2.out G3.out G4.out).mono ?_
      rintro e wn6 ⟨Bs, Bu, Bx, rfl, h1, hb⟩
      have G5 := hidden (h1)
      have SZ := hidden (HH.out.size)
      replace NF := hidden (cell_keep NF.out hb)
      replace NH := hidden (there_keepM NH.out hb)
      have SN := hidden (bl_trans HH.out hb)
      clear HH C11 h1 hb G1 G2 G3 G4 SZ
      go_wp2_with fail
      refine hK.out _ _ SN.out (fun hH6 => ?_)
      clear hK K SN
      refine wpAnyH_ready (rs := [13]) (by kernel_rfl) (by simp) ?_
      refine AllReadyH.cons (o := { dst := none, op := Op.store 37 (Operand.tmp 7) (Operand.tmp 24), type := 0, pos := "rounds.go:18", after := #[{ on := 12, ground := Ground.data }, { on := 11, ground := Ground.data }, { on := 11, ground := Ground.chain }, { on := 0, ground := Ground.phase }, { on := 1, ground := Ground.phase }, { on := 2, ground := Ground.phase }, { on := 3, ground := Ground.phase }, { on := 4, ground := Ground.phase }, { on := 5, ground := Ground.phase }, { on := 6, ground := Ground.phase }, { on := 7, ground := Ground.phase }, { on := 8, ground := Ground.phase }, { on := 9, ground := Ground.phase }, { on := 10, ground := Ground.phase }, { on := 11, ground := Ground.phase }, { on := 12, ground := Ground.phase }], guard := none }) rfl (fun K hK => ?_) AllReadyH.nil
      have HH := hidden hH6
      clear hH6
      refine wp_storeFn (T := 37) rfl (fun _ => by kernel_rfl) tb (.func 35) #[] #[.pointer (some ⟨Bs, 0, none⟩), .pointer (some ⟨Bu, 0, none⟩), .pointer (some ⟨Bx, 0, none⟩)] (by rfl) (by rfl) NF.out NH.out (fun wn7 hw hg => ?_)
      have FE := hidden ((⟨_, HH.out, G5.out, NF.out, hw⟩ : ∃ wy, Below W.heap.size W wy ∧ R5 wy D1 n2 m2 n3 m3 D4 Bs Bu Bx ∧ wy.cell? ⟨tb, 0, none⟩ = some .nilFunc ∧ _ = wy.setCell ⟨tb, 0, none⟩ (.func (.func 35) #[] #[.pointer (some ⟨Bs, 0, none⟩), .pointer (some ⟨Bu, 0, none⟩), .pointer (some ⟨Bx, 0, none⟩)])))
      have SN := hidden (below_box HH.out hg TL.out)
      clear HH hw hg
      simp only [Act.put, List.setIfInBounds_toArray, List.set_cons_zero, List.set_cons_succ]
      refine hK.out _ _ SN.out (fun hH7 => ?_)
      clear hK K SN
      have HH := hidden hH7
      have FQ := hidden (HQ.out D1 n2 m2 n3 m3 D4 Bs Bu Bx tb _ TL.out FE.out)
      refine wpAnyH_done (by kernel_rfl) ?_ _
      refine NoPanic.normal ?_
      exact FQ.out
  · have HH := hidden hH0
    clear hH0
    refine wp_allocF rfl (fun tb wn1 ht hb hc hh => ?_)
    have NF := hidden (hc)
    have NH := hidden (hh)
    have TL := hidden (Nat.le_trans HH.out.size ht)
    have SN := hidden (bl_trans HH.out hb)
    clear HH ht hb hc hh
    simp only [Act.put, List.setIfInBounds_toArray, List.set_cons_zero, List.set_cons_succ]
    refine hK.out _ _ SN.out (fun hH1 => ?_)
    clear hK K SN
    refine wpAnyH_ready (rs := [1]) (by kernel_rfl) (by simp) ?_
    refine AllReadyH.cons (o := { dst := some 14, op := Op.call { callee := Callee.value (Operand.func 18), args := #[Operand.tmp 13], argTypes := #[35] }, type := 35, pos := "rounds.go:18", after := #[{ on := 0, ground := Ground.data }], guard := none }) rfl (fun K hK => ?_) AllReadyH.nil
    have HH := hidden hH1
    clear hH1
    go_simp
    refine (C1.out _ HH.out).mono ?_
    rintro e wn2 ⟨D1, rfl, h1, hb⟩
    have G1 := hidden (h1)
    replace NF := hidden (cell_keep NF.out hb)
    replace NH := hidden (there_keepM NH.out hb)
    have SN := hidden (bl_trans HH.out hb)
    clear HH C1 h1 hb
    go_wp2_with fail
    refine hK.out _ _ SN.out (fun hH2 => ?_)
    clear hK K SN
    refine wpAnyH_ready (rs := [4]) (by kernel_rfl) (by simp) ?_
    refine AllReadyH.cons (o := { dst := some 17, op := Op.call { callee := Callee.value (Operand.func 19), args := #[Operand.tmp 16], argTypes := #[29] }, type := 29, pos := "rounds.go:18", after := #[{ on := 3, ground := Ground.data }, { on := 1, ground := Ground.chain }], guard := none }) rfl (fun K hK => ?_) AllReadyH.nil
    have HH := hidden hH2
    clear hH2
    go_simp
    refine (C4.out _ HH.out).mono ?_
    rintro e wn3 ⟨n2, m2, rfl, h1, hb⟩
    have G2 := hidden (h1)
    replace G1 := hidden (K1.out _ _ _ G1.out hb)
    replace NF := hidden (cell_keep NF.out hb)
    replace NH := hidden (there_keepM NH.out hb)
    have SN := hidden (bl_trans HH.out hb)
    clear HH C4 h1 hb
    go_wp2_with fail
    refine hK.out _ _ SN.out (fun hH3 => ?_)
    clear hK K SN
    refine wpAnyH_ready (rs := [7]) (by kernel_rfl) (by simp) ?_
    refine AllReadyH.cons (o := { dst := some 20, op := Op.call { callee := Callee.value (Operand.func 19), args := #[Operand.tmp 19], argTypes := #[29] }, type := 29, pos := "rounds.go:18", after := #[{ on := 6, ground := Ground.data }, { on := 4, ground := Ground.chain }], guard := none }) rfl (fun K hK => ?_) AllReadyH.nil
    have HH := hidden hH3
    clear hH3
    go_simp
    refine (C7.out _ HH.out).mono ?_
    rintro e wn4 ⟨n3, m3, rfl, h1, hb⟩
    have G3 := hidden (h1)
    replace G1 := hidden (K1.out _ _ _ G1.out hb)
    replace G2 := hidden (K2.out _ _ _ _ G2.out hb)
    replace NF := hidden (cell_keep NF.out hb)
    replace NH := hidden (there_keepM NH.out hb)
    have SN := hidden (bl_trans HH.out hb)
    clear HH C7 h1 hb
    go_wp2_with fail
    refine hK.out _ _ SN.out (fun hH4 => ?_)
    clear hK K SN
    refine wpAnyH_take (i := 8) (oi := { dst := some 21, op := Op.build 31 #[(0, Operand.tmp 17), (1, Operand.tmp 20)], type := 31, pos := "rounds.go:18", after := #[{ on := 4, ground := Ground.data }, { on := 7, ground := Ground.data }], guard := none }) (v := .agg #[.slice (some ⟨n2, 0, none⟩) k m2, .slice (some ⟨n3, 0, none⟩) k m3, .int .u64 0, .int .u64 0, .int .u64 0, .int .u64 0, .int .u64 0, .int .u64 0, .int .u64 0, .int .u64 0]) rfl (by kernel_rfl) (by kernel_rfl) (by kernel_rfl) (fun _ _ _ h => h) (Or.inl ⟨by rfl, fun w0 hSw => ?_⟩) hH4 ?_
    · (clear hSw; go_simp)
    simp only [Act.put, List.setIfInBounds_toArray, List.set_cons_zero, List.set_cons_succ]
    refine wpAnyH_ready (rs := [10]) (by kernel_rfl) (by simp) ?_
    refine AllReadyH.cons (o := { dst := some 23, op := Op.call { callee := Callee.value (Operand.func 20), args := #[Operand.tmp 22], argTypes := #[23] }, type := 23, pos := "rounds.go:18", after := #[{ on := 9, ground := Ground.data }, { on := 7, ground := Ground.chain }], guard := none }) rfl (fun K hK => ?_) AllReadyH.nil
    have HH := hidden hH4
    clear hH4
    go_simp
    refine (C10.out _ HH.out).mono ?_
    rintro e wn5 ⟨D4, rfl, h1, hb⟩
    have G4 := hidden (h1)
    replace G1 := hidden (K1.out _ _ _ G1.out hb)
    replace G2 := hidden (K2.out _ _ _ _ G2.out hb)
    replace G3 := hidden (K3.out _ _ _ _ G3.out hb)
    replace NF := hidden (cell_keep NF.out hb)
    replace NH := hidden (there_keepM NH.out hb)
    have SN := hidden (bl_trans HH.out hb)
    clear HH C10 h1 hb
    go_wp2_with fail
    refine hK.out _ _ SN.out (fun hH5 => ?_)
    clear hK K SN
    refine wpAnyH_ready (rs := [11]) (by kernel_rfl) (by simp) ?_
    refine AllReadyH.cons (o := { dst := some 24, op := Op.call { callee := Callee.value (Operand.func 17), args := #[Operand.tmp 14, Operand.tmp 21, Operand.tmp 23], argTypes := #[35, 31, 23] }, type := 37, pos := "rounds.go:18", after := #[{ on := 1, ground := Ground.data }, { on := 8, ground := Ground.data }, { on := 10, ground := Ground.data }, { on := 10, ground := Ground.chain }], guard := none }) rfl (fun K hK => ?_) AllReadyH.nil
    have HH := hidden hH5
    clear hH5
    go_simp
    refine (C11.out _ D1 n2 m2 n3 m3 D4 G1.out G2.out G3.out G4.out).mono ?_
    rintro e wn6 ⟨Bs, Bu, Bx, rfl, h1, hb⟩
    have G5 := hidden (h1)
    have SZ := hidden (HH.out.size)
    replace NF := hidden (cell_keep NF.out hb)
    replace NH := hidden (there_keepM NH.out hb)
    have SN := hidden (bl_trans HH.out hb)
    clear HH C11 h1 hb G1 G2 G3 G4 SZ
    go_wp2_with fail
    refine hK.out _ _ SN.out (fun hH6 => ?_)
    clear hK K SN
    refine wpAnyH_ready (rs := [13]) (by kernel_rfl) (by simp) ?_
    refine AllReadyH.cons (o := { dst := none, op := Op.store 37 (Operand.tmp 7) (Operand.tmp 24), type := 0, pos := "rounds.go:18", after := #[{ on := 12, ground := Ground.data }, { on := 11, ground := Ground.data }, { on := 11, ground := Ground.chain }, { on := 0, ground := Ground.phase }, { on := 1, ground := Ground.phase }, { on := 2, ground := Ground.phase }, { on := 3, ground := Ground.phase }, { on := 4, ground := Ground.phase }, { on := 5, ground := Ground.phase }, { on := 6, ground := Ground.phase }, { on := 7, ground := Ground.phase }, { on := 8, ground := Ground.phase }, { on := 9, ground := Ground.phase }, { on := 10, ground := Ground.phase }, { on := 11, ground := Ground.phase }, { on := 12, ground := Ground.phase }], guard := none }) rfl (fun K hK => ?_) AllReadyH.nil
    have HH := hidden hH6
    clear hH6
    refine wp_storeFn (T := 37) rfl (fun _ => by kernel_rfl) tb (.func 35) #[] #[.pointer (some ⟨Bs, 0, none⟩), .pointer (some ⟨Bu, 0, none⟩), .pointer (some ⟨Bx, 0, none⟩)] (by rfl) (by rfl) NF.out NH.out (fun wn7 hw hg => ?_)
    have FE := hidden ((⟨_, HH.out, G5.out, NF.out, hw⟩ : ∃ wy, Below W.heap.size W wy ∧ R5 wy D1 n2 m2 n3 m3 D4 Bs Bu Bx ∧ wy.cell? ⟨tb, 0, none⟩ = some .nilFunc ∧ _ = wy.setCell ⟨tb, 0, none⟩ (.func (.func 35) #[] #[.pointer (some ⟨Bs, 0, none⟩), .pointer (some ⟨Bu, 0, none⟩), .pointer (some ⟨Bx, 0, none⟩)])))
    have SN := hidden (below_box HH.out hg TL.out)
    clear HH hw hg
    simp only [Act.put, List.setIfInBounds_toArray, List.set_cons_zero, List.set_cons_succ]
    refine hK.out _ _ SN.out (fun hH7 => ?_)
    clear hK K SN
    have HH := hidden hH7
    have FQ := hidden (HQ.out D1 n2 m2 n3 m3 D4 Bs Bu Bx tb _ TL.out FE.out)
    refine wpAnyH_done (by kernel_rfl) ?_ _
    refine NoPanic.normal ?_
    exact FQ.out
end Rp
end Go.Proofs.YtaejedhdpilhjaaDoor
