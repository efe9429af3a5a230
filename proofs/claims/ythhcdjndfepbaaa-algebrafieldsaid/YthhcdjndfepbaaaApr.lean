import Derived.Test.YthhcdjndfepbaaaAsm
import Derived.Test.YthhcdjndfepbaaaMx
namespace Go.Proofs.Ythhcdjndfepbaaa
open Go.RowKit
/-- a pair, as a value -/
def pv (a b : Int) : Value := .agg #[.int .i64 a, .int .i64 b]
theorem tm_bd (x m : Int) (hm : 0 < m) : -m < x.tmod m ∧ x.tmod m < m := ⟨by have := Int.lt_tmod_of_pos x hm; omega, Int.tmod_lt_of_pos x hm⟩
theorem tm_C (x m : Int) : Mx.C m (x.tmod m) x := ⟨-x.tdiv m, by have := Int.tmod_add_mul_tdiv x m; grind⟩
theorem tm_wrap (x m : Int) (hm : 0 < m) (h9 : m ≤ 1000000) : IntKind.i64.wrap (x.tmod m) = x.tmod m := IntWalk.i64_in _ (by have := tm_bd x m hm; omega)
theorem mul_bd {x y m : Int} (hx : -m < x ∧ x < m) (hy : -m < y ∧ y < m) (h9 : m ≤ 1000) : -1000000 ≤ x * y ∧ x * y ≤ 1000000 := by
  have h1 : x.natAbs ≤ 1000 := by omega
  have h2 : y.natAbs ≤ 1000 := by omega
  have h3 : x.natAbs * y.natAbs ≤ 1000 * 1000 := Nat.mul_le_mul h1 h2
  rw [← Int.natAbs_mul] at h3
  omega
set_option maxRecDepth 100000 in
set_option maxHeartbeats 2000000 in
theorem pAdd_any (a b c d : Int) (w : World) : Calls Try.prog 23 #[pv a b, pv c d] w fun e w' => ∃ x y : Int, e = .returned (pv x y) ∧ Mx.C 5 x (a + c) ∧ Mx.C 7 y (b + d) ∧ Below w.heap.size w w' := by
  unfold pv
  have wa := tm_wrap a 5 (by decide) (by decide)
  have wc := tm_wrap c 5 (by decide) (by decide)
  have wb := tm_wrap b 7 (by decide) (by decide)
  have wd := tm_wrap d 7 (by decide) (by decide)
  have w1 : IntKind.i64.wrap (a.tmod 5 + c.tmod 5) = a.tmod 5 + c.tmod 5 := IntWalk.i64_in _ (by have h1 := tm_bd a 5 (by decide); have h2 := tm_bd c 5 (by decide); omega)
  have w2 : IntKind.i64.wrap (b.tmod 7 + d.tmod 7) = b.tmod 7 + d.tmod 7 := IntWalk.i64_in _ (by have h1 := tm_bd b 7 (by decide); have h2 := tm_bd d 7 (by decide); omega)
  have C1 := hidden ((tm_C (a.tmod 5 + c.tmod 5) 5).trans ((tm_C a 5).add (tm_C c 5)))
  have C2 := hidden ((tm_C (b.tmod 7 + d.tmod 7) 7).trans ((tm_C b 7).add (tm_C d 7)))
  have w3 := tm_wrap (a.tmod 5 + c.tmod 5) 5 (by decide) (by decide)
  have w4 := tm_wrap (b.tmod 7 + d.tmod 7) 7 (by decide) (by decide)
  obtain ⟨x, hx⟩ : ∃ x, (a.tmod 5 + c.tmod 5).tmod 5 = x := ⟨_, rfl⟩
  obtain ⟨y, hy⟩ : ∃ y, (b.tmod 7 + d.tmod 7).tmod 7 = y := ⟨_, rfl⟩
  rw [hx] at C1 w3
  rw [hy] at C2 w4
  go_enter Try.func23, Try.ntmps23
  go_wp2_with fail
  refine bodyPost_ret (v := .agg #[.int .i64 x, .int .i64 y]) (by simp [results, Try.results23, go_sem]) rfl ⟨x, y, rfl, C1.out, C2.out, ?_⟩
  exact bl_trans (bl_trans (bl_alloc w _) (bl_alloc _ _)) (bl_alloc _ _)
set_option maxRecDepth 100000 in
set_option maxHeartbeats 2000000 in
theorem pSub_any (a b c d : Int) (w : World) : Calls Try.prog 17 #[pv a b, pv c d] w fun e w' => ∃ x y : Int, e = .returned (pv x y) ∧ Mx.C 5 x (a - c) ∧ Mx.C 7 y (b - d) ∧ Below w.heap.size w w' := by
  unfold pv
  have wa := tm_wrap a 5 (by decide) (by decide)
  have wc := tm_wrap c 5 (by decide) (by decide)
  have wb := tm_wrap b 7 (by decide) (by decide)
  have wd := tm_wrap d 7 (by decide) (by decide)
  have w1 : IntKind.i64.wrap (a.tmod 5 - c.tmod 5) = a.tmod 5 - c.tmod 5 := IntWalk.i64_in _ (by have h1 := tm_bd a 5 (by decide); have h2 := tm_bd c 5 (by decide); omega)
  have w2 : IntKind.i64.wrap (b.tmod 7 - d.tmod 7) = b.tmod 7 - d.tmod 7 := IntWalk.i64_in _ (by have h1 := tm_bd b 7 (by decide); have h2 := tm_bd d 7 (by decide); omega)
  have C1 := hidden ((tm_C (a.tmod 5 - c.tmod 5) 5).trans ((tm_C a 5).sub (tm_C c 5)))
  have C2 := hidden ((tm_C (b.tmod 7 - d.tmod 7) 7).trans ((tm_C b 7).sub (tm_C d 7)))
  have w3 := tm_wrap (a.tmod 5 - c.tmod 5) 5 (by decide) (by decide)
  have w4 := tm_wrap (b.tmod 7 - d.tmod 7) 7 (by decide) (by decide)
  obtain ⟨x, hx⟩ : ∃ x, (a.tmod 5 - c.tmod 5).tmod 5 = x := ⟨_, rfl⟩
  obtain ⟨y, hy⟩ : ∃ y, (b.tmod 7 - d.tmod 7).tmod 7 = y := ⟨_, rfl⟩
  rw [hx] at C1 w3
  rw [hy] at C2 w4
  go_enter Try.func17, Try.ntmps17
  go_wp2_with fail
  refine bodyPost_ret (v := .agg #[.int .i64 x, .int .i64 y]) (by simp [results, Try.results17, go_sem]) rfl ⟨x, y, rfl, C1.out, C2.out, ?_⟩
  exact bl_trans (bl_trans (bl_alloc w _) (bl_alloc _ _)) (bl_alloc _ _)
set_option maxRecDepth 100000 in
set_option maxHeartbeats 2000000 in
theorem pMul_any (a b c d : Int) (w : World) : Calls Try.prog 18 #[pv a b, pv c d] w fun e w' => ∃ x y : Int, e = .returned (pv x y) ∧ Mx.C 5 x (a * c) ∧ Mx.C 7 y (b * d) ∧ Below w.heap.size w w' := by
  unfold pv
  have wa := tm_wrap a 5 (by decide) (by decide)
  have wc := tm_wrap c 5 (by decide) (by decide)
  have wb := tm_wrap b 7 (by decide) (by decide)
  have wd := tm_wrap d 7 (by decide) (by decide)
  have w1 : IntKind.i64.wrap (a.tmod 5 * c.tmod 5) = a.tmod 5 * c.tmod 5 := IntWalk.i64_in _ (by have h1 := tm_bd a 5 (by decide); have h2 := tm_bd c 5 (by decide); have := mul_bd h1 h2 (by decide); omega)
  have w2 : IntKind.i64.wrap (b.tmod 7 * d.tmod 7) = b.tmod 7 * d.tmod 7 := IntWalk.i64_in _ (by have h1 := tm_bd b 7 (by decide); have h2 := tm_bd d 7 (by decide); have := mul_bd h1 h2 (by decide); omega)
  have C1 := hidden ((tm_C (a.tmod 5 * c.tmod 5) 5).trans ((tm_C a 5).mul (tm_C c 5)))
  have C2 := hidden ((tm_C (b.tmod 7 * d.tmod 7) 7).trans ((tm_C b 7).mul (tm_C d 7)))
  have w3 := tm_wrap (a.tmod 5 * c.tmod 5) 5 (by decide) (by decide)
  have w4 := tm_wrap (b.tmod 7 * d.tmod 7) 7 (by decide) (by decide)
  obtain ⟨x, hx⟩ : ∃ x, (a.tmod 5 * c.tmod 5).tmod 5 = x := ⟨_, rfl⟩
  obtain ⟨y, hy⟩ : ∃ y, (b.tmod 7 * d.tmod 7).tmod 7 = y := ⟨_, rfl⟩
  rw [hx] at C1 w3
  rw [hy] at C2 w4
  go_enter Try.func18, Try.ntmps18
  go_wp2_with fail
  refine bodyPost_ret (v := .agg #[.int .i64 x, .int .i64 y]) (by simp [results, Try.results18, go_sem]) rfl ⟨x, y, rfl, C1.out, C2.out, ?_⟩
  exact bl_trans (bl_trans (bl_alloc w _) (bl_alloc _ _)) (bl_alloc _ _)
set_option maxRecDepth 100000 in
theorem pOne_any (a b : Int) (w : World) : Calls Try.prog 62 #[pv a b] w fun e w' => e = .returned (pv 1 1) ∧ Below w.heap.size w w' := by
  unfold pv
  go_enter Try.func62, Try.ntmps62
  go_wp2_with fail
  refine bodyPost_ret (v := .agg #[.int .i64 1, .int .i64 1]) (by simp [results, Try.results62, go_sem]) rfl ⟨rfl, bl_trans (bl_alloc w _) (bl_alloc _ _)⟩
set_option maxRecDepth 100000 in
theorem pIsZero_any (a b : Int) (w : World) (ha : Mx.C 5 a 0) (hb : Mx.C 7 b 0) : Calls Try.prog 19 #[pv a b] w fun e w' => e = .returned (.bool true) ∧ Below w.heap.size w w' := by
  unfold pv
  have wa := tm_wrap a 5 (by decide) (by decide)
  have wb := tm_wrap b 7 (by decide) (by decide)
  have za : a.tmod 5 = 0 := by
    have h1 := tm_bd a 5 (by decide)
    obtain ⟨k, hk⟩ := (tm_C a 5).trans ha
    omega
  have zb : b.tmod 7 = 0 := by
    have h1 := tm_bd b 7 (by decide)
    obtain ⟨k, hk⟩ := (tm_C b 7).trans hb
    omega
  rw [za] at wa
  rw [zb] at wb
  go_enter Try.func19, Try.ntmps19
  go_wp2_with fail
  refine bodyPost_ret (v := .bool true) (by simp [results, Try.results19, go_sem]) rfl ⟨rfl, bl_alloc w _⟩
theorem mp_Add (a b : Int) (w : World) : (method 186 43 (.agg #[.int .i64 a, .int .i64 b]) "Add").run Try.prog w = .ok (23, .agg #[.int .i64 a, .int .i64 b]) w := by kernel_rfl
theorem mp_Sub (a b : Int) (w : World) : (method 186 43 (.agg #[.int .i64 a, .int .i64 b]) "Sub").run Try.prog w = .ok (17, .agg #[.int .i64 a, .int .i64 b]) w := by kernel_rfl
theorem mp_Mul (a b : Int) (w : World) : (method 186 43 (.agg #[.int .i64 a, .int .i64 b]) "Mul").run Try.prog w = .ok (18, .agg #[.int .i64 a, .int .i64 b]) w := by kernel_rfl
theorem mp_One (a b : Int) (w : World) : (method 186 43 (.agg #[.int .i64 a, .int .i64 b]) "One").run Try.prog w = .ok (62, .agg #[.int .i64 a, .int .i64 b]) w := by kernel_rfl
theorem mp_IsZero (a b : Int) (w : World) : (method 186 43 (.agg #[.int .i64 a, .int .i64 b]) "IsZero").run Try.prog w = .ok (19, .agg #[.int .i64 a, .int .i64 b]) w := by kernel_rfl
end Go.Proofs.Ythhcdjndfepbaaa
