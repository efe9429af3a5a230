import Derived.Test.YtffehcilckfoeaaDoorZcp
namespace Go.Proofs.YtffehcilckfoeaaDoor
open Go.RowKit
set_option maxRecDepth 100000 in
set_option maxHeartbeats 16000000 in
theorem zip_no (P0 P1 : Option Addr) (L0 c0 L1 c1 : Nat) (w : World) (h : L0 ≠ L1) :
    Calls Tryd.prog 7 #[.slice P0 L0 c0, .slice P1 L1 c1] w fun e w' => e = .returned (.tuple #[.slice none 0 0, .int .i64 2]) ∧ Below w.heap.size w w' := by
  have h1 : ¬ (L0 : Int) = (L1 : Int) := by omega
  go_enter Tryd.func7, Tryd.ntmps7
  go_wp2_with fail
  refine bodyPost_ret (v := .tuple #[.slice none 0 0, .int .i64 2]) (by simp [results, Tryd.results7, go_sem]) rfl ⟨rfl, Below.refl _ _⟩
set_option maxRecDepth 100000 in
set_option maxHeartbeats 16000000 in
theorem zip_any (P0 P1 : Option Addr) (L c0 c1 : Nat) (f h : Nat → E4) (w : World) (hL : L ≤ 1048576) (h0 : Lm w P0 L f) (h1 : Lm w P1 L h) :
    Calls Tryd.prog 7 #[.slice P0 L c0, .slice P1 L c1] w fun e w' => ∃ t : Nat, e = .returned (.tuple #[.slice (some ⟨t, 0, none⟩) L L, .int .i64 0]) ∧ w.heap.size ≤ t ∧ Rt w' t L f h ∧ Below w.heap.size w w' := by
  have H0 := hidden h0
  have H1 := hidden h1
  have HL := hidden hL
  have nn0 : (0 : Int) ≤ (L : Int) := by omega
  obtain ⟨i0, hi, hz0, hz1, hz2⟩ := info_parts tinfoZ
  have hmk := fun w => run_make (P := Tryd.prog) w 31 37 i0 (.agg #[.int .u64 0, .int .u64 0, .int .u64 0, .int .u64 0, .int .u64 0, .int .u64 0, .int .u64 0, .int .u64 0]) (by kernel_rfl) hi hz0 .i64 .i64 (L : Int) (L : Int) (by omega) (Int.le_refl _) (by rw [hz2]; omega) (by omega)
  simp only [Int.toNat_natCast, hz1, Value.cells] at hmk
  have R0 := hidden (Rt.made w L 37)
  have B0 := hidden (bl_alloc w (.cells (madeCells #[.int .u64 0, .int .u64 0, .int .u64 0, .int .u64 0, .int .u64 0, .int .u64 0, .int .u64 0, .int .u64 0] (L * 8)) 37))
  clear h0 h1 hL hi hz0 hz1 hz2
  go_enter Tryd.func7, Tryd.ntmps7
  go_wp2_with fail
  clear hmk
  go_loopw [18] (fun kv w' => ∃ (k : Nat) (p q : Nat → E4), k ≤ L ∧ kv = .int .i64 (k : Int) ∧ Hid (∀ j, j < k → p j = f j ∧ q j = h j) ∧ Hid (Rt w' w.heap.size L p q) ∧ Hid (Below w.heap.size w w')) (fun k _ => L - (intOf k).toNat)
  case atStart => exact ⟨0, _, _, by omega, rfl, hidden (fun j hj => absurd hj (by omega)), R0, B0⟩
  case round =>
    clear R0 B0
    obtain ⟨k, p, q, hk, rfl, hq, hR, hB⟩ := hrel
    by_cases hkn : k < L
    · have k0 : (0 : Int) ≤ (k : Int) := by omega
      have k1 : (k : Int) < (L : Int) := by omega
      have w9 : IntKind.i64.wrap ((k : Int) + 1) = (k : Int) + 1 := IntWalk.i64_in _ (by have := HL.out; omega)
      have bd := bl_trans hB.out (drew_blW wr)
      obtain ⟨sb, so, h1, h2⟩ := H0.out
      obtain rfl := h1 (by omega)
      have rx := (h2 (by omega)).keep bd
      obtain ⟨tb, tq, h3, h4⟩ := H1.out
      obtain rfl := h3 (by omega)
      have ry := (h4 (by omega)).keep bd
      have x0 := rx.c0 k hkn; have x1 := rx.c1 k hkn; have x2 := rx.c2 k hkn; have x3 := rx.c3 k hkn
      have y0 := ry.c0 k hkn; have y1 := ry.c1 k hkn; have y2 := ry.c2 k hkn; have y3 := ry.c3 k hkn
      have rt := hR.out.keep (drew_blW wr)
      have d0 : wr.drew.cell? ⟨w.heap.size, k * 8, none⟩ = some (.int .u64 (p k).x0) := rt.c k hkn 0 (by omega)
      have d1 : wr.drew.cell? ⟨w.heap.size, k * 8 + 1, none⟩ = some (.int .u64 (p k).x1) := rt.c k hkn 1 (by omega)
      have d2 : wr.drew.cell? ⟨w.heap.size, k * 8 + 2, none⟩ = some (.int .u64 (p k).x2) := rt.c k hkn 2 (by omega)
      have d3 : wr.drew.cell? ⟨w.heap.size, k * 8 + 3, none⟩ = some (.int .u64 (p k).x3) := rt.c k hkn 3 (by omega)
      have d4 : wr.drew.cell? ⟨w.heap.size, k * 8 + 4, none⟩ = some (.int .u64 (q k).x0) := rt.c k hkn 4 (by omega)
      have d5 : wr.drew.cell? ⟨w.heap.size, k * 8 + 5, none⟩ = some (.int .u64 (q k).x1) := rt.c k hkn 5 (by omega)
      have d6 : wr.drew.cell? ⟨w.heap.size, k * 8 + 6, none⟩ = some (.int .u64 (q k).x2) := rt.c k hkn 6 (by omega)
      have d7 : wr.drew.cell? ⟨w.heap.size, k * 8 + 7, none⟩ = some (.int .u64 (q k).x3) := rt.c k hkn 7 (by omega)
      have b0 : wr.cell? ⟨w.heap.size, k * 8, none⟩ = some (.int .u64 (p k).x0) := hR.out.c k hkn 0 (by omega)
      have q0 := hR.out.fr (k * 8) (by omega)
      have b1 : wr.cell? ⟨w.heap.size, k * 8 + 1, none⟩ = some (.int .u64 (p k).x1) := hR.out.c k hkn 1 (by omega)
      have q1 := hR.out.fr (k * 8 + 1) (by omega)
      have b2 : wr.cell? ⟨w.heap.size, k * 8 + 2, none⟩ = some (.int .u64 (p k).x2) := hR.out.c k hkn 2 (by omega)
      have q2 := hR.out.fr (k * 8 + 2) (by omega)
      have b3 : wr.cell? ⟨w.heap.size, k * 8 + 3, none⟩ = some (.int .u64 (p k).x3) := hR.out.c k hkn 3 (by omega)
      have q3 := hR.out.fr (k * 8 + 3) (by omega)
      have b4 : wr.cell? ⟨w.heap.size, k * 8 + 4, none⟩ = some (.int .u64 (q k).x0) := hR.out.c k hkn 4 (by omega)
      have q4 := hR.out.fr (k * 8 + 4) (by omega)
      have b5 : wr.cell? ⟨w.heap.size, k * 8 + 5, none⟩ = some (.int .u64 (q k).x1) := hR.out.c k hkn 5 (by omega)
      have q5 := hR.out.fr (k * 8 + 5) (by omega)
      have b6 : wr.cell? ⟨w.heap.size, k * 8 + 6, none⟩ = some (.int .u64 (q k).x2) := hR.out.c k hkn 6 (by omega)
      have q6 := hR.out.fr (k * 8 + 6) (by omega)
      have b7 : wr.cell? ⟨w.heap.size, k * 8 + 7, none⟩ = some (.int .u64 (q k).x3) := hR.out.c k hkn 7 (by omega)
      have q7 := hR.out.fr (k * 8 + 7) (by omega)
      have f0 := rt.fr (k * 8) (by omega)
      have f1 := rt.fr (k * 8 + 1) (by omega)
      have f2 := rt.fr (k * 8 + 2) (by omega)
      have f3 := rt.fr (k * 8 + 3) (by omega)
      have f4 := rt.fr (k * 8 + 4) (by omega)
      have f5 := rt.fr (k * 8 + 5) (by omega)
      have f6 := rt.fr (k * 8 + 6) (by omega)
      have f7 := rt.fr (k * 8 + 7) (by omega)
      have YR := hidden ((hR.out.set k hkn (f k) (h k)).keep (drew_blW _))
      have YB := hidden (bl_trans (setT_bel (o := k * 8) (x := f k) (y := h k) hB.out (Nat.le_refl _)) (drew_blW _))
      have NQ : Hid (∀ j, j < k + 1 → (if j = k then f k else p j) = f j ∧ (if j = k then h k else q j) = h j) := hidden (fun j hj => by
        by_cases e : j = k
        · rw [if_pos e, if_pos e, e]; exact ⟨rfl, rfl⟩
        · rw [if_neg e, if_neg e]; exact hq.out j (by omega))
      unfold setT at YR YB
      generalize f k = a at x0 x1 x2 x3 YR YB NQ
      generalize h k = c at y0 y1 y2 y3 YR YB NQ
      clear h1 h2 h3 h4 rx ry rt hR hB hq bd
      go_upto_region 7 with fail
      go_region_with fail
      all_goals
        clear x0 x1 x2 x3 y0 y1 y2 y3 d0 d1 d2 d3 d4 d5 d6 d7 f0 f1 f2 f3 f4 f5 f6 f7 b0 b1 b2 b3 b4 b5 b6 b7 q0 q1 q2 q3 q4 q5 q6 q7
        go_wp2_with fail
        go_roundw
        case rel => exact ⟨k + 1, _, _, by omega, by go_num, NQ, YR, YB⟩
        case measure => simp [intOf]; omega
    · obtain rfl : k = L := by omega
      have RR := hR.out
      go_wp2_with fail
      refine bodyPost_ret (v := .tuple #[.slice (some ⟨w.heap.size, 0, none⟩) k k, .int .i64 0]) (by simp [results, Tryd.results7, go_sem]) rfl ⟨w.heap.size, rfl, Nat.le_refl _, ⟨RR.lt, fun i hi j hj => ?_, RR.fr⟩, hB.out⟩
      rw [← (hq.out i hi).1, ← (hq.out i hi).2]
      exact RR.c i hi j hj
end Go.Proofs.YtffehcilckfoeaaDoor
