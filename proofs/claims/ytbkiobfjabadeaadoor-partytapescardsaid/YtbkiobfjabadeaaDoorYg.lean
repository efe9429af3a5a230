import Derived.Test.YtbkiobfjabadeaaDoorYf
namespace Go.Proofs.YtbkiobfjabadeaaDoor
open Go.RowKit
set_option linter.unusedVariables false
set_option maxRecDepth 100000 in
set_option maxHeartbeats 8000000 in
theorem stays_any (D1 D2 : List Value) (b1 c1 b2 c2 n m : Nat) (V1 V2 : Value) (g h : Nat → E4) (w : World) (hn : n ≤ 4398046510976) (hm : m ≤ 4398046510976) (l1 : D1[16]? = some (.slice (some ⟨b1, 0, none⟩) n c1)) (l2 : D1[17]? = some (.slice (some ⟨b2, 0, none⟩) m c2)) (K16 : D2[16]? = some V1) (K17 : D2[17]? = some V2)
    (hc1 : n + 1 ≤ c1) (hc2 : m + 1 ≤ c2) (r1 : Rlo w b1 0 (n + 1) (mk g n 77)) (r2 : Rlo w b2 0 (m + 1) (mk h m 78)) (h1 : In w V1 n g) (h2 : In w V2 m h) :
    Calls Tryd.prog 8 #[.agg D1.toArray, .agg D2.toArray] w fun e w' => e = .returned (.bool true) ∧ Below w.heap.size w w' := by
  obtain ⟨p1, k1, rfl, -, -, i1⟩ := h1
  obtain ⟨p2, k2, rfl, -, -, i2⟩ := h2
  have I1 := hidden i1
  have I2 := hidden i2
  have RA := hidden r1
  have RB := hidden r2
  have HN := hidden hn
  have HM := hidden hm
  have M0 := (Mw.start w).new D1 31
  have M1 := M0.new D2 31
  rw [World.size_alloc] at M1
  have MM := hidden M1
  have f1 : IntKind.i64.wrap ((n : Int) + 1) = (n : Int) + 1 := IntWalk.i64_in _ (by omega)
  have f2 : IntKind.i64.wrap ((m : Int) + 1) = (m : Int) + 1 := IntWalk.i64_in _ (by omega)
  have f3 : (0 : Int) ≤ (n : Int) + 1 := by omega
  have f4 : (n : Int) + 1 ≤ (c1 : Int) := by omega
  have f5 : (0 : Int) ≤ (m : Int) + 1 := by omega
  have f6 : (m : Int) + 1 ≤ (c2 : Int) := by omega
  have f7 : ((n : Int) + 1).toNat = n + 1 := by omega
  have f8 : ((m : Int) + 1).toNat = m + 1 := by omega
  clear i1 i2 r1 r2 hn hm M0 M1 hc1 hc2
  go_enter Tryd.func8, Tryd.ntmps8
  go_upto_region 1 with fail
  generalize (w.alloc (.cells D1.toArray 31)).alloc (.cells D2.toArray 31) = w1 at *
  have ra := (MM.out.r (w.heap.size, D1) (by simp)).1
  have cA := ra 16 _ l1
  have cB := ra 17 _ l2
  simp only [Nat.zero_add] at cA cB
  clear ra
  go_wp2_with fail
  clear cA cB f1 f2 f3 f4 f5 f6 f7 f8
  go_loopw [7] (fun iv w' => ∃ i : Nat, i ≤ n ∧ iv = .int .i64 i ∧ Hid (Mw w [(w.heap.size + 1, D2), (w.heap.size, D1)] w')) (fun i _ => n - (intOf i).toNat)
  case atStart => exact ⟨0, by omega, rfl, MM⟩
  case round =>
    clear MM
    obtain ⟨i, hi, rfl, MM⟩ := hrel
    have r2 := (MM.out.r (w.heap.size + 1, D2) (by simp)).1
    have cV := r2 16 _ K16
    simp only [Nat.zero_add] at cV
    by_cases hin : i < n
    · obtain ⟨vb, vo, rfl, hv⟩ := I1.out (by omega)
      obtain ⟨u, hu⟩ : ∃ u, g i = u := ⟨_, rfl⟩
      have ii0 : (0 : Int) ≤ (i : Int) := by omega
      have ii1 : (i : Int) < ((n + 1 : Nat) : Int) := by omega
      have ii2 : (i : Int) < (n : Int) := by omega
      have ii3 : (i : Int) < (n : Int) + 1 := by omega
      have w9 : IntKind.i64.wrap ((i : Int) + 1) = (i : Int) + 1 := IntWalk.i64_in _ (by have := HN.out; omega)
      have hqq := fun w => (eq4 u u w).trans (by rw [E4.same_self] : _ = Result.ok true w)
      simp only [E4.v] at hqq
      have BD := bl_trans MM.out.bel (bl_drew wr)
      have q1 := RA.out.keep BD
      have q2 := hv.keep BD
      have cV2 := cell_keep cV (bl_drew wr)
      have y0 := q1.c0 i (by omega)
      have y1 := q1.c1 i (by omega)
      have y2 := q1.c2 i (by omega)
      have y3 := q1.c3 i (by omega)
      have x0 := q2.c0 i hin
      have x1 := q2.c1 i hin
      have x2 := q2.c2 i hin
      have x3 := q2.c3 i hin
      have em : mk g n 77 i = u := by unfold mk; rw [if_neg (by omega)]; exact hu
      simp only [hu, em, Nat.zero_add] at y0 y1 y2 y3 x0 x1 x2 x3
      have MD := hidden (MM.out.keep (bl_drew wr))
      clear q1 q2 hu hv hi em r2 BD
      go_upto_region 6 with fail
      clear cV
      go_region
      all_goals
        go_wp2_with fail
        go_roundw
        case rel => exact ⟨i + 1, by omega, by simp, MD⟩
        case measure => simp [intOf]; omega
    · have hii : n = i := by omega
      subst hii
      clear hin hi
      have lq : ¬ (n : Int) < (n : Int) := by omega
      have MK := MM
      clear r2
      go_wp2_with fail
      clear cV
      go_loopw [8] (fun iv w' => ∃ i : Nat, i ≤ m ∧ iv = .int .i64 i ∧ Hid (Mw w [(w.heap.size + 1, D2), (w.heap.size, D1)] w')) (fun i _ => m - (intOf i).toNat)
      case atStart => exact ⟨0, by omega, rfl, MM⟩
      case round =>
        clear MM
        obtain ⟨i, hi, rfl, MM⟩ := hrel
        have r2 := (MM.out.r (w.heap.size + 1, D2) (by simp)).1
        have cV := r2 17 _ K17
        simp only [Nat.zero_add] at cV
        by_cases hin : i < m
        · obtain ⟨vb, vo, rfl, hv⟩ := I2.out (by omega)
          obtain ⟨u, hu⟩ : ∃ u, h i = u := ⟨_, rfl⟩
          have ii0 : (0 : Int) ≤ (i : Int) := by omega
          have ii1 : (i : Int) < ((m + 1 : Nat) : Int) := by omega
          have ii2 : (i : Int) < (m : Int) := by omega
          have ii3 : (i : Int) < (m : Int) + 1 := by omega
          have w9 : IntKind.i64.wrap ((i : Int) + 1) = (i : Int) + 1 := IntWalk.i64_in _ (by have := HM.out; omega)
          have hqq := fun w => (eq4 u u w).trans (by rw [E4.same_self] : _ = Result.ok true w)
          simp only [E4.v] at hqq
          have BD := bl_trans MM.out.bel (bl_drew wr)
          have q1 := RB.out.keep BD
          have q2 := hv.keep BD
          have cV2 := cell_keep cV (bl_drew wr)
          have y0 := q1.c0 i (by omega)
          have y1 := q1.c1 i (by omega)
          have y2 := q1.c2 i (by omega)
          have y3 := q1.c3 i (by omega)
          have x0 := q2.c0 i hin
          have x1 := q2.c1 i hin
          have x2 := q2.c2 i hin
          have x3 := q2.c3 i hin
          have em : mk h m 78 i = u := by unfold mk; rw [if_neg (by omega)]; exact hu
          simp only [hu, em, Nat.zero_add] at y0 y1 y2 y3 x0 x1 x2 x3
          have MD := hidden (MM.out.keep (bl_drew wr))
          clear q1 q2 hu hv hi em r2 BD
          go_upto_region 11 with fail
          clear cV
          go_region
          all_goals
            go_wp2_with fail
            go_roundw
            case rel => exact ⟨i + 1, by omega, by simp, MD⟩
            case measure => simp [intOf]; omega
        · have hii : m = i := by omega
          subst hii
          clear hin hi
          have lq : ¬ (m : Int) < (m : Int) := by omega
          have cW := r2 16 _ K16
          simp only [Nat.zero_add] at cW
          have qa := RA.out.keep MM.out.bel
          have qb := RB.out.keep MM.out.bel
          have a0 := qa.c0 n (by omega)
          have a1 := qa.c1 n (by omega)
          have a2 := qa.c2 n (by omega)
          have a3 := qa.c3 n (by omega)
          have b0 := qb.c0 m (by omega)
          have b1' := qb.c1 m (by omega)
          have b2' := qb.c2 m (by omega)
          have b3 := qb.c3 m (by omega)
          have e1 : mk g n 77 n = ⟨77, 0, 0, 0⟩ := by unfold mk; rw [if_pos rfl]
          have e2 : mk h m 78 m = ⟨78, 0, 0, 0⟩ := by unfold mk; rw [if_pos rfl]
          simp only [e1, e2, Nat.zero_add] at a0 a1 a2 a3 b0 b1' b2' b3
          have h77 := fun w => (eq4 ⟨77, 0, 0, 0⟩ ⟨77, 0, 0, 0⟩ w).trans (by rw [E4.same_self] : _ = Result.ok true w)
          have h78 := fun w => (eq4 ⟨78, 0, 0, 0⟩ ⟨78, 0, 0, 0⟩ w).trans (by rw [E4.same_self] : _ = Result.ok true w)
          simp only [E4.v] at h77 h78
          have j0 : (0 : Int) ≤ (n : Int) := by omega
          have j1 : (n : Int) < ((n + 1 : Nat) : Int) := by omega
          have j2 : (0 : Int) ≤ (m : Int) := by omega
          have j3 : (m : Int) < ((m + 1 : Nat) : Int) := by omega
          have j4 : (n : Int) < (n : Int) + 1 := by omega
          have j5 : (m : Int) < (m : Int) + 1 := by omega
          clear qa qb e1 e2 r2
          go_wp2_with fail
          refine bodyPost_ret (v := .bool true) (by simp [results, Tryd.results8, go_sem] <;> assumption) rfl ⟨rfl, MM.out.bel⟩
end Go.Proofs.YtbkiobfjabadeaaDoor
