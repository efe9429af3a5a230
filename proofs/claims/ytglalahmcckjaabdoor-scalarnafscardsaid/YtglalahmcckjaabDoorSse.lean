import Derived.Test.YtglalahmcckjaabDoorSrf
import Derived.Test.YtglalahmcckjaabDoorSnum
import Derived.Test.YtglalahmcckjaabDoorSrd2
namespace Go.Proofs.YtglalahmcckjaabDoor
open Go.RowKit

theorem requal (a b : E4) (w : World) : (Op.equalIn 10000 31 a.v b.v).run Tryd.prog w = .ok (a.same b) w := by
  have hi : Tryd.prog.info? 22 = some (Tryd.prog.info? 22).get! := by kernel_rfl
  have hc : Tryd.prog.cellsOf 22 = 1 := by kernel_rfl
  unfold E4.v
  rw [run_equalIn_array w 9999 _ _ (by kernel_rfl : Tryd.prog.underlying 31 = some (.array 4 22)) hi, hc]
  rw [eqItems_ints w (k := .u64) 9998 (by kernel_rfl) (by kernel_rfl) _ _ (fun i => [a.x0, a.x1, a.x2, a.x3].getD i 0) (fun i => [b.x0, b.x1, b.x2, b.x3].getD i 0)]
  · rw [show List.range 4 = [0, 1, 2, 3] from rfl]
    simp only [List.all_cons, List.all_nil, Bool.and_true]
    rfl
  · intro i hi
    have : i < 4 := List.mem_range.1 hi
    match i, this with
    | 0, _ => exact ⟨rfl, rfl⟩
    | 1, _ => exact ⟨rfl, rfl⟩
    | 2, _ => exact ⟨rfl, rfl⟩
    | 3, _ => exact ⟨rfl, rfl⟩

set_option maxHeartbeats 1000000 in
theorem rSame_any (a b : E4) (w : World) :
    Calls Tryd.prog 16 #[a.v, b.v] w fun e w' => e = .returned (.bool (a.same b)) ∧ Below w.heap.size w w' := by
  have hq := fun w => requal a b w
  simp only [E4.v] at hq ⊢
  generalize hB : a.same b = B at hq
  go_enter Tryd.func16, Tryd.ntmps16
  go_wp2_with fail
  refine bodyPost_ret (v := .bool B) (by simp [results, Tryd.results16, go_sem]) rfl ⟨rfl, ?_⟩
  exact bl_alloc2 w _ _
set_option maxHeartbeats 1000000 in
theorem rIsZero_any (a : E4) (w : World) :
    Calls Tryd.prog 18 #[a.v] w fun e w' => e = .returned (.bool (a.same zero4)) ∧ Below w.heap.size w w' := by
  have hq := fun w => requal a zero4 w
  simp only [E4.v] at hq ⊢
  generalize hB : a.same zero4 = B at hq
  simp only [zero4] at hq
  go_enter Tryd.func18, Tryd.ntmps18
  go_wp2_with fail
  refine bodyPost_ret (v := .bool B) (by simp [results, Tryd.results18, go_sem]) rfl ⟨rfl, ?_⟩
  exact bl_alloc w _
set_option maxRecDepth 100000 in
set_option maxHeartbeats 4000000 in
theorem Same_any (a b : E4) (w : World) (hT : Tb w) (ha : a.ok) (hb : b.ok) :
    Calls Tryd.prog 15 #[a.v, b.v] w fun e w' => e = .returned (.bool ((lst a.n).same (lst b.n))) ∧ Below w.heap.size w w' := by
  have s0 := ((St.start w a 28).new b 28)
  simp only [World.size_alloc] at s0
  have S0 := hidden s0
  have HT := hidden hT
  obtain ⟨A, hA⟩ : ∃ t : E4, lst a.n = t := ⟨_, rfl⟩
  obtain ⟨B, hB⟩ : ∃ t : E4, lst b.n = t := ⟨_, rfl⟩
  have CA := hidden (fun w T => fix (Least_any a w T ha) hA)
  have CB := hidden (fun w T => fix (Least_any b w T hb) hB)
  have hq := fun w => eq4 A B w
  rw [hA, hB]
  generalize hC : A.same B = C at hq
  clear s0 ha hb hT hA hB hC
  simp only [E4.v] at CA CB hq ⊢
  go_enter Tryd.func15, Tryd.ntmps15
  go_wp2_with fail
  have KSt : Hid (∀ w' : World, St w [(w.heap.size + 1, b), (w.heap.size, a)] [] w' → (fun w' => St w [(w.heap.size + 1, b), (w.heap.size, a)] [] w' ∧ w'.cell? ⟨w.heap.size + 1, 0, none⟩ = some (.int .u64 b.x0) ∧ w'.cell? ⟨w.heap.size + 1, 1, none⟩ = some (.int .u64 b.x1) ∧ w'.cell? ⟨w.heap.size + 1, 2, none⟩ = some (.int .u64 b.x2) ∧ w'.cell? ⟨w.heap.size + 1, 3, none⟩ = some (.int .u64 b.x3) ∧ w'.cell? ⟨w.heap.size, 0, none⟩ = some (.int .u64 a.x0) ∧ w'.cell? ⟨w.heap.size, 1, none⟩ = some (.int .u64 a.x1) ∧ w'.cell? ⟨w.heap.size, 2, none⟩ = some (.int .u64 a.x2) ∧ w'.cell? ⟨w.heap.size, 3, none⟩ = some (.int .u64 a.x3)) w') := hidden (fun w' h => ⟨h, (h.live (w.heap.size + 1, b) (by simp)).c0, (h.live (w.heap.size + 1, b) (by simp)).c1, (h.live (w.heap.size + 1, b) (by simp)).c2, (h.live (w.heap.size + 1, b) (by simp)).c3, (h.live (w.heap.size, a) (by simp)).c0, (h.live (w.heap.size, a) (by simp)).c1, (h.live (w.heap.size, a) (by simp)).c2, (h.live (w.heap.size, a) (by simp)).c3⟩)
  have KTb : Hid (∀ w' : World, St w [(w.heap.size + 1, b), (w.heap.size, a)] [] w' → Tb w') := hidden (fun w' h => h.tb HT.out)
  have K0 : Hid ((fun w' => St w [(w.heap.size + 1, b), (w.heap.size, a)] [] w' ∧ w'.cell? ⟨w.heap.size + 1, 0, none⟩ = some (.int .u64 b.x0) ∧ w'.cell? ⟨w.heap.size + 1, 1, none⟩ = some (.int .u64 b.x1) ∧ w'.cell? ⟨w.heap.size + 1, 2, none⟩ = some (.int .u64 b.x2) ∧ w'.cell? ⟨w.heap.size + 1, 3, none⟩ = some (.int .u64 b.x3) ∧ w'.cell? ⟨w.heap.size, 0, none⟩ = some (.int .u64 a.x0) ∧ w'.cell? ⟨w.heap.size, 1, none⟩ = some (.int .u64 a.x1) ∧ w'.cell? ⟨w.heap.size, 2, none⟩ = some (.int .u64 a.x2) ∧ w'.cell? ⟨w.heap.size, 3, none⟩ = some (.int .u64 a.x3)) _) := hidden (KSt.out _ (S0.out).drew)
  go_region_held3 (fun w' => St w [(w.heap.size + 1, b), (w.heap.size, a)] [] w' ∧ w'.cell? ⟨w.heap.size + 1, 0, none⟩ = some (.int .u64 b.x0) ∧ w'.cell? ⟨w.heap.size + 1, 1, none⟩ = some (.int .u64 b.x1) ∧ w'.cell? ⟨w.heap.size + 1, 2, none⟩ = some (.int .u64 b.x2) ∧ w'.cell? ⟨w.heap.size + 1, 3, none⟩ = some (.int .u64 b.x3) ∧ w'.cell? ⟨w.heap.size, 0, none⟩ = some (.int .u64 a.x0) ∧ w'.cell? ⟨w.heap.size, 1, none⟩ = some (.int .u64 a.x1) ∧ w'.cell? ⟨w.heap.size, 2, none⟩ = some (.int .u64 a.x2) ∧ w'.cell? ⟨w.heap.size, 3, none⟩ = some (.int .u64 a.x3)) (first | with_reducible exact K0.out | with_reducible exact hk.out)
    (first | (go_at_call 35; with_reducible refine (CA.out _ (KTb.out _ (And.left (by assumption)))).mono ?_; rintro e wn ⟨rfl, hb⟩; have hk := hidden (KSt.out _ ((show St w [(w.heap.size + 1, b), (w.heap.size, a)] [] _ from And.left (by assumption)).keep hb))) | (go_at_call 35; with_reducible refine (CB.out _ (KTb.out _ (And.left (by assumption)))).mono ?_; rintro e wn ⟨rfl, hb⟩; have hk := hidden (KSt.out _ ((show St w [(w.heap.size + 1, b), (w.heap.size, a)] [] _ from And.left (by assumption)).keep hb))))
  go_wp2_with fail
  go_ret
  exact ⟨rfl, hk.out.1.bel⟩
/-- a, if p is odd, else b -/
def selE (p : Int) (a b : E4) : E4 := if p % 2 = 1 then a else b
set_option maxRecDepth 100000 in
set_option maxHeartbeats 4000000 in
theorem rSelect_any (p : Int) (a b : E4) (w : World) :
    Calls Tryd.prog 23 #[.int .i64 p, a.v, b.v] w fun e w' => e = .returned (selE p a b).v ∧ Below w.heap.size w w' := by
  have s0 := ((St.start w a 31).new b 31).room 31
  simp only [World.size_alloc] at s0
  have S0 := hidden s0
  obtain ⟨q, hq⟩ : ∃ q, p.tmod 2 = q := ⟨_, rfl⟩
  have key : q = p % 2 ∨ (q = p % 2 - 2 ∧ ¬ (2 : Int) ∣ p) := by
    rw [← hq, Int.tmod_eq_emod]
    split
    · left; omega
    · right; exact ⟨rfl, by omega⟩
  have q0 : -2 < q := by omega
  have q1 : q < 2 := by omega
  have hw : IntKind.i64.wrap q = q := IntWalk.i64_in _ (by omega)
  by_cases hc : p % 2 = 1
  · have hne : q ≠ 0 := by omega
    rw [show selE p a b = a from if_pos hc]
    clear key
    clear s0 hc
    simp only [E4.v]
    go_enter Tryd.func23, Tryd.ntmps23
    go_upto_region 1 with fail
    generalize (((w.alloc (.cells #[.int .u64 a.x0, .int .u64 a.x1, .int .u64 a.x2, .int .u64 a.x3] 31)).alloc (.cells #[.int .u64 b.x0, .int .u64 b.x1, .int .u64 b.x2, .int .u64 b.x3] 31)).alloc (.cells #[.int .u64 0, .int .u64 0, .int .u64 0, .int .u64 0] 31)) = wB at S0 ⊢
    have x0 := (S0.out.live (w.heap.size, a) (by simp)).c0
    have x1 := (S0.out.live (w.heap.size, a) (by simp)).c1
    have x2 := (S0.out.live (w.heap.size, a) (by simp)).c2
    have x3 := (S0.out.live (w.heap.size, a) (by simp)).c3
    have d0 := (S0.out.live (w.heap.size + 1 + 1, zero4) (by simp)).c0
    have d1 := (S0.out.live (w.heap.size + 1 + 1, zero4) (by simp)).c1
    have d2 := (S0.out.live (w.heap.size + 1 + 1, zero4) (by simp)).c2
    have d3 := (S0.out.live (w.heap.size + 1 + 1, zero4) (by simp)).c3
    obtain ⟨f0, f1, f2, f3⟩ := (S0.out.wrt (w.heap.size + 1 + 1) (by simp)).1
    go_wp2_with fail
    refine bodyPost_ret (v := .agg #[.int .u64 a.x0, .int .u64 a.x1, .int .u64 a.x2, .int .u64 a.x3]) (by simp [results, Tryd.results23, go_sem, d0, d1, d2, d3]) rfl ⟨rfl, ?_⟩
    exact set4_below _ _ _ S0.out.bel (by omega)
  · have hne : q = 0 := by omega
    subst hne
    rw [show selE p a b = b from if_neg hc]
    clear key
    clear s0 hc
    simp only [E4.v]
    go_enter Tryd.func23, Tryd.ntmps23
    go_upto_region 1 with fail
    generalize (((w.alloc (.cells #[.int .u64 a.x0, .int .u64 a.x1, .int .u64 a.x2, .int .u64 a.x3] 31)).alloc (.cells #[.int .u64 b.x0, .int .u64 b.x1, .int .u64 b.x2, .int .u64 b.x3] 31)).alloc (.cells #[.int .u64 0, .int .u64 0, .int .u64 0, .int .u64 0] 31)) = wB at S0 ⊢
    have x0 := (S0.out.live (w.heap.size + 1, b) (by simp)).c0
    have x1 := (S0.out.live (w.heap.size + 1, b) (by simp)).c1
    have x2 := (S0.out.live (w.heap.size + 1, b) (by simp)).c2
    have x3 := (S0.out.live (w.heap.size + 1, b) (by simp)).c3
    have d0 := (S0.out.live (w.heap.size + 1 + 1, zero4) (by simp)).c0
    have d1 := (S0.out.live (w.heap.size + 1 + 1, zero4) (by simp)).c1
    have d2 := (S0.out.live (w.heap.size + 1 + 1, zero4) (by simp)).c2
    have d3 := (S0.out.live (w.heap.size + 1 + 1, zero4) (by simp)).c3
    obtain ⟨f0, f1, f2, f3⟩ := (S0.out.wrt (w.heap.size + 1 + 1) (by simp)).1
    go_wp2_with fail
    refine bodyPost_ret (v := .agg #[.int .u64 b.x0, .int .u64 b.x1, .int .u64 b.x2, .int .u64 b.x3]) (by simp [results, Tryd.results23, go_sem, d0, d1, d2, d3]) rfl ⟨rfl, ?_⟩
    exact set4_below _ _ _ S0.out.bel (by omega)
set_option maxRecDepth 100000 in
set_option maxHeartbeats 4000000 in
theorem is_any (a : E4) (w : World) :
    Calls Tryd.prog 21 #[a.v, a.v] w fun e w' => e = .returned (.bool true) ∧ Below w.heap.size w w' := by
  have s0 := ((St.start w a 28).new a 31)
  simp only [World.size_alloc] at s0
  have S0 := hidden s0
  clear s0
  simp only [E4.v]
  go_enter Tryd.func21, Tryd.ntmps21
  go_wp2_with fail
  go_loopw [5] (fun i w' => ∃ k : Nat, k ≤ 4 ∧ i = .int .i64 k ∧ St w [(w.heap.size + 1, a), (w.heap.size, a)] [] w') (fun i _ => 4 - (intOf i).toNat)
  case atStart => exact ⟨0, by omega, rfl, S0.out⟩
  case round =>
    obtain ⟨k, hk, rfl, hst⟩ := hrel
    clear S0
    by_cases hk4 : k < 4
    · have kk0 : (0 : Int) ≤ (k : Int) := by omega
      have kk1 : (k : Int) < 4 := by omega
      have ca := (hst.drew.live (w.heap.size, a) (by simp)).get k hk4
      have cb := (hst.drew.live (w.heap.size + 1, a) (by simp)).get k hk4
      have ST := hidden hst.drew
      clear hst
      simp only at ca cb
      go_upto_region 4 with fail
      go_region_with fail
      all_goals
        clear ca cb
        go_wp2_with fail
        go_roundw
        case rel => exact ⟨k + 1, by omega, by go_num, ST.out⟩
        case measure => simp [intOf]; omega
    · have hkk : k = 4 := by omega
      subst hkk
      have ST := hidden hst
      clear hst
      rw [show ((4 : Nat) : Int) = 4 from rfl]
      go_wp2_with fail
      go_ret
      exact ⟨rfl, ST.out.bel⟩
end Go.Proofs.YtglalahmcckjaabDoor
