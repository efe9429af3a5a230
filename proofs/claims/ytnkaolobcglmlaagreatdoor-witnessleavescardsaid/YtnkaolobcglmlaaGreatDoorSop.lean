import Derived.Test.YtnkaolobcglmlaaGreatDoorSmon
namespace Go.Proofs.YtnkaolobcglmlaaGreatDoor
open Go.RowKit
theorem lst_congr {n m : Int} (h : n % Sm.L = m % Sm.L) : lst n = lst m := by unfold lst; rw [h]
theorem int_is (n : Int) (h : Sm.Wd n) : lst n = ⟨n, 0, 0, 0⟩ := by
 unfold Sm.Wd at h
 have e : n % Sm.L = n := Int.emod_eq_of_lt h.1 (by unfold Sm.L; omega)
 unfold lst
 rw [e]
 simp only [Sm.lim]
 congr 1 <;> omega
set_option maxHeartbeats 1000000 in
theorem Int_any (n : Int) (w : World) (h : Sm.Wd n) :
  Calls Tryz.prog 65 #[.int .u64 n] w fun e w' => ∃ r : E4, e = .returned r.v ∧ r.is n ∧ Below w.heap.size w w' := by
 refine Calls.mono (R := fun e w' => e = .returned (lst n).v ∧ Below w.heap.size w w') ?_ (fun e w' h => ⟨lst n, h.1, rfl, h.2⟩)
 rw [int_is n h]
 clear h
 simp only [E4.v]
 go_enter Tryz.func65, Tryz.ntmps65
 go_wp2
 refine bodyPost_ret (v := .agg #[.int .u64 n, .int .u64 0, .int .u64 0, .int .u64 0]) (by simp [results, Tryz.results65, go_sem]) rfl ⟨rfl, ?_⟩
 exact bl_alloc w _
def r2E : E4 := ⟨11819153939886771969, 14991950615390032711, 14910419812499177061, 259310039853996605⟩
def r1E : E4 := ⟨15486807595281847581, 14334777244411350896, 18446744073709551614, 1152921504606846975⟩
theorem r2_ok : r2E.ok := ⟨by unfold Sm.Wd r2E; simp, by unfold Sm.Wd r2E; simp, by unfold Sm.Wd r2E; simp, by unfold Sm.Wd r2E; simp⟩
theorem r2_lt : r2E.n < Sm.L := by decide
def R : Int := 115792089237316195423570985008687907853269984665640564039457584007913129639936
theorem RRi : R * Ri % Sm.L = 1 := by decide +kernel
theorem r2_m : r2E.n * Ri % Sm.L = R % Sm.L := by decide +kernel
theorem cancel (x : Int) : x * R * Ri % Sm.L = x % Sm.L := by
 rw [Int.mul_assoc, Int.mul_emod, RRi, Int.mul_one, emod_emod_L]
theorem cancel' (x y : Int) : x * y * R * Ri % Sm.L = x * y % Sm.L := cancel (x * y)
set_option maxHeartbeats 1000000 in
theorem Neg_any (a : E4) (w : World) (hT : Tb w) (ha : a.ok) :
  Calls Tryz.prog 64 #[a.v] w fun e w' => ∃ r : E4, e = .returned r.v ∧ r.is (-a.n) ∧ Below w.heap.size w w' := by
 have hzk : zero4.ok := ⟨by unfold Sm.Wd zero4; simp, by unfold Sm.Wd zero4; simp, by unfold Sm.Wd zero4; simp, by unfold Sm.Wd zero4; simp⟩
 have c1 := fun w T => Sub_any zero4 a w T hzk ha
 have e0 : zero4.n - a.n = -a.n := by
  have : zero4.n = 0 := rfl
  rw [this, Int.zero_sub]
 simp only [e0] at c1
 generalize -a.n = N at *
 simp only [E4.v, zero4] at c1 ⊢
 have C1 := hidden c1
 have HT := hidden hT
 clear c1 ha e0 hzk hT
 go_enter Tryz.func64, Tryz.ntmps64
 go_wp2_with fail
 refine (C1.out _ (HT.out.keep (bl_alloc2 _ _ _))).mono ?_
 rintro e w1 ⟨r, rfl, hr, hb1⟩
 clear C1
 obtain ⟨hc1, hf1⟩ := bcell hb1
 have hz1 : w.heap.size + 1 < w1.heap.size := by have := hb1.size; simp at this; omega
 go_wp2_with fail
 refine bodyPost_ret (v := .agg #[.int .u64 r.x0, .int .u64 r.x1, .int .u64 r.x2, .int .u64 r.x3]) (by simp [results, Tryz.results64, go_sem, hc1]) rfl ⟨r, rfl, hr, ?_⟩
 exact bl_set4 _ _ _ _ (bl_trans (bl_alloc2 w _ _) hb1) (by omega)
def E4.same (a b : E4) : Bool := a.x0 == b.x0 && (a.x1 == b.x1 && (a.x2 == b.x2 && (a.x3 == b.x3)))
theorem E4.same_iff (a b : E4) : a.same b = true ↔ a = b := by
 obtain ⟨a0, a1, a2, a3⟩ := a
 obtain ⟨b0, b1, b2, b3⟩ := b
 simp [E4.same]
theorem E4.same_self (a : E4) : a.same a = true := (E4.same_iff a a).2 rfl
theorem eqItems_ints {P : Program} (w : World) {e : TypeId} {k : IntKind} (d : Nat) (hp : P.plainKey e = true) (hu : P.underlying e = some (.int k)) (xs ys : Array Value) (f g : Nat → Int) :
  ∀ is : List Nat, (∀ i ∈ is, xs[i]? = some (.int k (f i)) ∧ ys[i]? = some (.int k (g i))) → (Op.eqItems (d + 1) e 1 xs ys is).run P w = .ok (is.all fun i => f i == g i) w
 | [], _ => by simp [Op.eqItems]
 | i :: is, h => by
  have hi := h i (by simp)
  have ih := eqItems_ints w d hp hu xs ys f g is (fun j hj => h j (by simp [hj]))
  simp only [Op.eqItems, Sem.run_bind, Nat.mul_one, run_part_plain w hp hi.1, run_part_plain w hp hi.2, Result.andThen_ok, run_equalIn_int w d e k k _ _ hu, List.all_cons]
  by_cases hx : f i = g i
  ·simp [hx, ih]
  ·simp [hx]
theorem eq4 (a b : E4) (w : World) : (Op.equalIn 10000 64 a.v b.v).run Tryz.prog w = .ok (a.same b) w := by
 have hi : Tryz.prog.info? 22 = some (Tryz.prog.info? 22).get! := by kernel_rfl
 have hc : Tryz.prog.cellsOf 22 = 1 := by kernel_rfl
 unfold E4.v
 rw [run_equalIn_array w 9999 _ _ (by kernel_rfl : Tryz.prog.underlying 64 = some (.array 4 22)) hi, hc]
 rw [eqItems_ints w (k := .u64) 9998 (by kernel_rfl) (by kernel_rfl) _ _ (fun i => [a.x0, a.x1, a.x2, a.x3].getD i 0) (fun i => [b.x0, b.x1, b.x2, b.x3].getD i 0)]
 ·rw [show List.range 4 = [0, 1, 2, 3] from rfl]
  simp only [List.all_cons, List.all_nil, Bool.and_true]
  rfl
 ·intro i hi
  have : i < 4 := List.mem_range.1 hi
  match i, this with
  | 0, _ => exact ⟨rfl, rfl⟩
  | 1, _ => exact ⟨rfl, rfl⟩
  | 2, _ => exact ⟨rfl, rfl⟩
  | 3, _ => exact ⟨rfl, rfl⟩
theorem zero_is (n : Int) : lst n = ⟨0, 0, 0, 0⟩ ↔ n % Sm.L = 0 := by
 constructor
 ·intro h
  have := lst_n n
  rw [h] at this
  rw [← this]; rfl
 ·intro h
  unfold lst; rw [h]; rfl
set_option maxHeartbeats 1000000 in
theorem IsZero_any (a : E4) (w : World) (hT : Tb w) (ha : a.ok) :
  Calls Tryz.prog 76 #[a.v] w fun e w' => e = .returned (.bool (decide (a.n % Sm.L = 0))) ∧ Below w.heap.size w w' := by
 have c1 := fun w T => Least_any a w T ha
 simp only [E4.v] at c1 ⊢
 have C1 := hidden c1
 have HT := hidden hT
 clear c1 ha hT
 go_enter Tryz.func76, Tryz.ntmps76
 go_wp2_with fail
 refine (C1.out _ (HT.out.keep (bl_alloc _ _))).mono ?_
 rintro e w1 ⟨r, rfl, hr, hb1⟩
 clear C1
 have hq : ∀ w, (Op.equalIn 10000 64 (.agg #[.int .u64 r.x0, .int .u64 r.x1, .int .u64 r.x2, .int .u64 r.x3]) (.agg #[.int .u64 0, .int .u64 0, .int .u64 0, .int .u64 0])).run Tryz.prog w = .ok (r.same ⟨0, 0, 0, 0⟩) w := fun w => eq4 r ⟨0, 0, 0, 0⟩ w
 have he : r.same ⟨0, 0, 0, 0⟩ = decide (a.n % Sm.L = 0) := by
  rw [Bool.eq_iff_iff, E4.same_iff, hr, zero_is]
  simp
 rw [he] at hq
 clear he
 generalize hB : decide (a.n % Sm.L = 0) = B at hq
 go_wp2_with fail
 refine bodyPost_ret (v := .bool B) (by simp [results, Tryz.results76, go_sem]) rfl ⟨by rw [hB], ?_⟩
 exact bl_trans (bl_alloc w _) hb1
end Go.Proofs.YtnkaolobcglmlaaGreatDoor
