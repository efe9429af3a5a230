import Derived.Test.YtkfkmndhbfeagaaGreatDoorSmon
namespace Go.Proofs.YtkfkmndhbfeagaaGreatDoor
open Go.RowKit

theorem lst_congr {n m : Int} (h : n % Sm.L = m % Sm.L) : lst n = lst m := by unfold lst; rw [h]
theorem int_is (n : Int) (h : Sm.Wd n) : lst n = ⟨n, 0, 0, 0⟩ := by
  unfold Sm.Wd at h
  have e : n % Sm.L = n := Int.emod_eq_of_lt h.1 (by unfold Sm.L; omega)
  unfold lst
  rw [e]
  simp only [Sm.lim]
  congr 1 <;> omega

set_option maxHeartbeats 1000000 in
theorem Int_any (n : Int) (w : World) (h : Sm.Wd n) :
    Calls Tryz.prog 15 #[.int .u64 n] w fun e w' => ∃ r : E4, e = .returned r.v ∧ r.is n ∧ Below w.heap.size w w' := by
  refine Calls.mono (R := fun e w' => e = .returned (lst n).v ∧ Below w.heap.size w w') ?_ (fun e w' h => ⟨lst n, h.1, rfl, h.2⟩)
  rw [int_is n h]
  clear h
  simp only [E4.v]
  go_enter Tryz.func15, Tryz.ntmps15
  go_wp2
  refine bodyPost_ret (v := .agg #[.int .u64 n, .int .u64 0, .int .u64 0, .int .u64 0]) (by simp [results, Tryz.results15, go_sem]) rfl ⟨rfl, ?_⟩
  exact bl_alloc w _

def r2E : E4 := ⟨11819153939886771969, 14991950615390032711, 14910419812499177061, 259310039853996605⟩
def r1E : E4 := ⟨15486807595281847581, 14334777244411350896, 18446744073709551614, 1152921504606846975⟩
theorem r2_ok : r2E.ok := ⟨by unfold Sm.Wd r2E; simp, by unfold Sm.Wd r2E; simp, by unfold Sm.Wd r2E; simp, by unfold Sm.Wd r2E; simp⟩
theorem r1_ok : r1E.ok := ⟨by unfold Sm.Wd r1E; simp, by unfold Sm.Wd r1E; simp, by unfold Sm.Wd r1E; simp, by unfold Sm.Wd r1E; simp⟩
theorem r2_lt : r2E.n < Sm.L := by decide
theorem r1_lt : r1E.n < Sm.L := by decide
/-- 2^256 -/
def R : Int := 115792089237316195423570985008687907853269984665640564039457584007913129639936
theorem RRi : R * Ri % Sm.L = 1 := by decide +kernel
theorem r2_m : r2E.n * Ri % Sm.L = R % Sm.L := by decide +kernel
theorem r1_m : r1E.is (1 * R) := by
  have e : (1 * R) % Sm.L = 7237005577332262213973186563042994240413239274941949949428319933631315875101 := by decide +kernel
  unfold E4.is lst
  rw [e]
  rfl
/-- out of Montgomery's form and in again -/
theorem cancel (x : Int) : x * R * Ri % Sm.L = x % Sm.L := by
  rw [Int.mul_assoc, Int.mul_emod, RRi, Int.mul_one, emod_emod_L]
theorem cancel' (x y : Int) : x * y * R * Ri % Sm.L = x * y % Sm.L := cancel (x * y)

/-- are they the same limbs? -/
def E4.same (a b : E4) : Bool := a.x0 == b.x0 && (a.x1 == b.x1 && (a.x2 == b.x2 && (a.x3 == b.x3)))
theorem E4.same_iff (a b : E4) : a.same b = true ↔ a = b := by
  obtain ⟨a0, a1, a2, a3⟩ := a
  obtain ⟨b0, b1, b2, b3⟩ := b
  simp [E4.same]
theorem E4.same_self (a : E4) : a.same a = true := (E4.same_iff a a).2 rfl
theorem eqItems_ints {P : Program} (w : World) {e : TypeId} {k : IntKind} (d : Nat) (hp : P.plainKey e = true) (hu : P.underlying e = some (.int k)) (xs ys : Array Value) (f g : Nat → Int) :
    ∀ is : List Nat, (∀ i ∈ is, xs[i]? = some (.int k (f i)) ∧ ys[i]? = some (.int k (g i))) → (Op.eqItems (d + 1) e 1 xs ys is).run P w = .ok (is.all fun i => f i == g i) w
  | [], _ => by simp [Op.eqItems]
  | i :: is, h => by
    have hi := h i (by simp)
    have ih := eqItems_ints w d hp hu xs ys f g is (fun j hj => h j (by simp [hj]))
    simp only [Op.eqItems, Sem.run_bind, Nat.mul_one, run_part_plain w hp hi.1, run_part_plain w hp hi.2, Result.andThen_ok, run_equalIn_int w d e k k _ _ hu, List.all_cons]
    by_cases hx : f i = g i
    · simp [hx, ih]
    · simp [hx]

theorem eq4 (a b : E4) (w : World) : (Op.equalIn 10000 24 a.v b.v).run Tryz.prog w = .ok (a.same b) w := by
  have hi : Tryz.prog.info? 22 = some (Tryz.prog.info? 22).get! := by kernel_rfl
  have hc : Tryz.prog.cellsOf 22 = 1 := by kernel_rfl
  unfold E4.v
  rw [run_equalIn_array w 9999 _ _ (by kernel_rfl : Tryz.prog.underlying 24 = some (.array 4 22)) hi, hc]
  rw [eqItems_ints w (k := .u64) 9998 (by kernel_rfl) (by kernel_rfl) _ _ (fun i => [a.x0, a.x1, a.x2, a.x3].getD i 0) (fun i => [b.x0, b.x1, b.x2, b.x3].getD i 0)]
  · rw [show List.range 4 = [0, 1, 2, 3] from rfl]
    simp only [List.all_cons, List.all_nil, Bool.and_true]
    rfl
  · intro i hi
    have : i < 4 := List.mem_range.1 hi
    match i, this with
    | 0, _ => exact ⟨rfl, rfl⟩
    | 1, _ => exact ⟨rfl, rfl⟩
    | 2, _ => exact ⟨rfl, rfl⟩
    | 3, _ => exact ⟨rfl, rfl⟩

theorem zero_is (n : Int) : lst n = ⟨0, 0, 0, 0⟩ ↔ n % Sm.L = 0 := by
  constructor
  · intro h
    have := lst_n n
    rw [h] at this
    rw [← this]; rfl
  · intro h
    unfold lst; rw [h]; rfl

end Go.Proofs.YtkfkmndhbfeagaaGreatDoor
