import Derived.Test.YtgijodenblpbgaaDoorSum
import Derived.Deep.RegionHeld3
import Derived.Deep.DeepCutAuto
import Derived.Deep.MidRow
namespace Go.Proofs.YtgijodenblpbgaaDoor
open Go.RowKit
def fv (xs : List Int) : Value := .agg (xs.map fun z => Value.int .i64 z).toArray
def numF : List Int → Int
  | [] => 0
  | z :: zs => z + 67108864 * numF zs
theorem numF_eq : ∀ (xs ys : List Int), xs.length = ys.length → (∀ j, j < xs.length → xs.getD j 0 = ys.getD j 0) → numF xs = numF ys
  | [], [], _, _ => rfl
  | [], _ :: _, h, _ => by simp at h
  | _ :: _, [], h, _ => by simp at h
  | x :: xs, y :: ys, h, hd => by
    have h0 := hd 0 (by simp)
    have ih := numF_eq xs ys (by simpa using h) (fun j hj => by have := hd (j + 1) (by simp; omega); simpa using this)
    simp only [List.getD_cons_zero] at h0
    simp only [numF, ih, h0]
theorem numF_lt : ∀ (xs ys : List Int) (i : Nat), xs.length = ys.length → (∀ z ∈ xs, 0 ≤ z ∧ z < 67108864) → (∀ z ∈ ys, 0 ≤ z ∧ z < 67108864) → i < xs.length → (∀ j, i < j → j < xs.length → xs.getD j 0 = ys.getD j 0) → xs.getD i 0 < ys.getD i 0 → numF xs < numF ys
  | [], _, _, _, _, _, h, _, _ => by simp at h
  | _ :: _, [], _, h, _, _, _, _, _ => by simp at h
  | x :: xs, y :: ys, 0, h, hx, hy, _, hd, hl => by
    have e := numF_eq xs ys (by simpa using h) (fun j hj => by have := hd (j + 1) (by omega) (by simp; omega); simpa using this)
    simp only [List.getD_cons_zero] at hl
    simp only [numF, e]; omega
  | x :: xs, y :: ys, i + 1, h, hx, hy, hi, hd, hl => by
    have ih := numF_lt xs ys i (by simpa using h) (fun z hz => hx z (by simp [hz])) (fun z hz => hy z (by simp [hz])) (by simpa using hi) (fun j hj hj2 => by have := hd (j + 1) (by omega) (by simp; omega); simpa using this) (by simpa using hl)
    have b1 := hx x (by simp)
    have b2 := hy y (by simp)
    simp only [numF]; omega
/-- ten digits lie there -/
def Ten (w : World) (b : Nat) (xs : List Int) : Prop := xs.length = 10 ∧ ∀ j, j < 10 → w.cell? ⟨b, j, none⟩ = some (.int .i64 (xs.getD j 0))
theorem Ten.keep {w1 w2 : World} {b : Nat} {zs : List Int} (h : Ten w1 b zs) (hb : Below w1.heap.size w1 w2) : Ten w2 b zs := ⟨h.1, fun j hj => by
  rw [hb.cell (p := ⟨b, j, none⟩) (World.block_lt_of_cell? w1 ⟨b, j, none⟩ (h.2 j hj))]; exact h.2 j hj⟩
theorem Ten.new (w : World) (zs : List Int) (t : TypeId) (hl : zs.length = 10) : Ten (w.alloc (.cells (zs.map fun z => Value.int .i64 z).toArray t)) w.heap.size zs := by
  refine ⟨hl, fun j hj => ?_⟩
  go_simp
theorem lt_digit (xs ys : List Int) (m : Nat) (lx : xs.length = 10) (ly : ys.length = 10) (hx : ∀ z ∈ xs, 0 ≤ z ∧ z < 67108864) (hy : ∀ z ∈ ys, 0 ≤ z ∧ z < 67108864) (hm : m < 10) (hd : ∀ j : Nat, (m : Int) < j → j < 10 → xs.getD j 0 = ys.getD j 0) (hne : xs.getD m 0 ≠ ys.getD m 0) :
    decide (xs.getD m 0 < ys.getD m 0) = decide (numF xs < numF ys) := by
  rw [Bool.eq_iff_iff, decide_eq_true_iff, decide_eq_true_iff]
  constructor
  · intro h
    exact numF_lt xs ys m (by omega) hx hy (by omega) (fun j h1 h2 => hd j (by omega) (by omega)) h
  · intro h
    rcases Int.lt_or_gt_of_ne hne with h1 | h1
    · exact h1
    · have := numF_lt ys xs m (by omega) hy hx (by omega) (fun j h1 h2 => (hd j (by omega) (by omega)).symm) h1
      omega
/-- what lies where in below -/
structure BW (w0 : World) (xs ys : List Int) (w : World) : Prop where
  a : Ten w w0.heap.size xs
  b : Ten w (w0.heap.size + 1) ys
  bel : Below w0.heap.size w0 w
theorem BW.keep {w0 : World} {xs ys : List Int} {w1 w2 : World} (h : BW w0 xs ys w1) (hb : Below w1.heap.size w1 w2) : BW w0 xs ys w2 := ⟨h.a.keep hb, h.b.keep hb, bl_trans h.bel hb⟩
theorem BW.start (w : World) (xs ys : List Int) (t : TypeId) (lx : xs.length = 10) (ly : ys.length = 10) : BW w xs ys ((w.alloc (.cells (xs.map fun z => Value.int .i64 z).toArray t)).alloc (.cells (ys.map fun z => Value.int .i64 z).toArray t)) := by
  have := Ten.new (w.alloc (.cells (xs.map fun z => Value.int .i64 z).toArray t)) ys t ly
  rw [World.size_alloc] at this
  exact ⟨(Ten.new w xs t lx).keep (bl_alloc _ _), this, bl_alloc2 _ _ _⟩

set_option maxRecDepth 100000 in
set_option maxHeartbeats 4000000 in
theorem below_any (xs ys : List Int) (w : World) (lx : xs.length = 10) (ly : ys.length = 10) (hx : ∀ z ∈ xs, 0 ≤ z ∧ z < 67108864) (hy : ∀ z ∈ ys, 0 ≤ z ∧ z < 67108864) :
    Calls Tryd.prog 55 #[fv xs, fv ys] w fun e w' => e = .returned (.bool (decide (numF xs < numF ys))) ∧ Below w.heap.size w w' := by
  have LD := hidden (fun m => lt_digit xs ys m lx ly hx hy)
  have EQ := hidden (fun h => numF_eq xs ys (by omega) h)
  have B0 := hidden (BW.start w xs ys 29 lx ly)
  rw [lx] at EQ
  clear lx ly hx hy
  unfold fv
  go_enter Tryd.func55, Tryd.ntmps55
  go_wp2_with fail
  go_loopw [5] (fun i w' => ∃ n : Int, -1 ≤ n ∧ n ≤ 9 ∧ i = .int .i64 n ∧ Hid (∀ j : Nat, n < j → j < 10 → xs.getD j 0 = ys.getD j 0) ∧ Hid (BW w xs ys w')) (fun i _ => (intOf i + 1).toNat)
  case atStart => exact ⟨9, by omega, by omega, rfl, hidden (fun j h1 h2 => by omega), B0⟩
  case round =>
    obtain ⟨n, h1, h2, rfl, hd, hB⟩ := hrel
    clear B0
    by_cases hn : 0 ≤ n
    · obtain ⟨m, rfl⟩ := Int.eq_ofNat_of_zero_le hn
      have hm : m < 10 := by omega
      have hi1 : (m : Int) < 10 := by omega
      have hi0 : (0 : Int) ≤ (m : Int) := by omega
      have hwm : IntKind.i64.wrap ((m : Int) - 1) = (m : Int) - 1 := IntWalk.i64_in _ (by omega)
      have K : Hid (∀ w' : World, BW w xs ys w' → (fun w' => BW w xs ys w' ∧ w'.cell? ⟨w.heap.size, m, none⟩ = some (.int .i64 (xs.getD m 0)) ∧ w'.cell? ⟨w.heap.size + 1, m, none⟩ = some (.int .i64 (ys.getD m 0))) w') := hidden (fun w' h => ⟨h, h.a.2 m hm, h.b.2 m hm⟩)
      have LM := hidden (LD.out m hm hd.out)
      have ND := hidden (fun (he : xs.getD m 0 = ys.getD m 0) => (fun (j : Nat) (h1 : (m : Int) - 1 < j) (h2 : j < 10) => if h3 : j = m then (by rw [h3]; exact he) else hd.out j (by omega) h2 : ∀ j : Nat, (m : Int) - 1 < j → j < 10 → xs.getD j 0 = ys.getD j 0))
      generalize xs.getD m 0 = x at *
      generalize ys.getD m 0 = y at *
      have K0 := hidden (K.out _ (hB.out.keep ((Below.refl _ _).drew)))
      go_upto_region 4 with fail
      go_region_held3 (fun w' => BW w xs ys w' ∧ w'.cell? ⟨w.heap.size, m, none⟩ = some (.int .i64 x) ∧ w'.cell? ⟨w.heap.size + 1, m, none⟩ = some (.int .i64 y)) (with_reducible exact K0.out) (fail)
      by_cases he : x = y
      · have NN := hidden (ND.out he)
        have BK := hidden K0.out.1
        clear K0 K ND LM LD
        subst he
        go_wp2_with fail
        exact ⟨⟨(m : Int) - 1, by omega, by omega, rfl, NN, BK⟩, by simp [intOf]⟩
      · have LE := hidden (LM.out he)
        have K1 := hidden (K.out _ (K0.out.1.keep ((Below.refl _ _).drew)))
        go_upto_region 5 with fail
        go_region_held3 (fun w' => BW w xs ys w' ∧ w'.cell? ⟨w.heap.size, m, none⟩ = some (.int .i64 x) ∧ w'.cell? ⟨w.heap.size + 1, m, none⟩ = some (.int .i64 y)) (with_reducible exact K1.out) (fail)
        go_wp2_with fail
        go_ret
        exact ⟨congrArg (fun b => Ending.returned (Value.bool b)) LE.out, K1.out.1.bel⟩
    · have hn1 : n = -1 := by omega
      subst hn1
      have EE := hidden (EQ.out (fun j hj => hd.out j (by omega) hj))
      go_wp2_with fail
      go_ret
      exact ⟨by rw [EE.out, decide_eq_false (Int.lt_irrefl _)]; rfl, hB.out.bel⟩
end Go.Proofs.YtgijodenblpbgaaDoor
