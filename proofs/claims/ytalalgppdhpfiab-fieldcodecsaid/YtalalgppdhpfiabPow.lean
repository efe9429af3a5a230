import Derived.Test.YtalalgppdhpfiabNum
import Derived.Deep.DeepCutAuto
namespace Go.Proofs.Ytalalgppdhpfiab
open Go.RowKit

/-- the number of bytes, the lowest first -/
def num : List Int → Nat
  | [] => 0
  | z :: zs => z.toNat + 256 * num zs

theorem num_bit : ∀ (zs : List Int) (m : Nat), (∀ z ∈ zs, 0 ≤ z ∧ z ≤ 255) → num zs / 2 ^ m % 2 = (zs.getD (m / 8) 0).toNat / 2 ^ (m % 8) % 2
  | [], m, _ => by simp [num]
  | z :: zs, m, h => by
    have hz := h z (by simp)
    by_cases hm : m < 8
    · have e1 : m / 8 = 0 := by omega
      have e2 : m % 8 = m := by omega
      rw [e1, e2]
      simp only [num, List.getD_cons_zero]
      have hc : m = 0 ∨ m = 1 ∨ m = 2 ∨ m = 3 ∨ m = 4 ∨ m = 5 ∨ m = 6 ∨ m = 7 := by omega
      rcases hc with rfl | rfl | rfl | rfl | rfl | rfl | rfl | rfl <;> simp <;> omega
    · obtain ⟨k, rfl⟩ : ∃ k, m = k + 8 := ⟨m - 8, by omega⟩
      have ih := num_bit zs k (fun y hy => h y (by simp [hy]))
      have e1 : (k + 8) / 8 = k / 8 + 1 := by omega
      have e2 : (k + 8) % 8 = k % 8 := by omega
      rw [e1, e2, List.getD_cons_succ, ← ih, num, Nat.pow_add, Nat.mul_comm (2 ^ k), ← Nat.div_div_eq_div_mul]
      have e3 : (z.toNat + 256 * num zs) / 2 ^ 8 = num zs := by simp; omega
      rw [e3]

theorem num_lt : ∀ (zs : List Int), (∀ z ∈ zs, 0 ≤ z ∧ z ≤ 255) → num zs < 256 ^ zs.length
  | [], _ => by simp [num]
  | z :: zs, h => by
    have hz := h z (by simp)
    have ih := num_lt zs (fun y hy => h y (by simp [hy]))
    rw [num, List.length_cons, Nat.pow_succ]
    omega

theorem and1_u8 (y : Int) (h0 : 0 ≤ y) (h1 : y ≤ 255) : (bits .and .u8 y 1 == 1) = decide (y % 2 = 1) := by
  have e : bits .and .u8 y 1 = y % 2 := by
    rw [u8_and y 1 h0 (by omega) (by omega) (by omega)]
    have : y.toNat &&& (1 : Int).toNat = y.toNat % 2 := Nat.and_two_pow_sub_one_eq_mod y.toNat 1
    rw [this]; omega
  rw [e, Bool.eq_iff_iff]
  simp

/-- a block of bytes -/
def Byt (w : World) (b : Nat) (zs : List Int) : Prop := zs.length = 32 ∧ ∀ j, j < 32 → w.cell? ⟨b, j, none⟩ = some (.int .u8 (zs.getD j 0))
theorem Byt.keep {w1 w2 : World} {b : Nat} {zs : List Int} (h : Byt w1 b zs) (hb : Below w1.heap.size w1 w2) : Byt w2 b zs := ⟨h.1, fun j hj => cell_keep (h.2 j hj) hb⟩
theorem Byt.far {w : World} {b c : Nat} {zs : List Int} {s : E5} (h : Byt w b zs) (hne : c ≠ b) : Byt (set5 w c s) b zs := ⟨h.1, fun j hj => (set5_cell_far w c s _ hne).trans (h.2 j hj)⟩
theorem Byt.new (w : World) (zs : List Int) (t : TypeId) (hl : zs.length = 32) : Byt (w.alloc (.cells (zs.map fun z => Value.int .u8 z).toArray t)) w.heap.size zs := by
  refine ⟨hl, fun j hj => ?_⟩
  go_simp
theorem Byt.lt {w : World} {b : Nat} {zs : List Int} (h : Byt w b zs) : b < w.heap.size := World.block_lt_of_cell? w ⟨b, 0, none⟩ (h.2 0 (by omega))

theorem St.roomR {w0 : World} {L : List (Nat × E5)} {R : List Nat} {w1 : World} (h : St w0 L R w1) (r : E5) (t : TypeId) :
    St w0 ((w1.heap.size, r) :: L) (w1.heap.size :: R) (w1.alloc (.cells #[.int .u64 r.x0, .int .u64 r.x1, .int .u64 r.x2, .int .u64 r.x3, .int .u64 r.x4] t)) := by
  have k := h.new r t
  refine ⟨k.live, fun b hb => ?_, k.bel⟩
  rcases List.mem_cons.1 hb with rfl | hb
  · exact ⟨Wrt.new w1 r t, by simp⟩
  · exact k.wrt b hb

def bv (zs : List Int) : Value := .agg (zs.map fun z => Value.int .u8 z).toArray

end Go.Proofs.Ytalalgppdhpfiab
