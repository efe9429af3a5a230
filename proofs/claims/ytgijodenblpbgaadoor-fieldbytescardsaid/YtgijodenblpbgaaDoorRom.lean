import Derived.Test.YtgijodenblpbgaaDoorRlw
namespace Go.Proofs.YtgijodenblpbgaaDoor
open Go.RowKit
theorem p2pos (k : Nat) : (0 : Int) < 2 ^ k := Int.pow_pos (by decide)
theorem rsn_put (g : Nat → Int) (v : Int) : ∀ (m k q : Nat), k ≤ q → q < k + m → rsn (fun j => if j = q then v else g j) m k = rsn g m k + (v - g q) * 67108864 ^ (q - k)
  | 0, _, _, _, h => by omega
  | m + 1, k, q, h1, h2 => by
    rw [rsn, rsn]
    by_cases hq : k = q
    · subst hq
      rw [if_pos rfl, rsn_congr m (k + 1) (e := g) (fun j h3 _ => if_neg (by omega)), Nat.sub_self, Int.pow_zero]
      omega
    · rw [if_neg hq, rsn_put g v m (k + 1) q (by omega) (by omega), show q - k = (q - (k + 1)) + 1 by omega, Int.pow_succ]
      grind
theorem mod_bit (x : Int) (hx : 0 ≤ x) (b : Nat) : x % 2 ^ (b + 1) = x % 2 ^ b + 2 ^ b * (x / 2 ^ b % 2) := by
  obtain ⟨m, rfl⟩ := Int.eq_ofNat_of_zero_le hx
  have e2 : (m : Int) % 2 ^ (b + 1) = ((m % 2 ^ (b + 1) : Nat) : Int) := by simp
  have e3 : (m : Int) % 2 ^ b = ((m % 2 ^ b : Nat) : Int) := by simp
  have e4 : (m : Int) / 2 ^ b % 2 = ((m / 2 ^ b % 2 : Nat) : Int) := by simp
  rw [e2, e3, e4, Nat.pow_succ, Nat.mod_mul, Int.natCast_add, Int.natCast_mul]
  simp
theorem pow26 (q r : Nat) : (2 : Int) ^ r * 67108864 ^ q = 2 ^ (26 * q + r) := by
  rw [show (67108864 : Int) = 2 ^ 26 by decide, ← Int.pow_mul, ← Int.pow_add, Nat.add_comm]
/-- limbs, one by one; the first n as a number -/
def lmf (a : E5) : Nat → Int
  | 0 => a.x0
  | 1 => a.x1
  | 2 => a.x2
  | 3 => a.x3
  | 4 => a.x4
  | _ => 0
def sl (y : Nat → Int) : Nat → Int
  | 0 => 0
  | n + 1 => sl y n + y n * 2 ^ (51 * n)
theorem sl_V (a : E5) : sl (lmf a) 5 = a.n := by
  simp only [sl, lmf, E5.n, Fm.V]
  omega
theorem lmf_wd {a : E5} (h : a.ok) (j : Nat) : 0 ≤ lmf a j ∧ lmf a j ≤ 18446744073709551615 := by
  obtain ⟨h0, h1, h2, h3, h4⟩ := h
  unfold Fm.Wd at *
  unfold lmf
  split <;> first | assumption | omega
/-- n limbs lie there -/
structure Ru (w : World) (b n : Nat) (g : Nat → Int) : Prop where
  c : ∀ j, j < n → w.cell? ⟨b, j, none⟩ = some (.int .u64 (g j))
  fr : ∀ j, j < n → w.frozen? ⟨b, j, none⟩ = false
  lt : b < w.heap.size
theorem Ru.keep {w w' : World} {b n : Nat} {g : Nat → Int} (h : Ru w b n g) (hb : Below w.heap.size w w') : Ru w' b n g :=
  ⟨fun j hj => by rw [hb.cell (p := ⟨b, j, none⟩) h.lt]; exact h.c j hj, fun j hj => (hb.frozen (p := ⟨b, j, none⟩) h.lt).trans (h.fr j hj), Nat.lt_of_lt_of_le h.lt hb.size⟩
theorem Ru.congr {w : World} {b n : Nat} {g f : Nat → Int} (h : Ru w b n g) (e : ∀ j, j < n → g j = f j) : Ru w b n f := ⟨fun j hj => by rw [← e j hj]; exact h.c j hj, h.fr, h.lt⟩
theorem Ru.far {w : World} {b n : Nat} {g : Nat → Int} (h : Ru w b n g) {c : Nat} (hne : c ≠ b) (k : Nat) (v : Value) : Ru (w.setCell ⟨c, k, none⟩ v) b n g :=
  ⟨fun j hj => (World.cell?_setCell_far w _ _ _ hne).trans (h.c j hj), fun j hj => by rw [World.frozen?_setCell]; exact h.fr j hj, by have := h.lt; simpa using this⟩
theorem Ru.at {w : World} {b n : Nat} {g : Nat → Int} (h : Ru w b n g) (k : Nat) (hk : k < n) (v : Int) : Ru (w.setCell ⟨b, k, none⟩ (.int .u64 v)) b n (fun j => if j = k then v else g j) := by
  refine ⟨fun j hj => ?_, fun j hj => by rw [World.frozen?_setCell]; exact h.fr j hj, by have := h.lt; simpa using this⟩
  by_cases hjk : j = k
  · subst hjk
    have hb := h.c j hj
    rw [if_pos rfl]
    go_simp
  · rw [if_neg hjk, World.cell?_setCell_other w _ _ _ (by intro e; exact hjk (congrArg Addr.off e).symm)]
    exact h.c j hj
theorem Ru.new5 (w : World) (a : E5) (t : TypeId) : Ru (w.alloc (.cells #[.int .u64 a.x0, .int .u64 a.x1, .int .u64 a.x2, .int .u64 a.x3, .int .u64 a.x4] t)) w.heap.size 5 (lmf a) := by
  refine ⟨fun j hj => ?_, fun j _ => by go_simp, by simp⟩
  rw [World.cell?_alloc_mark]
  have : j = 0 ∨ j = 1 ∨ j = 2 ∨ j = 3 ∨ j = 4 := by omega
  rcases this with rfl | rfl | rfl | rfl | rfl <;> simp [lmf]
theorem Ri.zero20 (w : World) (t : TypeId) : Ri (w.alloc (.cells #[.int .i64 0, .int .i64 0, .int .i64 0, .int .i64 0, .int .i64 0, .int .i64 0, .int .i64 0, .int .i64 0, .int .i64 0, .int .i64 0, .int .i64 0, .int .i64 0, .int .i64 0, .int .i64 0, .int .i64 0, .int .i64 0, .int .i64 0, .int .i64 0, .int .i64 0, .int .i64 0] t)) w.heap.size 20 (fun _ => 0) :=
  (Ri.new w (List.replicate 20 0) t).congr (fun j _ => getD_rep 20 j)
theorem and1u (n : Int) (h0 : 0 ≤ n) (h1 : n ≤ 18446744073709551615) : bits .and .u64 n 1 = n % 2 := by
  have e : (BitVec.ofInt 64 1).toNat = 2 ^ 1 - 1 := by decide
  have key : (BitVec.ofInt 64 n &&& BitVec.ofInt 64 1).toNat = (n % ((2 ^ 64 : Nat) : Int)).toNat % 2 ^ 1 := by
    rw [BitVec.toNat_and, BitVec.toNat_ofInt, e, Nat.and_two_pow_sub_one_eq_mod]
  show IntKind.u64.wrap ((BitVec.ofInt 64 n &&& BitVec.ofInt 64 1).toNat : Nat) = n % 2
  rw [key, IntKind.wrap_u64]
  omega
theorem and1i (n : Int) : bits .and .i64 n 1 = n % 2 := by
  have e : (BitVec.ofInt 64 1).toNat = 2 ^ 1 - 1 := by decide
  have key : (BitVec.ofInt 64 n &&& BitVec.ofInt 64 1).toNat = (n % ((2 ^ 64 : Nat) : Int)).toNat % 2 ^ 1 := by
    rw [BitVec.toNat_and, BitVec.toNat_ofInt, e, Nat.and_two_pow_sub_one_eq_mod]
  show IntKind.i64.wrap ((BitVec.ofInt 64 n &&& BitVec.ofInt 64 1).toNat : Nat) = n % 2
  rw [key, IntKind.wrap_i64]
  omega
theorem shr_in (x : Int) (m : Nat) (h0 : 0 ≤ x) : 0 ≤ x / 2 ^ m ∧ x / 2 ^ m ≤ x := ⟨Int.ediv_nonneg h0 (Int.le_of_lt (p2pos m)), Int.ediv_le_self _ h0⟩
theorem pow_26 (r : Nat) (h : r < 26) : (1 : Int) ≤ 2 ^ r ∧ (2 : Int) ^ r ≤ 33554432 := by
  constructor
  · have := p2pos r; omega
  · have h2 : (2 : Nat) ^ r ≤ 33554432 := Nat.pow_le_pow_right (n := 2) (by decide) (show r ≤ 25 by omega)
    have e : (2 : Int) ^ r = ((2 ^ r : Nat) : Int) := by simp
    rw [e]
    omega
end Go.Proofs.YtgijodenblpbgaaDoor
