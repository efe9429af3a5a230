import Derived.Test.YtnkaolobcglmlaaGreatDoorSz
namespace Go.Proofs.YtnkaolobcglmlaaGreatDoor
open Go.RowKit
def Ri : Int := 4458503529701987551646482192314240623644693141688353256590997718326214331684
theorem mont_end (A b T M : Int) (h : 115792089237316195423570985008687907853269984665640564039457584007913129639936 * T = A * b + M * Sm.L) : T % Sm.L = A * b * Ri % Sm.L := by
 have e : T = A * b * Ri + Sm.L * (M * Ri - T * 71336056475231800826343715077027849978041630819377026201054086228062141447707) := by
  have k : 115792089237316195423570985008687907853269984665640564039457584007913129639936 * Ri = 1 + 71336056475231800826343715077027849978041630819377026201054086228062141447707 * Sm.L := rfl
  have h2 : 115792089237316195423570985008687907853269984665640564039457584007913129639936 * T * Ri = (A * b + M * Sm.L) * Ri := by rw [h]
  have h3 : 115792089237316195423570985008687907853269984665640564039457584007913129639936 * T * Ri = T * (115792089237316195423570985008687907853269984665640564039457584007913129639936 * Ri) := by rw [Int.mul_comm 115792089237316195423570985008687907853269984665640564039457584007913129639936 T, Int.mul_assoc]
  rw [h3, k] at h2
  generalize Ri = r at *
  generalize Sm.L = l at *
  grind
 have e2 := congrArg (fun z => z % Sm.L) e
 simp only [Int.add_mul_emod_self_left] at e2
 exact e2
def E4.get (a : E4) : Nat → Int
 | 0 => a.x0
 | 1 => a.x1
 | 2 => a.x2
 | _ => a.x3
def E4.low (a : E4) : Nat → Int
 | 0 => 0
 | k + 1 => a.low k + 18446744073709551616 ^ k * a.get k
theorem E4.get_wd {a : E4} (h : a.ok) (k : Nat) : Sm.Wd (a.get k) := by
 obtain ⟨h0, h1, h2, h3⟩ := h
 unfold E4.get; split <;> assumption
theorem E4.low4 (a : E4) : a.low 4 = a.n := by
 simp only [E4.low, E4.get, E4.n, Sm.V]; grind
theorem E4.low_bd {a : E4} (h : a.ok) (k : Nat) : 0 ≤ a.low k ∧ a.low k ≤ 18446744073709551616 ^ k - 1 := by
 induction k with
 | zero => simp [E4.low]
 | succ k ih =>
  have hg := E4.get_wd h k
  unfold Sm.Wd at hg
  have hp : (0 : Int) < 18446744073709551616 ^ k := Int.pow_pos (by decide)
  simp only [E4.low, Int.pow_succ]
  generalize (18446744073709551616 : Int) ^ k = p at *
  have h1 : 0 ≤ p * a.get k := Int.mul_nonneg (by omega) hg.1
  have h2 : p * a.get k ≤ p * (18446744073709551616 - 1) := Int.mul_le_mul_of_nonneg_left (by omega) (by omega)
  rw [Int.mul_sub] at h2
  constructor
  ·omega
  ·omega
theorem Blc.get {w : World} {b : Nat} {a : E4} (h : Blc w b a) (k : Nat) (hk : k < 4) : w.cell? ⟨b, k, none⟩ = some (.int .u64 (a.get k)) := by
 match k, hk with
 | 0, _ => exact h.c0
 | 1, _ => exact h.c1
 | 2, _ => exact h.c2
 | 3, _ => exact h.c3
def Inv (a : E4) (bn : Int) (k : Nat) (T : Int) : Prop := ∃ M : Int, 0 ≤ M ∧ M ≤ 18446744073709551616 ^ k - 1 ∧ 18446744073709551616 ^ k * T = a.low k * bn + M * Sm.L
theorem Inv.lt {a : E4} {bn T : Int} {k : Nat} (h : Inv a bn k T) (ha : a.ok) (hb0 : 0 ≤ bn) (hb : bn < Sm.L) : T < 2 * Sm.L := by
 obtain ⟨M, h0, h1, h2⟩ := h
 have hl := E4.low_bd ha k
 have hp : (0 : Int) < 18446744073709551616 ^ k := Int.pow_pos (by decide)
 generalize (18446744073709551616 : Int) ^ k = p at *
 have g1 : a.low k * bn ≤ (p - 1) * bn := Int.mul_le_mul_of_nonneg_right hl.2 hb0
 have g2 : M * Sm.L ≤ (p - 1) * Sm.L := Int.mul_le_mul_of_nonneg_right h1 (by decide)
 have g3 : p * T < p * (2 * Sm.L) := by
  have g4 : p * bn ≤ p * Sm.L := Int.mul_le_mul_of_nonneg_left (by omega) (by omega)
  rw [Int.sub_mul] at g1 g2
  have hLp : (0 : Int) < Sm.L := by decide
  have : p * (2 * Sm.L) = p * Sm.L + p * Sm.L := by grind
  omega
 exact Int.lt_of_mul_lt_mul_left g3 (by omega)
theorem Inv.next {a : E4} {bn T T' m : Int} {k : Nat} (h : Inv a bn k T) (hm : Sm.Wd m) (e : 18446744073709551616 * T' = T + a.get k * bn + m * Sm.L) : Inv a bn (k + 1) T' := by
 obtain ⟨M, h0, h1, h2⟩ := h
 unfold Sm.Wd at hm
 have hp : (0 : Int) < 18446744073709551616 ^ k := Int.pow_pos (by decide)
 refine ⟨M + 18446744073709551616 ^ k * m, ?_, ?_, ?_⟩
 ·have := Int.mul_nonneg (Int.le_of_lt hp) hm.1
  omega
 ·rw [Int.pow_succ]
  generalize (18446744073709551616 : Int) ^ k = p at *
  have h2 : p * m ≤ p * (18446744073709551616 - 1) := Int.mul_le_mul_of_nonneg_left (by omega) (by omega)
  rw [Int.mul_sub] at h2
  omega
 ·simp only [E4.low]
  rw [Int.pow_succ, Int.mul_assoc, e]
  generalize (18446744073709551616 : Int) ^ k = p at *
  generalize a.get k = g at *
  generalize Sm.L = l at *
  grind
theorem Inv.start (a : E4) (bn : Int) : Inv a bn 0 0 := ⟨0, by omega, by simp, by simp [E4.low]⟩
theorem Inv.done {a : E4} {bn T : Int} (h : Inv a bn 4 T) : T % Sm.L = a.n * bn * Ri % Sm.L := by
 obtain ⟨M, -, -, h2⟩ := h
 rw [E4.low4] at h2
 exact mont_end _ _ _ M h2
def lE : E4 := ⟨6346243789798364141, 1503914060200516822, 0, 1152921504606846976⟩
end Go.Proofs.YtnkaolobcglmlaaGreatDoor
