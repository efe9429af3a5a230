import Derived.Test.YtaejedhdpilhjaaDoorSrf
import Derived.Test.YtaejedhdpilhjaaDoorSrd2
namespace Go.Proofs.YtaejedhdpilhjaaDoor
open Go.RowKit

theorem limE_of {o : E4} {n c : Int} (h : o.ok) (e : o.n + 115792089237316195423570985008687907853269984665640564039457584007913129639936 * c = n) : o = limE n := by
  obtain ⟨h0, h1, h2, h3⟩ := h
  obtain ⟨e0, e1, e2, e3⟩ := Sm.lim_of n o.x0 o.x1 o.x2 o.x3 c h0 h1 h2 h3 e
  obtain ⟨x0, x1, x2, x3⟩ := o
  simp only at e0 e1 e2 e3
  unfold limE
  rw [← e0, ← e1, ← e2, ← e3]
theorem B_pow4 : (18446744073709551616 : Int) ^ 4 = 115792089237316195423570985008687907853269984665640564039457584007913129639936 := by decide
theorem ok_bd {o : E4} (h : o.ok) : 0 ≤ o.n ∧ o.n < 115792089237316195423570985008687907853269984665640564039457584007913129639936 := Sm.V_bd _ _ _ _ h.1 h.2.1 h.2.2.1 h.2.2.2

theorem minus_next (a b o : E4) (k : Nat) (hk : k < 4) (C d t : Int) (hi : o.low k - 18446744073709551616 ^ k * C = a.low k - b.low k) (hs : t - 18446744073709551616 * d = a.get k - b.get k - C) : (o.put k t).low (k + 1) - 18446744073709551616 ^ (k + 1) * d = a.low (k + 1) - b.low (k + 1) := by
  simp only [E4.low]
  rw [E4.put_low o k t hk, E4.put_get, Int.pow_succ]
  generalize (18446744073709551616 : Int) ^ k = p at *
  generalize a.get k = x at *
  generalize b.get k = y at *
  have ht : t = x - y - C + 18446744073709551616 * d := by omega
  rw [ht]
  grind
theorem minus_done (a b o : E4) (C : Int) (ho : o.ok) (hi : o.low 4 - 18446744073709551616 ^ 4 * C = a.low 4 - b.low 4) : o = limE (a.n - b.n) ∧ C = -((a.n - b.n) / 115792089237316195423570985008687907853269984665640564039457584007913129639936) := by
  rw [E4.low4, E4.low4, E4.low4, B_pow4] at hi
  have hb := ok_bd ho
  refine ⟨limE_of ho (c := -C) (by omega), by omega⟩

theorem plus_next (a b o : E4) (k : Nat) (hk : k < 4) (C d t : Int) (hi : o.low k + 18446744073709551616 ^ k * C = a.low k + b.low k) (hs : t + 18446744073709551616 * d = a.get k + b.get k + C) : (o.put k t).low (k + 1) + 18446744073709551616 ^ (k + 1) * d = a.low (k + 1) + b.low (k + 1) := by
  simp only [E4.low]
  rw [E4.put_low o k t hk, E4.put_get, Int.pow_succ]
  generalize (18446744073709551616 : Int) ^ k = p at *
  generalize a.get k = x at *
  generalize b.get k = y at *
  have ht : t = x + y + C - 18446744073709551616 * d := by omega
  rw [ht]
  grind
theorem plus_done (a b o : E4) (C : Int) (ho : o.ok) (hi : o.low 4 + 18446744073709551616 ^ 4 * C = a.low 4 + b.low 4) : o = limE (a.n + b.n) ∧ C = (a.n + b.n) / 115792089237316195423570985008687907853269984665640564039457584007913129639936 := by
  rw [E4.low4, E4.low4, E4.low4, B_pow4] at hi
  have hb := ok_bd ho
  refine ⟨limE_of ho (c := C) (by omega), by omega⟩

end Go.Proofs.YtaejedhdpilhjaaDoor
