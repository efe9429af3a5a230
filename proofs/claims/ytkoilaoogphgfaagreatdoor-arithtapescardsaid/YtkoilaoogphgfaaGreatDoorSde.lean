import Derived.Test.YtkoilaoogphgfaaGreatDoorSop
import Derived.Test.YtkoilaoogphgfaaGreatDoorRz
namespace Go.Proofs.YtkoilaoogphgfaaGreatDoor
open Go.RowKit
theorem num_lt256 {zs : List Int} (lz : zs.length = 32) (hz : ∀ z ∈ zs, 0 ≤ z ∧ z ≤ 255) : (num zs : Int) < 115792089237316195423570985008687907853269984665640564039457584007913129639936 := by
 have h := num_lt zs hz
 rw [lz] at h
 simp only [Nat.reducePow] at h
 omega
theorem limE_lst (N : Int) (h0 : 0 ≤ N) (h : N < Sm.L) : limE N = lst N := by
 unfold limE lst
 rw [Int.emod_eq_of_lt h0 h]
theorem limE_ne (N : Int) (h0 : 0 ≤ N) (h1 : N < 115792089237316195423570985008687907853269984665640564039457584007913129639936) (h : ¬ N < Sm.L) : limE N ≠ lst N := by
 intro e
 have e2 := congrArg E4.n e
 rw [limE_n N h0 h1, lst_n] at e2
 have := (mod_bd N).2
 omega
end Go.Proofs.YtkoilaoogphgfaaGreatDoor
