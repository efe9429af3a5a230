import Derived.Test.YtpblcnefihhhoaaDoorSen
namespace Go.Proofs.YtpblcnefihhhoaaDoor
open Go.RowKit

set_option maxRecDepth 100000 in
theorem eq32 (zs ys : List Int) (w : World) (hz : zs.length = 32) (hy : ys.length = 32) :
    (Op.equalIn 10000 89 (.agg (zs.map fun z => Value.int .u8 z).toArray) (.agg (ys.map fun z => Value.int .u8 z).toArray)).run Tryd.prog w = .ok (decide (zs = ys)) w := by
  have hi : Tryd.prog.info? 5 = some (Tryd.prog.info? 5).get! := by kernel_rfl
  have hc : Tryd.prog.cellsOf 5 = 1 := by kernel_rfl
  rw [run_equalIn_array w 9999 _ _ (by kernel_rfl : Tryd.prog.underlying 89 = some (.array 32 5)) hi, hc]
  rw [eqItems_ints w (k := .u8) 9998 (by kernel_rfl) (by kernel_rfl) _ _ (fun i => zs.getD i 0) (fun i => ys.getD i 0)]
  · congr 1
    rw [Bool.eq_iff_iff, decide_eq_true_iff, List.all_eq_true]
    constructor
    · intro h
      apply List.ext_getElem?
      intro i
      by_cases hin : i < 32
      · have := h i (List.mem_range.2 hin)
        simp only [List.getD_eq_getElem?_getD, beq_iff_eq] at this
        rw [List.getElem?_eq_getElem (by omega), List.getElem?_eq_getElem (by omega)] at this ⊢
        simpa using this
      · rw [List.getElem?_eq_none (by omega), List.getElem?_eq_none (by omega)]
    · intro h i _
      rw [h]; simp
  · intro i hi
    have : i < 32 := List.mem_range.1 hi
    simp [List.getD_eq_getElem?_getD, hz, hy, this]
theorem num_lt256 {zs : List Int} (lz : zs.length = 32) (hz : ∀ z ∈ zs, 0 ≤ z ∧ z ≤ 255) : (num zs : Int) < 115792089237316195423570985008687907853269984665640564039457584007913129639936 := by
  have h := num_lt zs hz
  rw [lz] at h
  simp only [Nat.reducePow] at h
  omega
theorem limE_lst (N : Int) (h0 : 0 ≤ N) (h : N < Sm.L) : limE N = lst N := by
  unfold limE lst
  rw [Int.emod_eq_of_lt h0 h]
theorem limE_ne (N : Int) (h0 : 0 ≤ N) (h1 : N < 115792089237316195423570985008687907853269984665640564039457584007913129639936) (h : ¬ N < Sm.L) : limE N ≠ lst N := by
  intro e
  have e2 := congrArg E4.n e
  rw [limE_n N h0 h1, lst_n] at e2
  have := (mod_bd N).2
  omega

end Go.Proofs.YtpblcnefihhhoaaDoor
