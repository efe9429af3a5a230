import Derived.Test.YthkfjggogcmdmaaDoorWq
namespace Go.Proofs.YthkfjggogcmdmaaDoor.Tr
open Go.RowKit
/-- a count's number, bytes, fault -/
def ct (bs : List UInt8) (most : Nat) : Nat × Nat × Nat :=
  let x := nm bs 18446744073709551615
  if x.2.2 ≠ 0 then (0, 0, x.2.2) else if most < x.1 then (0, 0, 103) else x
theorem ct_bad {bs : List UInt8} {most : Nat} (h : (nm bs 18446744073709551615).2.2 ≠ 0) : ct bs most = (0, 0, (nm bs 18446744073709551615).2.2) := by simp [ct, h]
theorem ct_more {bs : List UInt8} {most : Nat} (h : (nm bs 18446744073709551615).2.2 = 0) (hm : most < (nm bs 18446744073709551615).1) : ct bs most = (0, 0, 103) := by simp [ct, h, hm]
theorem ct_ok {bs : List UInt8} {most : Nat} (h : (nm bs 18446744073709551615).2.2 = 0) (hm : ¬ most < (nm bs 18446744073709551615).1) : ct bs most = nm bs 18446744073709551615 := by simp [ct, h, hm]
set_option maxRecDepth 100000
set_option maxHeartbeats 4000000
end Go.Proofs.YthkfjggogcmdmaaDoor.Tr
