import Derived.Test.YtcecpfcekejblaaWb
namespace Go.Proofs.Ytcecpfcekejblaa
open Go.RowKit
theorem rhigh (m : Nat) : (m : Int) % 128 + 128 = ((UInt8.ofNat (m % 128 + 128)).toNat : Int) := by
  rw [UInt8.toNat_ofNat']
  omega
end Go.Proofs.Ytcecpfcekejblaa
