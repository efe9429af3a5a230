import Derived.Test.YtaejedhdpilhjaaDoorSrs
namespace Go.Proofs.YtaejedhdpilhjaaDoor
open Go.RowKit

theorem and32 (u : Int) (h0 : 0 ≤ u) (h1 : u ≤ 18446744073709551615) : bits .and .u64 u 4294967295 = u % 4294967296 := by
  rw [u64_and u 4294967295 h0 (by omega) (by omega) (by omega)]
  have : u.toNat &&& (4294967295 : Int).toNat = u.toNat % 4294967296 := Nat.and_two_pow_sub_one_eq_mod u.toNat 32
  rw [this]; omega
theorem and60 (u : Int) (h0 : 0 ≤ u) (h1 : u ≤ 18446744073709551615) : bits .and .u64 u 1152921504606846975 = u % 1152921504606846976 := by
  rw [u64_and u 1152921504606846975 h0 (by omega) (by omega) (by omega)]
  have : u.toNat &&& (1152921504606846975 : Int).toNat = u.toNat % 1152921504606846976 := Nat.and_two_pow_sub_one_eq_mod u.toNat 60
  rw [this]; omega

theorem St.less {w0 : World} {L M : List (Nat × E4)} {R Q : List Nat} {w1 : World} (h : St w0 L R w1) (hs : ∀ p ∈ M, p ∈ L) (hr : ∀ b ∈ Q, b ∈ R) : St w0 M Q w1 := ⟨fun p hp => h.live p (hs p hp), fun b hb => h.wrt b (hr b hb), h.bel⟩
def ckS (c1 c2 c3 c4 : Int) : Nat → Int
  | 0 => 0
  | 1 => c1
  | 2 => c2
  | 3 => c3
  | _ => c4
def pk (p0 p1 p2 p3 : Int) : Nat → E4
  | 0 => ⟨1559614445, 1477600026, 2734136534, 350157278⟩
  | 1 => ⟨p0, 1477600026, 2734136534, 350157278⟩
  | 2 => ⟨p0, p1, 2734136534, 350157278⟩
  | 3 => ⟨p0, p1, p2, 350157278⟩
  | _ => ⟨p0, p1, p2, p3⟩
def lk (l0 l1 l2 l3 : Int) : Nat → E4
  | 0 => ⟨0, 0, 0, 0⟩
  | 1 => ⟨l0, 0, 0, 0⟩
  | 2 => ⟨l0, l1, 0, 0⟩
  | 3 => ⟨l0, l1, l2, 0⟩
  | _ => ⟨l0, l1, l2, l3⟩
def pE (a b c d : Int) : E4 := ⟨a, b, c, d⟩

end Go.Proofs.YtaejedhdpilhjaaDoor
