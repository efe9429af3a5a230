import Derived.Test.YtljmgfclhbadjaaGreatDoorTk
import Derived.Test.YtljmgfclhbadjaaGreatDoorSse
import Derived.Test.YtljmgfclhbadjaaGreatDoorRx
namespace Go.Proofs.YtljmgfclhbadjaaGreatDoor
set_option maxRecDepth 100000
set_option maxHeartbeats 4000000
open Go.RowKit
def bitE (a : E4) (k : Nat) : Int := a.get (k / 64) / 2 ^ (k % 64) % 2
theorem and1 (u : Int) (h0 : 0 ≤ u) (h1 : u ≤ 18446744073709551615) : bits .and .u64 u 1 = u % 2 := by
 rw [u64_and u 1 h0 (by omega) (by omega) (by omega)]
 have : u.toNat &&& (1 : Int).toNat = u.toNat % 2 := Nat.and_two_pow_sub_one_eq_mod u.toNat 1
 rw [this]; omega
theorem shr_bd (x : Int) (m : Nat) (h : Sm.Wd x) : 0 ≤ x / 2 ^ m ∧ x / 2 ^ m ≤ 18446744073709551615 := by
 unfold Sm.Wd at h
 have hp : (0 : Int) < 2 ^ m := Int.pow_pos (by decide)
 refine ⟨Int.ediv_nonneg h.1 (by omega), ?_⟩
 have := Int.ediv_le_self (2 ^ m) h.1
 omega
theorem rBit_in (a : E4) (k : Nat) (w : World) (ha : a.ok) (hk : k < 256) :
  Calls Tryz.prog 183 #[a.v, .int .i64 k] w fun e w' => e = .returned (.int .i64 (bitE a k)) ∧ Below w.heap.size w w' := by
 have s0 := St.start w a 27
 have S0 := Hn s0
 obtain ⟨q, hq⟩ : ∃ q, k / 64 = q := ⟨_, rfl⟩
 obtain ⟨m, hm⟩ : ∃ m, k % 64 = m := ⟨_, rfl⟩
 have q4 : q < 4 := by omega
 have m64 : m < 64 := by omega
 have hk0 : (0 : Int) ≤ (k : Int) := by omega
 have hk1 : (k : Int) < 256 := by omega
 have hqq : (k : Int).tdiv 64 = (q : Int) := by rw [Int.tdiv_eq_ediv_of_nonneg hk0]; omega
 have hmm : (k : Int).tmod 64 = (m : Int) := by rw [Int.tmod_eq_emod_of_nonneg hk0]; omega
 have q0 : (0 : Int) ≤ (q : Int) := by omega
 have q1 : (q : Int) < 4 := by omega
 have m0 : (0 : Int) ≤ (m : Int) := by omega
 have m1 : (m : Int) < 64 := by omega
 have xw := E4.get_wd ha q
 obtain ⟨y0, y1⟩ := shr_bd (a.get q) m xw
 have B1 := and1 _ y0 y1
 have hx := s0.live (w.heap.size, a) (by simp)
 have hc := hx.get q q4
 unfold bitE
 rw [hq, hm]
 obtain ⟨x, hxe⟩ : ∃ x, a.get q = x := ⟨_, rfl⟩
 rw [hxe] at hc B1 y0 y1 ⊢
 clear s0 ha hq hm hx xw hxe
 simp only [E4.v]
 go_enter Tryz.func183, Tryz.ntmps183
 go_upto_region 1 with fail
 generalize (w.alloc (.cells #[.int .u64 a.x0, .int .u64 a.x1, .int .u64 a.x2, .int .u64 a.x3] 27)) = wB at S0 hc ⊢
 go_wp2_with fail
 go_ret
 exact ⟨rfl, S0.out.bel⟩
theorem or_low (X y : Int) (m : Nat) (hm : m < 64) (h0 : 0 ≤ X) (h1 : X ≤ 18446744073709551615) : bits .and .u64 (bits .or .u64 X (IntKind.u64.wrap (y * 2 ^ (64 - m)))) 1 = X % 2 := by
 have hY : (IntKind.u64.wrap (y * 2 ^ (64 - m))) % 2 = 0 ∧ 0 ≤ IntKind.u64.wrap (y * 2 ^ (64 - m)) ∧ IntKind.u64.wrap (y * 2 ^ (64 - m)) < 18446744073709551616 := by
  rw [IntKind.wrap_u64, show 64 - m = (63 - m) + 1 by omega, Int.pow_succ, ← Int.mul_assoc]
  generalize y * 2 ^ (63 - m) = z
  omega
 obtain ⟨hY1, hY2, hY3⟩ := hY
 generalize IntKind.u64.wrap (y * 2 ^ (64 - m)) = Y at *
 obtain ⟨A, hA⟩ := Int.eq_ofNat_of_zero_le h0
 obtain ⟨B, hB⟩ := Int.eq_ofNat_of_zero_le hY2
 subst hA
 subst hB
 have hlt : A ||| B < 2 ^ 64 := Nat.or_lt_two_pow (by omega) (by omega)
 have he : bits .or .u64 (A : Int) (B : Int) = ((A ||| B : Nat) : Int) := by
  rw [u64_or _ _ (by omega) (by omega) (by omega) (by omega)]; rfl
 rw [he, and1 _ (by omega) (by omega)]
 have h2 : (A ||| B) % 2 ^ 1 = A % 2 ^ 1 ||| B % 2 ^ 1 := Nat.or_mod_two_pow
 have hb : B % 2 ^ 1 = 0 := by omega
 rw [hb, Nat.or_zero] at h2
 omega
theorem window_one (a : E4) (k : Nat) (w : World) (ha : a.ok) (hk : k < 256) :
  Calls Tryz.prog 258 #[a.v, .int .i64 k, .int .i64 1] w fun e w' => e = .returned (.int .i64 (bitE a k)) ∧ Below w.heap.size w w' := by
 have s0 := St.start w a 53
 have S0 := Hn s0
 obtain ⟨q, hq⟩ : ∃ q, k / 64 = q := ⟨_, rfl⟩
 obtain ⟨m, hm⟩ : ∃ m, k % 64 = m := ⟨_, rfl⟩
 have q4 : q < 4 := by omega
 have m64 : m < 64 := by omega
 have hk0 : (0 : Int) ≤ (k : Int) := by omega
 have hk1 : (k : Int) < 256 := by omega
 have hqq : (k : Int).tdiv 64 = (q : Int) := by rw [Int.tdiv_eq_ediv_of_nonneg hk0]; omega
 have hmm : (k : Int).tmod 64 = (m : Int) := by rw [Int.tmod_eq_emod_of_nonneg hk0]; omega
 have q0 : (0 : Int) ≤ (q : Int) := by omega
 have q1 : (q : Int) < 4 := by omega
 have m0 : (0 : Int) ≤ (m : Int) := by omega
 have m1 : (m : Int) < 64 := by omega
 have xw := E4.get_wd ha q
 have yw := E4.get_wd ha (q + 1)
 obtain ⟨y0, y1⟩ := shr_bd (a.get q) m xw
 have B1 := and1 _ y0 y1
 have hx := s0.live (w.heap.size, a) (by simp)
 have hc := hx.get q q4
 have hd : q + 1 < 4 → _ := fun h => hx.get (q + 1) h
 unfold bitE
 rw [hq, hm]
 obtain ⟨x, hxe⟩ : ∃ x, a.get q = x := ⟨_, rfl⟩
 obtain ⟨y, hye⟩ : ∃ x, a.get (q + 1) = x := ⟨_, rfl⟩
 rw [hxe] at hc B1 y0 y1 ⊢
 rw [hye] at hd yw
 have HD := Hn hd
 unfold Sm.Wd at yw
 clear s0 ha hq hm hx xw hxe hye hd
 simp only [E4.v]
 go_enter Tryz.func258, Tryz.ntmps258
 go_upto_region 1 with fail
 generalize (w.alloc (.cells #[.int .u64 a.x0, .int .u64 a.x1, .int .u64 a.x2, .int .u64 a.x3] 53)) = wB at S0 hc HD ⊢
 by_cases h3 : q + 1 < 4
 ·have hc2 := HD.out h3
  have h3' : (q : Int) + 1 < 4 := by omega
  have B2 := or_low (x / 2 ^ m) y m m64 y0 y1
  clear B1
  go_wp2_with fail
  go_ret
  exact ⟨rfl, S0.out.bel⟩
 ·have h3' : ¬ (q : Int) + 1 < 4 := by omega
  go_wp2_with fail
  go_ret
  exact ⟨rfl, S0.out.bel⟩
theorem Bit_in (a : E4) (k : Nat) (w : World) (hT : Tb w) (ha : a.ok) (hk : k ≤ 252) :
  Calls Tryz.prog 244 #[a.v, .int .i64 k] w fun e w' => e = .returned (.int .i64 (bitE (lst a.n) k)) ∧ Below w.heap.size w w' := by
 obtain ⟨A, hA⟩ : ∃ t : E4, lst a.n = t := ⟨_, rfl⟩
 have CA := Hn (fun w T => fix (Least_any a w T ha) hA)
 have CW := Hn (fun w => window_one A k w (by rw [← hA]; exact lst_ok _) (by omega))
 rw [hA]
 obtain ⟨v, hv⟩ : ∃ v, bitE A k = v := ⟨_, rfl⟩
 rw [hv] at CW ⊢
 have HT := Hn hT
 have hk0 : (0 : Int) ≤ (k : Int) := by omega
 have hk1 : (k : Int) ≤ 252 := by omega
 clear hA ha hT hv
 simp only [E4.v] at CA CW ⊢
 go_enter Tryz.func244, Tryz.ntmps244
 go_wp2_with fail
 refine (CA.out _ (HT.out.keep (bl_alloc _ _))).mono ?_
 rintro e w1 ⟨rfl, hb1⟩
 go_wp2_with fail
 refine (CW.out _).mono ?_
 rintro e w2 ⟨rfl, hb2⟩
 go_wp2_with fail
 go_ret
 exact ⟨rfl, bl_trans (bl_trans (bl_alloc w _) hb1) hb2⟩
end Go.Proofs.YtljmgfclhbadjaaGreatDoor
