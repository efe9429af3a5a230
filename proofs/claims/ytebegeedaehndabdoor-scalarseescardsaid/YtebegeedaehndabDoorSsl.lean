import Derived.Test.YtebegeedaehndabDoorSsb
namespace Go.Proofs.YtebegeedaehndabDoor
open Go.RowKit

theorem i64_and1 (n : Int) : bits .and .i64 n 1 = n % 2 := by
  have h127 : (BitVec.ofInt 64 1).toNat = 2 ^ 1 - 1 := by decide
  have key : (BitVec.ofInt 64 n &&& BitVec.ofInt 64 1).toNat = (n % ((2 ^ 64 : Nat) : Int)).toNat % 2 ^ 1 := by
    rw [BitVec.toNat_and, BitVec.toNat_ofInt, h127, Nat.and_two_pow_sub_one_eq_mod]
  show IntKind.i64.wrap ((BitVec.ofInt 64 n &&& BitVec.ofInt 64 1).toNat : Nat) = n % 2
  rw [key, IntKind.wrap_i64]
  omega
/-- the first k limbs of r, the others of b -/
def mix (r b : E4) (k : Nat) : E4 := ⟨if 0 < k then r.x0 else b.x0, if 1 < k then r.x1 else b.x1, if 2 < k then r.x2 else b.x2, if 3 < k then r.x3 else b.x3⟩
theorem mix_get (r b : E4) (k : Nat) (h : k < 4) : (mix r b k).get k = b.get k := by
  have : k = 0 ∨ k = 1 ∨ k = 2 ∨ k = 3 := by omega
  rcases this with rfl | rfl | rfl | rfl <;> simp [mix, E4.get]
theorem mix_put (r b : E4) (k : Nat) (h : k < 4) : (mix r b k).put k (r.get k) = mix r b (k + 1) := by
  have : k = 0 ∨ k = 1 ∨ k = 2 ∨ k = 3 := by omega
  rcases this with rfl | rfl | rfl | rfl <;> simp [mix, E4.get, E4.put]
theorem sel_bits (p x y : Int) (hx : Sm.Wd x) (hy : Sm.Wd y) : ∃ M z t : Int, IntKind.u64.wrap (-(p % 2)) = M ∧ bits .xor .u64 x y = z ∧ bits .and .u64 M z = t ∧ bits .xor .u64 y t = (if p % 2 = 1 then x else y) := by
  unfold Sm.Wd at hx hy
  refine ⟨_, _, _, rfl, rfl, rfl, ?_⟩
  obtain ⟨X, hX⟩ := Int.eq_ofNat_of_zero_le hx.1
  obtain ⟨Y, hY⟩ := Int.eq_ofNat_of_zero_le hy.1
  subst hX
  subst hY
  have hlt : X ^^^ Y < 2 ^ 64 := Nat.xor_lt_two_pow (by omega) (by omega)
  rw [u64_xor_nat X Y (by omega) (by omega)]
  by_cases hp : p % 2 = 1
  · rw [if_pos hp, hp, show IntKind.u64.wrap (-1) = 18446744073709551615 by rw [IntKind.wrap_u64]; decide]
    rw [u64_and _ _ (by omega) (by omega) (by omega) (by omega)]
    have h1 : (18446744073709551615 : Int).toNat &&& ((X ^^^ Y : Nat) : Int).toNat = X ^^^ Y := by
      rw [Nat.and_comm]
      show (X ^^^ Y) &&& (2 ^ 64 - 1) = X ^^^ Y
      rw [Nat.and_two_pow_sub_one_eq_mod]
      exact Nat.mod_eq_of_lt hlt
    rw [h1, u64_xor_nat Y (X ^^^ Y) (by omega) (by omega), Nat.xor_comm X Y, ← Nat.xor_assoc, Nat.xor_self, Nat.zero_xor]
  · rw [if_neg hp, show p % 2 = 0 by omega, show IntKind.u64.wrap (-0) = 0 by rw [IntKind.wrap_u64]; decide]
    rw [u64_and _ _ (by omega) (by omega) (by omega) (by omega)]
    have h1 : (0 : Int).toNat &&& ((X ^^^ Y : Nat) : Int).toNat = 0 := Nat.zero_and _
    rw [h1]
    exact (u64_xor_nat Y 0 (by omega) (by omega)).trans (by rw [Nat.xor_zero])
theorem sel_get (p : Int) (a b : E4) (k : Nat) : (if p % 2 = 1 then a.get k else b.get k) = (selE p a b).get k := by
  unfold selE
  split <;> rfl
theorem selE_ok (p : Int) (a b : E4) (ha : a.ok) (hb : b.ok) : (selE p a b).ok := by
  unfold selE
  split <;> assumption

set_option maxRecDepth 100000 in
set_option maxHeartbeats 8000000 in
theorem Select_any (p : Int) (a b : E4) (w : World) (hT : Tb w) (ha : a.ok) (hb : b.ok) :
    Calls Tryd.prog 22 #[.int .i64 p, a.v, b.v] w fun e w' => e = .returned (lst (selE p a b).n).v ∧ Below w.heap.size w w' := by
  have HA := hidden ha
  have HB := hidden hb
  have HT := hidden hT
  obtain ⟨R, hR⟩ : ∃ t : E4, lst (selE p a b).n = t := ⟨_, rfl⟩
  have CA := hidden (fun w T => fix (Least_any (selE p a b) w T (selE_ok p a b ha hb)) hR)
  have s0 := ((St.start w a 28).roomR b 28).room 28
  simp only [World.size_alloc] at s0
  have S0 := hidden s0
  have SG := hidden (fun k => sel_get p a b k)
  rw [hR]
  obtain ⟨r, hr⟩ : ∃ t : E4, selE p a b = t := ⟨_, rfl⟩
  rw [hr] at CA SG
  have P1 := i64_and1 p
  obtain ⟨M, hM⟩ : ∃ M, IntKind.u64.wrap (-(p % 2)) = M := ⟨_, rfl⟩
  have SB := hidden (fun x y hx hy => sel_bits p x y hx hy)
  rw [hM] at SB
  clear s0 ha hb hT hR hr
  simp only [E4.v] at CA ⊢
  go_enter Tryd.func22, Tryd.ntmps22
  go_wp2_with fail
  go_loopw [13] (fun i w' => ∃ k : Nat, k ≤ 4 ∧ i = .int .i64 k ∧ St w [(w.heap.size + 1, mix r b k), (w.heap.size + 1 + 1, zero4), (w.heap.size, a)] [w.heap.size + 1 + 1, w.heap.size + 1] w') (fun i _ => 4 - (intOf i).toNat)
  case atStart => exact ⟨0, by omega, rfl, ⟨fun q hq => S0.out.live q (by simp at hq ⊢; rcases hq with rfl | rfl | rfl <;> simp [mix]), S0.out.wrt, S0.out.bel⟩⟩
  case round =>
    obtain ⟨k, hk, rfl, hst⟩ := hrel
    clear S0
    by_cases hk4 : k < 4
    · have kk0 : (0 : Int) ≤ (k : Int) := by omega
      have kk1 : (k : Int) < 4 := by omega
      obtain ⟨M', z, t, hM', hz, ht, hu⟩ := SB.out (a.get k) (b.get k) (E4.get_wd HA.out k) (E4.get_wd HB.out k)
      subst hM'
      rw [SG.out k] at hu
      have ca := (hst.drew.live (w.heap.size, a) (by simp)).get k hk4
      have cb := (hst.drew.live (w.heap.size + 1, mix r b k) (by simp)).get k hk4
      have fb := ((hst.drew.wrt (w.heap.size + 1) (by simp)).1).get k hk4
      simp only [mix_get r b k hk4] at ca cb
      have PU := hidden (hst.drew.put (b := w.heap.size + 1) (o := mix r b k) (M := [(w.heap.size + 1 + 1, zero4), (w.heap.size, a)]) k hk4 (r.get k) (by simp) (by omega) (by simp))
      rw [mix_put r b k hk4] at PU
      clear hst
      generalize a.get k = x at *
      generalize b.get k = y at *
      generalize r.get k = u at *
      go_upto_region 5 with fail
      go_region_with fail
      all_goals
        clear ca cb fb
        go_wp2_with fail
        go_roundw
        case rel => exact ⟨k + 1, by omega, by go_num, PU.out⟩
        case measure => simp [intOf]; omega
    · have hkk : k = 4 := by omega
      subst hkk
      have ST := hidden hst
      have x0 := (hst.live (w.heap.size + 1, mix r b 4) (by simp)).c0
      have x1 := (hst.live (w.heap.size + 1, mix r b 4) (by simp)).c1
      have x2 := (hst.live (w.heap.size + 1, mix r b 4) (by simp)).c2
      have x3 := (hst.live (w.heap.size + 1, mix r b 4) (by simp)).c3
      simp only [mix, Nat.reduceLT, if_true] at x0 x1 x2 x3
      clear hst
      rw [show ((4 : Nat) : Int) = 4 from rfl]
      go_wp2_with fail
      refine (CA.out _ (ST.out.tb HT.out)).mono ?_
      rintro e w2 ⟨rfl, hb⟩
      have S2 := hidden (ST.out.keep hb)
      clear x0 x1 x2 x3 hb ST
      have d0 := (S2.out.live (w.heap.size + 1 + 1, zero4) (by simp)).c0
      have d1 := (S2.out.live (w.heap.size + 1 + 1, zero4) (by simp)).c1
      have d2 := (S2.out.live (w.heap.size + 1 + 1, zero4) (by simp)).c2
      have d3 := (S2.out.live (w.heap.size + 1 + 1, zero4) (by simp)).c3
      obtain ⟨f0, f1, f2, f3⟩ := (S2.out.wrt (w.heap.size + 1 + 1) (by simp)).1
      go_wp2_with fail
      refine bodyPost_ret (v := .agg #[.int .u64 R.x0, .int .u64 R.x1, .int .u64 R.x2, .int .u64 R.x3]) (by simp [results, Tryd.results22, go_sem, d0, d1, d2, d3]) rfl ⟨rfl, ?_⟩
      exact set4_below _ _ _ S2.out.bel (by omega)
end Go.Proofs.YtebegeedaehndabDoor
