import Derived.Test.YtcenphihmggfkaaDoorSse
import Derived.Test.YtcenphihmggfkaaDoorSrl
namespace Go.Proofs.YtcenphihmggfkaaDoor
open Go.RowKit

set_option maxRecDepth 100000 in
set_option maxHeartbeats 4000000 in
theorem of_any (a : E4) (w : World) (ha : a.ok) :
    Calls Tryd.prog 19 #[a.v] w fun e w' => e = .returned (lst a.n).v ∧ Below w.heap.size w w' := by
  have s0 := (St.start w a 43).room 34
  simp only [World.size_alloc] at s0
  have S0 := hidden s0
  obtain ⟨A, hA⟩ : ∃ t : E4, lst a.n = t := ⟨_, rfl⟩
  have CA := hidden (fun w => fix (rleast_any a w ha) hA)
  rw [hA]
  clear s0 ha hA
  simp only [E4.v] at CA ⊢
  go_enter Tryd.func19, Tryd.ntmps19
  go_upto_region 1 with fail
  generalize ((w.alloc (.cells #[.int .u64 a.x0, .int .u64 a.x1, .int .u64 a.x2, .int .u64 a.x3] 43)).alloc (.cells #[.int .u64 0, .int .u64 0, .int .u64 0, .int .u64 0] 34)) = wB at S0 ⊢
  have x0 := (S0.out.live (w.heap.size, a) (by simp)).c0
  have x1 := (S0.out.live (w.heap.size, a) (by simp)).c1
  have x2 := (S0.out.live (w.heap.size, a) (by simp)).c2
  have x3 := (S0.out.live (w.heap.size, a) (by simp)).c3
  go_wp2_with fail
  refine (CA.out _).mono ?_
  rintro e w2 ⟨rfl, hb⟩
  have S2 := hidden (S0.out.keep hb)
  clear x0 x1 x2 x3 hb S0
  have d0 := (S2.out.live (w.heap.size + 1, zero4) (by simp)).c0
  have d1 := (S2.out.live (w.heap.size + 1, zero4) (by simp)).c1
  have d2 := (S2.out.live (w.heap.size + 1, zero4) (by simp)).c2
  have d3 := (S2.out.live (w.heap.size + 1, zero4) (by simp)).c3
  obtain ⟨f0, f1, f2, f3⟩ := (S2.out.wrt (w.heap.size + 1) (by simp)).1
  go_wp2_with fail
  refine bodyPost_ret (v := .agg #[.int .u64 A.x0, .int .u64 A.x1, .int .u64 A.x2, .int .u64 A.x3]) (by simp [results, Tryd.results19, go_sem, d0, d1, d2, d3]) rfl ⟨rfl, ?_⟩
  exact set4_below _ _ _ S2.out.bel (by omega)

/-- bit k of limbs -/
def bitE (a : E4) (k : Nat) : Int := a.get (k / 64) / 2 ^ (k % 64) % 2
theorem and1 (u : Int) (h0 : 0 ≤ u) (h1 : u ≤ 18446744073709551615) : bits .and .u64 u 1 = u % 2 := by
  rw [u64_and u 1 h0 (by omega) (by omega) (by omega)]
  have : u.toNat &&& (1 : Int).toNat = u.toNat % 2 := Nat.and_two_pow_sub_one_eq_mod u.toNat 1
  rw [this]; omega
theorem shr_bd (x : Int) (m : Nat) (h : Sm.Wd x) : 0 ≤ x / 2 ^ m ∧ x / 2 ^ m ≤ 18446744073709551615 := by
  unfold Sm.Wd at h
  have hp : (0 : Int) < 2 ^ m := Int.pow_pos (by decide)
  refine ⟨Int.ediv_nonneg h.1 (by omega), ?_⟩
  have := Int.ediv_le_self (2 ^ m) h.1
  omega


theorem or_low (X y : Int) (m : Nat) (hm : m < 64) (h0 : 0 ≤ X) (h1 : X ≤ 18446744073709551615) : bits .and .u64 (bits .or .u64 X (IntKind.u64.wrap (y * 2 ^ (64 - m)))) 1 = X % 2 := by
  have hY : (IntKind.u64.wrap (y * 2 ^ (64 - m))) % 2 = 0 ∧ 0 ≤ IntKind.u64.wrap (y * 2 ^ (64 - m)) ∧ IntKind.u64.wrap (y * 2 ^ (64 - m)) < 18446744073709551616 := by
    rw [IntKind.wrap_u64, show 64 - m = (63 - m) + 1 by omega, Int.pow_succ, ← Int.mul_assoc]
    generalize y * 2 ^ (63 - m) = z
    omega
  obtain ⟨hY1, hY2, hY3⟩ := hY
  generalize IntKind.u64.wrap (y * 2 ^ (64 - m)) = Y at *
  obtain ⟨A, hA⟩ := Int.eq_ofNat_of_zero_le h0
  obtain ⟨B, hB⟩ := Int.eq_ofNat_of_zero_le hY2
  subst hA
  subst hB
  have hlt : A ||| B < 2 ^ 64 := Nat.or_lt_two_pow (by omega) (by omega)
  have he : bits .or .u64 (A : Int) (B : Int) = ((A ||| B : Nat) : Int) := by
    rw [u64_or _ _ (by omega) (by omega) (by omega) (by omega)]; rfl
  rw [he, and1 _ (by omega) (by omega)]
  have h2 : (A ||| B) % 2 ^ 1 = A % 2 ^ 1 ||| B % 2 ^ 1 := Nat.or_mod_two_pow
  have hb : B % 2 ^ 1 = 0 := by omega
  rw [hb, Nat.or_zero] at h2
  omega


/-- the bits of a least number from 253 on are 0 -/
theorem bit_high (n : Int) (k : Nat) (h1 : 252 < k) (h2 : k < 256) : bitE (lst n) k = 0 := by
  have hl := mod_bd n
  have hn := lst_n n
  have ho := lst_ok n
  generalize n % Sm.L = N at hl hn
  generalize lst n = r at hn ho
  obtain ⟨⟨a0, a1⟩, ⟨b0, b1⟩, ⟨c0, c1⟩, ⟨d0, d1⟩⟩ := ho
  have hx : 0 ≤ r.x3 ∧ r.x3 < 2305843009213693952 := by
    simp only [E4.n, Sm.V, Sm.L] at hn hl
    omega
  unfold bitE
  rw [show k / 64 = 3 by omega]
  simp only [E4.get]
  have hk : k % 64 = 61 ∨ k % 64 = 62 ∨ k % 64 = 63 := by omega
  rcases hk with h | h | h <;> rw [h] <;> simp only [Int.reducePow] <;> omega
end Go.Proofs.YtcenphihmggfkaaDoor
