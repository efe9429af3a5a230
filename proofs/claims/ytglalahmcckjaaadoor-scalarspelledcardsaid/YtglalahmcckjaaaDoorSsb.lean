import Derived.Test.YtglalahmcckjaaaDoorSse
import Derived.Test.YtglalahmcckjaaaDoorSrl
namespace Go.Proofs.YtglalahmcckjaaaDoor
open Go.RowKit

set_option maxRecDepth 100000 in
set_option maxHeartbeats 4000000 in
theorem of_any (a : E4) (w : World) (ha : a.ok) :
    Calls Tryd.prog 28 #[a.v] w fun e w' => e = .returned (lst a.n).v ∧ Below w.heap.size w w' := by
  have s0 := (St.start w a 24).room 52
  simp only [World.size_alloc] at s0
  have S0 := hidden s0
  obtain ⟨A, hA⟩ : ∃ t : E4, lst a.n = t := ⟨_, rfl⟩
  have CA := hidden (fun w => fix (rleast_any a w ha) hA)
  rw [hA]
  clear s0 ha hA
  simp only [E4.v] at CA ⊢
  go_enter Tryd.func28, Tryd.ntmps28
  go_upto_region 1 with fail
  generalize ((w.alloc (.cells #[.int .u64 a.x0, .int .u64 a.x1, .int .u64 a.x2, .int .u64 a.x3] 24)).alloc (.cells #[.int .u64 0, .int .u64 0, .int .u64 0, .int .u64 0] 52)) = wB at S0 ⊢
  have x0 := (S0.out.live (w.heap.size, a) (by simp)).c0
  have x1 := (S0.out.live (w.heap.size, a) (by simp)).c1
  have x2 := (S0.out.live (w.heap.size, a) (by simp)).c2
  have x3 := (S0.out.live (w.heap.size, a) (by simp)).c3
  go_wp2_with fail
  refine (CA.out _).mono ?_
  rintro e w2 ⟨rfl, hb⟩
  have S2 := hidden (S0.out.keep hb)
  clear x0 x1 x2 x3 hb S0
  have d0 := (S2.out.live (w.heap.size + 1, zero4) (by simp)).c0
  have d1 := (S2.out.live (w.heap.size + 1, zero4) (by simp)).c1
  have d2 := (S2.out.live (w.heap.size + 1, zero4) (by simp)).c2
  have d3 := (S2.out.live (w.heap.size + 1, zero4) (by simp)).c3
  obtain ⟨f0, f1, f2, f3⟩ := (S2.out.wrt (w.heap.size + 1) (by simp)).1
  go_wp2_with fail
  refine bodyPost_ret (v := .agg #[.int .u64 A.x0, .int .u64 A.x1, .int .u64 A.x2, .int .u64 A.x3]) (by simp [results, Tryd.results28, go_sem, d0, d1, d2, d3]) rfl ⟨rfl, ?_⟩
  exact set4_below _ _ _ S2.out.bel (by omega)

/-- bit k of limbs -/
def bitE (a : E4) (k : Nat) : Int := a.get (k / 64) / 2 ^ (k % 64) % 2
theorem and1 (u : Int) (h0 : 0 ≤ u) (h1 : u ≤ 18446744073709551615) : bits .and .u64 u 1 = u % 2 := by
  rw [u64_and u 1 h0 (by omega) (by omega) (by omega)]
  have : u.toNat &&& (1 : Int).toNat = u.toNat % 2 := Nat.and_two_pow_sub_one_eq_mod u.toNat 1
  rw [this]; omega
theorem shr_bd (x : Int) (m : Nat) (h : Sm.Wd x) : 0 ≤ x / 2 ^ m ∧ x / 2 ^ m ≤ 18446744073709551615 := by
  unfold Sm.Wd at h
  have hp : (0 : Int) < 2 ^ m := Int.pow_pos (by decide)
  refine ⟨Int.ediv_nonneg h.1 (by omega), ?_⟩
  have := Int.ediv_le_self (2 ^ m) h.1
  omega

set_option maxRecDepth 100000 in
set_option maxHeartbeats 4000000 in
theorem rBit_in (a : E4) (k : Nat) (w : World) (ha : a.ok) (hk : k < 256) :
    Calls Tryd.prog 44 #[a.v, .int .i64 k] w fun e w' => e = .returned (.int .i64 (bitE a k)) ∧ Below w.heap.size w w' := by
  have s0 := St.start w a 52
  have S0 := hidden s0
  obtain ⟨q, hq⟩ : ∃ q, k / 64 = q := ⟨_, rfl⟩
  obtain ⟨m, hm⟩ : ∃ m, k % 64 = m := ⟨_, rfl⟩
  have q4 : q < 4 := by omega
  have m64 : m < 64 := by omega
  have hk0 : (0 : Int) ≤ (k : Int) := by omega
  have hk1 : (k : Int) < 256 := by omega
  have hqq : (k : Int).tdiv 64 = (q : Int) := by rw [Int.tdiv_eq_ediv_of_nonneg hk0]; omega
  have hmm : (k : Int).tmod 64 = (m : Int) := by rw [Int.tmod_eq_emod_of_nonneg hk0]; omega
  have q0 : (0 : Int) ≤ (q : Int) := by omega
  have q1 : (q : Int) < 4 := by omega
  have m0 : (0 : Int) ≤ (m : Int) := by omega
  have m1 : (m : Int) < 64 := by omega
  have xw := E4.get_wd ha q
  obtain ⟨y0, y1⟩ := shr_bd (a.get q) m xw
  have B1 := and1 _ y0 y1
  have hx := s0.live (w.heap.size, a) (by simp)
  have hc := hx.get q q4
  unfold bitE
  rw [hq, hm]
  obtain ⟨x, hxe⟩ : ∃ x, a.get q = x := ⟨_, rfl⟩
  rw [hxe] at hc B1 y0 y1 ⊢
  clear s0 ha hq hm hx xw hxe
  simp only [E4.v]
  go_enter Tryd.func44, Tryd.ntmps44
  go_upto_region 1 with fail
  generalize (w.alloc (.cells #[.int .u64 a.x0, .int .u64 a.x1, .int .u64 a.x2, .int .u64 a.x3] 52)) = wB at S0 hc ⊢
  go_wp2_with fail
  go_ret
  exact ⟨rfl, S0.out.bel⟩
set_option maxRecDepth 100000 in
set_option maxHeartbeats 4000000 in
theorem rBit_out (a : E4) (i : Int) (w : World) (hi : i < 0 ∨ 256 ≤ i) :
    Calls Tryd.prog 44 #[a.v, .int .i64 i] w fun e w' => e = .returned (.int .i64 0) ∧ Below w.heap.size w w' := by
  simp only [E4.v]
  rcases hi with h | h
  · go_enter Tryd.func44, Tryd.ntmps44
    go_wp2_with fail
    go_ret
    exact ⟨rfl, bl_alloc w _⟩
  · have h0 : ¬ i < 0 := by omega
    go_enter Tryd.func44, Tryd.ntmps44
    go_wp2_with fail
    go_ret
    exact ⟨rfl, bl_alloc w _⟩

theorem or_low (X y : Int) (m : Nat) (hm : m < 64) (h0 : 0 ≤ X) (h1 : X ≤ 18446744073709551615) : bits .and .u64 (bits .or .u64 X (IntKind.u64.wrap (y * 2 ^ (64 - m)))) 1 = X % 2 := by
  have hY : (IntKind.u64.wrap (y * 2 ^ (64 - m))) % 2 = 0 ∧ 0 ≤ IntKind.u64.wrap (y * 2 ^ (64 - m)) ∧ IntKind.u64.wrap (y * 2 ^ (64 - m)) < 18446744073709551616 := by
    rw [IntKind.wrap_u64, show 64 - m = (63 - m) + 1 by omega, Int.pow_succ, ← Int.mul_assoc]
    generalize y * 2 ^ (63 - m) = z
    omega
  obtain ⟨hY1, hY2, hY3⟩ := hY
  generalize IntKind.u64.wrap (y * 2 ^ (64 - m)) = Y at *
  obtain ⟨A, hA⟩ := Int.eq_ofNat_of_zero_le h0
  obtain ⟨B, hB⟩ := Int.eq_ofNat_of_zero_le hY2
  subst hA
  subst hB
  have hlt : A ||| B < 2 ^ 64 := Nat.or_lt_two_pow (by omega) (by omega)
  have he : bits .or .u64 (A : Int) (B : Int) = ((A ||| B : Nat) : Int) := by
    rw [u64_or _ _ (by omega) (by omega) (by omega) (by omega)]; rfl
  rw [he, and1 _ (by omega) (by omega)]
  have h2 : (A ||| B) % 2 ^ 1 = A % 2 ^ 1 ||| B % 2 ^ 1 := Nat.or_mod_two_pow
  have hb : B % 2 ^ 1 = 0 := by omega
  rw [hb, Nat.or_zero] at h2
  omega

set_option maxRecDepth 100000 in
set_option maxHeartbeats 4000000 in
theorem window_one (a : E4) (k : Nat) (w : World) (ha : a.ok) (hk : k < 256) :
    Calls Tryd.prog 42 #[a.v, .int .i64 k, .int .i64 1] w fun e w' => e = .returned (.int .i64 (bitE a k)) ∧ Below w.heap.size w w' := by
  have s0 := St.start w a 25
  have S0 := hidden s0
  obtain ⟨q, hq⟩ : ∃ q, k / 64 = q := ⟨_, rfl⟩
  obtain ⟨m, hm⟩ : ∃ m, k % 64 = m := ⟨_, rfl⟩
  have q4 : q < 4 := by omega
  have m64 : m < 64 := by omega
  have hk0 : (0 : Int) ≤ (k : Int) := by omega
  have hk1 : (k : Int) < 256 := by omega
  have hqq : (k : Int).tdiv 64 = (q : Int) := by rw [Int.tdiv_eq_ediv_of_nonneg hk0]; omega
  have hmm : (k : Int).tmod 64 = (m : Int) := by rw [Int.tmod_eq_emod_of_nonneg hk0]; omega
  have q0 : (0 : Int) ≤ (q : Int) := by omega
  have q1 : (q : Int) < 4 := by omega
  have m0 : (0 : Int) ≤ (m : Int) := by omega
  have m1 : (m : Int) < 64 := by omega
  have xw := E4.get_wd ha q
  have yw := E4.get_wd ha (q + 1)
  obtain ⟨y0, y1⟩ := shr_bd (a.get q) m xw
  have B1 := and1 _ y0 y1
  have hx := s0.live (w.heap.size, a) (by simp)
  have hc := hx.get q q4
  have hd : q + 1 < 4 → _ := fun h => hx.get (q + 1) h
  unfold bitE
  rw [hq, hm]
  obtain ⟨x, hxe⟩ : ∃ x, a.get q = x := ⟨_, rfl⟩
  obtain ⟨y, hye⟩ : ∃ x, a.get (q + 1) = x := ⟨_, rfl⟩
  rw [hxe] at hc B1 y0 y1 ⊢
  rw [hye] at hd yw
  have HD := hidden hd
  unfold Sm.Wd at yw
  clear s0 ha hq hm hx xw hxe hye hd
  simp only [E4.v]
  go_enter Tryd.func42, Tryd.ntmps42
  go_upto_region 1 with fail
  generalize (w.alloc (.cells #[.int .u64 a.x0, .int .u64 a.x1, .int .u64 a.x2, .int .u64 a.x3] 25)) = wB at S0 hc HD ⊢
  by_cases h3 : q + 1 < 4
  · have hc2 := HD.out h3
    have h3' : (q : Int) + 1 < 4 := by omega
    have B2 := or_low (x / 2 ^ m) y m m64 y0 y1
    clear B1
    go_wp2_with fail
    go_ret
    exact ⟨rfl, S0.out.bel⟩
  · have h3' : ¬ (q : Int) + 1 < 4 := by omega
    go_wp2_with fail
    go_ret
    exact ⟨rfl, S0.out.bel⟩

/-- the bits of a least number from 253 on are 0 -/
theorem bit_high (n : Int) (k : Nat) (h1 : 252 < k) (h2 : k < 256) : bitE (lst n) k = 0 := by
  have hl := mod_bd n
  have hn := lst_n n
  have ho := lst_ok n
  generalize n % Sm.L = N at hl hn
  generalize lst n = r at hn ho
  obtain ⟨⟨a0, a1⟩, ⟨b0, b1⟩, ⟨c0, c1⟩, ⟨d0, d1⟩⟩ := ho
  have hx : 0 ≤ r.x3 ∧ r.x3 < 2305843009213693952 := by
    simp only [E4.n, Sm.V, Sm.L] at hn hl
    omega
  unfold bitE
  rw [show k / 64 = 3 by omega]
  simp only [E4.get]
  have hk : k % 64 = 61 ∨ k % 64 = 62 ∨ k % 64 = 63 := by omega
  rcases hk with h | h | h <;> rw [h] <;> simp only [Int.reducePow] <;> omega
end Go.Proofs.YtglalahmcckjaaaDoor
