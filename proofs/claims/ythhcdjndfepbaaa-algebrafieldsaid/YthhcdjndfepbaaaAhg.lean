import Derived.Test.YthhcdjndfepbaaaAsv
import Derived.Test.YthhcdjndfepbaaaMx
namespace Go.Proofs.Ythhcdjndfepbaaa
open Go.RowKit
/-- rows of elements modulo 7 -/
structure Mt (w : World) (B o n : Nat) (b f : Nat → Nat) (c : Nat → Nat) (A : Nat → Nat → Int) : Prop where
  row : ∀ i, i < n → w.cell? ⟨B, o + i, none⟩ = some (.slice (some ⟨b i, f i, none⟩) n (c i))
  el : ∀ i j, i < n → j < n → w.cell? ⟨b i, f i + j, none⟩ = some (.int .i64 (A i j))
theorem Mt.keep {w w' : World} {B o n : Nat} {b f c : Nat → Nat} {A : Nat → Nat → Int} (h : Mt w B o n b f c A) (hb : Below w.heap.size w w') : Mt w' B o n b f c A :=
  ⟨fun i hi => cell_keep (h.row i hi) hb, fun i j hi hj => cell_keep (h.el i j hi hj) hb⟩
/-- the combination number k of the rows, at a column -/
def hs (m : Nat) (A : Nat → Nat → Int) (k j : Nat) : Int := Mx.sm m (fun i => ((k / 7 ^ i % 7 : Nat) : Int) * (A i j % 7))
theorem hs_bd (m : Nat) (A : Nat → Nat → Int) (k j : Nat) : 0 ≤ hs m A k j ∧ hs m A k j ≤ 36 * m := by
  induction m with
  | zero => exact ⟨Int.le_refl _, Int.le_refl _⟩
  | succ m ih =>
    have e : hs (m + 1) A k j = hs m A k j + ((k / 7 ^ m % 7 : Nat) : Int) * (A m j % 7) := rfl
    have h1 := Int.emod_nonneg (A m j) (show (7 : Int) ≠ 0 by decide)
    have h2 := Int.emod_lt_of_pos (A m j) (show (0 : Int) < 7 by decide)
    have h3 : k / 7 ^ m % 7 < 7 := Nat.mod_lt _ (by decide)
    have h4 : 0 ≤ ((k / 7 ^ m % 7 : Nat) : Int) * (A m j % 7) := Int.mul_nonneg (by omega) h1
    have h5 : ((k / 7 ^ m % 7 : Nat) : Int) * (A m j % 7) ≤ 6 * 6 := Int.mul_le_mul (by omega) (by omega) h1 (by decide)
    rw [e]
    omega
/-- does some combination of the rows vanish? -/
noncomputable def hg (n : Nat) (A : Nat → Nat → Int) : Bool := @decide (∃ k, 1 ≤ k ∧ k < 7 ^ n ∧ ∀ j, j < n → hs n A k j % 7 = 0) (Classical.propDecidable _)
theorem hg_yes {n : Nat} {A : Nat → Nat → Int} (h : ∃ k, 1 ≤ k ∧ k < 7 ^ n ∧ ∀ j, j < n → hs n A k j % 7 = 0) : hg n A = true := @decide_eq_true _ (Classical.propDecidable _) h
theorem hg_no {n : Nat} {A : Nat → Nat → Int} (h : ¬ ∃ k, 1 ≤ k ∧ k < 7 ^ n ∧ ∀ j, j < n → hs n A k j % 7 = 0) : hg n A = false := @decide_eq_false _ (Classical.propDecidable _) h
set_option maxRecDepth 100000 in
set_option maxHeartbeats 8000000 in
theorem hangs_any (B o n cB : Nat) (b f c : Nat → Nat) (A : Nat → Nat → Int) (P : Option Addr) (w : World) (hn : n ≤ 3) (hP : 0 < n → P = some ⟨B, o, none⟩) (hM : Mt w B o n b f c A) :
    Calls Try.prog 11 #[.slice P n cB] w fun e w' => e = .returned (.bool (hg n A)) ∧ Below w.heap.size w w' := by
  have HM := hidden hM
  have HP := hidden hP
  have HN := hidden hn
  have nn0 : (0 : Int) ≤ (n : Int) := by omega
  clear hM hP hn
  go_enter Try.func11, Try.ntmps11
  go_wp2_with fail
  go_loopw [4, 5] (fun tv iv w' => ∃ i : Nat, i ≤ n ∧ iv = .int .i64 i ∧ tv = .int .i64 ((7 ^ i : Nat) : Int) ∧ Hid (Below w.heap.size w w')) (fun _ i _ => n - (intOf i).toNat)
  case atStart => exact ⟨0, by omega, rfl, rfl, hidden (Below.refl _ _)⟩
  case round =>
    obtain ⟨i, hi, rfl, rfl, hB⟩ := hrel
    by_cases hin : i < n
    · have i1 : (i : Int) < (n : Int) := by omega
      have w9 : IntKind.i64.wrap ((i : Int) + 1) = (i : Int) + 1 := IntWalk.i64_in _ (by have := HN.out; omega)
      have hp : 7 ^ i ≤ 7 ^ 3 := Nat.pow_le_pow_right (by decide) (by have := HN.out; omega)
      obtain ⟨t2, ht2⟩ : ∃ t2, ((7 ^ (i + 1) : Nat) : Int) = t2 := ⟨_, rfl⟩
      have w7 : IntKind.i64.wrap (((7 ^ i : Nat) : Int) * 7) = t2 := by
        rw [← ht2, Nat.pow_succ]
        have : ((7 ^ i * 7 : Nat) : Int) = ((7 ^ i : Nat) : Int) * 7 := by omega
        rw [this]
        exact IntWalk.i64_in _ (by omega)
      have HT2 := hidden ht2
      clear hp ht2
      generalize ((7 ^ i : Nat) : Int) = t at *
      go_wp2_with fail
      go_roundw
      case rel => exact ⟨i + 1, by omega, by go_num, by rw [HT2.out], hB⟩
      case measure => simp [intOf]; omega
    · have hii : n = i := by omega
      subst hii
      have lq : ¬ (n : Int) < (n : Int) := by omega
      obtain ⟨top, htop⟩ : ∃ t, 7 ^ n = t := ⟨_, rfl⟩
      have hp : top ≤ 7 ^ 3 := by rw [← htop]; exact Nat.pow_le_pow_right (by decide) (by have := HN.out; omega)
      have HTOP := hidden htop
      have TOP3 := hidden hp
      rw [htop]
      clear hp htop
      go_upto_region 7 with fail
      clear lq
      go_wp2_with fail
      go_loopw [6] (fun kv w' => ∃ k : Nat, 1 ≤ k ∧ (k ≤ top ∨ k = 1) ∧ kv = .int .i64 k ∧ Hid (∀ k', 1 ≤ k' → k' < k → ¬ ∀ j, j < n → hs n A k' j % 7 = 0) ∧ Hid (Below w.heap.size w w')) (fun k _ => top - (intOf k).toNat)
      case atStart => exact ⟨1, by omega, by omega, rfl, hidden (fun k' h1 h2 => by omega), hB⟩
      case round =>
        clear hB
        obtain ⟨k, hk1, hk2, rfl, hno, hB⟩ := hrel
        by_cases hkt : k < top
        · have k1 : (k : Int) < (top : Int) := by omega
          have w9 : IntKind.i64.wrap ((k : Int) + 1) = (k : Int) + 1 := IntWalk.i64_in _ (by have := TOP3.out; omega)
          have KB : Hid (k < 343) := hidden (by have := TOP3.out; omega)
          go_upto_region 11 with fail
          go_wp2_with fail
          go_loopw [7, 8] (fun zv jv w' => ∃ (j : Nat) (z : Bool), j ≤ n ∧ jv = .int .i64 j ∧ zv = .bool z ∧ Hid (z = true ↔ ∀ j', j' < j → hs n A k j' % 7 = 0) ∧ Hid (Below w.heap.size w w')) (fun _ j _ => n - (intOf j).toNat)
          case atStart => exact ⟨0, true, by omega, rfl, rfl, hidden ⟨fun _ j' h => by omega, fun _ => rfl⟩, hB⟩
          case round =>
            clear hB
            obtain ⟨j, z, hj, rfl, rfl, hz, hB⟩ := hrel
            by_cases hjn : j < n
            · have j0 : (0 : Int) ≤ (j : Int) := by omega
              have j1 : (j : Int) < (n : Int) := by omega
              have w8 : IntKind.i64.wrap ((j : Int) + 1) = (j : Int) + 1 := IntWalk.i64_in _ (by have := HN.out; omega)
              obtain rfl := HP.out (by omega)
              go_upto_region 16 with fail
              go_wp2_with fail
              go_loopw [9, 10, 11] (fun vv cv iv w' => ∃ i : Nat, i ≤ n ∧ iv = .int .i64 i ∧ cv = .int .i64 ((k / 7 ^ i : Nat) : Int) ∧ vv = .int .i64 (hs i A k j) ∧ Hid (Below w.heap.size w w')) (fun _ _ i _ => n - (intOf i).toNat)
              case atStart => exact ⟨0, by omega, rfl, by simp, rfl, hB⟩
              case round =>
                clear hB
                obtain ⟨i, hi, rfl, rfl, rfl, hB⟩ := hrel
                by_cases hin : i < n
                · have i0 : (0 : Int) ≤ (i : Int) := by omega
                  have i1 : (i : Int) < (n : Int) := by omega
                  have w7 : IntKind.i64.wrap ((i : Int) + 1) = (i : Int) + 1 := IntWalk.i64_in _ (by have := HN.out; omega)
                  have m := HM.out.keep hB.out
                  have c1 := m.row i hin
                  have c2 := m.el i j hin hjn
                  have RA := hidden (fun w => r_any (A i j) w)
                  unfold sv at RA
                  have bd := hs_bd i A k j
                  have bd2 := hs_bd (i + 1) A k j
                  have e : hs (i + 1) A k j = hs i A k j + ((k / 7 ^ i % 7 : Nat) : Int) * (A i j % 7) := rfl
                  have q1 : k / 7 ^ i ≤ k := Nat.div_le_self _ _
                  have q2 : k / 7 ^ (i + 1) = k / 7 ^ i / 7 := by rw [Nat.pow_succ, Nat.div_div_eq_div_mul]
                  obtain ⟨v, hv⟩ : ∃ v, hs i A k j = v := ⟨_, rfl⟩
                  obtain ⟨v2, hv2⟩ : ∃ v, hs (i + 1) A k j = v := ⟨_, rfl⟩
                  obtain ⟨q, hq⟩ : ∃ q, k / 7 ^ i = q := ⟨_, rfl⟩
                  obtain ⟨x, hx⟩ : ∃ x, A i j % 7 = x := ⟨_, rfl⟩
                  have h1 := Int.emod_nonneg (A i j) (show (7 : Int) ≠ 0 by decide)
                  have h2 := Int.emod_lt_of_pos (A i j) (show (0 : Int) < 7 by decide)
                  rw [hx] at RA e h1 h2
                  rw [hq] at e q1 q2
                  rw [hv] at bd e
                  rw [hv2] at bd2 e
                  rw [hv, hq]
                  have hn3 := HN.out
                  have kb := KB.out
                  have t1 : ((q : Nat) : Int).tmod 7 = ((q % 7 : Nat) : Int) := by rw [Int.tmod_eq_emod_of_nonneg (by omega)]; omega
                  have t2 : ((q : Nat) : Int).tdiv 7 = ((q / 7 : Nat) : Int) := by rw [Int.tdiv_eq_ediv_of_nonneg (by omega)]; omega
                  have m1 : 0 ≤ ((q % 7 : Nat) : Int) * x := Int.mul_nonneg (by omega) h1
                  have m2 : ((q % 7 : Nat) : Int) * x ≤ 6 * 6 := Int.mul_le_mul (by omega) (by omega) h1 (by decide)
                  have u1 : IntKind.i64.wrap ((q % 7 : Nat) : Int) = ((q % 7 : Nat) : Int) := IntWalk.i64_in _ (by omega)
                  have u2 : IntKind.i64.wrap ((q / 7 : Nat) : Int) = ((q / 7 : Nat) : Int) := IntWalk.i64_in _ (by omega)
                  have u3 : IntKind.i64.wrap (((q % 7 : Nat) : Int) * x) = ((q % 7 : Nat) : Int) * x := IntWalk.i64_in _ (by omega)
                  have u4 : IntKind.i64.wrap (v + ((q % 7 : Nat) : Int) * x) = v2 := by rw [← e]; exact IntWalk.i64_in _ (by omega)
                  have Q2 := hidden q2
                  have HV2 := hidden hv2
                  clear m bd bd2 e q1 q2 hv hv2 hq hx h1 h2 hn3 kb m1 m2
                  generalize ((q % 7 : Nat) : Int) = y at *
                  obtain ⟨qq, hqq⟩ : ∃ t, ((q / 7 : Nat) : Int) = t := ⟨_, rfl⟩
                  rw [hqq] at t2 u2
                  have HQQ := hidden hqq
                  clear hqq
                  go_wp2_with fail
                  refine (RA.out _).mono ?_
                  rintro e wa ⟨rfl, ha⟩
                  have B2 := hidden (bl_trans hB.out ha)
                  clear ha RA c1 c2 hB
                  go_wp2_with fail
                  go_roundw
                  case rel => exact ⟨i + 1, by omega, by go_num, by rw [Q2.out, HQQ.out], by rw [HV2.out], B2⟩
                  case measure => simp [intOf]; omega
                · have hii : n = i := by omega
                  subst hii
                  have lq : ¬ (n : Int) < (n : Int) := by omega
                  have bd := hs_bd n A k j
                  obtain ⟨v, hv⟩ : ∃ v, hs n A k j = v := ⟨_, rfl⟩
                  rw [hv] at bd
                  rw [hv]
                  have hn3 := HN.out
                  have t1 : v.tmod 7 = v % 7 := Int.tmod_eq_emod_of_nonneg (by omega)
                  obtain ⟨y, hy⟩ : ∃ y, v % 7 = y := ⟨_, rfl⟩
                  rw [hy] at t1
                  have u1 : IntKind.i64.wrap y = y := IntWalk.i64_in _ (by omega)
                  have HZ2 : Hid ((z && (y == 0)) = true ↔ ∀ j', j' < j + 1 → hs n A k j' % 7 = 0) := hidden (by
                    rw [Bool.and_eq_true, hz.out, beq_iff_eq]
                    constructor
                    · rintro ⟨h1, h2⟩ j' hj'
                      by_cases hjj : j' = j
                      · rw [hjj, hv, hy]; exact h2
                      · exact h1 j' (by omega)
                    · intro h
                      refine ⟨fun j' hj' => h j' (by omega), ?_⟩
                      have := h j (by omega)
                      rw [hv, hy] at this
                      exact this)
                  clear bd hv hn3 hy hi
                  cases z with
                  | true =>
                    go_wp2_with fail
                    go_roundw
                    case rel => exact ⟨j + 1, _, by omega, by go_num, rfl, HZ2, hB⟩
                    case measure => simp [intOf]; omega
                  | false =>
                    go_wp2_with fail
                    go_roundw
                    case rel => exact ⟨j + 1, _, by omega, by go_num, rfl, HZ2, hB⟩
                    case measure => simp [intOf]; omega
            · have hjj : n = j := by omega
              subst hjj
              have lq : ¬ (n : Int) < (n : Int) := by omega
              cases z with
              | true =>
                have FOUND := hidden (⟨k, hk1, by rw [HTOP.out]; exact hkt, hz.out.1 rfl⟩ : ∃ k, 1 ≤ k ∧ k < 7 ^ n ∧ ∀ j, j < n → hs n A k j % 7 = 0)
                go_wp2_with fail
                refine bodyPost_ret (v := .bool true) (by simp [results, Try.results11, go_sem]) rfl ⟨by rw [hg_yes FOUND.out], hB.out⟩
              | false =>
                have HNO2 := hidden (fun (k' : Nat) (h1 : 1 ≤ k') (h2 : k' < k + 1) => (by
                  by_cases hkk : k' = k
                  · subst hkk
                    intro h
                    exact absurd (hz.out.2 h) (by decide)
                  · exact hno.out k' h1 (by omega) : ¬ ∀ j, j < n → hs n A k' j % 7 = 0))
                go_wp2_with fail
                go_roundw
                case rel => exact ⟨k + 1, by omega, by omega, by go_num, HNO2, hB⟩
                case measure => simp [intOf]; omega
        · have lq : ¬ (k : Int) < (top : Int) := by omega
          have NONE := hidden (fun (h : ∃ k, 1 ≤ k ∧ k < 7 ^ n ∧ ∀ j, j < n → hs n A k j % 7 = 0) => (by
            obtain ⟨k', h1, h2, h3⟩ := h
            rw [HTOP.out] at h2
            exact hno.out k' h1 (by omega) h3 : False))
          go_wp2_with fail
          refine bodyPost_ret (v := .bool false) (by simp [results, Try.results11, go_sem]) rfl ⟨by rw [hg_no NONE.out], hB.out⟩
end Go.Proofs.Ythhcdjndfepbaaa
