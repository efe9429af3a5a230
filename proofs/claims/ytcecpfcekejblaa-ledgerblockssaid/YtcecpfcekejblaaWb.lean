import Derived.Test.YtcecpfcekejblaaWa
import Derived.Test.YtcecpfcekejblaaWm
namespace Go.Proofs.Ytcecpfcekejblaa
open Go.RowKit
theorem low_byte (m : Nat) : (m : Int) % 256 = ((UInt8.ofNat m).toNat : Int) := by rw [UInt8.toNat_ofNat']; rfl
/-- the last bit on -/
theorem or_high (m : Nat) : (m % 256) ||| 128 = (UInt8.ofNat (m % 128 + 128)).toNat := by
  rw [UInt8.toNat_ofNat']
  have h1 : m % 256 = (m / 128 % 2) * 128 + m % 128 := by omega
  have h2 : (m % 256) ||| 128 = m % 128 + 128 := by
    rcases Nat.mod_two_eq_zero_or_one (m / 128) with h | h
    · have e : m % 256 = m % 128 := by omega
      rw [e, Nat.or_comm, ← Nat.two_pow_add_eq_or_of_lt (i := 7) (b := m % 128) (by omega) 1]
      omega
    · have e : m % 256 = 128 + m % 128 := by omega
      have e2 := Nat.two_pow_add_eq_or_of_lt (i := 7) (b := m % 128) (by omega) 1
      simp only [Nat.reducePow, Nat.mul_one] at e2
      rw [e, e2, Nat.or_comm, ← Nat.or_assoc, Nat.or_self, ← e2]
      omega
  rw [h2]
  omega
theorem u8_or (a b : Nat) (ha : a < 256) (hb : b < 256) : IntKind.u8.wrap ((BitVec.ofInt IntKind.u8.bits (a : Int) ||| BitVec.ofInt IntKind.u8.bits (b : Int)).toNat : Int) = ((a ||| b : Nat) : Int) := by
  have h1 : ∀ x : Nat, x < 256 → (BitVec.ofInt IntKind.u8.bits (x : Int)).toNat = x := fun x hx => by
    show (BitVec.ofInt 8 (x : Int)).toNat = x
    rw [BitVec.toNat_ofInt]
    omega
  have h2 : a ||| b < 2 ^ 8 := Nat.or_lt_two_pow (by omega) (by omega)
  rw [BitVec.toNat_or, h1 a ha, h1 b hb, IntKind.wrap_u8]
  omega
theorem u64_or (a b : Nat) (ha : a < 2 ^ 64) (hb : b < 2 ^ 64) : IntKind.u64.wrap ((BitVec.ofInt IntKind.u64.bits (a : Int) ||| BitVec.ofInt IntKind.u64.bits (b : Int)).toNat : Int) = ((a ||| b : Nat) : Int) := by
  have h1 : ∀ x : Nat, x < 2 ^ 64 → (BitVec.ofInt IntKind.u64.bits (x : Int)).toNat = x := fun x hx => by
    show (BitVec.ofInt 64 (x : Int)).toNat = x
    rw [BitVec.toNat_ofInt]
    omega
  have h2 : a ||| b < 2 ^ 64 := Nat.or_lt_two_pow (by omega) (by omega)
  rw [BitVec.toNat_or, h1 a ha, h1 b hb, IntKind.wrap_u64]
  omega
theorem or_high' (m : Nat) : bits .or .u8 ((m : Int) % 256) 128 = ((UInt8.ofNat (m % 128 + 128)).toNat : Int) := by
  rw [← or_high m, ← u8_or (m % 256) 128 (by omega) (by omega)]
  rfl
set_option maxRecDepth 100000 in
set_option maxHeartbeats 8000000 in
theorem appNum_any (P : Option Addr) (c : Nat) (bs : List UInt8) (n : Nat) (w : World) (hB : By w P c bs) (hl : bs.length ≤ 140737488355000) (hn : n < 2 ^ 64) :
    Calls Try.prog 13 #[.slice P bs.length c, .int .u64 (n : Int)] w fun e w' => ∃ v, e = .returned v ∧ w'.ownsRow w.heap.size 5 1 v (bs ++ vn n).length (cb (bs ++ vn n)) ∧ Below w.heap.size w w' := by
  have HC := hidden (clone_any P c bs w hB (by omega))
  have HL := hidden hl
  have HN := hidden hn
  clear hB hl hn
  go_enter Try.func13, Try.ntmps13
  go_upto_region 2 with (first | (go_at_call 18; refine HC.out.mono ?_; rintro e w1 ⟨v1, rfl, ho, hb⟩; have HO := hidden ho; have HB := hidden hb; clear ho hb))
  clear HC
  go_loopw [0, 1] (fun vv mv w' => ∃ (k m : Nat) (D : List UInt8), k ≤ 9 ∧ mv = .int .u64 (m : Int) ∧ Hid (D.length = k ∧ vn n = D ++ vf (9 - k) m ∧ m < 2 ^ (64 - 7 * k)) ∧ Hid (w'.ownsRow w.heap.size 5 1 vv (bs ++ D).length (cb (bs ++ D))) ∧ Hid (Below w.heap.size w w')) (fun _ m _ => (intOf m).toNat)
  case atStart => exact ⟨0, n, [], by omega, rfl, hidden ⟨rfl, rfl, by simpa using HN.out⟩, by simpa using HO, HB⟩
  case round =>
    clear HO HB
    obtain ⟨k, m, D, hk, rfl, hM, HO, HB⟩ := hrel
    by_cases hm : m < 128
    · obtain ⟨y, rfl⟩ : ∃ y : UInt8, m = y.toNat := ⟨UInt8.ofNat m, by rw [UInt8.toNat_ofNat']; omega⟩
      have k0 : ¬ (128 : Int) ≤ (y.toNat : Int) := by omega
      have HE : Hid (vn n = D ++ [y]) := hidden (by rw [hM.out.2.1, vf_small _ _ hm, ofNat_toNat])
      have HD : Hid (D.length ≤ 9) := hidden (by have := hM.out.1; omega)
      clear hM
      go_wp2_with (first | (at_builtin; refine wpList_app_by rfl _ _ rfl w.heap.size _ (bs ++ D) [y] (some ⟨wr.heap.size, 0, none⟩) 1 rfl rfl (own_stay HO.out (bl_alloc wr _)) (by_list wr [y] 1) (by have := HL.out; have := HD.out; simp only [List.length_append, List.length_cons, List.length_nil]; omega) (by have := HB.out.size; simp; omega) ?_; intro v1 w1 ho1 hg1; have HO1 := hidden ho1; have HB1 := hidden (below_trans (bl_trans HB.out (bl_alloc wr _)) (below_grown hg1 (by have := HB.out.size; simp; omega) (fun j hj => (HO.out.lt j hj).1))); clear ho1 hg1))
      refine bodyPost_ret (v := v1) (by simp [results, Try.results13, go_sem]) rfl ⟨_, rfl, by have h := HO1.out; rw [List.append_assoc, ← HE.out] at h; first | exact h | (rw [List.length_append] at h; exact h), HB1.out⟩
    · have k0 : (128 : Int) ≤ (m : Int) := by omega
      have hk9 : k < 9 := by
        have := hM.out.2.2
        by_cases e : k = 9
        · subst e; simp at this; omega
        · omega
      have hi := or_high' m
      have HE : Hid (vn n = D ++ [UInt8.ofNat (m % 128 + 128)] ++ vf (9 - (k + 1)) (m / 128)) := hidden (by rw [hM.out.2.1, show 9 - k = (9 - (k + 1)) + 1 by omega, vf_big _ _ hm]; simp)
      have HD : Hid (D.length = k ∧ m / 128 < 2 ^ (64 - 7 * (k + 1))) := hidden (by
        have h64 : 2 ^ (64 - 7 * k) = 128 * 2 ^ (64 - 7 * (k + 1)) := by
          rw [show 64 - 7 * k = 7 + (64 - 7 * (k + 1)) by omega, Nat.pow_add]
        have := hM.out.2.2
        exact ⟨hM.out.1, by omega⟩)
      generalize UInt8.ofNat (m % 128 + 128) = y at hi HE
      clear hM
      go_wp2_with (first | (at_builtin; refine wpList_app_by rfl _ _ rfl w.heap.size _ (bs ++ D) [y] (some ⟨wr.heap.size, 0, none⟩) 1 rfl rfl (own_stay HO.out (bl_alloc wr _)) (by_list wr [y] 1) (by have := HL.out; have := HD.out.1; simp only [List.length_append, List.length_cons, List.length_nil]; omega) (by have := HB.out.size; simp; omega) ?_; intro v1 w1 ho1 hg1; have HO1 := hidden ho1; have HB1 := hidden (below_trans (bl_trans HB.out (bl_alloc wr _)) (below_grown hg1 (by have := HB.out.size; simp; omega) (fun j hj => (HO.out.lt j hj).1))); clear ho1 hg1))
      go_roundw
      case rel => exact ⟨k + 1, m / 128, D ++ [y], by omega, by go_num, hidden ⟨by have := HD.out.1; simp; omega, HE.out, HD.out.2⟩, by rw [← List.append_assoc]; exact HO1, HB1⟩
      case measure => simp [intOf]; omega
set_option maxRecDepth 100000 in
set_option maxHeartbeats 8000000 in
theorem appBytes_any (P Q : Option Addr) (c d : Nat) (bs xs : List UInt8) (w : World) (hB : By w P c bs) (hX : By w Q d xs) (hl : bs.length + xs.length ≤ 140737488355000) :
    Calls Try.prog 14 #[.slice P bs.length c, .slice Q xs.length d] w fun e w' => ∃ v, e = .returned v ∧ w'.ownsRow w.heap.size 5 1 v (bs ++ (vn xs.length ++ xs)).length (cb (bs ++ (vn xs.length ++ xs))) ∧ Below w.heap.size w w' := by
  have HC := hidden (appNum_any P c bs xs.length w hB (by omega) (by omega))
  have HL := hidden hl
  have HX := hidden hX
  have HV := hidden (vn_len xs.length).2
  have k0 : IntKind.u64.wrap (xs.length : Int) = (xs.length : Int) := by rw [IntKind.wrap_u64]; omega
  have k1 : (xs.length : Int) % 18446744073709551616 = (xs.length : Int) := by omega
  clear hB hX hl
  go_enter Try.func14, Try.ntmps14
  go_wp2_with (first | (go_at_call 13; refine HC.out.mono ?_; rintro e w1 ⟨v1, rfl, ho, hb⟩; have HO := hidden ho; have HB := hidden hb; clear ho hb HC) | (at_builtin; refine wpList_app_by rfl _ _ rfl w.heap.size _ (bs ++ vn xs.length) xs Q d rfl rfl HO.out (HX.out.keep HB.out) (by have := HL.out; have := HV.out; simp only [List.length_append]; omega) HB.out.size ?_; intro v2 w2 ho2 hg2; have HO2 := hidden ho2; have HB2 := hidden (below_trans HB.out (below_grown hg2 HB.out.size (fun j hj => (HO.out.lt j hj).1))); clear ho2 hg2))
  refine bodyPost_ret (v := v2) (by simp [results, Try.results14, go_sem]) rfl ⟨_, rfl, by rw [← List.append_assoc]; exact HO2.out, HB2.out⟩
end Go.Proofs.Ytcecpfcekejblaa
