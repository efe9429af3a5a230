import Derived.Test.YtfkigebbcbfkiaaWg
import Derived.Laws.RangeAny
import Derived.Lib.OthersKept
namespace Go.Proofs.Ytfkigebbcbfkiaa
open Go.RowKit
set_option maxRecDepth 100000 in
set_option maxHeartbeats 4000000 in
theorem digit_yes (c : UInt8) (h : dv c < 16) (w : World) :
    Calls Try.prog 27 #[.int .i32 (c.toNat : Int)] w fun e w' => e = .returned (.tuple #[.int .u8 (dv c : Int), .bool true]) ∧ w' = w := by
  have hc := c.toNat_lt
  unfold dv at h ⊢
  split at h
  · rename_i h1
    rw [if_pos h1]
    have k0 : (48 : Int) ≤ (c.toNat : Int) := by omega
    have k1 : (c.toNat : Int) ≤ 57 := by omega
    have k2 : IntKind.i32.wrap ((c.toNat : Int) - 48) = (c.toNat : Int) - 48 := by rw [IntKind.wrap_i32]; omega
    have k3 : ((c.toNat : Int) - 48) % 256 = ((c.toNat - 48 : Nat) : Int) := by omega
    have k4 : IntKind.u8.wrap ((c.toNat : Int) - 48) = ((c.toNat - 48 : Nat) : Int) := by rw [IntKind.wrap_u8]; omega
    generalize c.toNat - 48 = d at k3 k4
    go_enter Try.func27, Try.ntmps27
    go_wp2_with fail
    refine bodyPost_ret (v := .tuple #[.int .u8 (d : Int), .bool true]) (by simp [results, Try.results27, go_sem]) rfl ⟨rfl, rfl⟩
  · rename_i h1
    split at h
    · rename_i h2
      rw [if_neg h1, if_pos h2]
      have k0 : (48 : Int) ≤ (c.toNat : Int) := by omega
      have k1 : ¬ (c.toNat : Int) ≤ 57 := by omega
      have k5 : (97 : Int) ≤ (c.toNat : Int) := by omega
      have k6 : (c.toNat : Int) ≤ 102 := by omega
      have k2 : IntKind.i32.wrap ((c.toNat : Int) - 97) = (c.toNat : Int) - 97 := by rw [IntKind.wrap_i32]; omega
      have k3 : ((c.toNat : Int) - 97) % 256 = (c.toNat : Int) - 97 := by omega
      have k7 : IntKind.u8.wrap ((c.toNat : Int) - 97) = (c.toNat : Int) - 97 := by rw [IntKind.wrap_u8]; omega
      have k4 : IntKind.u8.wrap ((c.toNat : Int) - 97 + 10) = ((c.toNat - 87 : Nat) : Int) := by rw [IntKind.wrap_u8]; omega
      have k8 : ((c.toNat : Int) - 97 + 10) % 256 = ((c.toNat - 87 : Nat) : Int) := by omega
      generalize c.toNat - 87 = d at k4 k8
      go_enter Try.func27, Try.ntmps27
      go_wp2_with fail
      refine bodyPost_ret (v := .tuple #[.int .u8 (d : Int), .bool true]) (by simp [results, Try.results27, go_sem]) rfl ⟨rfl, rfl⟩
    · omega
set_option maxRecDepth 100000 in
set_option maxHeartbeats 4000000 in
theorem digit_no (r : Int) (h1 : ¬ (48 ≤ r ∧ r ≤ 57)) (h2 : ¬ (97 ≤ r ∧ r ≤ 102)) (w : World) :
    Calls Try.prog 27 #[.int .i32 r] w fun e w' => e = .returned (.tuple #[.int .u8 0, .bool false]) ∧ w' = w := by
  by_cases k0 : (48 : Int) ≤ r
  · have k1 : ¬ r ≤ 57 := fun h => h1 ⟨k0, h⟩
    by_cases k2 : (97 : Int) ≤ r
    · have k3 : ¬ r ≤ 102 := fun h => h2 ⟨k2, h⟩
      clear h1 h2
      go_enter Try.func27, Try.ntmps27
      go_wp2_with fail
      refine bodyPost_ret (v := .tuple #[.int .u8 0, .bool false]) (by simp [results, Try.results27, go_sem]) rfl ⟨rfl, rfl⟩
    · clear h1 h2
      go_enter Try.func27, Try.ntmps27
      go_wp2_with fail
      refine bodyPost_ret (v := .tuple #[.int .u8 0, .bool false]) (by simp [results, Try.results27, go_sem]) rfl ⟨rfl, rfl⟩
  · have k2 : ¬ (97 : Int) ≤ r := by omega
    clear h1 h2
    go_enter Try.func27, Try.ntmps27
    go_wp2_with fail
    refine bodyPost_ret (v := .tuple #[.int .u8 0, .bool false]) (by simp [results, Try.results27, go_sem]) rfl ⟨rfl, rfl⟩
/-- a byte half made of two digits -/
def ub (l : List UInt8) (k j : Nat) : UInt8 := if 2 * j + 1 < k then UInt8.ofNat (16 * dv (l.getD (2 * j) 0) + dv (l.getD (2 * j + 1) 0)) else if 2 * j < k then UInt8.ofNat (dv (l.getD (2 * j) 0)) else 0
/-- the bytes, k digits in -/
def ul (l : List UInt8) (k : Nat) : List UInt8 := (List.range (l.length / 2)).map (ub l k)
theorem ul_len (l : List UInt8) (k : Nat) : (ul l k).length = l.length / 2 := by simp [ul]
theorem ul_zero (l : List UInt8) : cb (ul l 0) = List.replicate (l.length / 2) (.int .u8 0) := by
  have : ul l 0 = List.replicate (l.length / 2) 0 := by
    unfold ul
    have e : ub l 0 = fun _ => 0 := by funext j; simp [ub]
    rw [e]
    simp [List.map_const']
  rw [this]
  simp [cb]
theorem uh_even : ∀ (n : Nat) (l : List UInt8), l.length = 2 * n → (∀ i, i < l.length → dv (l.getD i 0) < 16) → uh l = some ((List.range n).map fun j => UInt8.ofNat (16 * dv (l.getD (2 * j) 0) + dv (l.getD (2 * j + 1) 0)))
  | 0, l, hl, _ => by
    have : l = [] := List.eq_nil_of_length_eq_zero (by omega)
    subst this
    rfl
  | n + 1, p :: q :: t, hl, hd => by
    have ih := uh_even n t (by simp at hl; omega) (fun i hi => by have := hd (i + 2) (by simp; omega); simpa using this)
    have h0 := hd 0 (by simp)
    have h1 := hd 1 (by simp)
    simp only [List.getD_cons_zero, List.getD_cons_succ] at h0 h1
    rw [uh, if_pos ⟨h0, h1⟩, ih, List.range_succ_eq_map]
    simp [Function.comp_def, Nat.mul_add]
  | n + 1, [_], hl, _ => by simp at hl; omega
  | n + 1, [], hl, _ => by simp at hl
theorem uh_all (l : List UInt8) (h : l.length % 2 = 0) (hd : ∀ i, i < l.length → dv (l.getD i 0) < 16) : uh l = some (ul l l.length) := by
  rw [uh_even (l.length / 2) l (by omega) hd]
  congr 1
  unfold ul
  refine List.map_congr_left fun j hj => ?_
  have := List.mem_range.1 hj
  unfold ub
  rw [if_pos (by omega)]
theorem uh_bad : ∀ (n : Nat) (l : List UInt8) (i : Nat), l.length ≤ n → i < l.length → ¬ dv (l.getD i 0) < 16 → uh l = none
  | _, [], i, _, hi, _ => by simp at hi
  | _, [_], i, _, _, _ => rfl
  | 0, _ :: _ :: _, _, hl, _, _ => by simp at hl
  | n + 1, p :: q :: t, i, hl, hi, hd => by
    rw [uh]
    split
    · rename_i h1
      match i, hd, hi with
      | 0, hd, _ => exact absurd h1.1 (by simpa using hd)
      | 1, hd, _ => exact absurd h1.2 (by simpa using hd)
      | i + 2, hd, hi =>
        rw [uh_bad n t i (by simp at hl; omega) (by simp at hi; omega) (by simpa using hd)]
        rfl
    · rfl
theorem uh_odd : ∀ (n : Nat) (l : List UInt8), l.length ≤ n → l.length % 2 = 1 → uh l = none
  | _, [], _, h => by simp at h
  | _, [_], _, _ => rfl
  | 0, _ :: _ :: _, hl, _ => by simp at hl
  | n + 1, p :: q :: t, hl, h => by
    rw [uh]
    split
    · rw [uh_odd n t (by simp at hl; omega) (by simp at h; omega)]
      rfl
    · rfl
theorem ul_set (l : List UInt8) (k : Nat) (h : k < l.length) (he : l.length % 2 = 0) : (cb (ul l k)).set (k / 2) (.int .u8 ((ub l (k + 1) (k / 2)).toNat : Int)) = cb (ul l (k + 1)) := by
  refine List.ext_getElem? fun j => ?_
  rw [List.getElem?_set]
  by_cases e : k / 2 = j
  · subst e
    rw [if_pos rfl, if_pos (by rw [cb_len, ul_len]; omega)]
    simp [cb, ul, List.getElem?_range (show k / 2 < l.length / 2 by omega)]
  · rw [if_neg e]
    by_cases hj : j < l.length / 2
    · have : ub l (k + 1) j = ub l k j := by
        unfold ub
        by_cases h1 : 2 * j + 1 < k
        · rw [if_pos h1, if_pos (by omega)]
        · rw [if_neg h1, if_neg (by omega)]
          by_cases h2 : 2 * j < k
          · rw [if_pos h2, if_pos (by omega)]
          · rw [if_neg h2, if_neg (by omega)]
      simp [cb, ul, List.getElem?_range hj, this]
    · rw [List.getElem?_eq_none (by rw [cb_len, ul_len]; omega), List.getElem?_eq_none (by rw [cb_len, ul_len]; omega)]
/-- a digit more -/
theorem u8_shl (a d : Nat) (ha : a < 16) (hd : d < 16) : bits .or .u8 ((a : Int) * 16 % 256) (d : Int) = ((16 * a + d : Nat) : Int) := by
  have : ∀ (a d : Fin 16), bits .or .u8 ((a.val : Int) * 16 % 256) (d.val : Int) = ((16 * a.val + d.val : Nat) : Int) := by decide +kernel
  exact this ⟨a, ha⟩ ⟨d, hd⟩
end Go.Proofs.Ytfkigebbcbfkiaa
