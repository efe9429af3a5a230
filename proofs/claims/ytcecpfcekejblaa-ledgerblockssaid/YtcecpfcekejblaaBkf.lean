import Derived.Test.YtcecpfcekejblaaBke
namespace Go.Proofs.Ytcecpfcekejblaa
open Go.RowKit
set_option linter.unusedVariables false
set_option maxRecDepth 100000 in
set_option maxHeartbeats 8000000 in
theorem rNum18_any (n : Nat) (w : World) (hn : n < 2 ^ 64) :
    Calls Try.prog 16 #[.int .u64 (n : Int)] w fun e w' => ∃ v, e = .returned v ∧ w'.ownsRow w.heap.size 5 1 v (vn n).length (cb (vn n)) ∧ Below w.heap.size w w' := by
  have HN := hidden hn
  have HO : Hid (w.ownsRow w.heap.size 5 1 (.slice none 0 0) ([] : List UInt8).length (cb [])) := hidden (World.ownsRow_nil w w.heap.size 5 1)
  have HB := hidden (Below.refl w.heap.size w)
  clear hn
  go_enter Try.func16, Try.ntmps16
  go_wp2_with fail
  go_loopw [3, 0] (fun vv mv w' => ∃ (k m : Nat) (D : List UInt8), k ≤ 9 ∧ mv = .int .u64 (m : Int) ∧ Hid (D.length = k ∧ vn n = D ++ vf (9 - k) m ∧ m < 2 ^ (64 - 7 * k)) ∧ Hid (w'.ownsRow w.heap.size 5 1 vv D.length (cb D)) ∧ Hid (Below w.heap.size w w')) (fun _ m _ => (intOf m).toNat)
  case atStart => exact ⟨0, n, [], by omega, rfl, hidden ⟨rfl, rfl, by simpa using HN.out⟩, HO, HB⟩
  case round =>
    clear HO HB
    obtain ⟨k, m, D, hk, rfl, hM, HO, HB⟩ := hrel
    by_cases hm : m < 128
    · obtain ⟨y, rfl⟩ : ∃ y : UInt8, m = y.toNat := ⟨UInt8.ofNat m, by rw [UInt8.toNat_ofNat']; omega⟩
      have k0 : ¬ (y.toNat : Int) > 127 := by omega
      have HE : Hid (vn n = D ++ [y]) := hidden (by rw [hM.out.2.1, vf_small _ _ hm, ofNat_toNat])
      have HD : Hid (D.length ≤ 9) := hidden (by have := hM.out.1; omega)
      clear hM
      go_wp2_with (first | (at_builtin; refine wpList_app_by rfl _ _ rfl w.heap.size _ D [y] (some ⟨wr.heap.size, 0, none⟩) 1 rfl rfl (own_stay HO.out (bl_alloc wr _)) (by_list wr [y] 1) (by have := HD.out; simp only [List.length_cons, List.length_nil]; omega) (by have := HB.out.size; simp; omega) ?_; intro v1 w1 ho1 hg1; have HO1 := hidden ho1; have HB1 := hidden (below_trans (bl_trans HB.out (bl_alloc wr _)) (below_grown hg1 (by have := HB.out.size; simp; omega) (fun j hj => (HO.out.lt j hj).1))); clear ho1 hg1))
      refine bodyPost_ret (v := v1) (by simp [results, Try.results16, go_sem]) rfl ⟨_, rfl, by rw [HE.out]; exact HO1.out, HB1.out⟩
    · have k0 : (m : Int) > 127 := by omega
      have hk9 : k < 9 := by
        have := hM.out.2.2
        by_cases e : k = 9
        · subst e; simp at this; omega
        · omega
      have hi := rhigh m
      have HE : Hid (vn n = D ++ [UInt8.ofNat (m % 128 + 128)] ++ vf (9 - (k + 1)) (m / 128)) := hidden (by rw [hM.out.2.1, show 9 - k = (9 - (k + 1)) + 1 by omega, vf_big _ _ hm]; simp)
      have HD : Hid (D.length = k ∧ m / 128 < 2 ^ (64 - 7 * (k + 1))) := hidden (by
        have h64 : 2 ^ (64 - 7 * k) = 128 * 2 ^ (64 - 7 * (k + 1)) := by
          rw [show 64 - 7 * k = 7 + (64 - 7 * (k + 1)) by omega, Nat.pow_add]
        have := hM.out.2.2
        exact ⟨hM.out.1, by omega⟩)
      generalize UInt8.ofNat (m % 128 + 128) = y at hi HE
      have hm64 : m < 2 ^ 64 := Nat.lt_of_lt_of_le hM.out.2.2 (Nat.pow_le_pow_right (by omega) (by omega))
      have w1 : IntKind.u64.wrap ((m : Int) / 128) = (m : Int) / 128 := by rw [IntKind.wrap_u64]; omega
      have z0 : (m : Int) % 128 % 256 = (m : Int) % 128 := by omega
      have z1 : (y.toNat : Int) % 256 = (y.toNat : Int) := by have := y.toNat_lt; omega
      clear hM hm64
      go_wp2_with (first | (at_builtin; refine wpList_app_by rfl _ _ rfl w.heap.size _ D [y] (some ⟨wr.heap.size, 0, none⟩) 1 rfl rfl (own_stay HO.out (bl_alloc wr _)) (by_list wr [y] 1) (by have := HD.out.1; simp only [List.length_cons, List.length_nil]; omega) (by have := HB.out.size; simp; omega) ?_; intro v1 w1 ho1 hg1; have HO1 := hidden ho1; have HB1 := hidden (below_trans (bl_trans HB.out (bl_alloc wr _)) (below_grown hg1 (by have := HB.out.size; simp; omega) (fun j hj => (HO.out.lt j hj).1))); clear ho1 hg1))
      go_roundw
      case rel => exact ⟨k + 1, m / 128, D ++ [y], by omega, by go_num, hidden ⟨by have := HD.out.1; simp; omega, HE.out, HD.out.2⟩, HO1, HB1⟩
      case measure => simp [intOf]; omega
end Go.Proofs.Ytcecpfcekejblaa
