import Derived.Test.YtcecpfcekejblaaBka
namespace Go.Proofs.Ytcecpfcekejblaa
open Go.RowKit
set_option linter.unusedVariables false
set_option maxRecDepth 100000 in
set_option maxHeartbeats 8000000 in
theorem concat_any (F : List UInt8) (ps : List (List UInt8)) (hF : F = ps.flatten) (P : Option Addr) (cap : Nat) (q : Nat → Option Addr) (c : Nat → Nat) (w : World) (hP : Pt w P ps q c) (h1 : 0 < F.length) (h2 : F.length ≤ 2 ^ 40) (h3 : ps.length ≤ 2 ^ 40) :
    Calls Try.prog 15 #[.slice P ps.length cap] w fun e w' => ∃ v, e = .returned v ∧ w'.ownsRow w.heap.size 5 1 v F.length (cb F) ∧ Below w.heap.size w w' := by
  have HP := hidden hP
  rw [hF] at h1 h2
  have HF0 := hidden hF
  clear hF
  have H2 := hidden h2
  have H3 := hidden h3
  obtain ⟨L, hL⟩ : ∃ L : Nat, L = ps.flatten.length := ⟨_, rfl⟩
  have GR := hidden (grow_any L w (by omega) (by omega))
  have HL0 := hidden hL
  clear hP h1 h2 h3 hL
  go_enter Try.func15, Try.ntmps15
  go_wp2_with fail
  go_loopw [3, 11] (fun zv kv w' => ∃ k s : Nat, k ≤ ps.length ∧ kv = .int .i64 (k : Int) ∧ zv = .int .i64 (s : Int) ∧ Hid (s = (ps.take k).flatten.length) ∧ w' = w) (fun _ k _ => ps.length - (intOf k).toNat)
  case atStart => exact ⟨0, 0, by omega, rfl, rfl, hidden (by simp), rfl⟩
  case round =>
    obtain ⟨k, s, hk, rfl, rfl, hR, rfl⟩ := hrel
    by_cases hkn : k < ps.length
    · obtain ⟨b, o, rfl, hc⟩ := HP.out.lie (by omega)
      have x0 := hc k hkn
      have k0 : (0 : Int) ≤ (k : Int) := by omega
      have k1 : (k : Int) < (ps.length : Int) := by omega
      have hf := congrArg List.length (flat_next ps k hkn)
      rw [List.length_append] at hf
      have hle := flat_take ps (k + 1)
      have hS := H2.out
      have hR' := hR.out
      have h3 := H3.out
      have w8 : IntKind.i64.wrap ((s : Int) + ((ps.getD k []).length : Int)) = (s : Int) + ((ps.getD k []).length : Int) := IntWalk.i64_in _ (by omega)
      have w9 : IntKind.i64.wrap ((k : Int) + 1) = (k : Int) + 1 := IntWalk.i64_in _ (by omega)
      have n9 : ¬ ((s : Int) + ((ps.getD k []).length : Int) < 0) := by omega
      have NR : Hid (s + (ps.getD k []).length = (ps.take (k + 1)).flatten.length) := hidden (by omega)
      generalize (ps.getD k []).length = m at x0 w8 NR n9
      clear hc hf hle hS hR' h3 hR
      go_wp2_with fail
      go_roundw
      case rel => exact ⟨k + 1, s + m, by omega, by go_num, by congr 1, NR, trivial⟩
      case measure => simp [intOf]; omega
    · obtain rfl : k = ps.length := by omega
      have lq : ¬ (ps.length : Int) < (ps.length : Int) := by omega
      have hR' := hR.out
      rw [List.take_length] at hR'
      obtain rfl : s = L := by rw [hR', HL0.out]
      clear hR hR'
      go_wp2_with (first | (go_at_call 19; refine (GR.out).mono ?_; rintro e wa ⟨v0, rfl, ho, hb⟩; have HO := hidden ho; have HB := hidden hb; clear ho hb))
      go_loopw [6, 27] (fun vv kv w' => ∃ k : Nat, k ≤ ps.length ∧ kv = .int .i64 (k : Int) ∧ Hid (w'.ownsRow wr.heap.size 5 1 vv (ps.take k).flatten.length (cb (ps.take k).flatten)) ∧ Hid (Below wr.heap.size wr w')) (fun _ k _ => ps.length - (intOf k).toNat)
      case atStart => exact ⟨0, by omega, rfl, hidden HO.out, HB⟩
      case round =>
        clear HO HB GR
        obtain ⟨k, hk, rfl, HO, HB⟩ := hrel
        by_cases hkn : k < ps.length
        · have hf := flat_next ps k hkn
          have hby := (HP.out.each k hkn).keep HB.out
          obtain ⟨b, o, rfl, hc⟩ := HP.out.lie (by omega)
          have x0 := cell_keep (hc k hkn) HB.out
          have k0 : (0 : Int) ≤ (k : Int) := by omega
          have k1 : (k : Int) < (ps.length : Int) := by omega
          have h3 := H3.out
          have w9 : IntKind.i64.wrap ((k : Int) + 1) = (k : Int) + 1 := IntWalk.i64_in _ (by omega)
          have BY := hidden hby
          have hle := flat_take ps (k + 1)
          have hS := H2.out
          have HL : Hid ((ps.take k).flatten.length + (ps.getD k []).length ≤ 2 ^ 47) := hidden (by rw [hf, List.length_append] at hle; omega)
          have HF := hidden hf
          generalize ps.getD k [] = y at x0 BY HL HF
          clear hc hf hby h3 hle hS
          go_wp2_with (first | (at_builtin; refine wpList_app_by rfl _ _ rfl _ _ _ y _ _ rfl rfl HO.out BY.out HL.out HB.out.size ?_; intro v2 w2 ho2 hg2; have HO2 := hidden ho2; have HB2 := hidden (below_trans HB.out (below_grown hg2 HB.out.size (fun k hk => (HO.out.lt k hk).1))); clear ho2 hg2))
          go_roundw
          case rel => exact ⟨k + 1, by omega, by go_num, by rw [HF.out]; exact HO2, HB2⟩
          case measure => simp [intOf]; omega
        · obtain rfl : k = ps.length := by omega
          have lq : ¬ (ps.length : Int) < (ps.length : Int) := by omega
          go_wp2_with fail
          refine bodyPost_ret (v := u6) (by simp [results, Try.results15, go_sem]) rfl ⟨u6, rfl, by have h := HO.out; rw [List.take_length, ← HF0.out] at h; exact h, HB.out⟩
end Go.Proofs.Ytcecpfcekejblaa
