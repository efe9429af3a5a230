import Derived.Test.YtgdbcmhkepkaeaaTvc
namespace Go.Proofs.Ytgdbcmhkepkaeaa
open Go.RowKit
set_option linter.unusedVariables false
set_option maxRecDepth 100000 in
set_option maxHeartbeats 4000000 in
theorem law_any (a c : Int) (w : World) : Calls Try.prog 3 #[.int .i64 a, .int .i64 c] w fun e w' => e = .returned (.bool true) ∧ Below w.heap.size w w' := by
  have LE := hidden leaves_any
  have RL := hidden rleaves_any
  go_enter Try.func3, Try.ntmps3
  go_wp2_with fail
  go_loopw [5] (fun nv w' => ∃ k : Nat, nv = .int .i64 ((k : Int) - 1) ∧ Hid (k ≤ 71) ∧ Hid (Below w.heap.size w w')) (fun k _ => 71 - (intOf k + 1).toNat)
  case atStart => exact ⟨0, by simp, hidden (by omega), hidden (Below.refl _ _)⟩
  case round =>
    obtain ⟨k, rfl, hk, hb0⟩ := hrel
    by_cases hlt : k < 71
    · have hlt' : (k : Int) - 1 < 70 := by omega
      have HL := hidden hlt
      have w9 : IntKind.i64.wrap ((k : Int) - 1 + 1) = (k : Int) := by rw [IntWalk.i64_in _ (by omega)]; omega
      obtain ⟨kk, hkk⟩ : ∃ kk : Int, (k : Int) - 1 = kk := ⟨_, rfl⟩
      have HK := hidden hkk
      rw [hkk] at hlt' w9 ⊢
      clear hkk hlt
      go_wp2_with fail
      go_loopw [6] (fun mv w' => ∃ m : Nat, mv = .int .i64 ((m : Int) - 1) ∧ Hid (m ≤ 21) ∧ Hid (Below w.heap.size w w')) (fun k _ => 21 - (intOf k + 1).toNat)
      case atStart => exact ⟨0, by simp, hidden (by omega), hb0⟩
      case round =>
        clear hb0
        obtain ⟨m, rfl, hm, hb0⟩ := hrel
        by_cases hmt : m < 21
        · have hmt' : (m : Int) - 1 < 20 := by omega
          have HM := hidden hmt
          have w8 : IntKind.i64.wrap ((m : Int) - 1 + 1) = (m : Int) := by rw [IntWalk.i64_in _ (by omega)]; omega
          obtain ⟨mm, hmm⟩ : ∃ mm : Int, (m : Int) - 1 = mm := ⟨_, rfl⟩
          have HN := hidden hmm
          rw [hmm] at hmt' w8 ⊢
          clear hmm hmt
          go_upto_region 8 with fail
          have PB := hidden ((Pb.new wr kk mm 23).drew)
          have NB := hidden (bl_trans (bl_trans hb0.out (bl_alloc wr (.cells #[.int .i64 kk, .int .i64 mm] 23))) (bl_drew _))
          generalize wr.alloc (.cells #[.int .i64 kk, .int .i64 mm] 23) = wq at *
          have x0 := PB.out.c0
          have x1 := PB.out.c1
          go_region_with (first | (go_at_call 4; refine (LE.out kk mm _).mono ?_; rintro e wb ⟨rfl, hb⟩; have P2 := hidden (PB.out.keep hb); have NC := hidden (bl_trans NB.out hb); clear hb x0 x1 PB NB; have x0 := P2.out.c0; have x1 := P2.out.c1) | (go_at_call 5; refine (RL.out kk mm _).mono ?_; rintro e wc ⟨rfl, hb⟩; have ND := hidden (bl_trans NC.out hb); clear hb))
          all_goals
            clear x0 x1 P2 NC
            go_wp2_with fail
            go_roundw
            case rel => exact ⟨m + 1, by simp, hidden (by have := HM.out; omega), ND⟩
            case measure => have := HM.out; have := HN.out; simp [intOf]; omega
        · have hmt' : ¬ (m : Int) - 1 < 20 := by omega
          obtain ⟨mm, hmm⟩ : ∃ mm : Int, (m : Int) - 1 = mm := ⟨_, rfl⟩
          rw [hmm] at hmt' ⊢
          clear hmm hmt
          go_wp2_with fail
          go_roundw
          case rel => exact ⟨k + 1, by simp, hidden (by have := HL.out; omega), hb0⟩
          case measure => have := HL.out; have := HK.out; simp [intOf]; omega
    · have hlt' : ¬ (k : Int) - 1 < 70 := by omega
      obtain ⟨kk, hkk⟩ : ∃ kk : Int, (k : Int) - 1 = kk := ⟨_, rfl⟩
      rw [hkk] at hlt' ⊢
      clear hkk hlt
      go_upto_region 11 with fail
      have PB := hidden ((Pb.new wr a c 23).drew)
      have NB := hidden (bl_trans (bl_trans hb0.out (bl_alloc wr (.cells #[.int .i64 a, .int .i64 c] 23))) (bl_drew _))
      generalize wr.alloc (.cells #[.int .i64 a, .int .i64 c] 23) = wq at *
      have x0 := PB.out.c0
      have x1 := PB.out.c1
      go_region_with (first | (go_at_call 4; refine (LE.out a c _).mono ?_; rintro e wb ⟨rfl, hb⟩; have P2 := hidden (PB.out.keep hb); have NC := hidden (bl_trans NB.out hb); clear hb x0 x1 PB NB; have x0 := P2.out.c0; have x1 := P2.out.c1) | (go_at_call 5; refine (RL.out a c _).mono ?_; rintro e wc ⟨rfl, hb⟩; have ND := hidden (bl_trans NC.out hb); clear hb))
      all_goals
        clear x0 x1 P2 NC
        go_wp2_with fail
        refine bodyPost_ret (v := .bool true) (by simp [results, Try.results3, go_sem]) rfl ⟨rfl, ND.out⟩
end Go.Proofs.Ytgdbcmhkepkaeaa
