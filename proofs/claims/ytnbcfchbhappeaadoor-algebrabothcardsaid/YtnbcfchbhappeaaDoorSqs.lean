import Derived.Test.YtnbcfchbhappeaaDoorBlk
namespace Go.Proofs.YtnbcfchbhappeaaDoor.Fe
open Go.RowKit

set_option maxRecDepth 100000 in
set_option maxHeartbeats 4000000 in
theorem squares_any (a : E5) (n : Nat) (w : World) (ha : a.ok) (h1 : 1 ≤ n) (hn : n ≤ 1000) :
    Calls Tryd.prog 31 #[a.v, .int .i64 n] w fun e w' => ∃ r : E5, e = .returned r.v ∧ r.is (a.n ^ (2 ^ n)) ∧ Below w.heap.size w w' := by
  have SQ := hidden (fun (r : E5) (h : r.ok) w => Square_any r w h)
  have HA := hidden ha
  clear ha
  simp only [E5.v] at SQ ⊢
  go_enter Tryd.func31, Tryd.ntmps31
  go_wp2_with fail
  go_loopw [6] (fun i w' => ∃ k : Nat, ∃ r : E5, k ≤ n ∧ i = .int .i64 k ∧ (k = 0 → r = a) ∧ (1 ≤ k → r.is (a.n ^ (2 ^ k))) ∧ Blc w' w.heap.size r ∧ Wrt w' w.heap.size ∧ Blc w' (w.heap.size + 1) zero5 ∧ Wrt w' (w.heap.size + 1) ∧ Below w.heap.size w w') (fun i _ => n - (intOf i).toNat)
  case atStart =>
    refine ⟨0, a, Nat.zero_le _, rfl, fun _ => rfl, fun h => absurd h (by omega), ?_, ?_, ?_, ?_, bl_alloc2 _ _ _⟩
    · exact (Blc.new w a _).keep (bl_alloc _ _)
    · exact (Wrt.new w a _).keep (by simp) (bl_alloc _ _)
    · exact Blc.new1 _ _ _
    · exact Wrt.new1 _ _ _
  case round =>
    obtain ⟨k, r, hk, rfl, hk0, hk1, hc, hf, hd, hg, hB⟩ := hrel
    have hok : r.ok := by
      by_cases h0 : k = 0
      · rw [hk0 h0]; exact HA.out
      · exact (hk1 (by omega)).ok
    have HK0 := hidden hk0
    have HK1 := hidden hk1
    have HOK := hidden hok
    clear hk0 hk1 hok
    obtain ⟨c0, c1, c2, c3, c4⟩ := id hc
    by_cases hlt : k < n
    · go_wp2_with fail
      refine (SQ.out r HOK.out _).mono ?_
      rintro e w1 ⟨s, rfl, hs, hb1⟩
      have hc1 := hc.keep hb1
      have hf1 := hf.keep hc.lt hb1
      have hd1 := hd.keep hb1
      have hg1 := hg.keep hd.lt hb1
      have hB1 := bl_trans hB hb1
      clear c0 c1 c2 c3 c4 hc hf hd hg hB hb1
      obtain ⟨c0, c1, c2, c3, c4⟩ := id hc1
      obtain ⟨f0, f1, f2, f3, f4⟩ := id hf1
      have HS := hidden hs
      clear hs
      go_wp2_with fail
      go_roundw
      case rel =>
        refine ⟨k + 1, s, by omega, by go_num, fun h => absurd h (by omega), fun _ => ?_, Blc.set hc1 s, Wrt.set hf1, Blc.far hd1 (by omega), Wrt.set hg1, set5_below _ _ _ hB1 (Nat.le_refl _)⟩
        have hs := HS.out
        by_cases h0 : k = 0
        · rw [HK0.out h0] at hs
          subst h0
          exact E5.pw.one hs
        · exact E5.pw.mul (HK1.out (by omega)) (HK1.out (by omega)) hs (by rw [Nat.pow_succ]; omega)
      case measure => simp [intOf]; omega
    · have hkn : k = n := by omega
      have HR := HK1.out (by omega)
      rw [hkn] at HR
      have HR2 := hidden HR
      clear HR
      obtain ⟨d0, d1, d2, d3, d4⟩ := id hd
      obtain ⟨g0, g1, g2, g3, g4⟩ := id hg
      go_wp2_with fail
      have hres := Blc.set hd r
      obtain ⟨s0, s1, s2, s3, s4⟩ := id hres
      unfold set5 at s0 s1 s2 s3 s4
      refine bodyPost_ret (v := .agg #[.int .u64 r.x0, .int .u64 r.x1, .int .u64 r.x2, .int .u64 r.x3, .int .u64 r.x4]) (by simp [results, Tryd.results31, go_sem, d0, d1, d2, d3, d4]) rfl ⟨r, rfl, HR2.out, ?_⟩
      exact set5_below _ _ _ hB (by omega)
end Go.Proofs.YtnbcfchbhappeaaDoor.Fe
