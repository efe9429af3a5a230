import Derived.Test.YtmhpgcfmllcnpaaDoorWr
namespace Go.Proofs.YtmhpgcfmllcnpaaDoor.Tr
open Go.RowKit
theorem vn300 : vn 300 = [172, 2] := by decide
theorem nm300 : nm [172, 2] 300 = (300, 2, 0) := by decide
set_option maxRecDepth 100000 in
set_option maxHeartbeats 4000000 in
theorem live_any (w : World) : Calls Tryd.prog 4 #[] w fun e w' => e = .returned (.bool true) ∧ Below w.heap.size w w' := by
  have A : Hid (Calls Tryd.prog 10 #[.slice none 0 0, .int .u64 300] w fun e w' => ∃ v, e = .returned v ∧ w'.ownsRow w.heap.size 5 1 v 2 (cb [172, 2]) ∧ Below w.heap.size w w') := hidden (by
    have h := appNum_any none 0 [] 300 w (by_none w) (by simp) (by decide)
    rw [vn300] at h
    exact h)
  have hne : ([172, 2] : List UInt8) ≠ [] := by simp
  go_enter Tryd.func4, Tryd.ntmps4
  go_upto_region 2 with (first | (go_at_call 10; refine A.out.mono ?_; rintro e w1 ⟨v1, rfl, ho, hb⟩; obtain ⟨gb, cb', rfl, -, -, -, hgb⟩ := own_some ho (by omega); have HY := hidden (own_byQ ho); have HB := hidden hb; clear ho hb A hgb))
  have N : Hid (Calls Tryd.prog 11 #[.slice (some ⟨gb, 0, none⟩) 2 cb'] w1 fun r w' => ∃ (g : Nat) (Q : Option Addr) (d : Nat), r = .returned (.pointer (some ⟨g, 0, none⟩)) ∧ Rd w' g Q d [172, 2] 0 ∧ w1.heap.size ≤ g ∧ Below w1.heap.size w1 w') := hidden (newReader_any HY.out (by simp))
  go_upto_region 3 with (first | (go_at_call 11; refine N.out.mono ?_; rintro e w2 ⟨g, Q, d, rfl, hr, hg, hb⟩; have HR := hidden hr; have HG := hidden hg; have HB2 := hidden hb; clear hr hg hb N))
  have x0 := (HY.out.keep HB2.out).at 0 (by simp)
  have x1 := (HY.out.keep HB2.out).at 1 (by simp)
  have M : Hid (Calls Tryd.prog 12 #[.pointer (some ⟨g, 0, none⟩), .int .u64 300] w2 fun e w' => ∃ (P' : Option Addr) (c' : Nat), e = .returned (.int .u64 300) ∧ Rd w' g P' c' [] 0 ∧ Kp g w2 w') := hidden (by
    have h := Number_any 300 HR.out (by simp)
    rw [nm300] at h
    exact h)
  go_wp2_with (first | (go_at_call 12; refine M.out.mono ?_; rintro r w3 ⟨P', c', rfl, hr, hk⟩; have HR3 := hidden hr; have HK3 := hidden hk; clear hr hk M) | (go_at_call 13; refine (end_any HR3.out).mono ?_; rintro r w4 ⟨rfl, hr, hk⟩; have HK4 := hidden (HK3.out.trans hk); clear hr hk HR3))
  refine bodyPost_ret (v := .bool true) (by simp [results, Tryd.results4, go_sem, en]) rfl ⟨rfl, below_trans HB.out (below_trans (HB2.out.mono HB.out.size) (HK4.out.below (Nat.le_trans HB.out.size HG.out) (Nat.le_trans HB.out.size HB2.out.size)))⟩
theorem live_on {w0 w : World} (h : Below w0.heap.size w0 w) : Calls Tryd.prog 4 #[] w fun e w' => e = .returned (.bool true) ∧ Below w0.heap.size w0 w' := (live_any w).mono fun _ _ ⟨h1, h2⟩ => ⟨h1, bl_trans h h2⟩
end Go.Proofs.YtmhpgcfmllcnpaaDoor.Tr
