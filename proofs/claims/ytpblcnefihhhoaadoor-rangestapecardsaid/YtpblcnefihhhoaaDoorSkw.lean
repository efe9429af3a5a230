import Derived.Test.YtpblcnefihhhoaaDoorSkd
namespace Go.Proofs.YtpblcnefihhhoaaDoor
open Go.RowKit

def pairs : List Int → List Int
  | a :: b :: l => (a + b * 256) :: pairs l
  | _ => []
theorem pairs_take : ∀ (k : Nat) (zs : List Int), 2 * k + 1 < zs.length → pairs (zs.take (2 * k + 2)) = pairs (zs.take (2 * k)) ++ [zs.getD (2 * k) 0 + zs.getD (2 * k + 1) 0 * 256]
  | 0, a :: b :: l, _ => by simp [pairs]
  | k + 1, a :: b :: l, h => by
    have ih := pairs_take k l (by simp at h; omega)
    rw [show 2 * (k + 1) = 2 * k + 1 + 1 by omega]
    simp only [List.take_succ_cons, pairs, List.cons_append, List.getD_cons_succ]
    rw [ih]
theorem pairs_len : ∀ (k : Nat) (zs : List Int), 2 * k ≤ zs.length → (pairs (zs.take (2 * k))).length = k
  | 0, _, _ => by simp [pairs]
  | k + 1, a :: b :: l, h => by
    have ih := pairs_len k l (by simp at h; omega)
    rw [show 2 * (k + 1) = 2 * k + 1 + 1 by omega]
    simp [pairs, ih]
theorem pairs_num : ∀ (k : Nat) (zs : List Int), zs.length = 2 * k → (∀ z ∈ zs, 0 ≤ z ∧ z ≤ 255) → wn (pairs zs) = num zs
  | 0, [], _, _ => by simp [pairs, wn, num]
  | k + 1, a :: b :: l, h, hz => by
    have ih := pairs_num k l (by simp at h; omega) (fun z hz' => hz z (by simp [hz']))
    have ha := hz a (by simp)
    have hb := hz b (by simp)
    simp only [pairs, wn, num, ih]
    omega
theorem pairs_in (k : Nat) (zs : List Int) (h : zs.length = 2 * k) (hz : ∀ z ∈ zs, 0 ≤ z ∧ z ≤ 255) : ∀ x ∈ pairs zs, 0 ≤ x ∧ x < 65536 := by
  induction k generalizing zs with
  | zero => match zs, h with
    | [], _ => simp [pairs]
  | succ k ih => match zs, h with
    | a :: b :: l, h =>
      have ha := hz a (by simp)
      have hb := hz b (by simp)
      intro x hx
      simp only [pairs, List.mem_cons] at hx
      rcases hx with rfl | hx
      · omega
      · exact ih l (by simp at h; omega) (fun z hz' => hz z (by simp [hz'])) x hx

set_option maxRecDepth 100000 in
set_option maxHeartbeats 8000000 in
theorem rWide_any (zs : List Int) (w : World) (lz : zs.length = 64) (hz : ∀ z ∈ zs, 0 ≤ z ∧ z ≤ 255) :
    Calls Tryd.prog 31 #[bv zs] w fun e w' => ∃ t : E4, e = .returned t.v ∧ t.is (num zs) ∧ Below w.heap.size w w' := by
  have LZ := hidden lz
  have HZ := hidden hz
  have RN := hidden (range_new w zs 64)
  have hget : ∀ k, k < 64 → (zs.map fun z => Value.int .u8 z)[k]? = some (.int .u8 (zs.getD k 0)) ∧ 0 ≤ zs.getD k 0 ∧ zs.getD k 0 ≤ 255 := fun k hk => by
    have hk2 : k < zs.length := by omega
    have e1 : zs.getD k 0 = zs[k] := by simp [List.getD, hk2]
    rw [e1]
    exact ⟨by simp [hk2], hz _ (List.getElem_mem hk2)⟩
  have HG := hidden hget
  have s0 := (St.nil (w.alloc (.cells (zs.map fun z => Value.int .u8 z).toArray 64))).room 34
  simp only [World.size_alloc] at s0
  have S0 : Hid (St w [(w.heap.size + 1, zero4)] [w.heap.size + 1] _) := hidden ⟨s0.live, s0.wrt, bl_trans (bl_alloc w _) (s0.bel)⟩
  obtain ⟨i0, hi, hz0, hz1, hz2⟩ := info_parts u64info
  have HI := hidden hi
  have HZ0 := hidden hz0
  have HZ1 := hidden hz1
  have HZ2 := hidden hz2
  clear hi hz0 hz1 hz2 hget lz hz s0
  unfold bv
  generalize (zs.map fun z => Value.int .u8 z) = cs at *
  go_enter Tryd.func31, Tryd.ntmps31
  go_wp2_with fail
  go_loopw [3, 4] (fun v i w' => ∃ k : Nat, k ≤ 32 ∧ i = .int .i64 ((2 * k : Nat) : Int) ∧ w'.ownsRow (w.heap.size + 1 + 1) 25 1 v k ((pairs (zs.take (2 * k))).map fun z => Value.int .u64 z) ∧ w.heap.size + 1 + 1 ≤ w'.heap.size ∧ w'.rangeAt w.heap.size 0 cs ∧ St w [(w.heap.size + 1, zero4)] [w.heap.size + 1] w') (fun _ i _ => 64 - (intOf i).toNat)
  case atStart => exact ⟨0, by omega, rfl, World.ownsRow_nil _ _ _ _, by simp, range_keep RN.out (bl_alloc _ _), S0.out⟩
  case round =>
    obtain ⟨k, hk, rfl, hown, hsz, hrg, hst⟩ := hrel
    clear S0 RN
    by_cases hk4 : k < 32
    · obtain ⟨m, hm⟩ : ∃ m, 2 * k = m := ⟨_, rfl⟩
      have PT := hidden (pairs_take k zs (by rw [LZ.out]; omega))
      rw [hm] at hown ⊢
      rw [hm] at PT
      have kk0 : (0 : Int) ≤ (m : Int) := by omega
      have kk1 : (m : Int) < 63 := by omega
      obtain ⟨g0, x0, x1⟩ := HG.out m (by omega)
      obtain ⟨g1, y0, y1⟩ := HG.out (m + 1) (by omega)
      have ca := range_keep hrg ((Below.refl _ _).drew) m _ g0
      have cb := range_keep hrg ((Below.refl _ _).drew) (m + 1) _ g1
      rw [Nat.zero_add] at ca cb
      have OP := or_parts 8 (zs.getD (m + 1) 0) (zs.getD m 0) x0 (by simp only [Int.reducePow]; omega) y0 (by simp only [Int.reducePow]; omega) (by omega)
      simp only [Int.reducePow] at OP
      generalize zs.getD m 0 = x at *
      generalize zs.getD (m + 1) 0 = y at *
      have hw1 : IntKind.i64.wrap ((m : Int) + 1) = (m : Int) + 1 := IntWalk.i64_in _ (by omega)
      have hw2 : ((m : Int) + 1).toNat = m + 1 := by omega
      have hw3 : (0 : Int) ≤ (m : Int) + 1 := by omega
      have hw4 : (m : Int) + 1 < 64 := by omega
      have wx : IntKind.u64.wrap x = x := IntWalk.u64_in _ (by omega)
      have wy : IntKind.u64.wrap y = y := IntWalk.u64_in _ (by omega)
      have wz : IntKind.u64.wrap (y * 256) = y * 256 := IntWalk.u64_in _ (by omega)
      have KS : Hid (∀ o, St w [(w.heap.size + 1, zero4)] [w.heap.size + 1] (wr.alloc o).drew) := hidden (fun o => (hst.keep (bl_alloc wr o)).drew)
      have RG : Hid (∀ o, (wr.alloc o).drew.rangeAt w.heap.size 0 cs) := hidden (fun o => range_keep (range_keep hrg (bl_alloc wr o)) ((Below.refl _ _).drew))
      have OW := hidden (show wr.drew.ownsRow (w.heap.size + 1 + 1) 25 1 _ k ((pairs (zs.take m)).map fun z => Value.int .u64 z) from hown)
      have SZ : Hid (∀ o, w.heap.size + 1 + 1 ≤ (wr.alloc o).drew.heap.size) := hidden (fun o => by have : (wr.alloc o).drew.heap.size = wr.heap.size + 1 := World.size_alloc wr o; omega)
      have HM := hidden hm
      clear hown hsz hst hrg g0 g1 hm
      go_upto_region 5 with fail
      go_region_law (refine step_append_own rfl (.tmp 9) (.tmp 21) 85 rfl (w.heap.size + 1 + 1) 25 i0 (.int .u64 0) 1 8 Tryd.underlying85 HI.out HZ0.out HZ1.out HZ2.out rfl (by decide) _ _ _ (by simp [Act.eval]) (OW.out.alloc _) ⟨wr.drew.heap.size, 0, none⟩ 1 1 [.int .u64 (x + y * 256)] (by simp [Act.eval]) rfl (cells_new wr.drew _ _) (by simp [Value.oneCell']) (by unfold maxLen; omega) (by omega) (SZ.out _) ?_; intro vn wz hown hgr)
      all_goals
        have S2 := hidden ((KS.out _).grown hgr (fun g hg => by have := (OW.out.lt g hg).1; simp; omega))
        have Z2 := hidden (Nat.le_trans (SZ.out _) hgr.size)
        have R2 : Hid (wz.rangeAt w.heap.size 0 cs) := hidden (fun j v hv => hgr.cell (RG.out _ j v hv) (fun e => by have := (OW.out.lt _ e.symm).1; simp at this; omega))
        have O2 := hidden hown
        clear hown hgr
        go_wp2_with fail
        go_roundw
        case rel => exact ⟨k + 1, by omega, by rw [← HM.out]; go_num, by rw [show 2 * (k + 1) = m + 2 by rw [← HM.out]; omega, PT.out, List.map_append]; exact O2.out, Z2.out, R2.out, S2.out⟩
        case measure => simp [intOf]; omega
    · have hkk : k = 32 := by omega
      subst hkk
      have e64 : zs.take (2 * 32) = zs := List.take_of_length_le (by rw [LZ.out]; omega)
      rw [e64] at hown
      have pl : (pairs zs).length = 32 := by have := pairs_len 32 zs (by rw [LZ.out]; omega); rw [e64] at this; exact this
      have PN := hidden (pairs_num 32 zs LZ.out HZ.out)
      have PI := pairs_in 32 zs LZ.out HZ.out
      rcases hown.2 with ⟨_, h0⟩ | ⟨g, cap, cur, rfl, hg, hblk, hnc, hcm, hcs, htake⟩
      · omega
      have WA := hidden (words_any g 32 cap (pairs zs) wr pl (by omega) (fun j hj => by
        have hj2 : j < (pairs zs).length := by rw [pl]; omega
        have e1 : (pairs zs).getD j 0 = (pairs zs)[j] := by simp [List.getD, hj2]
        have hc := hown.cells (g := g) rfl j (.int .u64 ((pairs zs).getD j 0)) (by simp [hj2])
        have hadd : (⟨g, 0, none⟩ : Addr).add j = ⟨g, j, none⟩ := by unfold Addr.add; split <;> simp_all
        rw [hadd] at hc
        exact ⟨hc, by rw [e1]; exact PI _ (List.getElem_mem hj2)⟩))
      have ST := hidden hst
      clear hown hst hblk hcs htake hnc hcm hrg e64 pl PI
      rw [show ((2 * 32 : Nat) : Int) = 64 from rfl]
      go_wp2_with fail
      refine WA.out.mono ?_
      rintro e w2 ⟨t, rfl, ht, hb⟩
      have S2 := ST.out.keep hb
      have z0 := (S2.live (w.heap.size + 1, zero4) (by simp)).c0
      have z1 := (S2.live (w.heap.size + 1, zero4) (by simp)).c1
      have z2 := (S2.live (w.heap.size + 1, zero4) (by simp)).c2
      have z3 := (S2.live (w.heap.size + 1, zero4) (by simp)).c3
      obtain ⟨f0, f1, f2, f3⟩ := (S2.wrt (w.heap.size + 1) (by simp)).1
      have S3 := hidden S2
      have HT := hidden ht
      clear S2 ht hb
      simp only [E4.v]
      go_wp2_with fail
      refine bodyPost_ret (v := .agg #[.int .u64 t.x0, .int .u64 t.x1, .int .u64 t.x2, .int .u64 t.x3]) (by simp [results, Tryd.results31, go_sem, z0, z1, z2, z3]) rfl ⟨t, rfl, by rw [← PN.out]; exact HT.out, ?_⟩
      exact set4_below _ _ _ S3.out.bel (by omega)
end Go.Proofs.YtpblcnefihhhoaaDoor
