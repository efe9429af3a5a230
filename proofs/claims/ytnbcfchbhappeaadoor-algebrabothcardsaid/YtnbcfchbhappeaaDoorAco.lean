import Derived.Test.YtnbcfchbhappeaaDoorAgr
namespace Go.Proofs.YtnbcfchbhappeaaDoor.Al
open Go.RowKit
theorem svlLen (f : Nat → Int) (n : Nat) : (svl f n).length = n * 1 := by simp [svl]
theorem svl_get {f : Nat → Int} {n j : Nat} {u : Value} (h : (svl f n)[j]? = some u) : j < n ∧ u = .int .i64 (f j) := by
  unfold svl at h
  rw [List.getElem?_map] at h
  by_cases hj : j < n
  · rw [List.getElem?_range hj] at h
    exact ⟨hj, (Option.some.inj h).symm⟩
  · rw [List.getElem?_eq_none (by simp; omega)] at h
    exact absurd h (by simp)
theorem svl_one {f : Nat → Int} {n : Nat} : ∀ u ∈ svl f n, u.oneCell' = true := by
  intro u hu
  unfold svl at hu
  obtain ⟨k, _, rfl⟩ := List.mem_map.1 hu
  rfl
theorem svl_at {w : World} {pa oa n : Nat} {f : Nat → Int} (h : ∀ k, k < n → w.cell? ⟨pa, oa + k, none⟩ = some (.int .i64 (f k))) : ∀ j u, (svl f n)[j]? = some u → w.cell? ((⟨pa, oa, none⟩ : Addr).add j) = some u := by
  intro j u hu
  obtain ⟨hj, rfl⟩ := svl_get hu
  have hadd : (⟨pa, oa, none⟩ : Addr).add j = ⟨pa, oa + j, none⟩ := by unfold Addr.add; split <;> simp_all
  rw [hadd]
  exact h j hj
/-- a row of the call's own, as numbers in a block -/
theorem own_rk {w : World} {base n : Nat} {t : TypeId} {v : Value} {f : Nat → Int} (h : w.ownsRow base t 1 v n (svl f n)) (hn : 0 < n) : ∃ g c : Nat, v = .slice (some ⟨g, 0, none⟩) n c ∧ n ≤ c ∧ base ≤ g ∧ Rk w g 0 n f := by
  have hl := h.lt
  rcases h.2 with ⟨_, h0⟩ | ⟨g, cap, cur, rfl, hb, hg, hc, _⟩
  · omega
  · refine ⟨g, cap, rfl, hc, hb, ⟨fun k hk => ?_, fun k hk => ?_, (hl g rfl).2⟩⟩
    · rw [h.cellAt (0 + k) (by omega), Nat.zero_add]
      unfold svl
      rw [List.getElem?_map, List.getElem?_range hk]
      rfl
    · exact h.frozenAt (0 + k)
set_option maxRecDepth 100000 in
set_option maxHeartbeats 4000000 in
theorem concat_any (X cX n cP cQ pa oa qa oq : Nat) (f g : Nat → Int) (w : World) (h0 : 0 < n) (h40 : n ≤ 40) (hX0 : w.cell? ⟨X, 0, none⟩ = some (.slice (some ⟨pa, oa, none⟩) n cP)) (hX1 : w.cell? ⟨X, 1, none⟩ = some (.slice (some ⟨qa, oq, none⟩) 1 cQ))
    (hP : ∀ k, k < n → w.cell? ⟨pa, oa + k, none⟩ = some (.int .i64 (f k))) (hQ : ∀ k, k < 1 → w.cell? ⟨qa, oq + k, none⟩ = some (.int .i64 (g k))) :
    Calls Tryd.prog 53 #[.slice (some ⟨X, 0, none⟩) 2 cX] w fun e w' => ∃ v : Value, e = .returned v ∧ w'.ownsRow w.heap.size 51 1 v (n + 1) (svl f n ++ svl g 1) ∧ Below w.heap.size w w' := by
  have HP := hidden hP
  have HQ := hidden hQ
  have GR := hidden (grow_any (n + 1) w (by omega) (by omega))
  have w1 : IntKind.i64.wrap ((0 : Int) + (n : Int)) = (n : Int) := by rw [IntWalk.i64_in _ (by omega)]; omega
  have w2 : IntKind.i64.wrap ((n : Int) + 1) = (n : Int) + 1 := IntWalk.i64_in _ (by omega)
  have w3 : IntKind.i64.wrap (n : Int) = (n : Int) := IntWalk.i64_in _ (by omega)
  have n1 : ¬ ((n : Int) < 0) := by omega
  have n2 : ¬ ((n : Int) + 1 < 0) := by omega
  obtain ⟨i0, hi, hz0, hz1, hz2⟩ := info_parts seveninfo
  have HI := hidden hi
  have HZ0 := hidden hz0
  have HZ1 := hidden hz1
  have HZ2 := hidden hz2
  have HU : Hid (Tryd.prog.underlying 46 = some (.slice 51)) := hidden (by kernel_rfl)
  have XX0 := hidden hX0
  have XX1 := hidden hX1
  have M0 : Hid (0 + n ≤ maxLen) := hidden (by unfold maxLen; omega)
  have M1 : Hid (n + 1 ≤ maxLen) := hidden (by unfold maxLen; omega)
  have M2 : Hid ((0 + n) * 8 ≤ 140737488355328) := hidden (by omega)
  have M3 : Hid ((n + 1) * 8 ≤ 140737488355328) := hidden (by omega)
  clear hP hQ hi hz0 hz1 hz2 h40
  go_enter Tryd.func53, Tryd.ntmps53
  go_wp2_with fail
  go_loopw [3, 11] (fun zv kv w' => w' = w ∧ ((kv = .int .i64 0 ∧ zv = .int .i64 0) ∨ (kv = .int .i64 1 ∧ zv = .int .i64 (n : Int)) ∨ (kv = .int .i64 2 ∧ zv = .int .i64 ((n : Int) + 1)))) (fun _ k _ => 2 - (intOf k).toNat)
  case atStart => exact ⟨rfl, .inl ⟨rfl, rfl⟩⟩
  case round =>
    obtain ⟨rfl, ⟨rfl, rfl⟩ | ⟨rfl, rfl⟩ | ⟨rfl, rfl⟩⟩ := hrel
    · go_wp2_with fail
      go_roundw
      case rel => exact ⟨trivial, .inr (.inl ⟨by go_num, rfl⟩)⟩
      case measure => simp [intOf]
    · go_wp2_with fail
      go_roundw
      case rel => exact ⟨trivial, .inr (.inr ⟨by go_num, rfl⟩)⟩
      case measure => simp [intOf]
    · clear hX0 hX1
      go_wp2_with (first | (go_at_call 59; refine (GR.out).mono ?_; rintro e wa ⟨v0, rfl, ho, hb⟩; have HO := hidden ho; have HB := hidden hb; clear ho hb))
      go_loopw [6, 27] (fun vv kv w' => Hid (Below wr.heap.size wr w') ∧ ((kv = .int .i64 0 ∧ Hid (w'.ownsRow wr.heap.size 51 1 vv 0 [])) ∨ (kv = .int .i64 1 ∧ Hid (w'.ownsRow wr.heap.size 51 1 vv (0 + n) ([] ++ svl f n))) ∨ (kv = .int .i64 2 ∧ Hid (w'.ownsRow wr.heap.size 51 1 vv (n + 1) (svl f n ++ svl g 1))))) (fun _ k _ => 2 - (intOf k).toNat)
      case atStart => exact ⟨HB, .inl ⟨rfl, HO⟩⟩
      case round =>
        clear HO HB
        obtain ⟨hB, ⟨rfl, hO⟩ | ⟨rfl, hO⟩ | ⟨rfl, hO⟩⟩ := hrel
        · have c1 := cell_keep XX0.out hB.out
          have a2 := hidden (svl_at (fun k hk => cell_keep (HP.out k hk) hB.out))
          have hsz := hB.out.size
          go_wp2_with (first | (at_builtin; refine wpList_append_own_at _ rfl _ _ 46 rfl _ 51 i0 (.agg #[.int .i64 0]) 1 8 HU.out HI.out HZ0.out HZ1.out HZ2.out rfl (by decide) _ _ _ rfl hO.out ⟨pa, oa, none⟩ n cP (svl f n) rfl (svlLen _ _) a2.out svl_one M0.out M2.out hsz ?_; intro v' w3 hown hgr hnil hat; have HO := hidden hown; have HB := hidden (below_trans hB.out (below_grown hgr hsz (fun k hk => (hO.out.lt k hk).1))); clear hown hgr hnil hat))
          go_roundw
          case rel => exact ⟨HB, .inr (.inl ⟨by go_num, HO⟩)⟩
          case measure => simp [intOf]
        · have c1 := cell_keep XX1.out hB.out
          have a2 := hidden (svl_at (fun k hk => cell_keep (HQ.out k hk) hB.out))
          have hsz := hB.out.size
          rw [Nat.zero_add, List.nil_append] at hO
          go_wp2_with (first | (at_builtin; refine wpList_append_own_at _ rfl _ _ 46 rfl _ 51 i0 (.agg #[.int .i64 0]) 1 8 HU.out HI.out HZ0.out HZ1.out HZ2.out rfl (by decide) _ _ _ rfl hO.out ⟨qa, oq, none⟩ 1 cQ (svl g 1) rfl (svlLen _ _) a2.out svl_one M1.out M3.out hsz ?_; intro v' w3 hown hgr hnil hat; have HO := hidden hown; have HB := hidden (below_trans hB.out (below_grown hgr hsz (fun k hk => (hO.out.lt k hk).1))); clear hown hgr hnil hat))
          go_roundw
          case rel => exact ⟨HB, .inr (.inr ⟨by go_num, HO⟩)⟩
          case measure => simp [intOf]
        · go_wp2_with fail
          refine bodyPost_ret (v := u6) (by simp [results, Tryd.results53, go_sem]) rfl ⟨u6, rfl, hO.out, hB.out⟩
end Go.Proofs.YtnbcfchbhappeaaDoor.Al
