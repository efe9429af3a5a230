import Derived.Test.YtpldkolphmbahaaDoorKe
namespace Go.Proofs.YtpldkolphmbahaaDoor
open Go.RowKit
set_option linter.unusedVariables false
theorem sinfoC : (Tryd.prog.info? 52).map (·.size) = some 3 := by kernel_rfl
set_option maxRecDepth 100000 in
set_option maxHeartbeats 8000000 in
theorem requal_any (b f p q : E4) (w : World) :
    Calls Tryd.prog 12 #[.agg (s81 b f).toArray, .agg (el p).toArray, .agg (el q).toArray] w fun e w' => ∃ v, e = .returned v ∧ DC w' v 2 3 (r2 (e3 b f ⟨0, 0, 0, 0⟩) (e3 b ⟨0, 0, 0, 0⟩ f)) (e2 p q) ∧ Below w.heap.size w w' := by
  have M0 := hidden ((((((Mw.start w).new (s81 b f) 44).new (el p) 39).new (el q) 39).new [.int .i64 0, .slice none 0 0, .slice none 0 0] 52))
  simp only [World.size_alloc] at M0
  have c0 : ((((w.alloc (.cells (s81 b f).toArray 44)).alloc (.cells (el p).toArray 39)).alloc (.cells (el q).toArray 39)).alloc (.cells #[.int .i64 0, .slice none 0 0, .slice none 0 0] 52)).cell? ⟨w.heap.size, 0, none⟩ = some (.int .i64 2) := (M0.out.r (w.heap.size, s81 b f) (by simp)).1 0 _ (s81_0 b f)
  have UE : Hid (Tryd.prog.underlying 39 = _) := hidden Tryd.underlying39
  have IB := hidden (el_i b)
  have IF := hidden (el_i f)
  have IP := hidden (el_i p)
  have IQ := hidden (el_i q)
  have IZ := hidden (el_i ⟨0, 0, 0, 0⟩)
  have I2 := hidden (el_i2 ⟨0, 0, 0, 0⟩)
  have O2 := hidden (el_one ⟨0, 0, 0, 0⟩)
  have e0 := s81_0 b f
  have NC := hidden neutral_any
  obtain ⟨z26, hz26⟩ : ∃ z, z = ze := ⟨_, rfl⟩
  have zl : Hid (z26.length = 26) := hidden (by rw [hz26]; rfl)
  have UC : Hid (Tryd.prog.underlying 52 = _) := hidden Tryd.underlying52
  have S4 : Hid (((((w.alloc (.cells (s81 b f).toArray 44)).alloc (.cells (el p).toArray 39)).alloc (.cells (el q).toArray 39)).alloc (.cells #[.int .i64 0, .slice none 0 0, .slice none 0 0] 52)).heap.size = w.heap.size + 1 + 1 + 1 + 1) := hidden (by simp)
  clear c0
  go_enter Tryd.func12, Tryd.ntmps12
  go_upto_region 2 with (first | (go_at_call 15; refine (NC.out _).mono ?_; rintro e wa ⟨rfl, ha⟩; have M1 := hidden (M0.out.keep ha); have M2 := hidden (M1.out.new ze 39); have LA := hidden (Nat.le_trans (Nat.le_of_eq S4.out.symm) ha.size); have TH := hidden (M2.out.ther (el ⟨0, 0, 0, 0⟩) (c := wa.heap.size) (o := ze) (by simp) rfl); have M3 := hidden (M2.out.set (M := [(w.heap.size + 1 + 1 + 1, [.int .i64 0, .slice none 0 0, .slice none 0 0]), (w.heap.size + 1 + 1, el q), (w.heap.size + 1, el p), (w.heap.size, s81 b f)]) (el ⟨0, 0, 0, 0⟩) (c := wa.heap.size) (o := ze) (by simp) rfl (fun p hp => ⟨List.mem_cons_of_mem _ hp, Nat.ne_of_gt (M1.out.r p hp).2.2.2⟩)); unfold ze at TH M3; clear ha NC M0 M1 M2 e0) | refine wpList_store_mid rfl 39 _ _ rfl wa.heap.size 0 (el ⟨0, 0, 0, 0⟩).toArray (by rfl) (by rfl) TH.out I2.out O2.out ?_)
  have LA' := hidden (show w.heap.size + 4 ≤ wa.heap.size from LA.out)
  generalize hW : (wa.alloc (.cells #[.int .i64 0, .int .i64 0, .int .i64 0, .int .i64 0, .int .i64 0, .int .i64 0, .int .i64 0, .int .i64 0, .int .i64 0, .int .i64 0, .int .i64 0, .int .i64 0, .int .i64 0, .int .i64 0, .int .i64 0, .int .i64 0, .int .i64 0, .int .i64 0, .int .i64 0, .int .i64 0, .int .i64 0, .int .u64 0, .int .u64 0, .int .u64 0, .int .u64 0, .slice none 0 0] 39)).setCells wa.heap.size 0 (el ⟨0, 0, 0, 0⟩) = W at M3 ⊢
  clear hW TH LA
  generalize wa.heap.size = N at M3 LA' ⊢
  have c0 : W.cell? ⟨w.heap.size, 0, none⟩ = some (.int .i64 2) := (M3.out.r (w.heap.size, s81 b f) (by simp)).1 0 _ (s81_0 b f)
  have WL := hidden (show w.heap.size + 3 < W.heap.size from (M3.out.r (w.heap.size + 1 + 1 + 1, [.int .i64 0, .slice none 0 0, .slice none 0 0]) (by simp)).2.2.2)
  have WN := hidden (show N < W.heap.size from (M3.out.r (N, el ⟨0, 0, 0, 0⟩) (by simp)).2.2.2)
  have RB : Hid (∀ x, Below W.heap.size W x → x.rangeAt (w.heap.size) 1 (el b)) := hidden (fun x h => s81_b (range_keepM (M3.out.r (w.heap.size, s81 b f) (by simp)).1 h))
  have RF : Hid (∀ x, Below W.heap.size W x → x.rangeAt (w.heap.size) 27 (el f)) := hidden (fun x h => s81_f (range_keepM (M3.out.r (w.heap.size, s81 b f) (by simp)).1 h))
  have RZ : Hid (∀ x, Below W.heap.size W x → x.rangeAt N 0 (el ⟨0, 0, 0, 0⟩)) := hidden (fun x h => range_keepM (M3.out.r (N, el ⟨0, 0, 0, 0⟩) (by simp)).1 h)
  have RP : Hid (∀ x, Below W.heap.size W x → x.rangeAt (w.heap.size + 1) 0 (el p)) := hidden (fun x h => range_keepM (M3.out.r (w.heap.size + 1, el p) (by simp)).1 h)
  have RQ : Hid (∀ x, Below W.heap.size W x → x.rangeAt (w.heap.size + 1 + 1) 0 (el q)) := hidden (fun x h => range_keepM (M3.out.r (w.heap.size + 1 + 1, el q) (by simp)).1 h)
  have M7 := hidden (((((M3.out.new (el b ++ el f ++ el ⟨0, 0, 0, 0⟩) 39).new (el b ++ el ⟨0, 0, 0, 0⟩ ++ el f) 39).new [.slice (some ⟨W.heap.size, 0, none⟩) 3 3, .slice (some ⟨W.heap.size + 1, 0, none⟩) 3 3] 42).new (el p ++ el q) 39))
  simp only [World.size_alloc] at M7
  have TH := hidden (M7.out.ther [.int .i64 2, .slice (some ⟨W.heap.size + 1 + 1, 0, none⟩) 2 2, .slice (some ⟨W.heap.size + 1 + 1 + 1, 0, none⟩) 2 2] (c := w.heap.size + 1 + 1 + 1) (o := [.int .i64 0, .slice none 0 0, .slice none 0 0]) (by simp) rfl)
  have M8 := hidden (M7.out.set (M := [(W.heap.size + 1 + 1 + 1, el p ++ el q), (W.heap.size + 1 + 1, [.slice (some ⟨W.heap.size, 0, none⟩) 3 3, .slice (some ⟨W.heap.size + 1, 0, none⟩) 3 3]), (W.heap.size + 1, el b ++ el ⟨0, 0, 0, 0⟩ ++ el f), (W.heap.size, el b ++ el f ++ el ⟨0, 0, 0, 0⟩)]) [.int .i64 2, .slice (some ⟨W.heap.size + 1 + 1, 0, none⟩) 2 2, .slice (some ⟨W.heap.size + 1 + 1 + 1, 0, none⟩) 2 2] (c := w.heap.size + 1 + 1 + 1) (o := [.int .i64 0, .slice none 0 0, .slice none 0 0]) (by simp) rfl (fun x hx => by
    have := WL.out
    simp only [List.mem_cons, List.not_mem_nil, or_false] at hx
    rcases hx with rfl | rfl | rfl | rfl <;> exact ⟨by simp, by simp only; omega⟩))
  have LD := hidden (M8.out.var (c := w.heap.size + 1 + 1 + 1) (ds := [.int .i64 2, .slice (some ⟨W.heap.size + 1 + 1, 0, none⟩) 2 2, .slice (some ⟨W.heap.size + 1 + 1 + 1, 0, none⟩) 2 2]) (by simp) UC.out rfl sinfoC)
  have OC : Hid (([.int .i64 2, .slice (some ⟨W.heap.size + 1 + 1, 0, none⟩) 2 2, .slice (some ⟨W.heap.size + 1 + 1 + 1, 0, none⟩) 2 2] : List Value).toArray.all (·.oneCell') = true) := hidden (by simp [Value.oneCell'])
  have IC : Hid ((Tryd.prog.info? 52).map (·.size) = some ([.int .i64 2, .slice (some ⟨W.heap.size + 1 + 1, 0, none⟩) 2 2, .slice (some ⟨W.heap.size + 1 + 1 + 1, 0, none⟩) 2 2] : List Value).toArray.size) := hidden sinfoC
  clear M3 M7
  go_wp2_with (first | refine wpList_load_mid rfl 39 _ rfl (w.heap.size) 1 (by rfl) (el b) _ (RB.out _ (by repeat (first | exact Below.refl _ _ | refine bl_trans ?_ (bl_alloc _ _)))) UE.out rfl IB.out ?_ | refine wpList_load_mid rfl 39 _ rfl (w.heap.size) 27 (by rfl) (el f) _ (RF.out _ (by repeat (first | exact Below.refl _ _ | refine bl_trans ?_ (bl_alloc _ _)))) UE.out rfl IF.out ?_ | refine wpList_load_mid rfl 39 _ rfl N 0 (by rfl) (el ⟨0, 0, 0, 0⟩) _ (RZ.out _ (by repeat (first | exact Below.refl _ _ | refine bl_trans ?_ (bl_alloc _ _)))) UE.out rfl IZ.out ?_ | refine wpList_load_mid rfl 39 _ rfl (w.heap.size + 1) 0 (by rfl) (el p) _ (RP.out _ (by repeat (first | exact Below.refl _ _ | refine bl_trans ?_ (bl_alloc _ _)))) UE.out rfl IP.out ?_ | refine wpList_load_mid rfl 39 _ rfl (w.heap.size + 1 + 1) 0 (by rfl) (el q) _ (RQ.out _ (by repeat (first | exact Below.refl _ _ | refine bl_trans ?_ (bl_alloc _ _)))) UE.out rfl IQ.out ?_ | refine wpList_buildEl3 rfl _ _ _ rfl b f ⟨0, 0, 0, 0⟩ rfl rfl rfl ?_ | refine wpList_buildEl3 rfl _ _ _ rfl b ⟨0, 0, 0, 0⟩ f rfl rfl rfl ?_ | refine wpList_buildEl2 rfl _ _ rfl p q rfl rfl ?_ | refine wpList_store_mid rfl 52 _ _ rfl (w.heap.size + 1 + 1 + 1) 0 ([.int .i64 2, .slice (some ⟨W.heap.size + 1 + 1, 0, none⟩) 2 2, .slice (some ⟨W.heap.size + 1 + 1 + 1, 0, none⟩) 2 2] : List Value).toArray (by rfl) (by rfl) TH.out IC.out OC.out ?_)
  have M := M8.out
  refine bodyPost_ret (v := .agg ([.int .i64 2, .slice (some ⟨W.heap.size + 1 + 1, 0, none⟩) 2 2, .slice (some ⟨W.heap.size + 1 + 1 + 1, 0, none⟩) 2 2] : List Value).toArray) (results_cellM Tryd.results12 _ _ _ _ _ (by rfl) LD.out) rfl ⟨_, rfl, ⟨_, W.heap.size + 1 + 1, W.heap.size + 1 + 1 + 1, fun k => if k = 0 then W.heap.size else W.heap.size + 1, rfl, fun k hk => (by
      have h7 := (M.r (W.heap.size + 1 + 1, [.slice (some ⟨W.heap.size, 0, none⟩) 3 3, .slice (some ⟨W.heap.size + 1, 0, none⟩) 3 3]) (by simp)).1
      obtain rfl | rfl : k = 0 ∨ k = 1 := (by omega)
      · exact h7 0 _ rfl
      · exact h7 1 _ rfl), fun k hk => (by
      obtain rfl | rfl : k = 0 ∨ k = 1 := (by omega)
      · exact rk_3 (M.r (W.heap.size, el b ++ el f ++ el ⟨0, 0, 0, 0⟩) (by simp)).1
      · exact rk_3 (M.r (W.heap.size + 1, el b ++ el ⟨0, 0, 0, 0⟩ ++ el f) (by simp)).1), rk_2 (M.r (W.heap.size + 1 + 1 + 1, el p ++ el q) (by simp)).1⟩, M.bel⟩
end Go.Proofs.YtpldkolphmbahaaDoor
