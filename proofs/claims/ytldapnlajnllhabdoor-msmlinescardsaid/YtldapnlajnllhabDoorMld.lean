import Derived.Test.YtldapnlajnllhabDoorMlf
namespace Go.Proofs.YtldapnlajnllhabDoor
open Go.RowKit
set_option maxRecDepth 100000 in
set_option maxHeartbeats 4000000 in
theorem eNeg_any (n : Int) (w : World) :
    Calls Tryd.prog 9 #[.agg (el (lst n)).toArray] w fun e w' => e = .returned (.agg (el (lst (-n))).toArray) ∧ Below w.heap.size w w' := by
  have RI := hidden (fun w => rInt_any 1 w)
  have RN := hidden (fun w => rNeg_any 1 w)
  have RT := hidden (fun w => eTimes_any n (-1) w)
  rw [show n * -1 = -n by omega] at RT
  rw [lst1] at RN
  have IX := hidden (el_i (lst n))
  generalize lst (-n) = z at *
  generalize lst (-1) = m at *
  generalize el (lst n) = lx at *
  unfold k1 at RN
  simp only [E4.v] at RI RN RT
  have M0 := ((Mw.start w).new lx 38).new [.int .i64 0, .int .i64 0, .int .i64 0, .int .i64 0, .int .i64 0, .int .i64 0, .int .i64 0, .int .i64 0, .int .i64 0, .int .i64 0, .int .i64 0, .int .i64 0, .int .i64 0, .int .i64 0, .int .i64 0, .int .i64 0, .int .i64 0, .int .i64 0, .int .i64 0, .int .i64 0, .int .i64 0, .int .u64 0, .int .u64 0, .int .u64 0, .int .u64 0, .slice none 0 0] 38
  simp only [World.size_alloc] at M0
  have I1 := hidden (el_i z)
  have O2 := hidden (el_one z)
  have M2 := hidden (M0.keep ((Below.refl _ _).drew))
  clear M0
  go_enter Tryd.func9, Tryd.ntmps9
  go_upto_region 1 with fail
  refine wp_region_noPanic ?_
  refine wp_region_held_drew (S := fun w' => Mw w [(w.heap.size, lx)] w' ∧ w'.there (w.heap.size + 1) 0 26) (by kernel_rfl) ⟨M2.out.sub (by simp), (M2.out.r (w.heap.size + 1, [.int .i64 0, .int .i64 0, .int .i64 0, .int .i64 0, .int .i64 0, .int .i64 0, .int .i64 0, .int .i64 0, .int .i64 0, .int .i64 0, .int .i64 0, .int .i64 0, .int .i64 0, .int .i64 0, .int .i64 0, .int .i64 0, .int .i64 0, .int .i64 0, .int .i64 0, .int .i64 0, .int .i64 0, .int .u64 0, .int .u64 0, .int .u64 0, .int .u64 0, .slice none 0 0]) (by simp)).2.1⟩ (fun hHeld => ?_)
  refine wpAnyH_take (i := 0) (oi := _) (v := _) rfl (by kernel_rfl) (by kernel_rfl) (by kernel_rfl) (fun _ _ _ h => h) (yieldsIf_load_mid (by rfl) _ _ rfl _ _ rfl _ _ (fun _ h => (h.1.r (w.heap.size, lx) (by simp)).1) Tryd.underlying38 rfl IX.out) hHeld ?_
  clear M2

  refine wpAnyH_ready (rs := [1]) (by kernel_rfl) (by simp) ?_
  refine AllReadyH.cons (o := _) rfl (fun K hK => ?_) AllReadyH.nil
  go_simp
  refine (RI.out _).mono ?_
  rintro e u1 ⟨rfl, hb⟩
  have hk := hidden (⟨hHeld.1.keep hb, there_keepM hHeld.2 hb⟩ : Mw w [(w.heap.size, lx)] _ ∧ World.there _ (w.heap.size + 1) 0 26)
  go_wp2_with fail
  refine hK.out _ _ hk.out (fun hHeld2 => ?_)
  clear hK K hHeld hb hk
  have hHeld := hHeld2
  clear hHeld2
  refine wpAnyH_ready (rs := [2]) (by kernel_rfl) (by simp) ?_
  refine AllReadyH.cons (o := _) rfl (fun K hK => ?_) AllReadyH.nil
  go_simp
  refine (RN.out _).mono ?_
  rintro e u2 ⟨rfl, hb⟩
  have hk := hidden (⟨hHeld.1.keep hb, there_keepM hHeld.2 hb⟩ : Mw w [(w.heap.size, lx)] _ ∧ World.there _ (w.heap.size + 1) 0 26)
  go_wp2_with fail
  refine hK.out _ _ hk.out (fun hHeld2 => ?_)
  clear hK K hHeld hb hk
  have hHeld := hHeld2
  clear hHeld2
  refine wpAnyH_ready (rs := [3]) (by kernel_rfl) (by simp) ?_
  refine AllReadyH.cons (o := _) rfl (fun K hK => ?_) AllReadyH.nil
  go_simp
  refine (RT.out _).mono ?_
  rintro e u3 ⟨rfl, hb⟩
  have hk := hidden (⟨hHeld.1.keep hb, there_keepM hHeld.2 hb⟩ : Mw w [(w.heap.size, lx)] _ ∧ World.there _ (w.heap.size + 1) 0 26)
  go_wp2_with fail
  refine hK.out _ _ hk.out (fun hHeld2 => ?_)
  clear hK K hHeld hb hk
  have hHeld := hHeld2
  clear hHeld2
  refine wpAnyH_ready (rs := [4]) (by kernel_rfl) (by simp) ?_
  refine AllReadyH.cons (o := _) rfl (fun K hK => ?_) AllReadyH.nil
  rw [if_pos (by rfl)]
  refine wp_store_mid _ _ _ rfl _ _ (el z).toArray rfl rfl hHeld.2 I1.out O2.out ?_
  have RG := hidden (World.rangeAt_setCells_same u3 (w.heap.size + 1) 0 (el z) hHeld.2)
  have LD := hidden (run_loadVar_mid (P := Tryd.prog) (u3.setCells (w.heap.size + 1) 0 (el z)) (w.heap.size + 1) 0 38 (el z) _ RG.out Tryd.underlying38 rfl I1.out)
  have BL := hidden (below_setCellsM (w.heap.size + 1) (el z) 0 hHeld.1.bel (by omega))
  have hS : Hid (Mw w [(w.heap.size, lx)] (u3.setCells (w.heap.size + 1) 0 (el z)) ∧ World.there (u3.setCells (w.heap.size + 1) 0 (el z)) (w.heap.size + 1) 0 26) := hidden ⟨⟨BL.out, fun p hp => by
    obtain rfl := List.mem_singleton.1 hp
    have q := hHeld.1.r (w.heap.size, lx) (by simp)
    exact ⟨World.rangeAt_setCells_apart q.1 _ _ _ (Or.inl (by simp only; omega)), there_setM q.2.1 _ _, q.2.2.1, by rw [size_setCellsM]; exact q.2.2.2⟩⟩, there_setM hHeld.2 _ _⟩
  refine hK.out _ _ hS.out (fun hHeld2 => ?_)
  clear hK K hHeld hHeld2 RG hS RI RN RT
  refine wpAnyH_done (by kernel_rfl) ?_ _
  refine NoPanic.normal ?_
  go_wp2_with fail
  refine bodyPost_ret (v := .agg (el z).toArray) (results_cellM Tryd.results9 _ _ _ _ _ (by rfl) LD.out) rfl ⟨rfl, BL.out⟩
end Go.Proofs.YtldapnlajnllhabDoor
