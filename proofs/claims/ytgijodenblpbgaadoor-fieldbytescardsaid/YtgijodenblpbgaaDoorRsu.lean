import Derived.Test.YtgijodenblpbgaaDoorRad
namespace Go.Proofs.YtgijodenblpbgaaDoor
open Go.RowKit
theorem there_keepF {w w' : World} {b n : Nat} (h : w.there b 0 n) (hb : Below w.heap.size w w') : w'.there b 0 n := fun j hj => by
  obtain ⟨h1, h2⟩ := h j hj
  obtain ⟨u, hu⟩ := Option.isSome_iff_exists.1 h1
  have hl := World.block_lt_of_cell? w _ hu
  exact ⟨by rw [hb.cell (p := ⟨b, 0 + j, none⟩) hl]; exact h1, by rw [hb.frozen (p := ⟨b, 0 + j, none⟩) hl]; exact h2⟩
/-- what lies where in Sub -/
structure SW (w0 : World) (cx cy : List Value) (w : World) : Prop where
  a : w.rangeAt w0.heap.size 0 cx
  b : w.rangeAt (w0.heap.size + 1) 0 cy
  t : w.there (w0.heap.size + 1 + 1) 0 10
  p : Pm w
  z : Zr w
  bel : Below w0.heap.size w0 w
theorem SW.keep {w0 : World} {cx cy : List Value} {w w' : World} (h : SW w0 cx cy w) (hb : Below w.heap.size w w') : SW w0 cx cy w' := ⟨range_keep h.a hb, range_keep h.b hb, there_keepF h.t hb, h.p.keep hb, h.z.keep hb, bl_trans h.bel hb⟩
theorem Pm.set {w : World} (h : Pm w) (b : Nat) (hb : 1 < b) (vs : List Value) : Pm (w.setCells b 0 vs) := ⟨World.rangeAt_setCells_apart h.r b 0 vs (Or.inl (by omega))⟩
theorem Zr.set {w : World} (h : Zr w) (b : Nat) (hb : 1 < b) (vs : List Value) : Zr (w.setCells b 0 vs) := ⟨World.rangeAt_setCells_apart h.r b 0 vs (Or.inl (by omega))⟩
theorem there_set {w : World} {b n : Nat} (h : w.there b 0 n) (c : Nat) (vs : List Value) : (w.setCells c 0 vs).there b 0 n := fun j hj =>
  ⟨World.isSome_setCells c vs 0 w _ (h j hj).1, by rw [World.frozen?_setCells]; exact (h j hj).2⟩
theorem SW.set {w0 : World} {cx cy : List Value} {w : World} (h : SW w0 cx cy w) (ds : List Value) : SW w0 cx cy (w.setCells (w0.heap.size + 1 + 1) 0 ds) :=
  ⟨World.rangeAt_setCells_apart h.a _ _ _ (Or.inl (by omega)), World.rangeAt_setCells_apart h.b _ _ _ (Or.inl (by omega)), there_set h.t _ _, h.p.set _ (by omega) _, h.z.set _ (by omega) _, below_setCellsR _ ds 0 h.bel (by omega)⟩
set_option maxRecDepth 100000 in
set_option maxHeartbeats 16000000 in
theorem rSub_any (X Y : Int) (w : World) (x0 : 0 ≤ X) (x1 : X < pF) (y0 : 0 ≤ Y) (y1 : Y < pF) (hP : Pm w) (hZ : Zr w) :
    Calls Tryd.prog 19 #[fv (digs X), fv (digs Y)] w fun e w' => e = .returned (fv (digs ((X - Y) % pF))) ∧ Below w.heap.size w w' := by
  have pp : 0 < pF := by decide
  have NG := hidden (fun w P Z => rNeg_any Y w y0 y1 P Z)
  have AD := hidden (fun w P => rAdd_any X ((-Y) % pF) w x0 x1 (Int.emod_nonneg _ (by omega)) (Int.emod_lt_of_pos _ pp) P)
  rw [show (X + (-Y) % pF) % pF = (X - Y) % pF by rw [Int.add_emod_emod, Int.sub_eq_add_neg]] at AD
  have h1 := digs_row w X 29
  have h2 := digs_row (w.alloc (.cells ((digs X).map fun z => Value.int .i64 z).toArray 29)) Y 29
  have h3 := Ri.zero10 ((w.alloc (.cells ((digs X).map fun z => Value.int .i64 z).toArray 29)).alloc (.cells ((digs Y).map fun z => Value.int .i64 z).toArray 29)) 29
  simp only [World.size_alloc] at h2 h3
  have bl := bl_alloc3 w (.cells ((digs X).map fun z => Value.int .i64 z).toArray 29) (.cells ((digs Y).map fun z => Value.int .i64 z).toArray 29) (.cells #[.int .i64 0, .int .i64 0, .int .i64 0, .int .i64 0, .int .i64 0, .int .i64 0, .int .i64 0, .int .i64 0, .int .i64 0, .int .i64 0] 29)
  have r1 := ((h1.keep (bl_alloc _ (.cells ((digs Y).map fun z => Value.int .i64 z).toArray 29))).keep (bl_alloc _ (.cells #[.int .i64 0, .int .i64 0, .int .i64 0, .int .i64 0, .int .i64 0, .int .i64 0, .int .i64 0, .int .i64 0, .int .i64 0, .int .i64 0] 29))).range
  have r2 := (h2.keep (bl_alloc _ (.cells #[.int .i64 0, .int .i64 0, .int .i64 0, .int .i64 0, .int .i64 0, .int .i64 0, .int .i64 0, .int .i64 0, .int .i64 0, .int .i64 0] 29))).range
  rw [vs_digs] at r1 r2
  have S0 := hidden (⟨r1, r2, h3.there, hP.keep bl, hZ.keep bl, bl⟩ : SW w ((digs X).map fun z => Value.int .i64 z) ((digs Y).map fun z => Value.int .i64 z) _)
  unfold fv at NG AD ⊢
  have hu := (f10 X).u
  have hiX := (f10 X).i
  have hiY := (f10 Y).i
  have hiD := (f10 ((X - Y) % pF)).i
  have hi2 := hidden (f10 ((X - Y) % pF)).i2
  have HOD := hidden (f10 ((X - Y) % pF)).o
  have hlD := (f10 ((X - Y) % pF)).l
  have hoD : ∀ v ∈ ((digs ((X - Y) % pF)).map fun z => Value.int .i64 z), v.oneCell' = true := fun v hv => by
    obtain ⟨z, _, rfl⟩ := List.mem_map.1 hv
    rfl
  clear h1 h2 h3 bl r1 r2 hP hZ x0 x1 y0 y1 pp
  generalize ((digs X).map fun z => Value.int .i64 z) = cx at *
  generalize ((digs Y).map fun z => Value.int .i64 z) = cy at *
  generalize ((digs ((X - Y) % pF)).map fun z => Value.int .i64 z) = ds at *
  generalize ((digs ((-Y) % pF)).map fun z => Value.int .i64 z) = cn at *
  go_enter Tryd.func19, Tryd.ntmps19
  go_upto_region 1 with fail
  generalize (((w.alloc (.cells cx.toArray 29)).alloc (.cells cy.toArray 29)).alloc (.cells #[.int .i64 0, .int .i64 0, .int .i64 0, .int .i64 0, .int .i64 0, .int .i64 0, .int .i64 0, .int .i64 0, .int .i64 0, .int .i64 0] 29)) = wB at S0 ⊢
  have KS : Hid (∀ w', SW w cx cy w' → (fun w' => SW w cx cy w' ∧ w'.rangeAt w.heap.size 0 cx ∧ w'.rangeAt (w.heap.size + 1) 0 cy ∧ w'.there (w.heap.size + 1 + 1) 0 10) w') := hidden (fun w' h => ⟨h, h.a, h.b, h.t⟩)
  have K0 := hidden (KS.out _ (S0.out.keep (drew_bl wB)))
  refine wp_region_held_drew (S := fun w' => SW w cx cy w' ∧ w'.rangeAt w.heap.size 0 cx ∧ w'.rangeAt (w.heap.size + 1) 0 cy ∧ w'.there (w.heap.size + 1 + 1) 0 10) (by kernel_rfl) K0.out (fun hHeld => ?_)
  refine wpAnyH_take (i := 0) (oi := _) (v := _) rfl (by kernel_rfl) (by kernel_rfl) (by kernel_rfl) (fun _ _ _ h => h) (yieldsIf_load_mid (by rfl) _ _ rfl _ _ rfl _ _ (fun _ h => h.2.1) hu rfl hiX) hHeld ?_
  refine wpAnyH_take (i := 1) (oi := _) (v := _) rfl (by kernel_rfl) (by kernel_rfl) (by kernel_rfl) (fun _ _ _ h => h) (yieldsIf_load_mid (by rfl) _ _ rfl _ _ rfl _ _ (fun _ h => h.2.2.1) hu rfl hiY) hHeld ?_
  refine wpAnyH_ready (rs := [2]) (by kernel_rfl) (by simp) ?_
  refine AllReadyH.cons (o := _) rfl (fun K hK => ?_) AllReadyH.nil
  go_simp
  refine (NG.out _ hHeld.1.p hHeld.1.z).mono ?_
  rintro e wn ⟨rfl, hb⟩
  have hk := hidden (KS.out _ (hHeld.1.keep hb))
  go_wp2_with fail
  refine hK.out _ _ hk.out (fun hHeld2 => ?_)
  clear hK K hHeld hb
  have hHeld := hHeld2
  clear hHeld2
  refine wpAnyH_ready (rs := [3]) (by kernel_rfl) (by simp) ?_
  refine AllReadyH.cons (o := _) rfl (fun K hK => ?_) AllReadyH.nil
  go_simp
  refine (AD.out _ hHeld.1.p).mono ?_
  rintro e wm ⟨rfl, hb⟩
  have hm := hidden (KS.out _ (hHeld.1.keep hb))
  go_wp2_with fail
  refine hK.out _ _ hm.out (fun hHeld2 => ?_)
  clear hK K hHeld hb hk
  have hHeld := hHeld2
  clear hHeld2
  have TH : wm.there (w.heap.size + 1 + 1) 0 ds.toArray.size := by have := hHeld.1.t; simpa [hlD] using this
  have RDH := hidden (run_loadVar_mid (P := Tryd.prog) (wm.setCells (w.heap.size + 1 + 1) 0 ds) (w.heap.size + 1 + 1) 0 29 ds _ (World.rangeAt_setCells_same wm (w.heap.size + 1 + 1) 0 ds (by simpa using TH)) hu rfl hiD)
  have BL4 := hidden (below_setCellsR (w.heap.size + 1 + 1) ds 0 hHeld.1.bel (by omega))
  refine wpAnyH_ready (rs := [4]) (by kernel_rfl) (by simp) ?_
  refine AllReadyH.cons (o := _) rfl (fun K hK => ?_) AllReadyH.nil
  rw [if_pos (by rfl)]
  refine wp_store_mid _ _ _ rfl _ _ (List.toArray ds) rfl rfl TH hi2.out HOD.out ?_
  refine hK.out _ _ (KS.out _ (hHeld.1.set ds)) (fun hHeld2 => ?_)
  refine wpAnyH_done (by kernel_rfl) ?_ _
  clear hK K hHeld hHeld2 hm TH KS K0 S0
  go_wp2_with fail
  have RD := RDH.out
  refine bodyPost_ret (v := .agg ds.toArray) (results_cellR Tryd.results19 _ _ _ _ _ (by rfl) RD) rfl ⟨rfl, BL4.out⟩
theorem eq5u (a b : E5) (w : World) : (Op.equalIn 10000 23 a.v b.v).run Tryd.prog w = .ok (a.same b) w := by
  have hi : Tryd.prog.info? 22 = some (Tryd.prog.info? 22).get! := by kernel_rfl
  have hc : Tryd.prog.cellsOf 22 = 1 := by kernel_rfl
  unfold E5.v
  rw [run_equalIn_array w 9999 _ _ (by kernel_rfl : Tryd.prog.underlying 23 = some (.array 5 22)) hi, hc]
  rw [eqItems_ints w (k := .u64) 9998 (by kernel_rfl) (by kernel_rfl) _ _ (fun i => [a.x0, a.x1, a.x2, a.x3, a.x4].getD i 0) (fun i => [b.x0, b.x1, b.x2, b.x3, b.x4].getD i 0)]
  · rw [show List.range 5 = [0, 1, 2, 3, 4] from rfl]
    simp only [List.all_cons, List.all_nil, Bool.and_true]
    rfl
  · intro i hi
    have : i < 5 := List.mem_range.1 hi
    match i, this with
    | 0, _ => exact ⟨rfl, rfl⟩
    | 1, _ => exact ⟨rfl, rfl⟩
    | 2, _ => exact ⟨rfl, rfl⟩
    | 3, _ => exact ⟨rfl, rfl⟩
    | 4, _ => exact ⟨rfl, rfl⟩
/-- what lies where in is -/
structure IW (w0 : World) (a : E5) (cx : List Value) (w : World) : Prop where
  a : Ru w w0.heap.size 5 (lmf a)
  b : w.rangeAt (w0.heap.size + 1) 0 cx
  bel : Below w0.heap.size w0 w
theorem IW.keep {w0 : World} {a : E5} {cx : List Value} {w w' : World} (h : IW w0 a cx w) (hb : Below w.heap.size w w') : IW w0 a cx w' := ⟨h.a.keep hb, range_keep h.b hb, bl_trans h.bel hb⟩
/-- the least limbs, of the number itself -/
theorem lst_lims {N : Int} (n0 : 0 ≤ N) (n1 : N < pF) : lst N = ⟨Fm.lim 0 N, Fm.lim 1 N, Fm.lim 2 N, Fm.lim 3 N, Fm.lim 4 N⟩ := by
  unfold lst
  rw [Int.emod_eq_of_lt n0 (show N < Fm.P from n1)]
set_option maxRecDepth 100000 in
set_option maxHeartbeats 16000000 in
theorem is_any (N : Int) (w : World) (n0 : 0 ≤ N) (n1 : N < pF) :
    Calls Tryd.prog 13 #[(lst N).v, fv (digs N)] w fun e w' => e = .returned (.bool true) ∧ Below w.heap.size w w' := by
  have LI := hidden (fun w => rLimbs_any N w n0)
  rw [← lst_lims n0 n1] at LI
  obtain ⟨a, ha⟩ : ∃ a, lst N = a := ⟨_, rfl⟩
  rw [ha] at LI ⊢
  have EQ : ∀ w, (Op.equalIn 10000 23 a.v a.v).run Tryd.prog w = .ok true w := fun w => by rw [eq5u, E5.same_self]
  have h1 := Ru.new5 w a 24
  have h2 := digs_row (w.alloc (.cells #[.int .u64 a.x0, .int .u64 a.x1, .int .u64 a.x2, .int .u64 a.x3, .int .u64 a.x4] 24)) N 29
  simp only [World.size_alloc] at h2
  have r2 := h2.range
  rw [vs_digs] at r2
  have S0 := hidden (⟨h1.keep (bl_alloc _ _), r2, bl_alloc2 _ _ _⟩ : IW w a ((digs N).map fun z => Value.int .i64 z) _)
  have hu := (f10 N).u
  have hiX := (f10 N).i
  unfold fv at LI ⊢
  clear h1 h2 r2 n0 n1 ha
  generalize ((digs N).map fun z => Value.int .i64 z) = cx at *
  simp only [E5.v] at LI EQ ⊢
  go_enter Tryd.func13, Tryd.ntmps13
  go_upto_region 1 with fail
  generalize ((w.alloc (.cells #[.int .u64 a.x0, .int .u64 a.x1, .int .u64 a.x2, .int .u64 a.x3, .int .u64 a.x4] 24)).alloc (.cells cx.toArray 29)) = wB at S0 ⊢
  have KS : Hid (∀ w', IW w a cx w' → (fun w' => IW w a cx w' ∧ w'.rangeAt (w.heap.size + 1) 0 cx ∧ w'.cell? ⟨w.heap.size, 0, none⟩ = some (.int .u64 a.x0) ∧ w'.cell? ⟨w.heap.size, 1, none⟩ = some (.int .u64 a.x1) ∧ w'.cell? ⟨w.heap.size, 2, none⟩ = some (.int .u64 a.x2) ∧ w'.cell? ⟨w.heap.size, 3, none⟩ = some (.int .u64 a.x3) ∧ w'.cell? ⟨w.heap.size, 4, none⟩ = some (.int .u64 a.x4)) w') := hidden (fun w' h => ⟨h, h.b, h.a.c 0 (by omega), h.a.c 1 (by omega), h.a.c 2 (by omega), h.a.c 3 (by omega), h.a.c 4 (by omega)⟩)
  have K0 := hidden (KS.out _ (S0.out.keep (drew_bl wB)))
  go_region_held3 (fun w' => IW w a cx w' ∧ w'.rangeAt (w.heap.size + 1) 0 cx ∧ w'.cell? ⟨w.heap.size, 0, none⟩ = some (.int .u64 a.x0) ∧ w'.cell? ⟨w.heap.size, 1, none⟩ = some (.int .u64 a.x1) ∧ w'.cell? ⟨w.heap.size, 2, none⟩ = some (.int .u64 a.x2) ∧ w'.cell? ⟨w.heap.size, 3, none⟩ = some (.int .u64 a.x3) ∧ w'.cell? ⟨w.heap.size, 4, none⟩ = some (.int .u64 a.x4)) (first | with_reducible exact K0.out | with_reducible exact hk.out)
    (first | (go_at_call 39; with_reducible refine (LI.out _).mono ?_; rintro e wn ⟨rfl, hb⟩; have hk := hidden (KS.out _ ((show IW w a cx _ from And.left (by assumption)).keep hb))))
  go_wp2_with fail
  go_ret
  exact ⟨rfl, hk.out.1.bel⟩
set_option maxRecDepth 100000 in
set_option maxHeartbeats 16000000 in
theorem of_any (a : E5) (w : World) (ha : a.ok) (hP : Pm w) :
    Calls Tryd.prog 9 #[a.v] w fun e w' => e = .returned (fv (digs (a.n % pF))) ∧ Below w.heap.size w w' := by
  have OF := hidden (fun w P => rOf_any a w ha P)
  have h1 := Ru.new5 w a 24
  have h2 := Ri.zero10 (w.alloc (.cells #[.int .u64 a.x0, .int .u64 a.x1, .int .u64 a.x2, .int .u64 a.x3, .int .u64 a.x4] 24)) 29
  simp only [World.size_alloc] at h2
  have H1 := h1.keep (bl_alloc _ (.cells #[.int .i64 0, .int .i64 0, .int .i64 0, .int .i64 0, .int .i64 0, .int .i64 0, .int .i64 0, .int .i64 0, .int .i64 0, .int .i64 0] 29))
  have RR := hidden h2
  have BL := hidden (bl_alloc2 w (.cells #[.int .u64 a.x0, .int .u64 a.x1, .int .u64 a.x2, .int .u64 a.x3, .int .u64 a.x4] 24) (.cells #[.int .i64 0, .int .i64 0, .int .i64 0, .int .i64 0, .int .i64 0, .int .i64 0, .int .i64 0, .int .i64 0, .int .i64 0, .int .i64 0] 29))
  have PP := hidden (hP.keep BL.out)
  have c0 := H1.c 0 (by omega)
  have c1 := H1.c 1 (by omega)
  have c2 := H1.c 2 (by omega)
  have c3 := H1.c 3 (by omega)
  have c4 := H1.c 4 (by omega)
  simp only [lmf] at c0 c1 c2 c3 c4
  have hu := hidden (f10 (a.n % pF)).u
  have hi := hidden (f10 (a.n % pF)).i
  have hi2 := hidden (f10 (a.n % pF)).i2
  have ho := hidden (f10 (a.n % pF)).o
  have hl := hidden (f10 (a.n % pF)).l
  unfold fv at OF ⊢
  clear h1 h2 H1 hP ha
  generalize ((digs (a.n % pF)).map fun z => Value.int .i64 z) = ds at *
  simp only [E5.v] at OF ⊢
  go_enter Tryd.func9, Tryd.ntmps9
  go_upto_region 1 with fail
  generalize ((w.alloc (.cells #[.int .u64 a.x0, .int .u64 a.x1, .int .u64 a.x2, .int .u64 a.x3, .int .u64 a.x4] 24)).alloc (.cells #[.int .i64 0, .int .i64 0, .int .i64 0, .int .i64 0, .int .i64 0, .int .i64 0, .int .i64 0, .int .i64 0, .int .i64 0, .int .i64 0] 29)) = wB at *
  go_wp2_with fail
  refine (OF.out _ PP.out).mono ?_
  rintro e w1 ⟨rfl, hb⟩
  have TR : Hid (w1.there (w.heap.size + 1) 0 ds.toArray.size) := hidden (by have := (RR.out.keep hb).there; simpa [hl.out] using this)
  have RDH := hidden (run_loadVar_mid (P := Tryd.prog) (w1.setCells (w.heap.size + 1) 0 ds) (w.heap.size + 1) 0 29 ds _ (World.rangeAt_setCells_same w1 (w.heap.size + 1) 0 ds (by simpa using TR.out)) hu.out rfl hi.out)
  have BL4 := hidden (below_setCellsR (w.heap.size + 1) ds 0 (bl_trans BL.out hb) (by omega))
  clear hb RR BL PP OF c0 c1 c2 c3 c4
  go_wp2_with (first | refine wpList_store_mid rfl 29 _ _ rfl (w.heap.size + 1) 0 ds.toArray (by rfl) (by rfl) TR.out hi2.out ho.out ?_)
  have RD := RDH.out
  refine bodyPost_ret (v := .agg ds.toArray) (results_cellR Tryd.results9 _ _ _ _ _ (by rfl) RD) rfl ⟨rfl, BL4.out⟩
end Go.Proofs.YtgijodenblpbgaaDoor
