import Derived.Test.YtgijodenblpbgaaDoorRli
namespace Go.Proofs.YtgijodenblpbgaaDoor
open Go.RowKit
/-- facts on the type of ten digits, for the walks -/
structure F10 (N : Int) : Prop where
  u : Tryd.prog.underlying 29 = some (.array 10 2)
  i : (Tryd.prog.info? 29).map (·.size) = some ((digs N).map fun z => Value.int .i64 z).length
  i2 : (Tryd.prog.info? 29).map (·.size) = some ((digs N).map fun z => Value.int .i64 z).toArray.size
  o : ((digs N).map fun z => Value.int .i64 z).toArray.all (·.oneCell') = true
  l : ((digs N).map fun z => Value.int .i64 z).length = 10
theorem f10 (N : Int) : F10 N := by
  have hl : ((digs N).map fun z => Value.int .i64 z).length = 10 := by simp [digs]
  have hi : (Tryd.prog.info? 29).map (·.size) = some ((digs N).map fun z => Value.int .i64 z).length := by rw [hl]; kernel_rfl
  refine ⟨by kernel_rfl, hi, by simpa using hi, all_oneCell_toArray (fun v hv => ?_), hl⟩
  obtain ⟨z, _, rfl⟩ := List.mem_map.1 hv
  rfl
/-- what lies where in Add and Mul -/
structure AW (w0 : World) (X Y : Int) (O : Nat) (d : Nat → Int) (w : World) : Prop where
  a : Ri w w0.heap.size 10 (dig X)
  b : Ri w (w0.heap.size + 1) 10 (dig Y)
  r : Ri w (w0.heap.size + 1 + 1) 10 (fun _ => 0)
  o : Ri w O 20 d
  n2 : w0.heap.size + 1 + 1 < O
  bel : Below w0.heap.size w0 w
theorem AW.keep {w0 : World} {X Y : Int} {O : Nat} {d : Nat → Int} {w w' : World} (h : AW w0 X Y O d w) (hb : Below w.heap.size w w') : AW w0 X Y O d w' := ⟨h.a.keep hb, h.b.keep hb, h.r.keep hb, h.o.keep hb, h.n2, bl_trans h.bel hb⟩
theorem AW.put {w0 : World} {X Y : Int} {O : Nat} {d : Nat → Int} {w : World} (h : AW w0 X Y O d w) (k : Nat) (hk : k < 20) (v : Int) : AW w0 X Y O (fun j => if j = k then v else d j) (w.setCell ⟨O, k, none⟩ (.int .i64 v)) := by
  have := h.n2
  exact ⟨h.a.far (by omega) _ _, h.b.far (by omega) _ _, h.r.far (by omega) _ _, h.o.at k hk v, h.n2, h.bel.setCell (by show w0.heap.size ≤ O; omega) _⟩
theorem AW.congr {w0 : World} {X Y : Int} {O : Nat} {d e : Nat → Int} {w : World} (h : AW w0 X Y O d w) (hd : ∀ j, j < 20 → d j = e j) : AW w0 X Y O e w := ⟨h.a, h.b, h.r, h.o.congr hd, h.n2, h.bel⟩
theorem AW.start (w : World) (X Y : Int) (t t2 t3 t4 : TypeId) :
    AW w X Y (w.heap.size + 1 + 1 + 1) (fun _ => 0) ((((w.alloc (.cells ((digs X).map fun z => Value.int .i64 z).toArray t)).alloc (.cells ((digs Y).map fun z => Value.int .i64 z).toArray t2)).alloc (.cells #[.int .i64 0, .int .i64 0, .int .i64 0, .int .i64 0, .int .i64 0, .int .i64 0, .int .i64 0, .int .i64 0, .int .i64 0, .int .i64 0] t3)).alloc (.cells #[.int .i64 0, .int .i64 0, .int .i64 0, .int .i64 0, .int .i64 0, .int .i64 0, .int .i64 0, .int .i64 0, .int .i64 0, .int .i64 0, .int .i64 0, .int .i64 0, .int .i64 0, .int .i64 0, .int .i64 0, .int .i64 0, .int .i64 0, .int .i64 0, .int .i64 0, .int .i64 0] t4)) := by
  have h1 := digs_row w X t
  have h2 := digs_row (w.alloc (.cells ((digs X).map fun z => Value.int .i64 z).toArray t)) Y t2
  have h3 := Ri.zero10 ((w.alloc (.cells ((digs X).map fun z => Value.int .i64 z).toArray t)).alloc (.cells ((digs Y).map fun z => Value.int .i64 z).toArray t2)) t3
  have h4 := Ri.zero20 (((w.alloc (.cells ((digs X).map fun z => Value.int .i64 z).toArray t)).alloc (.cells ((digs Y).map fun z => Value.int .i64 z).toArray t2)).alloc (.cells #[.int .i64 0, .int .i64 0, .int .i64 0, .int .i64 0, .int .i64 0, .int .i64 0, .int .i64 0, .int .i64 0, .int .i64 0, .int .i64 0] t3)) t4
  simp only [World.size_alloc] at h2 h3 h4
  exact ⟨((h1.keep (bl_alloc _ _)).keep (bl_alloc _ _)).keep (bl_alloc _ _), (h2.keep (bl_alloc _ _)).keep (bl_alloc _ _), h3.keep (bl_alloc _ _), h4, by omega, bl_trans (bl_alloc3 _ _ _ _) (bl_alloc _ _)⟩
theorem rsn_zero (f : Nat → Int) : ∀ (m k : Nat), (∀ j, k ≤ j → f j = 0) → rsn f m k = 0
  | 0, _, _ => rfl
  | m + 1, k, h => by rw [rsn, h k (Nat.le_refl _), rsn_zero f m (k + 1) (fun j hj => h j (by omega))]; rfl
theorem rsn_digs {X : Int} (h0 : 0 ≤ X) (hx : X < 57896044618658097711785492504343953926634992332820282019728792003956564819968) : rsn (dig X) 10 0 = X := by
  exact (ls_num 10 (dig X)).symm.trans (numF_digs h0 hx)
theorem rsn_top {D : Int} (h0 : 0 ≤ D) (h : D < 67108864 ^ 20) : dv D 20 = 0 := ofx_top h0 h
set_option maxRecDepth 100000 in
set_option maxHeartbeats 16000000 in
theorem rAdd_any (X Y : Int) (w : World) (x0 : 0 ≤ X) (x1 : X < pF) (y0 : 0 ≤ Y) (y1 : Y < pF) (hP : Pm w) :
    Calls Tryd.prog 17 #[fv (digs X), fv (digs Y)] w fun e w' => e = .returned (fv (digs ((X + Y) % pF))) ∧ Below w.heap.size w w' := by
  have HP := hidden hP
  have A0 := hidden (AW.start w X Y 29 29 29 59)
  have HS : Hid (rsn (fun j => if j < 10 then dig X j + dig Y j else 0) 20 0 = X + Y) := hidden (by
    have h2 := rsn_split (fun j => if j < 10 then dig X j + dig Y j else 0) 10 10 0
    rw [rsn_zero (fun j => if j < 10 then dig X j + dig Y j else 0) 10 (0 + 10) (fun j hj => if_neg (by omega)), rsn_congr (e := fun j => dig X j + dig Y j) 10 0 (fun j _ hj => if_pos (by omega)), rsn_add, rsn_digs x0 (by unfold pF at x1; omega), rsn_digs y0 (by unfold pF at y1; omega)] at h2
    rw [show (20 : Nat) = 10 + 10 from rfl, h2]; omega)
  have HD : Hid (dv (X + Y) 20 = 0) := hidden (rsn_top (by omega) (Int.lt_trans (show X + Y < 2 * pF by omega) (by decide +kernel)))
  clear hP x0 x1 y0 y1
  unfold fv
  generalize hcx : ((digs X).map fun z => Value.int .i64 z) = cx at A0 ⊢
  generalize hcy : ((digs Y).map fun z => Value.int .i64 z) = cy at A0 ⊢
  clear hcx hcy
  go_enter Tryd.func17, Tryd.ntmps17
  go_wp2_with fail
  go_loopw [6] (fun kv w' => ∃ k : Nat, k ≤ 10 ∧ kv = .int .i64 k ∧ Hid (AW w X Y (w.heap.size + 1 + 1 + 1) (fun j => if j < k then dig X j + dig Y j else 0) w')) (fun k _ => 10 - (intOf k).toNat)
  case atStart => exact ⟨0, by omega, rfl, hidden (A0.out.congr (fun j _ => by rw [if_neg (by omega)]))⟩
  case round =>
    clear A0
    obtain ⟨k, hk, rfl, hM⟩ := hrel
    by_cases hlt : k < 10
    · have hd := hM.out.keep (drew_bl wr)
      have a0 := hd.a.c k hlt
      have b0 := hd.b.c k hlt
      have o0 := hd.o.c k (by omega)
      have of := hd.o.fr k (by omega)
      rw [if_neg (by omega)] at o0
      have e1 := dig_in X k
      have e2 := dig_in Y k
      have NM := hidden ((hd.put k (by omega) (dig X k + dig Y k)).congr (e := fun j => if j < k + 1 then dig X j + dig Y j else 0) (fun j _ => by
        by_cases hj : j = k
        · subst hj; rw [if_pos rfl, if_pos (by omega)]
        · rw [if_neg hj]
          by_cases hl : j < k
          · rw [if_pos hl, if_pos (by omega)]
          · rw [if_neg hl, if_neg (by omega)]))
      generalize dig X k = x at *
      generalize dig Y k = y at *
      have k0 : (0 : Int) ≤ (k : Int) := by omega
      have k1 : (k : Int) < 10 := by omega
      have k2 : (k : Int) < 20 := by omega
      have w1 : IntKind.i64.wrap (x + y) = x + y := IntWalk.i64_in _ (by omega)
      clear hM hd e1 e2
      go_upto_region 5 with fail
      go_region_with fail
      all_goals
        clear a0 b0 o0 of w1 k2
        go_wp2_with fail
        go_roundw
        case rel => exact ⟨k + 1, by omega, by go_num, NM⟩
        case measure => simp [intOf]; omega
    · have hk10 : k = 10 := by omega
      subst hk10
      have hE : numF (ls 20 (fun j => if j < 10 then dig X j + dig Y j else 0)) = X + Y := by rw [ls_num]; exact HS.out
      have LE := hidden (fun w P => rleast_any (ls 20 (fun j => if j < 10 then dig X j + dig Y j else 0)) w (ls_len 20 _) (fun z hz => by
        obtain ⟨j, _, rfl⟩ := List.mem_map.1 hz
        have := dig_in X j
        have := dig_in Y j
        split <;> omega) (by rw [hE]; exact HD.out) P)
      rw [hE] at LE
      unfold fv at LE
      rw [ls_vs] at LE
      have RO := hidden hM.out.o.range
      have RR := hidden hM.out.r
      have BL := hidden hM.out.bel
      have PP := hidden (HP.out.keep hM.out.bel)
      have hlv : (vs 20 (fun j => if j < 10 then dig X j + dig Y j else 0)).length = 20 := by simp [vs]
      have HU20 : Hid (Tryd.prog.underlying 59 = some (.array 20 2)) := hidden (by kernel_rfl)
      have HI20 : Hid ((Tryd.prog.info? 59).map (·.size) = some (vs 20 (fun j => if j < 10 then dig X j + dig Y j else 0)).length) := hidden (by rw [hlv]; kernel_rfl)
      have FF := hidden (f10 ((X + Y) % pF))
      have hi2 := hidden FF.out.i2
      have hi1 := hidden FF.out.i
      have hu1 := hidden FF.out.u
      have ho1 := hidden FF.out.o
      have hl1 := hidden FF.out.l
      clear hE hM hlv FF HS HD
      generalize hds : ((digs ((X + Y) % pF)).map fun z => Value.int .i64 z) = ds at *
      have HDS := hidden hds
      clear hds
      generalize vs 20 (fun j => if j < 10 then dig X j + dig Y j else 0) = cs at *
      go_wp2_with (first | refine wpList_load_mid rfl 59 _ rfl (w.heap.size + 1 + 1 + 1) 0 (by rfl) cs _ RO.out HU20.out rfl HI20.out ?_)
      refine (LE.out _ PP.out).mono ?_
      rintro e w1 ⟨rfl, hb⟩
      have TR : Hid (w1.there (w.heap.size + 1 + 1) 0 ds.toArray.size) := hidden (by have := (RR.out.keep hb).there; simpa [hl1.out] using this)
      have RDH := hidden (run_loadVar_mid (P := Tryd.prog) (w1.setCells (w.heap.size + 1 + 1) 0 ds) (w.heap.size + 1 + 1) 0 29 ds _ (World.rangeAt_setCells_same w1 (w.heap.size + 1 + 1) 0 ds (by simpa using TR.out)) hu1.out rfl hi1.out)
      have BL4 := hidden (below_setCellsR (w.heap.size + 1 + 1) ds 0 (bl_trans BL.out hb) (by omega))
      clear hb RO RR BL PP LE
      go_wp2_with (first | refine wpList_store_mid rfl 29 _ _ rfl (w.heap.size + 1 + 1) 0 ds.toArray (by rfl) (by rfl) TR.out hi2.out ho1.out ?_)
      have RD := RDH.out
      refine bodyPost_ret (v := .agg ds.toArray) (results_cellR Tryd.results17 _ _ _ _ _ (by rfl) RD) rfl ⟨by rw [HDS.out], BL4.out⟩

theorem eq10 (zs ys : List Int) (w : World) (hz : zs.length = 10) (hy : ys.length = 10) :
    (Op.equalIn 10000 29 (.agg (zs.map fun z => Value.int .i64 z).toArray) (.agg (ys.map fun z => Value.int .i64 z).toArray)).run Tryd.prog w = .ok (decide (zs = ys)) w := by
  have hi : Tryd.prog.info? 2 = some (Tryd.prog.info? 2).get! := by kernel_rfl
  have hc : Tryd.prog.cellsOf 2 = 1 := by kernel_rfl
  rw [run_equalIn_array w 9999 _ _ (by kernel_rfl : Tryd.prog.underlying 29 = some (.array 10 2)) hi, hc]
  rw [eqItems_ints w (k := .i64) 9998 (by kernel_rfl) (by kernel_rfl) _ _ (fun i => zs.getD i 0) (fun i => ys.getD i 0)]
  · congr 1
    rw [Bool.eq_iff_iff, decide_eq_true_iff, List.all_eq_true]
    constructor
    · intro h
      apply List.ext_getElem?
      intro i
      by_cases hin : i < 10
      · have := h i (List.mem_range.2 hin)
        simp only [List.getD_eq_getElem?_getD, beq_iff_eq] at this
        rw [List.getElem?_eq_getElem (by omega), List.getElem?_eq_getElem (by omega)] at this ⊢
        simpa using this
      · rw [List.getElem?_eq_none (by omega), List.getElem?_eq_none (by omega)]
    · intro h i _
      rw [h]; simp
  · intro i hi
    have : i < 10 := List.mem_range.1 hi
    simp [List.getD_eq_getElem?_getD, hz, hy, this]
theorem digs_inj {X Y : Int} (x0 : 0 ≤ X) (x1 : X < pF) (y0 : 0 ≤ Y) (y1 : Y < pF) : digs X = digs Y ↔ X = Y := by
  constructor
  · intro h
    have hx := numF_digs x0 (by unfold pF at x1; omega)
    have hy := numF_digs y0 (by unfold pF at y1; omega)
    rw [← hx, ← hy, h]
  · intro h; rw [h]
/-- the row of Zero -/
structure Zr (w : World) : Prop where
  r : w.rangeAt 0 0 ((digs 0).map fun z => Value.int .i64 z)
theorem Zr.keep {w w' : World} (h : Zr w) (hb : Below w.heap.size w w') : Zr w' := ⟨fun j v hv => by
  have := h.r j v hv
  rw [hb.cell (p := ⟨0, 0 + j, none⟩) (World.block_lt_of_cell? w ⟨0, 0 + j, none⟩ this)]
  exact this⟩
theorem Pm.p (w : World) (h : Pm w) : w.rangeAt 1 0 (prF.map fun z => Value.int .i64 z) := h.r
theorem range_keep {w w' : World} {b : Nat} {cs : List Value} (h : w.rangeAt b 0 cs) (hb : Below w.heap.size w w') : w'.rangeAt b 0 cs := fun j v hv => by
  have := h j v hv
  rw [hb.cell (p := ⟨b, 0 + j, none⟩) (World.block_lt_of_cell? w ⟨b, 0 + j, none⟩ this)]
  exact this
set_option maxRecDepth 100000 in
set_option maxHeartbeats 16000000 in
theorem rNeg_any (X : Int) (w : World) (x0 : 0 ≤ X) (x1 : X < pF) (hP : Pm w) (hZ : Zr w) :
    Calls Tryd.prog 21 #[fv (digs X)] w fun e w' => e = .returned (fv (digs ((-X) % pF))) ∧ Below w.heap.size w w' := by
  have h1 := digs_row w X 29
  have h2 := Ri.zero10 (w.alloc (.cells ((digs X).map fun z => Value.int .i64 z).toArray 29)) 29
  simp only [World.size_alloc] at h2
  have RA := hidden (by rw [← vs_digs]; exact (h1.keep (bl_alloc _ (.cells #[.int .i64 0, .int .i64 0, .int .i64 0, .int .i64 0, .int .i64 0, .int .i64 0, .int .i64 0, .int .i64 0, .int .i64 0, .int .i64 0] 29))).range : World.rangeAt _ w.heap.size 0 ((digs X).map fun z => Value.int .i64 z))
  have RR := hidden h2
  have BL := hidden (bl_alloc2 w (.cells ((digs X).map fun z => Value.int .i64 z).toArray 29) (.cells #[.int .i64 0, .int .i64 0, .int .i64 0, .int .i64 0, .int .i64 0, .int .i64 0, .int .i64 0, .int .i64 0, .int .i64 0, .int .i64 0] 29))
  have RZ := hidden (hZ.keep BL.out).r
  have RP := hidden (hP.keep BL.out).r
  have EQ := fun w => eq10 (digs X) (digs 0) w (digs_len X) (digs_len 0)
  have LM := hidden (fun w => minus_any prF (digs X) w rfl (digs_len X) (by decide) (digs_in X))
  rw [numF_digs x0 (by unfold pF at x1; omega), numF_prF] at LM
  unfold fv at LM ⊢
  have fX := f10 X
  have HU := hidden fX.u
  have HIX := hidden fX.i
  have HI2X := hidden fX.i2
  have HOX := hidden fX.o
  have HLX := hidden fX.l
  have HIZ := hidden (f10 0).i
  have HIP : Hid ((Tryd.prog.info? 29).map (·.size) = some (prF.map fun z => Value.int .i64 z).length) := hidden (by rw [show (prF.map fun z => Value.int .i64 z).length = 10 from rfl]; kernel_rfl)
  clear h1 h2 hP hZ fX
  by_cases hz : X = 0
  · have hE : (-X) % pF = X := by rw [hz]; rfl
    rw [hE]
    have EQ2 : ∀ w, (Op.equalIn 10000 29 (.agg ((digs X).map fun z => Value.int .i64 z).toArray) (.agg ((digs 0).map fun z => Value.int .i64 z).toArray)).run Tryd.prog w = .ok true w := fun w => by rw [EQ w, hz]; simp
    clear EQ LM hE hz x0 x1
    generalize ((digs X).map fun z => Value.int .i64 z) = cx at *
    generalize ((digs 0).map fun z => Value.int .i64 z) = cz at *
    go_enter Tryd.func21, Tryd.ntmps21
    go_upto_region 1 with fail
    generalize ((w.alloc (.cells cx.toArray 29)).alloc (.cells #[.int .i64 0, .int .i64 0, .int .i64 0, .int .i64 0, .int .i64 0, .int .i64 0, .int .i64 0, .int .i64 0, .int .i64 0, .int .i64 0] 29)) = wB at *
    have TR : Hid (wB.there (w.heap.size + 1) 0 cx.toArray.size) := hidden (by have := RR.out.there; simpa [HLX.out] using this)
    have RDH := hidden (run_loadVar_mid (P := Tryd.prog) (wB.setCells (w.heap.size + 1) 0 cx) (w.heap.size + 1) 0 29 cx _ (World.rangeAt_setCells_same wB (w.heap.size + 1) 0 cx (by simpa using TR.out)) HU.out rfl HIX.out)
    have BL4 := hidden (below_setCellsR (w.heap.size + 1) cx 0 BL.out (by omega))
    go_wp2_with (first | refine wpList_load_mid rfl 29 _ rfl w.heap.size 0 (by rfl) cx _ RA.out HU.out rfl HIX.out ?_ | refine wpList_load_mid rfl 29 _ rfl 0 0 (by rfl) cz _ RZ.out HU.out rfl HIZ.out ?_ | refine wpList_store_mid rfl 29 _ _ rfl (w.heap.size + 1) 0 cx.toArray (by rfl) (by rfl) TR.out HI2X.out HOX.out ?_)
    have RD := RDH.out
    refine bodyPost_ret (v := .agg cx.toArray) (results_cellR Tryd.results21 _ _ _ _ _ (by rfl) RD) rfl ⟨rfl, BL4.out⟩
  · have hE : (-X) % pF = pF - X := by
      have e : (-X) % pF = (pF - X) % pF := by rw [show -X = (pF - X) - pF by omega, Int.sub_emod_right]
      rw [e, Int.emod_eq_of_lt (by omega) (by omega)]
    rw [hE]
    have EQ2 : ∀ w, (Op.equalIn 10000 29 (.agg ((digs X).map fun z => Value.int .i64 z).toArray) (.agg ((digs 0).map fun z => Value.int .i64 z).toArray)).run Tryd.prog w = .ok false w := fun w => by
      rw [EQ w, decide_eq_false (by rw [digs_inj x0 x1 (by omega) (by decide)]; exact hz)]
    have fY := f10 (pF - X)
    have HIY := hidden fY.i
    have HI2Y := hidden fY.i2
    have HOY := hidden fY.o
    have HLY := hidden fY.l
    clear EQ hE hz x0 x1 fY
    generalize ((digs X).map fun z => Value.int .i64 z) = cx at *
    generalize ((digs 0).map fun z => Value.int .i64 z) = cz at *
    generalize ((digs (pF - X)).map fun z => Value.int .i64 z) = ds at *
    generalize (prF.map fun z => Value.int .i64 z) = ps at *
    go_enter Tryd.func21, Tryd.ntmps21
    go_upto_region 1 with fail
    generalize ((w.alloc (.cells cx.toArray 29)).alloc (.cells #[.int .i64 0, .int .i64 0, .int .i64 0, .int .i64 0, .int .i64 0, .int .i64 0, .int .i64 0, .int .i64 0, .int .i64 0, .int .i64 0] 29)) = wB at *
    go_wp2_with (first | refine wpList_load_mid rfl 29 _ rfl w.heap.size 0 (by rfl) cx _ RA.out HU.out rfl HIX.out ?_ | refine wpList_load_mid rfl 29 _ rfl 0 0 (by rfl) cz _ RZ.out HU.out rfl HIZ.out ?_ | refine wpList_load_mid rfl 29 _ rfl 1 0 (by rfl) ps _ RP.out HU.out rfl HIP.out ?_)
    refine (LM.out _).mono ?_
    rintro e w1 ⟨rfl, hb⟩
    have TR : Hid (w1.there (w.heap.size + 1) 0 ds.toArray.size) := hidden (by have := (RR.out.keep hb).there; simpa [HLY.out] using this)
    have RDH := hidden (run_loadVar_mid (P := Tryd.prog) (w1.setCells (w.heap.size + 1) 0 ds) (w.heap.size + 1) 0 29 ds _ (World.rangeAt_setCells_same w1 (w.heap.size + 1) 0 ds (by simpa using TR.out)) HU.out rfl HIY.out)
    have BL4 := hidden (below_setCellsR (w.heap.size + 1) ds 0 (bl_trans BL.out hb) (by omega))
    clear hb RA RR BL RZ RP LM
    go_wp2_with (first | refine wpList_store_mid rfl 29 _ _ rfl (w.heap.size + 1) 0 ds.toArray (by rfl) (by rfl) TR.out HI2Y.out HOY.out ?_)
    have RD := RDH.out
    refine bodyPost_ret (v := .agg ds.toArray) (results_cellR Tryd.results21 _ _ _ _ _ (by rfl) RD) rfl ⟨rfl, BL4.out⟩
end Go.Proofs.YtgijodenblpbgaaDoor
