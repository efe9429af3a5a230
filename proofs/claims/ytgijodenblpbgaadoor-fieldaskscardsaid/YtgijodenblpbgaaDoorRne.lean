import Derived.Test.YtgijodenblpbgaaDoorRsu
namespace Go.Proofs.YtgijodenblpbgaaDoor
open Go.RowKit
theorem dig0_par {N : Int} : dig N 0 % 2 = N % 2 := by simp only [dig, dv]; omega
set_option maxRecDepth 100000 in
set_option maxHeartbeats 4000000 in
theorem rNegative_any (N : Int) (w : World) :
    Calls Tryd.prog 28 #[fv (digs N)] w fun e w' => e = .returned (.bool (decide (N % 2 = 1))) ∧ Below w.heap.size w w' := by
  have R1 := digs_row w N 29
  have c0 := R1.c 0 (by omega)
  have BL := hidden (bl_alloc w (.cells ((digs N).map fun z => Value.int .i64 z).toArray 29))
  have A1 := and1i (dig N 0)
  rw [dig0_par] at A1
  unfold fv
  clear R1
  generalize ((digs N).map fun z => Value.int .i64 z) = cs at *
  generalize dig N 0 = x at *
  generalize hB : decide (N % 2 = 1) = B
  have hE : (bits .and .i64 x 1 == 1) = B := by rw [A1, ← hB]; rfl
  clear A1 hB
  go_enter Tryd.func28, Tryd.ntmps28
  go_wp2_with fail
  go_ret
  exact ⟨rfl, BL.out⟩
def absF (N : Int) : Int := if N % 2 = 1 then (-N) % pF else N
set_option maxRecDepth 100000 in
set_option maxHeartbeats 16000000 in
theorem rAbs_any (X : Int) (w : World) (x0 : 0 ≤ X) (x1 : X < pF) (hP : Pm w) (hZ : Zr w) :
    Calls Tryd.prog 30 #[fv (digs X)] w fun e w' => e = .returned (fv (digs (absF X))) ∧ Below w.heap.size w w' := by
  have NG := hidden (fun w P Z => rNeg_any X w x0 x1 P Z)
  have h1 := digs_row w X 29
  have h2 := Ri.zero10 (w.alloc (.cells ((digs X).map fun z => Value.int .i64 z).toArray 29)) 29
  simp only [World.size_alloc] at h2
  have k1 := h1.keep (bl_alloc _ (.cells #[.int .i64 0, .int .i64 0, .int .i64 0, .int .i64 0, .int .i64 0, .int .i64 0, .int .i64 0, .int .i64 0, .int .i64 0, .int .i64 0] 29))
  have c0 := k1.c 0 (by omega)
  have RA := hidden (by rw [← vs_digs]; exact k1.range : World.rangeAt _ w.heap.size 0 ((digs X).map fun z => Value.int .i64 z))
  have RR := hidden h2
  have BL := hidden (bl_alloc2 w (.cells ((digs X).map fun z => Value.int .i64 z).toArray 29) (.cells #[.int .i64 0, .int .i64 0, .int .i64 0, .int .i64 0, .int .i64 0, .int .i64 0, .int .i64 0, .int .i64 0, .int .i64 0, .int .i64 0] 29))
  have RZ := hidden (hZ.keep BL.out)
  have RP := hidden (hP.keep BL.out)
  have A1 := and1i (dig X 0)
  rw [dig0_par] at A1
  have fX := f10 X
  have HU := hidden fX.u
  have HIX := hidden fX.i
  have HI2X := hidden fX.i2
  have HOX := hidden fX.o
  have HLX := hidden fX.l
  unfold fv at NG ⊢
  clear h1 h2 k1 hP hZ fX x0 x1
  by_cases hz : X % 2 = 1
  · rw [show absF X = (-X) % pF from if_pos hz]
    rw [hz] at A1
    have fY := f10 ((-X) % pF)
    have HIY := hidden fY.i
    have HI2Y := hidden fY.i2
    have HOY := hidden fY.o
    have HLY := hidden fY.l
    clear hz fY
    generalize ((digs X).map fun z => Value.int .i64 z) = cx at *
    generalize ((digs ((-X) % pF)).map fun z => Value.int .i64 z) = ds at *
    generalize dig X 0 = x at *
    go_enter Tryd.func30, Tryd.ntmps30
    go_upto_region 1 with fail
    generalize ((w.alloc (.cells cx.toArray 29)).alloc (.cells #[.int .i64 0, .int .i64 0, .int .i64 0, .int .i64 0, .int .i64 0, .int .i64 0, .int .i64 0, .int .i64 0, .int .i64 0, .int .i64 0] 29)) = wB at *
    go_wp2_with (first | refine wpList_load_mid rfl 29 _ rfl w.heap.size 0 (by rfl) cx _ RA.out HU.out rfl HIX.out ?_)
    refine (NG.out _ RP.out RZ.out).mono ?_
    rintro e w1 ⟨rfl, hb⟩
    have TR : Hid (w1.there (w.heap.size + 1) 0 ds.toArray.size) := hidden (by have := (RR.out.keep hb).there; simpa [HLY.out] using this)
    have RDH := hidden (run_loadVar_mid (P := Tryd.prog) (w1.setCells (w.heap.size + 1) 0 ds) (w.heap.size + 1) 0 29 ds _ (World.rangeAt_setCells_same w1 (w.heap.size + 1) 0 ds (by simpa using TR.out)) HU.out rfl HIY.out)
    have BL4 := hidden (below_setCellsR (w.heap.size + 1) ds 0 (bl_trans BL.out hb) (by omega))
    clear hb RA RR BL RZ RP NG c0 A1
    go_wp2_with (first | refine wpList_store_mid rfl 29 _ _ rfl (w.heap.size + 1) 0 ds.toArray (by rfl) (by rfl) TR.out HI2Y.out HOY.out ?_)
    have RD := RDH.out
    refine bodyPost_ret (v := .agg ds.toArray) (results_cellR Tryd.results30 _ _ _ _ _ (by rfl) RD) rfl ⟨rfl, BL4.out⟩
  · rw [show absF X = X from if_neg hz]
    rw [show X % 2 = 0 by omega] at A1
    clear hz NG
    generalize ((digs X).map fun z => Value.int .i64 z) = cx at *
    generalize dig X 0 = x at *
    go_enter Tryd.func30, Tryd.ntmps30
    go_upto_region 1 with fail
    generalize ((w.alloc (.cells cx.toArray 29)).alloc (.cells #[.int .i64 0, .int .i64 0, .int .i64 0, .int .i64 0, .int .i64 0, .int .i64 0, .int .i64 0, .int .i64 0, .int .i64 0, .int .i64 0] 29)) = wB at *
    have TR : Hid (wB.there (w.heap.size + 1) 0 cx.toArray.size) := hidden (by have := RR.out.there; simpa [HLX.out] using this)
    have RDH := hidden (run_loadVar_mid (P := Tryd.prog) (wB.setCells (w.heap.size + 1) 0 cx) (w.heap.size + 1) 0 29 cx _ (World.rangeAt_setCells_same wB (w.heap.size + 1) 0 cx (by simpa using TR.out)) HU.out rfl HIX.out)
    have BL4 := hidden (below_setCellsR (w.heap.size + 1) cx 0 BL.out (by omega))
    go_wp2_with (first | refine wpList_load_mid rfl 29 _ rfl w.heap.size 0 (by rfl) cx _ RA.out HU.out rfl HIX.out ?_ | refine wpList_store_mid rfl 29 _ _ rfl (w.heap.size + 1) 0 cx.toArray (by rfl) (by rfl) TR.out HI2X.out HOX.out ?_)
    have RD := RDH.out
    refine bodyPost_ret (v := .agg cx.toArray) (results_cellR Tryd.results30 _ _ _ _ _ (by rfl) RD) rfl ⟨rfl, BL4.out⟩
end Go.Proofs.YtgijodenblpbgaaDoor
