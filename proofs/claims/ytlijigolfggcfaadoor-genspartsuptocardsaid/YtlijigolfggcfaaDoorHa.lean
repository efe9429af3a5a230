import Derived.Test.YtlijigolfggcfaaDoorGn
namespace Go.Proofs.YtlijigolfggcfaaDoor
open Go.RowKit
/-- the cells of the document's element of a scalar -/
def el (k : E4) : List Value := [.int .i64 2, .int .i64 0, .int .i64 0, .int .i64 0, .int .i64 0, .int .i64 0, .int .i64 0, .int .i64 0, .int .i64 0, .int .i64 0, .int .i64 0, .int .i64 0, .int .i64 0, .int .i64 0, .int .i64 0, .int .i64 0, .int .i64 0, .int .i64 0, .int .i64 0, .int .i64 0, .int .i64 0, .int .u64 k.x0, .int .u64 k.x1, .int .u64 k.x2, .int .u64 k.x3, .slice none 0 0]
theorem el_len (k : E4) : (el k).length = 26 := rfl
theorem el_one (k : E4) : (el k).toArray.all (·.oneCell') = true := by simp [el, Value.oneCell']
theorem einfo : (Tryd.prog.info? 44).map (·.size) = some 26 := by kernel_rfl
theorem el_i (k : E4) : (Tryd.prog.info? 44).map (·.size) = some (el k).length := einfo
theorem el_i2 (k : E4) : (Tryd.prog.info? 44).map (·.size) = some (el k).toArray.size := einfo
theorem el_0 (k : E4) : (el k)[0]? = some (.int .i64 2) := rfl
theorem el_21 (k : E4) : (el k)[21]? = some (.int .u64 k.x0) := rfl
theorem el_22 (k : E4) : (el k)[22]? = some (.int .u64 k.x1) := rfl
theorem el_23 (k : E4) : (el k)[23]? = some (.int .u64 k.x2) := rfl
theorem el_24 (k : E4) : (el k)[24]? = some (.int .u64 k.x3) := rfl
set_option maxRecDepth 100000 in
set_option maxHeartbeats 4000000 in
theorem lineOf_any (k : E4) (w : World) :
    Calls Tryd.prog 18 #[k.v] w fun e w' => e = .returned (.agg (el k).toArray) ∧ Below w.heap.size w w' := by
  have M0 := ((Mw.start w).new [.int .u64 k.x0, .int .u64 k.x1, .int .u64 k.x2, .int .u64 k.x3] 41).new [.int .i64 0, .int .i64 0, .int .i64 0, .int .i64 0, .int .i64 0, .int .i64 0, .int .i64 0, .int .i64 0, .int .i64 0, .int .i64 0, .int .i64 0, .int .i64 0, .int .i64 0, .int .i64 0, .int .i64 0, .int .i64 0, .int .i64 0, .int .i64 0, .int .i64 0, .int .i64 0, .int .i64 0, .int .u64 0, .int .u64 0, .int .u64 0, .int .u64 0, .slice none 0 0] 44
  simp only [World.size_alloc] at M0
  have TH := hidden (M0.ther (el k) (c := w.heap.size + 1) (o := [.int .i64 0, .int .i64 0, .int .i64 0, .int .i64 0, .int .i64 0, .int .i64 0, .int .i64 0, .int .i64 0, .int .i64 0, .int .i64 0, .int .i64 0, .int .i64 0, .int .i64 0, .int .i64 0, .int .i64 0, .int .i64 0, .int .i64 0, .int .i64 0, .int .i64 0, .int .i64 0, .int .i64 0, .int .u64 0, .int .u64 0, .int .u64 0, .int .u64 0, .slice none 0 0]) (by simp) rfl)
  have M1 := M0.set (M := []) (el k) (c := w.heap.size + 1) (o := [.int .i64 0, .int .i64 0, .int .i64 0, .int .i64 0, .int .i64 0, .int .i64 0, .int .i64 0, .int .i64 0, .int .i64 0, .int .i64 0, .int .i64 0, .int .i64 0, .int .i64 0, .int .i64 0, .int .i64 0, .int .i64 0, .int .i64 0, .int .i64 0, .int .i64 0, .int .i64 0, .int .i64 0, .int .u64 0, .int .u64 0, .int .u64 0, .int .u64 0, .slice none 0 0]) (by simp) rfl (fun p hp => by cases hp)
  have LD := hidden (M1.var (c := w.heap.size + 1) (ds := el k) (by simp) Tryd.underlying44 rfl (el_i k))
  have BL := hidden M1.bel
  have I2 := hidden (el_i2 k)
  have O2 := hidden (el_one k)
  unfold E4.v
  clear M0 M1
  go_enter Tryd.func18, Tryd.ntmps18
  go_wp2_with (first | refine wpList_buildC rfl 44 _ rfl (el k).toArray (by kernel_rfl) ?_ | refine wpList_store_mid rfl 44 _ _ rfl (w.heap.size + 1) 0 (el k).toArray (by rfl) (by rfl) TH.out I2.out O2.out ?_)
  refine bodyPost_ret (v := .agg (el k).toArray) (results_cellM Tryd.results18 _ _ _ _ _ (by rfl) LD.out) rfl ⟨rfl, BL.out⟩

set_option maxRecDepth 100000 in
set_option maxHeartbeats 4000000 in
theorem num_any (a : E4) (w : World) (h : a.ok) : Calls Tryd.prog 19 #[a.v] w fun e w' => e = .returned (lst a.n).v ∧ Below w.heap.size w w' := by
  have C := hidden (fun w => rleast_any a w h)
  have G0 := hidden (Gs.four (w.alloc (.cells #[.int .u64 a.x0, .int .u64 a.x1, .int .u64 a.x2, .int .u64 a.x3] 24)) 41)
  simp only [World.size_alloc] at G0
  have B0 := hidden (bl_alloc2 w (.cells #[.int .u64 a.x0, .int .u64 a.x1, .int .u64 a.x2, .int .u64 a.x3] 24) (.cells #[.int .u64 0, .int .u64 0, .int .u64 0, .int .u64 0] 41))
  unfold E4.v at C ⊢
  clear h
  go_enter Tryd.func19, Tryd.ntmps19
  go_wp2_with (first | (go_at_call 24; refine (C.out _).mono ?_; rintro e wa ⟨t, rfl, ht, ha⟩; have G1 := G0.out.keep ha; have t0 := G1.c 0 (by omega); have t1 := G1.c 1 (by omega); have t2 := G1.c 2 (by omega); have t3 := G1.c 3 (by omega); have f0 := G1.fr 0 (by omega); have f1 := G1.fr 1 (by omega); have f2 := G1.fr 2 (by omega); have f3 := G1.fr 3 (by omega); have BB := hidden (bl_trans B0.out ha); clear ha G1))
  have ht' : t = lst a.n := ht
  rw [← ht']
  refine bodyPost_ret (v := .agg #[.int .u64 t.x0, .int .u64 t.x1, .int .u64 t.x2, .int .u64 t.x3]) (by simp [results, Tryd.results19, go_sem, *]) rfl ⟨rfl, (((BB.out.setCell (Nat.le_succ _) _).setCell (Nat.le_succ _) _).setCell (Nat.le_succ _) _).setCell (Nat.le_succ _) _⟩
set_option maxRecDepth 100000 in
set_option maxHeartbeats 4000000 in
theorem its_any (a : E4) (w : World) (h : a.ok) : Calls Tryd.prog 14 #[.int .i64 2, a.v] w fun e w' => e = .returned (.agg (el (lst a.n)).toArray) ∧ Below w.heap.size w w' := by
  have C := hidden (fun w => num_any a w h)
  have D := hidden (fun w => lineOf_any (lst a.n) w)
  have MM := hidden (Bx1.new (w.alloc (.cells #[.int .u64 a.x0, .int .u64 a.x1, .int .u64 a.x2, .int .u64 a.x3] 24)) ze 44)
  have hB0 := hidden (bl_alloc2 w (.cells #[.int .u64 a.x0, .int .u64 a.x1, .int .u64 a.x2, .int .u64 a.x3] 24) (.cells ze.toArray 44))
  have LT := hidden (show w.heap.size + 1 < ((w.alloc (.cells #[.int .u64 a.x0, .int .u64 a.x1, .int .u64 a.x2, .int .u64 a.x3] 24)).alloc (.cells ze.toArray 44)).heap.size by simp)
  have hk : ((w.alloc (.cells #[.int .u64 a.x0, .int .u64 a.x1, .int .u64 a.x2, .int .u64 a.x3] 24)).alloc (.cells ze.toArray 44)).rangeAt w.heap.size 0 [.int .u64 a.x0, .int .u64 a.x1, .int .u64 a.x2, .int .u64 a.x3] := range_keepM (range_newM w [.int .u64 a.x0, .int .u64 a.x1, .int .u64 a.x2, .int .u64 a.x3] 24) (bl_alloc _ _)
  have x0 := hk 0 _ rfl; have x1 := hk 1 _ rfl; have x2 := hk 2 _ rfl; have x3 := hk 3 _ rfl
  simp only [World.size_alloc] at MM
  obtain ⟨z26, hz26⟩ : ∃ z, z = ze := ⟨_, rfl⟩
  have zl : Hid (z26.length = 26) := hidden (by rw [hz26]; rfl)
  generalize hW : (w.alloc (.cells #[.int .u64 a.x0, .int .u64 a.x1, .int .u64 a.x2, .int .u64 a.x3] 24)).alloc (.cells ze.toArray 44) = W at MM hB0 LT x0 x1 x2 x3
  rw [← hz26] at MM
  unfold ze at hW
  generalize lst a.n = r at C D ⊢
  unfold E4.v at C D ⊢
  have I2 := hidden (el_i2 r)
  have O2 := hidden (el_one r)
  clear hz26 hk h
  go_enter Tryd.func14, Tryd.ntmps14
  go_wp2_with (first | (go_at_call 19; refine (C.out _).mono ?_; rintro e wa ⟨rfl, ha⟩; have HA := hidden ha; clear ha C hW) | (go_at_call 18; refine (D.out _).mono ?_; rintro e wb ⟨rfl, hb⟩; have BB := bl_trans HA.out hb; have MB := MM.out.keep BB LT.out; have TH := hidden (show wb.there (w.heap.size + 1) 0 (el r).toArray.size by have := MB.t; rw [zl.out] at this; exact this); have MS := MB.set (ds := el r) (by rw [zl.out]; rfl); have LD := hidden (run_loadVar_mid (P := Tryd.prog) _ (w.heap.size + 1) 0 44 (el r) _ MS.r Tryd.underlying44 rfl einfoG); have BL := hidden (below_setCellsM (w0 := w) (w.heap.size + 1) (el r) 0 (bl_trans hB0.out BB) (Nat.le_succ _)); clear MS MB BB hb x0 x1 x2 x3) | refine wpList_store_mid rfl 44 _ _ rfl (w.heap.size + 1) 0 (el r).toArray (by rfl) (by rfl) TH.out I2.out O2.out ?_)
  refine bodyPost_ret (v := .agg (el r).toArray) (results_cellM Tryd.results14 _ _ _ _ _ (by rfl) LD.out) rfl ⟨rfl, BL.out⟩
end Go.Proofs.YtlijigolfggcfaaDoor
