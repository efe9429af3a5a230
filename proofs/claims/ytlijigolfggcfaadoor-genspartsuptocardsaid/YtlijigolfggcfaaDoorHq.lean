import Derived.Test.YtlijigolfggcfaaDoorHn
namespace Go.Proofs.YtlijigolfggcfaaDoor
open Go.RowKit
set_option linter.unusedVariables false
set_option maxRecDepth 100000 in
set_option maxHeartbeats 8000000 in
theorem rpart_no (y0 y1 y2 : E4) (PG PH : Option Addr) (LG cG LH cH : Nat) (fr n : Int) (w : World) (hn : fr < 0 ∨ n < 0) :
    Calls Tryd.prog 7 #[.agg (hdl y0 y1 y2 ++ [Value.slice PG LG cG, Value.slice PH LH cH]).toArray, .int .i64 fr, .int .i64 n] w fun e w' => e = .returned (.tuple #[.agg zs.toArray, .int .i64 1]) ∧ Below w.heap.size w w' := by
  obtain ⟨cs, hcs⟩ : ∃ l, l = (hdl y0 y1 y2 ++ [Value.slice PG LG cG, Value.slice PH LH cH]) := ⟨_, rfl⟩
  rw [← hcs]
  have M1 := (Bx1.new w cs 47).keep (bl_alloc _ (.cells zs.toArray 47)) (show w.heap.size < (w.alloc (.cells cs.toArray 47)).heap.size by simp)
  have M2 := Bx1.new (w.alloc (.cells cs.toArray 47)) zs 47
  simp only [World.size_alloc] at M2
  have B0 := bl_alloc2 w (.cells cs.toArray 47) (.cells zs.toArray 47)
  generalize hW : (w.alloc (.cells cs.toArray 47)).alloc (.cells zs.toArray 47) = W at M1 M2 B0
  have hzv := zv81
  have e79 : W.cell? ⟨w.heap.size, 79, none⟩ = some (.slice PG LG cG) := by have := M1.r 79 (.slice PG LG cG) (by rw [hcs]; rfl); simpa using this
  have e80 : W.cell? ⟨w.heap.size, 80, none⟩ = some (.slice PH LH cH) := by have := M1.r 80 (.slice PH LH cH) (by rw [hcs]; rfl); simpa using this
  have I4 : Hid ((Tryd.prog.info? 47).map (·.size) = some zs.toArray.size) := hidden sinfo81
  have OZ := hidden zs_one
  have TH := hidden (show W.there (w.heap.size + 1) 0 zs.toArray.size from M2.t)
  have MS := M2.set (ds := zs) rfl
  have LD := hidden (run_loadVar_mid (P := Tryd.prog) _ (w.heap.size + 1) 0 47 zs _ MS.r Tryd.underlying47 rfl sinfo81)
  have BL := hidden (below_setCellsM (w0 := w) (w.heap.size + 1) zs 0 B0 (Nat.le_succ _))
  clear hcs M1 M2 MS B0
  by_cases h1 : fr < 0
  · go_enter Tryd.func7, Tryd.ntmps7
    go_wp2_with (first | refine wpList_buildC rfl 47 _ rfl zs.toArray (by kernel_rfl) ?_ | refine wpList_store_mid rfl 47 _ _ rfl (w.heap.size + 1) 0 zs.toArray (by rfl) (by rfl) TH.out I4.out OZ.out ?_)
    refine bodyPost_ret (v := .tuple #[.agg zs.toArray, .int .i64 1]) (results_tupM Tryd.results7 _ _ _ _ _ _ (by rfl) (by rfl) LD.out) rfl ⟨rfl, BL.out⟩
  · have h2 : n < 0 := by omega
    go_enter Tryd.func7, Tryd.ntmps7
    go_wp2_with (first | refine wpList_buildC rfl 47 _ rfl zs.toArray (by kernel_rfl) ?_ | refine wpList_store_mid rfl 47 _ _ rfl (w.heap.size + 1) 0 zs.toArray (by rfl) (by rfl) TH.out I4.out OZ.out ?_)
    refine bodyPost_ret (v := .tuple #[.agg zs.toArray, .int .i64 1]) (results_tupM Tryd.results7 _ _ _ _ _ _ (by rfl) (by rfl) LD.out) rfl ⟨rfl, BL.out⟩
set_option maxRecDepth 100000 in
set_option maxHeartbeats 8000000 in
theorem rpart_short (y0 y1 y2 : E4) (PG PH : Option Addr) (LG cG LH cH : Nat) (fr n : Int) (w : World) (hG : LG ≤ 1048576) (hH : LH ≤ 1048576) (hfr : 0 ≤ fr ∧ fr ≤ 9223372036854775807) (hn0 : 0 ≤ n ∧ n ≤ 9223372036854775807) (hs : (LG : Int) < fr + n ∨ (LH : Int) < fr + n) :
    Calls Tryd.prog 7 #[.agg (hdl y0 y1 y2 ++ [Value.slice PG LG cG, Value.slice PH LH cH]).toArray, .int .i64 fr, .int .i64 n] w fun e w' => e = .returned (.tuple #[.agg zs.toArray, .int .i64 2]) ∧ Below w.heap.size w w' := by
  obtain ⟨cs, hcs⟩ : ∃ l, l = (hdl y0 y1 y2 ++ [Value.slice PG LG cG, Value.slice PH LH cH]) := ⟨_, rfl⟩
  rw [← hcs]
  have M1 := (Bx1.new w cs 47).keep (bl_alloc _ (.cells zs.toArray 47)) (show w.heap.size < (w.alloc (.cells cs.toArray 47)).heap.size by simp)
  have M2 := Bx1.new (w.alloc (.cells cs.toArray 47)) zs 47
  simp only [World.size_alloc] at M2
  have B0 := bl_alloc2 w (.cells cs.toArray 47) (.cells zs.toArray 47)
  generalize hW : (w.alloc (.cells cs.toArray 47)).alloc (.cells zs.toArray 47) = W at M1 M2 B0
  have hzv := zv81
  have e79 : W.cell? ⟨w.heap.size, 79, none⟩ = some (.slice PG LG cG) := by have := M1.r 79 (.slice PG LG cG) (by rw [hcs]; rfl); simpa using this
  have e80 : W.cell? ⟨w.heap.size, 80, none⟩ = some (.slice PH LH cH) := by have := M1.r 80 (.slice PH LH cH) (by rw [hcs]; rfl); simpa using this
  have I4 : Hid ((Tryd.prog.info? 47).map (·.size) = some zs.toArray.size) := hidden sinfo81
  have OZ := hidden zs_one
  have TH := hidden (show W.there (w.heap.size + 1) 0 zs.toArray.size from M2.t)
  have MS := M2.set (ds := zs) rfl
  have LD := hidden (run_loadVar_mid (P := Tryd.prog) _ (w.heap.size + 1) 0 47 zs _ MS.r Tryd.underlying47 rfl sinfo81)
  have BL := hidden (below_setCellsM (w0 := w) (w.heap.size + 1) zs 0 B0 (Nat.le_succ _))
  clear hcs M1 M2 MS B0
  have f0 : ¬ fr < 0 := by omega
  have n0 : ¬ n < 0 := by omega
  have w1 : IntKind.i64.wrap ((LG : Int) - n) = (LG : Int) - n := IntWalk.i64_in _ (by omega)
  have w2 : IntKind.i64.wrap ((LH : Int) - n) = (LH : Int) - n := IntWalk.i64_in _ (by omega)
  by_cases c1 : n > (LG : Int)
  · have c1' : (LG : Int) < n := c1
    go_enter Tryd.func7, Tryd.ntmps7
    go_wp2_with (first | refine wpList_buildC rfl 47 _ rfl zs.toArray (by kernel_rfl) ?_ | refine wpList_store_mid rfl 47 _ _ rfl (w.heap.size + 1) 0 zs.toArray (by rfl) (by rfl) TH.out I4.out OZ.out ?_)
    refine bodyPost_ret (v := .tuple #[.agg zs.toArray, .int .i64 2]) (results_tupM Tryd.results7 _ _ _ _ _ _ (by rfl) (by rfl) LD.out) rfl ⟨rfl, BL.out⟩
  · have c1' : ¬ (LG : Int) < n := c1
    by_cases c2 : n > (LH : Int)
    · have c2' : (LH : Int) < n := c2
      go_enter Tryd.func7, Tryd.ntmps7
      go_wp2_with (first | refine wpList_buildC rfl 47 _ rfl zs.toArray (by kernel_rfl) ?_ | refine wpList_store_mid rfl 47 _ _ rfl (w.heap.size + 1) 0 zs.toArray (by rfl) (by rfl) TH.out I4.out OZ.out ?_)
      refine bodyPost_ret (v := .tuple #[.agg zs.toArray, .int .i64 2]) (results_tupM Tryd.results7 _ _ _ _ _ _ (by rfl) (by rfl) LD.out) rfl ⟨rfl, BL.out⟩
    · have c2' : ¬ (LH : Int) < n := c2
      by_cases c3 : fr > (LG : Int) - n
      · have c3' : (LG : Int) - n < fr := c3
        go_enter Tryd.func7, Tryd.ntmps7
        go_wp2_with (first | refine wpList_buildC rfl 47 _ rfl zs.toArray (by kernel_rfl) ?_ | refine wpList_store_mid rfl 47 _ _ rfl (w.heap.size + 1) 0 zs.toArray (by rfl) (by rfl) TH.out I4.out OZ.out ?_)
        refine bodyPost_ret (v := .tuple #[.agg zs.toArray, .int .i64 2]) (results_tupM Tryd.results7 _ _ _ _ _ _ (by rfl) (by rfl) LD.out) rfl ⟨rfl, BL.out⟩
      · have c3' : ¬ (LG : Int) - n < fr := c3
        have c4 : fr > (LH : Int) - n := by omega
        have c4' : (LH : Int) - n < fr := c4
        go_enter Tryd.func7, Tryd.ntmps7
        go_wp2_with (first | refine wpList_buildC rfl 47 _ rfl zs.toArray (by kernel_rfl) ?_ | refine wpList_store_mid rfl 47 _ _ rfl (w.heap.size + 1) 0 zs.toArray (by rfl) (by rfl) TH.out I4.out OZ.out ?_)
        refine bodyPost_ret (v := .tuple #[.agg zs.toArray, .int .i64 2]) (results_tupM Tryd.results7 _ _ _ _ _ _ (by rfl) (by rfl) LD.out) rfl ⟨rfl, BL.out⟩
end Go.Proofs.YtlijigolfggcfaaDoor
