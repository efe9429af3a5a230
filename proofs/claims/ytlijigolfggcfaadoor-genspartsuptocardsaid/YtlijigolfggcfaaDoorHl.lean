import Derived.Test.YtlijigolfggcfaaDoorHh
namespace Go.Proofs.YtlijigolfggcfaaDoor
open Go.RowKit
set_option linter.unusedVariables false
/-- the world behind Part's first two blocks -/
theorem part_start (w : World) (cs : List Value) : Bx1 ((w.alloc (.cells cs.toArray 32)).alloc (.cells zs14.toArray 32)) w.heap.size cs ∧ Bx1 ((w.alloc (.cells cs.toArray 32)).alloc (.cells zs14.toArray 32)) (w.heap.size + 1) zs14 := by
  refine ⟨(Bx1.new w cs 32).keep (bl_alloc _ _) (by simp), ?_⟩
  have := Bx1.new (w.alloc (.cells cs.toArray 32)) zs14 32
  simpa using this
set_option maxRecDepth 100000 in
set_option maxHeartbeats 8000000 in
theorem part_no (b f q : E4) (g h cg ch LG LH : Nat) (fr n : Int) (w : World) (hn : fr < 0 ∨ n < 0) :
    Calls Tryd.prog 6 #[.agg (gs14 b f q (.slice (some ⟨g, 0, none⟩) LG cg) (.slice (some ⟨h, 0, none⟩) LH ch)).toArray, .int .i64 fr, .int .i64 n] w fun e w' => e = .returned (.tuple #[.agg zs14.toArray, .int .i64 1]) ∧ Below w.heap.size w w' := by
  obtain ⟨cs, hcs⟩ : ∃ l, l = (gs14 b f q (.slice (some ⟨g, 0, none⟩) LG cg) (.slice (some ⟨h, 0, none⟩) LH ch)) := ⟨_, rfl⟩
  rw [← hcs]
  obtain ⟨M1, M2⟩ := part_start w cs
  have hzv := zv14
  have I4 : Hid ((Tryd.prog.info? 32).map (·.size) = some zs14.toArray.size) := hidden info14
  have OZ : Hid (zs14.toArray.all (·.oneCell') = true) := hidden (gs14_one _ _ _ none none 0 0 0 0)
  have TH := hidden (show ((w.alloc (.cells cs.toArray 32)).alloc (.cells zs14.toArray 32)).there (w.heap.size + 1) 0 zs14.toArray.size from M2.t)
  have MS := M2.set (ds := zs14) rfl
  have LD := hidden (run_loadVar_mid (P := Tryd.prog) _ (w.heap.size + 1) 0 32 zs14 _ MS.r Tryd.underlying32 rfl info14)
  have BL := hidden (below_setCellsM (w0 := w) (w.heap.size + 1) zs14 0 (bl_alloc2 w (.cells cs.toArray 32) (.cells zs14.toArray 32)) (Nat.le_succ _))
  generalize hW : (w.alloc (.cells cs.toArray 32)).alloc (.cells zs14.toArray 32) = W at TH LD BL
  clear hcs M1 M2 MS
  by_cases h1 : fr < 0
  · go_enter Tryd.func6, Tryd.ntmps6
    go_wp2_with (first | refine wpList_buildC rfl 32 _ rfl zs14.toArray (by kernel_rfl) ?_ | refine wpList_store_mid rfl 32 _ _ rfl (w.heap.size + 1) 0 zs14.toArray (by rfl) (by rfl) TH.out I4.out OZ.out ?_)
    refine bodyPost_ret (v := .tuple #[.agg zs14.toArray, .int .i64 1]) (results_tupM Tryd.results6 _ _ _ _ _ _ (by rfl) (by rfl) LD.out) rfl ⟨rfl, BL.out⟩
  · have h2 : n < 0 := by omega
    go_enter Tryd.func6, Tryd.ntmps6
    go_wp2_with (first | refine wpList_buildC rfl 32 _ rfl zs14.toArray (by kernel_rfl) ?_ | refine wpList_store_mid rfl 32 _ _ rfl (w.heap.size + 1) 0 zs14.toArray (by rfl) (by rfl) TH.out I4.out OZ.out ?_)
    refine bodyPost_ret (v := .tuple #[.agg zs14.toArray, .int .i64 1]) (results_tupM Tryd.results6 _ _ _ _ _ _ (by rfl) (by rfl) LD.out) rfl ⟨rfl, BL.out⟩
end Go.Proofs.YtlijigolfggcfaaDoor
