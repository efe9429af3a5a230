import Derived.Test.YtjfffeolkellgaaDoorGk
namespace Go.Proofs.YtjfffeolkellgaaDoor
open Go.RowKit
theorem results_tupM {fn : Func} {p q : Tmp} {ty : TypeId} (h : fn.results = #[.cell p ty, .tmp q]) (tmps : Array Value) (P : Program) (w : World) (a : Addr) (v x : Value) (ha : tmps.getD p undef = .pointer (some a)) (hx : tmps.getD q undef = x) (hl : (loadVar ty a).run P w = .ok v w) :
    (results fn tmps).run P w = .ok (.tuple #[v, x]) w := by
  have ha' : tmps[p]?.getD undef = .pointer (some a) := by simpa using ha
  have hx' : tmps[q]?.getD undef = x := by simpa using hx
  simp only [results, h]
  simp [Result.andThen, ha', hx', asAddr, hl]
theorem heap_setCells_whole {b : Nat} {t : TypeId} : ∀ (ds : List Value) (o : Nat) (w : World) (C : Array Value), w.heap[b]? = some (.cells C t (0, 0)) → o + ds.length = C.size → (w.setCells b o ds).heap[b]? = some (.cells (C.toList.take o ++ ds).toArray t (0, 0))
  | [], o, w, C, h, hl => by
    simp only [World.setCells, List.append_nil]
    rw [h, List.take_of_length_le (by simp at hl ⊢; omega)]
  | d :: ds, o, w, C, h, hl => by
    rw [World.setCells]
    simp only [List.length_cons] at hl
    have h2 := heap_setCell_same w b o C t d h
    rw [heap_setCells_whole ds (o + 1) _ _ h2 (by simp; omega)]
    have e : (C.setIfInBounds o d).toList.take (o + 1) = C.toList.take o ++ [d] := by
      rw [Array.toList_setIfInBounds, List.take_succ_eq_append_getElem (by simp; omega)]
      simp [List.take_set_of_le]
    rw [e]
    simp
/-- the cells of no set -/
def zs : List Value := (.int .i64 0 :: (ze ++ ze ++ ze)) ++ [.slice none 0 0, .slice none 0 0]
theorem sinfo81 : (Tryd.prog.info? 45).map (·.size) = some 81 := by kernel_rfl
theorem zv81 (w : World) : (zeroValue 45).run Tryd.prog w = .ok (.agg zs.toArray) w := by kernel_rfl
theorem zs_one : zs.toArray.all (·.oneCell') = true := by simp [zs, ze, Value.oneCell']
set_option maxRecDepth 100000 in
set_option maxHeartbeats 4000000 in
theorem rbasis_no (n : Int) (w : World) (hn : n < 0 ∨ 64 < n) :
    Calls Tryd.prog 6 #[.int .i64 n] w fun e w' => e = .returned (.tuple #[.agg zs.toArray, .int .i64 1]) ∧ Below w.heap.size w w' := by
  have M0 := Bx1.new w zs 45
  have TH := hidden (show (w.alloc (.cells zs.toArray 45)).there w.heap.size 0 zs.toArray.size from M0.t)
  have MS := M0.set (ds := zs) rfl
  have LD := hidden (run_loadVar_mid (P := Tryd.prog) _ w.heap.size 0 45 zs _ MS.r Tryd.underlying45 rfl sinfo81)
  have BL := hidden (below_setCellsM (w0 := w) w.heap.size zs 0 (bl_alloc w (.cells zs.toArray 45)) (Nat.le_refl _))
  have I2 : Hid ((Tryd.prog.info? 45).map (·.size) = some zs.toArray.size) := hidden sinfo81
  have O2 := hidden zs_one
  clear M0 MS
  generalize hW : w.alloc (.cells zs.toArray 45) = W at TH LD BL
  have hzv := zv81
  by_cases h1 : n < 0
  · go_enter Tryd.func6, Tryd.ntmps6
    go_wp2_with (first | refine wpList_buildC rfl 45 _ rfl zs.toArray (by kernel_rfl) ?_ | refine wpList_store_mid rfl 45 _ _ rfl w.heap.size 0 zs.toArray (by rfl) (by rfl) TH.out I2.out O2.out ?_)
    refine bodyPost_ret (v := .tuple #[.agg zs.toArray, .int .i64 1]) (results_tupM Tryd.results6 _ _ _ _ _ _ (by rfl) (by rfl) LD.out) rfl ⟨rfl, BL.out⟩
  · have h2 : n > 64 := by omega
    go_enter Tryd.func6, Tryd.ntmps6
    go_wp2_with (first | refine wpList_buildC rfl 45 _ rfl zs.toArray (by kernel_rfl) ?_ | refine wpList_store_mid rfl 45 _ _ rfl w.heap.size 0 zs.toArray (by rfl) (by rfl) TH.out I2.out O2.out ?_)
    refine bodyPost_ret (v := .tuple #[.agg zs.toArray, .int .i64 1]) (results_tupM Tryd.results6 _ _ _ _ _ _ (by rfl) (by rfl) LD.out) rfl ⟨rfl, BL.out⟩
end Go.Proofs.YtjfffeolkellgaaDoor
