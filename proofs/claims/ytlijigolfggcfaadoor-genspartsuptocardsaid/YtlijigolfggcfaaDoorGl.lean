import Derived.Test.YtlijigolfggcfaaDoorGk
namespace Go.Proofs.YtlijigolfggcfaaDoor
open Go.RowKit
theorem results_tupM {fn : Func} {p q : Tmp} {ty : TypeId} (h : fn.results = #[.cell p ty, .tmp q]) (tmps : Array Value) (P : Program) (w : World) (a : Addr) (v x : Value) (ha : tmps.getD p undef = .pointer (some a)) (hx : tmps.getD q undef = x) (hl : (loadVar ty a).run P w = .ok v w) :
    (results fn tmps).run P w = .ok (.tuple #[v, x]) w := by
  have ha' : tmps[p]?.getD undef = .pointer (some a) := by simpa using ha
  have hx' : tmps[q]?.getD undef = x := by simpa using hx
  simp only [results, h]
  simp [Result.andThen, ha', hx', asAddr, hl]
theorem heap_setCells_whole {b : Nat} {t : TypeId} : ∀ (ds : List Value) (o : Nat) (w : World) (C : Array Value), w.heap[b]? = some (.cells C t (0, 0)) → o + ds.length = C.size → (w.setCells b o ds).heap[b]? = some (.cells (C.toList.take o ++ ds).toArray t (0, 0))
  | [], o, w, C, h, hl => by
    simp only [World.setCells, List.append_nil]
    rw [h, List.take_of_length_le (by simp at hl ⊢; omega)]
  | d :: ds, o, w, C, h, hl => by
    rw [World.setCells]
    simp only [List.length_cons] at hl
    have h2 := heap_setCell_same w b o C t d h
    rw [heap_setCells_whole ds (o + 1) _ _ h2 (by simp; omega)]
    have e : (C.setIfInBounds o d).toList.take (o + 1) = C.toList.take o ++ [d] := by
      rw [Array.toList_setIfInBounds, List.take_succ_eq_append_getElem (by simp; omega)]
      simp [List.take_set_of_le]
    rw [e]
    simp
/-- the cells of no set -/
def zs : List Value := (.int .i64 0 :: (ze ++ ze ++ ze)) ++ [.slice none 0 0, .slice none 0 0]
theorem sinfo81 : (Tryd.prog.info? 47).map (·.size) = some 81 := by kernel_rfl
theorem zv81 (w : World) : (zeroValue 47).run Tryd.prog w = .ok (.agg zs.toArray) w := by kernel_rfl
theorem zs_one : zs.toArray.all (·.oneCell') = true := by simp [zs, ze, Value.oneCell']
end Go.Proofs.YtlijigolfggcfaaDoor
