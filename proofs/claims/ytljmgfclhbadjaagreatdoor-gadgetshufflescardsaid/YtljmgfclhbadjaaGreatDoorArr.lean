import Derived.Test.YtljmgfclhbadjaaGreatDoorRows
import Derived.WalkKit
import Derived.ProofKit
import Derived.OpenShut
namespace Go.Proofs.YtljmgfclhbadjaaGreatDoor
open Go.ChangeShapes Go.WideShapes Go.ChangeAt Go.RowKit
theorem mapM_range {β : Type} (f : Nat → Option β) : ∀ (n : Nat) (ys : List β), ys.length = n → (∀ i, i < n → f i = ys[i]?) → (List.range n).mapM f = some ys
 | 0, ys, h, _ => by rw [List.length_eq_zero_iff.1 h]; rfl
 | n + 1, ys, h, hf => by
  have e : ys.take (n + 1) = ys.take n ++ [ys[n]] := List.take_succ_eq_append_getElem (by omega)
  rw [List.take_of_length_le (by omega)] at e
  have ih := mapM_range f n (ys.take n) (by simp; omega) (fun i hi => by rw [hf i (by omega)]; simp [hi])
  have hl := hf n (by omega)
  rw [List.getElem?_eq_getElem (by omega)] at hl
  rw [List.range_succ, List.mapM_append, ih]
  simp only [List.mapM_cons, List.mapM_nil, hl, Option.pure_def, Option.bind_eq_bind, Option.bind_some]
  rw [← e]
section
variable {H : Type} {enc : TypeId × Value → H} {P : Program} {w : World} {base : Nat} {sp : Nat → Bool} {held : Bool} {t e : TypeId} {n : Nat} {k : IntKind}
theorem open_arr {r : Reach} {b0 : Nat} {v : Value} {d : DataW H} {p : List MemPlace} (ht : P.underlying t = some (.array n e)) (he : P.underlying e = some (.int k)) (hce : P.cellsOf e = 1) (hct : P.cellsOf t = n)
  (hv : Value.okWide P w r b0 t v) (h : DataW.Trod enc P w base sp held t v d p) :
  ∃ zs : List Int, zs.length = n ∧ v = .agg (zs.map fun z => Value.int k z).toArray ∧ d = .agg (zs.map fun z => .lit (.int k z)) ∧ p = [] ∧ ∀ z ∈ zs, (Lit.int k z).wf = true := by
 simp only [Value.okWide, ht] at hv
 obtain ⟨cs, rfl, hsz, _⟩ := hv
 obtain ⟨fuel, hf⟩ := h
 obtain ⟨xs, m, _, hx, hl, hxl, hi⟩ := DataW.trod_array ht hf
 have key : ∀ i, i < n → ∃ z : Int, cs[i]? = some (.int k z) ∧ xs[i]? = some (.lit (.int k z), []) ∧ (Lit.int k z).wf = true := by
  intro i hin
  have h1 := hi i hin
  obtain ⟨y, hy⟩ : ∃ y, xs[i]? = some y := ⟨xs[i]'(by omega), by simp [hxl, hin]⟩
  rw [hy, hce, Nat.mul_one] at h1
  obtain ⟨z, hc, rfl, hw⟩ := DataW.trod_int he h1
  refine ⟨z, ?_, hy, hw⟩
  have := congrArg (·[0]?) hc
  simpa [List.getElem?_take, List.getElem?_drop, Value.cells] using this
 have hsn : cs.size = n := by rw [hsz, hct]
 refine ⟨cs.toList.map intOf, by simp [hsn], ?_, ?_, ?_, ?_⟩
 ·congr 1
  apply Array.ext_getElem?
  intro i
  by_cases hin : i < n
  ·obtain ⟨z, h1, _, _⟩ := key i hin
   simp [h1, intOf]
  ·rw [Array.getElem?_eq_none (by omega), Array.getElem?_eq_none (by simp; omega)]
 ·simp only [Prod.mk.injEq] at hx
  rw [hx.1]
  congr 1
  apply List.ext_getElem?
  intro i
  by_cases hin : i < n
  ·obtain ⟨z, h1, h2, _⟩ := key i hin
   simp [h1, h2, intOf]
  ·rw [List.getElem?_eq_none (by simp; omega), List.getElem?_eq_none (by simp; omega)]
 ·simp only [Prod.mk.injEq] at hx
  rw [hx.2]
  apply List.flatMap_eq_nil_iff.2
  intro y hy
  obtain ⟨i, hin, hiy⟩ := List.getElem_of_mem hy
  obtain ⟨z, _, h2, _⟩ := key i (by omega)
  rw [List.getElem?_eq_getElem hin, hiy] at h2
  simp at h2
  rw [h2]
 ·intro z hz
  obtain ⟨x, hx1, hx2⟩ := List.mem_map.1 hz
  obtain ⟨i, hin, hiy⟩ := List.getElem_of_mem hx1
  obtain ⟨z', h1, _, h3⟩ := key i (by simp at hin; omega)
  have : x = .int k z' := by
   have h4 : cs.toList[i]? = some x := by rw [List.getElem?_eq_getElem hin, hiy]
   simp at h4
   rw [h1] at h4
   simpa using h4.symm
  rw [← hx2, this]
  exact h3
theorem shut_arr (ht : P.underlying t = some (.array n e)) (he : P.underlying e = some (.int k)) (hce : P.cellsOf e = 1) (hct : P.cellsOf t = n) (zs : List Int) (hn : zs.length = n) (hw : ∀ z ∈ zs, (Lit.int k z).wf = true) :
  DataW.Trod enc P w base sp held t (.agg (zs.map fun z => Value.int k z).toArray) (.agg (zs.map fun z => .lit (.int k z))) [] := by
 refine ⟨2, ?_⟩
 unfold DataW.trod
 simp only [ht, hce, Nat.mul_one, Value.cells, List.length_map, hct]
 rw [if_pos (by simpa using hn)]
 have hr := mapM_range (fun i => DataW.trod enc P w base sp held 1 e (((zs.map fun z => Value.int k z).drop i).take 1)) n (zs.map fun z => ((.lit (.int k z) : DataW H), ([] : List MemPlace))) (by simpa using hn) (by
  intro i hi
  rw [← hn] at hi
  have hz : ((zs.map fun z => Value.int k z).drop i).take 1 = [.int k zs[i]] := by
   apply List.ext_getElem?
   intro j
   cases j with
   | zero => simp [List.getElem?_drop, hi]
   | succ j => simp [List.getElem?_take]
  rw [hz]
  simp [DataW.trod, he, hw _ (List.getElem_mem hi), hi])
 rw [hr]
 simp [List.flatMap_map]
end
end Go.Proofs.YtljmgfclhbadjaaGreatDoor
