import Derived.Test.YtbmbopapmajaaaaDoorCmh
import Derived.Deep.MidRow
namespace Go.Proofs.YtbmbopapmajaaaaDoor
open Go.RowKit
set_option linter.unusedVariables false
set_option linter.unusedSimpArgs false
open Cm (Wr Tm co bf Ls lf ins Eqm)
namespace Ci
set_option maxRecDepth 100000
set_option maxHeartbeats 4000000
theorem wp_storeE {P : Program} {op : Oper} {a : Act} {w : World} {Kg : Act → World → Prop} {Q : Exit → Act → World → Prop} (ty : TypeId) (x y : Operand) (ho : op.op = .store ty x y) (b o : Nat) (cs : List Value) (hx : a.eval x = .pointer (some ⟨b, o, none⟩)) (hy : a.eval y = .agg cs.toArray) (ht : w.there b o cs.length) (hi : (P.info? ty).map (·.size) = some cs.length) (h1 : cs.toArray.all (·.oneCell') = true) (hd : op.dst = none)
    (h : ∀ w', w' = w.setCells b o cs → Kg a w') : op.wp P a w Kg Q := by
  refine wp_store_mid ty x y ho b o cs.toArray hx hy (by simpa using ht) (by simpa using hi) h1 ?_
  have := h _ rfl
  simpa [hd, Act.put] using this
theorem there_newM (w : World) (cs : List Value) (t : TypeId) : (w.alloc (.cells cs.toArray t)).there w.heap.size 0 cs.length := fun j hj => by
  refine ⟨?_, by go_simp⟩
  rw [cell_of_row _ _ (0 + j) cs.toArray t (0, 0) (heap_alloc_new w _), Nat.zero_add]
  simp [hj]
theorem there_bl {w w' : World} {b o n : Nat} (h : w.there b o n) (hb : Below w.heap.size w w') : w'.there b o n := fun j hj => by
  obtain ⟨h1, h2⟩ := h j hj
  obtain ⟨v, hv⟩ := Option.isSome_iff_exists.1 h1
  have hl := World.block_lt_of_cell? w _ hv
  exact ⟨by rw [cell_keep hv hb]; rfl, (hb.frozen (p := ⟨b, o + j, none⟩) hl).trans h2⟩
theorem gb_setCells (b : Nat) : ∀ (cs : List Value) (o : Nat) (w : World), w.grownBy (w.setCells b o cs) (some b)
  | [], _, w => World.grownBy.refl _ _
  | c :: cs, o, w => gb_tr (show w.grownBy (w.setCell ⟨b, o, none⟩ c) (some b) from ⟨rfl, rfl, rfl, by simp [World.setCell], fun i _ hi => heap_setCell_other w ⟨b, o, none⟩ i c (fun e => hi (by rw [e]))⟩) (gb_setCells b cs (o + 1) (w.setCell ⟨b, o, none⟩ c))
theorem run_index_arrC {P : Program} {w : World} {t e : TypeId} {n : Nat} {cs : Array Value} {k : IntKind} {i : Nat} {v : Value} (h : P.underlying t = some (.array n e)) (hp : P.plainKey e = true) {x : TypeInfo} (hinfo : P.info? e = some x) (hc : P.cellsOf e = 1) (hn : (i : Int) < n) (hv : cs[i]? = some v) :
    (Instr.index t (.agg cs) (.int k i)).run P w = .ok v w := by
  have hr : 0 ≤ (i : Int) ∧ (i : Int) < (n : Int) := by omega
  have hsz := run_sizeOf w hinfo
  rw [hc] at hsz
  simp only [Instr.index, run_underlying h, asIntOf, Sem.run_bind, Sem.run_pure, Result.andThen_ok, if_pos hr, hsz, Int.toNat_natCast, Nat.mul_one, run_part_plain w hp hv]
section
variable {base : Nat} {w : World} {s m Kg : Nat} {v : Value} {vs : List Value} {Q : List (List Tm)}
end
theorem one6 (m Kg : Nat) : ([.int .i64 0, .int .i64 1, .int .i64 (Kg : Int), .int .i64 (Kg : Int), .int .i64 (Kg : Int), .int .i64 (m : Int)] : List Value).toArray.all (·.oneCell') = true := by simp [Value.oneCell']
/-- is the wire there? -/
def ct (m Kg : Nat) : Nat → Int
  | 1 => 1 | 2 => Kg | 3 => Kg | 4 => Kg | 5 => m | _ => 0
def hs (m Kg : Nat) (q : Wr) : Bool := decide (1 ≤ q.1) && (decide (q.1 < 6) && (decide (0 ≤ q.2) && decide (q.2 < ct m Kg q.1.toNat)))
end Ci
end Go.Proofs.YtbmbopapmajaaaaDoor
