import Derived.Test.YtghcfcglakbkeaaGreatDoorCards
import Derived.Test.YtghcfcglakbkeaaGreatDoorTie
import Derived.Test.YtghcfcglakbkeaaGreatDoorArr
import Derived.Test.YtghcfcglakbkeaaGreatDoorEbpy
import Derived.Deep.DeepHandedRow
import Derived.Lib.LaidTab
import Derived.ChangeSlices
import Derived.SizedLaws
import Derived.Carry
namespace Go.Proofs.YtghcfcglakbkeaaGreatDoor.circuitBuilds
open Go.ChangeShapes Go.WideShapes Go.ChangeAt Go.RowKit
open Ci (Sl Lf Stp Scr Scl Mk builds_any)
open Cm (Wr)
set_option linter.unusedVariables false
set_option maxRecDepth 100000
theorem laidOut : laidOutB Tryz.prog = true := by kernel_rfl
theorem own : ownKnob Tryz.prog.godebug = none := by kernel_rfl
theorem gTab : Tryz.prog.globalNamed "veil/scalar.table" = some 1 := by kernel_rfl
theorem gTabType : (Tryz.prog.globals[1]?).map (·.type) = some 180 := by kernel_rfl
theorem gMark : Tryz.prog.globalNamed "veil/veillaw19.mark" = some 0 := by kernel_rfl
theorem gMarkType : (Tryz.prog.globals[0]?).map (·.type) = some 123 := by kernel_rfl
theorem undT : Tryz.prog.underlying 180 = some (.array 3 41) := by kernel_rfl
theorem celT : Tryz.prog.cellsOf 180 = 12 := by kernel_rfl
theorem undS : Tryz.prog.underlying 41 = some (.array 4 39) := by kernel_rfl
theorem celS : Tryz.prog.cellsOf 41 = 4 := by kernel_rfl
theorem undL : Tryz.prog.underlying 41 = some (.array 4 39) := by kernel_rfl
theorem celL : Tryz.prog.cellsOf 41 = 4 := by kernel_rfl
theorem undu : Tryz.prog.underlying 39 = some (.int .u64) := by kernel_rfl
theorem celu : Tryz.prog.cellsOf 39 = 1 := by kernel_rfl
theorem undi : Tryz.prog.underlying 3 = some (.int .i64) := by kernel_rfl
theorem celi : Tryz.prog.cellsOf 3 = 1 := by kernel_rfl
theorem undW : ∃ f0 f1 : Field, Tryz.prog.underlying 79 = some (.struct #[f0, f1]) ∧ (f0.type = 3 ∧ f0.offset = 0) ∧ (f1.type = 3 ∧ f1.offset = 1) :=
 ⟨(Tryz.prog.fieldsOf 79)[0]!, (Tryz.prog.fieldsOf 79)[1]!, by kernel_rfl, ⟨by kernel_rfl, by kernel_rfl⟩, ⟨by kernel_rfl, by kernel_rfl⟩⟩
theorem celW : Tryz.prog.cellsOf 79 = 2 := by kernel_rfl
theorem undY : ∃ f0 f1 : Field, Tryz.prog.underlying 123 = some (.struct #[f0, f1]) ∧ (f0.type = 79 ∧ f0.offset = 0) ∧ (f1.type = 41 ∧ f1.offset = 2) :=
 ⟨(Tryz.prog.fieldsOf 123)[0]!, (Tryz.prog.fieldsOf 123)[1]!, by kernel_rfl, ⟨by kernel_rfl, by kernel_rfl⟩, ⟨by kernel_rfl, by kernel_rfl⟩⟩
theorem celY : Tryz.prog.cellsOf 123 = 6 := by kernel_rfl
theorem undM : Tryz.prog.underlying 38 = some (.slice 123) := by kernel_rfl
theorem celM : Tryz.prog.cellsOf 38 = 1 := by kernel_rfl
theorem undC : ∃ f0 f1 f2 : Field, Tryz.prog.underlying 65 = some (.struct #[f0, f1, f2]) ∧ (f0.type = 3 ∧ f0.offset = 0) ∧ (f1.type = 38 ∧ f1.offset = 1) ∧ (f2.type = 38 ∧ f2.offset = 2) :=
 ⟨(Tryz.prog.fieldsOf 65)[0]!, (Tryz.prog.fieldsOf 65)[1]!, (Tryz.prog.fieldsOf 65)[2]!, by kernel_rfl, ⟨by kernel_rfl, by kernel_rfl⟩, ⟨by kernel_rfl, by kernel_rfl⟩, ⟨by kernel_rfl, by kernel_rfl⟩⟩
theorem celC : Tryz.prog.cellsOf 65 = 3 := by kernel_rfl
theorem undK : Tryz.prog.underlying 22 = some (.slice 65) := by kernel_rfl
theorem rows_of {H : Type} {enc : TypeId × Value → H} {P : Program} {w : World} {base : Nat} {sp : Nat → Bool} {held : Bool} {fuel : Nat} {t s e : TypeId} {n m : Nat} {k : IntKind} {cs : List Value} {zss : List (List Int)} {p : List MemPlace}
  (ht : P.underlying t = some (.array n s)) (hs : P.underlying s = some (.array m e)) (he : P.underlying e = some (.int k)) (hce : P.cellsOf e = 1) (hcs : P.cellsOf s = m) (hct : P.cellsOf t = n * m)
  (h : DataW.trod enc P w base sp held fuel t cs = some (.agg (zss.map fun zs => Lib.tabData k zs), p)) : ∀ i zs, i < n → zss[i]? = some zs → (cs.drop (i * m)).take m = zs.map fun z => Value.int k z := by
 cases fuel with
 | zero => simp [DataW.trod] at h
 | succ fuel =>
  simp only [DataW.trod, ht, hcs, hct] at h
  split at h
  ·obtain ⟨xs, hm, hx⟩ := Option.map_eq_some_iff.1 h
   have hxs : xs.map (·.1) = zss.map fun zs => (Lib.tabData k zs : DataW H) := by
    have := congrArg Prod.fst hx
    simpa using this
   intro i zs hi hz
   obtain ⟨b, hb, hf⟩ := Lib.mapM_at hm i i (by simp [hi])
   have h2 : (xs.map (·.1))[i]? = some b.1 := by simp [hb]
   rw [hxs] at h2
   simp only [List.getElem?_map, hz, Option.map_some, Option.some.injEq] at h2
   obtain ⟨b1, b2⟩ := b
   subst h2
   exact Lib.cells_of_tab hs he hce hcs hf
  ·cases h
theorem one_leU {H : Type} (d : DataW H) : 1 ≤ Rows.uptoBulk d := by
 cases d with
 | lit l => cases l <;> simp [Rows.uptoBulk]
 | nil => simp [Rows.uptoBulk]
 | ptr d => simp [Rows.uptoBulk]
 | slice elems spare => simp [Rows.uptoBulk]
 | agg parts => simp [Rows.uptoBulk]
 | iface t d => simp [Rows.uptoBulk]
 | map entries => simp [Rows.uptoBulk]
 | held h => simp [Rows.uptoBulk]
theorem length_leU {H : Type} (l : List (DataW H)) : l.length ≤ Rows.uptoBulkAll l := by
 induction l with
 | nil => simp [Rows.uptoBulkAll]
 | cons x r ih => have := one_leU x; simp only [Rows.uptoBulkAll, List.length_cons]; omega
theorem slice_leU {H : Type} (elems spare : List (DataW H)) : elems.length + spare.length + 1 ≤ Rows.uptoBulk (.slice elems spare) := by
 have h1 := length_leU elems
 have h2 := length_leU spare
 simp only [Rows.uptoBulk]
 omega
theorem wd_of {z : Int} (h : (Lit.int .u64 z).wf = true) : Sm.Wd z := by
 have := bounds_u64 h
 unfold Sm.Wd; omega
section
variable {H : Type} {enc : TypeId × Value → H} {w : World} {base : Nat} {sp : Nat → Bool} {held : Bool}
theorem four {fuel : Nat} {cs : List Value} {x : DataW H × List MemPlace} (h : DataW.trod enc Tryz.prog w base sp held fuel 41 cs = some x) :
  ∃ z : E4, z.ok ∧ cs = [.int .u64 z.x0, .int .u64 z.x1, .int .u64 z.x2, .int .u64 z.x3] := by
 obtain ⟨xs, m, _, hx, hl, hxl, hi⟩ := DataW.trod_array undL h
 rw [celL] at hl
 have key : ∀ i, i < 4 → ∃ z : Int, cs[i]? = some (.int .u64 z) ∧ (Lit.int .u64 z).wf = true := by
  intro i hin
  have h1 := hi i hin
  obtain ⟨y, hy⟩ : ∃ y, xs[i]? = some y := ⟨xs[i]'(by omega), by simp [hxl, hin]⟩
  rw [hy, celu, Nat.mul_one] at h1
  obtain ⟨z, hc, rfl, hw⟩ := DataW.trod_int undu h1
  refine ⟨z, ?_, hw⟩
  have := congrArg (·[0]?) hc
  simpa [List.getElem?_take, List.getElem?_drop] using this
 obtain ⟨z0, c0, w0⟩ := key 0 (by omega)
 obtain ⟨z1, c1, w1⟩ := key 1 (by omega)
 obtain ⟨z2, c2, w2⟩ := key 2 (by omega)
 obtain ⟨z3, c3, w3⟩ := key 3 (by omega)
 refine ⟨⟨z0, z1, z2, z3⟩, ⟨wd_of w0, wd_of w1, wd_of w2, wd_of w3⟩, ?_⟩
 match cs, hl, c0, c1, c2, c3 with
 | [y0, y1, y2, y3], _, c0, c1, c2, c3 =>
  simp only [List.getElem?_cons_zero, List.getElem?_cons_succ, Option.some.injEq] at c0 c1 c2 c3
  rw [c0, c1, c2, c3]
theorem two {fuel : Nat} {cs : List Value} {x : DataW H × List MemPlace} (h : DataW.trod enc Tryz.prog w base sp held fuel 79 cs = some x) :
  ∃ q : Wr, cs = [.int .i64 q.1, .int .i64 q.2] ∧ x.1 = .agg [.lit (.int .i64 q.1), .lit (.int .i64 q.2)] := by
 obtain ⟨f0, f1, hu, ⟨t0, o0⟩, ⟨t1, o1⟩⟩ := undW
 obtain ⟨xs, m, _, hx, hl, hxl, hfd⟩ := DataW.trod_struct hu h
 have h0 := hfd 0 f0 rfl
 have h1 := hfd 1 f1 rfl
 rw [t0, o0, celi] at h0
 rw [t1, o1, celi] at h1
 have hxl' : xs.length = 2 := hxl
 rw [celW] at hl
 match xs, hxl' with
 | [y0, y1], _ =>
  simp only [List.getElem?_cons_zero, List.getElem?_cons_succ] at h0 h1
  obtain ⟨n0, c0, rfl, _⟩ := DataW.trod_int undi h0
  obtain ⟨n1, c1, rfl, _⟩ := DataW.trod_int undi h1
  match cs, hl with
  | [a, b], _ =>
   simp at c0 c1
   subst c0
   subst c1
   refine ⟨(n0, n1), rfl, ?_⟩
   rw [hx]
   rfl
theorem six {fuel : Nat} {cs : List Value} {x : DataW H × List MemPlace} (h : DataW.trod enc Tryz.prog w base sp held fuel 123 cs = some x) :
  ∃ t : Trm, t.a.ok ∧ cs = t.cs ∧ ∃ m q, x.1 = .agg [.agg [.lit (.int .i64 t.q.1), .lit (.int .i64 t.q.2)], q] ∧ DataW.trod enc Tryz.prog w base sp held m 41 [.int .u64 t.a.x0, .int .u64 t.a.x1, .int .u64 t.a.x2, .int .u64 t.a.x3] = some (q, (DataW.trod enc Tryz.prog w base sp held m 41 [.int .u64 t.a.x0, .int .u64 t.a.x1, .int .u64 t.a.x2, .int .u64 t.a.x3]).elim [] (·.2)) := by
 obtain ⟨f0, f1, hu, ⟨t0, o0⟩, ⟨t1, o1⟩⟩ := undY
 obtain ⟨xs, m, _, hx, hl, hxl, hfd⟩ := DataW.trod_struct hu h
 have h0 := hfd 0 f0 rfl
 have h1 := hfd 1 f1 rfl
 rw [t0, o0, celW] at h0
 rw [t1, o1, celL] at h1
 have hxl' : xs.length = 2 := hxl
 rw [celY] at hl
 match xs, hxl' with
 | [y0, y1], _ =>
  simp only [List.getElem?_cons_zero, List.getElem?_cons_succ] at h0 h1
  obtain ⟨q, c0, e0⟩ := two h0
  obtain ⟨a, oa, c1⟩ := four h1
  match cs, hl with
  | [b0, b1, b2, b3, b4, b5], _ =>
   simp only [List.drop_zero, List.take_succ_cons, List.take_zero, List.drop_succ_cons, List.cons.injEq, and_true] at c0 c1
   obtain ⟨rfl, rfl⟩ := c0
   obtain ⟨rfl, rfl, rfl, rfl⟩ := c1
   simp only [List.drop_zero, List.take_succ_cons, List.take_zero, List.drop_succ_cons] at h1
   refine ⟨⟨q, a⟩, oa, rfl, m, y1.1, ?_, ?_⟩
   ·rw [hx]
    simp only [List.map_cons, List.map_nil, e0]
   ·simp only [h1, Option.elim]
theorem openF {fuel : Nat} {cs : List Value} {x : DataW H × List MemPlace} (hf : DataW.trod enc Tryz.prog w base sp held fuel 38 cs = some x) :
  ∃ (P : Option Addr) (L cap : Nat) (g : Nat → Trm), cs = [.slice P L cap] ∧ (P = none → cap = 0) ∧ (∀ j, j < L → (g j).a.ok) ∧ Lt w P L g ∧ L ≤ Rows.uptoBulk x.1 := by
 rcases DataW.trod_slice undM hf with ⟨hcs, hx⟩ | ⟨a, len, cap, elems, rest, n, _, hcs, hx, _, hl, hm, hlen, hel, hsp, _⟩
 ·exact ⟨none, 0, 0, fun _ => ⟨(0, 0), ⟨0, 0, 0, 0⟩⟩, hcs, fun _ => rfl, fun j hj => by omega, ⟨0, 0, fun h => by omega, fun h => by omega⟩, by omega⟩
 ·obtain ⟨b, off, spot⟩ := a
  have key : ∀ k, ∃ z : Trm, k < len → z.a.ok ∧ ∀ j u, z.cs[j]? = some u → w.cell? (((⟨b, off, spot⟩ : Addr).add (k * 6)).add j) = some u := by
   intro k
   by_cases hk : k < len
   ·have h1 := hel k hk
    obtain ⟨y, hy⟩ : ∃ y, elems[k]? = some y := ⟨elems[k]'(by omega), by simp [hlen, hk]⟩
    rw [hy, Option.bind_eq_some_iff] at h1
    obtain ⟨cs, hc, ht⟩ := h1
    obtain ⟨z, hz, rfl, _⟩ := six ht
    refine ⟨z, fun _ => ⟨hz, fun j u hu => ?_⟩⟩
    rw [celY] at hc
    have hj : j < 6 := by
     have := (List.getElem?_eq_some_iff.1 hu).1
     simpa [Trm.cs] using this
    rw [(World.cells?_some hc).2.2 j hj]
    exact hu
   ·exact ⟨⟨(0, 0), ⟨0, 0, 0, 0⟩⟩, fun h => absurd h hk⟩
  obtain ⟨g, hg⟩ := Classical.axiomOfChoice key
  refine ⟨_, len, cap, g, hcs, (fun h => (by cases h)), fun j hj => (hg j hj).1, ⟨b, off, fun h0 => ?_, fun h0 => ?_⟩, ?_⟩
  ·have hs : spot = none := by simpa [Addr.add] using World.cell?_spot ((hg 0 h0).2 0 _ rfl)
   rw [hs]
  ·have hs : spot = none := by simpa [Addr.add] using World.cell?_spot ((hg 0 h0).2 0 _ rfl)
   subst hs
   have hc : ∀ k j u, k < len → (g k).cs[j]? = some u → w.cell? ⟨b, off + k * 6 + j, none⟩ = some u := fun k j u hk hu => by
    have := (hg k hk).2 j u hu
    rw [Addr.add_lit, Addr.add_lit] at this
    exact this
   exact ⟨fun k hk => hc k 0 _ hk rfl, fun k hk => hc k 1 _ hk rfl, fun k hk => hc k 2 _ hk rfl, fun k hk => hc k 3 _ hk rfl, fun k hk => hc k 4 _ hk rfl, fun k hk => hc k 5 _ hk rfl⟩
  ·subst hx
   have h1 := slice_leU (elems.map (·.1)) (rest.map (·.1))
   have h2 := length_leU (elems.map (·.1))
   rw [List.length_map, hlen] at h2
   simp only [Rows.uptoBulk]
   omega
theorem bulk_mem {l : List (DataW H)} {d : DataW H} (h : d ∈ l) : Rows.uptoBulk d ≤ Rows.uptoBulkAll l := by
 induction l with
 | nil => simp at h
 | cons x r ih =>
  simp only [Rows.uptoBulkAll]
  rcases List.mem_cons.1 h with rfl | h
  ·omega
  ·have := ih h; omega
def Zz (t : Stp) : Prop := (t.a.p = none → t.a.c = 0) ∧ (t.b.p = none → t.b.c = 0)
theorem stp {fuel : Nat} {cs : List Value} {x : DataW H × List MemPlace} (h : DataW.trod enc Tryz.prog w base sp held fuel 65 cs = some x) (hs : Rows.uptoBulk x.1 ≤ 1048576) :
  ∃ t : Stp, cs = [.int .i64 t.q, .slice t.a.p t.a.n t.a.c, .slice t.b.p t.b.n t.b.c] ∧ t.a.at w ∧ t.b.at w ∧ Zz t := by
 obtain ⟨f0, f1, f2, hu, ⟨t0, o0⟩, ⟨t1, o1⟩, ⟨t2, o2⟩⟩ := undC
 obtain ⟨xs, m, _, hx, hl, hxl, hfd⟩ := DataW.trod_struct hu h
 have h0 := hfd 0 f0 rfl
 have h1 := hfd 1 f1 rfl
 have h2 := hfd 2 f2 rfl
 rw [t0, o0, celi] at h0
 rw [t1, o1, celM] at h1
 rw [t2, o2, celM] at h2
 have hxl' : xs.length = 3 := hxl
 rw [celC] at hl
 have hd : x.1 = .agg (xs.map (·.1)) := by rw [hx]
 obtain ⟨y0, e0⟩ : ∃ y, xs[0]? = some y := ⟨xs[0]'(by omega), by simp [hxl']⟩
 obtain ⟨y1, e1⟩ : ∃ y, xs[1]? = some y := ⟨xs[1]'(by omega), by simp [hxl']⟩
 obtain ⟨y2, e2⟩ : ∃ y, xs[2]? = some y := ⟨xs[2]'(by omega), by simp [hxl']⟩
 rw [e0] at h0
 rw [e1] at h1
 rw [e2] at h2
 obtain ⟨n0, c0, _, _⟩ := DataW.trod_int undi h0
 obtain ⟨P1, L1, k1, g1, c1, zz1, a1, b1, l1⟩ := openF h1
 obtain ⟨P2, L2, k2, g2, c2, zz2, a2, b2, l2⟩ := openF h2
 have b3 := bulk_mem (List.mem_map.2 ⟨y1, List.mem_of_getElem? e1, rfl⟩ : y1.1 ∈ xs.map (·.1))
 have b4 := bulk_mem (List.mem_map.2 ⟨y2, List.mem_of_getElem? e2, rfl⟩ : y2.1 ∈ xs.map (·.1))
 rw [hd] at hs
 simp only [Rows.uptoBulk] at hs
 match cs, hl with
 | [z0, z1, z2], _ =>
  simp at c0 c1 c2
  subst c0
  subst c1
  subst c2
  exact ⟨⟨n0, ⟨P1, L1, k1, g1⟩, ⟨P2, L2, k2, g2⟩⟩, rfl, ⟨b1, a1, by show L1 ≤ _; omega⟩, ⟨b2, a2, by show L2 ≤ _; omega⟩, zz1, zz2⟩
theorem openK {v : Value} {d : DataW H} {p : List MemPlace} (h : DataW.Trod enc Tryz.prog w base sp held 22 v d p) (hv : ∃ a0 len cap, v = .slice a0 len cap) (hs : Rows.uptoBulk d ≤ 1048576) :
  ∃ (P : Option Addr) (L cap : Nat) (g : Nat → Stp), v = .slice P L cap ∧ Scl w P L g ∧ (∀ k, k < L → Zz (g k)) ∧ L ≤ Rows.uptoBulk d := by
 obtain ⟨a0, len, cap, rfl⟩ := hv
 obtain ⟨fuel, hf⟩ := h
 rcases DataW.trod_slice undK hf with ⟨hcs, hx⟩ | ⟨a, len', cap', elems, rest, n, _, hcs, hx, _, hl, hm, hlen, hel, hsp, _⟩
 ·simp [Value.cells] at hcs
  obtain ⟨rfl, rfl, rfl⟩ := hcs
  exact ⟨none, 0, 0, fun _ => ⟨0, ⟨none, 0, 0, fun _ => ⟨(0, 0), ⟨0, 0, 0, 0⟩⟩⟩, ⟨none, 0, 0, fun _ => ⟨(0, 0), ⟨0, 0, 0, 0⟩⟩⟩⟩, rfl, ⟨0, 0, fun h => by omega, fun h => by omega⟩, fun k hk => by omega, by omega⟩
 ·simp [Value.cells] at hcs
  obtain ⟨rfl, rfl, rfl⟩ := hcs
  simp only [Prod.mk.injEq] at hx
  obtain ⟨b, off, spot⟩ := a
  have hdb : Rows.uptoBulkAll (elems.map (·.1)) ≤ 1048576 := by
   rw [hx.1] at hs
   simp only [Rows.uptoBulk] at hs
   omega
  have key : ∀ k, ∃ z : Stp, k < len → (z.a.at w ∧ z.b.at w ∧ Zz z) ∧ ∀ j u, [Value.int .i64 z.q, .slice z.a.p z.a.n z.a.c, .slice z.b.p z.b.n z.b.c][j]? = some u → w.cell? (((⟨b, off, spot⟩ : Addr).add (k * 3)).add j) = some u := by
   intro k
   by_cases hk : k < len
   ·have h1 := hel k hk
    obtain ⟨y, hy⟩ : ∃ y, elems[k]? = some y := ⟨elems[k]'(by omega), by simp [hlen, hk]⟩
    have hb := bulk_mem (List.mem_map.2 ⟨y, List.mem_of_getElem? hy, rfl⟩ : y.1 ∈ elems.map (·.1))
    rw [hy, Option.bind_eq_some_iff] at h1
    obtain ⟨cs, hc, ht⟩ := h1
    obtain ⟨z, rfl, za, zb, zc⟩ := stp ht (by omega)
    refine ⟨z, fun _ => ⟨⟨za, zb, zc⟩, fun j u hu => ?_⟩⟩
    rw [celC] at hc
    have hj : j < 3 := by
     have := (List.getElem?_eq_some_iff.1 hu).1
     simpa using this
    rw [(World.cells?_some hc).2.2 j hj]
    exact hu
   ·exact ⟨⟨0, ⟨none, 0, 0, fun _ => ⟨(0, 0), ⟨0, 0, 0, 0⟩⟩⟩, ⟨none, 0, 0, fun _ => ⟨(0, 0), ⟨0, 0, 0, 0⟩⟩⟩⟩, fun h => absurd h hk⟩
  obtain ⟨g, hg⟩ := Classical.axiomOfChoice key
  refine ⟨_, len, cap, g, rfl, ⟨b, off, fun h0 => ?_, fun h0 => ?_⟩, fun k hk => (hg k hk).1.2.2, ?_⟩
  ·have hs : spot = none := by simpa [Addr.add] using World.cell?_spot ((hg 0 h0).2 0 _ rfl)
   rw [hs]
  ·have hs : spot = none := by simpa [Addr.add] using World.cell?_spot ((hg 0 h0).2 0 _ rfl)
   subst hs
   have hc : ∀ k j u, k < len → [Value.int .i64 (g k).q, .slice (g k).a.p (g k).a.n (g k).a.c, .slice (g k).b.p (g k).b.n (g k).b.c][j]? = some u → w.cell? ⟨b, off + k * 3 + j, none⟩ = some u := fun k j u hk hu => by
    have := (hg k hk).2 j u hu
    rw [Addr.add_lit, Addr.add_lit] at this
    exact this
   exact ⟨fun k hk => hc k 0 _ hk rfl, fun k hk => hc k 1 _ hk rfl, fun k hk => hc k 2 _ hk rfl, fun k hk => (hg k hk).1.1, fun k hk => (hg k hk).1.2.1⟩
  ·rw [hx.1]
   have h1 := slice_leU (elems.map (·.1)) (rest.map (·.1))
   have h2 := length_leU (elems.map (·.1))
   rw [List.length_map, hlen] at h2
   simp only [Rows.uptoBulk]
   omega
end
theorem table {W : World} (h : laidMetH Tryz.prog Rows.circuitBuildsUptoRow.laid W) : Tb W ∧ Mk W := by
 obtain ⟨ps, ⟨g', t', cs, fuel, p, q, hg', ht', hvar, hd, ⟨g1, t1, cs1, fuel1, p1, q1, hg1, ht1, hvar1, hd1, _, _⟩, _⟩, _⟩ := h
 obtain rfl := Option.some.inj (gTab.symm.trans hg')
 obtain rfl := Option.some.inj (gTabType.symm.trans ht')
 obtain rfl := Option.some.inj (gMark.symm.trans hg1)
 obtain rfl := Option.some.inj (gMarkType.symm.trans ht1)
 refine ⟨?_, ?_⟩
 ·skip
  have key := rows_of (zss := [[6346243789798364141, 1503914060200516822, 0, 1152921504606846976], [15486807595281847581, 14334777244411350896, 18446744073709551614, 1152921504606846975], [11819153939886771969, 14991950615390032711, 14910419812499177061, 259310039853996605]]) undT undS undu celu celS celT hd
  have g : ∀ j, W.cell? ⟨1, j, none⟩ = cs[j]? := fun j => World.var?_cell gTab hvar j
  have r0 := key 0 _ (by decide) rfl
  have r1 := key 1 _ (by decide) rfl
  have r2 := key 2 _ (by decide) rfl
  have at0 : ∀ (i j : Nat) (zs : List Int), (cs.toList.drop (i * 4)).take 4 = zs.map (fun z => Value.int .u64 z) → j < 4 → cs[i * 4 + j]? = (zs[j]?).map fun z => Value.int .u64 z := by
   intro i j zs hr hj
   have := congrArg (·[j]?) hr
   simpa [List.getElem?_take, List.getElem?_drop, hj] using this
  refine ⟨?_, ?_, ?_, ?_, ?_, ?_, ?_, ?_, ?_, ?_, ?_, ?_⟩
  ·rw [g]; exact at0 0 0 _ r0 (by decide)
  ·rw [g]; exact at0 0 1 _ r0 (by decide)
  ·rw [g]; exact at0 0 2 _ r0 (by decide)
  ·rw [g]; exact at0 0 3 _ r0 (by decide)
  ·rw [g]; exact at0 1 0 _ r1 (by decide)
  ·rw [g]; exact at0 1 1 _ r1 (by decide)
  ·rw [g]; exact at0 1 2 _ r1 (by decide)
  ·rw [g]; exact at0 1 3 _ r1 (by decide)
  ·rw [g]; exact at0 2 0 _ r2 (by decide)
  ·rw [g]; exact at0 2 1 _ r2 (by decide)
  ·rw [g]; exact at0 2 2 _ r2 (by decide)
  ·rw [g]; exact at0 2 3 _ r2 (by decide)
 ·have g : ∀ j, W.cell? ⟨0, j, none⟩ = cs1[j]? := fun j => World.var?_cell gMark hvar1 j
  obtain ⟨t, ok, hc, m, q9, hx, hs⟩ := six hd1
  have hq : q9 = .agg ([79, 0, 0, 0].map fun z => .lit (.int .u64 z)) := by
   simp only [Rows.laid_veil_veillaw19_mark, DataW.agg.injEq, List.cons.injEq, and_true] at hx
   exact hx.2.symm
  have hk := Lib.cells_of_tab (zs := [79, 0, 0, 0]) undL undu celu celL (by rw [hq] at hs; exact hs)
  have hw : t.q.1 = 77 ∧ t.q.2 = 78 := by
   simp only [Rows.laid_veil_veillaw19_mark, DataW.agg.injEq, List.cons.injEq, DataW.lit.injEq, Lit.int.injEq, true_and, and_true] at hx
   exact ⟨hx.1.1.symm, hx.1.2.symm⟩
  have gc : ∀ j, cs1[j]? = t.cs[j]? := fun j => by rw [← hc, Array.getElem?_toList]
  simp only [List.map_cons, List.map_nil, List.cons.injEq, Value.int.injEq, true_and, and_true] at hk
  obtain ⟨k0, k1, k2, k3⟩ := hk
  obtain ⟨w0, w1⟩ := hw
  refine ⟨?_, ?_, ?_, ?_, ?_, ?_⟩ <;> rw [g, gc] <;> simp [Trm.cs, k0, k1, k2, k3, w0, w1]
theorem contract (H : Type) (enc : TypeId × Value → H) (W : World) (base : Nat) (args : Array Value) (ds gs : List (DataW H)) (before : List MemPlace)
  (hval : ∀ (j : Nat) t v, Tryz.f3.params[j]? = some t → args[j]? = some v → Value.okWide Tryz.prog W .any base t v)
  (hW : DataW.Whole enc Tryz.prog Tryz.f3.params.toList Rows.circuitBuildsSpec.vars false W args.toList ds gs before) (hL : laidMetH Tryz.prog Rows.circuitBuildsUptoRow.laid W)
  (hZ : Rows.uptoSmall H (ds ++ gs) = true) :
  Calls Tryz.prog 3 args W fun e W' => ∃ v, e = .returned v ∧ Rows.circuitBuildsSpec.post enc Tryz.prog Tryz.f3 false true false false W args v W' := by
 have hW' := hW
 obtain ⟨p, q, hA0, hV, rfl, hfz, hnd⟩ := hW
 have hA : DataW.TrodAll enc Tryz.prog W 0 (fun _ => true) true Tryz.f3.params.toList args.toList ds p := hA0
 rw [Tryz.params3] at hA hval
 obtain ⟨v0, vs0, d0, ds0, p0, q0, hargs, rfl, rfl, h0, r0⟩ := trodAll_cons hA
 obtain ⟨v1, vs1, d1, ds1, p1, q1, rfl, rfl, rfl, h1, r1⟩ := trodAll_cons r0
 obtain ⟨rfl, rfl, rfl⟩ := trodAll_nil r1
 obtain rfl : args = #[v0, v1] := by cases args; simp_all
 obtain ⟨rfl, rfl⟩ := trodVars_none hV
 have hk0 := h0
 have hk1 := h1
 have hz : Rows.uptoBulkAll _ ≤ 1048576 := of_decide_eq_true hZ
 simp only [List.cons_append, List.nil_append, Rows.uptoBulkAll] at hz
 obtain ⟨a0, rfl, rfl, rfl, w0⟩ := open_int Tryz.underlying3 (hval 0 3 v0 rfl rfl) h0
 obtain ⟨P1, L1, c1, g1, rfl, s1, z1, l1⟩ := openK h1 (okWide_slice undK (hval 1 22 v1 rfl rfl)) (by omega)
 clear hA0
 simp only [List.append_nil, List.nil_append] at hW'
 have hlt1 : ∀ x ∈ p1, x.block < W.heap.size := fun x hx => hW'.lt x (by simp [hx])
 refine (builds_any a0 P1 L1 c1 g1 W (table hL).1 (table hL).2 (by omega) s1 z1).mono fun e W' ⟨he, bel⟩ => ?_
 subst he
 exact ⟨_, rfl, _, _, _, [], _, [], hW', trodAll_mk1 (shut_bool Tryz.underlying4 _), (trodAll_cons_mk (Below.trod laidOut (by kernel_rfl) (of_decide_eq_true (by kernel_rfl)) hk0 bel (fun x hx => by cases hx)) (trodAll_cons_mk (Below.trod laidOut (by kernel_rfl) (of_decide_eq_true (by kernel_rfl)) hk1 bel hlt1) trodAll_mk0)), rfl, bel.frame _, fun h => by cases h⟩
noncomputable def laidWorld (os : Os) : World :=
 { World.holding Tryz.prog os ⟨#[], #[], []⟩ with heap := (((((World.holding Tryz.prog os ⟨#[], #[], []⟩).heap).modify 1 fun
   | .cells _ t frozen => .cells #[.int .u64 6346243789798364141, .int .u64 1503914060200516822, .int .u64 0, .int .u64 1152921504606846976, .int .u64 15486807595281847581, .int .u64 14334777244411350896, .int .u64 18446744073709551614, .int .u64 1152921504606846975, .int .u64 11819153939886771969, .int .u64 14991950615390032711, .int .u64 14910419812499177061, .int .u64 259310039853996605] t frozen
   | o => o)).modify 0 fun
   | .cells _ t frozen => .cells #[.int .i64 77, .int .i64 78, .int .u64 79, .int .u64 0, .int .u64 0, .int .u64 0] t frozen
   | o => o) }
theorem laid_met (os : Os) : laidMet Tryz.prog Rows.circuitBuildsUptoRow.laid ((laidWorld os).forCall (fun _ _ => 0) ⟨#[], #[.int .i64 0, .slice none 0 0], []⟩).memory :=
 laidMet_of_run' 8 (by kernel_rfl) (by kernel_rfl)
theorem reads (os : Os) {H : Type} (enc : TypeId × Value → H) : ∃ places, DataW.whole enc Tryz.prog ((laidWorld os).forCall (fun _ _ => 0) ⟨#[], #[.int .i64 0, .slice none 0 0], []⟩).memory Tryz.f3.params.toList Rows.circuitBuildsSpec.vars false (#[.int .i64 0, .slice none 0 0] : Array Value).toList 8 = some ([.lit (.int .i64 0), .nil], [], places) :=
 ⟨[], by kernel_rfl⟩
set_option maxRecDepth 100000 in
theorem lifted (os : Os) (started : os.Started) (H : Type) (enc : TypeId × Value → H) (F : Stop.Interp) :
  ReturnsInHanded {} Tryz.checked os 3 .any ((Rows.OpenSpec.upto Rows.circuitBuildsSpec).preRow enc Tryz.prog Tryz.f3 Rows.circuitBuildsUptoRow.domain false Rows.circuitBuildsUptoRow.laid) (((Rows.OpenSpec.upto Rows.circuitBuildsSpec).at F).post enc Tryz.prog Tryz.f3 false true false false) := by
 obtain ⟨places, hx⟩ := reads os enc
 refine returnsInHanded_of_row (C := Tryz.checked) (s := Rows.OpenSpec.upto Rows.circuitBuildsSpec) own started (by kernel_rfl) Tryz.func3
  (witness_row_at (enc := enc) (C := Tryz.checked) false (laidWorld os) #[.int .i64 0, .slice none 0 0] rfl (by kernel_rfl) (by kernel_rfl) (by kernel_rfl)
   (OpenSpec.preRow_of_cond 8 hx (by kernel_rfl) (fun k hk => by cases hk; kernel_rfl) (by kernel_rfl) (laid_met os))) ?_
 intro W base args ds gs before hval hW _ hC _ hL _ _
 exact contract H enc W base args ds gs before hval hW hL (hC _ rfl)
theorem said : Rows.CircuitBuildsUptoSaid :=
 OpenClaim.holds_of_cond 3 Tryz.f3 rfl rfl rfl rfl rfl rfl rfl ⟨rfl, rfl, rfl, rfl, rfl⟩ rfl rfl rfl rfl rfl (by kernel_rfl) Tryz.func3 (by kernel_rfl)
  (of_decide_eq_true (by kernel_rfl)) (by unfold Func.isWrapper; first | (rw [if_pos (by decide +kernel)]; kernel_rfl) | (rw [if_neg (by decide +kernel)]; exact ⟨rfl, rfl⟩))
  (fun os started H enc _ F => by rw [OpenClaim.pre_eq_preRow]; exact lifted os started H enc F)
theorem plain (f : FuncId) (fn : Func) (hf : Tryz.pinned.checked.prog.funcNamed "veil/veillaw19.CircuitBuilds" = some f) (hfn : Tryz.pinned.checked.prog.funcs[f]? = some fn) :
  false = Tryz.pinned.checked.prog.looks [] ∧ ∀ (j : Nat) t, fn.params[j]? = some t → Tryz.pinned.checked.prog.wantsStandIn t = false := by
 obtain rfl : f = 3 := Option.some.inj ((show Tryz.prog.funcNamed "veil/veillaw19.CircuitBuilds" = some 3 by kernel_rfl).symm.trans hf) |>.symm
 obtain rfl : fn = Tryz.f3 := (Option.some.inj (Tryz.func3.symm.trans hfn)).symm
 refine ⟨by kernel_rfl, fun j t ht => ?_⟩
 rw [Tryz.params3] at ht
 have hm := Array.mem_of_getElem? ht
 simp only [List.mem_toArray, List.mem_cons, List.not_mem_nil, or_false] at hm
 rcases hm with rfl | rfl
 ·exact (show Tryz.prog.wantsStandIn 3 = false by kernel_rfl)
 ·exact (show Tryz.prog.wantsStandIn 22 = false by kernel_rfl)
theorem card : Rows.CircuitBuildsUptoCardSaid :=
 Claim7.holds_tied_plain_at .later [] _ _ _ _ said (fun _ h => by cases h) (by kernel_rfl) (fun _ h => by cases h) circuitBuildsUpto_row_tie rfl ⟨rfl, rfl⟩ (by kernel_rfl) rfl plain (by kernel_rfl)
end Go.Proofs.YtghcfcglakbkeaaGreatDoor.circuitBuilds
namespace Go.Proofs.YtghcfcglakbkeaaGreatDoor
theorem circuitBuilds_proved : Rows.CircuitBuildsUptoCardSaid := circuitBuilds.card
#print axioms circuitBuilds_proved
end Go.Proofs.YtghcfcglakbkeaaGreatDoor
