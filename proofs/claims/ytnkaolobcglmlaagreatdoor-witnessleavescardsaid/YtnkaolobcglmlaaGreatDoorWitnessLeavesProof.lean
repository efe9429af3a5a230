import Derived.Test.YtnkaolobcglmlaaGreatDoorCards
import Derived.Test.YtnkaolobcglmlaaGreatDoorTie
import Derived.Test.YtnkaolobcglmlaaGreatDoorArr
import Derived.Test.YtnkaolobcglmlaaGreatDoorWlq
import Derived.Deep.DeepHandedRow
import Derived.Lib.LaidTab
import Derived.ChangeSlices
import Derived.SizedLaws
import Derived.Carry
namespace Go.Proofs.YtnkaolobcglmlaaGreatDoor.witnessLeaves
open Go.ChangeShapes Go.WideShapes Go.ChangeAt Go.RowKit
open Ci (Pts Prt Prl Rl4 Lf4 Ops Opl Wc leaves_any)
set_option linter.unusedVariables false
set_option maxRecDepth 100000
theorem laidOut : laidOutB Tryz.prog = true := by kernel_rfl
theorem own : ownKnob Tryz.prog.godebug = none := by kernel_rfl
theorem gTab : Tryz.prog.globalNamed "veil/scalar.table" = some 0 := by kernel_rfl
theorem gTabType : (Tryz.prog.globals[0]?).map (·.type) = some 158 := by kernel_rfl
theorem undT : Tryz.prog.underlying 158 = some (.array 3 64) := by kernel_rfl
theorem celT : Tryz.prog.cellsOf 158 = 12 := by kernel_rfl
theorem undS : Tryz.prog.underlying 64 = some (.array 4 22) := by kernel_rfl
theorem celS : Tryz.prog.cellsOf 64 = 4 := by kernel_rfl
theorem undL : Tryz.prog.underlying 64 = some (.array 4 22) := by kernel_rfl
theorem celL : Tryz.prog.cellsOf 64 = 4 := by kernel_rfl
theorem undu : Tryz.prog.underlying 22 = some (.int .u64) := by kernel_rfl
theorem celu : Tryz.prog.cellsOf 22 = 1 := by kernel_rfl
theorem undi : Tryz.prog.underlying 3 = some (.int .i64) := by kernel_rfl
theorem celi : Tryz.prog.cellsOf 3 = 1 := by kernel_rfl
theorem undA4 : Tryz.prog.underlying 23 = some (.array 4 22) := by kernel_rfl
theorem celA4 : Tryz.prog.cellsOf 23 = 4 := by kernel_rfl
theorem undPA : ∃ f0 f1 : Field, Tryz.prog.underlying 109 = some (.struct #[f0, f1]) ∧ (f0.type = 3 ∧ f0.offset = 0) ∧ (f1.type = 23 ∧ f1.offset = 1) :=
 ⟨(Tryz.prog.fieldsOf 109)[0]!, (Tryz.prog.fieldsOf 109)[1]!, by kernel_rfl, ⟨by kernel_rfl, by kernel_rfl⟩, ⟨by kernel_rfl, by kernel_rfl⟩⟩
theorem undOP : ∃ f0 f1 f2 : Field, Tryz.prog.underlying 74 = some (.struct #[f0, f1, f2]) ∧ (f0.type = 3 ∧ f0.offset = 0) ∧ (f1.type = 72 ∧ f1.offset = 1) ∧ (f2.type = 72 ∧ f2.offset = 2) :=
 ⟨(Tryz.prog.fieldsOf 74)[0]!, (Tryz.prog.fieldsOf 74)[1]!, (Tryz.prog.fieldsOf 74)[2]!, by kernel_rfl, ⟨by kernel_rfl, by kernel_rfl⟩, ⟨by kernel_rfl, by kernel_rfl⟩, ⟨by kernel_rfl, by kernel_rfl⟩⟩
theorem undWC : ∃ f0 f1 f2 f3 f4 f5 f6 f7 f8 f9 f10 f11 f12 f13 : Field, Tryz.prog.underlying 31 = some (.struct #[f0, f1, f2, f3, f4, f5, f6, f7, f8, f9, f10, f11, f12, f13]) ∧ (f1.type = 24 ∧ f1.offset = 67) ∧ (f2.type = 24 ∧ f2.offset = 68) ∧ (f4.type = 28 ∧ f4.offset = 70) :=
 ⟨(Tryz.prog.fieldsOf 31)[0]!, (Tryz.prog.fieldsOf 31)[1]!, (Tryz.prog.fieldsOf 31)[2]!, (Tryz.prog.fieldsOf 31)[3]!, (Tryz.prog.fieldsOf 31)[4]!, (Tryz.prog.fieldsOf 31)[5]!, (Tryz.prog.fieldsOf 31)[6]!, (Tryz.prog.fieldsOf 31)[7]!, (Tryz.prog.fieldsOf 31)[8]!, (Tryz.prog.fieldsOf 31)[9]!, (Tryz.prog.fieldsOf 31)[10]!, (Tryz.prog.fieldsOf 31)[11]!, (Tryz.prog.fieldsOf 31)[12]!, (Tryz.prog.fieldsOf 31)[13]!, by kernel_rfl, ⟨by kernel_rfl, by kernel_rfl⟩, ⟨by kernel_rfl, by kernel_rfl⟩, ⟨by kernel_rfl, by kernel_rfl⟩⟩
theorem celPA : Tryz.prog.cellsOf 109 = 5 := by kernel_rfl
theorem celOP : Tryz.prog.cellsOf 74 = 3 := by kernel_rfl
theorem celWC : Tryz.prog.cellsOf 31 = 83 := by kernel_rfl
theorem undLP : Tryz.prog.underlying 72 = some (.slice 109) := by kernel_rfl
theorem undLO : Tryz.prog.underlying 28 = some (.slice 74) := by kernel_rfl
theorem undL4 : Tryz.prog.underlying 24 = some (.slice 23) := by kernel_rfl
theorem celLP : Tryz.prog.cellsOf 72 = 1 := by kernel_rfl
theorem celLO : Tryz.prog.cellsOf 28 = 1 := by kernel_rfl
theorem celL4 : Tryz.prog.cellsOf 24 = 1 := by kernel_rfl
theorem rows_of {H : Type} {enc : TypeId × Value → H} {P : Program} {w : World} {base : Nat} {sp : Nat → Bool} {held : Bool} {fuel : Nat} {t s e : TypeId} {n m : Nat} {k : IntKind} {cs : List Value} {zss : List (List Int)} {p : List MemPlace}
  (ht : P.underlying t = some (.array n s)) (hs : P.underlying s = some (.array m e)) (he : P.underlying e = some (.int k)) (hce : P.cellsOf e = 1) (hcs : P.cellsOf s = m) (hct : P.cellsOf t = n * m)
  (h : DataW.trod enc P w base sp held fuel t cs = some (.agg (zss.map fun zs => Lib.tabData k zs), p)) : ∀ i zs, i < n → zss[i]? = some zs → (cs.drop (i * m)).take m = zs.map fun z => Value.int k z := by
 cases fuel with
 | zero => simp [DataW.trod] at h
 | succ fuel =>
  simp only [DataW.trod, ht, hcs, hct] at h
  split at h
  ·obtain ⟨xs, hm, hx⟩ := Option.map_eq_some_iff.1 h
   have hxs : xs.map (·.1) = zss.map fun zs => (Lib.tabData k zs : DataW H) := by
    have := congrArg Prod.fst hx
    simpa using this
   intro i zs hi hz
   obtain ⟨b, hb, hf⟩ := Lib.mapM_at hm i i (by simp [hi])
   have h2 : (xs.map (·.1))[i]? = some b.1 := by simp [hb]
   rw [hxs] at h2
   simp only [List.getElem?_map, hz, Option.map_some, Option.some.injEq] at h2
   obtain ⟨b1, b2⟩ := b
   subst h2
   exact Lib.cells_of_tab hs he hce hcs hf
  ·cases h
theorem table {W : World} (h : laidMetH Tryz.prog Rows.witnessLeavesRow.laid W) : Tb W := by
 obtain ⟨ps, ⟨g', t', cs, fuel, p, q, hg', ht', hvar, hd, _, _⟩, _⟩ := h
 obtain rfl := Option.some.inj (gTab.symm.trans hg')
 obtain rfl := Option.some.inj (gTabType.symm.trans ht')
 have key := rows_of (zss := [[6346243789798364141, 1503914060200516822, 0, 1152921504606846976], [15486807595281847581, 14334777244411350896, 18446744073709551614, 1152921504606846975], [11819153939886771969, 14991950615390032711, 14910419812499177061, 259310039853996605]]) undT undS undu celu celS celT hd
 have g : ∀ j, W.cell? ⟨0, j, none⟩ = cs[j]? := fun j => World.var?_cell gTab hvar j
 have r0 := key 0 _ (by decide) rfl
 have r1 := key 1 _ (by decide) rfl
 have r2 := key 2 _ (by decide) rfl
 have at0 : ∀ (i j : Nat) (zs : List Int), (cs.toList.drop (i * 4)).take 4 = zs.map (fun z => Value.int .u64 z) → j < 4 → cs[i * 4 + j]? = (zs[j]?).map fun z => Value.int .u64 z := by
  intro i j zs hr hj
  have := congrArg (·[j]?) hr
  simpa [List.getElem?_take, List.getElem?_drop, hj] using this
 refine ⟨?_, ?_, ?_, ?_, ?_, ?_, ?_, ?_, ?_, ?_, ?_, ?_⟩
 ·rw [g]; exact at0 0 0 _ r0 (by decide)
 ·rw [g]; exact at0 0 1 _ r0 (by decide)
 ·rw [g]; exact at0 0 2 _ r0 (by decide)
 ·rw [g]; exact at0 0 3 _ r0 (by decide)
 ·rw [g]; exact at0 1 0 _ r1 (by decide)
 ·rw [g]; exact at0 1 1 _ r1 (by decide)
 ·rw [g]; exact at0 1 2 _ r1 (by decide)
 ·rw [g]; exact at0 1 3 _ r1 (by decide)
 ·rw [g]; exact at0 2 0 _ r2 (by decide)
 ·rw [g]; exact at0 2 1 _ r2 (by decide)
 ·rw [g]; exact at0 2 2 _ r2 (by decide)
 ·rw [g]; exact at0 2 3 _ r2 (by decide)
section
variable {H : Type} {enc : TypeId × Value → H} {w : World} {base : Nat} {sp : Nat → Bool} {held : Bool}
theorem list4 : ∀ zs : List Int, zs.length = 4 → ∃ a : E4, zs = [a.x0, a.x1, a.x2, a.x3]
 | [x0, x1, x2, x3], _ => ⟨⟨x0, x1, x2, x3⟩, rfl⟩
theorem wd_of {z : Int} (h : (Lit.int .u64 z).wf = true) : Sm.Wd z := by
 have := bounds_u64 h
 unfold Sm.Wd; omega
theorem wf_of {z : Int} (h : Sm.Wd z) : (Lit.int .u64 z).wf = true := by
 unfold Sm.Wd at h
 exact WalkArith.wf_u64 ⟨h.1, by omega⟩
theorem shut4 (a : E4) (h : a.ok) : DataW.Trod enc Tryz.prog w base sp held 64 a.v (.agg ([a.x0, a.x1, a.x2, a.x3].map fun z => .lit (.int .u64 z))) [] := by
 obtain ⟨h0, h1, h2, h3⟩ := h
 refine shut_arr undL undu celu celL [a.x0, a.x1, a.x2, a.x3] rfl ?_
 intro z hz
 simp only [List.mem_cons, List.not_mem_nil, or_false] at hz
 rcases hz with rfl | rfl | rfl | rfl
 ·exact wf_of h0
 ·exact wf_of h1
 ·exact wf_of h2
 ·exact wf_of h3
theorem four {fuel : Nat} {cs : List Value} {x : DataW H × List MemPlace} (h : DataW.trod enc Tryz.prog w base sp held fuel 23 cs = some x) :
  ∃ z : E4, z.ok ∧ cs = [.int .u64 z.x0, .int .u64 z.x1, .int .u64 z.x2, .int .u64 z.x3] := by
 obtain ⟨xs, m, _, hx, hl, hxl, hi⟩ := DataW.trod_array undA4 h
 rw [celA4] at hl
 have key : ∀ i, i < 4 → ∃ z : Int, cs[i]? = some (.int .u64 z) ∧ (Lit.int .u64 z).wf = true := by
  intro i hin
  have h1 := hi i hin
  obtain ⟨y, hy⟩ : ∃ y, xs[i]? = some y := ⟨xs[i]'(by omega), by simp [hxl, hin]⟩
  rw [hy, celu, Nat.mul_one] at h1
  obtain ⟨z, hc, rfl, hw⟩ := DataW.trod_int undu h1
  refine ⟨z, ?_, hw⟩
  have := congrArg (·[0]?) hc
  simpa [List.getElem?_take, List.getElem?_drop] using this
 obtain ⟨z0, c0, w0⟩ := key 0 (by omega)
 obtain ⟨z1, c1, w1⟩ := key 1 (by omega)
 obtain ⟨z2, c2, w2⟩ := key 2 (by omega)
 obtain ⟨z3, c3, w3⟩ := key 3 (by omega)
 refine ⟨⟨z0, z1, z2, z3⟩, ⟨wd_of w0, wd_of w1, wd_of w2, wd_of w3⟩, ?_⟩
 match cs, hl, c0, c1, c2, c3 with
 | [y0, y1, y2, y3], _, c0, c1, c2, c3 =>
  simp only [List.getElem?_cons_zero, List.getElem?_cons_succ, Option.some.injEq] at c0 c1 c2 c3
  rw [c0, c1, c2, c3]
theorem openV {fuel : Nat} {cs : List Value} {x : DataW H × List MemPlace} (h : DataW.trod enc Tryz.prog w base sp held fuel 24 cs = some x) :
  ∃ (P : Option Addr) (n c : Nat) (g : Nat → E4), cs = [.slice P n c] ∧ Lf4 w P n g := by
 rcases DataW.trod_slice undL4 h with ⟨hcs, hx⟩ | ⟨a, len, cap, elems, rest, n, _, hcs, hx, _, hl, hm, hlen, hel, hsp, _⟩
 ·exact ⟨none, 0, 0, fun _ => ⟨0, 0, 0, 0⟩, hcs, .inl rfl⟩
 ·obtain ⟨b, off, spot⟩ := a
  have key : ∀ k, ∃ z : E4, k < len → z.ok ∧ ∀ j u, ([.int .u64 z.x0, .int .u64 z.x1, .int .u64 z.x2, .int .u64 z.x3] : List Value)[j]? = some u → w.cell? (((⟨b, off, spot⟩ : Addr).add (k * 4)).add j) = some u := by
   intro k
   by_cases hk : k < len
   ·have h1 := hel k hk
    obtain ⟨y, hy⟩ : ∃ y, elems[k]? = some y := ⟨elems[k]'(by omega), by simp [hlen, hk]⟩
    rw [hy, Option.bind_eq_some_iff] at h1
    obtain ⟨cs, hc, ht⟩ := h1
    obtain ⟨z, hz, rfl⟩ := four ht
    refine ⟨z, fun _ => ⟨hz, fun j u hu => ?_⟩⟩
    rw [celA4] at hc
    have hj : j < 4 := by
     have := (List.getElem?_eq_some_iff.1 hu).1
     simpa using this
    rw [(World.cells?_some hc).2.2 j hj]
    exact hu
   ·exact ⟨⟨0, 0, 0, 0⟩, fun h => absurd h hk⟩
  obtain ⟨g, hg⟩ := Classical.axiomOfChoice key
  by_cases h0 : 0 < len
  ·have hs : spot = none := by simpa [Addr.add] using World.cell?_spot ((hg 0 h0).2 0 _ rfl)
   subst hs
   have hc : ∀ k j u, k < len → ([.int .u64 (g k).x0, .int .u64 (g k).x1, .int .u64 (g k).x2, .int .u64 (g k).x3] : List Value)[j]? = some u → w.cell? ⟨b, off + k * 4 + j, none⟩ = some u := fun k j u hk hu => by
    have := (hg k hk).2 j u hu
    rw [Addr.add_lit, Addr.add_lit] at this
    exact this
   exact ⟨_, len, cap, g, hcs, .inr ⟨b, off, rfl, ⟨fun k hk => hc k 0 _ hk rfl, fun k hk => hc k 1 _ hk rfl, fun k hk => hc k 2 _ hk rfl, fun k hk => hc k 3 _ hk rfl⟩, fun k hk => (hg k hk).1⟩⟩
  ·obtain rfl : len = 0 := by omega
   exact ⟨_, 0, cap, g, hcs, .inl rfl⟩
theorem five {fuel : Nat} {cs : List Value} {x : DataW H × List MemPlace} (h : DataW.trod enc Tryz.prog w base sp held fuel 109 cs = some x) : ∃ (a : Int) (z : E4), (-9223372036854775808 ≤ a ∧ a ≤ 9223372036854775807) ∧ z.ok ∧ cs = [.int .i64 a, .int .u64 z.x0, .int .u64 z.x1, .int .u64 z.x2, .int .u64 z.x3] := by
 obtain ⟨f0, f1, hu, ⟨t0, o0⟩, ⟨t1, o1⟩⟩ := undPA
 obtain ⟨xs, m, _, hx, hl, hxl, hfd⟩ := DataW.trod_struct hu h
 have h0 := hfd 0 f0 rfl
 have h1 := hfd 1 f1 rfl
 rw [t0, o0, celi] at h0
 rw [t1, o1, celA4] at h1
 have hxl' : xs.length = 2 := hxl
 rw [celPA] at hl
 obtain ⟨y0, e0⟩ : ∃ y, xs[0]? = some y := ⟨xs[0]'(by omega), by simp [hxl']⟩
 obtain ⟨y1, e1⟩ : ∃ y, xs[1]? = some y := ⟨xs[1]'(by omega), by simp [hxl']⟩
 rw [e0] at h0
 rw [e1] at h1
 obtain ⟨n0, c0, _, w0⟩ := DataW.trod_int undi h0
 have b0 := bounds_i64 w0
 obtain ⟨z, hz, c1⟩ := four h1
 match cs, hl with
 | [z0, z1, z2, z3, z4], _ =>
  simp at c0 c1
  obtain ⟨rfl, rfl, rfl, rfl⟩ := c1
  subst c0
  exact ⟨n0, z, by omega, hz, rfl⟩
theorem openP {fuel : Nat} {cs : List Value} {x : DataW H × List MemPlace} (h : DataW.trod enc Tryz.prog w base sp held fuel 72 cs = some x) :
  ∃ L : Prl, cs = [.slice L.p L.n L.c] ∧ Prt w L.p L.n L.a L.g := by
 rcases DataW.trod_slice undLP h with ⟨hcs, hx⟩ | ⟨a, len, cap, elems, rest, n, _, hcs, hx, _, hl, hm, hlen, hel, hsp, _⟩
 ·exact ⟨⟨none, 0, 0, fun _ => 0, fun _ => ⟨0, 0, 0, 0⟩⟩, hcs, .inl rfl⟩
 ·obtain ⟨b, off, spot⟩ := a
  have key : ∀ k, ∃ z : Int × E4, k < len → (((-9223372036854775808 ≤ z.1 ∧ z.1 ≤ 9223372036854775807) ∧ z.2.ok)) ∧ ∀ j u, ([.int .i64 z.1, .int .u64 z.2.x0, .int .u64 z.2.x1, .int .u64 z.2.x2, .int .u64 z.2.x3] : List Value)[j]? = some u → w.cell? (((⟨b, off, spot⟩ : Addr).add (k * 5)).add j) = some u := by
   intro k
   by_cases hk : k < len
   ·have h1 := hel k hk
    obtain ⟨y, hy⟩ : ∃ y, elems[k]? = some y := ⟨elems[k]'(by omega), by simp [hlen, hk]⟩
    rw [hy, Option.bind_eq_some_iff] at h1
    obtain ⟨cs, hc, ht⟩ := h1
    obtain ⟨a, z, ha, hz, rfl⟩ := five ht
    refine ⟨(a, z), fun _ => ⟨⟨ha, hz⟩, fun j u hu => ?_⟩⟩
    rw [celPA] at hc
    have hj : j < 5 := by
     have := (List.getElem?_eq_some_iff.1 hu).1
     simpa using this
    rw [(World.cells?_some hc).2.2 j hj]
    exact hu
   ·exact ⟨(0, ⟨0, 0, 0, 0⟩), fun h => absurd h hk⟩
  obtain ⟨g, hg⟩ := Classical.axiomOfChoice key
  by_cases h0 : 0 < len
  ·have hs : spot = none := by simpa [Addr.add] using World.cell?_spot ((hg 0 h0).2 0 _ rfl)
   subst hs
   have hc : ∀ k j u, k < len → ([.int .i64 (g k).1, .int .u64 (g k).2.x0, .int .u64 (g k).2.x1, .int .u64 (g k).2.x2, .int .u64 (g k).2.x3] : List Value)[j]? = some u → w.cell? ⟨b, off + k * 5 + j, none⟩ = some u := fun k j u hk hu => by
    have := (hg k hk).2 j u hu
    rw [Addr.add_lit, Addr.add_lit] at this
    exact this
   exact ⟨⟨_, len, cap, fun k => (g k).1, fun k => (g k).2⟩, hcs, .inr ⟨b, off, rfl, ⟨fun k hk => hc k 0 _ hk rfl, fun k hk => hc k 1 _ hk rfl, fun k hk => hc k 2 _ hk rfl, fun k hk => hc k 3 _ hk rfl, fun k hk => hc k 4 _ hk rfl, fun k hk => (hg k hk).1.1, fun k hk => (hg k hk).1.2⟩⟩⟩
  ·obtain rfl : len = 0 := by omega
   exact ⟨⟨_, 0, cap, fun _ => 0, fun _ => ⟨0, 0, 0, 0⟩⟩, hcs, .inl rfl⟩
theorem three {fuel : Nat} {cs : List Value} {x : DataW H × List MemPlace} (h : DataW.trod enc Tryz.prog w base sp held fuel 74 cs = some x) : ∃ (d : Int) (A B : Prl), Prt w A.p A.n A.a A.g ∧ Prt w B.p B.n B.a B.g ∧ cs = [.int .i64 d, .slice A.p A.n A.c, .slice B.p B.n B.c] := by
 obtain ⟨f0, f1, f2, hu, ⟨t0, o0⟩, ⟨t1, o1⟩, ⟨t2, o2⟩⟩ := undOP
 obtain ⟨xs, m, _, hx, hl, hxl, hfd⟩ := DataW.trod_struct hu h
 have h0 := hfd 0 f0 rfl
 have h1 := hfd 1 f1 rfl
 have h2 := hfd 2 f2 rfl
 rw [t0, o0, celi] at h0
 rw [t1, o1, celLP] at h1
 rw [t2, o2, celLP] at h2
 have hxl' : xs.length = 3 := hxl
 rw [celOP] at hl
 obtain ⟨y0, e0⟩ : ∃ y, xs[0]? = some y := ⟨xs[0]'(by omega), by simp [hxl']⟩
 obtain ⟨y1, e1⟩ : ∃ y, xs[1]? = some y := ⟨xs[1]'(by omega), by simp [hxl']⟩
 obtain ⟨y2, e2⟩ : ∃ y, xs[2]? = some y := ⟨xs[2]'(by omega), by simp [hxl']⟩
 rw [e0] at h0
 rw [e1] at h1
 rw [e2] at h2
 obtain ⟨n0, c0, _, _⟩ := DataW.trod_int undi h0
 obtain ⟨A, c1, k1⟩ := openP h1
 obtain ⟨B, c2, k2⟩ := openP h2
 match cs, hl with
 | [z0, z1, z2], _ =>
  simp at c0 c1 c2
  subst c0
  subst c1
  subst c2
  exact ⟨n0, A, B, k1, k2, rfl⟩
theorem openO {fuel : Nat} {cs : List Value} {x : DataW H × List MemPlace} (h : DataW.trod enc Tryz.prog w base sp held fuel 28 cs = some x) :
  ∃ (P : Option Addr) (n c : Nat) (D : Nat → Int) (A B : Nat → Prl), cs = [.slice P n c] ∧ Opl w P n D A B := by
 rcases DataW.trod_slice undLO h with ⟨hcs, hx⟩ | ⟨a, len, cap, elems, rest, n, _, hcs, hx, _, hl, hm, hlen, hel, hsp, _⟩
 ·exact ⟨none, 0, 0, fun _ => 0, fun _ => ⟨none, 0, 0, fun _ => 0, fun _ => ⟨0, 0, 0, 0⟩⟩, fun _ => ⟨none, 0, 0, fun _ => 0, fun _ => ⟨0, 0, 0, 0⟩⟩, hcs, .inl rfl⟩
 ·obtain ⟨b, off, spot⟩ := a
  have key : ∀ k, ∃ z : Int × Prl × Prl, k < len → (Prt w z.2.1.p z.2.1.n z.2.1.a z.2.1.g ∧ Prt w z.2.2.p z.2.2.n z.2.2.a z.2.2.g) ∧ ∀ j u, ([.int .i64 z.1, .slice z.2.1.p z.2.1.n z.2.1.c, .slice z.2.2.p z.2.2.n z.2.2.c] : List Value)[j]? = some u → w.cell? (((⟨b, off, spot⟩ : Addr).add (k * 3)).add j) = some u := by
   intro k
   by_cases hk : k < len
   ·have h1 := hel k hk
    obtain ⟨y, hy⟩ : ∃ y, elems[k]? = some y := ⟨elems[k]'(by omega), by simp [hlen, hk]⟩
    rw [hy, Option.bind_eq_some_iff] at h1
    obtain ⟨cs, hc, ht⟩ := h1
    obtain ⟨d, A, B, k1, k2, rfl⟩ := three ht
    refine ⟨(d, A, B), fun _ => ⟨⟨k1, k2⟩, fun j u hu => ?_⟩⟩
    rw [celOP] at hc
    have hj : j < 3 := by
     have := (List.getElem?_eq_some_iff.1 hu).1
     simpa using this
    rw [(World.cells?_some hc).2.2 j hj]
    exact hu
   ·exact ⟨(0, ⟨none, 0, 0, fun _ => 0, fun _ => ⟨0, 0, 0, 0⟩⟩, ⟨none, 0, 0, fun _ => 0, fun _ => ⟨0, 0, 0, 0⟩⟩), fun h => absurd h hk⟩
  obtain ⟨g, hg⟩ := Classical.axiomOfChoice key
  by_cases h0 : 0 < len
  ·have hs : spot = none := by simpa [Addr.add] using World.cell?_spot ((hg 0 h0).2 0 _ rfl)
   subst hs
   have hc : ∀ k j u, k < len → ([.int .i64 (g k).1, .slice (g k).2.1.p (g k).2.1.n (g k).2.1.c, .slice (g k).2.2.p (g k).2.2.n (g k).2.2.c] : List Value)[j]? = some u → w.cell? ⟨b, off + k * 3 + j, none⟩ = some u := fun k j u hk hu => by
    have := (hg k hk).2 j u hu
    rw [Addr.add_lit, Addr.add_lit] at this
    exact this
   exact ⟨_, len, cap, fun k => (g k).1, fun k => (g k).2.1, fun k => (g k).2.2, hcs, .inr ⟨b, off, rfl, ⟨fun k hk => hc k 0 _ hk rfl, fun k hk => hc k 1 _ hk rfl, fun k hk => hc k 2 _ hk rfl, fun k hk => (hg k hk).1.1, fun k hk => (hg k hk).1.2⟩⟩⟩
  ·obtain rfl : len = 0 := by omega
   exact ⟨_, 0, cap, fun k => (g k).1, fun k => (g k).2.1, fun k => (g k).2.2, hcs, .inl rfl⟩
theorem one_cell {ca : List Value} {j : Nat} {v : Value} (h : (ca.drop j).take 1 = [v]) : ca[j]? = some v := by
 have := congrArg (·[0]?) h
 simpa [List.getElem?_take, List.getElem?_drop] using this
theorem openC {v : Value} {d : DataW H} {p : List MemPlace} (h : DataW.Trod enc Tryz.prog w base sp held 31 v d p) (hv : ∃ cs : Array Value, v = .agg cs) :
  ∃ (cl : List Value) (Pv Pf Po : Option Addr) (nv cv nf cf no co : Nat) (V F : Nat → E4) (D : Nat → Int) (A B : Nat → Prl), v = .agg cl.toArray ∧ cl.length = 83 ∧ Wc w cl.toArray Pv Pf Po nv cv nf cf no co V F D A B := by
 obtain ⟨⟨ca⟩, rfl⟩ := hv
 obtain ⟨fuel, hf⟩ := h
 obtain ⟨f0, f1, f2, f3, f4, f5, f6, f7, f8, f9, f10, f11, f12, f13, hu, ⟨t1, o1⟩, ⟨t2, o2⟩, ⟨t4, o4⟩⟩ := undWC
 obtain ⟨xs, mm, _, hx, hl, hxl, hfd⟩ := DataW.trod_struct hu hf
 have h1 := hfd 1 f1 rfl
 have h2 := hfd 2 f2 rfl
 have h4 := hfd 4 f4 rfl
 rw [t1, o1, celL4] at h1
 rw [t2, o2, celL4] at h2
 rw [t4, o4, celLO] at h4
 have hxl' : xs.length = 14 := hxl
 rw [celWC] at hl
 obtain ⟨y1, e1⟩ : ∃ y, xs[1]? = some y := ⟨xs[1]'(by omega), by simp [hxl']⟩
 obtain ⟨y2, e2⟩ : ∃ y, xs[2]? = some y := ⟨xs[2]'(by omega), by simp [hxl']⟩
 obtain ⟨y4, e4⟩ : ∃ y, xs[4]? = some y := ⟨xs[4]'(by omega), by simp [hxl']⟩
 rw [e1] at h1
 rw [e2] at h2
 rw [e4] at h4
 obtain ⟨Pv, nv, cv, V, c1, k1⟩ := openV h1
 obtain ⟨Pf, nf, cf, F, c2, k2⟩ := openV h2
 obtain ⟨Po, no, co, D, A, B, c4, k4⟩ := openO h4
 simp only [Value.cells] at hl c1 c2 c4
 refine ⟨ca, Pv, Pf, Po, nv, cv, nf, cf, no, co, V, F, D, A, B, rfl, by simpa using hl, ⟨?_, ?_, ?_, k1, k2, k4⟩⟩
 ·simpa using one_cell c1
 ·simpa using one_cell c2
 ·simpa using one_cell c4
end
def zero83 : Array Value := ([.int .i64 0, .int .i64 0] ++ List.replicate 12 (.int .u64 0) ++ List.replicate 5 (.slice none 0 0) ++ List.replicate 28 (.int .u64 0) ++ List.replicate 4 (.slice none 0 0) ++ List.replicate 16 (.int .u64 0) ++ List.replicate 4 (.slice none 0 0) ++ List.replicate 4 (.int .u64 0) ++ List.replicate 7 (.slice none 0 0) ++ [.int .i64 0] : List Value).toArray
def zd4 {H : Type} : DataW H := .agg (List.replicate 4 (.lit (.int .u64 0)))
def zd {H : Type} : DataW H := .agg ([.agg ([.lit (.int .i64 0), .lit (.int .i64 0)] ++ List.replicate 3 zd4 ++ List.replicate 5 .nil ++ List.replicate 7 zd4 ++ List.replicate 4 .nil ++ List.replicate 4 zd4)] ++ List.replicate 4 .nil ++ [zd4] ++ List.replicate 7 .nil ++ [.lit (.int .i64 0)])
theorem contract (H : Type) (enc : TypeId × Value → H) (W : World) (base : Nat) (args : Array Value) (ds gs : List (DataW H)) (before : List MemPlace)
  (hval : ∀ (j : Nat) t v, Tryz.f3.params[j]? = some t → args[j]? = some v → Value.okWide Tryz.prog W .any base t v)
  (hW : DataW.Whole enc Tryz.prog Tryz.f3.params.toList Rows.witnessLeavesSpec.vars false W args.toList ds gs before) (hL : laidMetH Tryz.prog Rows.witnessLeavesRow.laid W)
  (hZ : (DataW.weightsEach Tryz.prog (Tryz.f3.params.toList ++ (OpenSpec.ofChange Rows.witnessLeavesSpec).bare.plain.varTypes Tryz.prog) (ds ++ gs)).all (· ≤ reachBytes) = true) :
  Calls Tryz.prog 3 args W fun e W' => ∃ v, e = .returned v ∧ Rows.witnessLeavesSpec.post enc Tryz.prog Tryz.f3 false true false false W args v W' := by
 have hW' := hW
 obtain ⟨p, q, hA0, hV, rfl, hfz, hnd⟩ := hW
 have hA : DataW.TrodAll enc Tryz.prog W 0 (fun _ => true) true Tryz.f3.params.toList args.toList ds p := hA0
 rw [Tryz.params3] at hA hval hZ
 obtain ⟨v0, vs0, d0, ds0, p0, q0, hargs, rfl, rfl, h0, r0⟩ := trodAll_cons hA
 obtain ⟨v1, vs1, d1, ds1, p1, q1, rfl, rfl, rfl, h1, r1⟩ := trodAll_cons r0
 obtain ⟨v2, vs2, d2, ds2, p2, q2, rfl, rfl, rfl, h2, r2⟩ := trodAll_cons r1
 obtain ⟨rfl, rfl, rfl⟩ := trodAll_nil r2
 obtain rfl : args = #[v0, v1, v2] := by have := congrArg List.toArray hargs; simpa using this
 obtain ⟨rfl, rfl⟩ := trodVars_none hV
 have hk0 := h0
 have hk1 := h1
 have hk2 := h2
 obtain ⟨cl, Pv, Pf, Po, nv, cv, nf, cf, no, co, V, F, D, A, B, rfl, hl, hc⟩ := openC h0 (by obtain ⟨_, _, _, _, _, _, _, _, _, _, _, _, _, _, hu, _⟩ := undWC; obtain ⟨cs, e, _⟩ := okWide_struct hu (hval 0 31 v0 rfl rfl); exact ⟨cs, e⟩)
 obtain ⟨w1, rfl, rfl, rfl, wf1⟩ := open_int Tryz.underlying3 (hval 1 3 v1 rfl rfl) h1
 obtain ⟨w2, rfl, rfl, rfl, wf2⟩ := open_int Tryz.underlying3 (hval 2 3 v2 rfl rfl) h2
 have b1 := bounds_i64 wf1
 have b2 := bounds_i64 wf2
 clear hA0
 simp only [List.append_nil] at hW'
 have hlt0 : ∀ x ∈ p0, x.block < W.heap.size := fun x hx => hW'.lt x (by simp [hx])
 refine (leaves_any cl hl W (table hL) hc w1 w2 (by omega) (by omega) (by omega) (by omega)).mono fun e W' ⟨he, bel⟩ => ?_
 subst he
 exact ⟨_, rfl, _, _, _, [], _, [], hW', trodAll_mk1 (shut_bool Tryz.underlying4 _), (trodAll_cons_mk (Below.trod laidOut (by kernel_rfl) (of_decide_eq_true (by kernel_rfl)) hk0 bel hlt0) (trodAll_cons_mk (Below.trod laidOut (by kernel_rfl) (of_decide_eq_true (by kernel_rfl)) hk1 bel (fun x hx => by cases hx)) (trodAll_cons_mk (Below.trod laidOut (by kernel_rfl) (of_decide_eq_true (by kernel_rfl)) hk2 bel (fun x hx => by cases hx)) trodAll_mk0))), rfl, bel.frame _, fun h => by cases h⟩
noncomputable def laidWorld (os : Os) : World :=
 { World.holding Tryz.prog os ⟨#[], #[], []⟩ with heap := (World.holding Tryz.prog os ⟨#[], #[], []⟩).heap.modify 0 fun
   | .cells _ t frozen => .cells #[.int .u64 6346243789798364141, .int .u64 1503914060200516822, .int .u64 0, .int .u64 1152921504606846976, .int .u64 15486807595281847581, .int .u64 14334777244411350896, .int .u64 18446744073709551614, .int .u64 1152921504606846975, .int .u64 11819153939886771969, .int .u64 14991950615390032711, .int .u64 14910419812499177061, .int .u64 259310039853996605] t frozen
   | o => o }
theorem laid_met (os : Os) : laidMet Tryz.prog Rows.witnessLeavesRow.laid ((laidWorld os).forCall (fun _ _ => 0) ⟨#[], #[.agg zero83, .int .i64 0, .int .i64 0], []⟩).memory :=
 laidMet_of_run' 8 (by kernel_rfl) (by kernel_rfl)
theorem reads (os : Os) {H : Type} (enc : TypeId × Value → H) : ∃ places, DataW.whole enc Tryz.prog ((laidWorld os).forCall (fun _ _ => 0) ⟨#[], #[.agg zero83, .int .i64 0, .int .i64 0], []⟩).memory Tryz.f3.params.toList Rows.witnessLeavesSpec.vars false (#[.agg zero83, .int .i64 0, .int .i64 0] : Array Value).toList 8 = some ([zd, .lit (.int .i64 0), .lit (.int .i64 0)], [], places) :=
 ⟨[], by kernel_rfl⟩
set_option maxRecDepth 100000 in
theorem lifted (os : Os) (started : os.Started) (H : Type) (enc : TypeId × Value → H) (F : Stop.Interp) :
  ReturnsInHanded {} Tryz.checked os 3 .any ((OpenSpec.ofChange Rows.witnessLeavesSpec).preRow enc Tryz.prog Tryz.f3 Rows.witnessLeavesRow.domain false Rows.witnessLeavesRow.laid) (((OpenSpec.ofChange Rows.witnessLeavesSpec).at F).post enc Tryz.prog Tryz.f3 false true false false) := by
 obtain ⟨places, hx⟩ := reads os enc
 refine returnsInHanded_of_row (C := Tryz.checked) (s := OpenSpec.ofChange Rows.witnessLeavesSpec) own started (by kernel_rfl) Tryz.func3
  (witness_row_at (enc := enc) (C := Tryz.checked) false (laidWorld os) #[.agg zero83, .int .i64 0, .int .i64 0] rfl (by kernel_rfl) (by kernel_rfl) (by kernel_rfl)
   (OpenSpec.preRow_of_cond 8 hx (by kernel_rfl) (fun k hk => by cases hk) (by kernel_rfl) (laid_met os))) ?_
 intro W base args ds gs before hval hW _ _ hZ hL _ _
 exact contract H enc W base args ds gs before hval hW hL hZ
theorem said : Rows.WitnessLeavesSaid :=
 OpenClaim.holds_of_cond 3 Tryz.f3 rfl rfl rfl rfl rfl rfl rfl ⟨rfl, rfl, rfl, rfl, rfl⟩ rfl rfl rfl rfl rfl (by kernel_rfl) Tryz.func3 (by kernel_rfl)
  (of_decide_eq_true (by kernel_rfl)) (by unfold Func.isWrapper; first | (rw [if_pos (by decide +kernel)]; kernel_rfl) | (rw [if_neg (by decide +kernel)]; exact ⟨rfl, rfl⟩))
  (fun os started H enc _ F => by rw [OpenClaim.pre_eq_preRow]; exact lifted os started H enc F)
theorem plain (f : FuncId) (fn : Func) (hf : Tryz.pinned.checked.prog.funcNamed "veil/veillaw22.WitnessLeaves" = some f) (hfn : Tryz.pinned.checked.prog.funcs[f]? = some fn) :
  false = Tryz.pinned.checked.prog.looks [] ∧ ∀ (j : Nat) t, fn.params[j]? = some t → Tryz.pinned.checked.prog.wantsStandIn t = false := by
 obtain rfl : f = 3 := Option.some.inj ((show Tryz.prog.funcNamed "veil/veillaw22.WitnessLeaves" = some 3 by kernel_rfl).symm.trans hf) |>.symm
 obtain rfl : fn = Tryz.f3 := (Option.some.inj (Tryz.func3.symm.trans hfn)).symm
 refine ⟨by kernel_rfl, fun j t ht => ?_⟩
 rw [Tryz.params3] at ht
 have hm := Array.mem_of_getElem? ht
 simp only [List.mem_toArray, List.mem_cons, List.not_mem_nil, or_false] at hm
 rcases hm with rfl | rfl | rfl
 ·exact (show Tryz.prog.wantsStandIn 31 = false by kernel_rfl)
 ·exact (show Tryz.prog.wantsStandIn 3 = false by kernel_rfl)
 ·exact (show Tryz.prog.wantsStandIn 3 = false by kernel_rfl)
theorem card : Rows.WitnessLeavesCardSaid :=
 Claim7.holds_tied_plain_at .later [] _ _ _ _ said (fun _ h => by cases h) (by kernel_rfl) (fun _ h => by cases h) witnessLeaves_row_tie rfl ⟨rfl, rfl⟩ (by kernel_rfl) rfl plain (by kernel_rfl)
end Go.Proofs.YtnkaolobcglmlaaGreatDoor.witnessLeaves
namespace Go.Proofs.YtnkaolobcglmlaaGreatDoor
theorem witnessLeaves_proved : Rows.WitnessLeavesCardSaid := witnessLeaves.card
#print axioms witnessLeaves_proved
end Go.Proofs.YtnkaolobcglmlaaGreatDoor
