import Derived.Test.YtkfkmndhbfeagaaGreatDoorCards
import Derived.Test.YtkfkmndhbfeagaaGreatDoorTie
import Derived.Test.YtkfkmndhbfeagaaGreatDoorArr
import Derived.Test.YtkfkmndhbfeagaaGreatDoorXG4
import Derived.Test.YtkfkmndhbfeagaaGreatDoorWG
import Derived.Deep.DeepHandedRow
import Derived.Lib.LaidTab
import Derived.ChangeSlices
import Derived.SizedLaws
import Derived.Carry
namespace Go.Proofs.YtkfkmndhbfeagaaGreatDoor.wireOwn
open Go.ChangeShapes Go.WideShapes Go.ChangeAt Go.RowKit
set_option linter.unusedVariables false
set_option maxRecDepth 100000

theorem laidOut : laidOutB Tryz.prog = true := by kernel_rfl
theorem own : ownKnob Tryz.prog.godebug = none := by kernel_rfl
theorem gTab : Tryz.prog.globalNamed "veil/scalar.table" = some 5 := by kernel_rfl
theorem gTabType : (Tryz.prog.globals[5]?).map (·.type) = some 155 := by kernel_rfl
theorem undT : Tryz.prog.underlying 155 = some (.array 3 24) := by kernel_rfl
theorem celT : Tryz.prog.cellsOf 155 = 12 := by kernel_rfl
theorem undS : Tryz.prog.underlying 24 = some (.array 4 22) := by kernel_rfl
theorem celS : Tryz.prog.cellsOf 24 = 4 := by kernel_rfl
theorem undL : Tryz.prog.underlying 24 = some (.array 4 22) := by kernel_rfl
theorem celL : Tryz.prog.cellsOf 24 = 4 := by kernel_rfl
theorem undu : Tryz.prog.underlying 22 = some (.int .u64) := by kernel_rfl
theorem celu : Tryz.prog.cellsOf 22 = 1 := by kernel_rfl

/-- what the row's list gives: the table's cells hold its twelve numbers -/
theorem rows_of {H : Type} {enc : TypeId × Value → H} {P : Program} {w : World} {base : Nat} {sp : Nat → Bool} {held : Bool} {fuel : Nat} {t s e : TypeId} {n m : Nat} {k : IntKind} {cs : List Value} {zss : List (List Int)} {p : List MemPlace}
    (ht : P.underlying t = some (.array n s)) (hs : P.underlying s = some (.array m e)) (he : P.underlying e = some (.int k)) (hce : P.cellsOf e = 1) (hcs : P.cellsOf s = m) (hct : P.cellsOf t = n * m)
    (h : DataW.trod enc P w base sp held fuel t cs = some (.agg (zss.map fun zs => Lib.tabData k zs), p)) : ∀ i zs, i < n → zss[i]? = some zs → (cs.drop (i * m)).take m = zs.map fun z => Value.int k z := by
  cases fuel with
  | zero => simp [DataW.trod] at h
  | succ fuel =>
    simp only [DataW.trod, ht, hcs, hct] at h
    split at h
    · obtain ⟨xs, hm, hx⟩ := Option.map_eq_some_iff.1 h
      have hxs : xs.map (·.1) = zss.map fun zs => (Lib.tabData k zs : DataW H) := by
        have := congrArg Prod.fst hx
        simpa using this
      intro i zs hi hz
      obtain ⟨b, hb, hf⟩ := Lib.mapM_at hm i i (by simp [hi])
      have h2 : (xs.map (·.1))[i]? = some b.1 := by simp [hb]
      rw [hxs] at h2
      simp only [List.getElem?_map, hz, Option.map_some, Option.some.injEq] at h2
      obtain ⟨b1, b2⟩ := b
      subst h2
      exact Lib.cells_of_tab hs he hce hcs hf
    · cases h

theorem table {W : World} (h : laidMetH Tryz.prog Rows.wireOwnUptoRow.laid W) : Tb W := by
  obtain ⟨ps, ⟨_, _, _, _, _, _, _, _, _, _, ⟨_, _, _, _, _, _, _, _, _, _, ⟨g', t', cs, fuel, p, q, hg', ht', hvar, hd, _, _⟩, _⟩, _⟩, _⟩ := h
  obtain rfl := Option.some.inj (gTab.symm.trans hg')
  obtain rfl := Option.some.inj (gTabType.symm.trans ht')
  have key := rows_of (zss := [[6346243789798364141, 1503914060200516822, 0, 1152921504606846976], [15486807595281847581, 14334777244411350896, 18446744073709551614, 1152921504606846975], [11819153939886771969, 14991950615390032711, 14910419812499177061, 259310039853996605]]) undT undS undu celu celS celT hd
  have g : ∀ j, W.cell? ⟨5, j, none⟩ = cs[j]? := fun j => World.var?_cell gTab hvar j
  have r0 := key 0 _ (by decide) rfl
  have r1 := key 1 _ (by decide) rfl
  have r2 := key 2 _ (by decide) rfl
  have at0 : ∀ (i j : Nat) (zs : List Int), (cs.toList.drop (i * 4)).take 4 = zs.map (fun z => Value.int .u64 z) → j < 4 → cs[i * 4 + j]? = (zs[j]?).map fun z => Value.int .u64 z := by
    intro i j zs hr hj
    have := congrArg (·[j]?) hr
    simpa [List.getElem?_take, List.getElem?_drop, hj] using this
  refine ⟨?_, ?_, ?_, ?_, ?_, ?_, ?_, ?_, ?_, ?_, ?_, ?_⟩
  · rw [g]; exact at0 0 0 _ r0 (by decide)
  · rw [g]; exact at0 0 1 _ r0 (by decide)
  · rw [g]; exact at0 0 2 _ r0 (by decide)
  · rw [g]; exact at0 0 3 _ r0 (by decide)
  · rw [g]; exact at0 1 0 _ r1 (by decide)
  · rw [g]; exact at0 1 1 _ r1 (by decide)
  · rw [g]; exact at0 1 2 _ r1 (by decide)
  · rw [g]; exact at0 1 3 _ r1 (by decide)
  · rw [g]; exact at0 2 0 _ r2 (by decide)
  · rw [g]; exact at0 2 1 _ r2 (by decide)
  · rw [g]; exact at0 2 2 _ r2 (by decide)
  · rw [g]; exact at0 2 3 _ r2 (by decide)

theorem gFst : Tryz.prog.globalNamed "veil/veilref03.first" = some 2 := by kernel_rfl
theorem gFstType : (Tryz.prog.globals[2]?).map (·.type) = some 141 := by kernel_rfl
theorem undF : Tryz.prog.underlying 141 = some (.array 8 22) := by kernel_rfl
theorem gRnd : Tryz.prog.globalNamed "veil/veilref03.round" = some 4 := by kernel_rfl
theorem gRndType : (Tryz.prog.globals[4]?).map (·.type) = some 150 := by kernel_rfl
theorem undR : Tryz.prog.underlying 150 = some (.array 80 22) := by kernel_rfl
theorem ints_of {H : Type} {enc : TypeId × Value → H} {w : World} {base : Nat} {sp : Nat → Bool} {held : Bool} {fuel n : Nat} {t : TypeId} {cs : List Value} {x : DataW H × List MemPlace} (hu : Tryz.prog.underlying t = some (.array n 22)) (h : DataW.trod enc Tryz.prog w base sp held fuel t cs = some x) : ∀ i, i < n → ∃ z : Int, cs[i]? = some (.int .u64 z) := by
  obtain ⟨xs, m, _, hx, hl, hxl, hi⟩ := DataW.trod_array hu h
  intro i hin
  have h1 := hi i hin
  obtain ⟨y, hy⟩ : ∃ y, xs[i]? = some y := ⟨xs[i]'(by omega), by simp [hxl, hin]⟩
  rw [hy, celu, Nat.mul_one] at h1
  obtain ⟨z, hc, rfl, hw⟩ := DataW.trod_int undu h1
  refine ⟨z, ?_⟩
  have := congrArg (·[0]?) hc
  simpa [List.getElem?_take, List.getElem?_drop] using this
theorem hashes {W : World} (h : laidMetH Tryz.prog Rows.wireOwnUptoRow.laid W) : Xo.Hg W := by
  obtain ⟨ps, ⟨g0, t0, cs0, fuel0, p0, q0, hg0, ht0, hvar0, hd0, ⟨g1, t1, cs1, fuel1, p1, q1, hg1, ht1, hvar1, hd1, _, _⟩, _⟩, _⟩ := h
  obtain rfl := Option.some.inj (gRnd.symm.trans hg0)
  obtain rfl := Option.some.inj (gRndType.symm.trans ht0)
  obtain rfl := Option.some.inj (gFst.symm.trans hg1)
  obtain rfl := Option.some.inj (gFstType.symm.trans ht1)
  refine ⟨fun i hi => ?_, fun i hi => ?_⟩
  · obtain ⟨z, hz⟩ := ints_of undF hd1 i hi
    exact ⟨z, by rw [World.var?_cell gFst hvar1 i]; simpa using hz⟩
  · obtain ⟨z, hz⟩ := ints_of undR hd0 i hi
    exact ⟨z, by rw [World.var?_cell gRnd hvar0 i]; simpa using hz⟩

theorem one_leU {H : Type} (d : DataW H) : 1 ≤ Rows.uptoBulk d := by
  cases d with
  | lit l => cases l <;> simp [Rows.uptoBulk]
  | nil => simp [Rows.uptoBulk]
  | ptr d => simp [Rows.uptoBulk]
  | slice elems spare => simp [Rows.uptoBulk]
  | agg parts => simp [Rows.uptoBulk]
  | iface t d => simp [Rows.uptoBulk]
  | map entries => simp [Rows.uptoBulk]
  | held h => simp [Rows.uptoBulk]
theorem length_leU {H : Type} (l : List (DataW H)) : l.length ≤ Rows.uptoBulkAll l := by
  induction l with
  | nil => simp [Rows.uptoBulkAll]
  | cons x r ih => have := one_leU x; simp only [Rows.uptoBulkAll, List.length_cons]; omega
theorem slice_leU {H : Type} (elems spare : List (DataW H)) : elems.length + spare.length + 1 ≤ Rows.uptoBulk (.slice elems spare) := by
  have h1 := length_leU elems
  have h2 := length_leU spare
  simp only [Rows.uptoBulk]
  omega
theorem mem_leU {H : Type} {l : List (DataW H)} {d : DataW H} (h : d ∈ l) : Rows.uptoBulk d ≤ Rows.uptoBulkAll l := by
  induction l with
  | nil => cases h
  | cons x r ih =>
    simp only [Rows.uptoBulkAll]
    rcases List.mem_cons.1 h with rfl | h
    · omega
    · have := ih h; omega
section
variable {H : Type} {enc : TypeId × Value → H} {w : World} {base : Nat} {sp : Nat → Bool} {held : Bool}
theorem list4 : ∀ zs : List Int, zs.length = 4 → ∃ a : E4, zs = [a.x0, a.x1, a.x2, a.x3]
  | [x0, x1, x2, x3], _ => ⟨⟨x0, x1, x2, x3⟩, rfl⟩
theorem wd_of {z : Int} (h : (Lit.int .u64 z).wf = true) : Sm.Wd z := by
  have := bounds_u64 h
  unfold Sm.Wd; omega
theorem wf_of {z : Int} (h : Sm.Wd z) : (Lit.int .u64 z).wf = true := by
  unfold Sm.Wd at h
  exact WalkArith.wf_u64 ⟨h.1, by omega⟩
theorem open4 {r : Reach} {b0 : Nat} {v : Value} {d : DataW H} {p : List MemPlace} (hv : Value.okWide Tryz.prog w r b0 24 v) (h : DataW.Trod enc Tryz.prog w base sp held 24 v d p) :
    ∃ a : E4, v = a.v ∧ d = .agg ([a.x0, a.x1, a.x2, a.x3].map fun z => .lit (.int .u64 z)) ∧ p = [] ∧ a.ok := by
  obtain ⟨zs, hl, hv', hd, hp, hw⟩ := open_arr undL undu celu celL hv h
  obtain ⟨a, rfl⟩ := list4 zs hl
  exact ⟨a, hv', hd, hp, wd_of (hw _ (by simp)), wd_of (hw _ (by simp)), wd_of (hw _ (by simp)), wd_of (hw _ (by simp))⟩
theorem shut4 (a : E4) (h : a.ok) : DataW.Trod enc Tryz.prog w base sp held 24 a.v (.agg ([a.x0, a.x1, a.x2, a.x3].map fun z => .lit (.int .u64 z))) [] := by
  obtain ⟨h0, h1, h2, h3⟩ := h
  refine shut_arr undL undu celu celL [a.x0, a.x1, a.x2, a.x3] rfl ?_
  intro z hz
  simp only [List.mem_cons, List.not_mem_nil, or_false] at hz
  rcases hz with rfl | rfl | rfl | rfl
  · exact wf_of h0
  · exact wf_of h1
  · exact wf_of h2
  · exact wf_of h3
theorem undM : Tryz.prog.underlying 26 = some (.slice 24) := by kernel_rfl
theorem bytM : Tryz.prog.bytesOf 24 = 32 := by kernel_rfl
theorem four {fuel : Nat} {cs : List Value} {x : DataW H × List MemPlace} (h : DataW.trod enc Tryz.prog w base sp held fuel 24 cs = some x) :
    ∃ z : E4, z.ok ∧ cs = [.int .u64 z.x0, .int .u64 z.x1, .int .u64 z.x2, .int .u64 z.x3] := by
  obtain ⟨xs, m, _, hx, hl, hxl, hi⟩ := DataW.trod_array undL h
  rw [celL] at hl
  have key : ∀ i, i < 4 → ∃ z : Int, cs[i]? = some (.int .u64 z) ∧ (Lit.int .u64 z).wf = true := by
    intro i hin
    have h1 := hi i hin
    obtain ⟨y, hy⟩ : ∃ y, xs[i]? = some y := ⟨xs[i]'(by omega), by simp [hxl, hin]⟩
    rw [hy, celu, Nat.mul_one] at h1
    obtain ⟨z, hc, rfl, hw⟩ := DataW.trod_int undu h1
    refine ⟨z, ?_, hw⟩
    have := congrArg (·[0]?) hc
    simpa [List.getElem?_take, List.getElem?_drop] using this
  obtain ⟨z0, c0, w0⟩ := key 0 (by omega)
  obtain ⟨z1, c1, w1⟩ := key 1 (by omega)
  obtain ⟨z2, c2, w2⟩ := key 2 (by omega)
  obtain ⟨z3, c3, w3⟩ := key 3 (by omega)
  refine ⟨⟨z0, z1, z2, z3⟩, ⟨wd_of w0, wd_of w1, wd_of w2, wd_of w3⟩, ?_⟩
  match cs, hl, c0, c1, c2, c3 with
  | [y0, y1, y2, y3], _, c0, c1, c2, c3 =>
    simp only [List.getElem?_cons_zero, List.getElem?_cons_succ, Option.some.injEq] at c0 c1 c2 c3
    rw [c0, c1, c2, c3]
theorem openM {fuel : Nat} {cs : List Value} {x : DataW H × List MemPlace} (hf : DataW.trod enc Tryz.prog w base sp held fuel 26 cs = some x) :
    ∃ (P : Option Addr) (L cap : Nat) (g : Nat → E4), cs = [.slice P L cap] ∧ (∀ j, j < L → (g j).ok) ∧ Lm w P L g ∧ L + 1 ≤ Rows.uptoBulk x.1 := by
  rcases DataW.trod_slice undM hf with ⟨hcs, hx⟩ | ⟨a, len, cap, elems, rest, n, _, hcs, hx, _, hl, hm, hlen, hel, hsp, _⟩
  · exact ⟨none, 0, 0, fun _ => (⟨0, 0, 0, 0⟩ : E4), hcs, fun j hj => by omega, ⟨0, 0, fun h => by omega, fun h => by omega⟩, by rw [hx]; simp [Rows.uptoBulk]⟩
  · obtain ⟨b, off, spot⟩ := a
    have key : ∀ k, ∃ z : E4, k < len → z.ok ∧ ∀ j u, [Value.int .u64 z.x0, .int .u64 z.x1, .int .u64 z.x2, .int .u64 z.x3][j]? = some u → w.cell? (((⟨b, off, spot⟩ : Addr).add (k * 4)).add j) = some u := by
      intro k
      by_cases hk : k < len
      · have h1 := hel k hk
        obtain ⟨y, hy⟩ : ∃ y, elems[k]? = some y := ⟨elems[k]'(by omega), by simp [hlen, hk]⟩
        rw [hy, Option.bind_eq_some_iff] at h1
        obtain ⟨cs, hc, ht⟩ := h1
        obtain ⟨z, hz, rfl⟩ := four ht
        refine ⟨z, fun _ => ⟨hz, fun j u hu => ?_⟩⟩
        rw [celL] at hc
        have hj : j < 4 := by
          have := (List.getElem?_eq_some_iff.1 hu).1
          simpa using this
        rw [(World.cells?_some hc).2.2 j hj]
        exact hu
      · exact ⟨(⟨0, 0, 0, 0⟩ : E4), fun h => absurd h hk⟩
    obtain ⟨g, hg⟩ := Classical.axiomOfChoice key
    refine ⟨_, len, cap, g, hcs, fun j hj => (hg j hj).1, ⟨b, off, fun h0 => ?_, fun h0 => ?_⟩, ?_⟩
    · have hs : spot = none := by simpa [Addr.add] using World.cell?_spot ((hg 0 h0).2 0 _ rfl)
      rw [hs]
    · have hs : spot = none := by simpa [Addr.add] using World.cell?_spot ((hg 0 h0).2 0 _ rfl)
      subst hs
      have hc : ∀ k j u, k < len → [Value.int .u64 (g k).x0, .int .u64 (g k).x1, .int .u64 (g k).x2, .int .u64 (g k).x3][j]? = some u → w.cell? ⟨b, off + k * 4 + j, none⟩ = some u := fun k j u hk hu => by
        have := (hg k hk).2 j u hu
        rw [Addr.add_lit, Addr.add_lit] at this
        exact this
      exact ⟨fun k hk => hc k 0 _ hk rfl, fun k hk => hc k 1 _ hk rfl, fun k hk => hc k 2 _ hk rfl, fun k hk => hc k 3 _ hk rfl⟩
    · subst hx
      have h1 := slice_leU (elems.map (·.1)) (rest.map (·.1))
      rw [List.length_map, List.length_map, hlen] at h1
      refine Nat.le_trans ?_ h1
      omega

theorem undA : Tryz.prog.underlying 25 = some (.array 4 24) := by kernel_rfl
theorem celA : Tryz.prog.cellsOf 25 = 16 := by kernel_rfl
theorem celM : Tryz.prog.cellsOf 26 = 1 := by kernel_rfl
theorem celG : Tryz.prog.cellsOf 28 = 38 := by kernel_rfl
theorem undG : ∃ f0 f1 f2 f3 f4 f5 f6 f7 : Field, Tryz.prog.underlying 28 = some (.struct #[f0, f1, f2, f3, f4, f5, f6, f7]) ∧ (f0.type = 25 ∧ f0.offset = 0) ∧ (f1.type = 24 ∧ f1.offset = 16) ∧ (f2.type = 24 ∧ f2.offset = 20) ∧ (f3.type = 24 ∧ f3.offset = 24) ∧ (f4.type = 26 ∧ f4.offset = 28) ∧ (f5.type = 26 ∧ f5.offset = 29) ∧ (f6.type = 24 ∧ f6.offset = 30) ∧ (f7.type = 24 ∧ f7.offset = 34) :=
  ⟨_, _, _, _, _, _, _, _, Tryz.underlying28, ⟨rfl, rfl⟩, ⟨rfl, rfl⟩, ⟨rfl, rfl⟩, ⟨rfl, rfl⟩, ⟨rfl, rfl⟩, ⟨rfl, rfl⟩, ⟨rfl, rfl⟩, ⟨rfl, rfl⟩⟩
theorem sixteen {fuel : Nat} {cs : List Value} {x : DataW H × List MemPlace} (h : DataW.trod enc Tryz.prog w base sp held fuel 25 cs = some x) :
    ∃ a b c d : E4, a.ok ∧ b.ok ∧ c.ok ∧ d.ok ∧ cs = [.int .u64 a.x0, .int .u64 a.x1, .int .u64 a.x2, .int .u64 a.x3, .int .u64 b.x0, .int .u64 b.x1, .int .u64 b.x2, .int .u64 b.x3, .int .u64 c.x0, .int .u64 c.x1, .int .u64 c.x2, .int .u64 c.x3, .int .u64 d.x0, .int .u64 d.x1, .int .u64 d.x2, .int .u64 d.x3] := by
  obtain ⟨xs, m, _, hx, hl, hxl, hi⟩ := DataW.trod_array undA h
  rw [celA] at hl
  have key : ∀ i, i < 4 → ∃ z : E4, z.ok ∧ (cs.drop (i * 4)).take 4 = [.int .u64 z.x0, .int .u64 z.x1, .int .u64 z.x2, .int .u64 z.x3] := by
    intro i hin
    have h1 := hi i hin
    obtain ⟨y, hy⟩ : ∃ y, xs[i]? = some y := ⟨xs[i]'(by omega), by simp [hxl, hin]⟩
    rw [hy, celL] at h1
    exact four h1
  obtain ⟨a, oa, ha⟩ := key 0 (by omega)
  obtain ⟨b, ob, hb⟩ := key 1 (by omega)
  obtain ⟨c, oc, hc⟩ := key 2 (by omega)
  obtain ⟨d, od, hd⟩ := key 3 (by omega)
  refine ⟨a, b, c, d, oa, ob, oc, od, ?_⟩
  match cs, hl, ha, hb, hc, hd with
  | [z0, z1, z2, z3, z4, z5, z6, z7, z8, z9, z10, z11, z12, z13, z14, z15], _, ha, hb, hc, hd =>
    simp at ha hb hc hd
    obtain ⟨rfl, rfl, rfl, rfl⟩ := ha
    obtain ⟨rfl, rfl, rfl, rfl⟩ := hb
    obtain ⟨rfl, rfl, rfl, rfl⟩ := hc
    obtain ⟨rfl, rfl, rfl, rfl⟩ := hd
    rfl
/-- nine scalars as a row -/
def nine (a0 a1 a2 a3 a4 a5 a6 a7 a8 : E4) : Nat → E4
  | 0 => a0 | 1 => a1 | 2 => a2 | 3 => a3 | 4 => a4 | 5 => a5 | 6 => a6 | 7 => a7 | _ => a8
theorem nine_ok {a0 a1 a2 a3 a4 a5 a6 a7 a8 : E4} (h0 : a0.ok) (h1 : a1.ok) (h2 : a2.ok) (h3 : a3.ok) (h4 : a4.ok) (h5 : a5.ok) (h6 : a6.ok) (h7 : a7.ok) (h8 : a8.ok) : ∀ j, j < 9 → (nine a0 a1 a2 a3 a4 a5 a6 a7 a8 j).ok := by
  intro j hj
  obtain rfl | rfl | rfl | rfl | rfl | rfl | rfl | rfl | rfl : j = 0 ∨ j = 1 ∨ j = 2 ∨ j = 3 ∨ j = 4 ∨ j = 5 ∨ j = 6 ∨ j = 7 ∨ j = 8 := (by omega)
  · exact h0
  · exact h1
  · exact h2
  · exact h3
  · exact h4
  · exact h5
  · exact h6
  · exact h7
  · exact h8
/-- a proof that is handed in -/
theorem openP {v : Value} {d : DataW H} {p : List MemPlace} (h : DataW.Trod enc Tryz.prog w base sp held 28 v d p) (hv : ∃ cs : Array Value, v = .agg cs) :
    ∃ (s l r : Nat → E4) (LP RP : Option Addr) (n m cL cR : Nat), v = .agg (pc s (.slice LP n cL) (.slice RP m cR)).toArray ∧ n + 1 ≤ Rows.uptoBulk d ∧ m + 1 ≤ Rows.uptoBulk d ∧ (∀ k, k < 9 → (s k).ok) ∧ (∀ k, k < n → (l k).ok) ∧ (∀ k, k < m → (r k).ok) ∧ Lm w LP n l ∧ Lm w RP m r := by
  obtain ⟨ca, rfl⟩ := hv
  obtain ⟨fuel, hf⟩ := h
  obtain ⟨f0, f1, f2, f3, f4, f5, f6, f7, hu, ⟨t0, o0⟩, ⟨t1, o1⟩, ⟨t2, o2⟩, ⟨t3, o3⟩, ⟨t4, o4⟩, ⟨t5, o5⟩, ⟨t6, o6⟩, ⟨t7, o7⟩⟩ := undG
  obtain ⟨xs, mm, _, hx, hl, hxl, hfd⟩ := DataW.trod_struct hu hf
  rw [celG] at hl
  have hxl' : xs.length = 8 := hxl
  have hd : d = .agg (xs.map (·.1)) := by
    have := congrArg Prod.fst hx
    simpa using this
  have h0 := hfd 0 f0 rfl
  rw [t0, o0, celA] at h0
  obtain ⟨y0, e0⟩ : ∃ y, xs[0]? = some y := ⟨xs[0]'(by omega), by simp [hxl']⟩
  rw [e0] at h0
  have h1 := hfd 1 f1 rfl
  rw [t1, o1, celL] at h1
  obtain ⟨y1, e1⟩ : ∃ y, xs[1]? = some y := ⟨xs[1]'(by omega), by simp [hxl']⟩
  rw [e1] at h1
  have h2 := hfd 2 f2 rfl
  rw [t2, o2, celL] at h2
  obtain ⟨y2, e2⟩ : ∃ y, xs[2]? = some y := ⟨xs[2]'(by omega), by simp [hxl']⟩
  rw [e2] at h2
  have h3 := hfd 3 f3 rfl
  rw [t3, o3, celL] at h3
  obtain ⟨y3, e3⟩ : ∃ y, xs[3]? = some y := ⟨xs[3]'(by omega), by simp [hxl']⟩
  rw [e3] at h3
  have h4 := hfd 4 f4 rfl
  rw [t4, o4, celM] at h4
  obtain ⟨y4, e4⟩ : ∃ y, xs[4]? = some y := ⟨xs[4]'(by omega), by simp [hxl']⟩
  rw [e4] at h4
  have h5 := hfd 5 f5 rfl
  rw [t5, o5, celM] at h5
  obtain ⟨y5, e5⟩ : ∃ y, xs[5]? = some y := ⟨xs[5]'(by omega), by simp [hxl']⟩
  rw [e5] at h5
  have h6 := hfd 6 f6 rfl
  rw [t6, o6, celL] at h6
  obtain ⟨y6, e6⟩ : ∃ y, xs[6]? = some y := ⟨xs[6]'(by omega), by simp [hxl']⟩
  rw [e6] at h6
  have h7 := hfd 7 f7 rfl
  rw [t7, o7, celL] at h7
  obtain ⟨y7, e7⟩ : ∃ y, xs[7]? = some y := ⟨xs[7]'(by omega), by simp [hxl']⟩
  rw [e7] at h7
  obtain ⟨a0, a1, a2, a3, k0, k1, k2, k3, q0⟩ := sixteen h0
  obtain ⟨a4, k4, q1⟩ := four h1
  obtain ⟨a5, k5, q2⟩ := four h2
  obtain ⟨a6, k6, q3⟩ := four h3
  obtain ⟨LP, n, cL, l, q4, ol, mL, lL⟩ := openM h4
  obtain ⟨RP, m, cR, r, q5, or, mR, lR⟩ := openM h5
  obtain ⟨a7, k7, q6⟩ := four h6
  obtain ⟨a8, k8, q7⟩ := four h7
  have m4 : y4.1 ∈ xs.map (·.1) := List.mem_map.2 ⟨y4, List.mem_of_getElem? e4, rfl⟩
  have m5 : y5.1 ∈ xs.map (·.1) := List.mem_map.2 ⟨y5, List.mem_of_getElem? e5, rfl⟩
  have sz4 : n + 1 ≤ Rows.uptoBulk d := by rw [hd]; simp only [Rows.uptoBulk]; have := mem_leU m4; omega
  have sz5 : m + 1 ≤ Rows.uptoBulk d := by rw [hd]; simp only [Rows.uptoBulk]; have := mem_leU m5; omega
  refine ⟨nine a0 a1 a2 a3 a4 a5 a6 a7 a8, l, r, LP, RP, n, m, cL, cR, ?_, sz4, sz5, nine_ok k0 k1 k2 k3 k4 k5 k6 k7 k8, ol, or, mL, mR⟩
  obtain ⟨cs⟩ := ca
  have hl' : cs.length = 38 := by simpa [Value.cells] using hl
  simp only [Value.cells] at q0 q1 q2 q3 q4 q5 q6 q7
  match cs, hl', q0, q1, q2, q3, q4, q5, q6, q7 with
  | z0 :: z1 :: z2 :: z3 :: z4 :: z5 :: z6 :: z7 :: z8 :: z9 :: z10 :: z11 :: z12 :: z13 :: z14 :: z15 :: z16 :: z17 :: z18 :: z19 :: z20 :: z21 :: z22 :: z23 :: z24 :: z25 :: z26 :: z27 :: z28 :: z29 :: z30 :: z31 :: z32 :: z33 :: z34 :: z35 :: z36 :: z37 :: [], _, q0, q1, q2, q3, q4, q5, q6, q7 =>
    simp at q0 q1 q2 q3 q4 q5 q6 q7
    obtain ⟨rfl, rfl, rfl, rfl, rfl, rfl, rfl, rfl, rfl, rfl, rfl, rfl, rfl, rfl, rfl, rfl⟩ := q0
    obtain ⟨rfl, rfl, rfl, rfl⟩ := q1
    obtain ⟨rfl, rfl, rfl, rfl⟩ := q2
    obtain ⟨rfl, rfl, rfl, rfl⟩ := q3
    subst q4
    subst q5
    obtain ⟨rfl, rfl, rfl, rfl⟩ := q6
    obtain ⟨rfl, rfl, rfl, rfl⟩ := q7
    rfl
end

theorem own_any (s l r : Nat → E4) (LP RP : Option Addr) (n m cL cR : Nat) (bs : List UInt8) (BP : Option Addr) (cB nn : Nat) (w : World) (hT : Tb w) (hH : Xo.Hg w) (hn : n ≤ 1048576) (hm : m ≤ 1048576) (os : ∀ k, k < 9 → (s k).ok) (ol : ∀ k, k < n → (l k).ok) (or : ∀ k, k < m → (r k).ok) (hL : Lm w LP n l) (hR : Lm w RP m r) (hb : Tr.By w BP cB bs) (lb : bs.length ≤ 1048576) (hnn : nn < 2 ^ 64) :
    Calls Tryz.prog 3 #[.agg (pc s (.slice LP n cL) (.slice RP m cR)).toArray, .slice BP bs.length cB, .int .u64 (nn : Int)] w fun e w' => e = .returned (.bool true) ∧ Below w.heap.size w w' := by
  by_cases h : n = m
  · subst h
    by_cases h10 : n ≤ 10
    · exact Xo.own_A s l r LP RP n cL cR bs BP cB nn w hT hH hn h10 os ol or hL hR hb lb hnn
    · exact Xo.own_B2 s l r LP RP n cL cR bs BP cB nn w hT hH hn (by omega) os ol or hL hR hb lb hnn
  · exact Xo.own_B1 s l r LP RP n m cL cR bs BP cB nn w hT hH hn hm h os ol or hL hR hb lb hnn
theorem contract (H : Type) (enc : TypeId × Value → H) (W : World) (base : Nat) (args : Array Value) (ds gs : List (DataW H)) (before : List MemPlace)
    (hval : ∀ (j : Nat) t v, Tryz.f3.params[j]? = some t → args[j]? = some v → Value.okWide Tryz.prog W .any base t v)
    (hW : DataW.Whole enc Tryz.prog Tryz.f3.params.toList Rows.wireOwnSpec.vars false W args.toList ds gs before) (hL : laidMetH Tryz.prog Rows.wireOwnUptoRow.laid W)
    (hZ : Rows.uptoSmall H (ds ++ gs) = true) :
    Calls Tryz.prog 3 args W fun e W' => ∃ v, e = .returned v ∧ Rows.wireOwnSpec.post enc Tryz.prog Tryz.f3 false true false false W args v W' := by
  have hW' := hW
  obtain ⟨p, q, hA0, hV, rfl, hfz, hnd⟩ := hW
  have hA : DataW.TrodAll enc Tryz.prog W 0 (fun _ => true) true Tryz.f3.params.toList args.toList ds p := hA0
  rw [Tryz.params3] at hA hval
  obtain ⟨v0, vs0, d0, ds0, p0, q0, hargs, rfl, rfl, h0, r0⟩ := trodAll_cons hA
  obtain ⟨v1, vs1, d1, ds1, p1, q1, rfl, rfl, rfl, h1, r1⟩ := trodAll_cons r0
  obtain ⟨v2, vs2, d2, ds2, p2, q2, rfl, rfl, rfl, h2, r2⟩ := trodAll_cons r1
  obtain ⟨rfl, rfl, rfl⟩ := trodAll_nil r2
  obtain rfl : args = #[v0, v1, v2] := by cases args; simp_all
  obtain ⟨rfl, rfl⟩ := trodVars_none hV
  have hk0 := h0
  have hk1 := h1
  obtain ⟨s, l, r, LP, RP, n, m, cL, cR, rfl, hn, hm, os, ol, or, mL, mR⟩ := openP h0 (by obtain ⟨_, _, _, _, _, _, _, _, hu, _⟩ := undG; obtain ⟨cs, e, _⟩ := okWide_struct hu (hval 0 28 v0 rfl rfl); exact ⟨cs, e⟩)
  obtain ⟨CP, c, cc, rfl, hc, lc, _, _⟩ := Tr.openY h1 (okWide_slice Tr.undY (hval 1 29 v1 rfl rfl))
  obtain ⟨a2, rfl, rfl, rfl, w2⟩ := open_int Tr.undu (hval 2 22 v2 rfl rfl) h2
  have hz : Rows.uptoBulkAll _ ≤ 1048576 := of_decide_eq_true hZ
  simp only [List.cons_append, List.nil_append, Rows.uptoBulkAll] at hz
  have b2 := bounds_u64 w2
  obtain ⟨nn, rfl⟩ := Int.eq_ofNat_of_zero_le b2.1
  clear hA0
  simp only [List.append_nil] at hW'
  have hlt0 : ∀ x ∈ p0, x.block < W.heap.size := fun x hx => hW'.lt x (by simp [hx])
  have hlt1 : ∀ x ∈ p1, x.block < W.heap.size := fun x hx => hW'.lt x (by simp [hx])
  refine (own_any s l r LP RP n m cL cR c CP cc nn W (table hL) (hashes hL) (by omega) (by omega) os ol or mL mR hc (by omega) (by omega)).mono fun e W' ⟨he, bel⟩ => ?_
  subst he
  exact ⟨_, rfl, _, _, _, [], _, [], hW', trodAll_mk1 (shut_bool Tryz.underlying4 _), (trodAll_cons_mk (Below.trod laidOut (by kernel_rfl) (of_decide_eq_true (by kernel_rfl)) hk0 bel hlt0) (trodAll_cons_mk (Below.trod laidOut (by kernel_rfl) (of_decide_eq_true (by kernel_rfl)) hk1 bel hlt1) (trodAll_cons_mk (shut_int Tr.undu w2) trodAll_mk0))), rfl, bel.frame _, fun h => by cases h⟩

/-- the cells of a proof that holds nothing -/
def wit38 : Array Value := (List.replicate 28 (Value.int .u64 0) ++ (Value.slice none 0 0 :: Value.slice none 0 0 :: List.replicate 8 (Value.int .u64 0))).toArray
/-- a world for the witness: the table holds what its initialiser lays -/
noncomputable def laidWorld (os : Os) : World :=
  { World.holding Tryz.prog os ⟨#[], #[], []⟩ with heap := (((((((((((((World.holding Tryz.prog os ⟨#[], #[], []⟩).heap).modify 0 fun
      | .cells _ t frozen => .cells #[.int .i64 1, .int .i64 0, .int .i64 0, .int .i64 0, .int .i64 0, .int .i64 0, .int .i64 0, .int .i64 0, .int .i64 0, .int .i64 0] t frozen
      | o => o)).modify 1 fun
      | .cells _ t frozen => .cells #[.int .i64 0, .int .i64 0, .int .i64 0, .int .i64 0, .int .i64 0, .int .i64 0, .int .i64 0, .int .i64 0, .int .i64 0, .int .i64 0] t frozen
      | o => o)).modify 2 fun
      | .cells _ t frozen => .cells #[.int .u64 7640891576956012808, .int .u64 13503953896175478587, .int .u64 4354685564936845355, .int .u64 11912009170470909681, .int .u64 5840696475078001361, .int .u64 11170449401992604703, .int .u64 2270897969802886507, .int .u64 6620516959819538809] t frozen
      | o => o)).modify 5 fun
      | .cells _ t frozen => .cells #[.int .u64 6346243789798364141, .int .u64 1503914060200516822, .int .u64 0, .int .u64 1152921504606846976, .int .u64 15486807595281847581, .int .u64 14334777244411350896, .int .u64 18446744073709551614, .int .u64 1152921504606846975, .int .u64 11819153939886771969, .int .u64 14991950615390032711, .int .u64 14910419812499177061, .int .u64 259310039853996605] t frozen
      | o => o)).modify 3 fun
      | .cells _ t frozen => .cells #[.int .i64 67108845, .int .i64 67108863, .int .i64 67108863, .int .i64 67108863, .int .i64 67108863, .int .i64 67108863, .int .i64 67108863, .int .i64 67108863, .int .i64 67108863, .int .i64 2097151] t frozen
      | o => o)).modify 4 fun
      | .cells _ t frozen => .cells ([.int .u64 4794697086780616226, .int .u64 8158064640168781261, .int .u64 13096744586834688815, .int .u64 16840607885511220156, .int .u64 4131703408338449720, .int .u64 6480981068601479193, .int .u64 10538285296894168987, .int .u64 12329834152419229976, .int .u64 15566598209576043074, .int .u64 1334009975649890238, .int .u64 2608012711638119052, .int .u64 6128411473006802146, .int .u64 8268148722764581231, .int .u64 9286055187155687089, .int .u64 11230858885718282805, .int .u64 13951009754708518548, .int .u64 16472876342353939154, .int .u64 17275323862435702243, .int .u64 1135362057144423861, .int .u64 2597628984639134821] ++ [.int .u64 3308224258029322869, .int .u64 5365058923640841347, .int .u64 6679025012923562964, .int .u64 8573033837759648693, .int .u64 10970295158949994411, .int .u64 12119686244451234320, .int .u64 12683024718118986047, .int .u64 13788192230050041572, .int .u64 14330467153632333762, .int .u64 15395433587784984357, .int .u64 489312712824947311, .int .u64 1452737877330783856, .int .u64 2861767655752347644, .int .u64 3322285676063803686, .int .u64 5560940570517711597, .int .u64 5996557281743188959, .int .u64 7280758554555802590, .int .u64 8532644243296465576, .int .u64 9350256976987008742, .int .u64 10552545826968843579] ++ [.int .u64 11727347734174303076, .int .u64 12113106623233404929, .int .u64 14000437183269869457, .int .u64 14369950271660146224, .int .u64 15101387698204529176, .int .u64 15463397548674623760, .int .u64 17586052441742319658, .int .u64 1182934255886127544, .int .u64 1847814050463011016, .int .u64 2177327727835720531, .int .u64 2830643537854262169, .int .u64 3796741975233480872, .int .u64 4115178125766777443, .int .u64 5681478168544905931, .int .u64 6601373596472566643, .int .u64 7507060721942968483, .int .u64 8399075790359081724, .int .u64 8693463985226723168, .int .u64 9568029438360202098, .int .u64 10144078919501101548] ++ [.int .u64 10430055236837252648, .int .u64 11840083180663258601, .int .u64 13761210420658862357, .int .u64 14299343276471374635, .int .u64 14566680578165727644, .int .u64 15097957966210449927, .int .u64 16922976911328602910, .int .u64 17689382322260857208, .int .u64 500013540394364858, .int .u64 748580250866718886, .int .u64 1242879168328830382, .int .u64 1977374033974150939, .int .u64 2944078676154940804, .int .u64 3659926193048069267, .int .u64 4368137639120453308, .int .u64 4836135668995329356, .int .u64 5532061633213252278, .int .u64 6448918945643986474, .int .u64 6902733635092675308, .int .u64 7801388544844847127] : List Value).toArray t frozen
      | o => o) }
theorem laid_met (os : Os) : laidMet Tryz.prog Rows.wireOwnUptoRow.laid ((laidWorld os).forCall (fun _ _ => 0) ⟨#[], #[.agg wit38, .slice none 0 0, .int .u64 0], []⟩).memory :=
  laidMet_of_run' 8 (by kernel_rfl) (by kernel_rfl)
theorem reads (os : Os) {H : Type} (enc : TypeId × Value → H) : ∃ places, DataW.whole enc Tryz.prog ((laidWorld os).forCall (fun _ _ => 0) ⟨#[], #[.agg wit38, .slice none 0 0, .int .u64 0], []⟩).memory Tryz.f3.params.toList Rows.wireOwnSpec.vars false (#[.agg wit38, .slice none 0 0, .int .u64 0] : Array Value).toList 8 = some ([.agg [.agg [.agg [.lit (.int .u64 0), .lit (.int .u64 0), .lit (.int .u64 0), .lit (.int .u64 0)], .agg [.lit (.int .u64 0), .lit (.int .u64 0), .lit (.int .u64 0), .lit (.int .u64 0)], .agg [.lit (.int .u64 0), .lit (.int .u64 0), .lit (.int .u64 0), .lit (.int .u64 0)], .agg [.lit (.int .u64 0), .lit (.int .u64 0), .lit (.int .u64 0), .lit (.int .u64 0)]], .agg [.lit (.int .u64 0), .lit (.int .u64 0), .lit (.int .u64 0), .lit (.int .u64 0)], .agg [.lit (.int .u64 0), .lit (.int .u64 0), .lit (.int .u64 0), .lit (.int .u64 0)], .agg [.lit (.int .u64 0), .lit (.int .u64 0), .lit (.int .u64 0), .lit (.int .u64 0)], .nil, .nil, .agg [.lit (.int .u64 0), .lit (.int .u64 0), .lit (.int .u64 0), .lit (.int .u64 0)], .agg [.lit (.int .u64 0), .lit (.int .u64 0), .lit (.int .u64 0), .lit (.int .u64 0)]], .nil, .lit (.int .u64 0)], [], places) :=
  ⟨[], by kernel_rfl⟩

set_option maxRecDepth 100000 in
theorem lifted (os : Os) (started : os.Started) (H : Type) (enc : TypeId × Value → H) (F : Stop.Interp) :
    ReturnsInHanded {} Tryz.checked os 3 .any ((Rows.OpenSpec.upto Rows.wireOwnSpec).preRow enc Tryz.prog Tryz.f3 Rows.wireOwnUptoRow.domain false Rows.wireOwnUptoRow.laid) (((Rows.OpenSpec.upto Rows.wireOwnSpec).at F).post enc Tryz.prog Tryz.f3 false true false false) := by
  obtain ⟨places, hx⟩ := reads os enc
  refine returnsInHanded_of_row (C := Tryz.checked) (s := Rows.OpenSpec.upto Rows.wireOwnSpec) own started (by kernel_rfl) Tryz.func3
    (witness_row_at (enc := enc) (C := Tryz.checked) false (laidWorld os) #[.agg wit38, .slice none 0 0, .int .u64 0] rfl (by kernel_rfl) (by kernel_rfl) (by kernel_rfl)
      (OpenSpec.preRow_of_cond 8 hx (by kernel_rfl) (fun k hk => by cases hk; kernel_rfl) (by kernel_rfl) (laid_met os))) ?_
  intro W base args ds gs before hval hW _ hC _ hL _ _
  exact contract H enc W base args ds gs before hval hW hL (hC _ rfl)

theorem said : Rows.WireOwnUptoSaid :=
  OpenClaim.holds_of_cond 3 Tryz.f3 rfl rfl rfl rfl rfl rfl rfl ⟨rfl, rfl, rfl, rfl, rfl⟩ rfl rfl rfl rfl rfl (by kernel_rfl) Tryz.func3 (by kernel_rfl)
    (of_decide_eq_true (by kernel_rfl)) (by unfold Func.isWrapper; first | (rw [if_pos (by decide +kernel)]; kernel_rfl) | (rw [if_neg (by decide +kernel)]; exact ⟨rfl, rfl⟩))
    (fun os started H enc _ F => by rw [OpenClaim.pre_eq_preRow]; exact lifted os started H enc F)


theorem plain (f : FuncId) (fn : Func) (hf : Tryz.pinned.checked.prog.funcNamed "veil/veillaw10.WireOwn" = some f) (hfn : Tryz.pinned.checked.prog.funcs[f]? = some fn) :
    false = Tryz.pinned.checked.prog.looks [] ∧ ∀ (j : Nat) t, fn.params[j]? = some t → Tryz.pinned.checked.prog.wantsStandIn t = false := by
  obtain rfl : f = 3 := Option.some.inj ((show Tryz.prog.funcNamed "veil/veillaw10.WireOwn" = some 3 by kernel_rfl).symm.trans hf) |>.symm
  obtain rfl : fn = Tryz.f3 := (Option.some.inj (Tryz.func3.symm.trans hfn)).symm
  refine ⟨by kernel_rfl, fun j t ht => ?_⟩
  rw [Tryz.params3] at ht
  have hm := Array.mem_of_getElem? ht
  simp only [List.mem_toArray, List.mem_cons, List.not_mem_nil, or_false] at hm
  rcases hm with rfl | rfl | rfl
  · exact (show Tryz.prog.wantsStandIn 28 = false by kernel_rfl)
  · exact (show Tryz.prog.wantsStandIn 29 = false by kernel_rfl)
  · exact (show Tryz.prog.wantsStandIn 22 = false by kernel_rfl)

theorem card : Rows.WireOwnUptoCardSaid :=
  Claim7.holds_tied_plain_at .later [] _ _ _ _ said (fun _ h => by cases h) (by kernel_rfl) (fun _ h => by cases h) wireOwnUpto_row_tie rfl ⟨rfl, rfl⟩ (by kernel_rfl) rfl plain (by kernel_rfl)
end Go.Proofs.YtkfkmndhbfeagaaGreatDoor.wireOwn

namespace Go.Proofs.YtkfkmndhbfeagaaGreatDoor
theorem wireOwn_proved : Rows.WireOwnUptoCardSaid := wireOwn.card
#print axioms wireOwn_proved
end Go.Proofs.YtkfkmndhbfeagaaGreatDoor
