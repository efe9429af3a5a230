import Derived.Test.YtpblcnefihhhoaaDoorCards
import Derived.Test.YtpblcnefihhhoaaDoorTie
import Derived.Test.YtpblcnefihhhoaaDoorArr
import Derived.Test.YtpblcnefihhhoaaDoorVxE
import Derived.Deep.DeepHandedRow
import Derived.Lib.LaidTab
import Derived.ChangeSlices
import Derived.SizedLaws
import Derived.Carry
namespace Go.Proofs.YtpblcnefihhhoaaDoor.rangesTape
open Go.ChangeShapes Go.WideShapes Go.ChangeAt Go.RowKit
set_option linter.unusedVariables false
set_option maxRecDepth 100000

theorem laidOut : laidOutB Tryd.prog = true := by kernel_rfl
theorem own : ownKnob Tryd.prog.godebug = none := by kernel_rfl
theorem gTab : Tryd.prog.globalNamed "veil/scalar.table" = some 0 := by kernel_rfl
theorem gTabType : (Tryd.prog.globals[0]?).map (·.type) = some 95 := by kernel_rfl
theorem undT : Tryd.prog.underlying 95 = some (.array 3 27) := by kernel_rfl
theorem celT : Tryd.prog.cellsOf 95 = 12 := by kernel_rfl
theorem undS : Tryd.prog.underlying 27 = some (.array 4 25) := by kernel_rfl
theorem celS : Tryd.prog.cellsOf 27 = 4 := by kernel_rfl
theorem undL : Tryd.prog.underlying 27 = some (.array 4 25) := by kernel_rfl
theorem celL : Tryd.prog.cellsOf 27 = 4 := by kernel_rfl
theorem undu : Tryd.prog.underlying 25 = some (.int .u64) := by kernel_rfl
theorem celu : Tryd.prog.cellsOf 25 = 1 := by kernel_rfl

/-- what the row's list gives: the table's cells hold its twelve numbers -/
theorem rows_of {H : Type} {enc : TypeId × Value → H} {P : Program} {w : World} {base : Nat} {sp : Nat → Bool} {held : Bool} {fuel : Nat} {t s e : TypeId} {n m : Nat} {k : IntKind} {cs : List Value} {zss : List (List Int)} {p : List MemPlace}
    (ht : P.underlying t = some (.array n s)) (hs : P.underlying s = some (.array m e)) (he : P.underlying e = some (.int k)) (hce : P.cellsOf e = 1) (hcs : P.cellsOf s = m) (hct : P.cellsOf t = n * m)
    (h : DataW.trod enc P w base sp held fuel t cs = some (.agg (zss.map fun zs => Lib.tabData k zs), p)) : ∀ i zs, i < n → zss[i]? = some zs → (cs.drop (i * m)).take m = zs.map fun z => Value.int k z := by
  cases fuel with
  | zero => simp [DataW.trod] at h
  | succ fuel =>
    simp only [DataW.trod, ht, hcs, hct] at h
    split at h
    · obtain ⟨xs, hm, hx⟩ := Option.map_eq_some_iff.1 h
      have hxs : xs.map (·.1) = zss.map fun zs => (Lib.tabData k zs : DataW H) := by
        have := congrArg Prod.fst hx
        simpa using this
      intro i zs hi hz
      obtain ⟨b, hb, hf⟩ := Lib.mapM_at hm i i (by simp [hi])
      have h2 : (xs.map (·.1))[i]? = some b.1 := by simp [hb]
      rw [hxs] at h2
      simp only [List.getElem?_map, hz, Option.map_some, Option.some.injEq] at h2
      obtain ⟨b1, b2⟩ := b
      subst h2
      exact Lib.cells_of_tab hs he hce hcs hf
    · cases h

theorem table {W : World} (h : laidMetH Tryd.prog Rows.rangesTapeRow.laid W) : Tb W := by
  obtain ⟨ps, ⟨g', t', cs, fuel, p, q, hg', ht', hvar, hd, _, _⟩, _⟩ := h
  obtain rfl := Option.some.inj (gTab.symm.trans hg')
  obtain rfl := Option.some.inj (gTabType.symm.trans ht')
  have key := rows_of (zss := [[6346243789798364141, 1503914060200516822, 0, 1152921504606846976], [15486807595281847581, 14334777244411350896, 18446744073709551614, 1152921504606846975], [11819153939886771969, 14991950615390032711, 14910419812499177061, 259310039853996605]]) undT undS undu celu celS celT hd
  have g : ∀ j, W.cell? ⟨0, j, none⟩ = cs[j]? := fun j => World.var?_cell gTab hvar j
  have r0 := key 0 _ (by decide) rfl
  have r1 := key 1 _ (by decide) rfl
  have r2 := key 2 _ (by decide) rfl
  have at0 : ∀ (i j : Nat) (zs : List Int), (cs.toList.drop (i * 4)).take 4 = zs.map (fun z => Value.int .u64 z) → j < 4 → cs[i * 4 + j]? = (zs[j]?).map fun z => Value.int .u64 z := by
    intro i j zs hr hj
    have := congrArg (·[j]?) hr
    simpa [List.getElem?_take, List.getElem?_drop, hj] using this
  refine ⟨?_, ?_, ?_, ?_, ?_, ?_, ?_, ?_, ?_, ?_, ?_, ?_⟩
  · rw [g]; exact at0 0 0 _ r0 (by decide)
  · rw [g]; exact at0 0 1 _ r0 (by decide)
  · rw [g]; exact at0 0 2 _ r0 (by decide)
  · rw [g]; exact at0 0 3 _ r0 (by decide)
  · rw [g]; exact at0 1 0 _ r1 (by decide)
  · rw [g]; exact at0 1 1 _ r1 (by decide)
  · rw [g]; exact at0 1 2 _ r1 (by decide)
  · rw [g]; exact at0 1 3 _ r1 (by decide)
  · rw [g]; exact at0 2 0 _ r2 (by decide)
  · rw [g]; exact at0 2 1 _ r2 (by decide)
  · rw [g]; exact at0 2 2 _ r2 (by decide)
  · rw [g]; exact at0 2 3 _ r2 (by decide)

section
variable {H : Type} {enc : TypeId × Value → H} {w : World} {base : Nat} {sp : Nat → Bool} {held : Bool}
theorem list4 : ∀ zs : List Int, zs.length = 4 → ∃ a : E4, zs = [a.x0, a.x1, a.x2, a.x3]
  | [x0, x1, x2, x3], _ => ⟨⟨x0, x1, x2, x3⟩, rfl⟩
theorem wd_of {z : Int} (h : (Lit.int .u64 z).wf = true) : Sm.Wd z := by
  have := bounds_u64 h
  unfold Sm.Wd; omega
theorem wf_of {z : Int} (h : Sm.Wd z) : (Lit.int .u64 z).wf = true := by
  unfold Sm.Wd at h
  exact WalkArith.wf_u64 ⟨h.1, by omega⟩
theorem open4 {r : Reach} {b0 : Nat} {v : Value} {d : DataW H} {p : List MemPlace} (hv : Value.okWide Tryd.prog w r b0 27 v) (h : DataW.Trod enc Tryd.prog w base sp held 27 v d p) :
    ∃ a : E4, v = a.v ∧ d = .agg ([a.x0, a.x1, a.x2, a.x3].map fun z => .lit (.int .u64 z)) ∧ p = [] ∧ a.ok := by
  obtain ⟨zs, hl, hv', hd, hp, hw⟩ := open_arr undL undu celu celL hv h
  obtain ⟨a, rfl⟩ := list4 zs hl
  exact ⟨a, hv', hd, hp, wd_of (hw _ (by simp)), wd_of (hw _ (by simp)), wd_of (hw _ (by simp)), wd_of (hw _ (by simp))⟩
theorem shut4 (a : E4) (h : a.ok) : DataW.Trod enc Tryd.prog w base sp held 27 a.v (.agg ([a.x0, a.x1, a.x2, a.x3].map fun z => .lit (.int .u64 z))) [] := by
  obtain ⟨h0, h1, h2, h3⟩ := h
  refine shut_arr undL undu celu celL [a.x0, a.x1, a.x2, a.x3] rfl ?_
  intro z hz
  simp only [List.mem_cons, List.not_mem_nil, or_false] at hz
  rcases hz with rfl | rfl | rfl | rfl
  · exact wf_of h0
  · exact wf_of h1
  · exact wf_of h2
  · exact wf_of h3
theorem undY : Tryd.prog.underlying 24 = some (.slice 5) := by kernel_rfl
theorem undb : Tryd.prog.underlying 5 = some (.int .u8) := by kernel_rfl
theorem celb : Tryd.prog.cellsOf 5 = 1 := by kernel_rfl
theorem bytb : Tryd.prog.bytesOf 5 = 1 := by kernel_rfl
theorem openY {v : Value} {d : DataW H} {p : List MemPlace} (h : DataW.Trod enc Tryd.prog w 0 (fun _ => true) true 24 v d p) (hv : ∃ a0 len cap, v = .slice a0 len cap) :
    ∃ (P : Option Addr) (L cap : Nat) (f : Nat → Int), v = .slice P L cap ∧ L ≤ cap ∧ (P = none → L = 0 ∧ cap = 0) ∧ (∀ j, j < L → 0 ≤ f j ∧ f j ≤ 255) ∧ Stm w P L f ∧ (d = .nil ∧ L = 0 ∨ ∃ es rs, d = .slice es rs ∧ es.length + rs.length = cap) := by
  obtain ⟨a0, len, cap, rfl⟩ := hv
  obtain ⟨fuel, hf⟩ := h
  rcases open_ints undY undb celb hf with ⟨hcs, hx⟩ | ⟨a, len', cap', zs, hcs, _, hl, hm, hz, hx, hcell, hwz⟩
  · simp [Value.cells] at hcs
    obtain ⟨rfl, rfl, rfl⟩ := hcs
    simp only [Prod.mk.injEq] at hx
    exact ⟨none, 0, 0, fun _ => 0, rfl, Nat.le_refl _, fun _ => ⟨rfl, rfl⟩, fun j hj => by omega, ⟨0, 0, fun h => by omega, fun h => by omega⟩, Or.inl ⟨hx.1, rfl⟩⟩
  · simp [Value.cells] at hcs
    obtain ⟨rfl, rfl, rfl⟩ := hcs
    simp only [Prod.mk.injEq] at hx
    simp only [if_true] at hz
    obtain ⟨b, off, spot⟩ := a
    have hr : ∀ j, j < len → 0 ≤ zs.getD j 0 ∧ zs.getD j 0 ≤ 255 := fun j hj => by
      have hm : zs.getD j 0 ∈ zs := by
        rw [List.getD_eq_getElem?_getD, List.getElem?_eq_getElem (by omega)]
        exact List.getElem_mem _
      have := bounds_u8 (hwz _ hm)
      omega
    refine ⟨_, len, cap, fun j => zs.getD j 0, rfl, hl, (fun h => (by cases h)), hr, ⟨b, off, fun h0 => ?_, fun h0 => ⟨fun j hj => ?_, hr⟩⟩, Or.inr ⟨_, _, hx.1, by simp [lits]; omega⟩⟩
    · have hs : spot = none := by simpa [Addr.add] using World.cell?_spot (hcell 0 (by omega))
      rw [hs]
    · have hs : spot = none := by simpa [Addr.add] using World.cell?_spot (hcell 0 (by omega))
      have := hcell j (by omega)
      rw [hs, Addr.add_lit] at this
      exact this
theorem undP2 : ∃ f0 f1 : Field, Tryd.prog.underlying 23 = some (.struct #[f0, f1]) ∧ (f0.type = 3 ∧ f0.offset = 0) ∧ (f1.type = 3 ∧ f1.offset = 1) := ⟨_, _, Tryd.underlying23, ⟨rfl, rfl⟩, rfl, rfl⟩
theorem celi : Tryd.prog.cellsOf 3 = 1 := by kernel_rfl
theorem celP : Tryd.prog.cellsOf 23 = 2 := by kernel_rfl
theorem openPa {v : Value} {d : DataW H} {p : List MemPlace} (h : DataW.Trod enc Tryd.prog w base sp held 23 v d p) (hv : ∃ cs : Array Value, v = .agg cs) : ∃ b c : Int, v = .agg #[.int .i64 b, .int .i64 c] := by
  obtain ⟨ca, rfl⟩ := hv
  obtain ⟨fuel, hf⟩ := h
  obtain ⟨f0, f1, hu, ⟨t0, o0⟩, ⟨t1, o1⟩⟩ := undP2
  obtain ⟨xs, m, _, hx, hl, hxl, hfd⟩ := DataW.trod_struct hu hf
  have h0 := hfd 0 f0 rfl
  have h1 := hfd 1 f1 rfl
  rw [t0, o0, celi] at h0
  rw [t1, o1, celi] at h1
  have hxl' : xs.length = 2 := hxl
  obtain ⟨y0, e0⟩ : ∃ y, xs[0]? = some y := ⟨xs[0]'(by omega), by simp [hxl']⟩
  obtain ⟨y1, e1⟩ : ∃ y, xs[1]? = some y := ⟨xs[1]'(by omega), by simp [hxl']⟩
  rw [e0] at h0
  rw [e1] at h1
  obtain ⟨b, hb, -, -⟩ := DataW.trod_int Tryd.underlying3 h0
  obtain ⟨c, hc, -, -⟩ := DataW.trod_int Tryd.underlying3 h1
  rw [celP] at hl
  obtain ⟨cs⟩ := ca
  have hl' : cs.length = 2 := by simpa [Value.cells] using hl
  simp only [Value.cells] at hb hc
  match cs, hl', hb, hc with
  | [z0, z1], _, hb, hc =>
    simp at hb hc
    subst hb
    subst hc
    exact ⟨b, c, rfl⟩
end

theorem contract (H : Type) (enc : TypeId × Value → H) (W : World) (base : Nat) (args : Array Value) (ds gs : List (DataW H)) (before : List MemPlace)
    (hval : ∀ (j : Nat) t v, Tryd.f3.params[j]? = some t → args[j]? = some v → Value.okWide Tryd.prog W .any base t v)
    (hW : DataW.Whole enc Tryd.prog Tryd.f3.params.toList Rows.rangesTapeSpec.vars false W args.toList ds gs before) (hL : laidMetH Tryd.prog Rows.rangesTapeRow.laid W)
    (hZ : (DataW.weightsEach Tryd.prog (Tryd.f3.params.toList ++ (OpenSpec.ofChange Rows.rangesTapeSpec).bare.plain.varTypes Tryd.prog) (ds ++ gs)).all (· ≤ reachBytes) = true) :
    Calls Tryd.prog 3 args W fun e W' => ∃ v, e = .returned v ∧ Rows.rangesTapeSpec.post enc Tryd.prog Tryd.f3 false true false false W args v W' := by
  have hW' := hW
  obtain ⟨p, q, hA0, hV, rfl, hfz, hnd⟩ := hW
  have hA : DataW.TrodAll enc Tryd.prog W 0 (fun _ => true) true Tryd.f3.params.toList args.toList ds p := hA0
  rw [Tryd.params3] at hA hval hZ
  obtain ⟨v0, vs0, d0, ds0, p0, q0, hargs, rfl, rfl, h0, r0⟩ := trodAll_cons hA
  obtain ⟨v1, vs1, d1, ds1, p1, q1, rfl, rfl, rfl, h1, r1⟩ := trodAll_cons r0
  obtain ⟨v2, vs2, d2, ds2, p2, q2, rfl, rfl, rfl, h2, r2⟩ := trodAll_cons r1
  obtain ⟨v3, vs3, d3, ds3, p3, q3, rfl, rfl, rfl, h3, r3⟩ := trodAll_cons r2
  obtain ⟨rfl, rfl, rfl⟩ := trodAll_nil r3
  obtain rfl : args = #[v0, v1, v2, v3] := by cases args; simp_all
  obtain ⟨rfl, rfl⟩ := trodVars_none hV
  have hk0 := h0
  obtain ⟨b0, c0, rfl⟩ := openPa h0 (by obtain ⟨_, _, hu, _⟩ := undP2; obtain ⟨cs, e, _⟩ := okWide_struct hu (hval 0 23 v0 rfl rfl); exact ⟨cs, e⟩)
  have hk1 := h1
  obtain ⟨P1, L1, c1, a1, rfl, u1, n1, w1, s1, z1⟩ := openY h1 (okWide_slice undY (hval 1 24 v1 rfl rfl))
  have m1 : L1 ≤ 140737488351232 := by
    rcases z1 with ⟨_, h⟩ | ⟨es, rs, rfl, hc⟩
    · omega
    · have := sized_slice hZ (j := 1) (t := 24) rfl rfl undY
      rw [hc, bytb] at this
      unfold reachBytes at this
      omega
  obtain ⟨a2, rfl, rfl, rfl, w2⟩ := open4 (hval 2 27 v2 rfl rfl) h2
  obtain ⟨a3, rfl, rfl, rfl, w3⟩ := open4 (hval 3 27 v3 rfl rfl) h3
  clear hA0
  simp only [List.append_nil] at hW'
  have hlt0 : ∀ x ∈ p0, x.block < W.heap.size := fun x hx => hW'.lt x (by simp [hx])
  have hlt1 : ∀ x ∈ p1, x.block < W.heap.size := fun x hx => hW'.lt x (by simp [hx])
  refine (tape_any b0 c0 P1 L1 c1 a1 a2 a3 W (table hL) m1 u1 n1 w1 s1 w2 w3).mono fun e W' ⟨he, bel⟩ => ?_
  subst he
  exact ⟨_, rfl, _, _, _, [], _, [], hW', trodAll_mk1 (shut_bool Tryd.underlying4 _), (trodAll_cons_mk (Below.trod laidOut (by kernel_rfl) (of_decide_eq_true (by kernel_rfl)) hk0 bel hlt0) (trodAll_cons_mk (Below.trod laidOut (by kernel_rfl) (of_decide_eq_true (by kernel_rfl)) hk1 bel hlt1) (trodAll_cons_mk (shut4 a2 w2) (trodAll_cons_mk (shut4 a3 w3) trodAll_mk0)))), rfl, bel.frame _, fun h => by cases h⟩

/-- a world for the witness: the table holds what its initialiser lays -/
noncomputable def laidWorld (os : Os) : World :=
  { World.holding Tryd.prog os ⟨#[], #[], []⟩ with heap := (World.holding Tryd.prog os ⟨#[], #[], []⟩).heap.modify 0 fun
      | .cells _ t frozen => .cells #[.int .u64 6346243789798364141, .int .u64 1503914060200516822, .int .u64 0, .int .u64 1152921504606846976, .int .u64 15486807595281847581, .int .u64 14334777244411350896, .int .u64 18446744073709551614, .int .u64 1152921504606846975, .int .u64 11819153939886771969, .int .u64 14991950615390032711, .int .u64 14910419812499177061, .int .u64 259310039853996605] t frozen
      | o => o }
theorem laid_met (os : Os) : laidMet Tryd.prog Rows.rangesTapeRow.laid ((laidWorld os).forCall (fun _ _ => 0) ⟨#[], #[.agg #[.int .i64 0, .int .i64 0], .slice none 0 0, .agg #[.int .u64 0, .int .u64 0, .int .u64 0, .int .u64 0], .agg #[.int .u64 0, .int .u64 0, .int .u64 0, .int .u64 0]], []⟩).memory :=
  laidMet_of_run' 8 (by kernel_rfl) (by kernel_rfl)
theorem reads (os : Os) {H : Type} (enc : TypeId × Value → H) : ∃ places, DataW.whole enc Tryd.prog ((laidWorld os).forCall (fun _ _ => 0) ⟨#[], #[.agg #[.int .i64 0, .int .i64 0], .slice none 0 0, .agg #[.int .u64 0, .int .u64 0, .int .u64 0, .int .u64 0], .agg #[.int .u64 0, .int .u64 0, .int .u64 0, .int .u64 0]], []⟩).memory Tryd.f3.params.toList Rows.rangesTapeSpec.vars false (#[.agg #[.int .i64 0, .int .i64 0], .slice none 0 0, .agg #[.int .u64 0, .int .u64 0, .int .u64 0, .int .u64 0], .agg #[.int .u64 0, .int .u64 0, .int .u64 0, .int .u64 0]] : Array Value).toList 8 = some ([.agg [.lit (.int .i64 0), .lit (.int .i64 0)], .nil, .agg [.lit (.int .u64 0), .lit (.int .u64 0), .lit (.int .u64 0), .lit (.int .u64 0)], .agg [.lit (.int .u64 0), .lit (.int .u64 0), .lit (.int .u64 0), .lit (.int .u64 0)]], [], places) :=
  ⟨[], by kernel_rfl⟩

set_option maxRecDepth 100000 in
theorem lifted (os : Os) (started : os.Started) (H : Type) (enc : TypeId × Value → H) (F : Stop.Interp) :
    ReturnsInHanded {} Tryd.checked os 3 .any ((OpenSpec.ofChange Rows.rangesTapeSpec).preRow enc Tryd.prog Tryd.f3 Rows.rangesTapeRow.domain false Rows.rangesTapeRow.laid) (((OpenSpec.ofChange Rows.rangesTapeSpec).at F).post enc Tryd.prog Tryd.f3 false true false false) := by
  obtain ⟨places, hx⟩ := reads os enc
  refine returnsInHanded_of_row (C := Tryd.checked) (s := OpenSpec.ofChange Rows.rangesTapeSpec) own started (by kernel_rfl) Tryd.func3
    (witness_row_at (enc := enc) (C := Tryd.checked) false (laidWorld os) #[.agg #[.int .i64 0, .int .i64 0], .slice none 0 0, .agg #[.int .u64 0, .int .u64 0, .int .u64 0, .int .u64 0], .agg #[.int .u64 0, .int .u64 0, .int .u64 0, .int .u64 0]] rfl (by kernel_rfl) (by kernel_rfl) (by kernel_rfl)
      (OpenSpec.preRow_of_cond 8 hx (by kernel_rfl) (fun k hk => by cases hk) (by kernel_rfl) (laid_met os))) ?_
  intro W base args ds gs before hval hW _ _ hZ hL _ _
  exact contract H enc W base args ds gs before hval hW hL hZ

theorem said : Rows.RangesTapeSaid :=
  OpenClaim.holds_of_cond 3 Tryd.f3 rfl rfl rfl rfl rfl rfl rfl ⟨rfl, rfl, rfl, rfl, rfl⟩ rfl rfl rfl rfl rfl (by kernel_rfl) Tryd.func3 (by kernel_rfl)
    (of_decide_eq_true (by kernel_rfl)) (by unfold Func.isWrapper; first | (rw [if_pos (by decide +kernel)]; kernel_rfl) | (rw [if_neg (by decide +kernel)]; exact ⟨rfl, rfl⟩))
    (fun os started H enc _ F => by rw [OpenClaim.pre_eq_preRow]; exact lifted os started H enc F)

theorem plain (f : FuncId) (fn : Func) (hf : Tryd.pinned.checked.prog.funcNamed "veil/veillaw13.RangesTape" = some f) (hfn : Tryd.pinned.checked.prog.funcs[f]? = some fn) :
    true = Tryd.pinned.checked.prog.looks [] ∧ ∀ (j : Nat) t, fn.params[j]? = some t → Tryd.pinned.checked.prog.wantsStandIn t = false := by
  obtain rfl : f = 3 := Option.some.inj ((show Tryd.prog.funcNamed "veil/veillaw13.RangesTape" = some 3 by kernel_rfl).symm.trans hf) |>.symm
  obtain rfl : fn = Tryd.f3 := (Option.some.inj (Tryd.func3.symm.trans hfn)).symm
  refine ⟨by kernel_rfl, fun j t ht => ?_⟩
  rw [Tryd.params3] at ht
  have hm := Array.mem_of_getElem? ht
  simp only [List.mem_toArray, List.mem_cons, List.not_mem_nil, or_false] at hm
  rcases hm with rfl | rfl | rfl | rfl
  · exact (show Tryd.prog.wantsStandIn 23 = false by kernel_rfl)
  · exact (show Tryd.prog.wantsStandIn 24 = false by kernel_rfl)
  · exact (show Tryd.prog.wantsStandIn 27 = false by kernel_rfl)
  · exact (show Tryd.prog.wantsStandIn 27 = false by kernel_rfl)

theorem card : Rows.RangesTapeCardSaid :=
  Claim7.holds_tied_plain_at .later [] _ _ _ _ said (fun _ h => by cases h) (by kernel_rfl) (fun _ h => by cases h) rangesTape_row_tie rfl ⟨rfl, rfl⟩ (by kernel_rfl) rfl plain (by kernel_rfl)
end Go.Proofs.YtpblcnefihhhoaaDoor.rangesTape

namespace Go.Proofs.YtpblcnefihhhoaaDoor
theorem rangesTape_proved : Rows.RangesTapeCardSaid := rangesTape.card
#print axioms rangesTape_proved
end Go.Proofs.YtpblcnefihhhoaaDoor
