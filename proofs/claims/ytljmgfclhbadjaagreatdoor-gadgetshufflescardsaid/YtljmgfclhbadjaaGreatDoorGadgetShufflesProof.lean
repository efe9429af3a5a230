import Derived.Test.YtljmgfclhbadjaaGreatDoorCards
import Derived.Test.YtljmgfclhbadjaaGreatDoorTie
import Derived.Test.YtljmgfclhbadjaaGreatDoorArr
import Derived.Test.YtljmgfclhbadjaaGreatDoorDnt
import Derived.Deep.DeepHandedRow
import Derived.Lib.LaidTab
import Derived.ChangeSlices
import Derived.SizedLaws
import Derived.Carry
namespace Go.Proofs.YtljmgfclhbadjaaGreatDoor.gadgetShuffles
open Ci
open Go.ChangeShapes Go.WideShapes Go.ChangeAt Go.RowKit
set_option linter.unusedVariables false
set_option maxRecDepth 1000000
theorem laidOut : laidOutB Tryz.prog = true := by kernel_rfl
theorem own : ownKnob Tryz.prog.godebug = none := by kernel_rfl
theorem gTab : Tryz.prog.globalNamed "veil/scalar.table" = some 1 := by kernel_rfl
theorem gTabType : (Tryz.prog.globals[1]?).map (·.type) = some 281 := by kernel_rfl
theorem undT : Tryz.prog.underlying 281 = some (.array 3 53) := by kernel_rfl
theorem celT : Tryz.prog.cellsOf 281 = 12 := by kernel_rfl
theorem undS : Tryz.prog.underlying 53 = some (.array 4 25) := by kernel_rfl
theorem celS : Tryz.prog.cellsOf 53 = 4 := by kernel_rfl
theorem undL : Tryz.prog.underlying 26 = some (.array 4 25) := by kernel_rfl
theorem celL : Tryz.prog.cellsOf 26 = 4 := by kernel_rfl
theorem undu : Tryz.prog.underlying 25 = some (.int .u64) := by kernel_rfl
theorem celu : Tryz.prog.cellsOf 25 = 1 := by kernel_rfl
theorem rows_of {H : Type} {enc : TypeId × Value → H} {P : Program} {w : World} {base : Nat} {sp : Nat → Bool} {held : Bool} {fuel : Nat} {t s e : TypeId} {n m : Nat} {k : IntKind} {cs : List Value} {zss : List (List Int)} {p : List MemPlace}
  (ht : P.underlying t = some (.array n s)) (hs : P.underlying s = some (.array m e)) (he : P.underlying e = some (.int k)) (hce : P.cellsOf e = 1) (hcs : P.cellsOf s = m) (hct : P.cellsOf t = n * m)
  (h : DataW.trod enc P w base sp held fuel t cs = some (.agg (zss.map fun zs => Lib.tabData k zs), p)) : ∀ i zs, i < n → zss[i]? = some zs → (cs.drop (i * m)).take m = zs.map fun z => Value.int k z := by
 cases fuel with
 | zero => simp [DataW.trod] at h
 | succ fuel =>
  simp only [DataW.trod, ht, hcs, hct] at h
  split at h
  ·obtain ⟨xs, hm, hx⟩ := Option.map_eq_some_iff.1 h
   have hxs : xs.map (·.1) = zss.map fun zs => (Lib.tabData k zs : DataW H) := by
    have := congrArg Prod.fst hx
    simpa using this
   intro i zs hi hz
   obtain ⟨b, hb, hf⟩ := Lib.mapM_at hm i i (by simp [hi])
   have h2 : (xs.map (·.1))[i]? = some b.1 := by simp [hb]
   rw [hxs] at h2
   simp only [List.getElem?_map, hz, Option.map_some, Option.some.injEq] at h2
   obtain ⟨b1, b2⟩ := b
   subst h2
   exact Lib.cells_of_tab hs he hce hcs hf
  ·cases h
theorem table {W : World} (h : laidMetH Tryz.prog Rows.gadgetShufflesRow.laid W) : Tb W := by
 obtain ⟨ps, ⟨g', t', cs, fuel, p, q, hg', ht', hvar, hd, _, _⟩, _⟩ := h
 obtain rfl := Option.some.inj (gTab.symm.trans hg')
 obtain rfl := Option.some.inj (gTabType.symm.trans ht')
 have key := rows_of (zss := [[6346243789798364141, 1503914060200516822, 0, 1152921504606846976], [15486807595281847581, 14334777244411350896, 18446744073709551614, 1152921504606846975], [11819153939886771969, 14991950615390032711, 14910419812499177061, 259310039853996605]]) undT undS undu celu celS celT hd
 have g : ∀ j, W.cell? ⟨1, j, none⟩ = cs[j]? := fun j => World.var?_cell gTab hvar j
 have r0 := key 0 _ (by decide) rfl
 have r1 := key 1 _ (by decide) rfl
 have r2 := key 2 _ (by decide) rfl
 have at0 : ∀ (i j : Nat) (zs : List Int), (cs.toList.drop (i * 4)).take 4 = zs.map (fun z => Value.int .u64 z) → j < 4 → cs[i * 4 + j]? = (zs[j]?).map fun z => Value.int .u64 z := by
  intro i j zs hr hj
  have := congrArg (·[j]?) hr
  simpa [List.getElem?_take, List.getElem?_drop, hj] using this
 refine ⟨?_, ?_, ?_, ?_, ?_, ?_, ?_, ?_, ?_, ?_, ?_, ?_⟩
 ·rw [g]; exact at0 0 0 _ r0 (by decide)
 ·rw [g]; exact at0 0 1 _ r0 (by decide)
 ·rw [g]; exact at0 0 2 _ r0 (by decide)
 ·rw [g]; exact at0 0 3 _ r0 (by decide)
 ·rw [g]; exact at0 1 0 _ r1 (by decide)
 ·rw [g]; exact at0 1 1 _ r1 (by decide)
 ·rw [g]; exact at0 1 2 _ r1 (by decide)
 ·rw [g]; exact at0 1 3 _ r1 (by decide)
 ·rw [g]; exact at0 2 0 _ r2 (by decide)
 ·rw [g]; exact at0 2 1 _ r2 (by decide)
 ·rw [g]; exact at0 2 2 _ r2 (by decide)
 ·rw [g]; exact at0 2 3 _ r2 (by decide)
def Lm (w : World) (P : Option Addr) (n : Nat) (g : Nat → E4) : Prop := ∃ sb so : Nat, (0 < n → P = some ⟨sb, so, none⟩) ∧ (0 < n → R4 w sb so n g)
section
variable {H : Type} {enc : TypeId × Value → H} {w : World} {base : Nat} {sp : Nat → Bool} {held : Bool}
theorem list4 : ∀ zs : List Int, zs.length = 4 → ∃ a : E4, zs = [a.x0, a.x1, a.x2, a.x3]
 | [x0, x1, x2, x3], _ => ⟨⟨x0, x1, x2, x3⟩, rfl⟩
theorem wd_of {z : Int} (h : (Lit.int .u64 z).wf = true) : Sm.Wd z := by
 have := bounds_u64 h
 unfold Sm.Wd; omega
theorem wf_of {z : Int} (h : Sm.Wd z) : (Lit.int .u64 z).wf = true := by
 unfold Sm.Wd at h
 exact WalkArith.wf_u64 ⟨h.1, by omega⟩
theorem shut4 (a : E4) (h : a.ok) : DataW.Trod enc Tryz.prog w base sp held 26 a.v (.agg ([a.x0, a.x1, a.x2, a.x3].map fun z => .lit (.int .u64 z))) [] := by
 obtain ⟨h0, h1, h2, h3⟩ := h
 refine shut_arr undL undu celu celL [a.x0, a.x1, a.x2, a.x3] rfl ?_
 intro z hz
 simp only [List.mem_cons, List.not_mem_nil, or_false] at hz
 rcases hz with rfl | rfl | rfl | rfl
 ·exact wf_of h0
 ·exact wf_of h1
 ·exact wf_of h2
 ·exact wf_of h3
theorem undM : Tryz.prog.underlying 22 = some (.slice 26) := by kernel_rfl
theorem bytM : Tryz.prog.bytesOf 26 = 32 := by kernel_rfl
theorem four {fuel : Nat} {cs : List Value} {x : DataW H × List MemPlace} (h : DataW.trod enc Tryz.prog w base sp held fuel 26 cs = some x) :
  ∃ z : E4, z.ok ∧ cs = [.int .u64 z.x0, .int .u64 z.x1, .int .u64 z.x2, .int .u64 z.x3] := by
 obtain ⟨xs, m, _, hx, hl, hxl, hi⟩ := DataW.trod_array undL h
 rw [celL] at hl
 have key : ∀ i, i < 4 → ∃ z : Int, cs[i]? = some (.int .u64 z) ∧ (Lit.int .u64 z).wf = true := by
  intro i hin
  have h1 := hi i hin
  obtain ⟨y, hy⟩ : ∃ y, xs[i]? = some y := ⟨xs[i]'(by omega), by simp [hxl, hin]⟩
  rw [hy, celu, Nat.mul_one] at h1
  obtain ⟨z, hc, rfl, hw⟩ := DataW.trod_int undu h1
  refine ⟨z, ?_, hw⟩
  have := congrArg (·[0]?) hc
  simpa [List.getElem?_take, List.getElem?_drop] using this
 obtain ⟨z0, c0, w0⟩ := key 0 (by omega)
 obtain ⟨z1, c1, w1⟩ := key 1 (by omega)
 obtain ⟨z2, c2, w2⟩ := key 2 (by omega)
 obtain ⟨z3, c3, w3⟩ := key 3 (by omega)
 refine ⟨⟨z0, z1, z2, z3⟩, ⟨wd_of w0, wd_of w1, wd_of w2, wd_of w3⟩, ?_⟩
 match cs, hl, c0, c1, c2, c3 with
 | [y0, y1, y2, y3], _, c0, c1, c2, c3 =>
  simp only [List.getElem?_cons_zero, List.getElem?_cons_succ, Option.some.injEq] at c0 c1 c2 c3
  rw [c0, c1, c2, c3]
theorem openM {v : Value} {d : DataW H} {p : List MemPlace} (h : DataW.Trod enc Tryz.prog w 0 (fun _ => true) true 22 v d p) (hv : ∃ a0 len cap, v = .slice a0 len cap) :
  ∃ (P : Option Addr) (L cap : Nat) (g : Nat → E4), v = .slice P L cap ∧ L ≤ cap ∧ (P = none → L = 0 ∧ cap = 0) ∧ (∀ j, j < L → (g j).ok) ∧ Lm w P L g ∧ (d = .nil ∧ L = 0 ∨ ∃ es rs, d = .slice es rs ∧ es.length + rs.length = cap) := by
 obtain ⟨a0, len, cap, rfl⟩ := hv
 obtain ⟨fuel, hf⟩ := h
 rcases DataW.trod_slice undM hf with ⟨hcs, hx⟩ | ⟨a, len', cap', elems, rest, n, _, hcs, hx, _, hl, hm, hlen, hel, hsp, _⟩
 ·simp [Value.cells] at hcs
  obtain ⟨rfl, rfl, rfl⟩ := hcs
  simp only [Prod.mk.injEq] at hx
  exact ⟨none, 0, 0, fun _ => zero4, rfl, Nat.le_refl _, fun _ => ⟨rfl, rfl⟩, fun j hj => by omega, ⟨0, 0, fun h => by omega, fun h => by omega⟩, Or.inl ⟨hx.1, rfl⟩⟩
 ·simp [Value.cells] at hcs
  obtain ⟨rfl, rfl, rfl⟩ := hcs
  simp only [Prod.mk.injEq] at hx
  obtain ⟨b, off, spot⟩ := a
  have key : ∀ k, ∃ z : E4, k < len → z.ok ∧ ∀ j u, [Value.int .u64 z.x0, .int .u64 z.x1, .int .u64 z.x2, .int .u64 z.x3][j]? = some u → w.cell? (((⟨b, off, spot⟩ : Addr).add (k * 4)).add j) = some u := by
   intro k
   by_cases hk : k < len
   ·have h1 := hel k hk
    obtain ⟨y, hy⟩ : ∃ y, elems[k]? = some y := ⟨elems[k]'(by omega), by simp [hlen, hk]⟩
    rw [hy, Option.bind_eq_some_iff] at h1
    obtain ⟨cs, hc, ht⟩ := h1
    obtain ⟨z, hz, rfl⟩ := four ht
    refine ⟨z, fun _ => ⟨hz, fun j u hu => ?_⟩⟩
    rw [celL] at hc
    have hj : j < 4 := by
     have := (List.getElem?_eq_some_iff.1 hu).1
     simpa using this
    rw [(World.cells?_some hc).2.2 j hj]
    exact hu
   ·exact ⟨zero4, fun h => absurd h hk⟩
  obtain ⟨g, hg⟩ := Classical.axiomOfChoice key
  refine ⟨_, len, cap, g, rfl, hl, (fun h => (by cases h)), fun j hj => (hg j hj).1, ⟨b, off, fun h0 => ?_, fun h0 => ?_⟩, Or.inr ⟨_, _, hx.1, ?_⟩⟩
  ·have hs : spot = none := by simpa [Addr.add] using World.cell?_spot ((hg 0 h0).2 0 _ rfl)
   rw [hs]
  ·have hs : spot = none := by simpa [Addr.add] using World.cell?_spot ((hg 0 h0).2 0 _ rfl)
   subst hs
   have hc : ∀ k j u, k < len → [Value.int .u64 (g k).x0, .int .u64 (g k).x1, .int .u64 (g k).x2, .int .u64 (g k).x3][j]? = some u → w.cell? ⟨b, off + k * 4 + j, none⟩ = some u := fun k j u hk hu => by
    have := (hg k hk).2 j u hu
    rw [Addr.add_lit, Addr.add_lit] at this
    exact this
   exact ⟨fun k hk => hc k 0 _ hk rfl, fun k hk => hc k 1 _ hk rfl, fun k hk => hc k 2 _ hk rfl, fun k hk => hc k 3 _ hk rfl⟩
  ·have := (hsp rfl).1
   simp
   omega
end
theorem contract (H : Type) (enc : TypeId × Value → H) (W : World) (base : Nat) (args : Array Value) (ds gs : List (DataW H)) (before : List MemPlace)
  (hval : ∀ (j : Nat) t v, Tryz.f3.params[j]? = some t → args[j]? = some v → Value.okWide Tryz.prog W .any base t v)
  (hW : DataW.Whole enc Tryz.prog Tryz.f3.params.toList Rows.gadgetShufflesSpec.vars false W args.toList ds gs before) (hL : laidMetH Tryz.prog Rows.gadgetShufflesRow.laid W)
  (hZ : (DataW.weightsEach Tryz.prog (Tryz.f3.params.toList ++ (OpenSpec.ofChange Rows.gadgetShufflesSpec).bare.plain.varTypes Tryz.prog) (ds ++ gs)).all (· ≤ reachBytes) = true) :
  Calls Tryz.prog 3 args W fun e W' => ∃ v, e = .returned v ∧ Rows.gadgetShufflesSpec.post enc Tryz.prog Tryz.f3 false true false false W args v W' := by
 have hW' := hW
 obtain ⟨p, q, hA0, hV, rfl, hfz, hnd⟩ := hW
 have hA : DataW.TrodAll enc Tryz.prog W 0 (fun _ => true) true Tryz.f3.params.toList args.toList ds p := hA0
 rw [Tryz.params3] at hA hval hZ
 obtain ⟨v0, vs0, d0, ds0, p0, q0, hargs, rfl, rfl, h0, r0⟩ := trodAll_cons hA
 obtain ⟨v1, vs1, d1, ds1, p1, q1, rfl, rfl, rfl, h1, r1⟩ := trodAll_cons r0
 obtain ⟨v2, vs2, d2, ds2, p2, q2, rfl, rfl, rfl, h2, r2⟩ := trodAll_cons r1
 obtain ⟨rfl, rfl, rfl⟩ := trodAll_nil r2
 obtain rfl : args = #[v0, v1, v2] := by cases args; simp_all
 obtain ⟨rfl, rfl⟩ := trodVars_none hV
 have hk0 := h0
 obtain ⟨P0, L0, c0, a0, rfl, u0, n0, w0, s0, z0⟩ := openM h0 (okWide_slice undM (hval 0 22 v0 rfl rfl))
 have m0 : L0 ≤ 4398046510976 := by
  rcases z0 with ⟨_, h⟩ | ⟨es, rs, rfl, hc⟩
  ·omega
  ·have := sized_slice hZ (j := 0) (t := 22) rfl rfl undM
   rw [hc, bytM] at this
   unfold reachBytes at this
   omega
 have hk1 := h1
 obtain ⟨P1, L1, c1, a1, rfl, u1, n1, w1, s1, z1⟩ := openM h1 (okWide_slice undM (hval 1 22 v1 rfl rfl))
 have m1 : L1 ≤ 4398046510976 := by
  rcases z1 with ⟨_, h⟩ | ⟨es, rs, rfl, hc⟩
  ·omega
  ·have := sized_slice hZ (j := 1) (t := 22) rfl rfl undM
   rw [hc, bytM] at this
   unfold reachBytes at this
   omega
 have hk2 := h2
 obtain ⟨P2, L2, c2, a2, rfl, u2, n2, w2, s2, z2⟩ := openM h2 (okWide_slice undM (hval 2 22 v2 rfl rfl))
 have m2 : L2 ≤ 4398046510976 := by
  rcases z2 with ⟨_, h⟩ | ⟨es, rs, rfl, hc⟩
  ·omega
  ·have := sized_slice hZ (j := 2) (t := 22) rfl rfl undM
   rw [hc, bytM] at this
   unfold reachBytes at this
   omega
 clear hA0
 simp only [List.append_nil] at hW'
 have hlt0 : ∀ x ∈ p0, x.block < W.heap.size := fun x hx => hW'.lt x (by simp [hx])
 have hlt1 : ∀ x ∈ p1, x.block < W.heap.size := fun x hx => hW'.lt x (by simp [hx])
 have hlt2 : ∀ x ∈ p2, x.block < W.heap.size := fun x hx => hW'.lt x (by simp [hx])
 refine (shuffles_law P0 P1 P2 L0 c0 L1 c1 L2 c2 a0 a1 a2 W (table hL) ⟨s0, w0⟩ ⟨s1, w1⟩ ⟨s2, w2⟩ u0 n0 u1 n1 (by omega)).mono fun e W' ⟨he, bel⟩ => ?_
 subst he
 exact ⟨_, rfl, _, _, _, [], _, [], hW', trodAll_mk1 (shut_bool Tryz.underlying4 _), (trodAll_cons_mk (Below.trod laidOut (by kernel_rfl) (of_decide_eq_true (by kernel_rfl)) hk0 bel hlt0) (trodAll_cons_mk (Below.trod laidOut (by kernel_rfl) (of_decide_eq_true (by kernel_rfl)) hk1 bel hlt1) (trodAll_cons_mk (Below.trod laidOut (by kernel_rfl) (of_decide_eq_true (by kernel_rfl)) hk2 bel hlt2) trodAll_mk0))), rfl, bel.frame _, fun h => by cases h⟩
noncomputable def laidWorld (os : Os) : World :=
 { World.holding Tryz.prog os ⟨#[], #[], []⟩ with heap := (World.holding Tryz.prog os ⟨#[], #[], []⟩).heap.modify 1 fun
   | .cells _ t frozen => .cells #[.int .u64 6346243789798364141, .int .u64 1503914060200516822, .int .u64 0, .int .u64 1152921504606846976, .int .u64 15486807595281847581, .int .u64 14334777244411350896, .int .u64 18446744073709551614, .int .u64 1152921504606846975, .int .u64 11819153939886771969, .int .u64 14991950615390032711, .int .u64 14910419812499177061, .int .u64 259310039853996605] t frozen
   | o => o }
theorem laid_met (os : Os) : laidMet Tryz.prog Rows.gadgetShufflesRow.laid ((laidWorld os).forCall (fun _ _ => 0) ⟨#[], #[.slice none 0 0, .slice none 0 0, .slice none 0 0], []⟩).memory :=
 laidMet_of_run' 8 (by kernel_rfl) (by kernel_rfl)
theorem reads (os : Os) {H : Type} (enc : TypeId × Value → H) : ∃ places, DataW.whole enc Tryz.prog ((laidWorld os).forCall (fun _ _ => 0) ⟨#[], #[.slice none 0 0, .slice none 0 0, .slice none 0 0], []⟩).memory Tryz.f3.params.toList Rows.gadgetShufflesSpec.vars false (#[.slice none 0 0, .slice none 0 0, .slice none 0 0] : Array Value).toList 8 = some ([.nil, .nil, .nil], [], places) :=
 ⟨[], by kernel_rfl⟩
set_option maxRecDepth 100000 in
theorem lifted (os : Os) (started : os.Started) (H : Type) (enc : TypeId × Value → H) (F : Stop.Interp) :
  ReturnsInHanded {} Tryz.checked os 3 .any ((OpenSpec.ofChange Rows.gadgetShufflesSpec).preRow enc Tryz.prog Tryz.f3 Rows.gadgetShufflesRow.domain false Rows.gadgetShufflesRow.laid) (((OpenSpec.ofChange Rows.gadgetShufflesSpec).at F).post enc Tryz.prog Tryz.f3 false true false false) := by
 obtain ⟨places, hx⟩ := reads os enc
 refine returnsInHanded_of_row (C := Tryz.checked) (s := OpenSpec.ofChange Rows.gadgetShufflesSpec) own started (by kernel_rfl) Tryz.func3
  (witness_row_at (enc := enc) (C := Tryz.checked) false (laidWorld os) #[.slice none 0 0, .slice none 0 0, .slice none 0 0] rfl (by kernel_rfl) (by kernel_rfl) (by kernel_rfl)
   (OpenSpec.preRow_of_cond 8 hx (by kernel_rfl) (fun k hk => by cases hk) (by kernel_rfl) (laid_met os))) ?_
 intro W base args ds gs before hval hW _ _ hZ hL _ _
 exact contract H enc W base args ds gs before hval hW hL hZ
theorem said : Rows.GadgetShufflesSaid :=
 OpenClaim.holds_of_cond 3 Tryz.f3 rfl rfl rfl rfl rfl rfl rfl ⟨rfl, rfl, rfl, rfl, rfl⟩ rfl rfl rfl rfl rfl (by kernel_rfl) Tryz.func3 (by kernel_rfl)
  (of_decide_eq_true (by kernel_rfl)) (by unfold Func.isWrapper; first | (rw [if_pos (by decide +kernel)]; kernel_rfl) | (rw [if_neg (by decide +kernel)]; exact ⟨rfl, rfl⟩))
  (fun os started H enc _ F => by rw [OpenClaim.pre_eq_preRow]; exact lifted os started H enc F)
theorem plain (f : FuncId) (fn : Func) (hf : Tryz.pinned.checked.prog.funcNamed "veil/veillaw20.GadgetShuffles" = some f) (hfn : Tryz.pinned.checked.prog.funcs[f]? = some fn) :
  false = Tryz.pinned.checked.prog.looks [] ∧ ∀ (j : Nat) t, fn.params[j]? = some t → Tryz.pinned.checked.prog.wantsStandIn t = false := by
 obtain rfl : f = 3 := Option.some.inj ((show Tryz.prog.funcNamed "veil/veillaw20.GadgetShuffles" = some 3 by kernel_rfl).symm.trans hf) |>.symm
 obtain rfl : fn = Tryz.f3 := (Option.some.inj (Tryz.func3.symm.trans hfn)).symm
 refine ⟨by kernel_rfl, fun j t ht => ?_⟩
 rw [Tryz.params3] at ht
 have hm := Array.mem_of_getElem? ht
 simp only [List.mem_toArray, List.mem_cons, List.not_mem_nil, or_false] at hm
 rcases hm with rfl | rfl | rfl
 ·exact (show Tryz.prog.wantsStandIn 22 = false by kernel_rfl)
 ·exact (show Tryz.prog.wantsStandIn 22 = false by kernel_rfl)
 ·exact (show Tryz.prog.wantsStandIn 22 = false by kernel_rfl)
theorem card : Rows.GadgetShufflesCardSaid :=
 Claim7.holds_tied_plain_at .later [] _ _ _ _ said (fun _ h => by cases h) (by kernel_rfl) (fun _ h => by cases h) gadgetShuffles_row_tie rfl ⟨rfl, rfl⟩ (by kernel_rfl) rfl plain (by kernel_rfl)
end Go.Proofs.YtljmgfclhbadjaaGreatDoor.gadgetShuffles
namespace Go.Proofs.YtljmgfclhbadjaaGreatDoor
theorem gadgetShuffles_proved : Rows.GadgetShufflesCardSaid := gadgetShuffles.card
#print axioms gadgetShuffles_proved
end Go.Proofs.YtljmgfclhbadjaaGreatDoor
