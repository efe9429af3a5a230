import Derived.Test.YtkoilaoogphgfaaGreatDoorCards
import Derived.Test.YtkoilaoogphgfaaGreatDoorTie
import Derived.Test.YtkoilaoogphgfaaGreatDoorArr
import Derived.Test.YtkoilaoogphgfaaGreatDoorArh
import Derived.Test.YtkoilaoogphgfaaGreatDoorWo
import Derived.Deep.DeepHandedRow
import Derived.Lib.LaidTab
import Derived.ChangeSlices
import Derived.SizedLaws
import Derived.Carry
namespace Go.Proofs.YtkoilaoogphgfaaGreatDoor.arithTapes
open Go.ChangeShapes Go.WideShapes Go.ChangeAt Go.RowKit
open Ci (As Lh law_ok law_bad)
set_option linter.unusedVariables false
set_option maxRecDepth 100000
theorem laidOut : laidOutB Tryz.prog = true := by kernel_rfl
theorem own : ownKnob Tryz.prog.godebug = none := by kernel_rfl
theorem gTab : Tryz.prog.globalNamed "veil/scalar.table" = some 0 := by kernel_rfl
theorem gTabType : (Tryz.prog.globals[0]?).map (·.type) = some 146 := by kernel_rfl
theorem undT : Tryz.prog.underlying 146 = some (.array 3 32) := by kernel_rfl
theorem celT : Tryz.prog.cellsOf 146 = 12 := by kernel_rfl
theorem undS : Tryz.prog.underlying 32 = some (.array 4 30) := by kernel_rfl
theorem celS : Tryz.prog.cellsOf 32 = 4 := by kernel_rfl
theorem undL : Tryz.prog.underlying 32 = some (.array 4 30) := by kernel_rfl
theorem celL : Tryz.prog.cellsOf 32 = 4 := by kernel_rfl
theorem undu : Tryz.prog.underlying 30 = some (.int .u64) := by kernel_rfl
theorem celu : Tryz.prog.cellsOf 30 = 1 := by kernel_rfl
theorem undi : Tryz.prog.underlying 3 = some (.int .i64) := by kernel_rfl
theorem celi : Tryz.prog.cellsOf 3 = 1 := by kernel_rfl
theorem undB : Tryz.prog.underlying 4 = some .bool := by kernel_rfl
theorem celB : Tryz.prog.cellsOf 4 = 1 := by kernel_rfl
theorem undAS : ∃ f0 f1 : Field, Tryz.prog.underlying 24 = some (.struct #[f0, f1]) ∧ (f0.type = 3 ∧ f0.offset = 0) ∧ (f1.type = 22 ∧ f1.offset = 1) :=
 ⟨(Tryz.prog.fieldsOf 24)[0]!, (Tryz.prog.fieldsOf 24)[1]!, by kernel_rfl, ⟨by kernel_rfl, by kernel_rfl⟩, ⟨by kernel_rfl, by kernel_rfl⟩⟩
theorem undAP : ∃ f0 f1 : Field, Tryz.prog.underlying 59 = some (.struct #[f0, f1]) ∧ (f0.type = 4 ∧ f0.offset = 0) ∧ (f1.type = 57 ∧ f1.offset = 1) :=
 ⟨(Tryz.prog.fieldsOf 59)[0]!, (Tryz.prog.fieldsOf 59)[1]!, by kernel_rfl, ⟨by kernel_rfl, by kernel_rfl⟩, ⟨by kernel_rfl, by kernel_rfl⟩⟩
theorem undAT : ∃ f0 f1 f2 : Field, Tryz.prog.underlying 72 = some (.struct #[f0, f1, f2]) ∧ (f0.type = 3 ∧ f0.offset = 0) ∧ (f1.type = 3 ∧ f1.offset = 1) ∧ (f2.type = 32 ∧ f2.offset = 2) :=
 ⟨(Tryz.prog.fieldsOf 72)[0]!, (Tryz.prog.fieldsOf 72)[1]!, (Tryz.prog.fieldsOf 72)[2]!, by kernel_rfl, ⟨by kernel_rfl, by kernel_rfl⟩, ⟨by kernel_rfl, by kernel_rfl⟩, ⟨by kernel_rfl, by kernel_rfl⟩⟩
theorem celAS : Tryz.prog.cellsOf 24 = 2 := by kernel_rfl
theorem celAP : Tryz.prog.cellsOf 59 = 2 := by kernel_rfl
theorem celAT : Tryz.prog.cellsOf 72 = 6 := by kernel_rfl
theorem undLP : Tryz.prog.underlying 22 = some (.slice 59) := by kernel_rfl
theorem undLT : Tryz.prog.underlying 57 = some (.slice 72) := by kernel_rfl
theorem celLP : Tryz.prog.cellsOf 22 = 1 := by kernel_rfl
theorem celLT : Tryz.prog.cellsOf 57 = 1 := by kernel_rfl
theorem bytAP : Tryz.prog.bytesOf 59 = 32 := by kernel_rfl
theorem bytAT : Tryz.prog.bytesOf 72 = 48 := by kernel_rfl
theorem rows_of {H : Type} {enc : TypeId × Value → H} {P : Program} {w : World} {base : Nat} {sp : Nat → Bool} {held : Bool} {fuel : Nat} {t s e : TypeId} {n m : Nat} {k : IntKind} {cs : List Value} {zss : List (List Int)} {p : List MemPlace}
  (ht : P.underlying t = some (.array n s)) (hs : P.underlying s = some (.array m e)) (he : P.underlying e = some (.int k)) (hce : P.cellsOf e = 1) (hcs : P.cellsOf s = m) (hct : P.cellsOf t = n * m)
  (h : DataW.trod enc P w base sp held fuel t cs = some (.agg (zss.map fun zs => Lib.tabData k zs), p)) : ∀ i zs, i < n → zss[i]? = some zs → (cs.drop (i * m)).take m = zs.map fun z => Value.int k z := by
 cases fuel with
 | zero => simp [DataW.trod] at h
 | succ fuel =>
  simp only [DataW.trod, ht, hcs, hct] at h
  split at h
  ·obtain ⟨xs, hm, hx⟩ := Option.map_eq_some_iff.1 h
   have hxs : xs.map (·.1) = zss.map fun zs => (Lib.tabData k zs : DataW H) := by
    have := congrArg Prod.fst hx
    simpa using this
   intro i zs hi hz
   obtain ⟨b, hb, hf⟩ := Lib.mapM_at hm i i (by simp [hi])
   have h2 : (xs.map (·.1))[i]? = some b.1 := by simp [hb]
   rw [hxs] at h2
   simp only [List.getElem?_map, hz, Option.map_some, Option.some.injEq] at h2
   obtain ⟨b1, b2⟩ := b
   subst h2
   exact Lib.cells_of_tab hs he hce hcs hf
  ·cases h
theorem table {W : World} (h : laidMetH Tryz.prog Rows.arithTapesRow.laid W) : Tb W := by
 obtain ⟨ps, ⟨g', t', cs, fuel, p, q, hg', ht', hvar, hd, _, _⟩, _⟩ := h
 obtain rfl := Option.some.inj (gTab.symm.trans hg')
 obtain rfl := Option.some.inj (gTabType.symm.trans ht')
 have key := rows_of (zss := [[6346243789798364141, 1503914060200516822, 0, 1152921504606846976], [15486807595281847581, 14334777244411350896, 18446744073709551614, 1152921504606846975], [11819153939886771969, 14991950615390032711, 14910419812499177061, 259310039853996605]]) undT undS undu celu celS celT hd
 have g : ∀ j, W.cell? ⟨0, j, none⟩ = cs[j]? := fun j => World.var?_cell gTab hvar j
 have r0 := key 0 _ (by decide) rfl
 have r1 := key 1 _ (by decide) rfl
 have r2 := key 2 _ (by decide) rfl
 have at0 : ∀ (i j : Nat) (zs : List Int), (cs.toList.drop (i * 4)).take 4 = zs.map (fun z => Value.int .u64 z) → j < 4 → cs[i * 4 + j]? = (zs[j]?).map fun z => Value.int .u64 z := by
  intro i j zs hr hj
  have := congrArg (·[j]?) hr
  simpa [List.getElem?_take, List.getElem?_drop, hj] using this
 refine ⟨?_, ?_, ?_, ?_, ?_, ?_, ?_, ?_, ?_, ?_, ?_, ?_⟩
 ·rw [g]; exact at0 0 0 _ r0 (by decide)
 ·rw [g]; exact at0 0 1 _ r0 (by decide)
 ·rw [g]; exact at0 0 2 _ r0 (by decide)
 ·rw [g]; exact at0 0 3 _ r0 (by decide)
 ·rw [g]; exact at0 1 0 _ r1 (by decide)
 ·rw [g]; exact at0 1 1 _ r1 (by decide)
 ·rw [g]; exact at0 1 2 _ r1 (by decide)
 ·rw [g]; exact at0 1 3 _ r1 (by decide)
 ·rw [g]; exact at0 2 0 _ r2 (by decide)
 ·rw [g]; exact at0 2 1 _ r2 (by decide)
 ·rw [g]; exact at0 2 2 _ r2 (by decide)
 ·rw [g]; exact at0 2 3 _ r2 (by decide)
section
variable {H : Type} {enc : TypeId × Value → H} {w : World} {base : Nat} {sp : Nat → Bool} {held : Bool}
theorem list4 : ∀ zs : List Int, zs.length = 4 → ∃ a : E4, zs = [a.x0, a.x1, a.x2, a.x3]
 | [x0, x1, x2, x3], _ => ⟨⟨x0, x1, x2, x3⟩, rfl⟩
theorem wd_of {z : Int} (h : (Lit.int .u64 z).wf = true) : Sm.Wd z := by
 have := bounds_u64 h
 unfold Sm.Wd; omega
theorem wf_of {z : Int} (h : Sm.Wd z) : (Lit.int .u64 z).wf = true := by
 unfold Sm.Wd at h
 exact WalkArith.wf_u64 ⟨h.1, by omega⟩
theorem shut4 (a : E4) (h : a.ok) : DataW.Trod enc Tryz.prog w base sp held 32 a.v (.agg ([a.x0, a.x1, a.x2, a.x3].map fun z => .lit (.int .u64 z))) [] := by
 obtain ⟨h0, h1, h2, h3⟩ := h
 refine shut_arr undL undu celu celL [a.x0, a.x1, a.x2, a.x3] rfl ?_
 intro z hz
 simp only [List.mem_cons, List.not_mem_nil, or_false] at hz
 rcases hz with rfl | rfl | rfl | rfl
 ·exact wf_of h0
 ·exact wf_of h1
 ·exact wf_of h2
 ·exact wf_of h3
theorem four {fuel : Nat} {cs : List Value} {x : DataW H × List MemPlace} (h : DataW.trod enc Tryz.prog w base sp held fuel 32 cs = some x) :
  ∃ z : E4, z.ok ∧ cs = [.int .u64 z.x0, .int .u64 z.x1, .int .u64 z.x2, .int .u64 z.x3] := by
 obtain ⟨xs, m, _, hx, hl, hxl, hi⟩ := DataW.trod_array undL h
 rw [celL] at hl
 have key : ∀ i, i < 4 → ∃ z : Int, cs[i]? = some (.int .u64 z) ∧ (Lit.int .u64 z).wf = true := by
  intro i hin
  have h1 := hi i hin
  obtain ⟨y, hy⟩ : ∃ y, xs[i]? = some y := ⟨xs[i]'(by omega), by simp [hxl, hin]⟩
  rw [hy, celu, Nat.mul_one] at h1
  obtain ⟨z, hc, rfl, hw⟩ := DataW.trod_int undu h1
  refine ⟨z, ?_, hw⟩
  have := congrArg (·[0]?) hc
  simpa [List.getElem?_take, List.getElem?_drop] using this
 obtain ⟨z0, c0, w0⟩ := key 0 (by omega)
 obtain ⟨z1, c1, w1⟩ := key 1 (by omega)
 obtain ⟨z2, c2, w2⟩ := key 2 (by omega)
 obtain ⟨z3, c3, w3⟩ := key 3 (by omega)
 refine ⟨⟨z0, z1, z2, z3⟩, ⟨wd_of w0, wd_of w1, wd_of w2, wd_of w3⟩, ?_⟩
 match cs, hl, c0, c1, c2, c3 with
 | [y0, y1, y2, y3], _, c0, c1, c2, c3 =>
  simp only [List.getElem?_cons_zero, List.getElem?_cons_succ, Option.some.injEq] at c0 c1 c2 c3
  rw [c0, c1, c2, c3]
theorem six {fuel : Nat} {cs : List Value} {x : DataW H × List MemPlace} (h : DataW.trod enc Tryz.prog w base sp held fuel 72 cs = some x) : ∃ z : Trm, z.a.ok ∧ cs = z.cs := by
 obtain ⟨f0, f1, f2, hu, ⟨t0, o0⟩, ⟨t1, o1⟩, ⟨t2, o2⟩⟩ := undAT
 obtain ⟨xs, m, _, hx, hl, hxl, hfd⟩ := DataW.trod_struct hu h
 have h0 := hfd 0 f0 rfl
 have h1 := hfd 1 f1 rfl
 have h2 := hfd 2 f2 rfl
 rw [t0, o0, celi] at h0
 rw [t1, o1, celi] at h1
 rw [t2, o2, celL] at h2
 have hxl' : xs.length = 3 := hxl
 rw [celAT] at hl
 obtain ⟨y0, e0⟩ : ∃ y, xs[0]? = some y := ⟨xs[0]'(by omega), by simp [hxl']⟩
 obtain ⟨y1, e1⟩ : ∃ y, xs[1]? = some y := ⟨xs[1]'(by omega), by simp [hxl']⟩
 obtain ⟨y2, e2⟩ : ∃ y, xs[2]? = some y := ⟨xs[2]'(by omega), by simp [hxl']⟩
 rw [e0] at h0
 rw [e1] at h1
 rw [e2] at h2
 obtain ⟨n0, c0, _, _⟩ := DataW.trod_int undi h0
 obtain ⟨n1, c1, _, _⟩ := DataW.trod_int undi h1
 obtain ⟨z, hz, c2⟩ := four h2
 match cs, hl with
 | [z0, z1, z2, z3, z4, z5], _ =>
  simp at c0 c1 c2
  obtain ⟨rfl, rfl, rfl, rfl⟩ := c2
  subst c0
  subst c1
  exact ⟨⟨(n0, n1), z⟩, hz, rfl⟩
theorem openT {fuel : Nat} {cs : List Value} {x : DataW H × List MemPlace} (h : DataW.trod enc Tryz.prog w base sp held fuel 57 cs = some x) :
  ∃ L : Lh, cs = [.slice L.p L.n L.c] ∧ (∀ j, j < L.n → (L.f j).a.ok) ∧ Lt w L.p L.n L.f ∧ (Tr.Sz Tryz.prog 57 x.1 → L.n ≤ 2932031007317) := by
 rcases DataW.trod_slice undLT h with ⟨hcs, hx⟩ | ⟨a, len, cap, elems, rest, n, _, hcs, hx, _, hl, hm, hlen, hel, hsp, _⟩
 ·exact ⟨⟨none, 0, 0, fun _ => ⟨(0, 0), ⟨0, 0, 0, 0⟩⟩⟩, hcs, fun j hj => absurd hj (Nat.not_lt_zero j), ⟨0, 0, fun h => absurd h (Nat.lt_irrefl 0), fun h => absurd h (Nat.lt_irrefl 0)⟩, fun _ => Nat.zero_le _⟩
 ·obtain ⟨b, off, spot⟩ := a
  have key : ∀ k, ∃ z : Trm, k < len → z.a.ok ∧ ∀ j u, z.cs[j]? = some u → w.cell? (((⟨b, off, spot⟩ : Addr).add (k * 6)).add j) = some u := by
   intro k
   by_cases hk : k < len
   ·have h1 := hel k hk
    obtain ⟨y, hy⟩ : ∃ y, elems[k]? = some y := ⟨elems[k]'(by omega), by simp [hlen, hk]⟩
    rw [hy, Option.bind_eq_some_iff] at h1
    obtain ⟨cs, hc, ht⟩ := h1
    obtain ⟨z, hz, rfl⟩ := six ht
    refine ⟨z, fun _ => ⟨hz, fun j u hu => ?_⟩⟩
    rw [celAT] at hc
    have hj : j < 6 := by
     have := (List.getElem?_eq_some_iff.1 hu).1
     simpa [Trm.cs] using this
    rw [(World.cells?_some hc).2.2 j hj]
    exact hu
   ·exact ⟨⟨(0, 0), ⟨0, 0, 0, 0⟩⟩, fun h => absurd h hk⟩
  obtain ⟨g, hg⟩ := Classical.axiomOfChoice key
  refine ⟨⟨_, len, cap, g⟩, hcs, fun j hj => (hg j hj).1, ⟨b, off, fun h0 => ?_, fun h0 => ?_⟩, fun hz => ?_⟩
  ·have hs : spot = none := by simpa [Addr.add] using World.cell?_spot ((hg 0 h0).2 0 _ rfl)
   rw [hs]
  ·have hs : spot = none := by simpa [Addr.add] using World.cell?_spot ((hg 0 h0).2 0 _ rfl)
   subst hs
   have hc : ∀ k j u, k < len → (g k).cs[j]? = some u → w.cell? ⟨b, off + k * 6 + j, none⟩ = some u := fun k j u hk hu => by
    have := (hg k hk).2 j u hu
    rw [Addr.add_lit, Addr.add_lit] at this
    exact this
   exact ⟨fun k hk => hc k 0 _ hk rfl, fun k hk => hc k 1 _ hk rfl, fun k hk => hc k 2 _ hk rfl, fun k hk => hc k 3 _ hk rfl, fun k hk => hc k 4 _ hk rfl, fun k hk => hc k 5 _ hk rfl⟩
  ·subst hx
   have := Tr.Sz.len hz undLT
   rw [bytAT, List.length_map, List.length_map, hlen] at this
   unfold reachBytes at this
   show len ≤ _
   omega
theorem stp {fuel : Nat} {cs : List Value} {x : DataW H × List MemPlace} (h : DataW.trod enc Tryz.prog w base sp held fuel 59 cs = some x) (hz : Tr.Sz Tryz.prog 59 x.1) :
  ∃ (gt : Bool) (L : Lh), cs = [.bool gt, .slice L.p L.n L.c] ∧ (∀ j, j < L.n → (L.f j).a.ok) ∧ Lt w L.p L.n L.f ∧ L.n ≤ 2932031007317 := by
 obtain ⟨f0, f1, hu, ⟨t0, o0⟩, ⟨t1, o1⟩⟩ := undAP
 obtain ⟨xs, m, _, hx, hl, hxl, hfd⟩ := DataW.trod_struct hu h
 have h0 := hfd 0 f0 rfl
 have h1 := hfd 1 f1 rfl
 rw [t0, o0, celB] at h0
 rw [t1, o1, celLT] at h1
 have hxl' : xs.length = 2 := hxl
 rw [celAP] at hl
 have hd : x.1 = .agg (xs.map (·.1)) := by rw [hx]
 obtain ⟨y0, e0⟩ : ∃ y, xs[0]? = some y := ⟨xs[0]'(by omega), by simp [hxl']⟩
 obtain ⟨y1, e1⟩ : ∃ y, xs[1]? = some y := ⟨xs[1]'(by omega), by simp [hxl']⟩
 rw [e0] at h0
 rw [e1] at h1
 obtain ⟨n0, c0, _⟩ := DataW.trod_bool undB h0
 obtain ⟨L, c1, k1, k2, k3⟩ := openT h1
 rw [hd] at hz
 have hz1 := Tr.Sz.field (i := 1) (ft := 57) (d := y1.1) hz hu (by simp [t1]) (by simp [e1])
 match cs, hl with
 | [z0, z1], _ =>
  simp at c0 c1
  subst c0
  subst c1
  exact ⟨n0, L, rfl, k1, k2, k3 hz1⟩
theorem openK {fuel : Nat} {cs : List Value} {x : DataW H × List MemPlace} (h : DataW.trod enc Tryz.prog w base sp held fuel 22 cs = some x) (hz : Tr.Sz Tryz.prog 22 x.1) :
  ∃ (P : Option Addr) (n c b o : Nat) (gt : Nat → Bool) (L : Nat → Lh), cs = [.slice P n c] ∧ n ≤ 4398046510976 ∧ (0 < n → P = some ⟨b, o, none⟩) ∧ (0 < n → As w b o n gt L) := by
 rcases DataW.trod_slice undLP h with ⟨hcs, hx⟩ | ⟨a, len, cap, elems, rest, n, _, hcs, hx, _, hl, hm, hlen, hel, hsp, _⟩
 ·exact ⟨none, 0, 0, 0, 0, fun _ => false, fun _ => ⟨none, 0, 0, fun _ => ⟨(0, 0), ⟨0, 0, 0, 0⟩⟩⟩, hcs, by omega, fun h => by omega, fun h => by omega⟩
 ·obtain ⟨b, off, spot⟩ := a
  have key : ∀ k, ∃ z : Bool × Lh, k < len → ((∀ j, j < z.2.n → (z.2.f j).a.ok) ∧ Lt w z.2.p z.2.n z.2.f ∧ z.2.n ≤ 2932031007317) ∧ ∀ j u, [Value.bool z.1, .slice z.2.p z.2.n z.2.c][j]? = some u → w.cell? (((⟨b, off, spot⟩ : Addr).add (k * 2)).add j) = some u := by
   intro k
   by_cases hk : k < len
   ·have h1 := hel k hk
    obtain ⟨y, hy⟩ : ∃ y, elems[k]? = some y := ⟨elems[k]'(by omega), by simp [hlen, hk]⟩
    rw [hy, Option.bind_eq_some_iff] at h1
    obtain ⟨cs, hc, ht⟩ := h1
    have hz1 : Tr.Sz Tryz.prog 59 y.1 := by
     rw [hx] at hz
     exact Tr.Sz.elem hz undLP (List.mem_map.2 ⟨y, List.mem_of_getElem? hy, rfl⟩)
    obtain ⟨gt, L, rfl, k1, k2, k3⟩ := stp ht hz1
    refine ⟨(gt, L), fun _ => ⟨⟨k1, k2, k3⟩, fun j u hu => ?_⟩⟩
    rw [celAP] at hc
    have hj : j < 2 := by
     have := (List.getElem?_eq_some_iff.1 hu).1
     simpa using this
    rw [(World.cells?_some hc).2.2 j hj]
    exact hu
   ·exact ⟨(false, ⟨none, 0, 0, fun _ => ⟨(0, 0), ⟨0, 0, 0, 0⟩⟩⟩), fun h => absurd h hk⟩
  obtain ⟨g, hg⟩ := Classical.axiomOfChoice key
  have hsp0 : 0 < len → spot = none := fun h0 => by simpa [Addr.add] using World.cell?_spot ((hg 0 h0).2 0 _ rfl)
  refine ⟨_, len, cap, b, off, fun k => (g k).1, fun k => (g k).2, hcs, ?_, fun h0 => by rw [hsp0 h0], fun h0 => ?_⟩
  ·subst hx
   have := Tr.Sz.len hz undLP
   rw [bytAP, List.length_map, List.length_map, hlen] at this
   unfold reachBytes at this
   omega
  ·have hs := hsp0 h0
   subst hs
   have hc : ∀ k j u, k < len → [Value.bool (g k).1, .slice (g k).2.p (g k).2.n (g k).2.c][j]? = some u → w.cell? ⟨b, off + k * 2 + j, none⟩ = some u := fun k j u hk hu => by
    have := (hg k hk).2 j u hu
    rw [Addr.add_lit, Addr.add_lit] at this
    exact this
   exact ⟨fun k hk => hc k 0 _ hk rfl, fun k hk => hc k 1 _ hk rfl, fun k hk => (hg k hk).1.2.1, fun k hk => (hg k hk).1.1, fun k hk => (hg k hk).1.2.2⟩
theorem openA {v : Value} {d : DataW H} {p : List MemPlace} (h : DataW.Trod enc Tryz.prog w base sp held 24 v d p) (hv : ∃ cs : Array Value, v = .agg cs) (hz : Tr.Sz Tryz.prog 24 d) :
  ∃ (M : Int) (P : Option Addr) (n c b o : Nat) (gt : Nat → Bool) (L : Nat → Lh), v = .agg #[.int .i64 M, .slice P n c] ∧ n ≤ 4398046510976 ∧ (0 < n → P = some ⟨b, o, none⟩) ∧ (0 < n → As w b o n gt L) := by
 obtain ⟨⟨ca⟩, rfl⟩ := hv
 obtain ⟨fuel, hf⟩ := h
 obtain ⟨f0, f1, hu, ⟨t0, o0⟩, ⟨t1, o1⟩⟩ := undAS
 obtain ⟨xs, mm, _, hx, hl, hxl, hfd⟩ := DataW.trod_struct hu hf
 have h0 := hfd 0 f0 rfl
 have h1 := hfd 1 f1 rfl
 rw [t0, o0, celi] at h0
 rw [t1, o1, celLP] at h1
 have hxl' : xs.length = 2 := hxl
 rw [celAS] at hl
 have hd : d = .agg (xs.map (·.1)) := by
  have := congrArg Prod.fst hx
  simpa using this
 obtain ⟨y0, e0⟩ : ∃ y, xs[0]? = some y := ⟨xs[0]'(by omega), by simp [hxl']⟩
 obtain ⟨y1, e1⟩ : ∃ y, xs[1]? = some y := ⟨xs[1]'(by omega), by simp [hxl']⟩
 rw [e0] at h0
 rw [e1] at h1
 rw [hd] at hz
 have hz1 := Tr.Sz.field (i := 1) (ft := 22) (d := y1.1) hz hu (by simp [t1]) (by simp [e1])
 obtain ⟨M, c0, _, _⟩ := DataW.trod_int undi h0
 obtain ⟨P, n, c, b, o, gt, L, c1, k1, k2, k3⟩ := openK h1 hz1
 simp only [Value.cells] at hl c0 c1
 match ca, hl with
 | [z0, z1], _ =>
  simp at c0 c1
  subst c0
  subst c1
  exact ⟨M, P, n, c, b, o, gt, L, rfl, k1, k2, k3⟩
end
theorem law_all (M : Int) (PS : Option Addr) (b o n c : Nat) (gt : Nat → Bool) (L : Nat → Lh) (P : Option Addr) (cap : Nat) (bs : List UInt8) (w : World) (hT : Tb w) (hn : n ≤ 4398046510976) (hP : 0 < n → PS = some ⟨b, o, none⟩) (hA : 0 < n → As w b o n gt L) (hB : Tr.By w P cap bs) (hL : bs.length ≤ 140737488351232) :
  Calls Tryz.prog 3 #[.agg #[.int .i64 M, .slice PS n c], .slice P bs.length cap] w fun e w' => e = .returned (.bool true) ∧ Below w.heap.size w w' := by
 by_cases hM : M < 0 ∨ 16 < M
 ·exact law_bad M PS n c P bs.length cap w hM
 ·obtain ⟨m, rfl⟩ : ∃ m : Nat, M = (m : Int) := ⟨M.toNat, by omega⟩
  exact law_ok m (by omega) PS b o n c gt L P cap bs w hT hn hP hA hB hL
theorem contract (H : Type) (enc : TypeId × Value → H) (W : World) (base : Nat) (args : Array Value) (ds gs : List (DataW H)) (before : List MemPlace)
  (hval : ∀ (j : Nat) t v, Tryz.f3.params[j]? = some t → args[j]? = some v → Value.okWide Tryz.prog W .any base t v)
  (hW : DataW.Whole enc Tryz.prog Tryz.f3.params.toList Rows.arithTapesSpec.vars false W args.toList ds gs before) (hL : laidMetH Tryz.prog Rows.arithTapesRow.laid W)
  (hZ : (DataW.weightsEach Tryz.prog (Tryz.f3.params.toList ++ (OpenSpec.ofChange Rows.arithTapesSpec).bare.plain.varTypes Tryz.prog) (ds ++ gs)).all (· ≤ reachBytes) = true) :
  Calls Tryz.prog 3 args W fun e W' => ∃ v, e = .returned v ∧ Rows.arithTapesSpec.post enc Tryz.prog Tryz.f3 false true false false W args v W' := by
 have hW' := hW
 obtain ⟨p, q, hA0, hV, rfl, hfz, hnd⟩ := hW
 have hA : DataW.TrodAll enc Tryz.prog W 0 (fun _ => true) true Tryz.f3.params.toList args.toList ds p := hA0
 rw [Tryz.params3] at hA hval hZ
 obtain ⟨v0, vs0, d0, ds0, p0, q0, hargs, rfl, rfl, h0, r0⟩ := trodAll_cons hA
 obtain ⟨v1, vs1, d1, ds1, p1, q1, rfl, rfl, rfl, h1, r1⟩ := trodAll_cons r0
 obtain ⟨rfl, rfl, rfl⟩ := trodAll_nil r1
 obtain rfl : args = #[v0, v1] := by have := congrArg List.toArray hargs; simpa using this
 obtain ⟨rfl, rfl⟩ := trodVars_none hV
 have hk0 := h0
 have hk1 := h1
 obtain ⟨M, PS, n, c, b, o, gt, L, rfl, k1, k2, k3⟩ := openA h0 (by obtain ⟨_, _, hu, _⟩ := undAS; obtain ⟨cs, e, _⟩ := okWide_struct hu (hval 0 24 v0 rfl rfl); exact ⟨cs, e⟩) (Tr.Sz.top hZ (j := 0) rfl rfl)
 obtain ⟨P, bs, cap, rfl, hb, _, lb, _⟩ := Tr.openY h1 (okWide_slice Tr.undY (hval 1 25 v1 rfl rfl))
 have l1 := lb (Tr.Sz.top hZ (j := 1) rfl rfl)
 clear hA0
 simp only [List.append_nil] at hW'
 have hlt0 : ∀ x ∈ p0, x.block < W.heap.size := fun x hx => hW'.lt x (by simp [hx])
 have hlt1 : ∀ x ∈ p1, x.block < W.heap.size := fun x hx => hW'.lt x (by simp [hx])
 refine (law_all M PS b o n c gt L P cap bs W (table hL) k1 k2 k3 hb l1).mono fun e W' ⟨he, bel⟩ => ?_
 subst he
 exact ⟨_, rfl, _, _, _, [], _, [], hW', trodAll_mk1 (shut_bool Tryz.underlying4 _), (trodAll_cons_mk (Below.trod laidOut (by kernel_rfl) (of_decide_eq_true (by kernel_rfl)) hk0 bel hlt0) (trodAll_cons_mk (Below.trod laidOut (by kernel_rfl) (of_decide_eq_true (by kernel_rfl)) hk1 bel hlt1) trodAll_mk0)), rfl, bel.frame _, fun h => by cases h⟩
noncomputable def laidWorld (os : Os) : World :=
 { World.holding Tryz.prog os ⟨#[], #[], []⟩ with heap := (World.holding Tryz.prog os ⟨#[], #[], []⟩).heap.modify 0 fun
   | .cells _ t frozen => .cells #[.int .u64 6346243789798364141, .int .u64 1503914060200516822, .int .u64 0, .int .u64 1152921504606846976, .int .u64 15486807595281847581, .int .u64 14334777244411350896, .int .u64 18446744073709551614, .int .u64 1152921504606846975, .int .u64 11819153939886771969, .int .u64 14991950615390032711, .int .u64 14910419812499177061, .int .u64 259310039853996605] t frozen
   | o => o }
theorem laid_met (os : Os) : laidMet Tryz.prog Rows.arithTapesRow.laid ((laidWorld os).forCall (fun _ _ => 0) ⟨#[], #[.agg #[.int .i64 0, .slice none 0 0], .slice none 0 0], []⟩).memory :=
 laidMet_of_run' 8 (by kernel_rfl) (by kernel_rfl)
theorem reads (os : Os) {H : Type} (enc : TypeId × Value → H) : ∃ places, DataW.whole enc Tryz.prog ((laidWorld os).forCall (fun _ _ => 0) ⟨#[], #[.agg #[.int .i64 0, .slice none 0 0], .slice none 0 0], []⟩).memory Tryz.f3.params.toList Rows.arithTapesSpec.vars false (#[.agg #[.int .i64 0, .slice none 0 0], .slice none 0 0] : Array Value).toList 8 = some ([.agg [.lit (.int .i64 0), .nil], .nil], [], places) :=
 ⟨[], by kernel_rfl⟩
set_option maxRecDepth 100000 in
theorem lifted (os : Os) (started : os.Started) (H : Type) (enc : TypeId × Value → H) (F : Stop.Interp) :
  ReturnsInHanded {} Tryz.checked os 3 .any ((OpenSpec.ofChange Rows.arithTapesSpec).preRow enc Tryz.prog Tryz.f3 Rows.arithTapesRow.domain false Rows.arithTapesRow.laid) (((OpenSpec.ofChange Rows.arithTapesSpec).at F).post enc Tryz.prog Tryz.f3 false true false false) := by
 obtain ⟨places, hx⟩ := reads os enc
 refine returnsInHanded_of_row (C := Tryz.checked) (s := OpenSpec.ofChange Rows.arithTapesSpec) own started (by kernel_rfl) Tryz.func3
  (witness_row_at (enc := enc) (C := Tryz.checked) false (laidWorld os) #[.agg #[.int .i64 0, .slice none 0 0], .slice none 0 0] rfl (by kernel_rfl) (by kernel_rfl) (by kernel_rfl)
   (OpenSpec.preRow_of_cond 8 hx (by kernel_rfl) (fun k hk => by cases hk) (by kernel_rfl) (laid_met os))) ?_
 intro W base args ds gs before hval hW _ _ hZ hL _ _
 exact contract H enc W base args ds gs before hval hW hL hZ
theorem said : Rows.ArithTapesSaid :=
 OpenClaim.holds_of_cond 3 Tryz.f3 rfl rfl rfl rfl rfl rfl rfl ⟨rfl, rfl, rfl, rfl, rfl⟩ rfl rfl rfl rfl rfl (by kernel_rfl) Tryz.func3 (by kernel_rfl)
  (of_decide_eq_true (by kernel_rfl)) (by unfold Func.isWrapper; first | (rw [if_pos (by decide +kernel)]; kernel_rfl) | (rw [if_neg (by decide +kernel)]; exact ⟨rfl, rfl⟩))
  (fun os started H enc _ F => by rw [OpenClaim.pre_eq_preRow]; exact lifted os started H enc F)
theorem plain (f : FuncId) (fn : Func) (hf : Tryz.pinned.checked.prog.funcNamed "veil/veillaw21.ArithTapes" = some f) (hfn : Tryz.pinned.checked.prog.funcs[f]? = some fn) :
  false = Tryz.pinned.checked.prog.looks [] ∧ ∀ (j : Nat) t, fn.params[j]? = some t → Tryz.pinned.checked.prog.wantsStandIn t = false := by
 obtain rfl : f = 3 := Option.some.inj ((show Tryz.prog.funcNamed "veil/veillaw21.ArithTapes" = some 3 by kernel_rfl).symm.trans hf) |>.symm
 obtain rfl : fn = Tryz.f3 := (Option.some.inj (Tryz.func3.symm.trans hfn)).symm
 refine ⟨by kernel_rfl, fun j t ht => ?_⟩
 rw [Tryz.params3] at ht
 have hm := Array.mem_of_getElem? ht
 simp only [List.mem_toArray, List.mem_cons, List.not_mem_nil, or_false] at hm
 rcases hm with rfl | rfl
 ·exact (show Tryz.prog.wantsStandIn 24 = false by kernel_rfl)
 ·exact (show Tryz.prog.wantsStandIn 25 = false by kernel_rfl)
theorem card : Rows.ArithTapesCardSaid :=
 Claim7.holds_tied_plain_at .later [] _ _ _ _ said (fun _ h => by cases h) (by kernel_rfl) (fun _ h => by cases h) arithTapes_row_tie rfl ⟨rfl, rfl⟩ (by kernel_rfl) rfl plain (by kernel_rfl)
end Go.Proofs.YtkoilaoogphgfaaGreatDoor.arithTapes
namespace Go.Proofs.YtkoilaoogphgfaaGreatDoor
theorem arithTapes_proved : Rows.ArithTapesCardSaid := arithTapes.card
#print axioms arithTapes_proved
end Go.Proofs.YtkoilaoogphgfaaGreatDoor
