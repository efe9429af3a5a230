import Derived.Test.YtbkiobfjabadeaaDoorCards
import Derived.Test.YtbkiobfjabadeaaDoorTie
import Derived.Test.YtbkiobfjabadeaaDoorArr
import Derived.Test.YtbkiobfjabadeaaDoorYo
import Derived.Deep.DeepHandedRow
import Derived.Lib.LaidTab
import Derived.ChangeSlices
import Derived.SizedLaws
import Derived.Carry
namespace Go.Proofs.YtbkiobfjabadeaaDoor.partyTapes
open Go.ChangeShapes Go.WideShapes Go.ChangeAt Go.RowKit
set_option linter.unusedVariables false
set_option maxRecDepth 100000

theorem laidOut : laidOutB Tryd.prog = true := by kernel_rfl
theorem own : ownKnob Tryd.prog.godebug = none := by kernel_rfl
theorem gTab : Tryd.prog.globalNamed "veil/scalar.table" = some 0 := by kernel_rfl
theorem gTabType : (Tryd.prog.globals[0]?).map (·.type) = some 71 := by kernel_rfl
theorem undT : Tryd.prog.underlying 71 = some (.array 3 28) := by kernel_rfl
theorem celT : Tryd.prog.cellsOf 71 = 12 := by kernel_rfl
theorem undS : Tryd.prog.underlying 28 = some (.array 4 26) := by kernel_rfl
theorem celS : Tryd.prog.cellsOf 28 = 4 := by kernel_rfl
theorem undL : Tryd.prog.underlying 28 = some (.array 4 26) := by kernel_rfl
theorem celL : Tryd.prog.cellsOf 28 = 4 := by kernel_rfl
theorem undu : Tryd.prog.underlying 26 = some (.int .u64) := by kernel_rfl
theorem celu : Tryd.prog.cellsOf 26 = 1 := by kernel_rfl

/-- what the row's list gives: the table's cells hold its twelve numbers -/
theorem rows_of {H : Type} {enc : TypeId × Value → H} {P : Program} {w : World} {base : Nat} {sp : Nat → Bool} {held : Bool} {fuel : Nat} {t s e : TypeId} {n m : Nat} {k : IntKind} {cs : List Value} {zss : List (List Int)} {p : List MemPlace}
    (ht : P.underlying t = some (.array n s)) (hs : P.underlying s = some (.array m e)) (he : P.underlying e = some (.int k)) (hce : P.cellsOf e = 1) (hcs : P.cellsOf s = m) (hct : P.cellsOf t = n * m)
    (h : DataW.trod enc P w base sp held fuel t cs = some (.agg (zss.map fun zs => Lib.tabData k zs), p)) : ∀ i zs, i < n → zss[i]? = some zs → (cs.drop (i * m)).take m = zs.map fun z => Value.int k z := by
  cases fuel with
  | zero => simp [DataW.trod] at h
  | succ fuel =>
    simp only [DataW.trod, ht, hcs, hct] at h
    split at h
    · obtain ⟨xs, hm, hx⟩ := Option.map_eq_some_iff.1 h
      have hxs : xs.map (·.1) = zss.map fun zs => (Lib.tabData k zs : DataW H) := by
        have := congrArg Prod.fst hx
        simpa using this
      intro i zs hi hz
      obtain ⟨b, hb, hf⟩ := Lib.mapM_at hm i i (by simp [hi])
      have h2 : (xs.map (·.1))[i]? = some b.1 := by simp [hb]
      rw [hxs] at h2
      simp only [List.getElem?_map, hz, Option.map_some, Option.some.injEq] at h2
      obtain ⟨b1, b2⟩ := b
      subst h2
      exact Lib.cells_of_tab hs he hce hcs hf
    · cases h

theorem table {W : World} (h : laidMetH Tryd.prog Rows.partyTapesRow.laid W) : Tb W := by
  obtain ⟨ps, ⟨g', t', cs, fuel, p, q, hg', ht', hvar, hd, _, _⟩, _⟩ := h
  obtain rfl := Option.some.inj (gTab.symm.trans hg')
  obtain rfl := Option.some.inj (gTabType.symm.trans ht')
  have key := rows_of (zss := [[6346243789798364141, 1503914060200516822, 0, 1152921504606846976], [15486807595281847581, 14334777244411350896, 18446744073709551614, 1152921504606846975], [11819153939886771969, 14991950615390032711, 14910419812499177061, 259310039853996605]]) undT undS undu celu celS celT hd
  have g : ∀ j, W.cell? ⟨0, j, none⟩ = cs[j]? := fun j => World.var?_cell gTab hvar j
  have r0 := key 0 _ (by decide) rfl
  have r1 := key 1 _ (by decide) rfl
  have r2 := key 2 _ (by decide) rfl
  have at0 : ∀ (i j : Nat) (zs : List Int), (cs.toList.drop (i * 4)).take 4 = zs.map (fun z => Value.int .u64 z) → j < 4 → cs[i * 4 + j]? = (zs[j]?).map fun z => Value.int .u64 z := by
    intro i j zs hr hj
    have := congrArg (·[j]?) hr
    simpa [List.getElem?_take, List.getElem?_drop, hj] using this
  refine ⟨?_, ?_, ?_, ?_, ?_, ?_, ?_, ?_, ?_, ?_, ?_, ?_⟩
  · rw [g]; exact at0 0 0 _ r0 (by decide)
  · rw [g]; exact at0 0 1 _ r0 (by decide)
  · rw [g]; exact at0 0 2 _ r0 (by decide)
  · rw [g]; exact at0 0 3 _ r0 (by decide)
  · rw [g]; exact at0 1 0 _ r1 (by decide)
  · rw [g]; exact at0 1 1 _ r1 (by decide)
  · rw [g]; exact at0 1 2 _ r1 (by decide)
  · rw [g]; exact at0 1 3 _ r1 (by decide)
  · rw [g]; exact at0 2 0 _ r2 (by decide)
  · rw [g]; exact at0 2 1 _ r2 (by decide)
  · rw [g]; exact at0 2 2 _ r2 (by decide)
  · rw [g]; exact at0 2 3 _ r2 (by decide)

/-- nothing in it is greater than a machine may hold -/
def Sz {H : Type} (P : Program) (t : TypeId) (d : DataW H) : Prop := ∀ n ∈ d.weights P t, n ≤ reachBytes
theorem mem_all {H : Type} {P : Program} {e : TypeId} : ∀ {l : List (DataW H)} {y : DataW H}, y ∈ l → ∀ n ∈ y.weights P e, n ∈ DataW.weightsAll P e l
  | x :: r, y, h, n, hn => by
    simp only [DataW.weightsAll, List.mem_append]
    rcases List.mem_cons.1 h with rfl | h
    · exact Or.inl hn
    · exact Or.inr (mem_all h n hn)
theorem Sz.len {H : Type} {P : Program} {t e : TypeId} {es sp : List (DataW H)} (h : Sz P t (.slice es sp)) (hu : P.underlying t = some (.slice e)) : (es.length + sp.length) * P.bytesOf e ≤ reachBytes := h _ (by simp [DataW.weights, hu])
theorem Sz.elem {H : Type} {P : Program} {t e : TypeId} {es sp : List (DataW H)} (h : Sz P t (.slice es sp)) (hu : P.underlying t = some (.slice e)) {y : DataW H} (hy : y ∈ es) : Sz P e y := fun n hn => h n (by
  simp only [DataW.weights, hu, List.mem_cons, List.mem_append]
  exact Or.inr (Or.inl (mem_all hy n hn)))
theorem Sz.field {H : Type} {P : Program} {t ft : TypeId} {fs : Array Field} {ps : List (DataW H)} {d : DataW H} {i : Nat} (h : Sz P t (.agg ps)) (hu : P.underlying t = some (.struct fs)) (hf : (fs.toList.map (·.type))[i]? = some ft) (hd : ps[i]? = some d) : Sz P ft d := fun n hn => h n (by
  simp only [DataW.weights, hu]
  exact DataW.weights_mem_each hf hd n hn)
theorem Sz.top {H : Type} {P : Program} {ts : List TypeId} {ds : List (DataW H)} (h : (DataW.weightsEach P ts ds).all (· ≤ reachBytes) = true) {j : Nat} {t : TypeId} {d : DataW H} (ht : ts[j]? = some t) (hd : ds[j]? = some d) : Sz P t d := fun n hn => by
  have := List.all_eq_true.1 h _ (DataW.weights_mem_each ht hd n hn)
  simpa using this

section
variable {H : Type} {enc : TypeId × Value → H} {w : World} {base : Nat} {sp : Nat → Bool} {held : Bool}
theorem list4 : ∀ zs : List Int, zs.length = 4 → ∃ a : E4, zs = [a.x0, a.x1, a.x2, a.x3]
  | [x0, x1, x2, x3], _ => ⟨⟨x0, x1, x2, x3⟩, rfl⟩
theorem wd_of {z : Int} (h : (Lit.int .u64 z).wf = true) : Sm.Wd z := by
  have := bounds_u64 h
  unfold Sm.Wd; omega
theorem wf_of {z : Int} (h : Sm.Wd z) : (Lit.int .u64 z).wf = true := by
  unfold Sm.Wd at h
  exact WalkArith.wf_u64 ⟨h.1, by omega⟩
theorem open4 {r : Reach} {b0 : Nat} {v : Value} {d : DataW H} {p : List MemPlace} (hv : Value.okWide Tryd.prog w r b0 28 v) (h : DataW.Trod enc Tryd.prog w base sp held 28 v d p) :
    ∃ a : E4, v = a.v ∧ d = .agg ([a.x0, a.x1, a.x2, a.x3].map fun z => .lit (.int .u64 z)) ∧ p = [] ∧ a.ok := by
  obtain ⟨zs, hl, hv', hd, hp, hw⟩ := open_arr undL undu celu celL hv h
  obtain ⟨a, rfl⟩ := list4 zs hl
  exact ⟨a, hv', hd, hp, wd_of (hw _ (by simp)), wd_of (hw _ (by simp)), wd_of (hw _ (by simp)), wd_of (hw _ (by simp))⟩
theorem shut4 (a : E4) (h : a.ok) : DataW.Trod enc Tryd.prog w base sp held 28 a.v (.agg ([a.x0, a.x1, a.x2, a.x3].map fun z => .lit (.int .u64 z))) [] := by
  obtain ⟨h0, h1, h2, h3⟩ := h
  refine shut_arr undL undu celu celL [a.x0, a.x1, a.x2, a.x3] rfl ?_
  intro z hz
  simp only [List.mem_cons, List.not_mem_nil, or_false] at hz
  rcases hz with rfl | rfl | rfl | rfl
  · exact wf_of h0
  · exact wf_of h1
  · exact wf_of h2
  · exact wf_of h3
theorem undP2 : ∃ f0 f1 : Field, Tryd.prog.underlying 23 = some (.struct #[f0, f1]) ∧ (f0.type = 3 ∧ f0.offset = 0) ∧ (f1.type = 3 ∧ f1.offset = 1) := ⟨_, _, Tryd.underlying23, ⟨rfl, rfl⟩, rfl, rfl⟩
theorem celi : Tryd.prog.cellsOf 3 = 1 := by kernel_rfl
theorem celP : Tryd.prog.cellsOf 23 = 2 := by kernel_rfl
theorem openPa {v : Value} {d : DataW H} {p : List MemPlace} (h : DataW.Trod enc Tryd.prog w base sp held 23 v d p) (hv : ∃ cs : Array Value, v = .agg cs) : ∃ b c : Int, v = .agg #[.int .i64 b, .int .i64 c] := by
  obtain ⟨ca, rfl⟩ := hv
  obtain ⟨fuel, hf⟩ := h
  obtain ⟨f0, f1, hu, ⟨t0, o0⟩, ⟨t1, o1⟩⟩ := undP2
  obtain ⟨xs, m, _, hx, hl, hxl, hfd⟩ := DataW.trod_struct hu hf
  have h0 := hfd 0 f0 rfl
  have h1 := hfd 1 f1 rfl
  rw [t0, o0, celi] at h0
  rw [t1, o1, celi] at h1
  have hxl' : xs.length = 2 := hxl
  obtain ⟨y0, e0⟩ : ∃ y, xs[0]? = some y := ⟨xs[0]'(by omega), by simp [hxl']⟩
  obtain ⟨y1, e1⟩ : ∃ y, xs[1]? = some y := ⟨xs[1]'(by omega), by simp [hxl']⟩
  rw [e0] at h0
  rw [e1] at h1
  obtain ⟨b, hb, -, -⟩ := DataW.trod_int Tryd.underlying3 h0
  obtain ⟨c, hc, -, -⟩ := DataW.trod_int Tryd.underlying3 h1
  rw [celP] at hl
  obtain ⟨cs⟩ := ca
  have hl' : cs.length = 2 := by simpa [Value.cells] using hl
  simp only [Value.cells] at hb hc
  match cs, hl', hb, hc with
  | [z0, z1], _, hb, hc =>
    simp at hb hc
    subst hb
    subst hc
    exact ⟨b, c, rfl⟩
theorem undM : Tryd.prog.underlying 29 = some (.slice 28) := by kernel_rfl
theorem bytM : Tryd.prog.bytesOf 28 = 32 := by kernel_rfl
theorem celM : Tryd.prog.cellsOf 29 = 1 := by kernel_rfl
theorem undTs : Tryd.prog.underlying 24 = some (.slice 31) := by kernel_rfl
theorem bytT : Tryd.prog.bytesOf 31 = 176 := by kernel_rfl
theorem celTp : Tryd.prog.cellsOf 31 = 18 := by kernel_rfl
theorem four {fuel : Nat} {cs : List Value} {x : DataW H × List MemPlace} (h : DataW.trod enc Tryd.prog w base sp held fuel 28 cs = some x) :
    ∃ z : E4, z.ok ∧ cs = [.int .u64 z.x0, .int .u64 z.x1, .int .u64 z.x2, .int .u64 z.x3] := by
  obtain ⟨xs, m, _, hx, hl, hxl, hi⟩ := DataW.trod_array undL h
  rw [celL] at hl
  have key : ∀ i, i < 4 → ∃ z : Int, cs[i]? = some (.int .u64 z) ∧ (Lit.int .u64 z).wf = true := by
    intro i hin
    have h1 := hi i hin
    obtain ⟨y, hy⟩ : ∃ y, xs[i]? = some y := ⟨xs[i]'(by omega), by simp [hxl, hin]⟩
    rw [hy, celu, Nat.mul_one] at h1
    obtain ⟨z, hc, rfl, hw⟩ := DataW.trod_int undu h1
    refine ⟨z, ?_, hw⟩
    have := congrArg (·[0]?) hc
    simpa [List.getElem?_take, List.getElem?_drop] using this
  obtain ⟨z0, c0, w0⟩ := key 0 (by omega)
  obtain ⟨z1, c1, w1⟩ := key 1 (by omega)
  obtain ⟨z2, c2, w2⟩ := key 2 (by omega)
  obtain ⟨z3, c3, w3⟩ := key 3 (by omega)
  refine ⟨⟨z0, z1, z2, z3⟩, ⟨wd_of w0, wd_of w1, wd_of w2, wd_of w3⟩, ?_⟩
  match cs, hl, c0, c1, c2, c3 with
  | [y0, y1, y2, y3], _, c0, c1, c2, c3 =>
    simp only [List.getElem?_cons_zero, List.getElem?_cons_succ, Option.some.injEq] at c0 c1 c2 c3
    rw [c0, c1, c2, c3]
theorem openM {fuel : Nat} {cs : List Value} {x : DataW H × List MemPlace} (hf : DataW.trod enc Tryd.prog w base sp held fuel 29 cs = some x) (hz : Sz Tryd.prog 29 x.1) :
    ∃ (V : Value) (n : Nat) (g : Nat → E4), cs = [V] ∧ (∀ j, j < n → (g j).ok) ∧ In w V n g ∧ n ≤ 4398046510976 := by
  rcases DataW.trod_slice undM hf with ⟨hcs, hx⟩ | ⟨a, len, cap, elems, rest, n, _, hcs, hx, _, hl, hm, hlen, hel, hsp, _⟩
  · exact ⟨.slice none 0 0, 0, fun _ => (⟨0, 0, 0, 0⟩ : E4), hcs, fun j hj => by omega, ⟨none, 0, rfl, Nat.le_refl _, fun _ => rfl, fun h => absurd h (by omega)⟩, by omega⟩
  · obtain ⟨b, off, spot⟩ := a
    have key : ∀ k, ∃ z : E4, k < len → z.ok ∧ ∀ j u, [Value.int .u64 z.x0, .int .u64 z.x1, .int .u64 z.x2, .int .u64 z.x3][j]? = some u → w.cell? (((⟨b, off, spot⟩ : Addr).add (k * 4)).add j) = some u := by
      intro k
      by_cases hk : k < len
      · have h1 := hel k hk
        obtain ⟨y, hy⟩ : ∃ y, elems[k]? = some y := ⟨elems[k]'(by omega), by simp [hlen, hk]⟩
        rw [hy, Option.bind_eq_some_iff] at h1
        obtain ⟨cs, hc, ht⟩ := h1
        obtain ⟨z, hz, rfl⟩ := four ht
        refine ⟨z, fun _ => ⟨hz, fun j u hu => ?_⟩⟩
        rw [celL] at hc
        have hj : j < 4 := by
          have := (List.getElem?_eq_some_iff.1 hu).1
          simpa using this
        rw [(World.cells?_some hc).2.2 j hj]
        exact hu
      · exact ⟨(⟨0, 0, 0, 0⟩ : E4), fun h => absurd h hk⟩
    obtain ⟨g, hg⟩ := Classical.axiomOfChoice key
    refine ⟨_, len, g, hcs, fun j hj => (hg j hj).1, ⟨_, cap, rfl, hl, (fun h => (by cases h)), fun h0 => ?_⟩, ?_⟩
    · have hs : spot = none := by simpa [Addr.add] using World.cell?_spot ((hg 0 h0).2 0 _ rfl)
      subst hs
      have hc : ∀ k j u, k < len → [Value.int .u64 (g k).x0, .int .u64 (g k).x1, .int .u64 (g k).x2, .int .u64 (g k).x3][j]? = some u → w.cell? ⟨b, off + k * 4 + j, none⟩ = some u := fun k j u hk hu => by
        have := (hg k hk).2 j u hu
        rw [Addr.add_lit, Addr.add_lit] at this
        exact this
      exact ⟨b, off, rfl, fun k hk => hc k 0 _ hk rfl, fun k hk => hc k 1 _ hk rfl, fun k hk => hc k 2 _ hk rfl, fun k hk => hc k 3 _ hk rfl⟩
    · subst hx
      have h1 := Sz.len hz undM
      rw [bytM, List.length_map, List.length_map, hlen] at h1
      unfold reachBytes at h1
      omega
theorem undG : ∃ f0 f1 f2 f3 f4 f5 : Field, Tryd.prog.underlying 31 = some (.struct #[f0, f1, f2, f3, f4, f5]) ∧ (f0.type = 28 ∧ f0.offset = 0) ∧ (f1.type = 28 ∧ f1.offset = 4) ∧ (f2.type = 28 ∧ f2.offset = 8) ∧ (f3.type = 28 ∧ f3.offset = 12) ∧ (f4.type = 29 ∧ f4.offset = 16) ∧ (f5.type = 29 ∧ f5.offset = 17) :=
  ⟨_, _, _, _, _, _, Tryd.underlying31, ⟨rfl, rfl⟩, ⟨rfl, rfl⟩, ⟨rfl, rfl⟩, ⟨rfl, rfl⟩, ⟨rfl, rfl⟩, ⟨rfl, rfl⟩⟩
theorem openTape {fuel : Nat} {cs : List Value} {x : DataW H × List MemPlace} (hf : DataW.trod enc Tryd.prog w base sp held fuel 31 cs = some x) (hz : Sz Tryd.prog 31 x.1) :
    ∃ (q : Tq) (L R : Value), cs = tc q.a q.r q.s q.t L R ∧ q.ok ∧ In w L q.n q.g ∧ In w R q.m q.h := by
  obtain ⟨f0, f1, f2, f3, f4, f5, hu, ⟨t0, o0⟩, ⟨t1, o1⟩, ⟨t2, o2⟩, ⟨t3, o3⟩, ⟨t4, o4⟩, ⟨t5, o5⟩⟩ := undG
  obtain ⟨xs, mm, _, hx, hl, hxl, hfd⟩ := DataW.trod_struct hu hf
  rw [celTp] at hl
  have hxl' : xs.length = 6 := hxl
  subst hx
  have h0 := hfd 0 f0 rfl
  rw [t0, o0, celL] at h0
  obtain ⟨y0, e0⟩ : ∃ y, xs[0]? = some y := ⟨xs[0]'(by omega), by simp [hxl']⟩
  rw [e0] at h0
  have h1 := hfd 1 f1 rfl
  rw [t1, o1, celL] at h1
  obtain ⟨y1, e1⟩ : ∃ y, xs[1]? = some y := ⟨xs[1]'(by omega), by simp [hxl']⟩
  rw [e1] at h1
  have h2 := hfd 2 f2 rfl
  rw [t2, o2, celL] at h2
  obtain ⟨y2, e2⟩ : ∃ y, xs[2]? = some y := ⟨xs[2]'(by omega), by simp [hxl']⟩
  rw [e2] at h2
  have h3 := hfd 3 f3 rfl
  rw [t3, o3, celL] at h3
  obtain ⟨y3, e3⟩ : ∃ y, xs[3]? = some y := ⟨xs[3]'(by omega), by simp [hxl']⟩
  rw [e3] at h3
  have h4 := hfd 4 f4 rfl
  rw [t4, o4, celM] at h4
  obtain ⟨y4, e4⟩ : ∃ y, xs[4]? = some y := ⟨xs[4]'(by omega), by simp [hxl']⟩
  rw [e4] at h4
  have h5 := hfd 5 f5 rfl
  rw [t5, o5, celM] at h5
  obtain ⟨y5, e5⟩ : ∃ y, xs[5]? = some y := ⟨xs[5]'(by omega), by simp [hxl']⟩
  rw [e5] at h5
  obtain ⟨a, k0, q0⟩ := four h0
  obtain ⟨r, k1, q1⟩ := four h1
  obtain ⟨s, k2, q2⟩ := four h2
  obtain ⟨t, k3, q3⟩ := four h3
  have sz4 : Sz Tryd.prog 29 y4.1 := Sz.field (i := 4) hz hu (by simp [t4]) (by simp [e4])
  have sz5 : Sz Tryd.prog 29 y5.1 := Sz.field (i := 5) hz hu (by simp [t5]) (by simp [e5])
  obtain ⟨L, n, g, q4, ol, iL, nL⟩ := openM h4 sz4
  obtain ⟨R, m, h, q5, or, iR, nR⟩ := openM h5 sz5
  refine ⟨⟨a, r, s, t, n, m, g, h⟩, L, R, ?_, ⟨k0, k1, k2, k3, ol, or, nL, nR⟩, iL, iR⟩
  match cs, hl, q0, q1, q2, q3, q4, q5 with
  | [z0, z1, z2, z3, z4, z5, z6, z7, z8, z9, z10, z11, z12, z13, z14, z15, z16, z17], _, q0, q1, q2, q3, q4, q5 =>
    simp at q0 q1 q2 q3 q4 q5
    obtain ⟨rfl, rfl, rfl, rfl⟩ := q0
    obtain ⟨rfl, rfl, rfl, rfl⟩ := q1
    obtain ⟨rfl, rfl, rfl, rfl⟩ := q2
    obtain ⟨rfl, rfl, rfl, rfl⟩ := q3
    subst q4
    subst q5
    rfl
theorem openTs {v : Value} {d : DataW H} {p : List MemPlace} (h : DataW.Trod enc Tryd.prog w base sp held 24 v d p) (hv : ∃ a0 len cap, v = .slice a0 len cap) (hz : Sz Tryd.prog 24 d) :
    ∃ (N : Nat) (q : Nat → Tq) (L R : Nat → Value), Ts w v N q L R ∧ (∀ i, i < N → (q i).ok) ∧ N ≤ 799644820177 := by
  obtain ⟨a0, len, cap, rfl⟩ := hv
  obtain ⟨fuel, hf⟩ := h
  have z0 : Tq := ⟨zero4, zero4, zero4, zero4, 0, 0, fun _ => zero4, fun _ => zero4⟩
  rcases DataW.trod_slice undTs hf with ⟨hcs, hx⟩ | ⟨a, len', cap', elems, rest, n, _, hcs, hx, _, hl, hm, hlen, hel, hsp, _⟩
  · simp [Value.cells] at hcs
    obtain ⟨rfl, rfl, rfl⟩ := hcs
    exact ⟨0, fun _ => z0, fun _ => .slice none 0 0, fun _ => .slice none 0 0, ⟨none, 0, rfl, fun h => absurd h (by omega), fun i hi => absurd hi (by omega)⟩, fun i hi => absurd hi (by omega), by omega⟩
  · simp [Value.cells] at hcs
    obtain ⟨rfl, rfl, rfl⟩ := hcs
    simp only [Prod.mk.injEq] at hx
    obtain ⟨rfl, -⟩ := hx
    obtain ⟨b, off, spot⟩ := a
    have key : ∀ k, ∃ z : Tq × Value × Value, k < len → z.1.ok ∧ In w z.2.1 z.1.n z.1.g ∧ In w z.2.2 z.1.m z.1.h ∧ ∀ j u, (tc z.1.a z.1.r z.1.s z.1.t z.2.1 z.2.2)[j]? = some u → w.cell? (((⟨b, off, spot⟩ : Addr).add (k * 18)).add j) = some u := by
      intro k
      by_cases hk : k < len
      · have h1 := hel k hk
        obtain ⟨y, hy⟩ : ∃ y, elems[k]? = some y := ⟨elems[k]'(by omega), by simp [hlen, hk]⟩
        rw [hy, Option.bind_eq_some_iff, celTp] at h1
        obtain ⟨cs, hc, ht⟩ := h1
        obtain ⟨q, L, R, rfl, ok, iL, iR⟩ := openTape ht (Sz.elem hz undTs (List.mem_map.2 ⟨y, List.mem_of_getElem? hy, rfl⟩))
        refine ⟨(q, L, R), fun _ => ⟨ok, iL, iR, fun j u hu => ?_⟩⟩
        have hj : j < 18 := by
          have := (List.getElem?_eq_some_iff.1 hu).1
          simpa [tc] using this
        rw [(World.cells?_some hc).2.2 j hj]
        exact hu
      · exact ⟨(z0, .slice none 0 0, .slice none 0 0), fun h => absurd h hk⟩
    obtain ⟨f, hg⟩ := Classical.axiomOfChoice key
    refine ⟨len, fun i => (f i).1, fun i => (f i).2.1, fun i => (f i).2.2, ⟨_, cap, rfl, fun h0 => ?_, fun i hi => ⟨(hg i hi).2.1, (hg i hi).2.2.1⟩⟩, fun i hi => (hg i hi).1, ?_⟩
    · have hs : spot = none := by simpa [Addr.add] using World.cell?_spot ((hg 0 h0).2.2.2 0 _ rfl)
      subst hs
      refine ⟨b, off, rfl, fun i hi j u hu => ?_⟩
      have := (hg i hi).2.2.2 j u hu
      rw [Addr.add_lit, Addr.add_lit] at this
      exact this
    · have h1 := Sz.len hz undTs
      rw [bytT, List.length_map, List.length_map, hlen] at h1
      unfold reachBytes at h1
      omega
end

theorem contract (H : Type) (enc : TypeId × Value → H) (W : World) (base : Nat) (args : Array Value) (ds gs : List (DataW H)) (before : List MemPlace)
    (hval : ∀ (j : Nat) t v, Tryd.f3.params[j]? = some t → args[j]? = some v → Value.okWide Tryd.prog W .any base t v)
    (hW : DataW.Whole enc Tryd.prog Tryd.f3.params.toList Rows.partyTapesSpec.vars false W args.toList ds gs before) (hL : laidMetH Tryd.prog Rows.partyTapesRow.laid W)
    (hZ : (DataW.weightsEach Tryd.prog (Tryd.f3.params.toList ++ (OpenSpec.ofChange Rows.partyTapesSpec).bare.plain.varTypes Tryd.prog) (ds ++ gs)).all (· ≤ reachBytes) = true) :
    Calls Tryd.prog 3 args W fun e W' => ∃ v, e = .returned v ∧ Rows.partyTapesSpec.post enc Tryd.prog Tryd.f3 false true false false W args v W' := by
  have hW' := hW
  obtain ⟨p, q, hA0, hV, rfl, hfz, hnd⟩ := hW
  have hA : DataW.TrodAll enc Tryd.prog W 0 (fun _ => true) true Tryd.f3.params.toList args.toList ds p := hA0
  rw [Tryd.params3] at hA hval hZ
  obtain ⟨v0, vs0, d0, ds0, p0, q0, hargs, rfl, rfl, h0, r0⟩ := trodAll_cons hA
  obtain ⟨v1, vs1, d1, ds1, p1, q1, rfl, rfl, rfl, h1, r1⟩ := trodAll_cons r0
  obtain ⟨rfl, rfl, rfl⟩ := trodAll_nil r1
  obtain rfl : args = #[v0, v1] := by cases args; simp_all
  obtain ⟨rfl, rfl⟩ := trodVars_none hV
  have hk0 := h0
  obtain ⟨b0, c0, rfl⟩ := openPa h0 (by obtain ⟨_, _, hu, _⟩ := undP2; obtain ⟨cs, e, _⟩ := okWide_struct hu (hval 0 23 v0 rfl rfl); exact ⟨cs, e⟩)
  have hk1 := h1
  obtain ⟨N, q, L, R, hTs, hok, hN⟩ := openTs h1 (okWide_slice undTs (hval 1 24 v1 rfl rfl)) (Sz.top hZ (j := 1) rfl rfl)
  clear hA0
  simp only [List.append_nil] at hW'
  have hlt0 : ∀ x ∈ p0, x.block < W.heap.size := fun x hx => hW'.lt x (by simp [hx])
  have hlt1 : ∀ x ∈ p1, x.block < W.heap.size := fun x hx => hW'.lt x (by simp [hx])
  refine (law_any b0 c0 v1 N q L R W (table hL) hN hTs hok).mono fun e W' ⟨he, bel⟩ => ?_
  subst he
  exact ⟨_, rfl, _, _, _, [], _, [], hW', trodAll_mk1 (shut_bool Tryd.underlying4 _), (trodAll_cons_mk (Below.trod laidOut (by kernel_rfl) (of_decide_eq_true (by kernel_rfl)) hk0 bel hlt0) (trodAll_cons_mk (Below.trod laidOut (by kernel_rfl) (of_decide_eq_true (by kernel_rfl)) hk1 bel hlt1) trodAll_mk0)), rfl, bel.frame _, fun h => by cases h⟩

/-- a world for the witness: the table holds what its initialiser lays -/
noncomputable def laidWorld (os : Os) : World :=
  { World.holding Tryd.prog os ⟨#[], #[], []⟩ with heap := (World.holding Tryd.prog os ⟨#[], #[], []⟩).heap.modify 0 fun
      | .cells _ t frozen => .cells #[.int .u64 6346243789798364141, .int .u64 1503914060200516822, .int .u64 0, .int .u64 1152921504606846976, .int .u64 15486807595281847581, .int .u64 14334777244411350896, .int .u64 18446744073709551614, .int .u64 1152921504606846975, .int .u64 11819153939886771969, .int .u64 14991950615390032711, .int .u64 14910419812499177061, .int .u64 259310039853996605] t frozen
      | o => o }
theorem laid_met (os : Os) : laidMet Tryd.prog Rows.partyTapesRow.laid ((laidWorld os).forCall (fun _ _ => 0) ⟨#[], #[.agg #[.int .i64 0, .int .i64 0], .slice none 0 0], []⟩).memory :=
  laidMet_of_run' 8 (by kernel_rfl) (by kernel_rfl)
theorem reads (os : Os) {H : Type} (enc : TypeId × Value → H) : ∃ places, DataW.whole enc Tryd.prog ((laidWorld os).forCall (fun _ _ => 0) ⟨#[], #[.agg #[.int .i64 0, .int .i64 0], .slice none 0 0], []⟩).memory Tryd.f3.params.toList Rows.partyTapesSpec.vars false (#[.agg #[.int .i64 0, .int .i64 0], .slice none 0 0] : Array Value).toList 8 = some ([.agg [.lit (.int .i64 0), .lit (.int .i64 0)], .nil], [], places) :=
  ⟨[], by kernel_rfl⟩

set_option maxRecDepth 100000 in
theorem lifted (os : Os) (started : os.Started) (H : Type) (enc : TypeId × Value → H) (F : Stop.Interp) :
    ReturnsInHanded {} Tryd.checked os 3 .any ((OpenSpec.ofChange Rows.partyTapesSpec).preRow enc Tryd.prog Tryd.f3 Rows.partyTapesRow.domain false Rows.partyTapesRow.laid) (((OpenSpec.ofChange Rows.partyTapesSpec).at F).post enc Tryd.prog Tryd.f3 false true false false) := by
  obtain ⟨places, hx⟩ := reads os enc
  refine returnsInHanded_of_row (C := Tryd.checked) (s := OpenSpec.ofChange Rows.partyTapesSpec) own started (by kernel_rfl) Tryd.func3
    (witness_row_at (enc := enc) (C := Tryd.checked) false (laidWorld os) #[.agg #[.int .i64 0, .int .i64 0], .slice none 0 0] rfl (by kernel_rfl) (by kernel_rfl) (by kernel_rfl)
      (OpenSpec.preRow_of_cond 8 hx (by kernel_rfl) (fun k hk => by cases hk) (by kernel_rfl) (laid_met os))) ?_
  intro W base args ds gs before hval hW _ _ hZ hL _ _
  exact contract H enc W base args ds gs before hval hW hL hZ

theorem said : Rows.PartyTapesSaid :=
  OpenClaim.holds_of_cond 3 Tryd.f3 rfl rfl rfl rfl rfl rfl rfl ⟨rfl, rfl, rfl, rfl, rfl⟩ rfl rfl rfl rfl rfl (by kernel_rfl) Tryd.func3 (by kernel_rfl)
    (of_decide_eq_true (by kernel_rfl)) (by unfold Func.isWrapper; first | (rw [if_pos (by decide +kernel)]; kernel_rfl) | (rw [if_neg (by decide +kernel)]; exact ⟨rfl, rfl⟩))
    (fun os started H enc _ F => by rw [OpenClaim.pre_eq_preRow]; exact lifted os started H enc F)

theorem plain (f : FuncId) (fn : Func) (hf : Tryd.pinned.checked.prog.funcNamed "veil/veillaw14.PartyTapes" = some f) (hfn : Tryd.pinned.checked.prog.funcs[f]? = some fn) :
    false = Tryd.pinned.checked.prog.looks [] ∧ ∀ (j : Nat) t, fn.params[j]? = some t → Tryd.pinned.checked.prog.wantsStandIn t = false := by
  obtain rfl : f = 3 := Option.some.inj ((show Tryd.prog.funcNamed "veil/veillaw14.PartyTapes" = some 3 by kernel_rfl).symm.trans hf) |>.symm
  obtain rfl : fn = Tryd.f3 := (Option.some.inj (Tryd.func3.symm.trans hfn)).symm
  refine ⟨by kernel_rfl, fun j t ht => ?_⟩
  rw [Tryd.params3] at ht
  have hm := Array.mem_of_getElem? ht
  simp only [List.mem_toArray, List.mem_cons, List.not_mem_nil, or_false] at hm
  rcases hm with rfl | rfl
  · exact (show Tryd.prog.wantsStandIn 23 = false by kernel_rfl)
  · exact (show Tryd.prog.wantsStandIn 24 = false by kernel_rfl)

theorem card : Rows.PartyTapesCardSaid :=
  Claim7.holds_tied_plain_at .later [] _ _ _ _ said (fun _ h => by cases h) (by kernel_rfl) (fun _ h => by cases h) partyTapes_row_tie rfl ⟨rfl, rfl⟩ (by kernel_rfl) rfl plain (by kernel_rfl)
end Go.Proofs.YtbkiobfjabadeaaDoor.partyTapes

namespace Go.Proofs.YtbkiobfjabadeaaDoor
theorem partyTapes_proved : Rows.PartyTapesCardSaid := partyTapes.card
#print axioms partyTapes_proved
end Go.Proofs.YtbkiobfjabadeaaDoor
