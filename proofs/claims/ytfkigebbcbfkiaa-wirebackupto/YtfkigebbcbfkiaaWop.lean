import Derived.Test.YtfkigebbcbfkiaaWo
import Derived.Test.YtfkigebbcbfkiaaWbk
namespace Go.Proofs.Ytfkigebbcbfkiaa
open Go.ChangeShapes Go.WideShapes Go.ChangeAt Go.RowKit
section
variable {H : Type} {enc : TypeId × Value → H} {w : World} {base : Nat} {sp : Nat → Bool} {held : Bool}
theorem undW : ∃ f0 f1 f2 : Field, Try.prog.underlying 38 = some (.struct #[f0, f1, f2]) ∧ (f0.type = 4 ∧ f0.offset = 0) ∧ (f1.type = 23 ∧ f1.offset = 1) ∧ (f2.type = 22 ∧ f2.offset = 2) := ⟨_, _, _, Try.underlying38, ⟨rfl, rfl⟩, ⟨rfl, rfl⟩, rfl, rfl⟩
theorem undT : Try.prog.underlying 35 = some (.slice 38) := by kernel_rfl
theorem undB : Try.prog.underlying 4 = some .bool := by kernel_rfl
theorem celB : Try.prog.cellsOf 4 = 1 := by kernel_rfl
theorem celu : Try.prog.cellsOf 23 = 1 := by kernel_rfl
theorem celW : Try.prog.cellsOf 38 = 3 := by kernel_rfl
theorem bulk_mem {l : List (DataW H)} {d : DataW H} (h : d ∈ l) : Rows.uptoBulk d ≤ Rows.uptoBulkAll l := by
  induction l with
  | nil => simp at h
  | cons x r ih =>
    simp only [Rows.uptoBulkAll]
    rcases List.mem_cons.1 h with rfl | h
    · omega
    · have := ih h; omega
/-- a thing, read -/
theorem openWt {fuel : Nat} {cs : List Value} {x : DataW H × List MemPlace} (h : DataW.trod enc Try.prog w base sp held fuel 38 cs = some x) :
    ∃ t : Tg, cs = [.bool t.tx, .int .u64 (t.n : Int), .slice t.P t.B.length t.c] ∧ By w t.P t.c t.B ∧ t.n < 2 ^ 64 ∧ t.B.length + 1 ≤ Rows.uptoBulk x.1 := by
  obtain ⟨f0, f1, f2, hu, ⟨t0, o0⟩, ⟨t1, o1⟩, ⟨t2, o2⟩⟩ := undW
  obtain ⟨xs, m, _, hx, hl, hxl, hf⟩ := DataW.trod_struct hu h
  subst hx
  have h0 := hf 0 f0 rfl
  have h1 := hf 1 f1 rfl
  have h2 := hf 2 f2 rfl
  rw [t0, o0, celB] at h0
  rw [t1, o1, celu] at h1
  rw [t2, o2, celY] at h2
  have hxl' : xs.length = 3 := hxl
  rw [celW] at hl
  obtain ⟨y0, e0⟩ : ∃ y, xs[0]? = some y := ⟨xs[0]'(by omega), by simp [hxl']⟩
  obtain ⟨y1, e1⟩ : ∃ y, xs[1]? = some y := ⟨xs[1]'(by omega), by simp [hxl']⟩
  obtain ⟨y2, e2⟩ : ∃ y, xs[2]? = some y := ⟨xs[2]'(by omega), by simp [hxl']⟩
  rw [e0] at h0
  rw [e1] at h1
  rw [e2] at h2
  obtain ⟨b, hb, -, -⟩ := DataW.trod_bool undB h0
  obtain ⟨n, hn, -, hwf⟩ := DataW.trod_int undu h1
  have hbd := bounds_u64 hwf
  obtain ⟨P, bs, c, hp, hby, hbu, _⟩ := openBy h2
  have hm2 : y2.1 ∈ xs.map (·.1) := List.mem_map.2 ⟨y2, List.mem_of_getElem? e2, rfl⟩
  have hbm := bulk_mem hm2
  refine ⟨⟨b, n.toNat, bs, P, c⟩, ?_, hby, by show n.toNat < 2 ^ 64; omega, by show bs.length + 1 ≤ Rows.uptoBulk (.agg (xs.map (·.1))); simp only [Rows.uptoBulk]; omega⟩
  match cs, hl, hb, hn, hp with
  | [z0, z1, z2], _, hb, hn, hp =>
    simp at hb hn hp
    rw [hb, hn, hp]
    simp only [List.cons.injEq, Value.int.injEq, and_true, true_and]
    omega
theorem eb_bulk : ∀ (ts : List Tg) (es : List (DataW H)), ts.length = es.length → (∀ i (h : i < ts.length) (h2 : i < es.length), ts[i].B.length + 1 ≤ Rows.uptoBulk es[i]) → (eb ts).length ≤ 10 * Rows.uptoBulkAll es
  | [], [], _, _ => by simp [eb]
  | [], _ :: _, h, _ => by simp at h
  | _ :: _, [], h, _ => by simp at h
  | t :: ts, e :: es, h, hi => by
    have h0 := hi 0 (by simp) (by simp)
    have ih := eb_bulk ts es (by simpa using h) (fun i h1 h2 => by have := hi (i + 1) (by simpa using h1) (by simpa using h2); simpa using this)
    simp only [List.getElem_cons_zero] at h0
    have h1 := (vn_len t.B.length).2
    have h2 := (vn_len t.n).2
    have h3 : (tb t).length ≤ 10 + t.B.length := by
      unfold tb
      split
      · rw [List.length_append]; omega
      · omega
    simp only [eb, List.flatMap_cons, List.length_append, Rows.uptoBulkAll] at ih ⊢
    omega
/-- things that are handed in -/
theorem openT {v : Value} {d : DataW H} {p : List MemPlace} (h : DataW.Trod enc Try.prog w base sp held 35 v d p) (hv : ∃ a0 len cap, v = .slice a0 len cap) :
    ∃ (P : Option Addr) (ts : List Tg) (c : Nat), v = .slice P ts.length c ∧ Tl w P ts ∧ ts.length ≤ Rows.uptoBulk d ∧ (eb ts).length ≤ 10 * Rows.uptoBulk d ∧ (∀ k (h : k < ts.length), ts[k].n < 2 ^ 64 ∧ ts[k].B.length ≤ Rows.uptoBulk d) := by
  obtain ⟨a0, len, cap, rfl⟩ := hv
  obtain ⟨fuel, hf⟩ := h
  rcases DataW.trod_slice undT hf with ⟨hcs, hx⟩ | ⟨a, len', cap', elems, rest, n, _, hcs, hx, _, hl, hm, hlen, hel, _, _⟩
  · simp [Value.cells] at hcs
    obtain ⟨rfl, rfl, rfl⟩ := hcs
    exact ⟨none, [], 0, rfl, ⟨fun h => absurd h (by simp), fun k hk => absurd hk (by simp)⟩, by simp, by simp [eb], fun k hk => absurd hk (by simp)⟩
  · simp [Value.cells] at hcs
    obtain ⟨rfl, rfl, rfl⟩ := hcs
    simp only [Prod.mk.injEq] at hx
    obtain ⟨b, off, spot⟩ := a
    have key : ∀ k, ∃ t : Tg, k < len → (∀ j u, [Value.bool t.tx, .int .u64 (t.n : Int), .slice t.P t.B.length t.c][j]? = some u → w.cell? (((⟨b, off, spot⟩ : Addr).add (k * 3)).add j) = some u) ∧ By w t.P t.c t.B ∧ t.n < 2 ^ 64 ∧ t.B.length + 1 ≤ Rows.uptoBulk ((elems.map (·.1)).getD k .nil) := by
      intro k
      by_cases hk : k < len
      · have h1 := hel k hk
        obtain ⟨y, hy⟩ : ∃ y, elems[k]? = some y := ⟨elems[k]'(by omega), by simp [hlen, hk]⟩
        rw [hy, Option.bind_eq_some_iff, celW] at h1
        obtain ⟨cs, hc, ht⟩ := h1
        obtain ⟨t, rfl, hby, hn, hbu⟩ := openWt ht
        refine ⟨t, fun _ => ⟨fun j u hu => ?_, hby, hn, ?_⟩⟩
        · have hj : j < 3 := by
            have := (List.getElem?_eq_some_iff.1 hu).1
            simpa using this
          rw [(World.cells?_some hc).2.2 j hj]
          exact hu
        · simpa [hy] using hbu
      · exact ⟨⟨false, 0, [], none, 0⟩, fun h => absurd h hk⟩
    obtain ⟨f, hg⟩ := Classical.axiomOfChoice key
    have e0 : ((List.range len).map f).length = len := by simp
    have e1 : ∀ i (h : i < ((List.range len).map f).length), ((List.range len).map f)[i] = f i := fun i h => by simp
    have hbulk : Rows.uptoBulkAll (elems.map (·.1)) ≤ Rows.uptoBulk d := by rw [hx.1]; simp only [Rows.uptoBulk]; omega
    have hll : len ≤ Rows.uptoBulkAll (elems.map (·.1)) := by
      have := length_leU (elems.map (·.1))
      rw [List.length_map, hlen] at this
      exact this
    refine ⟨_, (List.range len).map f, cap, by rw [e0], ⟨fun h0 => ?_, fun i hi => ?_⟩, by rw [e0]; omega, ?_, fun i hi => ?_⟩
    · rw [e0] at h0
      have hs : spot = none := by simpa [Addr.add] using World.cell?_spot ((hg 0 h0).1 0 _ rfl)
      subst hs
      refine ⟨b, off, rfl, fun k hk => ?_⟩
      rw [e1 k hk]
      rw [e0] at hk
      have hc : ∀ j u, [Value.bool (f k).tx, .int .u64 ((f k).n : Int), .slice (f k).P (f k).B.length (f k).c][j]? = some u → w.cell? ⟨b, off + k * 3 + j, none⟩ = some u := fun j u hu => by
        have := (hg k hk).1 j u hu
        rw [Addr.add_lit, Addr.add_lit] at this
        exact this
      exact ⟨hc 0 _ rfl, hc 1 _ rfl, hc 2 _ rfl⟩
    · rw [e1 i hi]
      rw [e0] at hi
      exact (hg i hi).2.1
    · have := eb_bulk ((List.range len).map f) (elems.map (·.1)) (by simp [hlen]) (fun i h1 h2 => by
        rw [e1 i h1]
        rw [e0] at h1
        have h3 := (hg i h1).2.2.2
        rw [List.getD_eq_getElem?_getD, List.getElem?_eq_getElem h2] at h3
        exact h3)
      omega
    · rw [e1 i hi]
      rw [e0] at hi
      have h3 := (hg i hi).2.2
      refine ⟨h3.1, ?_⟩
      have h4 : i < (elems.map (·.1)).length := by simp [hlen]; exact hi
      have h5 := h3.2
      rw [List.getD_eq_getElem?_getD, List.getElem?_eq_getElem h4] at h5
      have h6 := bulk_mem (List.getElem_mem h4)
      simp only [Option.getD_some] at h5
      omega
end
end Go.Proofs.Ytfkigebbcbfkiaa
