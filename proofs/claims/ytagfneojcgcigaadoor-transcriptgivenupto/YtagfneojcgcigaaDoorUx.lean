import Derived.Test.YtagfneojcgcigaaDoorTw
import Derived.Test.YtagfneojcgcigaaDoorUm
namespace Go.Proofs.YtagfneojcgcigaaDoor.Tr
open Go.ChangeShapes Go.WideShapes Go.ChangeAt Go.RowKit
section
variable {H : Type} {enc : TypeId × Value → H} {w : World} {base : Nat} {sp : Nat → Bool} {held : Bool}
theorem openPs {fuel : Nat} {cs : List Value} {x : DataW H × List MemPlace} (h : DataW.trod enc Tryd.prog w base sp held fuel 30 cs = some x) :
    ∃ (P : Option Addr) (ps : List (List UInt8)) (cap : Nat) (q : Nat → Option Addr) (c : Nat → Nat), cs = [.slice P ps.length cap] ∧ Pt w P ps q c ∧ (ps.map fun p => 8 + p.length).sum ≤ 8 * Rows.uptoBulk x.1 := by
  rcases DataW.trod_slice undP h with ⟨hcs, hx⟩ | ⟨a, len, cap, elems, rest, n, _, hcs, hx, _, hl, hm, hlen, hel, _, _⟩
  · exact ⟨none, [], 0, fun _ => none, fun _ => 0, hcs, ⟨fun h => absurd h (by simp), fun i hi => absurd hi (by simp)⟩, by simp⟩
  · obtain ⟨b, off, spot⟩ := a
    have key : ∀ k, ∃ z : Option Addr × List UInt8 × Nat, k < len → w.cell? ((⟨b, off, spot⟩ : Addr).add k) = some (.slice z.1 z.2.1.length z.2.2) ∧ By w z.1 z.2.2 z.2.1 ∧ z.2.1.length + 1 ≤ Rows.uptoBulk ((elems.map (·.1)).getD k .nil) := by
      intro k
      by_cases hk : k < len
      · have h1 := hel k hk
        obtain ⟨y, hy⟩ : ∃ y, elems[k]? = some y := ⟨elems[k]'(by omega), by simp [hlen, hk]⟩
        rw [hy, Option.bind_eq_some_iff, celY, Nat.mul_one] at h1
        obtain ⟨cs, hc, ht⟩ := h1
        obtain ⟨P, bs, c, rfl, hby, hbu⟩ := openBy ht
        refine ⟨(P, bs, c), fun _ => ⟨cell_of_cells?_one hc, hby, ?_⟩⟩
        simpa [hy] using hbu
      · exact ⟨(none, [], 0), fun h => absurd h hk⟩
    obtain ⟨g, hg⟩ := Classical.axiomOfChoice key
    have e0 : ((List.range len).map fun k => (g k).2.1).length = len := by simp
    have e1 : ∀ i, i < len → ((List.range len).map fun k => (g k).2.1).getD i [] = (g i).2.1 := fun i hi => by simp [List.getElem?_range hi]
    refine ⟨_, (List.range len).map fun k => (g k).2.1, cap, fun k => (g k).1, fun k => (g k).2.2, by rw [e0]; exact hcs, ⟨fun h0 => ?_, fun i hi => ?_⟩, ?_⟩
    · rw [e0] at h0 ⊢
      have hs : spot = none := by simpa [Addr.add] using World.cell?_spot (hg 0 h0).1
      subst hs
      refine ⟨b, off, rfl, fun i hi => ?_⟩
      have := (hg i hi).1
      rw [Addr.add_lit] at this
      rw [e1 i hi]
      exact this
    · rw [e0] at hi
      rw [e1 i hi]
      exact (hg i hi).2.1
    · have := bulk_sum ((List.range len).map fun k => (g k).2.1) (elems.map (·.1)) (by simp [hlen]) (fun i hi => by
        rw [e0] at hi
        rw [e1 i hi]
        exact (hg i hi).2.2)
      subst hx
      show _ ≤ 8 * Rows.uptoBulk (.slice (elems.map (·.1)) (rest.map (·.1)))
      simp only [Rows.uptoBulk]
      omega
theorem undO : ∃ f0 f1 f2 f3 : Field, Tryd.prog.underlying 32 = some (.struct #[f0, f1, f2, f3]) ∧ (f0.type = 3 ∧ f0.offset = 0) ∧ (f1.type = 3 ∧ f1.offset = 1) ∧ (f2.type = 9 ∧ f2.offset = 2) ∧ (f3.type = 30 ∧ f3.offset = 3) := ⟨_, _, _, _, Tryd.underlying32, ⟨rfl, rfl⟩, ⟨rfl, rfl⟩, ⟨rfl, rfl⟩, rfl, rfl⟩
theorem undi : Tryd.prog.underlying 3 = some (.int .i64) := by kernel_rfl
theorem celi : Tryd.prog.cellsOf 3 = 1 := by kernel_rfl
theorem cels : Tryd.prog.cellsOf 9 = 1 := by kernel_rfl
theorem celP : Tryd.prog.cellsOf 30 = 1 := by kernel_rfl
theorem celO : Tryd.prog.cellsOf 32 = 4 := by kernel_rfl
theorem undOs : Tryd.prog.underlying 23 = some (.slice 32) := by kernel_rfl
theorem part_leU {H : Type} {d : DataW H} {l : List (DataW H)} (h : d ∈ l) : Rows.uptoBulk d ≤ Rows.uptoBulkAll l := by
  induction l with
  | nil => cases h
  | cons x r ih =>
    simp only [Rows.uptoBulkAll]
    cases List.mem_cons.1 h with
    | inl e => subst e; omega
    | inr e => have := ih e; omega
/-- a call of a script, read -/
theorem openOp {fuel : Nat} {cs : List Value} {x : DataW H × List MemPlace} (h : DataW.trod enc Tryd.prog w base sp held fuel 32 cs = some x) :
    ∃ o : Oq, cs = [.int .i64 o.k, .int .i64 o.a, .string (sb o.l), .slice o.m.P o.ps.length o.m.c] ∧ Pt w o.m.P o.ps o.m.q o.m.cc ∧ (o.ps.map fun p => 8 + p.length).sum ≤ 8 * Rows.uptoBulk x.1 := by
  obtain ⟨f0, f1, f2, f3, hu, ⟨t0, o0⟩, ⟨t1, o1⟩, ⟨t2, o2⟩, ⟨t3, o3⟩⟩ := undO
  obtain ⟨xs, m, _, hx, hl, hxl, hf⟩ := DataW.trod_struct hu h
  have h0 := hf 0 f0 rfl
  have h1 := hf 1 f1 rfl
  have h2 := hf 2 f2 rfl
  have h3 := hf 3 f3 rfl
  rw [t0, o0, celi] at h0
  rw [t1, o1, celi] at h1
  rw [t2, o2, cels] at h2
  rw [t3, o3, celP] at h3
  have hxl' : xs.length = 4 := hxl
  rw [celO] at hl
  obtain ⟨y0, e0⟩ : ∃ y, xs[0]? = some y := ⟨xs[0]'(by omega), by simp [hxl']⟩
  obtain ⟨y1, e1⟩ : ∃ y, xs[1]? = some y := ⟨xs[1]'(by omega), by simp [hxl']⟩
  obtain ⟨y2, e2⟩ : ∃ y, xs[2]? = some y := ⟨xs[2]'(by omega), by simp [hxl']⟩
  obtain ⟨y3, e3⟩ : ∃ y, xs[3]? = some y := ⟨xs[3]'(by omega), by simp [hxl']⟩
  rw [e0] at h0
  rw [e1] at h1
  rw [e2] at h2
  rw [e3] at h3
  obtain ⟨k, hk, -, -⟩ := DataW.trod_int undi h0
  obtain ⟨a, ha, -, -⟩ := DataW.trod_int undi h1
  obtain ⟨s, hs, -, -⟩ := DataW.trod_string unds h2
  obtain ⟨P, ps, cap, q, c, hp, hpt, hb⟩ := openPs h3
  obtain ⟨l, rfl⟩ := sb_of s
  refine ⟨⟨k, a, l, ps, ⟨P, cap, q, c⟩⟩, ?_, hpt, ?_⟩
  · match cs, hl, hk, ha, hs, hp with
    | [z0, z1, z2, z3], _, hk, ha, hs, hp =>
      simp at hk ha hs hp
      rw [hk, ha, hs, hp]
  · have hm : y3.1 ∈ xs.map (·.1) := List.mem_map.2 ⟨y3, List.mem_of_getElem? e3, rfl⟩
    have := part_leU hm
    subst hx
    show _ ≤ 8 * Rows.uptoBulk (.agg (xs.map (·.1)))
    simp only [Rows.uptoBulk]
    omega
theorem openSc {v : Value} {d : DataW H} {p : List MemPlace} (h : DataW.Trod enc Tryd.prog w base sp held 23 v d p) (hv : ∃ a0 len cap, v = .slice a0 len cap) (hd : Rows.uptoBulk d ≤ 1048576) :
    ∃ (P : Option Addr) (n cap : Nat) (f : Nat → Oq), v = .slice P n cap ∧ n ≤ 1048576 ∧ Sc w P n f := by
  obtain ⟨a0, len, cap, rfl⟩ := hv
  obtain ⟨fuel, hf⟩ := h
  rcases DataW.trod_slice undOs hf with ⟨hcs, hx⟩ | ⟨a, len', cap', elems, rest, n, _, hcs, hx, _, hl, hm, hlen, hel, _, _⟩
  · simp [Value.cells] at hcs
    obtain ⟨rfl, rfl, rfl⟩ := hcs
    exact ⟨none, 0, 0, fun _ => oD, rfl, by omega, ⟨fun h => absurd h (by omega), fun t ht => absurd ht (by omega), fun t ht => absurd ht (by omega)⟩⟩
  · simp [Value.cells] at hcs
    obtain ⟨rfl, rfl, rfl⟩ := hcs
    simp only [Prod.mk.injEq] at hx
    obtain ⟨b, off, spot⟩ := a
    have hle := slice_leU (elems.map (·.1)) (rest.map (·.1))
    rw [← hx.1, List.length_map, List.length_map] at hle
    have hall : ∀ y ∈ elems, Rows.uptoBulk y.1 ≤ 1048576 := fun y hy => by
      have h1 := part_leU (List.mem_map.2 ⟨y, hy, rfl⟩ : y.1 ∈ elems.map (·.1))
      rw [hx.1] at hd
      simp only [Rows.uptoBulk] at hd
      omega
    have key : ∀ k, ∃ o : Oq, k < len → (∀ j u, [Value.int .i64 o.k, .int .i64 o.a, .string (sb o.l), .slice o.m.P o.ps.length o.m.c][j]? = some u → w.cell? (((⟨b, off, spot⟩ : Addr).add (k * 4)).add j) = some u) ∧ Pt w o.m.P o.ps o.m.q o.m.cc ∧ frl [] o.ps ≤ 2 ^ 40 := by
      intro k
      by_cases hk : k < len
      · have h1 := hel k hk
        obtain ⟨y, hy⟩ : ∃ y, elems[k]? = some y := ⟨elems[k]'(by omega), by simp [hlen, hk]⟩
        rw [hy, Option.bind_eq_some_iff, celO] at h1
        obtain ⟨cs, hc, ht⟩ := h1
        obtain ⟨o, rfl, hpt, hb⟩ := openOp ht
        refine ⟨o, fun _ => ⟨fun j u hu => ?_, hpt, ?_⟩⟩
        · have hj : j < 4 := by
            have := (List.getElem?_eq_some_iff.1 hu).1
            simpa using this
          rw [(World.cells?_some hc).2.2 j hj]
          exact hu
        · have := hall y (List.mem_of_getElem? hy)
          unfold frl
          simp only [List.length_nil]
          omega
      · exact ⟨oD, fun h => absurd h hk⟩
    obtain ⟨f, hg⟩ := Classical.axiomOfChoice key
    refine ⟨_, len, cap, f, rfl, by omega, ⟨fun h0 => ?_, fun t ht => (hg t ht).2.1, fun t ht => (hg t ht).2.2⟩⟩
    have hs : spot = none := by simpa [Addr.add] using World.cell?_spot ((hg 0 h0).1 0 _ rfl)
    subst hs
    have hc : ∀ k j u, k < len → [Value.int .i64 (f k).k, .int .i64 (f k).a, .string (sb (f k).l), .slice (f k).m.P (f k).ps.length (f k).m.c][j]? = some u → w.cell? ⟨b, off + k * 4 + j, none⟩ = some u := fun k j u hk hu => by
      have := (hg k hk).1 j u hu
      rw [Addr.add_lit, Addr.add_lit] at this
      exact this
    exact ⟨b, off, rfl, fun k hk => hc k 0 _ hk rfl, fun k hk => hc k 1 _ hk rfl, fun k hk => hc k 2 _ hk rfl, fun k hk => hc k 3 _ hk rfl⟩
end
end Go.Proofs.YtagfneojcgcigaaDoor.Tr
