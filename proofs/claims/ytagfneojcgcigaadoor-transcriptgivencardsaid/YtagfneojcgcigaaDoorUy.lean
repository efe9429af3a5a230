import Derived.Test.YtagfneojcgcigaaDoorTw
import Derived.Test.YtagfneojcgcigaaDoorUm
import Derived.SizedLaws
namespace Go.Proofs.YtagfneojcgcigaaDoor.Tr
open Go.ChangeShapes Go.WideShapes Go.ChangeAt Go.RowKit
/-- nothing in it is greater than a machine may hold -/
def Sz {H : Type} (P : Program) (t : TypeId) (d : DataW H) : Prop := ∀ n ∈ d.weights P t, n ≤ reachBytes
theorem mem_all {H : Type} {P : Program} {e : TypeId} : ∀ {l : List (DataW H)} {y : DataW H}, y ∈ l → ∀ n ∈ y.weights P e, n ∈ DataW.weightsAll P e l
  | x :: r, y, h, n, hn => by
    simp only [DataW.weightsAll, List.mem_append]
    rcases List.mem_cons.1 h with rfl | h
    · exact Or.inl hn
    · exact Or.inr (mem_all h n hn)
theorem Sz.len {H : Type} {P : Program} {t e : TypeId} {es sp : List (DataW H)} (h : Sz P t (.slice es sp)) (hu : P.underlying t = some (.slice e)) : (es.length + sp.length) * P.bytesOf e ≤ reachBytes := h _ (by simp [DataW.weights, hu])
theorem Sz.elem {H : Type} {P : Program} {t e : TypeId} {es sp : List (DataW H)} (h : Sz P t (.slice es sp)) (hu : P.underlying t = some (.slice e)) {y : DataW H} (hy : y ∈ es) : Sz P e y := fun n hn => h n (by
  simp only [DataW.weights, hu, List.mem_cons, List.mem_append]
  exact Or.inr (Or.inl (mem_all hy n hn)))
theorem Sz.field {H : Type} {P : Program} {t ft : TypeId} {fs : Array Field} {ps : List (DataW H)} {d : DataW H} {i : Nat} (h : Sz P t (.agg ps)) (hu : P.underlying t = some (.struct fs)) (hf : (fs.toList.map (·.type))[i]? = some ft) (hd : ps[i]? = some d) : Sz P ft d := fun n hn => h n (by
  simp only [DataW.weights, hu]
  exact DataW.weights_mem_each hf hd n hn)
theorem Sz.top {H : Type} {P : Program} {ts : List TypeId} {ds : List (DataW H)} (h : (DataW.weightsEach P ts ds).all (· ≤ reachBytes) = true) {j : Nat} {t : TypeId} {d : DataW H} (ht : ts[j]? = some t) (hd : ds[j]? = some d) : Sz P t d := fun n hn => by
  have := List.all_eq_true.1 h _ (DataW.weights_mem_each ht hd n hn)
  simpa using this
section
variable {H : Type} {enc : TypeId × Value → H} {w : World} {base : Nat} {sp : Nat → Bool} {held : Bool}
theorem bytb : Tryd.prog.bytesOf 5 = 1 := by kernel_rfl
theorem bytY : Tryd.prog.bytesOf 55 = 24 := by kernel_rfl
theorem bytO : Tryd.prog.bytesOf 32 = 56 := by kernel_rfl
theorem openByW {fuel : Nat} {cs : List Value} {x : DataW H × List MemPlace} (h : DataW.trod enc Tryd.prog w base sp held fuel 55 cs = some x) (hz : Sz Tryd.prog 55 x.1) :
    ∃ (P : Option Addr) (bs : List UInt8) (c : Nat), cs = [.slice P bs.length c] ∧ By w P c bs ∧ bs.length ≤ 140737488351232 := by
  obtain ⟨P, bs, c, hcs, hby, _⟩ := openBy h
  refine ⟨P, bs, c, hcs, hby, ?_⟩
  rcases open_ints undY undb celb h with ⟨hc2, hx⟩ | ⟨a, len, cap, zs, hc2, _, hl, hm, hzl, hx, _, _⟩
  · have e := hcs.symm.trans hc2
    simp only [List.cons.injEq, Value.slice.injEq, and_true] at e
    omega
  · have e := hcs.symm.trans hc2
    simp only [List.cons.injEq, Value.slice.injEq, and_true] at e
    subst hx
    have h1 := Sz.len hz undY
    rw [bytb] at h1
    have h2 : (lits (H := H) .u8 (zs.take len)).length + (lits (H := H) .u8 (zs.drop len)).length = zs.length := by simp [lits]; omega
    have hlz : len ≤ zs.length := by rw [hzl]; split <;> omega
    rw [h2] at h1
    unfold reachBytes at h1
    omega
theorem openPsW {fuel : Nat} {cs : List Value} {x : DataW H × List MemPlace} (h : DataW.trod enc Tryd.prog w base sp held fuel 30 cs = some x) (hz : Sz Tryd.prog 30 x.1) :
    ∃ (P : Option Addr) (ps : List (List UInt8)) (cap : Nat) (q : Nat → Option Addr) (c : Nat → Nat), cs = [.slice P ps.length cap] ∧ Pt w P ps q c ∧ Bd ps := by
  rcases DataW.trod_slice undP h with ⟨hcs, hx⟩ | ⟨a, len, cap, elems, rest, n, _, hcs, hx, _, hl, hm, hlen, hel, _, _⟩
  · exact ⟨none, [], 0, fun _ => none, fun _ => 0, hcs, ⟨fun h => absurd h (by simp), fun i hi => absurd hi (by simp)⟩, by simp, fun r hr => absurd hr (by simp)⟩
  · obtain ⟨b, off, spot⟩ := a
    subst hx
    have key : ∀ k, ∃ z : Option Addr × List UInt8 × Nat, k < len → w.cell? ((⟨b, off, spot⟩ : Addr).add k) = some (.slice z.1 z.2.1.length z.2.2) ∧ By w z.1 z.2.2 z.2.1 ∧ z.2.1.length ≤ 140737488351232 := by
      intro k
      by_cases hk : k < len
      · have h1 := hel k hk
        obtain ⟨y, hy⟩ : ∃ y, elems[k]? = some y := ⟨elems[k]'(by omega), by simp [hlen, hk]⟩
        rw [hy, Option.bind_eq_some_iff, celY, Nat.mul_one] at h1
        obtain ⟨cs, hc, ht⟩ := h1
        obtain ⟨P, bs, c, rfl, hby, hbu⟩ := openByW ht (Sz.elem hz undP (List.mem_map.2 ⟨y, List.mem_of_getElem? hy, rfl⟩))
        exact ⟨(P, bs, c), fun _ => ⟨cell_of_cells?_one hc, hby, hbu⟩⟩
      · exact ⟨(none, [], 0), fun h => absurd h hk⟩
    obtain ⟨g, hg⟩ := Classical.axiomOfChoice key
    have e0 : ((List.range len).map fun k => (g k).2.1).length = len := by simp
    have e1 : ∀ i, i < len → ((List.range len).map fun k => (g k).2.1).getD i [] = (g i).2.1 := fun i hi => by simp [List.getElem?_range hi]
    refine ⟨_, (List.range len).map fun k => (g k).2.1, cap, fun k => (g k).1, fun k => (g k).2.2, by rw [e0]; exact hcs, ⟨fun h0 => ?_, fun i hi => ?_⟩, ?_⟩
    · rw [e0] at h0 ⊢
      have hs : spot = none := by simpa [Addr.add] using World.cell?_spot (hg 0 h0).1
      subst hs
      refine ⟨b, off, rfl, fun i hi => ?_⟩
      have := (hg i hi).1
      rw [Addr.add_lit] at this
      rw [e1 i hi]
      exact this
    · rw [e0] at hi
      rw [e1 i hi]
      exact (hg i hi).2.1
    · have h1 := Sz.len hz undP
      rw [bytY, List.length_map, List.length_map, hlen] at h1
      unfold reachBytes at h1
      refine ⟨by rw [e0]; omega, fun r hr => ?_⟩
      rw [e0] at hr
      rw [e1 r hr]
      exact (hg r hr).2.2
theorem undO : ∃ f0 f1 f2 f3 : Field, Tryd.prog.underlying 32 = some (.struct #[f0, f1, f2, f3]) ∧ (f0.type = 3 ∧ f0.offset = 0) ∧ (f1.type = 3 ∧ f1.offset = 1) ∧ (f2.type = 9 ∧ f2.offset = 2) ∧ (f3.type = 30 ∧ f3.offset = 3) := ⟨_, _, _, _, Tryd.underlying32, ⟨rfl, rfl⟩, ⟨rfl, rfl⟩, ⟨rfl, rfl⟩, rfl, rfl⟩
theorem undi : Tryd.prog.underlying 3 = some (.int .i64) := by kernel_rfl
theorem celi : Tryd.prog.cellsOf 3 = 1 := by kernel_rfl
theorem cels : Tryd.prog.cellsOf 9 = 1 := by kernel_rfl
theorem celP : Tryd.prog.cellsOf 30 = 1 := by kernel_rfl
theorem celO : Tryd.prog.cellsOf 32 = 4 := by kernel_rfl
theorem undOs : Tryd.prog.underlying 23 = some (.slice 32) := by kernel_rfl
/-- a call of a script, read -/
theorem openOpW {fuel : Nat} {cs : List Value} {x : DataW H × List MemPlace} (h : DataW.trod enc Tryd.prog w base sp held fuel 32 cs = some x) (hz : Sz Tryd.prog 32 x.1) :
    ∃ o : Oq, cs = [.int .i64 o.k, .int .i64 o.a, .string (sb o.l), .slice o.m.P o.ps.length o.m.c] ∧ Pt w o.m.P o.ps o.m.q o.m.cc ∧ Bd o.ps := by
  obtain ⟨f0, f1, f2, f3, hu, ⟨t0, o0⟩, ⟨t1, o1⟩, ⟨t2, o2⟩, ⟨t3, o3⟩⟩ := undO
  obtain ⟨xs, m, _, hx, hl, hxl, hf⟩ := DataW.trod_struct hu h
  subst hx
  have h0 := hf 0 f0 rfl
  have h1 := hf 1 f1 rfl
  have h2 := hf 2 f2 rfl
  have h3 := hf 3 f3 rfl
  rw [t0, o0, celi] at h0
  rw [t1, o1, celi] at h1
  rw [t2, o2, cels] at h2
  rw [t3, o3, celP] at h3
  have hxl' : xs.length = 4 := hxl
  rw [celO] at hl
  obtain ⟨y0, e0⟩ : ∃ y, xs[0]? = some y := ⟨xs[0]'(by omega), by simp [hxl']⟩
  obtain ⟨y1, e1⟩ : ∃ y, xs[1]? = some y := ⟨xs[1]'(by omega), by simp [hxl']⟩
  obtain ⟨y2, e2⟩ : ∃ y, xs[2]? = some y := ⟨xs[2]'(by omega), by simp [hxl']⟩
  obtain ⟨y3, e3⟩ : ∃ y, xs[3]? = some y := ⟨xs[3]'(by omega), by simp [hxl']⟩
  rw [e0] at h0
  rw [e1] at h1
  rw [e2] at h2
  rw [e3] at h3
  obtain ⟨k, hk, -, -⟩ := DataW.trod_int undi h0
  obtain ⟨a, ha, -, -⟩ := DataW.trod_int undi h1
  obtain ⟨s, hs, -, -⟩ := DataW.trod_string unds h2
  have hz3 : Sz Tryd.prog 30 y3.1 := Sz.field (i := 3) hz hu (by simp [t3]) (by simp [e3])
  obtain ⟨P, ps, cap, q, c, hp, hpt, hb⟩ := openPsW h3 hz3
  obtain ⟨l, rfl⟩ := sb_of s
  refine ⟨⟨k, a, l, ps, ⟨P, cap, q, c⟩⟩, ?_, hpt, hb⟩
  · match cs, hl, hk, ha, hs, hp with
    | [z0, z1, z2, z3], _, hk, ha, hs, hp =>
      simp at hk ha hs hp
      rw [hk, ha, hs, hp]
theorem openScW {v : Value} {d : DataW H} {p : List MemPlace} (h : DataW.Trod enc Tryd.prog w base sp held 23 v d p) (hv : ∃ a0 len cap, v = .slice a0 len cap) (hz : Sz Tryd.prog 23 d) :
    ∃ (P : Option Addr) (n cap : Nat) (f : Nat → Oq), v = .slice P n cap ∧ n ≤ 2513169434879 ∧ Sc w P n f := by
  obtain ⟨a0, len, cap, rfl⟩ := hv
  obtain ⟨fuel, hf⟩ := h
  rcases DataW.trod_slice undOs hf with ⟨hcs, hx⟩ | ⟨a, len', cap', elems, rest, n, _, hcs, hx, _, hl, hm, hlen, hel, _, _⟩
  · simp [Value.cells] at hcs
    obtain ⟨rfl, rfl, rfl⟩ := hcs
    exact ⟨none, 0, 0, fun _ => oD, rfl, by omega, ⟨fun h => absurd h (by omega), fun t ht => absurd ht (by omega), fun t ht => absurd ht (by omega)⟩⟩
  · simp [Value.cells] at hcs
    obtain ⟨rfl, rfl, rfl⟩ := hcs
    simp only [Prod.mk.injEq] at hx
    obtain ⟨b, off, spot⟩ := a
    rw [hx.1] at hz
    have hle := Sz.len hz undOs
    rw [bytO, List.length_map, List.length_map, hlen] at hle
    unfold reachBytes at hle
    have key : ∀ k, ∃ o : Oq, k < len → (∀ j u, [Value.int .i64 o.k, .int .i64 o.a, .string (sb o.l), .slice o.m.P o.ps.length o.m.c][j]? = some u → w.cell? (((⟨b, off, spot⟩ : Addr).add (k * 4)).add j) = some u) ∧ Pt w o.m.P o.ps o.m.q o.m.cc ∧ Bd o.ps := by
      intro k
      by_cases hk : k < len
      · have h1 := hel k hk
        obtain ⟨y, hy⟩ : ∃ y, elems[k]? = some y := ⟨elems[k]'(by omega), by simp [hlen, hk]⟩
        rw [hy, Option.bind_eq_some_iff, celO] at h1
        obtain ⟨cs, hc, ht⟩ := h1
        obtain ⟨o, rfl, hpt, hb⟩ := openOpW ht (Sz.elem hz undOs (List.mem_map.2 ⟨y, List.mem_of_getElem? hy, rfl⟩))
        refine ⟨o, fun _ => ⟨fun j u hu => ?_, hpt, hb⟩⟩
        · have hj : j < 4 := by
            have := (List.getElem?_eq_some_iff.1 hu).1
            simpa using this
          rw [(World.cells?_some hc).2.2 j hj]
          exact hu
      · exact ⟨oD, fun h => absurd h hk⟩
    obtain ⟨f, hg⟩ := Classical.axiomOfChoice key
    refine ⟨_, len, cap, f, rfl, by omega, ⟨fun h0 => ?_, fun t ht => (hg t ht).2.1, fun t ht => (hg t ht).2.2⟩⟩
    have hs : spot = none := by simpa [Addr.add] using World.cell?_spot ((hg 0 h0).1 0 _ rfl)
    subst hs
    have hc : ∀ k j u, k < len → [Value.int .i64 (f k).k, .int .i64 (f k).a, .string (sb (f k).l), .slice (f k).m.P (f k).ps.length (f k).m.c][j]? = some u → w.cell? ⟨b, off + k * 4 + j, none⟩ = some u := fun k j u hk hu => by
      have := (hg k hk).1 j u hu
      rw [Addr.add_lit, Addr.add_lit] at this
      exact this
    exact ⟨b, off, rfl, fun k hk => hc k 0 _ hk rfl, fun k hk => hc k 1 _ hk rfl, fun k hk => hc k 2 _ hk rfl, fun k hk => hc k 3 _ hk rfl⟩
end
end Go.Proofs.YtagfneojcgcigaaDoor.Tr
