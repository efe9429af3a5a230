import Derived.Test.YtapieajkmpnmoaaGreatDoorSrl
import Derived.Deep.RegionHeld3
import Derived.Deep.DeepCutAuto
import Derived.Deep.DeepMust
import Derived.Deep.MidRow
import Derived.Deep.OwnRows
import Derived.Laws.OwnMore
import Derived.Laws.AppendOwn
import Derived.Laws.AppendOwnNone
import Derived.Maps.AppendAt
import Derived.OwnWalk
import Derived.Laws.Tables
namespace Go.Proofs.YtapieajkmpnmoaaGreatDoor
open Go.RowKit
theorem drew_blW (w : World) : Below w.heap.size w w.drew := ⟨rfl, rfl, rfl, Nat.le_refl _, fun _ _ => rfl⟩
theorem addr_add (g j : Nat) : (⟨g, 0, none⟩ : Addr).add j = ⟨g, j, none⟩ := by unfold Addr.add; split <;> simp_all
theorem below_grown {w w' : World} {row : Option Nat} {base : Nat} (hg : w.grownBy w' row) (hb : base ≤ w.heap.size) (hr : ∀ k, row = some k → base ≤ k) : Below base w w' :=
  ⟨hg.os, hg.tape, hg.output, hg.size, fun k hk => hg.block k (by omega) (fun e => by have := hr k e.symm; omega)⟩
theorem below_trans {n : Nat} {w1 w2 w3 : World} (h1 : Below n w1 w2) (h2 : Below n w2 w3) : Below n w1 w3 := ⟨h2.os.trans h1.os, h2.tape.trans h1.tape, h2.output.trans h1.output, Nat.le_trans h1.size h2.size, fun k hk => (h2.block k hk).trans (h1.block k hk)⟩
/-- limbs that lie from an address on -/
structure Rl (w : World) (b o n : Nat) (g : Nat → E4) : Prop where
  c0 : ∀ k, k < n → w.cell? ⟨b, o + k * 4, none⟩ = some (.int .u64 (g k).x0)
  c1 : ∀ k, k < n → w.cell? ⟨b, o + k * 4 + 1, none⟩ = some (.int .u64 (g k).x1)
  c2 : ∀ k, k < n → w.cell? ⟨b, o + k * 4 + 2, none⟩ = some (.int .u64 (g k).x2)
  c3 : ∀ k, k < n → w.cell? ⟨b, o + k * 4 + 3, none⟩ = some (.int .u64 (g k).x3)
theorem Rl.keep {w1 w2 : World} {b o n : Nat} {g : Nat → E4} (h : Rl w1 b o n g) (hb : Below w1.heap.size w1 w2) : Rl w2 b o n g :=
  ⟨fun k hk => cell_keep (h.c0 k hk) hb, fun k hk => cell_keep (h.c1 k hk) hb, fun k hk => cell_keep (h.c2 k hk) hb, fun k hk => cell_keep (h.c3 k hk) hb⟩
theorem Rl.less {w : World} {b o n m : Nat} {g : Nat → E4} (h : Rl w b o n g) (hm : m ≤ n) : Rl w b o m g :=
  ⟨fun k hk => h.c0 k (by omega), fun k hk => h.c1 k (by omega), fun k hk => h.c2 k (by omega), fun k hk => h.c3 k (by omega)⟩
/-- a list of limbs -/
def Lm (w : World) (P : Option Addr) (n : Nat) (g : Nat → E4) : Prop := ∃ sb so : Nat, (0 < n → P = some ⟨sb, so, none⟩) ∧ (0 < n → Rl w sb so n g)
theorem Lm.keep {w1 w2 : World} {P : Option Addr} {n : Nat} {g : Nat → E4} (h : Lm w1 P n g) (hb : Below w1.heap.size w1 w2) : Lm w2 P n g := by
  obtain ⟨sb, so, h1, h2⟩ := h
  exact ⟨sb, so, h1, fun hl => (h2 hl).keep hb⟩
theorem Lm.less {w : World} {P : Option Addr} {n m : Nat} {g : Nat → E4} (h : Lm w P n g) (hm : m ≤ n) : Lm w P m g := by
  obtain ⟨sb, so, h1, h2⟩ := h
  exact ⟨sb, so, fun hl => h1 (by omega), fun hl => (h2 (by omega)).less hm⟩
/-- the cells of scalars -/
def svs (n : Nat) (g : Nat → E4) : List Value := (List.range n).flatMap fun k => [.int .u64 (g k).x0, .int .u64 (g k).x1, .int .u64 (g k).x2, .int .u64 (g k).x3]
theorem svs_succ (n : Nat) (g : Nat → E4) : svs (n + 1) g = svs n g ++ [.int .u64 (g n).x0, .int .u64 (g n).x1, .int .u64 (g n).x2, .int .u64 (g n).x3] := by simp [svs, List.range_succ]
theorem svs_len (n : Nat) (g : Nat → E4) : (svs n g).length = n * 4 := by
  induction n with
  | zero => rfl
  | succ n ih => rw [svs_succ, List.length_append, ih]; simp; omega
theorem svs_congr {n : Nat} {f g : Nat → E4} (h : ∀ k, k < n → f k = g k) : svs n f = svs n g := by
  induction n with
  | zero => rfl
  | succ n ih => rw [svs_succ, svs_succ, ih (fun k hk => h k (by omega)), h n (by omega)]
theorem rl_cells {w : World} {b o m : Nat} {g : Nat → E4} (h : Rl w b o m g) (n : Nat) (hn : n ≤ m) : ∀ j u, (svs n g)[j]? = some u → w.cell? ⟨b, o + j, none⟩ = some u := by
  induction n with
  | zero => intro j u hu; simp [svs] at hu
  | succ n ih =>
    intro j u hu
    rw [svs_succ] at hu
    by_cases hj : j < n * 4
    · rw [List.getElem?_append_left (by rw [svs_len]; exact hj)] at hu
      exact ih (by omega) j u hu
    · rw [List.getElem?_append_right (by rw [svs_len]; omega), svs_len] at hu
      obtain ⟨d, hd⟩ : ∃ d, j = n * 4 + d := ⟨j - n * 4, by omega⟩
      subst hd
      rw [show n * 4 + d - n * 4 = d by omega] at hu
      match d, hu with
      | 0, hu => simp at hu; rw [← hu]; exact h.c0 n (by omega)
      | 1, hu => simp at hu; rw [← hu]; exact h.c1 n (by omega)
      | 2, hu => simp at hu; rw [← hu]; exact h.c2 n (by omega)
      | 3, hu => simp at hu; rw [← hu]; exact h.c3 n (by omega)
theorem svs_one (g : Nat → E4) (n : Nat) : ∀ u ∈ svs n g, u.oneCell' = true := by
  induction n with
  | zero => intro u hu; simp [svs] at hu
  | succ n ih =>
    intro u hu
    rw [svs_succ] at hu
    rcases List.mem_append.1 hu with h | h
    · exact ih u h
    · simp only [List.mem_cons, List.not_mem_nil, or_false] at h
      rcases h with rfl | rfl | rfl | rfl <;> rfl

/-- a row that is one's own, as limbs -/
theorem own_rl {w : World} {base gg n cap : Nat} {e : TypeId} {g : Nat → E4} (h : w.ownsRow base e 4 (.slice (some ⟨gg, 0, none⟩) n cap) n (svs n g)) : Rl w gg 0 n g := by
  have hc : ∀ k, k < n * 4 → w.cell? ⟨gg, k, none⟩ = (svs n g)[k]? := fun k hk => h.cellAt k hk
  have hs : ∀ k d, k < n → d < 4 → (svs n g)[k * 4 + d]? = some ([Value.int .u64 (g k).x0, .int .u64 (g k).x1, .int .u64 (g k).x2, .int .u64 (g k).x3].getD d undef) := by
    intro k d hk hd
    clear hc h
    induction n with
    | zero => omega
    | succ n ih =>
      rw [svs_succ]
      by_cases hkn : k < n
      · rw [List.getElem?_append_left (by rw [svs_len]; omega)]
        exact ih hkn
      · have : k = n := by omega
        subst this
        rw [List.getElem?_append_right (by rw [svs_len]; omega), svs_len, show k * 4 + d - k * 4 = d by omega]
        obtain rfl | rfl | rfl | rfl : d = 0 ∨ d = 1 ∨ d = 2 ∨ d = 3 := by omega
        all_goals rfl
  refine ⟨fun k hk => ?_, fun k hk => ?_, fun k hk => ?_, fun k hk => ?_⟩ <;> rw [Nat.zero_add]
  · rw [hc _ (by omega)]; exact hs k 0 hk (by omega)
  · rw [hc _ (by omega)]; exact hs k 1 hk (by omega)
  · rw [hc _ (by omega)]; exact hs k 2 hk (by omega)
  · rw [hc _ (by omega)]; exact hs k 3 hk (by omega)
theorem own_keepZ {w1 w2 : World} {base : Nat} {e : TypeId} {v : Value} {n : Nat} {xs : List Value} (h : w1.ownsRow base e 4 v n xs) (hb : Below w1.heap.size w1 w2) : w2.ownsRow base e 4 v n xs :=
  h.kept (row := none) ⟨hb.os, hb.tape, hb.output, hb.size, fun k hk _ => hb.block k hk⟩ (by cases v.ownBlock <;> simp)
theorem below_less {m n : Nat} {w1 w2 : World} (h : Below n w1 w2) (hm : m ≤ n) : Below m w1 w2 := ⟨h.os, h.tape, h.output, h.size, fun k hk => h.block k (by omega)⟩
theorem sinfoG : (Tryz.prog.info? 25).map (fun i => (i.zero, i.size, i.bytes)) = some (some (.agg #[.int .u64 0, .int .u64 0, .int .u64 0, .int .u64 0]), 4, 32) := by kernel_rfl
theorem finfoG : (Tryz.prog.info? 32).map (fun i => (i.zero, i.size, i.bytes)) = some (some (.agg #[.slice none 0 0]), 1, 24) := by kernel_rfl
/-- the cells of the document's element of a list -/
def fe (L : Value) : List Value := [.int .i64 3, .int .i64 0, .int .i64 0, .int .i64 0, .int .i64 0, .int .i64 0, .int .i64 0, .int .i64 0, .int .i64 0, .int .i64 0, .int .i64 0, .int .i64 0, .int .i64 0, .int .i64 0, .int .i64 0, .int .i64 0, .int .i64 0, .int .i64 0, .int .i64 0, .int .i64 0, .int .i64 0, .int .u64 0, .int .u64 0, .int .u64 0, .int .u64 0, L]
/-- the cells of no element -/
def ze : List Value := [.int .i64 0, .int .i64 0, .int .i64 0, .int .i64 0, .int .i64 0, .int .i64 0, .int .i64 0, .int .i64 0, .int .i64 0, .int .i64 0, .int .i64 0, .int .i64 0, .int .i64 0, .int .i64 0, .int .i64 0, .int .i64 0, .int .i64 0, .int .i64 0, .int .i64 0, .int .i64 0, .int .i64 0, .int .u64 0, .int .u64 0, .int .u64 0, .int .u64 0, .slice none 0 0]
theorem fe_len (L : Value) : (fe L).length = 26 := rfl
theorem ze_len : ze.length = 26 := rfl
theorem fe_25 (L : Value) : (fe L)[25]? = some L := rfl
theorem fe_one (P : Option Addr) (n c : Nat) : (fe (.slice P n c)).toArray.all (·.oneCell') = true := by simp [fe, Value.oneCell']
theorem wpList_buildC {P : Program} {ops : Array Oper} {rest : List Oper} {o : Oper} {a : Act} {w : World} {Q : Exit → Act → World → Prop} (hg : o.guard = none) (t : TypeId) (parts : Array (Nat × Operand)) (ho : o.op = .build t parts) (c : Array Value)
    (hb : P.built t (parts.map fun (i, x) => (i, a.eval x)).toList = some c) (h : wpList P ops Q rest (a.put o.dst (.agg c)) w) : wpList P ops Q (o :: rest) a w :=
  wpList_build hg t parts ho (by rw [hb]; rfl) (by rw [hb]; exact h)
theorem results_cellM {fn : Func} {p : Tmp} {ty : TypeId} (h : fn.results = #[.cell p ty]) (tmps : Array Value) (P : Program) (w : World) (a : Addr) (v : Value) (ha : tmps.getD p undef = .pointer (some a)) (hl : (loadVar ty a).run P w = .ok v w) :
    (results fn tmps).run P w = .ok v w := by
  have e : (results fn tmps).run P w = ((asAddr (tmps.getD p undef)).run P w).andThen fun a w1 => (loadVar ty a).run P w1 := by
    simp only [results, h]
    simp [Sem.run_bind, Result.andThen]
  rw [e, ha]
  simp [asAddr, hl, Result.andThen]
theorem below_setCellsM {w0 : World} (b : Nat) : ∀ (vs : List Value) (o : Nat) {w : World}, Below w0.heap.size w0 w → w0.heap.size ≤ b → Below w0.heap.size w0 (w.setCells b o vs)
  | [], _, _, h, _ => h
  | v :: vs, o, w, h, hb => by
    rw [World.setCells]
    exact below_setCellsM b vs (o + 1) (h.setCell hb v) hb
theorem size_setCellsM (b : Nat) : ∀ (vs : List Value) (o : Nat) (w : World), (w.setCells b o vs).heap.size = w.heap.size
  | [], _, _ => rfl
  | v :: vs, o, w => by rw [World.setCells, size_setCellsM b vs (o + 1)]; simp
theorem range_keepM {w w' : World} {b : Nat} {cs : List Value} (h : w.rangeAt b 0 cs) (hb : Below w.heap.size w w') : w'.rangeAt b 0 cs := fun j v hv => by
  have := h j v hv
  rw [hb.cell (p := ⟨b, 0 + j, none⟩) (World.block_lt_of_cell? w ⟨b, 0 + j, none⟩ this)]
  exact this
theorem there_keepM {w w' : World} {b n : Nat} (h : w.there b 0 n) (hb : Below w.heap.size w w') : w'.there b 0 n := fun j hj => by
  obtain ⟨h1, h2⟩ := h j hj
  obtain ⟨u, hu⟩ := Option.isSome_iff_exists.1 h1
  have hl := World.block_lt_of_cell? w _ hu
  exact ⟨by rw [hb.cell (p := ⟨b, 0 + j, none⟩) hl]; exact h1, by rw [hb.frozen (p := ⟨b, 0 + j, none⟩) hl]; exact h2⟩
theorem there_setM {w : World} {b n : Nat} (h : w.there b 0 n) (c : Nat) (vs : List Value) : (w.setCells c 0 vs).there b 0 n := fun j hj =>
  ⟨World.isSome_setCells c vs 0 w _ (h j hj).1, by rw [World.frozen?_setCells]; exact (h j hj).2⟩
theorem range_newM (w : World) (cs : List Value) (t : TypeId) : (w.alloc (.cells cs.toArray t)).rangeAt w.heap.size 0 cs := fun j v hv => by
  rw [cell_of_row _ _ (0 + j) cs.toArray t (0, 0) (heap_alloc_new w _), Nat.zero_add]
  simpa using hv
theorem there_newM (w : World) (cs : List Value) (t : TypeId) : (w.alloc (.cells cs.toArray t)).there w.heap.size 0 cs.length := fun j hj => by
  refine ⟨?_, by go_simp⟩
  rw [cell_of_row _ _ (0 + j) cs.toArray t (0, 0) (heap_alloc_new w _), Nat.zero_add]
  simp [hj]
/-- what lies where: blocks that were made since w0, with their cells -/
structure Mw (w0 : World) (L : List (Nat × List Value)) (w : World) : Prop where
  bel : Below w0.heap.size w0 w
  r : ∀ p ∈ L, w.rangeAt p.1 0 p.2 ∧ w.there p.1 0 p.2.length ∧ w0.heap.size ≤ p.1 ∧ p.1 < w.heap.size
theorem Mw.start (w : World) : Mw w [] w := ⟨Below.refl _ _, fun p hp => by cases hp⟩
theorem Mw.keep {w0 : World} {L : List (Nat × List Value)} {w w' : World} (h : Mw w0 L w) (hb : Below w.heap.size w w') : Mw w0 L w' :=
  ⟨bl_trans h.bel hb, fun p hp => ⟨range_keepM (h.r p hp).1 hb, there_keepM (h.r p hp).2.1 hb, (h.r p hp).2.2.1, Nat.lt_of_lt_of_le (h.r p hp).2.2.2 hb.size⟩⟩
theorem Mw.sub {w0 : World} {L M : List (Nat × List Value)} {w : World} (h : Mw w0 L w) (hs : ∀ p ∈ M, p ∈ L) : Mw w0 M w := ⟨h.bel, fun p hp => h.r p (hs p hp)⟩
theorem Mw.new {w0 : World} {L : List (Nat × List Value)} {w : World} (h : Mw w0 L w) (cs : List Value) (t : TypeId) : Mw w0 ((w.heap.size, cs) :: L) (w.alloc (.cells cs.toArray t)) := by
  have k := h.keep (bl_alloc w (.cells cs.toArray t))
  refine ⟨k.bel, fun p hp => ?_⟩
  rcases List.mem_cons.1 hp with rfl | hp
  · exact ⟨range_newM w cs t, there_newM w cs t, h.bel.size, by simp⟩
  · exact k.r p hp
theorem Mw.set {w0 : World} {L M : List (Nat × List Value)} {w : World} (h : Mw w0 L w) {c : Nat} {o : List Value} (ds : List Value) (hc : (c, o) ∈ L) (hl : ds.length = o.length) (hs : ∀ p ∈ M, p ∈ L ∧ c ≠ p.1) :
    Mw w0 ((c, ds) :: M) (w.setCells c 0 ds) := by
  obtain ⟨h1, ht, hg, hlt⟩ := h.r _ hc
  simp only at hg ht hlt
  refine ⟨below_setCellsM c ds 0 h.bel hg, fun p hp => ?_⟩
  rcases List.mem_cons.1 hp with rfl | hp
  · exact ⟨World.rangeAt_setCells_same w c 0 ds (by rw [hl]; exact ht), there_setM (by simp only [hl]; exact ht) _ _, hg, by rw [size_setCellsM]; exact hlt⟩
  · obtain ⟨h3, h2⟩ := hs p hp
    exact ⟨World.rangeAt_setCells_apart (h.r p h3).1 _ _ _ (Or.inl (fun e => h2 e.symm)), there_setM (h.r p h3).2.1 _ _, (h.r p h3).2.2.1, by rw [size_setCellsM]; exact (h.r p h3).2.2.2⟩
theorem Mw.ther {w0 : World} {L : List (Nat × List Value)} {w : World} (h : Mw w0 L w) {c : Nat} {o : List Value} (ds : List Value) (hc : (c, o) ∈ L) (hl : ds.length = o.length) : w.there c 0 ds.toArray.size := by
  have := (h.r _ hc).2.1
  simpa [hl] using this
theorem Mw.var {w0 : World} {L : List (Nat × List Value)} {w : World} (h : Mw w0 L w) {c : Nat} {ds : List Value} (hc : (c, ds) ∈ L) {ty : TypeId} {d : TypeDesc} (hu : Tryz.prog.underlying ty = some d) (hd : d.isRow = true) (hi : (Tryz.prog.info? ty).map (·.size) = some ds.length) :
    (loadVar ty ⟨c, 0, none⟩).run Tryz.prog w = .ok (.agg ds.toArray) w := run_loadVar_mid w c 0 ty ds d (h.r _ hc).1 hu hd hi


end Go.Proofs.YtapieajkmpnmoaaGreatDoor
