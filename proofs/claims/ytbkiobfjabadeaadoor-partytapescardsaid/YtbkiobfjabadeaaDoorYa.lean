import Derived.Test.YtbkiobfjabadeaaDoorSar
import Derived.Test.YtbkiobfjabadeaaDoorSra
import Derived.Test.YtbkiobfjabadeaaDoorVa
import Derived.Test.YtbkiobfjabadeaaDoorSkd
import Derived.Deep.MidRow
import Derived.Deep.RegionHeld3
import Derived.Laws.AppendOwnNone
import Derived.Lib.SliceRun
import Derived.OwnWalkIn
import Derived.OneCell
namespace Go.Proofs.YtbkiobfjabadeaaDoor
open Go.RowKit
set_option linter.unusedVariables false
theorem results_cellM {fn : Func} {p : Tmp} {ty : TypeId} (h : fn.results = #[.cell p ty]) (tmps : Array Value) (P : Program) (w : World) (a : Addr) (v : Value) (ha : tmps.getD p undef = .pointer (some a)) (hl : (loadVar ty a).run P w = .ok v w) :
    (results fn tmps).run P w = .ok v w := by
  have e : (results fn tmps).run P w = ((asAddr (tmps.getD p undef)).run P w).andThen fun a w1 => (loadVar ty a).run P w1 := by
    simp only [results, h]
    simp [Sem.run_bind, Result.andThen]
  rw [e, ha]
  simp [asAddr, hl, Result.andThen]
theorem results_tupM {fn : Func} {p q : Tmp} {ty : TypeId} (h : fn.results = #[.cell p ty, .tmp q]) (tmps : Array Value) (P : Program) (w : World) (a : Addr) (v x : Value) (ha : tmps.getD p undef = .pointer (some a)) (hx : tmps.getD q undef = x) (hl : (loadVar ty a).run P w = .ok v w) :
    (results fn tmps).run P w = .ok (.tuple #[v, x]) w := by
  have ha' : tmps[p]?.getD undef = .pointer (some a) := by simpa using ha
  have hx' : tmps[q]?.getD undef = x := by simpa using hx
  simp only [results, h]
  simp [Result.andThen, ha', hx', asAddr, hl]
theorem below_setCellsM {w0 : World} (b : Nat) : ∀ (vs : List Value) (o : Nat) {w : World}, Below w0.heap.size w0 w → w0.heap.size ≤ b → Below w0.heap.size w0 (w.setCells b o vs)
  | [], _, _, h, _ => h
  | v :: vs, o, w, h, hb => by
    rw [World.setCells]
    exact below_setCellsM b vs (o + 1) (h.setCell hb v) hb
theorem size_setCellsM (b : Nat) : ∀ (vs : List Value) (o : Nat) (w : World), (w.setCells b o vs).heap.size = w.heap.size
  | [], _, _ => rfl
  | v :: vs, o, w => by rw [World.setCells, size_setCellsM b vs (o + 1)]; simp
theorem range_keepM {w w' : World} {b : Nat} {cs : List Value} (h : w.rangeAt b 0 cs) (hb : Below w.heap.size w w') : w'.rangeAt b 0 cs := fun j v hv => by
  have := h j v hv
  rw [hb.cell (p := ⟨b, 0 + j, none⟩) (World.block_lt_of_cell? w ⟨b, 0 + j, none⟩ this)]
  exact this
theorem there_keepM {w w' : World} {b n : Nat} (h : w.there b 0 n) (hb : Below w.heap.size w w') : w'.there b 0 n := fun j hj => by
  obtain ⟨h1, h2⟩ := h j hj
  obtain ⟨u, hu⟩ := Option.isSome_iff_exists.1 h1
  have hl := World.block_lt_of_cell? w _ hu
  exact ⟨by rw [hb.cell (p := ⟨b, 0 + j, none⟩) hl]; exact h1, by rw [hb.frozen (p := ⟨b, 0 + j, none⟩) hl]; exact h2⟩
theorem there_setM {w : World} {b n : Nat} (h : w.there b 0 n) (c : Nat) (vs : List Value) : (w.setCells c 0 vs).there b 0 n := fun j hj =>
  ⟨World.isSome_setCells c vs 0 w _ (h j hj).1, by rw [World.frozen?_setCells]; exact (h j hj).2⟩
theorem range_newM (w : World) (cs : List Value) (t : TypeId) : (w.alloc (.cells cs.toArray t)).rangeAt w.heap.size 0 cs := fun j v hv => by
  rw [cell_of_row _ _ (0 + j) cs.toArray t (0, 0) (heap_alloc_new w _), Nat.zero_add]
  simpa using hv
theorem there_newM (w : World) (cs : List Value) (t : TypeId) : (w.alloc (.cells cs.toArray t)).there w.heap.size 0 cs.length := fun j hj => by
  refine ⟨?_, by go_simp⟩
  rw [cell_of_row _ _ (0 + j) cs.toArray t (0, 0) (heap_alloc_new w _), Nat.zero_add]
  simp [hj]
/-- what lies where: blocks that were made since w0, with their cells -/
structure Mw (w0 : World) (L : List (Nat × List Value)) (w : World) : Prop where
  bel : Below w0.heap.size w0 w
  r : ∀ p ∈ L, w.rangeAt p.1 0 p.2 ∧ w.there p.1 0 p.2.length ∧ w0.heap.size ≤ p.1 ∧ p.1 < w.heap.size
theorem Mw.start (w : World) : Mw w [] w := ⟨Below.refl _ _, fun p hp => by cases hp⟩
theorem Mw.keep {w0 : World} {L : List (Nat × List Value)} {w w' : World} (h : Mw w0 L w) (hb : Below w.heap.size w w') : Mw w0 L w' :=
  ⟨bl_trans h.bel hb, fun p hp => ⟨range_keepM (h.r p hp).1 hb, there_keepM (h.r p hp).2.1 hb, (h.r p hp).2.2.1, Nat.lt_of_lt_of_le (h.r p hp).2.2.2 hb.size⟩⟩
theorem Mw.sub {w0 : World} {L M : List (Nat × List Value)} {w : World} (h : Mw w0 L w) (hs : ∀ p ∈ M, p ∈ L) : Mw w0 M w := ⟨h.bel, fun p hp => h.r p (hs p hp)⟩
theorem Mw.new {w0 : World} {L : List (Nat × List Value)} {w : World} (h : Mw w0 L w) (cs : List Value) (t : TypeId) : Mw w0 ((w.heap.size, cs) :: L) (w.alloc (.cells cs.toArray t)) := by
  have k := h.keep (bl_alloc w (.cells cs.toArray t))
  refine ⟨k.bel, fun p hp => ?_⟩
  rcases List.mem_cons.1 hp with rfl | hp
  · exact ⟨range_newM w cs t, there_newM w cs t, h.bel.size, by simp⟩
  · exact k.r p hp
theorem Mw.set {w0 : World} {L M : List (Nat × List Value)} {w : World} (h : Mw w0 L w) {c : Nat} {o : List Value} (ds : List Value) (hc : (c, o) ∈ L) (hl : ds.length = o.length) (hs : ∀ p ∈ M, p ∈ L ∧ c ≠ p.1) :
    Mw w0 ((c, ds) :: M) (w.setCells c 0 ds) := by
  obtain ⟨h1, ht, hg, hlt⟩ := h.r _ hc
  simp only at hg ht hlt
  refine ⟨below_setCellsM c ds 0 h.bel hg, fun p hp => ?_⟩
  rcases List.mem_cons.1 hp with rfl | hp
  · exact ⟨World.rangeAt_setCells_same w c 0 ds (by rw [hl]; exact ht), there_setM (by simp only [hl]; exact ht) _ _, hg, by rw [size_setCellsM]; exact hlt⟩
  · obtain ⟨h3, h2⟩ := hs p hp
    exact ⟨World.rangeAt_setCells_apart (h.r p h3).1 _ _ _ (Or.inl (fun e => h2 e.symm)), there_setM (h.r p h3).2.1 _ _, (h.r p h3).2.2.1, by rw [size_setCellsM]; exact (h.r p h3).2.2.2⟩
theorem Mw.ther {w0 : World} {L : List (Nat × List Value)} {w : World} (h : Mw w0 L w) {c : Nat} {o : List Value} (ds : List Value) (hc : (c, o) ∈ L) (hl : ds.length = o.length) : w.there c 0 ds.toArray.size := by
  have := (h.r _ hc).2.1
  simpa [hl] using this
theorem Mw.var {w0 : World} {L : List (Nat × List Value)} {w : World} (h : Mw w0 L w) {c : Nat} {ds : List Value} (hc : (c, ds) ∈ L) {ty : TypeId} {d : TypeDesc} (hu : Tryd.prog.underlying ty = some d) (hd : d.isRow = true) (hi : (Tryd.prog.info? ty).map (·.size) = some ds.length) :
    (loadVar ty ⟨c, 0, none⟩).run Tryd.prog w = .ok (.agg ds.toArray) w := run_loadVar_mid w c 0 ty ds d (h.r _ hc).1 hu hd hi
theorem ready_store {P : Program} {ops : Array Oper} {o : Oper} {a : Act} {w : World} {K : Act → World → Prop} {Q : Exit → Act → World → Prop} {E : Prop} (hg : o.guard = none) (ty : TypeId) (x y : Operand) (ho : o.op = .store ty x y) (hd : o.dst = none)
    (b off : Nat) (cs : List Value) (hx : a.eval x = .pointer (some ⟨b, off, none⟩)) (hy : a.eval y = .agg cs.toArray) (ht : w.there b off cs.toArray.size) (hi : (P.info? ty).map (·.size) = some cs.toArray.size) (h1 : cs.toArray.all (·.oneCell') = true)
    (h : K a (w.setCells b off cs)) : if Region.wanted o (yielded ops a.tmps) = true then Oper.wp P o a w K Q else E := by
  have hw : Region.wanted o (yielded ops a.tmps) = true := by simp [Region.wanted, hg]
  rw [if_pos hw]
  refine wp_store_mid ty x y ho b off cs.toArray hx hy ht hi h1 ?_
  rw [hd, List.toList_toArray]
  exact h
theorem wpList_storeL {P : Program} {ops : Array Oper} {rest : List Oper} {o : Oper} {a : Act} {w : World} {Q : Exit → Act → World → Prop} (hg : o.guard = none) (ty : TypeId) (x y : Operand) (ho : o.op = .store ty x y) (hd : o.dst = none)
    (b off : Nat) (cs : List Value) (hx : a.eval x = .pointer (some ⟨b, off, none⟩)) (hy : a.eval y = .agg cs.toArray) (ht : w.there b off cs.toArray.size) (hi : (P.info? ty).map (·.size) = some cs.toArray.size) (h1 : cs.toArray.all (·.oneCell') = true)
    (h : wpList P ops Q rest a (w.setCells b off cs)) : wpList P ops Q (o :: rest) a w := by
  refine wpList_store_mid hg ty x y ho b off cs.toArray hx hy ht hi h1 ?_
  rw [hd, List.toList_toArray]
  exact h
set_option linter.unusedVariables false
theorem gb_setCells (b : Nat) : ∀ (vs : List Value) (o : Nat) (w : World), w.grownBy (w.setCells b o vs) (some b)
  | [], _, w => World.grownBy.refl _ _
  | v :: vs, o, w => by
    rw [World.setCells]
    have h1 : w.grownBy (w.setCell ⟨b, o, none⟩ v) (some b) := ⟨rfl, rfl, rfl, by simp, fun k _ hk => heap_setCell_other w ⟨b, o, none⟩ k v (fun e => hk (by simp [e]))⟩
    exact h1.trans (gb_setCells b vs (o + 1) _)
/-- a tape's cells -/
def tc (a r s t : E4) (L R : Value) : List Value := [.int .u64 a.x0, .int .u64 a.x1, .int .u64 a.x2, .int .u64 a.x3, .int .u64 r.x0, .int .u64 r.x1, .int .u64 r.x2, .int .u64 r.x3, .int .u64 s.x0, .int .u64 s.x1, .int .u64 s.x2, .int .u64 s.x3, .int .u64 t.x0, .int .u64 t.x1, .int .u64 t.x2, .int .u64 t.x3, L, R]
def tz : List Value := tc zero4 zero4 zero4 zero4 (.slice none 0 0) (.slice none 0 0)
theorem tc_one (a r s t : E4) (P Q : Option Addr) (n c m d : Nat) : (tc a r s t (.slice P n c) (.slice Q m d)).toArray.all (·.oneCell') = true := by simp [tc, Value.oneCell']
theorem ptinfo : (Tryd.prog.info? 31).map (·.size) = some 18 := by kernel_rfl
theorem ptzv (w : World) : (zeroValue 31).run Tryd.prog w = .ok (.agg tz.toArray) w := by kernel_rfl
theorem pt_alloc {o : Oper} {a : Act} {w : World} {K : Act → World → Prop} {Q : Exit → Act → World → Prop} (ho : o.op = .alloc 31) (h : K (a.put o.dst (.pointer (some ⟨w.heap.size, 0, none⟩))) (w.alloc (.cells tz.toArray 31))) : o.wp Tryd.prog a w K Q := by
  have hz := ptzv w
  generalize tz = z at hz h
  unfold Oper.wp execOp
  simp [ho, Instr.alloc, hz]
  exact h
theorem wpList_ptalloc {ops : Array Oper} {rest : List Oper} {o : Oper} {a : Act} {w : World} {Q : Exit → Act → World → Prop} (hg : o.guard = none) (ho : o.op = .alloc 31) (h : wpList Tryd.prog ops Q rest (a.put o.dst (.pointer (some ⟨w.heap.size, 0, none⟩))) (w.alloc (.cells tz.toArray 31))) : wpList Tryd.prog ops Q (o :: rest) a w :=
  wpList_plain hg fun K hK => pt_alloc ho (hK _ _ h)
theorem wpList_ptbuild {ops : Array Oper} {rest : List Oper} {o : Oper} {a : Act} {w : World} {Q : Exit → Act → World → Prop} (hg : o.guard = none) (ho : o.op = .build 31 #[]) (h : wpList Tryd.prog ops Q rest (a.put o.dst (.agg tz.toArray)) w) : wpList Tryd.prog ops Q (o :: rest) a w := by
  have e : Tryd.prog.built 31 ((#[] : Array (Nat × Operand)).map fun (i, x) => (i, a.eval x)).toList = some tz.toArray := by kernel_rfl
  exact wpList_build hg 31 #[] ho (by rw [e]; rfl) (by rw [e]; exact h)
theorem rtinfo : (Tryd.prog.info? 36).map (·.size) = some 18 := by kernel_rfl
theorem rtzv (w : World) : (zeroValue 36).run Tryd.prog w = .ok (.agg tz.toArray) w := by kernel_rfl
theorem rt_alloc {o : Oper} {a : Act} {w : World} {K : Act → World → Prop} {Q : Exit → Act → World → Prop} (ho : o.op = .alloc 36) (h : K (a.put o.dst (.pointer (some ⟨w.heap.size, 0, none⟩))) (w.alloc (.cells tz.toArray 36))) : o.wp Tryd.prog a w K Q := by
  have hz := rtzv w
  generalize tz = z at hz h
  unfold Oper.wp execOp
  simp [ho, Instr.alloc, hz]
  exact h
theorem wpList_rtalloc {ops : Array Oper} {rest : List Oper} {o : Oper} {a : Act} {w : World} {Q : Exit → Act → World → Prop} (hg : o.guard = none) (ho : o.op = .alloc 36) (h : wpList Tryd.prog ops Q rest (a.put o.dst (.pointer (some ⟨w.heap.size, 0, none⟩))) (w.alloc (.cells tz.toArray 36))) : wpList Tryd.prog ops Q (o :: rest) a w :=
  wpList_plain hg fun K hK => rt_alloc ho (hK _ _ h)
theorem wpList_rtbuild {ops : Array Oper} {rest : List Oper} {o : Oper} {a : Act} {w : World} {Q : Exit → Act → World → Prop} (hg : o.guard = none) (ho : o.op = .build 36 #[]) (h : wpList Tryd.prog ops Q rest (a.put o.dst (.agg tz.toArray)) w) : wpList Tryd.prog ops Q (o :: rest) a w := by
  have e : Tryd.prog.built 36 ((#[] : Array (Nat × Operand)).map fun (i, x) => (i, a.eval x)).toList = some tz.toArray := by kernel_rfl
  exact wpList_build hg 36 #[] ho (by rw [e]; rfl) (by rw [e]; exact h)

set_option linter.unusedVariables false
theorem svs_one (g : Nat → E4) (n : Nat) : ∀ u ∈ svs n g, u.oneCell' = true := by
  induction n with
  | zero => intro u hu; simp [svs] at hu
  | succ n ih =>
    intro u hu
    rw [svs_succ] at hu
    rcases List.mem_append.1 hu with h | h
    · exact ih u h
    · simp only [List.mem_cons, List.not_mem_nil, or_false] at h
      rcases h with rfl | rfl | rfl | rfl <;> rfl
theorem own_shape4 {w : World} {base n s : Nat} {e : TypeId} {v : Value} {xs : List Value} (h : w.ownsRow base e s v n xs) : ∃ (P : Option Addr) (c : Nat), v = .slice P n c ∧ n ≤ c := by
  rcases h.2 with ⟨rfl, rfl⟩ | ⟨g, cap, cur, rfl, _, _, hn, _⟩
  · exact ⟨none, 0, rfl, Nat.le_refl _⟩
  · exact ⟨_, _, rfl, hn⟩
theorem own_some4 {w : World} {base n s : Nat} {e : TypeId} {v : Value} {xs : List Value} (h : w.ownsRow base e s v n xs) (hn : 0 < n) : ∃ g c : Nat, v = .slice (some ⟨g, 0, none⟩) n c ∧ n ≤ c := by
  rcases h.2 with ⟨_, h0⟩ | ⟨g, cap, cur, rfl, _, _, hnc, _⟩
  · omega
  · exact ⟨g, cap, rfl, hnc⟩
theorem svs_at (n m o : Nat) (g : Nat → E4) (w : World) (b : Nat) (h : Rws w b m g) (hn : o + n ≤ m) : ∀ j u, (svs n (fun k => g (o + k)))[j]? = some u → w.cell? ⟨b, o * 4 + j, none⟩ = some u := by
  induction n with
  | zero => intro j u hu; simp [svs] at hu
  | succ n ih =>
    intro j u hu
    rw [svs_succ] at hu
    by_cases hj : j < n * 4
    · rw [List.getElem?_append_left (by rw [svs_len]; exact hj)] at hu
      exact ih (by omega) j u hu
    · rw [List.getElem?_append_right (by rw [svs_len]; omega), svs_len] at hu
      obtain ⟨d, hd⟩ : ∃ d, j = n * 4 + d := ⟨j - n * 4, by omega⟩
      subst hd
      rw [show n * 4 + d - n * 4 = d by omega] at hu
      match d, hu with
      | 0, hu => simp at hu; rw [← hu, show o * 4 + (n * 4 + 0) = (o + n) * 4 by omega]; exact h.c0 (o + n) (by omega)
      | 1, hu => simp at hu; rw [← hu, show o * 4 + (n * 4 + 1) = (o + n) * 4 + 1 by omega]; exact h.c1 (o + n) (by omega)
      | 2, hu => simp at hu; rw [← hu, show o * 4 + (n * 4 + 2) = (o + n) * 4 + 2 by omega]; exact h.c2 (o + n) (by omega)
      | 3, hu => simp at hu; rw [← hu, show o * 4 + (n * 4 + 3) = (o + n) * 4 + 3 by omega]; exact h.c3 (o + n) (by omega)
theorem cell_keepA {w w' : World} {a : Addr} {v : Value} (h : w.cell? a = some v) (hb : Below w.heap.size w w') : w'.cell? a = some v := (hb.cell (p := a) (World.block_lt_of_cell? w a h)).trans h
theorem info27 : (Tryd.prog.info? 28).map (fun i => (i.zero, i.size, i.bytes)) = some (some (.agg #[.int .u64 0, .int .u64 0, .int .u64 0, .int .u64 0]), 4, 32) := by kernel_rfl
set_option linter.unusedVariables false
theorem eq4r (a b : E4) (w : World) : (Op.equalIn 10000 33 a.v b.v).run Tryd.prog w = .ok (a.same b) w := by
  have hi : Tryd.prog.info? 26 = some (Tryd.prog.info? 26).get! := by kernel_rfl
  have hc : Tryd.prog.cellsOf 26 = 1 := by kernel_rfl
  unfold E4.v
  rw [run_equalIn_array w 9999 _ _ (by kernel_rfl : Tryd.prog.underlying 33 = some (.array 4 26)) hi, hc]
  rw [eqItems_ints w (k := .u64) 9998 (by kernel_rfl) (by kernel_rfl) _ _ (fun i => [a.x0, a.x1, a.x2, a.x3].getD i 0) (fun i => [b.x0, b.x1, b.x2, b.x3].getD i 0)]
  · rw [show List.range 4 = [0, 1, 2, 3] from rfl]
    simp only [List.all_cons, List.all_nil, Bool.and_true]
    rfl
  · intro i hi
    have : i < 4 := List.mem_range.1 hi
    match i, this with
    | 0, _ => exact ⟨rfl, rfl⟩
    | 1, _ => exact ⟨rfl, rfl⟩
    | 2, _ => exact ⟨rfl, rfl⟩
    | 3, _ => exact ⟨rfl, rfl⟩
theorem eq4s (q : E4) (w : World) : (Op.equalIn 10000 33 (.agg #[.int .u64 q.x0, .int .u64 q.x1, .int .u64 q.x2, .int .u64 q.x3]) (.agg #[.int .u64 q.x0, .int .u64 q.x1, .int .u64 q.x2, .int .u64 q.x3])).run Tryd.prog w = .ok true w := (eq4r q q w).trans (by rw [E4.same_self])
/-- scalars that lie from an offset on -/
structure Rlo (w : World) (b o n : Nat) (g : Nat → E4) : Prop where
  c0 : ∀ k, k < n → w.cell? ⟨b, o + k * 4, none⟩ = some (.int .u64 (g k).x0)
  c1 : ∀ k, k < n → w.cell? ⟨b, o + k * 4 + 1, none⟩ = some (.int .u64 (g k).x1)
  c2 : ∀ k, k < n → w.cell? ⟨b, o + k * 4 + 2, none⟩ = some (.int .u64 (g k).x2)
  c3 : ∀ k, k < n → w.cell? ⟨b, o + k * 4 + 3, none⟩ = some (.int .u64 (g k).x3)
theorem Rlo.keep {w1 w2 : World} {b o n : Nat} {g : Nat → E4} (h : Rlo w1 b o n g) (hb : Below w1.heap.size w1 w2) : Rlo w2 b o n g :=
  ⟨fun k hk => cell_keep (h.c0 k hk) hb, fun k hk => cell_keep (h.c1 k hk) hb, fun k hk => cell_keep (h.c2 k hk) hb, fun k hk => cell_keep (h.c3 k hk) hb⟩
theorem Rws.part {w : World} {b m : Nat} {g : Nat → E4} (h : Rws w b m g) (o n : Nat) (hn : o + n ≤ m) : Rlo w b (o * 4) n (fun k => g (o + k)) :=
  ⟨fun k hk => by have := h.c0 (o + k) (by omega); rwa [show (o + k) * 4 = o * 4 + k * 4 by omega] at this,
   fun k hk => by have := h.c1 (o + k) (by omega); rwa [show (o + k) * 4 + 1 = o * 4 + k * 4 + 1 by omega] at this,
   fun k hk => by have := h.c2 (o + k) (by omega); rwa [show (o + k) * 4 + 2 = o * 4 + k * 4 + 2 by omega] at this,
   fun k hk => by have := h.c3 (o + k) (by omega); rwa [show (o + k) * 4 + 3 = o * 4 + k * 4 + 3 by omega] at this⟩
theorem own_keepX {w1 w2 : World} {base s : Nat} {e : TypeId} {v : Value} {n : Nat} {xs : List Value} (h : w1.ownsRow base e s v n xs) (hb : Below w1.heap.size w1 w2) : w2.ownsRow base e s v n xs :=
  h.kept (row := none) ⟨hb.os, hb.tape, hb.output, hb.size, fun k hk _ => hb.block k hk⟩ (by cases v.ownBlock <;> simp)
theorem wp_appendI {P : Program} {w : World} {o : Oper} {a : Act} {K : Act → World → Prop} {Q : Exit → Act → World → Prop} (s x : Operand) (t : TypeId)
    (ho : o.op = .call { callee := .builtin .append, args := #[s, x], argTypes := #[t, t] })
    (base : Nat) (e : TypeId) (i : TypeInfo) (z : Value) (size bytes : Nat) (ht : P.underlying t = some (.slice e)) (hi : P.info? e = some i) (hz : i.zero = some z)
    (hsize : i.size = size) (hby : i.bytes = bytes) (hzs : z.cells.size = size) (hsz : 0 < size)
    (v : Value) (n : Nat) (xs : List Value) (hs : a.eval s = v) (hown : w.ownsRow base e size v n xs)
    (ad : Addr) (m c : Nat) (news : List Value) (hx : a.eval x = .slice (some ad) m c) (hl : news.length = m * size) (hnews : ∀ j u, news[j]? = some u → w.cell? (ad.add j) = some u) (h1 : ∀ u ∈ news, u.oneCell' = true)
    (h63 : n + m ≤ maxLen) (hbytes : (n + m) * bytes ≤ 140737488355328) (hbase : base ≤ w.heap.size)
    (h : ∀ v' w', w'.ownsRow base e size v' (n + m) (xs ++ news) → w.grownBy w' v.ownBlock → (v'.ownBlock = v.ownBlock ∨ v'.ownBlock = some w.heap.size) → K (a.put o.dst v') w') : o.wp P a w K Q := by
  obtain ⟨v', w', hr, h2, h3, h4, h5⟩ := run_append_own_at (P := P) w base t o.type e i z size bytes ht hi hz hsize hby hzs hsz v n xs hown ad m c news hl hnews h1 h63 hbytes hbase
  unfold Oper.wp execOp
  simp only [ho, resolve, invoke, builtin, Sem.run_bind, Sem.run_pure, Result.andThen_ok, List.map_toArray, List.map_cons, List.map_nil, hs, hx, hr]
  exact h v' w' h2 h3 h5
theorem info33 : (Tryd.prog.info? 33).map (fun i => (i.zero, i.size, i.bytes)) = some (some (.agg #[.int .u64 0, .int .u64 0, .int .u64 0, .int .u64 0]), 4, 32) := by kernel_rfl
theorem i4_s : (Tryd.prog.info? 28).map (·.size) = some 4 := by kernel_rfl
theorem i4_r : (Tryd.prog.info? 33).map (·.size) = some 4 := by kernel_rfl
theorem one4 (p : E4) : ([.int .u64 p.x0, .int .u64 p.x1, .int .u64 p.x2, .int .u64 p.x3] : List Value).toArray.all (·.oneCell') = true := by simp [Value.oneCell']
/-- a list that is handed in -/
def In (w : World) (V : Value) (n : Nat) (g : Nat → E4) : Prop := ∃ (P : Option Addr) (c : Nat), V = .slice P n c ∧ n ≤ c ∧ (P = none → c = 0) ∧ (0 < n → ∃ b o, P = some ⟨b, o, none⟩ ∧ Rlo w b o n g)
theorem In.keep {w w' : World} {V : Value} {n : Nat} {g : Nat → E4} (h : In w V n g) (hb : Below w.heap.size w w') : In w' V n g := by
  obtain ⟨P, c, h1, h2, h3, h4⟩ := h
  exact ⟨P, c, h1, h2, h3, fun h0 => by obtain ⟨b, o, e, r⟩ := h4 h0; exact ⟨b, o, e, r.keep hb⟩⟩
theorem svs_congr {n : Nat} {g f : Nat → E4} (h : ∀ k, k < n → g k = f k) : svs n g = svs n f := by
  induction n with
  | zero => rfl
  | succ n ih => rw [svs_succ, svs_succ, ih (fun k hk => h k (by omega)), h n (by omega)]
theorem svs_app (n m : Nat) (g : Nat → E4) : svs n g ++ svs m (fun k => g (n + k)) = svs (n + m) g := by
  induction m with
  | zero => simp [svs]
  | succ m ih => rw [svs_succ, ← List.append_assoc, ih, ← Nat.add_assoc, svs_succ]
theorem svs_get (n : Nat) (g : Nat → E4) (k : Nat) (hk : k < n) : (svs n g)[k * 4]? = some (.int .u64 (g k).x0) ∧ (svs n g)[k * 4 + 1]? = some (.int .u64 (g k).x1) ∧ (svs n g)[k * 4 + 2]? = some (.int .u64 (g k).x2) ∧ (svs n g)[k * 4 + 3]? = some (.int .u64 (g k).x3) := by
  induction n with
  | zero => omega
  | succ n ih =>
    rw [svs_succ]
    by_cases h : k < n
    · have hl := svs_len n g
      rw [List.getElem?_append_left (by omega), List.getElem?_append_left (by omega), List.getElem?_append_left (by omega), List.getElem?_append_left (by omega)]
      exact ih h
    · obtain rfl : k = n := by omega
      have hl := svs_len k g
      rw [List.getElem?_append_right (by omega), List.getElem?_append_right (by omega), List.getElem?_append_right (by omega), List.getElem?_append_right (by omega), hl]
      simp
theorem bl_drew (w : World) : Below w.heap.size w w.drew := Below.drew (Below.refl _ _)
theorem gbI {w w' : World} (h : Below w.heap.size w w') (row : Option Nat) : w.grownBy w' row := ⟨h.os, h.tape, h.output, h.size, fun k hk _ => h.block k hk⟩
theorem below_transI {n : Nat} {w1 w2 w3 : World} (h1 : Below n w1 w2) (h2 : Below n w2 w3) : Below n w1 w3 := ⟨h2.os.trans h1.os, h2.tape.trans h1.tape, h2.output.trans h1.output, Nat.le_trans h1.size h2.size, fun k hk => (h2.block k hk).trans (h1.block k hk)⟩
theorem bl_mono {n m : Nat} {w1 w2 : World} (h : Below n w1 w2) (hm : m ≤ n) : Below m w1 w2 := ⟨h.os, h.tape, h.output, h.size, fun k hk => h.block k (Nat.lt_of_lt_of_le hk hm)⟩
/-- Params in a block -/
structure Pb (w : World) (b : Nat) (B C : Int) : Prop where
  c0 : w.cell? ⟨b, 0, none⟩ = some (.int .i64 B)
  c1 : w.cell? ⟨b, 1, none⟩ = some (.int .i64 C)
theorem Pb.keep {w w' : World} {b : Nat} {B C : Int} (h : Pb w b B C) (hb : Below w.heap.size w w') : Pb w' b B C := ⟨cell_keep h.c0 hb, cell_keep h.c1 hb⟩
theorem Pb.new (w : World) (B C : Int) (t : TypeId) : Pb (w.alloc (.cells #[.int .i64 B, .int .i64 C] t)) w.heap.size B C := ⟨by go_simp, by go_simp⟩
theorem grown_trans {w w1 w2 : World} {r : Option Nat} (h1 : w.grownBy w1 r) (h2 : w1.grownBy w2 r) : w.grownBy w2 r :=
  ⟨h2.os.trans h1.os, h2.tape.trans h1.tape, h2.output.trans h1.output, Nat.le_trans h1.size h2.size, fun k hk hr => (h2.block k (Nat.lt_of_lt_of_le hk h1.size) hr).trans (h1.block k hk hr)⟩
/-- a row of one's own, read -/
theorem own_rlo {w : World} {base n : Nat} {e : TypeId} {b c : Nat} {g : Nat → E4} (h : w.ownsRow base e 4 (.slice (some ⟨b, 0, none⟩) n c) n (svs n g)) : Rlo w b 0 n g := by
  refine ⟨fun k hk => ?_, fun k hk => ?_, fun k hk => ?_, fun k hk => ?_⟩ <;> obtain ⟨h0, h1, h2, h3⟩ := svs_get n g k hk <;> rw [Nat.zero_add]
  · exact (h.cellAt (k * 4) (by omega)).trans h0
  · exact (h.cellAt (k * 4 + 1) (by omega)).trans h1
  · exact (h.cellAt (k * 4 + 2) (by omega)).trans h2
  · exact (h.cellAt (k * 4 + 3) (by omega)).trans h3
theorem own_in {w : World} {base n : Nat} {e : TypeId} {v : Value} {g : Nat → E4} (h : w.ownsRow base e 4 v n (svs n g)) : In w v n g := by
  rcases h.2 with ⟨rfl, rfl⟩ | ⟨b, c, cur, rfl, _, _, hn, _⟩
  · exact ⟨none, 0, rfl, Nat.le_refl _, fun _ => rfl, fun h => absurd h (by omega)⟩
  · exact ⟨_, c, rfl, hn, (fun h => (by cases h)), fun _ => ⟨b, 0, rfl, own_rlo h⟩⟩
/-- the front of a row of one's own -/
theorem own_front {w : World} {base s : Nat} {e : TypeId} {b c n m : Nat} {xs ys : List Value} (h : w.ownsRow base e s (.slice (some ⟨b, 0, none⟩) m c) m (xs ++ ys)) (hx : xs.length = n * s) (hn : n ≤ m) : w.ownsRow base e s (.slice (some ⟨b, 0, none⟩) n c) n xs := by
  rcases h.2 with ⟨h', _⟩ | ⟨b', c', cur, h', hb, hg, hnc, hcm, hcs, ht⟩
  · simp at h'
  · simp only [Value.slice.injEq, Option.some.injEq, Addr.mk.injEq, and_true, true_and] at h'
    obtain ⟨rfl, rfl⟩ := h'
    refine ⟨hx, .inr ⟨b, c, cur, rfl, hb, hg, Nat.le_trans hn hnc, hcm, hcs, ?_⟩⟩
    have h1 := congrArg (List.take (n * s)) ht
    rw [List.take_take, Nat.min_eq_left (Nat.mul_le_mul_right s hn), List.take_left' hx] at h1
    exact h1
theorem own_mono {w : World} {base base' s : Nat} {e : TypeId} {v : Value} {n : Nat} {xs : List Value} (h : w.ownsRow base e s v n xs) (hb : base' ≤ base) : w.ownsRow base' e s v n xs := by
  refine ⟨h.1, ?_⟩
  rcases h.2 with h | ⟨g, c, cur, h1, h2, h3⟩
  · exact .inl h
  · exact .inr ⟨g, c, cur, h1, Nat.le_trans hb h2, h3⟩
theorem own_rebase {w : World} {base base' s : Nat} {e : TypeId} {v : Value} {n : Nat} {xs : List Value} (h : w.ownsRow base e s v n xs) (hb : ∀ g, v.ownBlock = some g → base' ≤ g) : w.ownsRow base' e s v n xs := by
  refine ⟨h.1, ?_⟩
  rcases h.2 with h | ⟨g, c, cur, h1, h2, h3⟩
  · exact .inl h
  · subst h1; exact .inr ⟨g, c, cur, rfl, hb g rfl, h3⟩
/-- rows of unlike kinds lie in unlike blocks -/
theorem own_ne {w : World} {b1 b2 s1 s2 : Nat} {e1 e2 : TypeId} {v1 v2 : Value} {n1 n2 : Nat} {xs1 xs2 : List Value} (h1 : w.ownsRow b1 e1 s1 v1 n1 xs1) (h2 : w.ownsRow b2 e2 s2 v2 n2 xs2) (he : e1 ≠ e2) : v1.ownBlock = none ∨ v1.ownBlock ≠ v2.ownBlock := by
  rcases h1.2 with ⟨rfl, -⟩ | ⟨g, c, cur, rfl, _, k1, _⟩
  · exact .inl rfl
  · rcases h2.2 with ⟨rfl, -⟩ | ⟨g', c', cur', rfl, _, k2, _⟩
    · exact .inr (by simp [Value.ownBlock])
    · refine .inr ?_
      simp only [Value.ownBlock, ne_eq, Option.some.injEq]
      rintro rfl
      rw [k1] at k2
      simp only [Option.some.injEq, Obj.cells.injEq] at k2
      exact he k2.2.1
theorem own_setS {w : World} {base n : Nat} {e : TypeId} {b c : Nat} {g : Nat → E4} (h : w.ownsRow base e 4 (.slice (some ⟨b, 0, none⟩) n c) n (svs n g)) (k : Nat) (hk : k < n) (r : E4) :
    (setS w b (k * 4) r).ownsRow base e 4 (.slice (some ⟨b, 0, none⟩) n c) n (svs n (fun j => if j = k then r else g j)) ∧ w.grownBy (setS w b (k * 4) r) (some b) := by
  obtain ⟨o0, g0⟩ := h.stored (k * 4) (.int .u64 r.x0)
  obtain ⟨o1, g1⟩ := o0.stored (k * 4 + 1) (.int .u64 r.x1)
  obtain ⟨o2, g2⟩ := o1.stored (k * 4 + 2) (.int .u64 r.x2)
  obtain ⟨o3, g3⟩ := o2.stored (k * 4 + 3) (.int .u64 r.x3)
  refine ⟨?_, ?_⟩
  · unfold setS
    refine cast (congrArg _ ?_) o3
    refine List.ext_getElem? fun j => ?_
    have hl : (svs n g).length = n * 4 := svs_len n g
    have hl2 : (svs n (fun j => if j = k then r else g j)).length = n * 4 := svs_len n _
    by_cases hj : j < n * 4
    · obtain ⟨q, d, rfl, hd⟩ : ∃ q d, j = q * 4 + d ∧ d < 4 := ⟨j / 4, j % 4, by omega, by omega⟩
      obtain ⟨a0, a1, a2, a3⟩ := svs_get n g q (by omega)
      obtain ⟨b0, b1, b2, b3⟩ := svs_get n (fun j => if j = k then r else g j) q (by omega)
      simp only [List.getElem?_set, List.length_set, hl]
      by_cases hq : q = k
      · subst hq
        simp only [if_true] at b0 b1 b2 b3
        match d, hd with
        | 0, _ => rw [if_neg (by omega), if_neg (by omega), if_neg (by omega), if_pos (by omega), if_pos (by omega)]; exact b0.symm
        | 1, _ => rw [if_neg (by omega), if_neg (by omega), if_pos (by omega), if_pos (by omega)]; exact b1.symm
        | 2, _ => rw [if_neg (by omega), if_pos (by omega), if_pos (by omega)]; exact b2.symm
        | 3, _ => rw [if_pos (by omega), if_pos (by omega)]; exact b3.symm
      · simp only [if_neg hq] at b0 b1 b2 b3
        rw [if_neg (by omega), if_neg (by omega), if_neg (by omega), if_neg (by omega)]
        match d, hd with
        | 0, _ => exact a0.trans b0.symm
        | 1, _ => exact a1.trans b1.symm
        | 2, _ => exact a2.trans b2.symm
        | 3, _ => exact a3.trans b3.symm
    · rw [List.getElem?_eq_none (by simp [hl]; omega), List.getElem?_eq_none (by omega)]
  · exact grown_trans (grown_trans (grown_trans g0 g1) g2) g3
end Go.Proofs.YtbkiobfjabadeaaDoor
