import Derived.Test.YtaejedhdpilhjaaDoorIM2
import Derived.Deep.MidRow
import Derived.Deep.RegionHeld3
namespace Go.Proofs.YtaejedhdpilhjaaDoor
open Go.RowKit
set_option linter.unusedVariables false
theorem results_cellM {fn : Func} {p : Tmp} {ty : TypeId} (h : fn.results = #[.cell p ty]) (tmps : Array Value) (P : Program) (w : World) (a : Addr) (v : Value) (ha : tmps.getD p undef = .pointer (some a)) (hl : (loadVar ty a).run P w = .ok v w) :
    (results fn tmps).run P w = .ok v w := by
  have e : (results fn tmps).run P w = ((asAddr (tmps.getD p undef)).run P w).andThen fun a w1 => (loadVar ty a).run P w1 := by
    simp only [results, h]
    simp [Sem.run_bind, Result.andThen]
  rw [e, ha]
  simp [asAddr, hl, Result.andThen]
theorem below_setCellsM {w0 : World} (b : Nat) : ∀ (vs : List Value) (o : Nat) {w : World}, Below w0.heap.size w0 w → w0.heap.size ≤ b → Below w0.heap.size w0 (w.setCells b o vs)
  | [], _, _, h, _ => h
  | v :: vs, o, w, h, hb => by
    rw [World.setCells]
    exact below_setCellsM b vs (o + 1) (h.setCell hb v) hb
theorem size_setCellsM (b : Nat) : ∀ (vs : List Value) (o : Nat) (w : World), (w.setCells b o vs).heap.size = w.heap.size
  | [], _, _ => rfl
  | v :: vs, o, w => by rw [World.setCells, size_setCellsM b vs (o + 1)]; simp
theorem range_keepM {w w' : World} {b : Nat} {cs : List Value} (h : w.rangeAt b 0 cs) (hb : Below w.heap.size w w') : w'.rangeAt b 0 cs := fun j v hv => by
  have := h j v hv
  rw [hb.cell (p := ⟨b, 0 + j, none⟩) (World.block_lt_of_cell? w ⟨b, 0 + j, none⟩ this)]
  exact this
theorem there_keepM {w w' : World} {b n : Nat} (h : w.there b 0 n) (hb : Below w.heap.size w w') : w'.there b 0 n := fun j hj => by
  obtain ⟨h1, h2⟩ := h j hj
  obtain ⟨u, hu⟩ := Option.isSome_iff_exists.1 h1
  have hl := World.block_lt_of_cell? w _ hu
  exact ⟨by rw [hb.cell (p := ⟨b, 0 + j, none⟩) hl]; exact h1, by rw [hb.frozen (p := ⟨b, 0 + j, none⟩) hl]; exact h2⟩
theorem there_setM {w : World} {b n : Nat} (h : w.there b 0 n) (c : Nat) (vs : List Value) : (w.setCells c 0 vs).there b 0 n := fun j hj =>
  ⟨World.isSome_setCells c vs 0 w _ (h j hj).1, by rw [World.frozen?_setCells]; exact (h j hj).2⟩
theorem range_newM (w : World) (cs : List Value) (t : TypeId) : (w.alloc (.cells cs.toArray t)).rangeAt w.heap.size 0 cs := fun j v hv => by
  rw [cell_of_row _ _ (0 + j) cs.toArray t (0, 0) (heap_alloc_new w _), Nat.zero_add]
  simpa using hv
theorem there_newM (w : World) (cs : List Value) (t : TypeId) : (w.alloc (.cells cs.toArray t)).there w.heap.size 0 cs.length := fun j hj => by
  refine ⟨?_, by go_simp⟩
  rw [cell_of_row _ _ (0 + j) cs.toArray t (0, 0) (heap_alloc_new w _), Nat.zero_add]
  simp [hj]
/-- what lies where: blocks that were made since w0, with their cells -/
structure Mw (w0 : World) (L : List (Nat × List Value)) (w : World) : Prop where
  bel : Below w0.heap.size w0 w
  r : ∀ p ∈ L, w.rangeAt p.1 0 p.2 ∧ w.there p.1 0 p.2.length ∧ w0.heap.size ≤ p.1 ∧ p.1 < w.heap.size
theorem Mw.start (w : World) : Mw w [] w := ⟨Below.refl _ _, fun p hp => by cases hp⟩
theorem Mw.keep {w0 : World} {L : List (Nat × List Value)} {w w' : World} (h : Mw w0 L w) (hb : Below w.heap.size w w') : Mw w0 L w' :=
  ⟨bl_trans h.bel hb, fun p hp => ⟨range_keepM (h.r p hp).1 hb, there_keepM (h.r p hp).2.1 hb, (h.r p hp).2.2.1, Nat.lt_of_lt_of_le (h.r p hp).2.2.2 hb.size⟩⟩
theorem Mw.sub {w0 : World} {L M : List (Nat × List Value)} {w : World} (h : Mw w0 L w) (hs : ∀ p ∈ M, p ∈ L) : Mw w0 M w := ⟨h.bel, fun p hp => h.r p (hs p hp)⟩
theorem Mw.new {w0 : World} {L : List (Nat × List Value)} {w : World} (h : Mw w0 L w) (cs : List Value) (t : TypeId) : Mw w0 ((w.heap.size, cs) :: L) (w.alloc (.cells cs.toArray t)) := by
  have k := h.keep (bl_alloc w (.cells cs.toArray t))
  refine ⟨k.bel, fun p hp => ?_⟩
  rcases List.mem_cons.1 hp with rfl | hp
  · exact ⟨range_newM w cs t, there_newM w cs t, h.bel.size, by simp⟩
  · exact k.r p hp
theorem Mw.set {w0 : World} {L M : List (Nat × List Value)} {w : World} (h : Mw w0 L w) {c : Nat} {o : List Value} (ds : List Value) (hc : (c, o) ∈ L) (hl : ds.length = o.length) (hs : ∀ p ∈ M, p ∈ L ∧ c ≠ p.1) :
    Mw w0 ((c, ds) :: M) (w.setCells c 0 ds) := by
  obtain ⟨h1, ht, hg, hlt⟩ := h.r _ hc
  simp only at hg ht hlt
  refine ⟨below_setCellsM c ds 0 h.bel hg, fun p hp => ?_⟩
  rcases List.mem_cons.1 hp with rfl | hp
  · exact ⟨World.rangeAt_setCells_same w c 0 ds (by rw [hl]; exact ht), there_setM (by simp only [hl]; exact ht) _ _, hg, by rw [size_setCellsM]; exact hlt⟩
  · obtain ⟨h3, h2⟩ := hs p hp
    exact ⟨World.rangeAt_setCells_apart (h.r p h3).1 _ _ _ (Or.inl (fun e => h2 e.symm)), there_setM (h.r p h3).2.1 _ _, (h.r p h3).2.2.1, by rw [size_setCellsM]; exact (h.r p h3).2.2.2⟩
theorem Mw.ther {w0 : World} {L : List (Nat × List Value)} {w : World} (h : Mw w0 L w) {c : Nat} {o : List Value} (ds : List Value) (hc : (c, o) ∈ L) (hl : ds.length = o.length) : w.there c 0 ds.toArray.size := by
  have := (h.r _ hc).2.1
  simpa [hl] using this
theorem Mw.var {w0 : World} {L : List (Nat × List Value)} {w : World} (h : Mw w0 L w) {c : Nat} {ds : List Value} (hc : (c, ds) ∈ L) {ty : TypeId} {d : TypeDesc} (hu : Tryd.prog.underlying ty = some d) (hd : d.isRow = true) (hi : (Tryd.prog.info? ty).map (·.size) = some ds.length) :
    (loadVar ty ⟨c, 0, none⟩).run Tryd.prog w = .ok (.agg ds.toArray) w := run_loadVar_mid w c 0 ty ds d (h.r _ hc).1 hu hd hi
theorem l4_i (a : E4) : (Tryd.prog.info? 33).map (·.size) = some [Value.int .u64 a.x0, .int .u64 a.x1, .int .u64 a.x2, .int .u64 a.x3].length := by kernel_rfl
theorem c4_one (a : E4) : [Value.int .u64 a.x0, .int .u64 a.x1, .int .u64 a.x2, .int .u64 a.x3].toArray.all (·.oneCell') = true := by simp [Value.oneCell']
set_option maxRecDepth 100000 in
set_option maxHeartbeats 4000000 in
theorem lAdd_any (a b : E4) (ha : a.ok) (hb : b.ok) (w : World) (hT : Tb w) :
    Calls Tryd.prog 65 #[a.v, b.v] w fun e w' => e = .returned (lst (a.n + b.n)).v ∧ Below w.heap.size w w' := by
  have HT := hidden hT
  have RA := hidden (fun w T => fix (R := lst (a.n + b.n)) (Add_any a b w T ha hb) rfl)
  generalize lst (a.n + b.n) = z at *
  unfold E4.v at RA ⊢
  have M0 := (((Mw.start w).new [.int .u64 a.x0, .int .u64 a.x1, .int .u64 a.x2, .int .u64 a.x3] 33).new [.int .u64 b.x0, .int .u64 b.x1, .int .u64 b.x2, .int .u64 b.x3] 33).new [.int .u64 0, .int .u64 0, .int .u64 0, .int .u64 0] 33
  simp only [World.size_alloc] at M0
  have MM := hidden M0
  have I1 := hidden (l4_i z)
  have O2 := hidden (c4_one z)
  clear M0
  go_enter Tryd.func65, Tryd.ntmps65
  go_wp2_with (first | (go_at_call 9; refine (RA.out _ (HT.out.keep MM.out.bel)).mono ?_; rintro e wa ⟨rfl, ha⟩; replace MM := hidden (MM.out.keep ha); clear ha; have TH := hidden (MM.out.ther [.int .u64 z.x0, .int .u64 z.x1, .int .u64 z.x2, .int .u64 z.x3] (c := w.heap.size + 1 + 1) (o := [.int .u64 0, .int .u64 0, .int .u64 0, .int .u64 0]) (by simp) rfl); have M1 := MM.out.set (M := []) [.int .u64 z.x0, .int .u64 z.x1, .int .u64 z.x2, .int .u64 z.x3] (c := w.heap.size + 1 + 1) (o := [.int .u64 0, .int .u64 0, .int .u64 0, .int .u64 0]) (by simp) rfl (fun p hp => by cases hp); have LD := hidden (M1.var (c := w.heap.size + 1 + 1) (ds := [.int .u64 z.x0, .int .u64 z.x1, .int .u64 z.x2, .int .u64 z.x3]) (by simp) Tryd.underlying33 rfl I1.out); have BL := hidden M1.bel; clear M1) | refine wpList_store_mid rfl 33 _ _ rfl (w.heap.size + 1 + 1) 0 [.int .u64 z.x0, .int .u64 z.x1, .int .u64 z.x2, .int .u64 z.x3].toArray (by rfl) (by rfl) TH.out I1.out O2.out ?_)
  refine bodyPost_ret (v := .agg [.int .u64 z.x0, .int .u64 z.x1, .int .u64 z.x2, .int .u64 z.x3].toArray) (results_cellM Tryd.results65 _ _ _ _ _ (by rfl) LD.out) rfl ⟨rfl, BL.out⟩
set_option maxRecDepth 100000 in
set_option maxHeartbeats 4000000 in
theorem lTimes_any (a b : E4) (ha : a.ok) (hb : b.ok) (w : World) (hT : Tb w) :
    Calls Tryd.prog 67 #[a.v, b.v] w fun e w' => e = .returned (lst (a.n * b.n)).v ∧ Below w.heap.size w w' := by
  have HT := hidden hT
  have RA := hidden (fun w T => fix (R := lst (a.n * b.n)) (Mul_any a b w T ha hb) rfl)
  generalize lst (a.n * b.n) = z at *
  unfold E4.v at RA ⊢
  have M0 := (((Mw.start w).new [.int .u64 a.x0, .int .u64 a.x1, .int .u64 a.x2, .int .u64 a.x3] 33).new [.int .u64 b.x0, .int .u64 b.x1, .int .u64 b.x2, .int .u64 b.x3] 26).new [.int .u64 0, .int .u64 0, .int .u64 0, .int .u64 0] 33
  simp only [World.size_alloc] at M0
  have MM := hidden M0
  have I1 := hidden (l4_i z)
  have O2 := hidden (c4_one z)
  clear M0
  go_enter Tryd.func67, Tryd.ntmps67
  go_wp2_with (first | (go_at_call 10; refine (RA.out _ (HT.out.keep MM.out.bel)).mono ?_; rintro e wa ⟨rfl, ha⟩; replace MM := hidden (MM.out.keep ha); clear ha; have TH := hidden (MM.out.ther [.int .u64 z.x0, .int .u64 z.x1, .int .u64 z.x2, .int .u64 z.x3] (c := w.heap.size + 1 + 1) (o := [.int .u64 0, .int .u64 0, .int .u64 0, .int .u64 0]) (by simp) rfl); have M1 := MM.out.set (M := []) [.int .u64 z.x0, .int .u64 z.x1, .int .u64 z.x2, .int .u64 z.x3] (c := w.heap.size + 1 + 1) (o := [.int .u64 0, .int .u64 0, .int .u64 0, .int .u64 0]) (by simp) rfl (fun p hp => by cases hp); have LD := hidden (M1.var (c := w.heap.size + 1 + 1) (ds := [.int .u64 z.x0, .int .u64 z.x1, .int .u64 z.x2, .int .u64 z.x3]) (by simp) Tryd.underlying33 rfl I1.out); have BL := hidden M1.bel; clear M1) | refine wpList_store_mid rfl 33 _ _ rfl (w.heap.size + 1 + 1) 0 [.int .u64 z.x0, .int .u64 z.x1, .int .u64 z.x2, .int .u64 z.x3].toArray (by rfl) (by rfl) TH.out I1.out O2.out ?_)
  refine bodyPost_ret (v := .agg [.int .u64 z.x0, .int .u64 z.x1, .int .u64 z.x2, .int .u64 z.x3].toArray) (results_cellM Tryd.results67 _ _ _ _ _ (by rfl) LD.out) rfl ⟨rfl, BL.out⟩
end Go.Proofs.YtaejedhdpilhjaaDoor
namespace Go.Proofs.YtaejedhdpilhjaaDoor
open Go.RowKit
set_option linter.unusedVariables false
theorem gb_setS (w : World) (b o : Nat) (r : E4) : w.grownBy (setS w b o r) (some b) := ⟨rfl, rfl, rfl, by rw [setS_size]; exact Nat.le_refl _, fun k _ hk => by
  unfold setS
  rw [heap_setCell_other _ _ k _ (fun e => hk (by simp [e])), heap_setCell_other _ _ k _ (fun e => hk (by simp [e])), heap_setCell_other _ _ k _ (fun e => hk (by simp [e])), heap_setCell_other _ _ k _ (fun e => hk (by simp [e]))]⟩
def ha2o : Array Oper := #[{ dst := some 8, op := Op.move (Operand.tmp 0), type := 29, pos := "lists.go:28", after := #[], guard := none },
  { dst := some 9, op := Op.move (Operand.tmp 4), type := 3, pos := "lists.go:28", after := #[], guard := none },
  { dst := some 10, op := Op.move (Operand.tmp 4), type := 3, pos := "lists.go:28", after := #[], guard := none },
  { dst := some 11, op := Op.slice 29 (Operand.tmp 8) none (some (Operand.tmp 9)) (some (Operand.tmp 10)), type := 29, pos := "lists.go:28", after := #[{ on := 0, ground := Ground.data }, { on := 1, ground := Ground.data }, { on := 2, ground := Ground.data }], guard := none },
  { dst := some 12, op := Op.move (Operand.tmp 0), type := 29, pos := "lists.go:28", after := #[], guard := none },
  { dst := some 13, op := Op.move (Operand.tmp 4), type := 3, pos := "lists.go:28", after := #[], guard := none },
  { dst := some 14, op := Op.move (Operand.tmp 0), type := 29, pos := "lists.go:28", after := #[], guard := none },
  { dst := some 15, op := Op.call { callee := Callee.builtin Builtin.len, args := #[Operand.tmp 14], argTypes := #[29] }, type := 3, pos := "lists.go:28", after := #[{ on := 6, ground := Ground.data }], guard := none },
  { dst := some 16, op := Op.move (Operand.tmp 0), type := 29, pos := "lists.go:28", after := #[], guard := none },
  { dst := some 17, op := Op.call { callee := Callee.builtin Builtin.len, args := #[Operand.tmp 16], argTypes := #[29] }, type := 3, pos := "lists.go:28", after := #[{ on := 8, ground := Ground.data }], guard := none },
  { dst := some 18, op := Op.slice 29 (Operand.tmp 12) (some (Operand.tmp 13)) (some (Operand.tmp 15)) (some (Operand.tmp 17)), type := 29, pos := "lists.go:28", after := #[{ on := 4, ground := Ground.data }, { on := 5, ground := Ground.data }, { on := 7, ground := Ground.data }, { on := 9, ground := Ground.data }], guard := none },
  { dst := some 2, op := Op.assign (Operand.tmp 11), type := 29, pos := "lists.go:28", after := #[{ on := 3, ground := Ground.data }, { on := 0, ground := Ground.phase }, { on := 1, ground := Ground.phase }, { on := 2, ground := Ground.phase }, { on := 3, ground := Ground.phase }, { on := 4, ground := Ground.textOnly Departure.lateStores }, { on := 5, ground := Ground.textOnly Departure.lateStores }, { on := 6, ground := Ground.textOnly Departure.lateStores }, { on := 7, ground := Ground.textOnly Departure.lateStoresUnsure }, { on := 8, ground := Ground.textOnly Departure.lateStores }, { on := 9, ground := Ground.textOnly Departure.lateStoresUnsure }, { on := 10, ground := Ground.textOnly Departure.lateStoresUnsure }], guard := none },
  { dst := some 3, op := Op.assign (Operand.tmp 18), type := 29, pos := "lists.go:28", after := #[{ on := 10, ground := Ground.data }, { on := 11, ground := Ground.chain }, { on := 0, ground := Ground.phase }, { on := 1, ground := Ground.phase }, { on := 2, ground := Ground.phase }, { on := 3, ground := Ground.phase }, { on := 4, ground := Ground.phase }, { on := 5, ground := Ground.phase }, { on := 6, ground := Ground.phase }, { on := 7, ground := Ground.phase }, { on := 8, ground := Ground.phase }, { on := 9, ground := Ground.phase }, { on := 10, ground := Ground.phase }, { on := 11, ground := Ground.phase }], guard := none }]
set_option maxRecDepth 100000 in
set_option maxHeartbeats 8000000 in
theorem ha2 (Q : Exit → Act → World → Prop) (b o h c : Nat) (u1 u2 u3 u5 u6 u7 u8 u9 u10 u11 u12 u13 u14 u15 u16 u17 u18 : Value) (W : World) (hh : 0 < h) (hc : 2 * h ≤ c) (HQ : Hid (Q .normal ⟨#[.slice (some ⟨b, o, none⟩) (2 * h) c, u1, .slice (some ⟨b, o, none⟩) h h, .slice (some ⟨b, o + h * 4, none⟩) h h, .int .i64 (h : Int), u5, u6, u7, .slice (some ⟨b, o, none⟩) (2 * h) c, .int .i64 (h : Int), .int .i64 (h : Int), .slice (some ⟨b, o, none⟩) h h, .slice (some ⟨b, o, none⟩) (2 * h) c, .int .i64 (h : Int), .slice (some ⟨b, o, none⟩) (2 * h) c, .int .i64 (2 * (h : Int)), .slice (some ⟨b, o, none⟩) (2 * h) c, .int .i64 (2 * (h : Int)), .slice (some ⟨b, o + h * 4, none⟩) h h], []⟩ W.drew)) : (Code.region 2 ha2o true).wp Tryd.prog Q ⟨#[.slice (some ⟨b, o, none⟩) (2 * h) c, u1, u2, u3, .int .i64 (h : Int), u5, u6, u7, u8, u9, u10, u11, u12, u13, u14, u15, u16, u17, u18], []⟩ W := by
  have n0 : (0 : Int) ≤ (h : Int) := by omega
  have n1 : (h : Int) ≤ (c : Int) := by omega
  have n2 : (h : Int) ≤ 2 * (h : Int) := by omega
  have n3 : 2 * (h : Int) ≤ (c : Int) := by omega
  have n4 : (2 * (h : Int)).toNat = 2 * h := by omega
  have n5 : 2 * h - h = h := by omega
  have n6 : ¬ h = 0 := by omega
  have n8 : ¬ 2 * h = h := by omega
  have n7 : (0 : Int) ≤ 2 * (h : Int) := by omega
  clear hh hc
  unfold ha2o
  refine wp_region_noPanic ?_
  refine wp_region_held_drew (S := fun x => x = W.drew) (by kernel_rfl) (rfl) (fun hHeld => ?_)
  refine wpAnyH_take (i := 0) (oi := { dst := some 8, op := Op.move (Operand.tmp 0), type := 29, pos := "lists.go:28", after := #[], guard := none }) (v := .slice (some ⟨b, o, none⟩) (2 * h) c) rfl (by kernel_rfl) (by kernel_rfl) (by kernel_rfl) (fun _ _ _ h => h) (Or.inl ⟨by rfl, fun w0 hSw => ?_⟩) hHeld ?_
  · (clear hSw; go_simp)
  simp only [Act.put, List.setIfInBounds_toArray, List.set_cons_zero, List.set_cons_succ]
  refine wpAnyH_take (i := 1) (oi := { dst := some 9, op := Op.move (Operand.tmp 4), type := 3, pos := "lists.go:28", after := #[], guard := none }) (v := .int .i64 (h : Int)) rfl (by kernel_rfl) (by kernel_rfl) (by kernel_rfl) (fun _ _ _ h => h) (Or.inl ⟨by rfl, fun w0 hSw => ?_⟩) hHeld ?_
  · (clear hSw; go_simp)
  simp only [Act.put, List.setIfInBounds_toArray, List.set_cons_zero, List.set_cons_succ]
  refine wpAnyH_take (i := 2) (oi := { dst := some 10, op := Op.move (Operand.tmp 4), type := 3, pos := "lists.go:28", after := #[], guard := none }) (v := .int .i64 (h : Int)) rfl (by kernel_rfl) (by kernel_rfl) (by kernel_rfl) (fun _ _ _ h => h) (Or.inl ⟨by rfl, fun w0 hSw => ?_⟩) hHeld ?_
  · (clear hSw; go_simp)
  simp only [Act.put, List.setIfInBounds_toArray, List.set_cons_zero, List.set_cons_succ]
  refine wpAnyH_take (i := 3) (oi := { dst := some 11, op := Op.slice 29 (Operand.tmp 8) none (some (Operand.tmp 9)) (some (Operand.tmp 10)), type := 29, pos := "lists.go:28", after := #[{ on := 0, ground := Ground.data }, { on := 1, ground := Ground.data }, { on := 2, ground := Ground.data }], guard := none }) (v := .slice (some ⟨b, o, none⟩) h h) rfl (by kernel_rfl) (by kernel_rfl) (by kernel_rfl) (fun _ _ _ h => h) (Or.inl ⟨by rfl, fun w0 hSw => ?_⟩) hHeld ?_
  · (clear hSw; go_simp)
  simp only [Act.put, List.setIfInBounds_toArray, List.set_cons_zero, List.set_cons_succ]
  refine wpAnyH_take (i := 4) (oi := { dst := some 12, op := Op.move (Operand.tmp 0), type := 29, pos := "lists.go:28", after := #[], guard := none }) (v := .slice (some ⟨b, o, none⟩) (2 * h) c) rfl (by kernel_rfl) (by kernel_rfl) (by kernel_rfl) (fun _ _ _ h => h) (Or.inl ⟨by rfl, fun w0 hSw => ?_⟩) hHeld ?_
  · (clear hSw; go_simp)
  simp only [Act.put, List.setIfInBounds_toArray, List.set_cons_zero, List.set_cons_succ]
  refine wpAnyH_take (i := 5) (oi := { dst := some 13, op := Op.move (Operand.tmp 4), type := 3, pos := "lists.go:28", after := #[], guard := none }) (v := .int .i64 (h : Int)) rfl (by kernel_rfl) (by kernel_rfl) (by kernel_rfl) (fun _ _ _ h => h) (Or.inl ⟨by rfl, fun w0 hSw => ?_⟩) hHeld ?_
  · (clear hSw; go_simp)
  simp only [Act.put, List.setIfInBounds_toArray, List.set_cons_zero, List.set_cons_succ]
  refine wpAnyH_take (i := 6) (oi := { dst := some 14, op := Op.move (Operand.tmp 0), type := 29, pos := "lists.go:28", after := #[], guard := none }) (v := .slice (some ⟨b, o, none⟩) (2 * h) c) rfl (by kernel_rfl) (by kernel_rfl) (by kernel_rfl) (fun _ _ _ h => h) (Or.inl ⟨by rfl, fun w0 hSw => ?_⟩) hHeld ?_
  · (clear hSw; go_simp)
  simp only [Act.put, List.setIfInBounds_toArray, List.set_cons_zero, List.set_cons_succ]
  refine wpAnyH_take (i := 7) (oi := { dst := some 15, op := Op.call { callee := Callee.builtin Builtin.len, args := #[Operand.tmp 14], argTypes := #[29] }, type := 3, pos := "lists.go:28", after := #[{ on := 6, ground := Ground.data }], guard := none }) (v := .int .i64 (2 * (h : Int))) rfl (by kernel_rfl) (by kernel_rfl) (by kernel_rfl) (fun _ _ _ h => h) (Or.inl ⟨by rfl, fun w0 hSw => ?_⟩) hHeld ?_
  · (clear hSw; go_simp)
  simp only [Act.put, List.setIfInBounds_toArray, List.set_cons_zero, List.set_cons_succ]
  refine wpAnyH_take (i := 8) (oi := { dst := some 16, op := Op.move (Operand.tmp 0), type := 29, pos := "lists.go:28", after := #[], guard := none }) (v := .slice (some ⟨b, o, none⟩) (2 * h) c) rfl (by kernel_rfl) (by kernel_rfl) (by kernel_rfl) (fun _ _ _ h => h) (Or.inl ⟨by rfl, fun w0 hSw => ?_⟩) hHeld ?_
  · (clear hSw; go_simp)
  simp only [Act.put, List.setIfInBounds_toArray, List.set_cons_zero, List.set_cons_succ]
  refine wpAnyH_take (i := 9) (oi := { dst := some 17, op := Op.call { callee := Callee.builtin Builtin.len, args := #[Operand.tmp 16], argTypes := #[29] }, type := 3, pos := "lists.go:28", after := #[{ on := 8, ground := Ground.data }], guard := none }) (v := .int .i64 (2 * (h : Int))) rfl (by kernel_rfl) (by kernel_rfl) (by kernel_rfl) (fun _ _ _ h => h) (Or.inl ⟨by rfl, fun w0 hSw => ?_⟩) hHeld ?_
  · (clear hSw; go_simp)
  simp only [Act.put, List.setIfInBounds_toArray, List.set_cons_zero, List.set_cons_succ]
  refine wpAnyH_take (i := 10) (oi := { dst := some 18, op := Op.slice 29 (Operand.tmp 12) (some (Operand.tmp 13)) (some (Operand.tmp 15)) (some (Operand.tmp 17)), type := 29, pos := "lists.go:28", after := #[{ on := 4, ground := Ground.data }, { on := 5, ground := Ground.data }, { on := 7, ground := Ground.data }, { on := 9, ground := Ground.data }], guard := none }) (v := .slice (some ⟨b, o + h * 4, none⟩) h h) rfl (by kernel_rfl) (by kernel_rfl) (by kernel_rfl) (fun _ _ _ h => h) (Or.inl ⟨by rfl, fun w0 hSw => ?_⟩) hHeld ?_
  · (clear hSw; go_simp)
  simp only [Act.put, List.setIfInBounds_toArray, List.set_cons_zero, List.set_cons_succ]
  refine wpAnyH_take (i := 11) (oi := { dst := some 2, op := Op.assign (Operand.tmp 11), type := 29, pos := "lists.go:28", after := #[{ on := 3, ground := Ground.data }, { on := 0, ground := Ground.phase }, { on := 1, ground := Ground.phase }, { on := 2, ground := Ground.phase }, { on := 3, ground := Ground.phase }, { on := 4, ground := Ground.textOnly Departure.lateStores }, { on := 5, ground := Ground.textOnly Departure.lateStores }, { on := 6, ground := Ground.textOnly Departure.lateStores }, { on := 7, ground := Ground.textOnly Departure.lateStoresUnsure }, { on := 8, ground := Ground.textOnly Departure.lateStores }, { on := 9, ground := Ground.textOnly Departure.lateStoresUnsure }, { on := 10, ground := Ground.textOnly Departure.lateStoresUnsure }], guard := none }) (v := .slice (some ⟨b, o, none⟩) h h) rfl (by kernel_rfl) (by kernel_rfl) (by kernel_rfl) (fun _ _ _ h => h) (Or.inl ⟨by rfl, fun w0 hSw => ?_⟩) hHeld ?_
  · (clear hSw; go_simp)
  simp only [Act.put, List.setIfInBounds_toArray, List.set_cons_zero, List.set_cons_succ]
  refine wpAnyH_take (i := 12) (oi := { dst := some 3, op := Op.assign (Operand.tmp 18), type := 29, pos := "lists.go:28", after := #[{ on := 10, ground := Ground.data }, { on := 11, ground := Ground.chain }, { on := 0, ground := Ground.phase }, { on := 1, ground := Ground.phase }, { on := 2, ground := Ground.phase }, { on := 3, ground := Ground.phase }, { on := 4, ground := Ground.phase }, { on := 5, ground := Ground.phase }, { on := 6, ground := Ground.phase }, { on := 7, ground := Ground.phase }, { on := 8, ground := Ground.phase }, { on := 9, ground := Ground.phase }, { on := 10, ground := Ground.phase }, { on := 11, ground := Ground.phase }], guard := none }) (v := .slice (some ⟨b, o + h * 4, none⟩) h h) rfl (by kernel_rfl) (by kernel_rfl) (by kernel_rfl) (fun _ _ _ h => h) (Or.inl ⟨by rfl, fun w0 hSw => ?_⟩) hHeld ?_
  · (clear hSw; go_simp)
  simp only [Act.put, List.setIfInBounds_toArray, List.set_cons_zero, List.set_cons_succ]
  refine wpAnyH_done (by kernel_rfl) ?_ _
  refine NoPanic.normal ?_
  exact HQ.out
set_option maxRecDepth 100000 in
set_option maxHeartbeats 8000000 in
theorem halves_any (b o h c : Nat) (w : World) (hh : 0 < h) (hl : h ≤ 4398046511040) (hc : 2 * h ≤ c) :
    Calls Tryd.prog 49 #[.slice (some ⟨b, o, none⟩) (2 * h) c] w fun e w' => e = .returned (.tuple #[.slice (some ⟨b, o, none⟩) h h, .slice (some ⟨b, o + h * 4, none⟩) h h]) ∧ Below w.heap.size w w' := by
  have d0 : (2 * (h : Int)).tdiv 2 = (h : Int) := by rw [Int.tdiv_eq_ediv_of_nonneg (by omega)]; omega
  have d1 : IntKind.i64.wrap (h : Int) = (h : Int) := IntWalk.i64_in _ (by omega)
  go_enter Tryd.func49, Tryd.ntmps49
  go_upto_region 2 with fail
  refine ha2 _ b o h c _ _ _ _ _ _ _ _ _ _ _ _ _ _ _ _ _ _ hh hc (hidden ?_)
  clear d0 d1
  have BD := hidden (drew_blS w)
  go_wp2_with fail
  refine bodyPost_ret (v := .tuple #[.slice (some ⟨b, o, none⟩) h h, .slice (some ⟨b, o + h * 4, none⟩) h h]) (by simp [results, Tryd.results49, go_sem]) rfl ⟨rfl, BD.out⟩
theorem mt_TimesL (a : E4) (w : World) : (method 199 33 (.agg #[.int .u64 a.x0, .int .u64 a.x1, .int .u64 a.x2, .int .u64 a.x3]) "Times").run Tryd.prog w = .ok (67, .agg #[.int .u64 a.x0, .int .u64 a.x1, .int .u64 a.x2, .int .u64 a.x3]) w := by kernel_rfl
theorem mt_AddL (a : E4) (w : World) : (method 199 33 (.agg #[.int .u64 a.x0, .int .u64 a.x1, .int .u64 a.x2, .int .u64 a.x3]) "Add").run Tryd.prog w = .ok (65, .agg #[.int .u64 a.x0, .int .u64 a.x1, .int .u64 a.x2, .int .u64 a.x3]) w := by kernel_rfl
def bl6o : Array Oper := #[{ dst := some 24, op := Op.move (Operand.tmp 9), type := 29, pos := "rounds.go:93", after := #[], guard := none },
  { dst := some 25, op := Op.move (Operand.tmp 10), type := 3, pos := "rounds.go:93", after := #[], guard := none },
  { dst := some 26, op := Op.move (Operand.tmp 7), type := 29, pos := "rounds.go:93", after := #[], guard := none },
  { dst := some 27, op := Op.move (Operand.tmp 10), type := 3, pos := "rounds.go:93", after := #[], guard := none },
  { dst := some 28, op := Op.indexAddr 29 (Operand.tmp 26) (Operand.tmp 27), type := 0, pos := "rounds.go:93", after := #[{ on := 2, ground := Ground.data }, { on := 3, ground := Ground.data }], guard := none },
  { dst := some 29, op := Op.load 33 (Operand.tmp 28), type := 33, pos := "rounds.go:93", after := #[{ on := 4, ground := Ground.data }], guard := none },
  { dst := some 30, op := Op.makeInterface 33 (Operand.tmp 29), type := 20, pos := "rounds.go:93", after := #[{ on := 5, ground := Ground.data }], guard := none },
  { dst := some 31, op := Op.load 26 (Operand.tmp 3), type := 26, pos := "rounds.go:93", after := #[], guard := none },
  { dst := some 32, op := Op.call { callee := Callee.invoke (Operand.tmp 30) "Times", args := #[Operand.tmp 31], argTypes := #[26] }, type := 33, pos := "rounds.go:93", after := #[{ on := 6, ground := Ground.data }, { on := 7, ground := Ground.data }], guard := none },
  { dst := some 33, op := Op.makeInterface 33 (Operand.tmp 32), type := 20, pos := "rounds.go:93", after := #[{ on := 8, ground := Ground.data }], guard := none },
  { dst := some 34, op := Op.move (Operand.tmp 8), type := 29, pos := "rounds.go:93", after := #[], guard := none },
  { dst := some 35, op := Op.move (Operand.tmp 10), type := 3, pos := "rounds.go:93", after := #[], guard := none },
  { dst := some 36, op := Op.indexAddr 29 (Operand.tmp 34) (Operand.tmp 35), type := 0, pos := "rounds.go:93", after := #[{ on := 10, ground := Ground.data }, { on := 11, ground := Ground.data }], guard := none },
  { dst := some 37, op := Op.load 33 (Operand.tmp 36), type := 33, pos := "rounds.go:93", after := #[{ on := 12, ground := Ground.data }], guard := none },
  { dst := some 38, op := Op.makeInterface 33 (Operand.tmp 37), type := 20, pos := "rounds.go:93", after := #[{ on := 13, ground := Ground.data }], guard := none },
  { dst := some 39, op := Op.load 26 (Operand.tmp 4), type := 26, pos := "rounds.go:93", after := #[], guard := none },
  { dst := some 40, op := Op.call { callee := Callee.invoke (Operand.tmp 38) "Times", args := #[Operand.tmp 39], argTypes := #[26] }, type := 33, pos := "rounds.go:93", after := #[{ on := 14, ground := Ground.data }, { on := 15, ground := Ground.data }, { on := 8, ground := Ground.chain }], guard := none },
  { dst := some 41, op := Op.call { callee := Callee.invoke (Operand.tmp 33) "Add", args := #[Operand.tmp 40], argTypes := #[33] }, type := 33, pos := "rounds.go:93", after := #[{ on := 9, ground := Ground.data }, { on := 16, ground := Ground.data }, { on := 16, ground := Ground.chain }], guard := none },
  { dst := some 42, op := Op.indexAddr 29 (Operand.tmp 24) (Operand.tmp 25), type := 0, pos := "rounds.go:93", after := #[{ on := 0, ground := Ground.data }, { on := 1, ground := Ground.data }, { on := 0, ground := Ground.phase }, { on := 1, ground := Ground.phase }, { on := 2, ground := Ground.phase }, { on := 3, ground := Ground.phase }, { on := 4, ground := Ground.phase }, { on := 5, ground := Ground.phase }, { on := 6, ground := Ground.phase }, { on := 7, ground := Ground.phase }, { on := 8, ground := Ground.phase }, { on := 9, ground := Ground.phase }, { on := 10, ground := Ground.phase }, { on := 11, ground := Ground.phase }, { on := 12, ground := Ground.phase }, { on := 13, ground := Ground.phase }, { on := 14, ground := Ground.phase }, { on := 15, ground := Ground.phase }, { on := 16, ground := Ground.phase }, { on := 17, ground := Ground.phase }], guard := none },
  { dst := none, op := Op.store 33 (Operand.tmp 42) (Operand.tmp 41), type := 0, pos := "rounds.go:93", after := #[{ on := 18, ground := Ground.data }, { on := 17, ground := Ground.data }, { on := 17, ground := Ground.chain }, { on := 0, ground := Ground.phase }, { on := 1, ground := Ground.phase }, { on := 2, ground := Ground.phase }, { on := 3, ground := Ground.phase }, { on := 4, ground := Ground.phase }, { on := 5, ground := Ground.phase }, { on := 6, ground := Ground.phase }, { on := 7, ground := Ground.phase }, { on := 8, ground := Ground.phase }, { on := 9, ground := Ground.phase }, { on := 10, ground := Ground.phase }, { on := 11, ground := Ground.phase }, { on := 12, ground := Ground.phase }, { on := 13, ground := Ground.phase }, { on := 14, ground := Ground.phase }, { on := 15, ground := Ground.phase }, { on := 16, ground := Ground.phase }, { on := 17, ground := Ground.phase }], guard := none }]
set_option maxRecDepth 100000 in
set_option maxHeartbeats 16000000 in
theorem bl6 (Q : Exit → Act → World → Prop) (lb lo h bf i T3 T4 : Nat) (p q x y px qy z : E4) (u0 u1 u2 u5 u6 u11 u12 u13 u14 u15 u16 u17 u18 u19 u20 u21 u22 u23 u24 u25 u26 u27 u28 u29 u30 u31 u32 u33 u34 u35 u36 u37 u38 u39 u40 u41 u42 u43 u44 : Value) (W : World) (i0 : (0 : Int) ≤ (i : Int)) (i1 : (i : Int) < (h : Int)) (nl : lb ≠ bf) (n3 : T3 ≠ bf) (n4 : T4 ≠ bf)
    (hp0 : W.cell? ⟨lb, lo + i * 4, none⟩ = some (.int .u64 p.x0)) (hp1 : W.cell? ⟨lb, lo + i * 4 + 1, none⟩ = some (.int .u64 p.x1)) (hp2 : W.cell? ⟨lb, lo + i * 4 + 2, none⟩ = some (.int .u64 p.x2)) (hp3 : W.cell? ⟨lb, lo + i * 4 + 3, none⟩ = some (.int .u64 p.x3))
    (hq0 : W.cell? ⟨lb, lo + h * 4 + i * 4, none⟩ = some (.int .u64 q.x0)) (hq1 : W.cell? ⟨lb, lo + h * 4 + i * 4 + 1, none⟩ = some (.int .u64 q.x1)) (hq2 : W.cell? ⟨lb, lo + h * 4 + i * 4 + 2, none⟩ = some (.int .u64 q.x2)) (hq3 : W.cell? ⟨lb, lo + h * 4 + i * 4 + 3, none⟩ = some (.int .u64 q.x3))
    (hx0 : W.cell? ⟨T3, 0, none⟩ = some (.int .u64 x.x0)) (hx1 : W.cell? ⟨T3, 1, none⟩ = some (.int .u64 x.x1)) (hx2 : W.cell? ⟨T3, 2, none⟩ = some (.int .u64 x.x2)) (hx3 : W.cell? ⟨T3, 3, none⟩ = some (.int .u64 x.x3))
    (hy0 : W.cell? ⟨T4, 0, none⟩ = some (.int .u64 y.x0)) (hy1 : W.cell? ⟨T4, 1, none⟩ = some (.int .u64 y.x1)) (hy2 : W.cell? ⟨T4, 2, none⟩ = some (.int .u64 y.x2)) (hy3 : W.cell? ⟨T4, 3, none⟩ = some (.int .u64 y.x3))
    (C8 : Hid (∀ v, W.grownBy v (some bf) → Calls Tryd.prog 67 #[.agg #[.int .u64 p.x0, .int .u64 p.x1, .int .u64 p.x2, .int .u64 p.x3], .agg #[.int .u64 x.x0, .int .u64 x.x1, .int .u64 x.x2, .int .u64 x.x3]] v fun e w' => e = .returned (.agg #[.int .u64 px.x0, .int .u64 px.x1, .int .u64 px.x2, .int .u64 px.x3]) ∧ Below v.heap.size v w'))
    (C16 : Hid (∀ v, W.grownBy v (some bf) → Calls Tryd.prog 67 #[.agg #[.int .u64 q.x0, .int .u64 q.x1, .int .u64 q.x2, .int .u64 q.x3], .agg #[.int .u64 y.x0, .int .u64 y.x1, .int .u64 y.x2, .int .u64 y.x3]] v fun e w' => e = .returned (.agg #[.int .u64 qy.x0, .int .u64 qy.x1, .int .u64 qy.x2, .int .u64 qy.x3]) ∧ Below v.heap.size v w'))
    (C17 : Hid (∀ v, W.grownBy v (some bf) → Calls Tryd.prog 65 #[.agg #[.int .u64 px.x0, .int .u64 px.x1, .int .u64 px.x2, .int .u64 px.x3], .agg #[.int .u64 qy.x0, .int .u64 qy.x1, .int .u64 qy.x2, .int .u64 qy.x3]] v fun e w' => e = .returned (.agg #[.int .u64 z.x0, .int .u64 z.x1, .int .u64 z.x2, .int .u64 z.x3]) ∧ Below v.heap.size v w'))
    (HF : Hid (∀ v, Below W.heap.size W v → v.cell? ⟨bf, i * 4, none⟩ = some (.int .u64 0) ∧ v.frozen? ⟨bf, i * 4, none⟩ = false ∧ v.cell? ⟨bf, i * 4 + 1, none⟩ = some (.int .u64 0) ∧ v.frozen? ⟨bf, i * 4 + 1, none⟩ = false ∧ v.cell? ⟨bf, i * 4 + 2, none⟩ = some (.int .u64 0) ∧ v.frozen? ⟨bf, i * 4 + 2, none⟩ = false ∧ v.cell? ⟨bf, i * 4 + 3, none⟩ = some (.int .u64 0) ∧ v.frozen? ⟨bf, i * 4 + 3, none⟩ = false))
    (HQ : Hid (∀ wy, Below W.heap.size W wy → Q .normal ⟨#[u0, u1, u2, .pointer (some ⟨T3, 0, none⟩), .pointer (some ⟨T4, 0, none⟩), u5, u6, .slice (some ⟨lb, lo, none⟩) h h, .slice (some ⟨lb, lo + h * 4, none⟩) h h, .slice (some ⟨bf, 0, none⟩) h h, .int .i64 (i : Int), u11, u12, u13, u14, u15, u16, u17, u18, u19, u20, u21, u22, u23, .slice (some ⟨bf, 0, none⟩) h h, .int .i64 (i : Int), .slice (some ⟨lb, lo, none⟩) h h, .int .i64 (i : Int), .pointer (some ⟨lb, lo + i * 4, none⟩), .agg #[.int .u64 p.x0, .int .u64 p.x1, .int .u64 p.x2, .int .u64 p.x3], .iface 33 (.agg #[.int .u64 p.x0, .int .u64 p.x1, .int .u64 p.x2, .int .u64 p.x3]), .agg #[.int .u64 x.x0, .int .u64 x.x1, .int .u64 x.x2, .int .u64 x.x3], .agg #[.int .u64 px.x0, .int .u64 px.x1, .int .u64 px.x2, .int .u64 px.x3], .iface 33 (.agg #[.int .u64 px.x0, .int .u64 px.x1, .int .u64 px.x2, .int .u64 px.x3]), .slice (some ⟨lb, lo + h * 4, none⟩) h h, .int .i64 (i : Int), .pointer (some ⟨lb, lo + h * 4 + i * 4, none⟩), .agg #[.int .u64 q.x0, .int .u64 q.x1, .int .u64 q.x2, .int .u64 q.x3], .iface 33 (.agg #[.int .u64 q.x0, .int .u64 q.x1, .int .u64 q.x2, .int .u64 q.x3]), .agg #[.int .u64 y.x0, .int .u64 y.x1, .int .u64 y.x2, .int .u64 y.x3], .agg #[.int .u64 qy.x0, .int .u64 qy.x1, .int .u64 qy.x2, .int .u64 qy.x3], .agg #[.int .u64 z.x0, .int .u64 z.x1, .int .u64 z.x2, .int .u64 z.x3], .pointer (some ⟨bf, i * 4, none⟩), u43, u44], []⟩ (setS wy bf (i * 4) z))) : (Code.region 6 bl6o true).wp Tryd.prog Q ⟨#[u0, u1, u2, .pointer (some ⟨T3, 0, none⟩), .pointer (some ⟨T4, 0, none⟩), u5, u6, .slice (some ⟨lb, lo, none⟩) h h, .slice (some ⟨lb, lo + h * 4, none⟩) h h, .slice (some ⟨bf, 0, none⟩) h h, .int .i64 (i : Int), u11, u12, u13, u14, u15, u16, u17, u18, u19, u20, u21, u22, u23, u24, u25, u26, u27, u28, u29, u30, u31, u32, u33, u34, u35, u36, u37, u38, u39, u40, u41, u42, u43, u44], []⟩ W := by
  have B0 := hidden (drew_blS W)
  have m1 := mt_TimesL p
  have m2 := mt_TimesL q
  have m3 := mt_AddL px
  unfold bl6o
  refine wp_region_noPanic ?_
  refine wp_region_held_drew (S := fun x => W.grownBy x (some bf)) (by kernel_rfl) (gbI (drew_blS W) _) (fun hHeld => ?_)
  refine wpAnyH_take (i := 0) (oi := { dst := some 24, op := Op.move (Operand.tmp 9), type := 29, pos := "rounds.go:93", after := #[], guard := none }) (v := .slice (some ⟨bf, 0, none⟩) h h) rfl (by kernel_rfl) (by kernel_rfl) (by kernel_rfl) (fun _ _ _ h => h) (Or.inl ⟨by rfl, fun w0 hSw => ?_⟩) hHeld ?_
  · (clear hSw; go_simp)
  simp only [Act.put, List.setIfInBounds_toArray, List.set_cons_zero, List.set_cons_succ]
  refine wpAnyH_take (i := 1) (oi := { dst := some 25, op := Op.move (Operand.tmp 10), type := 3, pos := "rounds.go:93", after := #[], guard := none }) (v := .int .i64 (i : Int)) rfl (by kernel_rfl) (by kernel_rfl) (by kernel_rfl) (fun _ _ _ h => h) (Or.inl ⟨by rfl, fun w0 hSw => ?_⟩) hHeld ?_
  · (clear hSw; go_simp)
  simp only [Act.put, List.setIfInBounds_toArray, List.set_cons_zero, List.set_cons_succ]
  refine wpAnyH_take (i := 2) (oi := { dst := some 26, op := Op.move (Operand.tmp 7), type := 29, pos := "rounds.go:93", after := #[], guard := none }) (v := .slice (some ⟨lb, lo, none⟩) h h) rfl (by kernel_rfl) (by kernel_rfl) (by kernel_rfl) (fun _ _ _ h => h) (Or.inl ⟨by rfl, fun w0 hSw => ?_⟩) hHeld ?_
  · (clear hSw; go_simp)
  simp only [Act.put, List.setIfInBounds_toArray, List.set_cons_zero, List.set_cons_succ]
  refine wpAnyH_take (i := 3) (oi := { dst := some 27, op := Op.move (Operand.tmp 10), type := 3, pos := "rounds.go:93", after := #[], guard := none }) (v := .int .i64 (i : Int)) rfl (by kernel_rfl) (by kernel_rfl) (by kernel_rfl) (fun _ _ _ h => h) (Or.inl ⟨by rfl, fun w0 hSw => ?_⟩) hHeld ?_
  · (clear hSw; go_simp)
  simp only [Act.put, List.setIfInBounds_toArray, List.set_cons_zero, List.set_cons_succ]
  refine wpAnyH_take (i := 4) (oi := { dst := some 28, op := Op.indexAddr 29 (Operand.tmp 26) (Operand.tmp 27), type := 0, pos := "rounds.go:93", after := #[{ on := 2, ground := Ground.data }, { on := 3, ground := Ground.data }], guard := none }) (v := .pointer (some ⟨lb, lo + i * 4, none⟩)) rfl (by kernel_rfl) (by kernel_rfl) (by kernel_rfl) (fun _ _ _ h => h) (Or.inl ⟨by rfl, fun w0 hSw => ?_⟩) hHeld ?_
  · (clear hSw; go_simp)
  simp only [Act.put, List.setIfInBounds_toArray, List.set_cons_zero, List.set_cons_succ]
  refine wpAnyH_take (i := 5) (oi := { dst := some 29, op := Op.load 33 (Operand.tmp 28), type := 33, pos := "rounds.go:93", after := #[{ on := 4, ground := Ground.data }], guard := none }) (v := .agg #[.int .u64 p.x0, .int .u64 p.x1, .int .u64 p.x2, .int .u64 p.x3]) rfl (by kernel_rfl) (by kernel_rfl) (by kernel_rfl) (fun _ _ _ h => h) (Or.inl ⟨by rfl, fun w0 hSw => ?_⟩) hHeld ?_
  · (have hS : W.grownBy w0 (some bf) := hSw; have a0 := hS.cell hp0 (fun e => nl (Option.some.inj e)); have a1 := hS.cell hp1 (fun e => nl (Option.some.inj e)); have a2 := hS.cell hp2 (fun e => nl (Option.some.inj e)); have a3 := hS.cell hp3 (fun e => nl (Option.some.inj e)); clear hS hSw; go_simp)
  simp only [Act.put, List.setIfInBounds_toArray, List.set_cons_zero, List.set_cons_succ]
  refine wpAnyH_take (i := 6) (oi := { dst := some 30, op := Op.makeInterface 33 (Operand.tmp 29), type := 20, pos := "rounds.go:93", after := #[{ on := 5, ground := Ground.data }], guard := none }) (v := .iface 33 (.agg #[.int .u64 p.x0, .int .u64 p.x1, .int .u64 p.x2, .int .u64 p.x3])) rfl (by kernel_rfl) (by kernel_rfl) (by kernel_rfl) (fun _ _ _ h => h) (Or.inl ⟨by rfl, fun w0 hSw => ?_⟩) hHeld ?_
  · (clear hSw; go_simp)
  simp only [Act.put, List.setIfInBounds_toArray, List.set_cons_zero, List.set_cons_succ]
  refine wpAnyH_take (i := 7) (oi := { dst := some 31, op := Op.load 26 (Operand.tmp 3), type := 26, pos := "rounds.go:93", after := #[], guard := none }) (v := .agg #[.int .u64 x.x0, .int .u64 x.x1, .int .u64 x.x2, .int .u64 x.x3]) rfl (by kernel_rfl) (by kernel_rfl) (by kernel_rfl) (fun _ _ _ h => h) (Or.inl ⟨by rfl, fun w0 hSw => ?_⟩) hHeld ?_
  · (have hS : W.grownBy w0 (some bf) := hSw; have a0 := hS.cell hx0 (fun e => n3 (Option.some.inj e)); have a1 := hS.cell hx1 (fun e => n3 (Option.some.inj e)); have a2 := hS.cell hx2 (fun e => n3 (Option.some.inj e)); have a3 := hS.cell hx3 (fun e => n3 (Option.some.inj e)); clear hS hSw; go_simp)
  simp only [Act.put, List.setIfInBounds_toArray, List.set_cons_zero, List.set_cons_succ]
  refine wpAnyH_take (i := 10) (oi := { dst := some 34, op := Op.move (Operand.tmp 8), type := 29, pos := "rounds.go:93", after := #[], guard := none }) (v := .slice (some ⟨lb, lo + h * 4, none⟩) h h) rfl (by kernel_rfl) (by kernel_rfl) (by kernel_rfl) (fun _ _ _ h => h) (Or.inl ⟨by rfl, fun w0 hSw => ?_⟩) hHeld ?_
  · (clear hSw; go_simp)
  simp only [Act.put, List.setIfInBounds_toArray, List.set_cons_zero, List.set_cons_succ]
  refine wpAnyH_take (i := 11) (oi := { dst := some 35, op := Op.move (Operand.tmp 10), type := 3, pos := "rounds.go:93", after := #[], guard := none }) (v := .int .i64 (i : Int)) rfl (by kernel_rfl) (by kernel_rfl) (by kernel_rfl) (fun _ _ _ h => h) (Or.inl ⟨by rfl, fun w0 hSw => ?_⟩) hHeld ?_
  · (clear hSw; go_simp)
  simp only [Act.put, List.setIfInBounds_toArray, List.set_cons_zero, List.set_cons_succ]
  refine wpAnyH_take (i := 12) (oi := { dst := some 36, op := Op.indexAddr 29 (Operand.tmp 34) (Operand.tmp 35), type := 0, pos := "rounds.go:93", after := #[{ on := 10, ground := Ground.data }, { on := 11, ground := Ground.data }], guard := none }) (v := .pointer (some ⟨lb, lo + h * 4 + i * 4, none⟩)) rfl (by kernel_rfl) (by kernel_rfl) (by kernel_rfl) (fun _ _ _ h => h) (Or.inl ⟨by rfl, fun w0 hSw => ?_⟩) hHeld ?_
  · (clear hSw; go_simp)
  simp only [Act.put, List.setIfInBounds_toArray, List.set_cons_zero, List.set_cons_succ]
  refine wpAnyH_take (i := 13) (oi := { dst := some 37, op := Op.load 33 (Operand.tmp 36), type := 33, pos := "rounds.go:93", after := #[{ on := 12, ground := Ground.data }], guard := none }) (v := .agg #[.int .u64 q.x0, .int .u64 q.x1, .int .u64 q.x2, .int .u64 q.x3]) rfl (by kernel_rfl) (by kernel_rfl) (by kernel_rfl) (fun _ _ _ h => h) (Or.inl ⟨by rfl, fun w0 hSw => ?_⟩) hHeld ?_
  · (have hS : W.grownBy w0 (some bf) := hSw; have a0 := hS.cell hq0 (fun e => nl (Option.some.inj e)); have a1 := hS.cell hq1 (fun e => nl (Option.some.inj e)); have a2 := hS.cell hq2 (fun e => nl (Option.some.inj e)); have a3 := hS.cell hq3 (fun e => nl (Option.some.inj e)); clear hS hSw; go_simp)
  simp only [Act.put, List.setIfInBounds_toArray, List.set_cons_zero, List.set_cons_succ]
  refine wpAnyH_take (i := 14) (oi := { dst := some 38, op := Op.makeInterface 33 (Operand.tmp 37), type := 20, pos := "rounds.go:93", after := #[{ on := 13, ground := Ground.data }], guard := none }) (v := .iface 33 (.agg #[.int .u64 q.x0, .int .u64 q.x1, .int .u64 q.x2, .int .u64 q.x3])) rfl (by kernel_rfl) (by kernel_rfl) (by kernel_rfl) (fun _ _ _ h => h) (Or.inl ⟨by rfl, fun w0 hSw => ?_⟩) hHeld ?_
  · (clear hSw; go_simp)
  simp only [Act.put, List.setIfInBounds_toArray, List.set_cons_zero, List.set_cons_succ]
  refine wpAnyH_take (i := 15) (oi := { dst := some 39, op := Op.load 26 (Operand.tmp 4), type := 26, pos := "rounds.go:93", after := #[], guard := none }) (v := .agg #[.int .u64 y.x0, .int .u64 y.x1, .int .u64 y.x2, .int .u64 y.x3]) rfl (by kernel_rfl) (by kernel_rfl) (by kernel_rfl) (fun _ _ _ h => h) (Or.inl ⟨by rfl, fun w0 hSw => ?_⟩) hHeld ?_
  · (have hS : W.grownBy w0 (some bf) := hSw; have a0 := hS.cell hy0 (fun e => n4 (Option.some.inj e)); have a1 := hS.cell hy1 (fun e => n4 (Option.some.inj e)); have a2 := hS.cell hy2 (fun e => n4 (Option.some.inj e)); have a3 := hS.cell hy3 (fun e => n4 (Option.some.inj e)); clear hS hSw; go_simp)
  simp only [Act.put, List.setIfInBounds_toArray, List.set_cons_zero, List.set_cons_succ]
  refine wpAnyH_ready (rs := [8]) (by kernel_rfl) (by simp) ?_
  refine AllReadyH.cons (o := { dst := some 32, op := Op.call { callee := Callee.invoke (Operand.tmp 30) "Times", args := #[Operand.tmp 31], argTypes := #[26] }, type := 33, pos := "rounds.go:93", after := #[{ on := 6, ground := Ground.data }, { on := 7, ground := Ground.data }], guard := none }) rfl (fun K hK => ?_) AllReadyH.nil
  have HH := hidden hHeld
  clear hHeld
  go_simp
  refine (C8.out _ HH.out).mono ?_
  rintro e wn1 ⟨rfl, hb⟩
  replace B0 := hidden (bl_trans B0.out hb)
  have SN := hidden (HH.out.trans (gbI hb _))
  clear HH hb C8
  go_wp2_with fail
  refine hK.out _ _ SN.out (fun hHeld1 => ?_)
  clear hK K SN
  refine wpAnyH_take (i := 9) (oi := { dst := some 33, op := Op.makeInterface 33 (Operand.tmp 32), type := 20, pos := "rounds.go:93", after := #[{ on := 8, ground := Ground.data }], guard := none }) (v := .iface 33 (.agg #[.int .u64 px.x0, .int .u64 px.x1, .int .u64 px.x2, .int .u64 px.x3])) rfl (by kernel_rfl) (by kernel_rfl) (by kernel_rfl) (fun _ _ _ h => h) (Or.inl ⟨by rfl, fun w0 hSw => ?_⟩) hHeld1 ?_
  · (clear hSw; go_simp)
  simp only [Act.put, List.setIfInBounds_toArray, List.set_cons_zero, List.set_cons_succ]
  refine wpAnyH_ready (rs := [16]) (by kernel_rfl) (by simp) ?_
  refine AllReadyH.cons (o := { dst := some 40, op := Op.call { callee := Callee.invoke (Operand.tmp 38) "Times", args := #[Operand.tmp 39], argTypes := #[26] }, type := 33, pos := "rounds.go:93", after := #[{ on := 14, ground := Ground.data }, { on := 15, ground := Ground.data }, { on := 8, ground := Ground.chain }], guard := none }) rfl (fun K hK => ?_) AllReadyH.nil
  have HH := hidden hHeld1
  clear hHeld1
  go_simp
  refine (C16.out _ HH.out).mono ?_
  rintro e wn2 ⟨rfl, hb⟩
  replace B0 := hidden (bl_trans B0.out hb)
  have SN := hidden (HH.out.trans (gbI hb _))
  clear HH hb C16
  go_wp2_with fail
  refine hK.out _ _ SN.out (fun hHeld2 => ?_)
  clear hK K SN
  refine wpAnyH_ready (rs := [17]) (by kernel_rfl) (by simp) ?_
  refine AllReadyH.cons (o := { dst := some 41, op := Op.call { callee := Callee.invoke (Operand.tmp 33) "Add", args := #[Operand.tmp 40], argTypes := #[33] }, type := 33, pos := "rounds.go:93", after := #[{ on := 9, ground := Ground.data }, { on := 16, ground := Ground.data }, { on := 16, ground := Ground.chain }], guard := none }) rfl (fun K hK => ?_) AllReadyH.nil
  have HH := hidden hHeld2
  clear hHeld2
  go_simp
  refine (C17.out _ HH.out).mono ?_
  rintro e wn3 ⟨rfl, hb⟩
  replace B0 := hidden (bl_trans B0.out hb)
  have SN := hidden (HH.out.trans (gbI hb _))
  clear HH hb C17
  go_wp2_with fail
  refine hK.out _ _ SN.out (fun hHeld3 => ?_)
  clear hK K SN
  refine wpAnyH_take (i := 18) (oi := { dst := some 42, op := Op.indexAddr 29 (Operand.tmp 24) (Operand.tmp 25), type := 0, pos := "rounds.go:93", after := #[{ on := 0, ground := Ground.data }, { on := 1, ground := Ground.data }, { on := 0, ground := Ground.phase }, { on := 1, ground := Ground.phase }, { on := 2, ground := Ground.phase }, { on := 3, ground := Ground.phase }, { on := 4, ground := Ground.phase }, { on := 5, ground := Ground.phase }, { on := 6, ground := Ground.phase }, { on := 7, ground := Ground.phase }, { on := 8, ground := Ground.phase }, { on := 9, ground := Ground.phase }, { on := 10, ground := Ground.phase }, { on := 11, ground := Ground.phase }, { on := 12, ground := Ground.phase }, { on := 13, ground := Ground.phase }, { on := 14, ground := Ground.phase }, { on := 15, ground := Ground.phase }, { on := 16, ground := Ground.phase }, { on := 17, ground := Ground.phase }], guard := none }) (v := .pointer (some ⟨bf, i * 4, none⟩)) rfl (by kernel_rfl) (by kernel_rfl) (by kernel_rfl) (fun _ _ _ h => h) (Or.inl ⟨by rfl, fun w0 hSw => ?_⟩) hHeld3 ?_
  · (clear hSw; go_simp)
  simp only [Act.put, List.setIfInBounds_toArray, List.set_cons_zero, List.set_cons_succ]
  refine wpAnyH_ready (rs := [19]) (by kernel_rfl) (by simp) ?_
  refine AllReadyH.cons (o := { dst := none, op := Op.store 33 (Operand.tmp 42) (Operand.tmp 41), type := 0, pos := "rounds.go:93", after := #[{ on := 18, ground := Ground.data }, { on := 17, ground := Ground.data }, { on := 17, ground := Ground.chain }, { on := 0, ground := Ground.phase }, { on := 1, ground := Ground.phase }, { on := 2, ground := Ground.phase }, { on := 3, ground := Ground.phase }, { on := 4, ground := Ground.phase }, { on := 5, ground := Ground.phase }, { on := 6, ground := Ground.phase }, { on := 7, ground := Ground.phase }, { on := 8, ground := Ground.phase }, { on := 9, ground := Ground.phase }, { on := 10, ground := Ground.phase }, { on := 11, ground := Ground.phase }, { on := 12, ground := Ground.phase }, { on := 13, ground := Ground.phase }, { on := 14, ground := Ground.phase }, { on := 15, ground := Ground.phase }, { on := 16, ground := Ground.phase }, { on := 17, ground := Ground.phase }], guard := none }) rfl (fun K hK => ?_) AllReadyH.nil
  have HH := hidden hHeld3
  clear hHeld3
  obtain ⟨e0, f0, e1, f1, e2, f2, e3, f3⟩ := HF.out _ B0.out
  have SG : Hid (W.grownBy (setS wn3 bf (i * 4) z) (some bf)) := hidden (HH.out.trans (gb_setS _ _ _ _))
  have FQ := hidden (HQ.out _ B0.out)
  unfold setS at SG FQ
  clear HH HF HQ B0 m1 m2 m3
  go_simp
  refine hK.out _ _ SG.out (fun _ => ?_)
  refine wpAnyH_done (by kernel_rfl) ?_ _
  refine NoPanic.normal ?_
  exact FQ.out
end Go.Proofs.YtaejedhdpilhjaaDoor
namespace Go.Proofs.YtaejedhdpilhjaaDoor
open Go.RowKit
set_option linter.unusedVariables false
theorem linfoJ : (Tryd.prog.info? 33).map (fun i => (i.zero, i.size, i.bytes)) = some (some (.agg #[.int .u64 0, .int .u64 0, .int .u64 0, .int .u64 0]), 4, 32) := by kernel_rfl
theorem Tb.keep0 {w w' : World} {b : Nat} (h : Tb w) (hg : w.grownBy w' (some b)) (hb : 0 ≠ b) : Tb w' := by
  have k : ∀ {j : Nat} {v : Value}, w.cell? ⟨0, j, none⟩ = some v → w'.cell? ⟨0, j, none⟩ = some v := fun hc => hg.cell hc (fun e => hb (Option.some.inj e))
  obtain ⟨h0, h1, h2, h3, h4, h5, h6, h7, h8, h9, h10, h11⟩ := h
  exact ⟨k h0, k h1, k h2, k h3, k h4, k h5, k h6, k h7, k h8, k h9, k h10, k h11⟩
/-- x lo + y hi, place by place -/
def bd (x y : E4) (h : Nat) (f : Nat → E4) (i : Nat) : E4 := lst ((lst ((f i).n * x.n)).n + (lst ((f (h + i)).n * y.n)).n)
/-- so far -/
def bdi (x y : E4) (h : Nat) (f : Nat → E4) (i k : Nat) : E4 := if k < i then bd x y h f k else zero4
theorem bdi_next (x y : E4) (h : Nat) (f : Nat → E4) (i j : Nat) : (if j = i then bd x y h f i else bdi x y h f i j) = bdi x y h f (i + 1) j := by
  unfold bdi
  by_cases e : j = i
  · subst e; rw [if_pos rfl, if_pos (by omega)]
  · rw [if_neg e]
    by_cases hl : j < i
    · rw [if_pos hl, if_pos (by omega)]
    · rw [if_neg hl, if_neg (by omega)]
set_option maxRecDepth 100000 in
set_option maxHeartbeats 16000000 in
theorem blend_any (x y : E4) (b o h c : Nat) (f : Nat → E4) (w : World) (hT : Tb w) (hx : x.ok) (hy : y.ok) (hf : ∀ k, k < 2 * h → (f k).ok) (h0 : 0 < h) (hl : h ≤ 1048576) (hc : 2 * h ≤ c) (hR : Rl w b o (2 * h) f) :
    Calls Tryd.prog 45 #[x.v, y.v, .slice (some ⟨b, o, none⟩) (2 * h) c] w fun e w' => ∃ g : Nat, e = .returned (.slice (some ⟨g, 0, none⟩) h h) ∧ w.heap.size ≤ g ∧ Rws w' g h (bd x y h f) ∧ Below w.heap.size w w' := by
  have HT := hidden hT
  have HR := hidden hR
  have HF := hidden hf
  have HXY := hidden (And.intro hx hy)
  have HL := hidden (And.intro h0 hl)
  have HA := hidden (fun w => halves_any b o h c w h0 (by omega) hc)
  have nn0 : (0 : Int) ≤ (h : Int) := by omega
  obtain ⟨i0, hi, hz0, hz1, hz2⟩ := info_parts linfoJ
  have hmk := fun w => run_make (P := Tryd.prog) w 29 33 i0 (.agg #[.int .u64 0, .int .u64 0, .int .u64 0, .int .u64 0]) (by kernel_rfl) hi hz0 .i64 .i64 (h : Int) (h : Int) (by omega) (Int.le_refl _) (by rw [hz2]; omega) (by omega)
  simp only [Int.toNat_natCast, hz1] at hmk
  clear hT hR hf hx hy h0 hl hc hi hz0 hz1 hz2
  have hT3 : Hid (Blc (w.alloc (.cells #[.int .u64 x.x0, .int .u64 x.x1, .int .u64 x.x2, .int .u64 x.x3] 26)) w.heap.size x) := hidden (Blc.new w x 26)
  have B1 := hidden (bl_alloc w (.cells #[.int .u64 x.x0, .int .u64 x.x1, .int .u64 x.x2, .int .u64 x.x3] 26))
  generalize hw1 : w.alloc (.cells #[.int .u64 x.x0, .int .u64 x.x1, .int .u64 x.x2, .int .u64 x.x3] 26) = w1 at hT3 B1
  have sz1 : w1.heap.size = w.heap.size + 1 := by rw [← hw1]; simp
  have hT4 := hidden (Blc.new w1 y 26)
  have B2 := hidden (bl_alloc w1 (.cells #[.int .u64 y.x0, .int .u64 y.x1, .int .u64 y.x2, .int .u64 y.x3] 26))
  have X2 := hidden (hT3.out.keep B2.out)
  have BB := hidden (bl_trans B1.out B2.out)
  rw [sz1] at hT4
  subst hw1
  unfold E4.v
  go_enter Tryd.func45, Tryd.ntmps45
  go_upto_region 1 with fail
  generalize hw2 : (w.alloc (.cells #[.int .u64 x.x0, .int .u64 x.x1, .int .u64 x.x2, .int .u64 x.x3] 26)).alloc (.cells #[.int .u64 y.x0, .int .u64 y.x1, .int .u64 y.x2, .int .u64 y.x3] 26) = w2 at *
  have SZ : Hid (w.heap.size + 1 < w2.heap.size) := hidden (by rw [← hw2]; simp)
  clear hw2 sz1 hT3 B1 B2
  go_upto_region 2 with (first | (go_at_call 49; refine (HA.out _).mono ?_; rintro e w3 ⟨rfl, hb⟩; have B3 := hidden hb; clear hb))
  clear HA
  go_cut [9] (fun vx wx => ∃ bl : Nat, vx = .slice (some ⟨bl, 0, none⟩) h h ∧ w3.heap.size ≤ bl ∧ Rws wx bl h (bdi x y h f 0) ∧ Below w3.heap.size w3 wx)
  case first =>
    have R0 := hidden ((Rws.made w3 h 33).congr (f := bdi x y h f 0) (fun k _ => by unfold bdi; rw [if_neg (by omega)]))
    have B0 := hidden (bl_alloc w3 (.cells (madeCells #[.int .u64 0, .int .u64 0, .int .u64 0, .int .u64 0] (h * 4)) 33))
    go_wp2_with fail
    go_meet
    exact ⟨_, rfl, Nat.le_refl _, R0.out, B0.out⟩
  case rest =>
  obtain ⟨bf, rfl, hbf, r0, b0⟩ := hcut
  have R0 := hidden r0
  have B4 := hidden (bl_trans BB.out (bl_trans B3.out b0))
  have X4 := hidden ((X2.out.keep B3.out).keep b0)
  have Y4 := hidden ((hT4.out.keep B3.out).keep b0)
  have RL := hidden (HR.out.keep B4.out)
  have T4 := hidden (HT.out.keep B4.out)
  have NB : Hid (w.heap.size + 1 < bf ∧ b < w.heap.size) := hidden ⟨by have h1 := SZ.out; have h2 := B3.out.size; omega, World.block_lt_of_cell? w _ (HR.out.c0 0 (by have := HL.out; omega))⟩
  clear r0 b0 hmk B3 X2 hT4 BB HR HT SZ
  generalize wc = w4 at *
  go_wp2_with fail
  go_loopw [21] (fun iv' w' => ∃ k : Nat, k ≤ h ∧ iv' = .int .i64 k ∧ Hid (Rws w' bf h (bdi x y h f k)) ∧ Hid (w4.grownBy w' (some bf))) (fun i _ => h - (intOf i).toNat)
  case atStart => exact ⟨0, by omega, rfl, R0, hidden (World.grownBy.refl _ _)⟩
  case round =>
    clear R0
    obtain ⟨k, hk, rfl, hRk, hG⟩ := hrel
    by_cases hkh : k < h
    · have k0 : (0 : Int) ≤ (k : Int) := by omega
      have k1 : (k : Int) < (h : Int) := by omega
      have w9 : IntKind.i64.wrap ((k : Int) + 1) = (k : Int) + 1 := IntWalk.i64_in _ (by have := HL.out.2; omega)
      go_upto_region 6 with fail
      have nb : b ≠ bf := by have := NB.out; omega
      have n3 : w.heap.size ≠ bf := by have := NB.out; omega
      have n4 : w.heap.size + 1 ≠ bf := by have := NB.out; omega
      have rl := RL.out
      have gc : ∀ {a : Addr} {v : Value}, w4.cell? a = some v → a.block ≠ bf → wr.cell? a = some v := fun hc hn => hG.out.cell hc (fun e => hn (Option.some.inj e))
      have okp := HF.out k (by omega)
      have okq := HF.out (h + k) (by omega)
      obtain ⟨p, hp⟩ : ∃ p, f k = p := ⟨_, rfl⟩
      obtain ⟨q, hq⟩ : ∃ q, f (h + k) = q := ⟨_, rfl⟩
      obtain ⟨px, hpx⟩ : ∃ r, lst (p.n * x.n) = r := ⟨_, rfl⟩
      obtain ⟨qy, hqy⟩ : ∃ r, lst (q.n * y.n) = r := ⟨_, rfl⟩
      obtain ⟨z, hz⟩ : ∃ r, lst (px.n + qy.n) = r := ⟨_, rfl⟩
      have EZ : Hid (bd x y h f k = z) := hidden (by unfold bd; rw [hp, hq, hpx, hqy, hz])
      rw [hp] at okp
      rw [hq] at okq
      have p0 := gc (rl.c0 k (by omega)) nb
      have p1 := gc (rl.c1 k (by omega)) nb
      have p2 := gc (rl.c2 k (by omega)) nb
      have p3 := gc (rl.c3 k (by omega)) nb
      have q0 := gc (rl.c0 (h + k) (by omega)) nb
      have q1 := gc (rl.c1 (h + k) (by omega)) nb
      have q2 := gc (rl.c2 (h + k) (by omega)) nb
      have q3 := gc (rl.c3 (h + k) (by omega)) nb
      rw [hp] at p0 p1 p2 p3
      rw [hq, show o + (h + k) * 4 = o + h * 4 + k * 4 by omega] at q0 q1 q2 q3
      have TT : Hid (∀ v, wr.grownBy v (some bf) → Tb v) := hidden (fun v hv => T4.out.keep0 (hG.out.trans hv) (by have := NB.out; omega))
      have C8 : Hid (∀ v, wr.grownBy v (some bf) → Calls Tryd.prog 67 #[.agg #[.int .u64 p.x0, .int .u64 p.x1, .int .u64 p.x2, .int .u64 p.x3], .agg #[.int .u64 x.x0, .int .u64 x.x1, .int .u64 x.x2, .int .u64 x.x3]] v fun e w' => e = .returned (.agg #[.int .u64 px.x0, .int .u64 px.x1, .int .u64 px.x2, .int .u64 px.x3]) ∧ Below v.heap.size v w') := hidden (fun v hv => by rw [← hpx]; exact lTimes_any p x okp HXY.out.1 v (TT.out v hv))
      have C16 : Hid (∀ v, wr.grownBy v (some bf) → Calls Tryd.prog 67 #[.agg #[.int .u64 q.x0, .int .u64 q.x1, .int .u64 q.x2, .int .u64 q.x3], .agg #[.int .u64 y.x0, .int .u64 y.x1, .int .u64 y.x2, .int .u64 y.x3]] v fun e w' => e = .returned (.agg #[.int .u64 qy.x0, .int .u64 qy.x1, .int .u64 qy.x2, .int .u64 qy.x3]) ∧ Below v.heap.size v w') := hidden (fun v hv => by rw [← hqy]; exact lTimes_any q y okq HXY.out.2 v (TT.out v hv))
      have C17 : Hid (∀ v, wr.grownBy v (some bf) → Calls Tryd.prog 65 #[.agg #[.int .u64 px.x0, .int .u64 px.x1, .int .u64 px.x2, .int .u64 px.x3], .agg #[.int .u64 qy.x0, .int .u64 qy.x1, .int .u64 qy.x2, .int .u64 qy.x3]] v fun e w' => e = .returned (.agg #[.int .u64 z.x0, .int .u64 z.x1, .int .u64 z.x2, .int .u64 z.x3]) ∧ Below v.heap.size v w') := hidden (fun v hv => by rw [← hz]; exact lAdd_any px qy (by rw [← hpx]; exact lst_ok _) (by rw [← hqy]; exact lst_ok _) v (TT.out v hv))
      have HFF : Hid (∀ v, Below wr.heap.size wr v → v.cell? ⟨bf, k * 4, none⟩ = some (.int .u64 0) ∧ v.frozen? ⟨bf, k * 4, none⟩ = false ∧ v.cell? ⟨bf, k * 4 + 1, none⟩ = some (.int .u64 0) ∧ v.frozen? ⟨bf, k * 4 + 1, none⟩ = false ∧ v.cell? ⟨bf, k * 4 + 2, none⟩ = some (.int .u64 0) ∧ v.frozen? ⟨bf, k * 4 + 2, none⟩ = false ∧ v.cell? ⟨bf, k * 4 + 3, none⟩ = some (.int .u64 0) ∧ v.frozen? ⟨bf, k * 4 + 3, none⟩ = false) := hidden (fun v hv => by
        have r := hRk.out.keep hv
        have a0 := r.c0 k hkh
        have a1 := r.c1 k hkh
        have a2 := r.c2 k hkh
        have a3 := r.c3 k hkh
        rw [show bdi x y h f k k = zero4 by unfold bdi; rw [if_neg (by omega)]] at a0 a1 a2 a3
        exact ⟨a0, r.fr _ (by omega), a1, r.fr _ (by omega), a2, r.fr _ (by omega), a3, r.fr _ (by omega)⟩)
      clear hpx hqy hz okp okq hp hq TT
      refine bl6 _ b o h bf k w.heap.size (w.heap.size + 1) p q x y px qy z _ _ _ _ _ _ _ _ _ _ _ _ _ _ _ _ _ _ _ _ _ _ _ _ _ _ _ _ _ _ _ _ _ _ _ _ _ _ _ wr k0 k1 nb n3 n4 p0 p1 p2 p3 q0 q1 q2 q3 (gc X4.out.c0 n3) (gc X4.out.c1 n3) (gc X4.out.c2 n3) (gc X4.out.c3 n3) (gc Y4.out.c0 n4) (gc Y4.out.c1 n4) (gc Y4.out.c2 n4) (gc Y4.out.c3 n4) C8 C16 C17 HFF (hidden ?_)
      intro wy hby
      have RN := hidden (((hRk.out.keep hby).at k hkh z).congr (f := bdi x y h f (k + 1)) (fun j _ => by rw [← EZ.out]; exact bdi_next x y h f k j))
      have GN := hidden ((hG.out.trans (gbI hby _)).trans (gb_setS wy bf (k * 4) z))
      generalize setS wy bf (k * 4) z = wz at RN GN ⊢
      clear hby gc p0 p1 p2 p3 q0 q1 q2 q3 C8 C16 C17 HFF rl hRk hG
      go_wp2_with fail
      go_roundw
      case rel => exact ⟨k + 1, by omega, by go_num, RN, GN⟩
      case measure => simp [intOf]; omega
    · obtain rfl : h = k := by omega
      have lq : ¬ (h : Int) < (h : Int) := by omega
      have RF := hidden (hRk.out.congr (f := bd x y h f) (fun j hj => if_pos hj))
      have BF := hidden (B4.out.grown hG.out (B4.out.size) (fun j hj => by obtain rfl := Option.some.inj hj; have := NB.out; omega))
      have GE : Hid (w.heap.size ≤ bf) := hidden (by have := NB.out; omega)
      clear hRk hG
      go_wp2_with fail
      refine bodyPost_ret (v := .slice (some ⟨bf, 0, none⟩) h h) (by simp [results, Tryd.results45, go_sem]) rfl ⟨bf, rfl, GE.out, RF.out, BF.out⟩
end Go.Proofs.YtaejedhdpilhjaaDoor
