import Derived.Test.YtbkiobfjabadeaaDoorYh
namespace Go.Proofs.YtbkiobfjabadeaaDoor
open Go.RowKit
set_option linter.unusedVariables false
theorem range_seg {w : World} {b off k : Nat} {cs ds : List Value} (h : w.rangeAt b 0 cs) (hs : (cs.drop off).take k = ds) : w.rangeAt b off ds := fun j v hv => by
  rw [← hs, List.getElem?_take] at hv
  split at hv
  · rw [List.getElem?_drop] at hv
    have := h (off + j) v hv
    rwa [Nat.zero_add] at this
  · cases hv
theorem run_loadS (w : World) (b o : Nat) (v : Value) (hc : w.cell? ⟨b, o, none⟩ = some v) : (loadVar 29 ⟨b, o, none⟩).run Tryd.prog w = .ok v w := by
  go_simp
theorem run_loadR (w : World) (b o : Nat) (v : Value) (hc : w.cell? ⟨b, o, none⟩ = some v) : (loadVar 34 ⟨b, o, none⟩).run Tryd.prog w = .ok v w := by
  go_simp
theorem wp_loadX {op : Oper} {a : Act} {w : World} {K : Act → World → Prop} {Q : Exit → Act → World → Prop} (ty : TypeId) (x : Operand) (ho : op.op = .load ty x) (b o : Nat) (hx : a.eval x = .pointer (some ⟨b, o, none⟩)) (v : Value) (hr : (loadVar ty ⟨b, o, none⟩).run Tryd.prog w = .ok v w) (h : K (a.put op.dst v) w) : op.wp Tryd.prog a w K Q := by
  unfold Oper.wp execOp
  simp only [ho, hx, Instr.loadAt, Instr.sureAddr, Sem.run_bind, Sem.run_pure, Result.andThen_ok, hr]
  exact h
theorem wp_storeE {P : Program} {op : Oper} {a : Act} {w : World} {K : Act → World → Prop} {Q : Exit → Act → World → Prop} (ty : TypeId) (x y : Operand) (ho : op.op = .store ty x y) (b o : Nat) (cs : List Value) (hx : a.eval x = .pointer (some ⟨b, o, none⟩)) (hy : a.eval y = .agg cs.toArray) (ht : w.there b o cs.length) (hi : (P.info? ty).map (·.size) = some cs.length) (h1 : cs.toArray.all (·.oneCell') = true) (hd : op.dst = none)
    (h : ∀ w', w' = w.setCells b o cs → K a w') : op.wp P a w K Q := by
  refine wp_store_mid ty x y ho b o cs.toArray hx hy (by simpa using ht) (by simpa using hi) h1 ?_
  have := h _ rfl
  simpa [hd, Act.put] using this
theorem wp_storeV {P : Program} {op : Oper} {a : Act} {w : World} {K : Act → World → Prop} {Q : Exit → Act → World → Prop} (ty : TypeId) (x y : Operand) (ho : op.op = .store ty x y) (b o : Nat) (p : Option Addr) (n c : Nat) (hx : a.eval x = .pointer (some ⟨b, o, none⟩)) (hy : a.eval y = .slice p n c) (ht : w.there b o 1) (hi : (P.info? ty).map (·.size) = some 1) (hd : op.dst = none)
    (h : ∀ w', w' = w.setCells b o [.slice p n c] → K a w') : op.wp P a w K Q := by
  have hr : (storeVar ty ⟨b, o, none⟩ (.slice p n c)).run P w = .ok () (w.setCells b o [.slice p n c]) := run_storeVar_mid w b o ty #[.slice p n c] ht hi (by simp [Value.oneCell'])
  have := h _ rfl
  unfold Oper.wp execOp
  simp only [ho, hx, hy, Instr.storeAt, Instr.sureAddr, Sem.run_bind, Sem.run_pure, Result.andThen_ok, hr]
  have h2 : K (a.put op.dst undef) (w.setCells b o [.slice p n c]) := by rw [hd]; exact this
  exact h2
theorem i1_s : (Tryd.prog.info? 29).map (·.size) = some 1 := by kernel_rfl
theorem i1_r : (Tryd.prog.info? 34).map (·.size) = some 1 := by kernel_rfl
theorem there_part {w : World} {b n off k : Nat} (h : w.there b 0 n) (hk : off + k ≤ n) : w.there b off k := fun j hj => by
  have := h (off + j) (by omega)
  rwa [Nat.zero_add] at this
theorem there_setO {w : World} {b n : Nat} (h : w.there b 0 n) (c o : Nat) (vs : List Value) : (w.setCells c o vs).there b 0 n := fun j hj =>
  ⟨World.isSome_setCells c vs o w _ (h j hj).1, by rw [World.frozen?_setCells]; exact (h j hj).2⟩
def wh9o : Array Oper := #[{ dst := some 26, op := Op.fieldAddr 31 (Operand.tmp 6) 0, type := 0, pos := "whole.go:21", after := #[], guard := none },
  { dst := some 27, op := Op.load 28 (Operand.tmp 26), type := 28, pos := "whole.go:21", after := #[{ on := 0, ground := Ground.data }], guard := none },
  { dst := some 28, op := Op.fieldAddr 31 (Operand.tmp 8) 0, type := 0, pos := "whole.go:21", after := #[], guard := none },
  { dst := some 29, op := Op.load 28 (Operand.tmp 28), type := 28, pos := "whole.go:21", after := #[{ on := 2, ground := Ground.data }], guard := none },
  { dst := some 30, op := Op.call { callee := Callee.value (Operand.func 12), args := #[Operand.tmp 27, Operand.tmp 29], argTypes := #[28, 28] }, type := 28, pos := "whole.go:21", after := #[{ on := 1, ground := Ground.data }, { on := 3, ground := Ground.data }], guard := none },
  { dst := some 31, op := Op.fieldAddr 31 (Operand.tmp 6) 1, type := 0, pos := "whole.go:21", after := #[], guard := none },
  { dst := some 32, op := Op.load 28 (Operand.tmp 31), type := 28, pos := "whole.go:21", after := #[{ on := 5, ground := Ground.data }], guard := none },
  { dst := some 33, op := Op.fieldAddr 31 (Operand.tmp 8) 1, type := 0, pos := "whole.go:21", after := #[], guard := none },
  { dst := some 34, op := Op.load 28 (Operand.tmp 33), type := 28, pos := "whole.go:21", after := #[{ on := 7, ground := Ground.data }], guard := none },
  { dst := some 35, op := Op.call { callee := Callee.value (Operand.func 12), args := #[Operand.tmp 32, Operand.tmp 34], argTypes := #[28, 28] }, type := 28, pos := "whole.go:21", after := #[{ on := 6, ground := Ground.data }, { on := 8, ground := Ground.data }, { on := 4, ground := Ground.chain }], guard := none },
  { dst := some 36, op := Op.fieldAddr 31 (Operand.tmp 6) 0, type := 0, pos := "whole.go:21", after := #[{ on := 0, ground := Ground.phase }, { on := 1, ground := Ground.phase }, { on := 2, ground := Ground.phase }, { on := 3, ground := Ground.phase }, { on := 4, ground := Ground.phase }, { on := 5, ground := Ground.phase }, { on := 6, ground := Ground.phase }, { on := 7, ground := Ground.textOnly Departure.lateStores }, { on := 8, ground := Ground.textOnly Departure.lateStores }, { on := 9, ground := Ground.textOnly Departure.lateStoresUnsure }], guard := none },
  { dst := none, op := Op.store 28 (Operand.tmp 36) (Operand.tmp 30), type := 0, pos := "whole.go:21", after := #[{ on := 10, ground := Ground.data }, { on := 4, ground := Ground.data }, { on := 9, ground := Ground.chain }, { on := 0, ground := Ground.phase }, { on := 1, ground := Ground.phase }, { on := 2, ground := Ground.phase }, { on := 3, ground := Ground.phase }, { on := 4, ground := Ground.phase }, { on := 5, ground := Ground.phase }, { on := 6, ground := Ground.phase }, { on := 7, ground := Ground.textOnly Departure.lateStores }, { on := 8, ground := Ground.textOnly Departure.lateStores }, { on := 9, ground := Ground.textOnly Departure.lateStoresUnsure }], guard := none },
  { dst := some 37, op := Op.fieldAddr 31 (Operand.tmp 6) 1, type := 0, pos := "whole.go:21", after := #[{ on := 0, ground := Ground.phase }, { on := 1, ground := Ground.phase }, { on := 2, ground := Ground.phase }, { on := 3, ground := Ground.phase }, { on := 4, ground := Ground.phase }, { on := 5, ground := Ground.phase }, { on := 6, ground := Ground.phase }, { on := 7, ground := Ground.phase }, { on := 8, ground := Ground.phase }, { on := 9, ground := Ground.phase }, { on := 10, ground := Ground.phase }, { on := 11, ground := Ground.phase }], guard := none },
  { dst := none, op := Op.store 28 (Operand.tmp 37) (Operand.tmp 35), type := 0, pos := "whole.go:21", after := #[{ on := 12, ground := Ground.data }, { on := 9, ground := Ground.data }, { on := 11, ground := Ground.chain }, { on := 0, ground := Ground.phase }, { on := 1, ground := Ground.phase }, { on := 2, ground := Ground.phase }, { on := 3, ground := Ground.phase }, { on := 4, ground := Ground.phase }, { on := 5, ground := Ground.phase }, { on := 6, ground := Ground.phase }, { on := 7, ground := Ground.phase }, { on := 8, ground := Ground.phase }, { on := 9, ground := Ground.phase }, { on := 10, ground := Ground.phase }, { on := 11, ground := Ground.phase }], guard := none }]
set_option maxRecDepth 100000 in
set_option maxHeartbeats 16000000 in
theorem wh9 (Q : Exit → Act → World → Prop) (T6 T8 : Nat) (a r s t ex ey A B : E4) (VL VR : Value) (u0 u1 u2 u3 u4 u5 u7 u9 u10 u11 u12 u13 u14 u15 u16 u17 u18 u19 u20 u21 u22 u23 u24 u25 u26 u27 u28 u29 u30 u31 u32 u33 u34 u35 u36 u37 u38 u39 u40 u41 u42 u43 u44 u45 u46 u47 u48 u49 u50 u51 u52 u53 u54 u55 u56 u57 u58 u59 u60 u61 u62 u63 : Value) (W : World)
    (RG0 : W.rangeAt T6 0 (tc a r s t VL VR)) (TH0 : W.there T6 0 18) (ne86 : T8 ≠ T6) (cx0 : W.cell? ⟨T8, 0, none⟩ = some (.int .u64 ex.x0)) (cx1 : W.cell? ⟨T8, 1, none⟩ = some (.int .u64 ex.x1)) (cx2 : W.cell? ⟨T8, 2, none⟩ = some (.int .u64 ex.x2)) (cx3 : W.cell? ⟨T8, 3, none⟩ = some (.int .u64 ex.x3)) (cy0 : W.cell? ⟨T8, 4, none⟩ = some (.int .u64 ey.x0)) (cy1 : W.cell? ⟨T8, 5, none⟩ = some (.int .u64 ey.x1)) (cy2 : W.cell? ⟨T8, 6, none⟩ = some (.int .u64 ey.x2)) (cy3 : W.cell? ⟨T8, 7, none⟩ = some (.int .u64 ey.x3))
    (C4 : Hid (∀ x, W.grownBy x (some T6) → Calls Tryd.prog 12 #[.agg #[.int .u64 a.x0, .int .u64 a.x1, .int .u64 a.x2, .int .u64 a.x3], .agg #[.int .u64 ex.x0, .int .u64 ex.x1, .int .u64 ex.x2, .int .u64 ex.x3]] x fun e w' => e = .returned (.agg #[.int .u64 A.x0, .int .u64 A.x1, .int .u64 A.x2, .int .u64 A.x3]) ∧ Below x.heap.size x w')) (C9 : Hid (∀ x, W.grownBy x (some T6) → Calls Tryd.prog 12 #[.agg #[.int .u64 r.x0, .int .u64 r.x1, .int .u64 r.x2, .int .u64 r.x3], .agg #[.int .u64 ey.x0, .int .u64 ey.x1, .int .u64 ey.x2, .int .u64 ey.x3]] x fun e w' => e = .returned (.agg #[.int .u64 B.x0, .int .u64 B.x1, .int .u64 B.x2, .int .u64 B.x3]) ∧ Below x.heap.size x w'))
    (HQ : Hid (∀ wz, W.grownBy wz (some T6) → wz.rangeAt T6 0 (tc A B s t VL VR) → wz.there T6 0 18 → Q .normal ⟨#[u0, u1, u2, u3, u4, u5, .pointer (some ⟨T6, 0, none⟩), u7, .pointer (some ⟨T8, 0, none⟩), u9, u10, u11, u12, u13, u14, u15, u16, u17, u18, u19, u20, u21, u22, u23, u24, u25, .pointer (some ⟨T6, 0, none⟩), .agg #[.int .u64 a.x0, .int .u64 a.x1, .int .u64 a.x2, .int .u64 a.x3], .pointer (some ⟨T8, 0, none⟩), .agg #[.int .u64 ex.x0, .int .u64 ex.x1, .int .u64 ex.x2, .int .u64 ex.x3], .agg #[.int .u64 A.x0, .int .u64 A.x1, .int .u64 A.x2, .int .u64 A.x3], .pointer (some ⟨T6, 4, none⟩), .agg #[.int .u64 r.x0, .int .u64 r.x1, .int .u64 r.x2, .int .u64 r.x3], .pointer (some ⟨T8, 4, none⟩), .agg #[.int .u64 ey.x0, .int .u64 ey.x1, .int .u64 ey.x2, .int .u64 ey.x3], .agg #[.int .u64 B.x0, .int .u64 B.x1, .int .u64 B.x2, .int .u64 B.x3], .pointer (some ⟨T6, 0, none⟩), .pointer (some ⟨T6, 4, none⟩), u38, u39, u40, u41, u42, u43, u44, u45, u46, u47, u48, u49, u50, u51, u52, u53, u54, u55, u56, u57, u58, u59, u60, u61, u62, u63], []⟩ wz)) : (Code.region 9 wh9o true).wp Tryd.prog Q ⟨#[u0, u1, u2, u3, u4, u5, .pointer (some ⟨T6, 0, none⟩), u7, .pointer (some ⟨T8, 0, none⟩), u9, u10, u11, u12, u13, u14, u15, u16, u17, u18, u19, u20, u21, u22, u23, u24, u25, u26, u27, u28, u29, u30, u31, u32, u33, u34, u35, u36, u37, u38, u39, u40, u41, u42, u43, u44, u45, u46, u47, u48, u49, u50, u51, u52, u53, u54, u55, u56, u57, u58, u59, u60, u61, u62, u63], []⟩ W := by
  have U28 : Hid (Tryd.prog.underlying 28 = some _) := hidden Tryd.underlying28
  have RG := hidden (range_keepM RG0 (bl_drew W))
  have TH := hidden (there_keepM TH0 (bl_drew W))
  clear RG0 TH0
  unfold wh9o
  refine wp_region_noPanic ?_
  refine wp_region_held_drew (S := fun x => W.grownBy x (some T6)) (by kernel_rfl) (gbI (bl_drew W) _) (fun hH0 => ?_)
  refine wpAnyH_take (i := 0) (oi := { dst := some 26, op := Op.fieldAddr 31 (Operand.tmp 6) 0, type := 0, pos := "whole.go:21", after := #[], guard := none }) (v := .pointer (some ⟨T6, 0, none⟩)) rfl (by kernel_rfl) (by kernel_rfl) (by kernel_rfl) (fun _ _ _ h => h) (Or.inl ⟨by rfl, fun w0 hSw => ?_⟩) hH0 ?_
  · (clear hSw; go_simp)
  simp only [Act.put, List.setIfInBounds_toArray, List.set_cons_zero, List.set_cons_succ]
  refine wpAnyH_take (i := 2) (oi := { dst := some 28, op := Op.fieldAddr 31 (Operand.tmp 8) 0, type := 0, pos := "whole.go:21", after := #[], guard := none }) (v := .pointer (some ⟨T8, 0, none⟩)) rfl (by kernel_rfl) (by kernel_rfl) (by kernel_rfl) (fun _ _ _ h => h) (Or.inl ⟨by rfl, fun w0 hSw => ?_⟩) hH0 ?_
  · (clear hSw; go_simp)
  simp only [Act.put, List.setIfInBounds_toArray, List.set_cons_zero, List.set_cons_succ]
  refine wpAnyH_take (i := 5) (oi := { dst := some 31, op := Op.fieldAddr 31 (Operand.tmp 6) 1, type := 0, pos := "whole.go:21", after := #[], guard := none }) (v := .pointer (some ⟨T6, 4, none⟩)) rfl (by kernel_rfl) (by kernel_rfl) (by kernel_rfl) (fun _ _ _ h => h) (Or.inl ⟨by rfl, fun w0 hSw => ?_⟩) hH0 ?_
  · (clear hSw; go_simp)
  simp only [Act.put, List.setIfInBounds_toArray, List.set_cons_zero, List.set_cons_succ]
  refine wpAnyH_take (i := 7) (oi := { dst := some 33, op := Op.fieldAddr 31 (Operand.tmp 8) 1, type := 0, pos := "whole.go:21", after := #[], guard := none }) (v := .pointer (some ⟨T8, 4, none⟩)) rfl (by kernel_rfl) (by kernel_rfl) (by kernel_rfl) (fun _ _ _ h => h) (Or.inl ⟨by rfl, fun w0 hSw => ?_⟩) hH0 ?_
  · (clear hSw; go_simp)
  simp only [Act.put, List.setIfInBounds_toArray, List.set_cons_zero, List.set_cons_succ]
  refine wpAnyH_take (i := 3) (oi := { dst := some 29, op := Op.load 28 (Operand.tmp 28), type := 28, pos := "whole.go:21", after := #[{ on := 2, ground := Ground.data }], guard := none }) (v := .agg #[.int .u64 ex.x0, .int .u64 ex.x1, .int .u64 ex.x2, .int .u64 ex.x3]) rfl (by kernel_rfl) (by kernel_rfl) (by kernel_rfl) (fun _ _ _ h => h) (Or.inl ⟨by rfl, fun w0 hSw => ?_⟩) hH0 ?_
  · (have hS : W.grownBy w0 (some T6) := hSw; have a0 := hS.cell cx0 (fun e => ne86 (Option.some.inj e)); have a1 := hS.cell cx1 (fun e => ne86 (Option.some.inj e)); have a2 := hS.cell cx2 (fun e => ne86 (Option.some.inj e)); have a3 := hS.cell cx3 (fun e => ne86 (Option.some.inj e)); clear hS hSw; go_simp)
  simp only [Act.put, List.setIfInBounds_toArray, List.set_cons_zero, List.set_cons_succ]
  refine wpAnyH_take (i := 8) (oi := { dst := some 34, op := Op.load 28 (Operand.tmp 33), type := 28, pos := "whole.go:21", after := #[{ on := 7, ground := Ground.data }], guard := none }) (v := .agg #[.int .u64 ey.x0, .int .u64 ey.x1, .int .u64 ey.x2, .int .u64 ey.x3]) rfl (by kernel_rfl) (by kernel_rfl) (by kernel_rfl) (fun _ _ _ h => h) (Or.inl ⟨by rfl, fun w0 hSw => ?_⟩) hH0 ?_
  · (have hS : W.grownBy w0 (some T6) := hSw; have a0 := hS.cell cy0 (fun e => ne86 (Option.some.inj e)); have a1 := hS.cell cy1 (fun e => ne86 (Option.some.inj e)); have a2 := hS.cell cy2 (fun e => ne86 (Option.some.inj e)); have a3 := hS.cell cy3 (fun e => ne86 (Option.some.inj e)); clear hS hSw; go_simp)
  simp only [Act.put, List.setIfInBounds_toArray, List.set_cons_zero, List.set_cons_succ]
  refine wpAnyH_ready (rs := [1, 6]) (by kernel_rfl) (by simp) ?_
  refine AllReadyH.cons (o := { dst := some 27, op := Op.load 28 (Operand.tmp 26), type := 28, pos := "whole.go:21", after := #[{ on := 0, ground := Ground.data }], guard := none }) rfl (fun K hK => ?_) (AllReadyH.cons (o := { dst := some 32, op := Op.load 28 (Operand.tmp 31), type := 28, pos := "whole.go:21", after := #[{ on := 5, ground := Ground.data }], guard := none }) rfl (fun K hK => ?_) AllReadyH.nil)
  · have HH := hidden hH0
    clear hH0
    refine wp_load_mid 28 _ rfl T6 0 (by rfl) [.int .u64 a.x0, .int .u64 a.x1, .int .u64 a.x2, .int .u64 a.x3] _ (range_seg (k := 4) RG.out rfl) U28.out rfl i4_s ?_
    simp only [Act.put, List.setIfInBounds_toArray, List.set_cons_zero, List.set_cons_succ]
    have SN := HH
    clear HH
    refine hK.out _ _ SN.out (fun hH1 => ?_)
    clear hK K SN
    refine wpAnyH_ready (rs := [4, 6]) (by kernel_rfl) (by simp) ?_
    refine AllReadyH.cons (o := { dst := some 30, op := Op.call { callee := Callee.value (Operand.func 12), args := #[Operand.tmp 27, Operand.tmp 29], argTypes := #[28, 28] }, type := 28, pos := "whole.go:21", after := #[{ on := 1, ground := Ground.data }, { on := 3, ground := Ground.data }], guard := none }) rfl (fun K hK => ?_) (AllReadyH.cons (o := { dst := some 32, op := Op.load 28 (Operand.tmp 31), type := 28, pos := "whole.go:21", after := #[{ on := 5, ground := Ground.data }], guard := none }) rfl (fun K hK => ?_) AllReadyH.nil)
    · have HH := hidden hH1
      clear hH1
      go_simp
      refine (C4.out _ HH.out).mono ?_
      rintro e wn2 ⟨rfl, hb⟩
      replace RG := hidden (range_keepM RG.out hb)
      replace TH := hidden (there_keepM TH.out hb)
      have SN := hidden (HH.out.trans (gbI hb _))
      clear HH C4 hb
      go_wp2_with fail
      refine hK.out _ _ SN.out (fun hH2 => ?_)
      clear hK K SN
      refine wpAnyH_ready (rs := [6]) (by kernel_rfl) (by simp) ?_
      refine AllReadyH.cons (o := { dst := some 32, op := Op.load 28 (Operand.tmp 31), type := 28, pos := "whole.go:21", after := #[{ on := 5, ground := Ground.data }], guard := none }) rfl (fun K hK => ?_) AllReadyH.nil
      have HH := hidden hH2
      clear hH2
      refine wp_load_mid 28 _ rfl T6 4 (by rfl) [.int .u64 r.x0, .int .u64 r.x1, .int .u64 r.x2, .int .u64 r.x3] _ (range_seg (k := 4) RG.out rfl) U28.out rfl i4_s ?_
      simp only [Act.put, List.setIfInBounds_toArray, List.set_cons_zero, List.set_cons_succ]
      have SN := HH
      clear HH
      refine hK.out _ _ SN.out (fun hH3 => ?_)
      clear hK K SN
      refine wpAnyH_take (i := 10) (oi := { dst := some 36, op := Op.fieldAddr 31 (Operand.tmp 6) 0, type := 0, pos := "whole.go:21", after := #[{ on := 0, ground := Ground.phase }, { on := 1, ground := Ground.phase }, { on := 2, ground := Ground.phase }, { on := 3, ground := Ground.phase }, { on := 4, ground := Ground.phase }, { on := 5, ground := Ground.phase }, { on := 6, ground := Ground.phase }, { on := 7, ground := Ground.textOnly Departure.lateStores }, { on := 8, ground := Ground.textOnly Departure.lateStores }, { on := 9, ground := Ground.textOnly Departure.lateStoresUnsure }], guard := none }) (v := .pointer (some ⟨T6, 0, none⟩)) rfl (by kernel_rfl) (by kernel_rfl) (by kernel_rfl) (fun _ _ _ h => h) (Or.inl ⟨by rfl, fun w0 hSw => ?_⟩) hH3 ?_
      · (clear hSw; go_simp)
      simp only [Act.put, List.setIfInBounds_toArray, List.set_cons_zero, List.set_cons_succ]
      refine wpAnyH_ready (rs := [9]) (by kernel_rfl) (by simp) ?_
      refine AllReadyH.cons (o := { dst := some 35, op := Op.call { callee := Callee.value (Operand.func 12), args := #[Operand.tmp 32, Operand.tmp 34], argTypes := #[28, 28] }, type := 28, pos := "whole.go:21", after := #[{ on := 6, ground := Ground.data }, { on := 8, ground := Ground.data }, { on := 4, ground := Ground.chain }], guard := none }) rfl (fun K hK => ?_) AllReadyH.nil
      have HH := hidden hH3
      clear hH3
      go_simp
      refine (C9.out _ HH.out).mono ?_
      rintro e wn4 ⟨rfl, hb⟩
      replace RG := hidden (range_keepM RG.out hb)
      replace TH := hidden (there_keepM TH.out hb)
      have SN := hidden (HH.out.trans (gbI hb _))
      clear HH C9 hb
      go_wp2_with fail
      refine hK.out _ _ SN.out (fun hH4 => ?_)
      clear hK K SN
      refine wpAnyH_ready (rs := [11]) (by kernel_rfl) (by simp) ?_
      refine AllReadyH.cons (o := { dst := none, op := Op.store 28 (Operand.tmp 36) (Operand.tmp 30), type := 0, pos := "whole.go:21", after := #[{ on := 10, ground := Ground.data }, { on := 4, ground := Ground.data }, { on := 9, ground := Ground.chain }, { on := 0, ground := Ground.phase }, { on := 1, ground := Ground.phase }, { on := 2, ground := Ground.phase }, { on := 3, ground := Ground.phase }, { on := 4, ground := Ground.phase }, { on := 5, ground := Ground.phase }, { on := 6, ground := Ground.phase }, { on := 7, ground := Ground.textOnly Departure.lateStores }, { on := 8, ground := Ground.textOnly Departure.lateStores }, { on := 9, ground := Ground.textOnly Departure.lateStoresUnsure }], guard := none }) rfl (fun K hK => ?_) AllReadyH.nil
      have HH := hidden hH4
      clear hH4
      refine wp_storeE 28 _ _ rfl T6 0 ([.int .u64 A.x0, .int .u64 A.x1, .int .u64 A.x2, .int .u64 A.x3]) (by rfl) (by rfl) (there_part TH.out (by simp)) i4_s (one4 _) rfl (fun wn5 hw => ?_)
      replace RG := hidden (show World.rangeAt _ T6 0 (tc A r s t VL VR) from range_pt RG.out 0 [.int .u64 A.x0, .int .u64 A.x1, .int .u64 A.x2, .int .u64 A.x3] (by simp [tc]))
      replace TH := hidden (there_setO TH.out T6 0 [.int .u64 A.x0, .int .u64 A.x1, .int .u64 A.x2, .int .u64 A.x3])
      have SN := hidden (HH.out.trans (gb_setCells T6 [.int .u64 A.x0, .int .u64 A.x1, .int .u64 A.x2, .int .u64 A.x3] 0 _))
      rw [← hw] at RG TH SN
      clear HH hw
      refine hK.out _ _ SN.out (fun hH5 => ?_)
      clear hK K SN
      refine wpAnyH_take (i := 12) (oi := { dst := some 37, op := Op.fieldAddr 31 (Operand.tmp 6) 1, type := 0, pos := "whole.go:21", after := #[{ on := 0, ground := Ground.phase }, { on := 1, ground := Ground.phase }, { on := 2, ground := Ground.phase }, { on := 3, ground := Ground.phase }, { on := 4, ground := Ground.phase }, { on := 5, ground := Ground.phase }, { on := 6, ground := Ground.phase }, { on := 7, ground := Ground.phase }, { on := 8, ground := Ground.phase }, { on := 9, ground := Ground.phase }, { on := 10, ground := Ground.phase }, { on := 11, ground := Ground.phase }], guard := none }) (v := .pointer (some ⟨T6, 4, none⟩)) rfl (by kernel_rfl) (by kernel_rfl) (by kernel_rfl) (fun _ _ _ h => h) (Or.inl ⟨by rfl, fun w0 hSw => ?_⟩) hH5 ?_
      · (clear hSw; go_simp)
      simp only [Act.put, List.setIfInBounds_toArray, List.set_cons_zero, List.set_cons_succ]
      refine wpAnyH_ready (rs := [13]) (by kernel_rfl) (by simp) ?_
      refine AllReadyH.cons (o := { dst := none, op := Op.store 28 (Operand.tmp 37) (Operand.tmp 35), type := 0, pos := "whole.go:21", after := #[{ on := 12, ground := Ground.data }, { on := 9, ground := Ground.data }, { on := 11, ground := Ground.chain }, { on := 0, ground := Ground.phase }, { on := 1, ground := Ground.phase }, { on := 2, ground := Ground.phase }, { on := 3, ground := Ground.phase }, { on := 4, ground := Ground.phase }, { on := 5, ground := Ground.phase }, { on := 6, ground := Ground.phase }, { on := 7, ground := Ground.phase }, { on := 8, ground := Ground.phase }, { on := 9, ground := Ground.phase }, { on := 10, ground := Ground.phase }, { on := 11, ground := Ground.phase }], guard := none }) rfl (fun K hK => ?_) AllReadyH.nil
      have HH := hidden hH5
      clear hH5
      refine wp_storeE 28 _ _ rfl T6 4 ([.int .u64 B.x0, .int .u64 B.x1, .int .u64 B.x2, .int .u64 B.x3]) (by rfl) (by rfl) (there_part TH.out (by simp)) i4_s (one4 _) rfl (fun wn6 hw => ?_)
      replace RG := hidden (show World.rangeAt _ T6 0 (tc A B s t VL VR) from range_pt RG.out 4 [.int .u64 B.x0, .int .u64 B.x1, .int .u64 B.x2, .int .u64 B.x3] (by simp [tc]))
      replace TH := hidden (there_setO TH.out T6 4 [.int .u64 B.x0, .int .u64 B.x1, .int .u64 B.x2, .int .u64 B.x3])
      have SN := hidden (HH.out.trans (gb_setCells T6 [.int .u64 B.x0, .int .u64 B.x1, .int .u64 B.x2, .int .u64 B.x3] 4 _))
      rw [← hw] at RG TH SN
      clear HH hw
      refine hK.out _ _ SN.out (fun hH6 => ?_)
      clear hK K SN
      have HH := hidden hH6
      have FQ := hidden (HQ.out _ HH.out RG.out TH.out)
      refine wpAnyH_done (by kernel_rfl) ?_ _
      refine NoPanic.normal ?_
      exact FQ.out
    · have HH := hidden hH1
      clear hH1
      refine wp_load_mid 28 _ rfl T6 4 (by rfl) [.int .u64 r.x0, .int .u64 r.x1, .int .u64 r.x2, .int .u64 r.x3] _ (range_seg (k := 4) RG.out rfl) U28.out rfl i4_s ?_
      simp only [Act.put, List.setIfInBounds_toArray, List.set_cons_zero, List.set_cons_succ]
      have SN := HH
      clear HH
      refine hK.out _ _ SN.out (fun hH2 => ?_)
      clear hK K SN
      refine wpAnyH_ready (rs := [4]) (by kernel_rfl) (by simp) ?_
      refine AllReadyH.cons (o := { dst := some 30, op := Op.call { callee := Callee.value (Operand.func 12), args := #[Operand.tmp 27, Operand.tmp 29], argTypes := #[28, 28] }, type := 28, pos := "whole.go:21", after := #[{ on := 1, ground := Ground.data }, { on := 3, ground := Ground.data }], guard := none }) rfl (fun K hK => ?_) AllReadyH.nil
      have HH := hidden hH2
      clear hH2
      go_simp
      refine (C4.out _ HH.out).mono ?_
      rintro e wn3 ⟨rfl, hb⟩
      replace RG := hidden (range_keepM RG.out hb)
      replace TH := hidden (there_keepM TH.out hb)
      have SN := hidden (HH.out.trans (gbI hb _))
      clear HH C4 hb
      go_wp2_with fail
      refine hK.out _ _ SN.out (fun hH3 => ?_)
      clear hK K SN
      refine wpAnyH_take (i := 10) (oi := { dst := some 36, op := Op.fieldAddr 31 (Operand.tmp 6) 0, type := 0, pos := "whole.go:21", after := #[{ on := 0, ground := Ground.phase }, { on := 1, ground := Ground.phase }, { on := 2, ground := Ground.phase }, { on := 3, ground := Ground.phase }, { on := 4, ground := Ground.phase }, { on := 5, ground := Ground.phase }, { on := 6, ground := Ground.phase }, { on := 7, ground := Ground.textOnly Departure.lateStores }, { on := 8, ground := Ground.textOnly Departure.lateStores }, { on := 9, ground := Ground.textOnly Departure.lateStoresUnsure }], guard := none }) (v := .pointer (some ⟨T6, 0, none⟩)) rfl (by kernel_rfl) (by kernel_rfl) (by kernel_rfl) (fun _ _ _ h => h) (Or.inl ⟨by rfl, fun w0 hSw => ?_⟩) hH3 ?_
      · (clear hSw; go_simp)
      simp only [Act.put, List.setIfInBounds_toArray, List.set_cons_zero, List.set_cons_succ]
      refine wpAnyH_ready (rs := [9]) (by kernel_rfl) (by simp) ?_
      refine AllReadyH.cons (o := { dst := some 35, op := Op.call { callee := Callee.value (Operand.func 12), args := #[Operand.tmp 32, Operand.tmp 34], argTypes := #[28, 28] }, type := 28, pos := "whole.go:21", after := #[{ on := 6, ground := Ground.data }, { on := 8, ground := Ground.data }, { on := 4, ground := Ground.chain }], guard := none }) rfl (fun K hK => ?_) AllReadyH.nil
      have HH := hidden hH3
      clear hH3
      go_simp
      refine (C9.out _ HH.out).mono ?_
      rintro e wn4 ⟨rfl, hb⟩
      replace RG := hidden (range_keepM RG.out hb)
      replace TH := hidden (there_keepM TH.out hb)
      have SN := hidden (HH.out.trans (gbI hb _))
      clear HH C9 hb
      go_wp2_with fail
      refine hK.out _ _ SN.out (fun hH4 => ?_)
      clear hK K SN
      refine wpAnyH_ready (rs := [11]) (by kernel_rfl) (by simp) ?_
      refine AllReadyH.cons (o := { dst := none, op := Op.store 28 (Operand.tmp 36) (Operand.tmp 30), type := 0, pos := "whole.go:21", after := #[{ on := 10, ground := Ground.data }, { on := 4, ground := Ground.data }, { on := 9, ground := Ground.chain }, { on := 0, ground := Ground.phase }, { on := 1, ground := Ground.phase }, { on := 2, ground := Ground.phase }, { on := 3, ground := Ground.phase }, { on := 4, ground := Ground.phase }, { on := 5, ground := Ground.phase }, { on := 6, ground := Ground.phase }, { on := 7, ground := Ground.textOnly Departure.lateStores }, { on := 8, ground := Ground.textOnly Departure.lateStores }, { on := 9, ground := Ground.textOnly Departure.lateStoresUnsure }], guard := none }) rfl (fun K hK => ?_) AllReadyH.nil
      have HH := hidden hH4
      clear hH4
      refine wp_storeE 28 _ _ rfl T6 0 ([.int .u64 A.x0, .int .u64 A.x1, .int .u64 A.x2, .int .u64 A.x3]) (by rfl) (by rfl) (there_part TH.out (by simp)) i4_s (one4 _) rfl (fun wn5 hw => ?_)
      replace RG := hidden (show World.rangeAt _ T6 0 (tc A r s t VL VR) from range_pt RG.out 0 [.int .u64 A.x0, .int .u64 A.x1, .int .u64 A.x2, .int .u64 A.x3] (by simp [tc]))
      replace TH := hidden (there_setO TH.out T6 0 [.int .u64 A.x0, .int .u64 A.x1, .int .u64 A.x2, .int .u64 A.x3])
      have SN := hidden (HH.out.trans (gb_setCells T6 [.int .u64 A.x0, .int .u64 A.x1, .int .u64 A.x2, .int .u64 A.x3] 0 _))
      rw [← hw] at RG TH SN
      clear HH hw
      refine hK.out _ _ SN.out (fun hH5 => ?_)
      clear hK K SN
      refine wpAnyH_take (i := 12) (oi := { dst := some 37, op := Op.fieldAddr 31 (Operand.tmp 6) 1, type := 0, pos := "whole.go:21", after := #[{ on := 0, ground := Ground.phase }, { on := 1, ground := Ground.phase }, { on := 2, ground := Ground.phase }, { on := 3, ground := Ground.phase }, { on := 4, ground := Ground.phase }, { on := 5, ground := Ground.phase }, { on := 6, ground := Ground.phase }, { on := 7, ground := Ground.phase }, { on := 8, ground := Ground.phase }, { on := 9, ground := Ground.phase }, { on := 10, ground := Ground.phase }, { on := 11, ground := Ground.phase }], guard := none }) (v := .pointer (some ⟨T6, 4, none⟩)) rfl (by kernel_rfl) (by kernel_rfl) (by kernel_rfl) (fun _ _ _ h => h) (Or.inl ⟨by rfl, fun w0 hSw => ?_⟩) hH5 ?_
      · (clear hSw; go_simp)
      simp only [Act.put, List.setIfInBounds_toArray, List.set_cons_zero, List.set_cons_succ]
      refine wpAnyH_ready (rs := [13]) (by kernel_rfl) (by simp) ?_
      refine AllReadyH.cons (o := { dst := none, op := Op.store 28 (Operand.tmp 37) (Operand.tmp 35), type := 0, pos := "whole.go:21", after := #[{ on := 12, ground := Ground.data }, { on := 9, ground := Ground.data }, { on := 11, ground := Ground.chain }, { on := 0, ground := Ground.phase }, { on := 1, ground := Ground.phase }, { on := 2, ground := Ground.phase }, { on := 3, ground := Ground.phase }, { on := 4, ground := Ground.phase }, { on := 5, ground := Ground.phase }, { on := 6, ground := Ground.phase }, { on := 7, ground := Ground.phase }, { on := 8, ground := Ground.phase }, { on := 9, ground := Ground.phase }, { on := 10, ground := Ground.phase }, { on := 11, ground := Ground.phase }], guard := none }) rfl (fun K hK => ?_) AllReadyH.nil
      have HH := hidden hH5
      clear hH5
      refine wp_storeE 28 _ _ rfl T6 4 ([.int .u64 B.x0, .int .u64 B.x1, .int .u64 B.x2, .int .u64 B.x3]) (by rfl) (by rfl) (there_part TH.out (by simp)) i4_s (one4 _) rfl (fun wn6 hw => ?_)
      replace RG := hidden (show World.rangeAt _ T6 0 (tc A B s t VL VR) from range_pt RG.out 4 [.int .u64 B.x0, .int .u64 B.x1, .int .u64 B.x2, .int .u64 B.x3] (by simp [tc]))
      replace TH := hidden (there_setO TH.out T6 4 [.int .u64 B.x0, .int .u64 B.x1, .int .u64 B.x2, .int .u64 B.x3])
      have SN := hidden (HH.out.trans (gb_setCells T6 [.int .u64 B.x0, .int .u64 B.x1, .int .u64 B.x2, .int .u64 B.x3] 4 _))
      rw [← hw] at RG TH SN
      clear HH hw
      refine hK.out _ _ SN.out (fun hH6 => ?_)
      clear hK K SN
      have HH := hidden hH6
      have FQ := hidden (HQ.out _ HH.out RG.out TH.out)
      refine wpAnyH_done (by kernel_rfl) ?_ _
      refine NoPanic.normal ?_
      exact FQ.out
  · have HH := hidden hH0
    clear hH0
    refine wp_load_mid 28 _ rfl T6 4 (by rfl) [.int .u64 r.x0, .int .u64 r.x1, .int .u64 r.x2, .int .u64 r.x3] _ (range_seg (k := 4) RG.out rfl) U28.out rfl i4_s ?_
    simp only [Act.put, List.setIfInBounds_toArray, List.set_cons_zero, List.set_cons_succ]
    have SN := HH
    clear HH
    refine hK.out _ _ SN.out (fun hH1 => ?_)
    clear hK K SN
    refine wpAnyH_ready (rs := [1]) (by kernel_rfl) (by simp) ?_
    refine AllReadyH.cons (o := { dst := some 27, op := Op.load 28 (Operand.tmp 26), type := 28, pos := "whole.go:21", after := #[{ on := 0, ground := Ground.data }], guard := none }) rfl (fun K hK => ?_) AllReadyH.nil
    have HH := hidden hH1
    clear hH1
    refine wp_load_mid 28 _ rfl T6 0 (by rfl) [.int .u64 a.x0, .int .u64 a.x1, .int .u64 a.x2, .int .u64 a.x3] _ (range_seg (k := 4) RG.out rfl) U28.out rfl i4_s ?_
    simp only [Act.put, List.setIfInBounds_toArray, List.set_cons_zero, List.set_cons_succ]
    have SN := HH
    clear HH
    refine hK.out _ _ SN.out (fun hH2 => ?_)
    clear hK K SN
    refine wpAnyH_ready (rs := [4]) (by kernel_rfl) (by simp) ?_
    refine AllReadyH.cons (o := { dst := some 30, op := Op.call { callee := Callee.value (Operand.func 12), args := #[Operand.tmp 27, Operand.tmp 29], argTypes := #[28, 28] }, type := 28, pos := "whole.go:21", after := #[{ on := 1, ground := Ground.data }, { on := 3, ground := Ground.data }], guard := none }) rfl (fun K hK => ?_) AllReadyH.nil
    have HH := hidden hH2
    clear hH2
    go_simp
    refine (C4.out _ HH.out).mono ?_
    rintro e wn3 ⟨rfl, hb⟩
    replace RG := hidden (range_keepM RG.out hb)
    replace TH := hidden (there_keepM TH.out hb)
    have SN := hidden (HH.out.trans (gbI hb _))
    clear HH C4 hb
    go_wp2_with fail
    refine hK.out _ _ SN.out (fun hH3 => ?_)
    clear hK K SN
    refine wpAnyH_take (i := 10) (oi := { dst := some 36, op := Op.fieldAddr 31 (Operand.tmp 6) 0, type := 0, pos := "whole.go:21", after := #[{ on := 0, ground := Ground.phase }, { on := 1, ground := Ground.phase }, { on := 2, ground := Ground.phase }, { on := 3, ground := Ground.phase }, { on := 4, ground := Ground.phase }, { on := 5, ground := Ground.phase }, { on := 6, ground := Ground.phase }, { on := 7, ground := Ground.textOnly Departure.lateStores }, { on := 8, ground := Ground.textOnly Departure.lateStores }, { on := 9, ground := Ground.textOnly Departure.lateStoresUnsure }], guard := none }) (v := .pointer (some ⟨T6, 0, none⟩)) rfl (by kernel_rfl) (by kernel_rfl) (by kernel_rfl) (fun _ _ _ h => h) (Or.inl ⟨by rfl, fun w0 hSw => ?_⟩) hH3 ?_
    · (clear hSw; go_simp)
    simp only [Act.put, List.setIfInBounds_toArray, List.set_cons_zero, List.set_cons_succ]
    refine wpAnyH_ready (rs := [9]) (by kernel_rfl) (by simp) ?_
    refine AllReadyH.cons (o := { dst := some 35, op := Op.call { callee := Callee.value (Operand.func 12), args := #[Operand.tmp 32, Operand.tmp 34], argTypes := #[28, 28] }, type := 28, pos := "whole.go:21", after := #[{ on := 6, ground := Ground.data }, { on := 8, ground := Ground.data }, { on := 4, ground := Ground.chain }], guard := none }) rfl (fun K hK => ?_) AllReadyH.nil
    have HH := hidden hH3
    clear hH3
    go_simp
    refine (C9.out _ HH.out).mono ?_
    rintro e wn4 ⟨rfl, hb⟩
    replace RG := hidden (range_keepM RG.out hb)
    replace TH := hidden (there_keepM TH.out hb)
    have SN := hidden (HH.out.trans (gbI hb _))
    clear HH C9 hb
    go_wp2_with fail
    refine hK.out _ _ SN.out (fun hH4 => ?_)
    clear hK K SN
    refine wpAnyH_ready (rs := [11]) (by kernel_rfl) (by simp) ?_
    refine AllReadyH.cons (o := { dst := none, op := Op.store 28 (Operand.tmp 36) (Operand.tmp 30), type := 0, pos := "whole.go:21", after := #[{ on := 10, ground := Ground.data }, { on := 4, ground := Ground.data }, { on := 9, ground := Ground.chain }, { on := 0, ground := Ground.phase }, { on := 1, ground := Ground.phase }, { on := 2, ground := Ground.phase }, { on := 3, ground := Ground.phase }, { on := 4, ground := Ground.phase }, { on := 5, ground := Ground.phase }, { on := 6, ground := Ground.phase }, { on := 7, ground := Ground.textOnly Departure.lateStores }, { on := 8, ground := Ground.textOnly Departure.lateStores }, { on := 9, ground := Ground.textOnly Departure.lateStoresUnsure }], guard := none }) rfl (fun K hK => ?_) AllReadyH.nil
    have HH := hidden hH4
    clear hH4
    refine wp_storeE 28 _ _ rfl T6 0 ([.int .u64 A.x0, .int .u64 A.x1, .int .u64 A.x2, .int .u64 A.x3]) (by rfl) (by rfl) (there_part TH.out (by simp)) i4_s (one4 _) rfl (fun wn5 hw => ?_)
    replace RG := hidden (show World.rangeAt _ T6 0 (tc A r s t VL VR) from range_pt RG.out 0 [.int .u64 A.x0, .int .u64 A.x1, .int .u64 A.x2, .int .u64 A.x3] (by simp [tc]))
    replace TH := hidden (there_setO TH.out T6 0 [.int .u64 A.x0, .int .u64 A.x1, .int .u64 A.x2, .int .u64 A.x3])
    have SN := hidden (HH.out.trans (gb_setCells T6 [.int .u64 A.x0, .int .u64 A.x1, .int .u64 A.x2, .int .u64 A.x3] 0 _))
    rw [← hw] at RG TH SN
    clear HH hw
    refine hK.out _ _ SN.out (fun hH5 => ?_)
    clear hK K SN
    refine wpAnyH_take (i := 12) (oi := { dst := some 37, op := Op.fieldAddr 31 (Operand.tmp 6) 1, type := 0, pos := "whole.go:21", after := #[{ on := 0, ground := Ground.phase }, { on := 1, ground := Ground.phase }, { on := 2, ground := Ground.phase }, { on := 3, ground := Ground.phase }, { on := 4, ground := Ground.phase }, { on := 5, ground := Ground.phase }, { on := 6, ground := Ground.phase }, { on := 7, ground := Ground.phase }, { on := 8, ground := Ground.phase }, { on := 9, ground := Ground.phase }, { on := 10, ground := Ground.phase }, { on := 11, ground := Ground.phase }], guard := none }) (v := .pointer (some ⟨T6, 4, none⟩)) rfl (by kernel_rfl) (by kernel_rfl) (by kernel_rfl) (fun _ _ _ h => h) (Or.inl ⟨by rfl, fun w0 hSw => ?_⟩) hH5 ?_
    · (clear hSw; go_simp)
    simp only [Act.put, List.setIfInBounds_toArray, List.set_cons_zero, List.set_cons_succ]
    refine wpAnyH_ready (rs := [13]) (by kernel_rfl) (by simp) ?_
    refine AllReadyH.cons (o := { dst := none, op := Op.store 28 (Operand.tmp 37) (Operand.tmp 35), type := 0, pos := "whole.go:21", after := #[{ on := 12, ground := Ground.data }, { on := 9, ground := Ground.data }, { on := 11, ground := Ground.chain }, { on := 0, ground := Ground.phase }, { on := 1, ground := Ground.phase }, { on := 2, ground := Ground.phase }, { on := 3, ground := Ground.phase }, { on := 4, ground := Ground.phase }, { on := 5, ground := Ground.phase }, { on := 6, ground := Ground.phase }, { on := 7, ground := Ground.phase }, { on := 8, ground := Ground.phase }, { on := 9, ground := Ground.phase }, { on := 10, ground := Ground.phase }, { on := 11, ground := Ground.phase }], guard := none }) rfl (fun K hK => ?_) AllReadyH.nil
    have HH := hidden hH5
    clear hH5
    refine wp_storeE 28 _ _ rfl T6 4 ([.int .u64 B.x0, .int .u64 B.x1, .int .u64 B.x2, .int .u64 B.x3]) (by rfl) (by rfl) (there_part TH.out (by simp)) i4_s (one4 _) rfl (fun wn6 hw => ?_)
    replace RG := hidden (show World.rangeAt _ T6 0 (tc A B s t VL VR) from range_pt RG.out 4 [.int .u64 B.x0, .int .u64 B.x1, .int .u64 B.x2, .int .u64 B.x3] (by simp [tc]))
    replace TH := hidden (there_setO TH.out T6 4 [.int .u64 B.x0, .int .u64 B.x1, .int .u64 B.x2, .int .u64 B.x3])
    have SN := hidden (HH.out.trans (gb_setCells T6 [.int .u64 B.x0, .int .u64 B.x1, .int .u64 B.x2, .int .u64 B.x3] 4 _))
    rw [← hw] at RG TH SN
    clear HH hw
    refine hK.out _ _ SN.out (fun hH6 => ?_)
    clear hK K SN
    have HH := hidden hH6
    have FQ := hidden (HQ.out _ HH.out RG.out TH.out)
    refine wpAnyH_done (by kernel_rfl) ?_ _
    refine NoPanic.normal ?_
    exact FQ.out
def wh10o : Array Oper := #[{ dst := some 38, op := Op.fieldAddr 31 (Operand.tmp 6) 2, type := 0, pos := "whole.go:22", after := #[], guard := none },
  { dst := some 39, op := Op.load 28 (Operand.tmp 38), type := 28, pos := "whole.go:22", after := #[{ on := 0, ground := Ground.data }], guard := none },
  { dst := some 40, op := Op.fieldAddr 31 (Operand.tmp 8) 2, type := 0, pos := "whole.go:22", after := #[], guard := none },
  { dst := some 41, op := Op.load 28 (Operand.tmp 40), type := 28, pos := "whole.go:22", after := #[{ on := 2, ground := Ground.data }], guard := none },
  { dst := some 42, op := Op.call { callee := Callee.value (Operand.func 12), args := #[Operand.tmp 39, Operand.tmp 41], argTypes := #[28, 28] }, type := 28, pos := "whole.go:22", after := #[{ on := 1, ground := Ground.data }, { on := 3, ground := Ground.data }], guard := none },
  { dst := some 43, op := Op.fieldAddr 31 (Operand.tmp 6) 3, type := 0, pos := "whole.go:22", after := #[], guard := none },
  { dst := some 44, op := Op.load 28 (Operand.tmp 43), type := 28, pos := "whole.go:22", after := #[{ on := 5, ground := Ground.data }], guard := none },
  { dst := some 45, op := Op.fieldAddr 31 (Operand.tmp 8) 3, type := 0, pos := "whole.go:22", after := #[], guard := none },
  { dst := some 46, op := Op.load 28 (Operand.tmp 45), type := 28, pos := "whole.go:22", after := #[{ on := 7, ground := Ground.data }], guard := none },
  { dst := some 47, op := Op.call { callee := Callee.value (Operand.func 12), args := #[Operand.tmp 44, Operand.tmp 46], argTypes := #[28, 28] }, type := 28, pos := "whole.go:22", after := #[{ on := 6, ground := Ground.data }, { on := 8, ground := Ground.data }, { on := 4, ground := Ground.chain }], guard := none },
  { dst := some 48, op := Op.fieldAddr 31 (Operand.tmp 6) 2, type := 0, pos := "whole.go:22", after := #[{ on := 0, ground := Ground.phase }, { on := 1, ground := Ground.phase }, { on := 2, ground := Ground.phase }, { on := 3, ground := Ground.phase }, { on := 4, ground := Ground.phase }, { on := 5, ground := Ground.phase }, { on := 6, ground := Ground.phase }, { on := 7, ground := Ground.textOnly Departure.lateStores }, { on := 8, ground := Ground.textOnly Departure.lateStores }, { on := 9, ground := Ground.textOnly Departure.lateStoresUnsure }], guard := none },
  { dst := none, op := Op.store 28 (Operand.tmp 48) (Operand.tmp 42), type := 0, pos := "whole.go:22", after := #[{ on := 10, ground := Ground.data }, { on := 4, ground := Ground.data }, { on := 9, ground := Ground.chain }, { on := 0, ground := Ground.phase }, { on := 1, ground := Ground.phase }, { on := 2, ground := Ground.phase }, { on := 3, ground := Ground.phase }, { on := 4, ground := Ground.phase }, { on := 5, ground := Ground.phase }, { on := 6, ground := Ground.phase }, { on := 7, ground := Ground.textOnly Departure.lateStores }, { on := 8, ground := Ground.textOnly Departure.lateStores }, { on := 9, ground := Ground.textOnly Departure.lateStoresUnsure }], guard := none },
  { dst := some 49, op := Op.fieldAddr 31 (Operand.tmp 6) 3, type := 0, pos := "whole.go:22", after := #[{ on := 0, ground := Ground.phase }, { on := 1, ground := Ground.phase }, { on := 2, ground := Ground.phase }, { on := 3, ground := Ground.phase }, { on := 4, ground := Ground.phase }, { on := 5, ground := Ground.phase }, { on := 6, ground := Ground.phase }, { on := 7, ground := Ground.phase }, { on := 8, ground := Ground.phase }, { on := 9, ground := Ground.phase }, { on := 10, ground := Ground.phase }, { on := 11, ground := Ground.phase }], guard := none },
  { dst := none, op := Op.store 28 (Operand.tmp 49) (Operand.tmp 47), type := 0, pos := "whole.go:22", after := #[{ on := 12, ground := Ground.data }, { on := 9, ground := Ground.data }, { on := 11, ground := Ground.chain }, { on := 0, ground := Ground.phase }, { on := 1, ground := Ground.phase }, { on := 2, ground := Ground.phase }, { on := 3, ground := Ground.phase }, { on := 4, ground := Ground.phase }, { on := 5, ground := Ground.phase }, { on := 6, ground := Ground.phase }, { on := 7, ground := Ground.phase }, { on := 8, ground := Ground.phase }, { on := 9, ground := Ground.phase }, { on := 10, ground := Ground.phase }, { on := 11, ground := Ground.phase }], guard := none }]
set_option maxRecDepth 100000 in
set_option maxHeartbeats 16000000 in
theorem wh10 (Q : Exit → Act → World → Prop) (T6 T8 : Nat) (a r s t ex ey A B : E4) (VL VR : Value) (u0 u1 u2 u3 u4 u5 u7 u9 u10 u11 u12 u13 u14 u15 u16 u17 u18 u19 u20 u21 u22 u23 u24 u25 u26 u27 u28 u29 u30 u31 u32 u33 u34 u35 u36 u37 u38 u39 u40 u41 u42 u43 u44 u45 u46 u47 u48 u49 u50 u51 u52 u53 u54 u55 u56 u57 u58 u59 u60 u61 u62 u63 : Value) (W : World)
    (RG0 : W.rangeAt T6 0 (tc a r s t VL VR)) (TH0 : W.there T6 0 18) (ne86 : T8 ≠ T6) (cx0 : W.cell? ⟨T8, 8, none⟩ = some (.int .u64 ex.x0)) (cx1 : W.cell? ⟨T8, 9, none⟩ = some (.int .u64 ex.x1)) (cx2 : W.cell? ⟨T8, 10, none⟩ = some (.int .u64 ex.x2)) (cx3 : W.cell? ⟨T8, 11, none⟩ = some (.int .u64 ex.x3)) (cy0 : W.cell? ⟨T8, 12, none⟩ = some (.int .u64 ey.x0)) (cy1 : W.cell? ⟨T8, 13, none⟩ = some (.int .u64 ey.x1)) (cy2 : W.cell? ⟨T8, 14, none⟩ = some (.int .u64 ey.x2)) (cy3 : W.cell? ⟨T8, 15, none⟩ = some (.int .u64 ey.x3))
    (C4 : Hid (∀ x, W.grownBy x (some T6) → Calls Tryd.prog 12 #[.agg #[.int .u64 s.x0, .int .u64 s.x1, .int .u64 s.x2, .int .u64 s.x3], .agg #[.int .u64 ex.x0, .int .u64 ex.x1, .int .u64 ex.x2, .int .u64 ex.x3]] x fun e w' => e = .returned (.agg #[.int .u64 A.x0, .int .u64 A.x1, .int .u64 A.x2, .int .u64 A.x3]) ∧ Below x.heap.size x w')) (C9 : Hid (∀ x, W.grownBy x (some T6) → Calls Tryd.prog 12 #[.agg #[.int .u64 t.x0, .int .u64 t.x1, .int .u64 t.x2, .int .u64 t.x3], .agg #[.int .u64 ey.x0, .int .u64 ey.x1, .int .u64 ey.x2, .int .u64 ey.x3]] x fun e w' => e = .returned (.agg #[.int .u64 B.x0, .int .u64 B.x1, .int .u64 B.x2, .int .u64 B.x3]) ∧ Below x.heap.size x w'))
    (HQ : Hid (∀ wz, W.grownBy wz (some T6) → wz.rangeAt T6 0 (tc a r A B VL VR) → wz.there T6 0 18 → Q .normal ⟨#[u0, u1, u2, u3, u4, u5, .pointer (some ⟨T6, 0, none⟩), u7, .pointer (some ⟨T8, 0, none⟩), u9, u10, u11, u12, u13, u14, u15, u16, u17, u18, u19, u20, u21, u22, u23, u24, u25, u26, u27, u28, u29, u30, u31, u32, u33, u34, u35, u36, u37, .pointer (some ⟨T6, 8, none⟩), .agg #[.int .u64 s.x0, .int .u64 s.x1, .int .u64 s.x2, .int .u64 s.x3], .pointer (some ⟨T8, 8, none⟩), .agg #[.int .u64 ex.x0, .int .u64 ex.x1, .int .u64 ex.x2, .int .u64 ex.x3], .agg #[.int .u64 A.x0, .int .u64 A.x1, .int .u64 A.x2, .int .u64 A.x3], .pointer (some ⟨T6, 12, none⟩), .agg #[.int .u64 t.x0, .int .u64 t.x1, .int .u64 t.x2, .int .u64 t.x3], .pointer (some ⟨T8, 12, none⟩), .agg #[.int .u64 ey.x0, .int .u64 ey.x1, .int .u64 ey.x2, .int .u64 ey.x3], .agg #[.int .u64 B.x0, .int .u64 B.x1, .int .u64 B.x2, .int .u64 B.x3], .pointer (some ⟨T6, 8, none⟩), .pointer (some ⟨T6, 12, none⟩), u50, u51, u52, u53, u54, u55, u56, u57, u58, u59, u60, u61, u62, u63], []⟩ wz)) : (Code.region 10 wh10o true).wp Tryd.prog Q ⟨#[u0, u1, u2, u3, u4, u5, .pointer (some ⟨T6, 0, none⟩), u7, .pointer (some ⟨T8, 0, none⟩), u9, u10, u11, u12, u13, u14, u15, u16, u17, u18, u19, u20, u21, u22, u23, u24, u25, u26, u27, u28, u29, u30, u31, u32, u33, u34, u35, u36, u37, u38, u39, u40, u41, u42, u43, u44, u45, u46, u47, u48, u49, u50, u51, u52, u53, u54, u55, u56, u57, u58, u59, u60, u61, u62, u63], []⟩ W := by
  have U28 : Hid (Tryd.prog.underlying 28 = some _) := hidden Tryd.underlying28
  have RG := hidden (range_keepM RG0 (bl_drew W))
  have TH := hidden (there_keepM TH0 (bl_drew W))
  clear RG0 TH0
  unfold wh10o
  refine wp_region_noPanic ?_
  refine wp_region_held_drew (S := fun x => W.grownBy x (some T6)) (by kernel_rfl) (gbI (bl_drew W) _) (fun hH0 => ?_)
  refine wpAnyH_take (i := 0) (oi := { dst := some 38, op := Op.fieldAddr 31 (Operand.tmp 6) 2, type := 0, pos := "whole.go:22", after := #[], guard := none }) (v := .pointer (some ⟨T6, 8, none⟩)) rfl (by kernel_rfl) (by kernel_rfl) (by kernel_rfl) (fun _ _ _ h => h) (Or.inl ⟨by rfl, fun w0 hSw => ?_⟩) hH0 ?_
  · (clear hSw; go_simp)
  simp only [Act.put, List.setIfInBounds_toArray, List.set_cons_zero, List.set_cons_succ]
  refine wpAnyH_take (i := 2) (oi := { dst := some 40, op := Op.fieldAddr 31 (Operand.tmp 8) 2, type := 0, pos := "whole.go:22", after := #[], guard := none }) (v := .pointer (some ⟨T8, 8, none⟩)) rfl (by kernel_rfl) (by kernel_rfl) (by kernel_rfl) (fun _ _ _ h => h) (Or.inl ⟨by rfl, fun w0 hSw => ?_⟩) hH0 ?_
  · (clear hSw; go_simp)
  simp only [Act.put, List.setIfInBounds_toArray, List.set_cons_zero, List.set_cons_succ]
  refine wpAnyH_take (i := 5) (oi := { dst := some 43, op := Op.fieldAddr 31 (Operand.tmp 6) 3, type := 0, pos := "whole.go:22", after := #[], guard := none }) (v := .pointer (some ⟨T6, 12, none⟩)) rfl (by kernel_rfl) (by kernel_rfl) (by kernel_rfl) (fun _ _ _ h => h) (Or.inl ⟨by rfl, fun w0 hSw => ?_⟩) hH0 ?_
  · (clear hSw; go_simp)
  simp only [Act.put, List.setIfInBounds_toArray, List.set_cons_zero, List.set_cons_succ]
  refine wpAnyH_take (i := 7) (oi := { dst := some 45, op := Op.fieldAddr 31 (Operand.tmp 8) 3, type := 0, pos := "whole.go:22", after := #[], guard := none }) (v := .pointer (some ⟨T8, 12, none⟩)) rfl (by kernel_rfl) (by kernel_rfl) (by kernel_rfl) (fun _ _ _ h => h) (Or.inl ⟨by rfl, fun w0 hSw => ?_⟩) hH0 ?_
  · (clear hSw; go_simp)
  simp only [Act.put, List.setIfInBounds_toArray, List.set_cons_zero, List.set_cons_succ]
  refine wpAnyH_take (i := 3) (oi := { dst := some 41, op := Op.load 28 (Operand.tmp 40), type := 28, pos := "whole.go:22", after := #[{ on := 2, ground := Ground.data }], guard := none }) (v := .agg #[.int .u64 ex.x0, .int .u64 ex.x1, .int .u64 ex.x2, .int .u64 ex.x3]) rfl (by kernel_rfl) (by kernel_rfl) (by kernel_rfl) (fun _ _ _ h => h) (Or.inl ⟨by rfl, fun w0 hSw => ?_⟩) hH0 ?_
  · (have hS : W.grownBy w0 (some T6) := hSw; have a0 := hS.cell cx0 (fun e => ne86 (Option.some.inj e)); have a1 := hS.cell cx1 (fun e => ne86 (Option.some.inj e)); have a2 := hS.cell cx2 (fun e => ne86 (Option.some.inj e)); have a3 := hS.cell cx3 (fun e => ne86 (Option.some.inj e)); clear hS hSw; go_simp)
  simp only [Act.put, List.setIfInBounds_toArray, List.set_cons_zero, List.set_cons_succ]
  refine wpAnyH_take (i := 8) (oi := { dst := some 46, op := Op.load 28 (Operand.tmp 45), type := 28, pos := "whole.go:22", after := #[{ on := 7, ground := Ground.data }], guard := none }) (v := .agg #[.int .u64 ey.x0, .int .u64 ey.x1, .int .u64 ey.x2, .int .u64 ey.x3]) rfl (by kernel_rfl) (by kernel_rfl) (by kernel_rfl) (fun _ _ _ h => h) (Or.inl ⟨by rfl, fun w0 hSw => ?_⟩) hH0 ?_
  · (have hS : W.grownBy w0 (some T6) := hSw; have a0 := hS.cell cy0 (fun e => ne86 (Option.some.inj e)); have a1 := hS.cell cy1 (fun e => ne86 (Option.some.inj e)); have a2 := hS.cell cy2 (fun e => ne86 (Option.some.inj e)); have a3 := hS.cell cy3 (fun e => ne86 (Option.some.inj e)); clear hS hSw; go_simp)
  simp only [Act.put, List.setIfInBounds_toArray, List.set_cons_zero, List.set_cons_succ]
  refine wpAnyH_ready (rs := [1, 6]) (by kernel_rfl) (by simp) ?_
  refine AllReadyH.cons (o := { dst := some 39, op := Op.load 28 (Operand.tmp 38), type := 28, pos := "whole.go:22", after := #[{ on := 0, ground := Ground.data }], guard := none }) rfl (fun K hK => ?_) (AllReadyH.cons (o := { dst := some 44, op := Op.load 28 (Operand.tmp 43), type := 28, pos := "whole.go:22", after := #[{ on := 5, ground := Ground.data }], guard := none }) rfl (fun K hK => ?_) AllReadyH.nil)
  · have HH := hidden hH0
    clear hH0
    refine wp_load_mid 28 _ rfl T6 8 (by rfl) [.int .u64 s.x0, .int .u64 s.x1, .int .u64 s.x2, .int .u64 s.x3] _ (range_seg (k := 4) RG.out rfl) U28.out rfl i4_s ?_
    simp only [Act.put, List.setIfInBounds_toArray, List.set_cons_zero, List.set_cons_succ]
    have SN := HH
    clear HH
    refine hK.out _ _ SN.out (fun hH1 => ?_)
    clear hK K SN
    refine wpAnyH_ready (rs := [4, 6]) (by kernel_rfl) (by simp) ?_
    refine AllReadyH.cons (o := { dst := some 42, op := Op.call { callee := Callee.value (Operand.func 12), args := #[Operand.tmp 39, Operand.tmp 41], argTypes := #[28, 28] }, type := 28, pos := "whole.go:22", after := #[{ on := 1, ground := Ground.data }, { on := 3, ground := Ground.data }], guard := none }) rfl (fun K hK => ?_) (AllReadyH.cons (o := { dst := some 44, op := Op.load 28 (Operand.tmp 43), type := 28, pos := "whole.go:22", after := #[{ on := 5, ground := Ground.data }], guard := none }) rfl (fun K hK => ?_) AllReadyH.nil)
    · have HH := hidden hH1
      clear hH1
      go_simp
      refine (C4.out _ HH.out).mono ?_
      rintro e wn2 ⟨rfl, hb⟩
      replace RG := hidden (range_keepM RG.out hb)
      replace TH := hidden (there_keepM TH.out hb)
      have SN := hidden (HH.out.trans (gbI hb _))
      clear HH C4 hb
      go_wp2_with fail
      refine hK.out _ _ SN.out (fun hH2 => ?_)
      clear hK K SN
      refine wpAnyH_ready (rs := [6]) (by kernel_rfl) (by simp) ?_
      refine AllReadyH.cons (o := { dst := some 44, op := Op.load 28 (Operand.tmp 43), type := 28, pos := "whole.go:22", after := #[{ on := 5, ground := Ground.data }], guard := none }) rfl (fun K hK => ?_) AllReadyH.nil
      have HH := hidden hH2
      clear hH2
      refine wp_load_mid 28 _ rfl T6 12 (by rfl) [.int .u64 t.x0, .int .u64 t.x1, .int .u64 t.x2, .int .u64 t.x3] _ (range_seg (k := 4) RG.out rfl) U28.out rfl i4_s ?_
      simp only [Act.put, List.setIfInBounds_toArray, List.set_cons_zero, List.set_cons_succ]
      have SN := HH
      clear HH
      refine hK.out _ _ SN.out (fun hH3 => ?_)
      clear hK K SN
      refine wpAnyH_take (i := 10) (oi := { dst := some 48, op := Op.fieldAddr 31 (Operand.tmp 6) 2, type := 0, pos := "whole.go:22", after := #[{ on := 0, ground := Ground.phase }, { on := 1, ground := Ground.phase }, { on := 2, ground := Ground.phase }, { on := 3, ground := Ground.phase }, { on := 4, ground := Ground.phase }, { on := 5, ground := Ground.phase }, { on := 6, ground := Ground.phase }, { on := 7, ground := Ground.textOnly Departure.lateStores }, { on := 8, ground := Ground.textOnly Departure.lateStores }, { on := 9, ground := Ground.textOnly Departure.lateStoresUnsure }], guard := none }) (v := .pointer (some ⟨T6, 8, none⟩)) rfl (by kernel_rfl) (by kernel_rfl) (by kernel_rfl) (fun _ _ _ h => h) (Or.inl ⟨by rfl, fun w0 hSw => ?_⟩) hH3 ?_
      · (clear hSw; go_simp)
      simp only [Act.put, List.setIfInBounds_toArray, List.set_cons_zero, List.set_cons_succ]
      refine wpAnyH_ready (rs := [9]) (by kernel_rfl) (by simp) ?_
      refine AllReadyH.cons (o := { dst := some 47, op := Op.call { callee := Callee.value (Operand.func 12), args := #[Operand.tmp 44, Operand.tmp 46], argTypes := #[28, 28] }, type := 28, pos := "whole.go:22", after := #[{ on := 6, ground := Ground.data }, { on := 8, ground := Ground.data }, { on := 4, ground := Ground.chain }], guard := none }) rfl (fun K hK => ?_) AllReadyH.nil
      have HH := hidden hH3
      clear hH3
      go_simp
      refine (C9.out _ HH.out).mono ?_
      rintro e wn4 ⟨rfl, hb⟩
      replace RG := hidden (range_keepM RG.out hb)
      replace TH := hidden (there_keepM TH.out hb)
      have SN := hidden (HH.out.trans (gbI hb _))
      clear HH C9 hb
      go_wp2_with fail
      refine hK.out _ _ SN.out (fun hH4 => ?_)
      clear hK K SN
      refine wpAnyH_ready (rs := [11]) (by kernel_rfl) (by simp) ?_
      refine AllReadyH.cons (o := { dst := none, op := Op.store 28 (Operand.tmp 48) (Operand.tmp 42), type := 0, pos := "whole.go:22", after := #[{ on := 10, ground := Ground.data }, { on := 4, ground := Ground.data }, { on := 9, ground := Ground.chain }, { on := 0, ground := Ground.phase }, { on := 1, ground := Ground.phase }, { on := 2, ground := Ground.phase }, { on := 3, ground := Ground.phase }, { on := 4, ground := Ground.phase }, { on := 5, ground := Ground.phase }, { on := 6, ground := Ground.phase }, { on := 7, ground := Ground.textOnly Departure.lateStores }, { on := 8, ground := Ground.textOnly Departure.lateStores }, { on := 9, ground := Ground.textOnly Departure.lateStoresUnsure }], guard := none }) rfl (fun K hK => ?_) AllReadyH.nil
      have HH := hidden hH4
      clear hH4
      refine wp_storeE 28 _ _ rfl T6 8 ([.int .u64 A.x0, .int .u64 A.x1, .int .u64 A.x2, .int .u64 A.x3]) (by rfl) (by rfl) (there_part TH.out (by simp)) i4_s (one4 _) rfl (fun wn5 hw => ?_)
      replace RG := hidden (show World.rangeAt _ T6 0 (tc a r A t VL VR) from range_pt RG.out 8 [.int .u64 A.x0, .int .u64 A.x1, .int .u64 A.x2, .int .u64 A.x3] (by simp [tc]))
      replace TH := hidden (there_setO TH.out T6 8 [.int .u64 A.x0, .int .u64 A.x1, .int .u64 A.x2, .int .u64 A.x3])
      have SN := hidden (HH.out.trans (gb_setCells T6 [.int .u64 A.x0, .int .u64 A.x1, .int .u64 A.x2, .int .u64 A.x3] 8 _))
      rw [← hw] at RG TH SN
      clear HH hw
      refine hK.out _ _ SN.out (fun hH5 => ?_)
      clear hK K SN
      refine wpAnyH_take (i := 12) (oi := { dst := some 49, op := Op.fieldAddr 31 (Operand.tmp 6) 3, type := 0, pos := "whole.go:22", after := #[{ on := 0, ground := Ground.phase }, { on := 1, ground := Ground.phase }, { on := 2, ground := Ground.phase }, { on := 3, ground := Ground.phase }, { on := 4, ground := Ground.phase }, { on := 5, ground := Ground.phase }, { on := 6, ground := Ground.phase }, { on := 7, ground := Ground.phase }, { on := 8, ground := Ground.phase }, { on := 9, ground := Ground.phase }, { on := 10, ground := Ground.phase }, { on := 11, ground := Ground.phase }], guard := none }) (v := .pointer (some ⟨T6, 12, none⟩)) rfl (by kernel_rfl) (by kernel_rfl) (by kernel_rfl) (fun _ _ _ h => h) (Or.inl ⟨by rfl, fun w0 hSw => ?_⟩) hH5 ?_
      · (clear hSw; go_simp)
      simp only [Act.put, List.setIfInBounds_toArray, List.set_cons_zero, List.set_cons_succ]
      refine wpAnyH_ready (rs := [13]) (by kernel_rfl) (by simp) ?_
      refine AllReadyH.cons (o := { dst := none, op := Op.store 28 (Operand.tmp 49) (Operand.tmp 47), type := 0, pos := "whole.go:22", after := #[{ on := 12, ground := Ground.data }, { on := 9, ground := Ground.data }, { on := 11, ground := Ground.chain }, { on := 0, ground := Ground.phase }, { on := 1, ground := Ground.phase }, { on := 2, ground := Ground.phase }, { on := 3, ground := Ground.phase }, { on := 4, ground := Ground.phase }, { on := 5, ground := Ground.phase }, { on := 6, ground := Ground.phase }, { on := 7, ground := Ground.phase }, { on := 8, ground := Ground.phase }, { on := 9, ground := Ground.phase }, { on := 10, ground := Ground.phase }, { on := 11, ground := Ground.phase }], guard := none }) rfl (fun K hK => ?_) AllReadyH.nil
      have HH := hidden hH5
      clear hH5
      refine wp_storeE 28 _ _ rfl T6 12 ([.int .u64 B.x0, .int .u64 B.x1, .int .u64 B.x2, .int .u64 B.x3]) (by rfl) (by rfl) (there_part TH.out (by simp)) i4_s (one4 _) rfl (fun wn6 hw => ?_)
      replace RG := hidden (show World.rangeAt _ T6 0 (tc a r A B VL VR) from range_pt RG.out 12 [.int .u64 B.x0, .int .u64 B.x1, .int .u64 B.x2, .int .u64 B.x3] (by simp [tc]))
      replace TH := hidden (there_setO TH.out T6 12 [.int .u64 B.x0, .int .u64 B.x1, .int .u64 B.x2, .int .u64 B.x3])
      have SN := hidden (HH.out.trans (gb_setCells T6 [.int .u64 B.x0, .int .u64 B.x1, .int .u64 B.x2, .int .u64 B.x3] 12 _))
      rw [← hw] at RG TH SN
      clear HH hw
      refine hK.out _ _ SN.out (fun hH6 => ?_)
      clear hK K SN
      have HH := hidden hH6
      have FQ := hidden (HQ.out _ HH.out RG.out TH.out)
      refine wpAnyH_done (by kernel_rfl) ?_ _
      refine NoPanic.normal ?_
      exact FQ.out
    · have HH := hidden hH1
      clear hH1
      refine wp_load_mid 28 _ rfl T6 12 (by rfl) [.int .u64 t.x0, .int .u64 t.x1, .int .u64 t.x2, .int .u64 t.x3] _ (range_seg (k := 4) RG.out rfl) U28.out rfl i4_s ?_
      simp only [Act.put, List.setIfInBounds_toArray, List.set_cons_zero, List.set_cons_succ]
      have SN := HH
      clear HH
      refine hK.out _ _ SN.out (fun hH2 => ?_)
      clear hK K SN
      refine wpAnyH_ready (rs := [4]) (by kernel_rfl) (by simp) ?_
      refine AllReadyH.cons (o := { dst := some 42, op := Op.call { callee := Callee.value (Operand.func 12), args := #[Operand.tmp 39, Operand.tmp 41], argTypes := #[28, 28] }, type := 28, pos := "whole.go:22", after := #[{ on := 1, ground := Ground.data }, { on := 3, ground := Ground.data }], guard := none }) rfl (fun K hK => ?_) AllReadyH.nil
      have HH := hidden hH2
      clear hH2
      go_simp
      refine (C4.out _ HH.out).mono ?_
      rintro e wn3 ⟨rfl, hb⟩
      replace RG := hidden (range_keepM RG.out hb)
      replace TH := hidden (there_keepM TH.out hb)
      have SN := hidden (HH.out.trans (gbI hb _))
      clear HH C4 hb
      go_wp2_with fail
      refine hK.out _ _ SN.out (fun hH3 => ?_)
      clear hK K SN
      refine wpAnyH_take (i := 10) (oi := { dst := some 48, op := Op.fieldAddr 31 (Operand.tmp 6) 2, type := 0, pos := "whole.go:22", after := #[{ on := 0, ground := Ground.phase }, { on := 1, ground := Ground.phase }, { on := 2, ground := Ground.phase }, { on := 3, ground := Ground.phase }, { on := 4, ground := Ground.phase }, { on := 5, ground := Ground.phase }, { on := 6, ground := Ground.phase }, { on := 7, ground := Ground.textOnly Departure.lateStores }, { on := 8, ground := Ground.textOnly Departure.lateStores }, { on := 9, ground := Ground.textOnly Departure.lateStoresUnsure }], guard := none }) (v := .pointer (some ⟨T6, 8, none⟩)) rfl (by kernel_rfl) (by kernel_rfl) (by kernel_rfl) (fun _ _ _ h => h) (Or.inl ⟨by rfl, fun w0 hSw => ?_⟩) hH3 ?_
      · (clear hSw; go_simp)
      simp only [Act.put, List.setIfInBounds_toArray, List.set_cons_zero, List.set_cons_succ]
      refine wpAnyH_ready (rs := [9]) (by kernel_rfl) (by simp) ?_
      refine AllReadyH.cons (o := { dst := some 47, op := Op.call { callee := Callee.value (Operand.func 12), args := #[Operand.tmp 44, Operand.tmp 46], argTypes := #[28, 28] }, type := 28, pos := "whole.go:22", after := #[{ on := 6, ground := Ground.data }, { on := 8, ground := Ground.data }, { on := 4, ground := Ground.chain }], guard := none }) rfl (fun K hK => ?_) AllReadyH.nil
      have HH := hidden hH3
      clear hH3
      go_simp
      refine (C9.out _ HH.out).mono ?_
      rintro e wn4 ⟨rfl, hb⟩
      replace RG := hidden (range_keepM RG.out hb)
      replace TH := hidden (there_keepM TH.out hb)
      have SN := hidden (HH.out.trans (gbI hb _))
      clear HH C9 hb
      go_wp2_with fail
      refine hK.out _ _ SN.out (fun hH4 => ?_)
      clear hK K SN
      refine wpAnyH_ready (rs := [11]) (by kernel_rfl) (by simp) ?_
      refine AllReadyH.cons (o := { dst := none, op := Op.store 28 (Operand.tmp 48) (Operand.tmp 42), type := 0, pos := "whole.go:22", after := #[{ on := 10, ground := Ground.data }, { on := 4, ground := Ground.data }, { on := 9, ground := Ground.chain }, { on := 0, ground := Ground.phase }, { on := 1, ground := Ground.phase }, { on := 2, ground := Ground.phase }, { on := 3, ground := Ground.phase }, { on := 4, ground := Ground.phase }, { on := 5, ground := Ground.phase }, { on := 6, ground := Ground.phase }, { on := 7, ground := Ground.textOnly Departure.lateStores }, { on := 8, ground := Ground.textOnly Departure.lateStores }, { on := 9, ground := Ground.textOnly Departure.lateStoresUnsure }], guard := none }) rfl (fun K hK => ?_) AllReadyH.nil
      have HH := hidden hH4
      clear hH4
      refine wp_storeE 28 _ _ rfl T6 8 ([.int .u64 A.x0, .int .u64 A.x1, .int .u64 A.x2, .int .u64 A.x3]) (by rfl) (by rfl) (there_part TH.out (by simp)) i4_s (one4 _) rfl (fun wn5 hw => ?_)
      replace RG := hidden (show World.rangeAt _ T6 0 (tc a r A t VL VR) from range_pt RG.out 8 [.int .u64 A.x0, .int .u64 A.x1, .int .u64 A.x2, .int .u64 A.x3] (by simp [tc]))
      replace TH := hidden (there_setO TH.out T6 8 [.int .u64 A.x0, .int .u64 A.x1, .int .u64 A.x2, .int .u64 A.x3])
      have SN := hidden (HH.out.trans (gb_setCells T6 [.int .u64 A.x0, .int .u64 A.x1, .int .u64 A.x2, .int .u64 A.x3] 8 _))
      rw [← hw] at RG TH SN
      clear HH hw
      refine hK.out _ _ SN.out (fun hH5 => ?_)
      clear hK K SN
      refine wpAnyH_take (i := 12) (oi := { dst := some 49, op := Op.fieldAddr 31 (Operand.tmp 6) 3, type := 0, pos := "whole.go:22", after := #[{ on := 0, ground := Ground.phase }, { on := 1, ground := Ground.phase }, { on := 2, ground := Ground.phase }, { on := 3, ground := Ground.phase }, { on := 4, ground := Ground.phase }, { on := 5, ground := Ground.phase }, { on := 6, ground := Ground.phase }, { on := 7, ground := Ground.phase }, { on := 8, ground := Ground.phase }, { on := 9, ground := Ground.phase }, { on := 10, ground := Ground.phase }, { on := 11, ground := Ground.phase }], guard := none }) (v := .pointer (some ⟨T6, 12, none⟩)) rfl (by kernel_rfl) (by kernel_rfl) (by kernel_rfl) (fun _ _ _ h => h) (Or.inl ⟨by rfl, fun w0 hSw => ?_⟩) hH5 ?_
      · (clear hSw; go_simp)
      simp only [Act.put, List.setIfInBounds_toArray, List.set_cons_zero, List.set_cons_succ]
      refine wpAnyH_ready (rs := [13]) (by kernel_rfl) (by simp) ?_
      refine AllReadyH.cons (o := { dst := none, op := Op.store 28 (Operand.tmp 49) (Operand.tmp 47), type := 0, pos := "whole.go:22", after := #[{ on := 12, ground := Ground.data }, { on := 9, ground := Ground.data }, { on := 11, ground := Ground.chain }, { on := 0, ground := Ground.phase }, { on := 1, ground := Ground.phase }, { on := 2, ground := Ground.phase }, { on := 3, ground := Ground.phase }, { on := 4, ground := Ground.phase }, { on := 5, ground := Ground.phase }, { on := 6, ground := Ground.phase }, { on := 7, ground := Ground.phase }, { on := 8, ground := Ground.phase }, { on := 9, ground := Ground.phase }, { on := 10, ground := Ground.phase }, { on := 11, ground := Ground.phase }], guard := none }) rfl (fun K hK => ?_) AllReadyH.nil
      have HH := hidden hH5
      clear hH5
      refine wp_storeE 28 _ _ rfl T6 12 ([.int .u64 B.x0, .int .u64 B.x1, .int .u64 B.x2, .int .u64 B.x3]) (by rfl) (by rfl) (there_part TH.out (by simp)) i4_s (one4 _) rfl (fun wn6 hw => ?_)
      replace RG := hidden (show World.rangeAt _ T6 0 (tc a r A B VL VR) from range_pt RG.out 12 [.int .u64 B.x0, .int .u64 B.x1, .int .u64 B.x2, .int .u64 B.x3] (by simp [tc]))
      replace TH := hidden (there_setO TH.out T6 12 [.int .u64 B.x0, .int .u64 B.x1, .int .u64 B.x2, .int .u64 B.x3])
      have SN := hidden (HH.out.trans (gb_setCells T6 [.int .u64 B.x0, .int .u64 B.x1, .int .u64 B.x2, .int .u64 B.x3] 12 _))
      rw [← hw] at RG TH SN
      clear HH hw
      refine hK.out _ _ SN.out (fun hH6 => ?_)
      clear hK K SN
      have HH := hidden hH6
      have FQ := hidden (HQ.out _ HH.out RG.out TH.out)
      refine wpAnyH_done (by kernel_rfl) ?_ _
      refine NoPanic.normal ?_
      exact FQ.out
  · have HH := hidden hH0
    clear hH0
    refine wp_load_mid 28 _ rfl T6 12 (by rfl) [.int .u64 t.x0, .int .u64 t.x1, .int .u64 t.x2, .int .u64 t.x3] _ (range_seg (k := 4) RG.out rfl) U28.out rfl i4_s ?_
    simp only [Act.put, List.setIfInBounds_toArray, List.set_cons_zero, List.set_cons_succ]
    have SN := HH
    clear HH
    refine hK.out _ _ SN.out (fun hH1 => ?_)
    clear hK K SN
    refine wpAnyH_ready (rs := [1]) (by kernel_rfl) (by simp) ?_
    refine AllReadyH.cons (o := { dst := some 39, op := Op.load 28 (Operand.tmp 38), type := 28, pos := "whole.go:22", after := #[{ on := 0, ground := Ground.data }], guard := none }) rfl (fun K hK => ?_) AllReadyH.nil
    have HH := hidden hH1
    clear hH1
    refine wp_load_mid 28 _ rfl T6 8 (by rfl) [.int .u64 s.x0, .int .u64 s.x1, .int .u64 s.x2, .int .u64 s.x3] _ (range_seg (k := 4) RG.out rfl) U28.out rfl i4_s ?_
    simp only [Act.put, List.setIfInBounds_toArray, List.set_cons_zero, List.set_cons_succ]
    have SN := HH
    clear HH
    refine hK.out _ _ SN.out (fun hH2 => ?_)
    clear hK K SN
    refine wpAnyH_ready (rs := [4]) (by kernel_rfl) (by simp) ?_
    refine AllReadyH.cons (o := { dst := some 42, op := Op.call { callee := Callee.value (Operand.func 12), args := #[Operand.tmp 39, Operand.tmp 41], argTypes := #[28, 28] }, type := 28, pos := "whole.go:22", after := #[{ on := 1, ground := Ground.data }, { on := 3, ground := Ground.data }], guard := none }) rfl (fun K hK => ?_) AllReadyH.nil
    have HH := hidden hH2
    clear hH2
    go_simp
    refine (C4.out _ HH.out).mono ?_
    rintro e wn3 ⟨rfl, hb⟩
    replace RG := hidden (range_keepM RG.out hb)
    replace TH := hidden (there_keepM TH.out hb)
    have SN := hidden (HH.out.trans (gbI hb _))
    clear HH C4 hb
    go_wp2_with fail
    refine hK.out _ _ SN.out (fun hH3 => ?_)
    clear hK K SN
    refine wpAnyH_take (i := 10) (oi := { dst := some 48, op := Op.fieldAddr 31 (Operand.tmp 6) 2, type := 0, pos := "whole.go:22", after := #[{ on := 0, ground := Ground.phase }, { on := 1, ground := Ground.phase }, { on := 2, ground := Ground.phase }, { on := 3, ground := Ground.phase }, { on := 4, ground := Ground.phase }, { on := 5, ground := Ground.phase }, { on := 6, ground := Ground.phase }, { on := 7, ground := Ground.textOnly Departure.lateStores }, { on := 8, ground := Ground.textOnly Departure.lateStores }, { on := 9, ground := Ground.textOnly Departure.lateStoresUnsure }], guard := none }) (v := .pointer (some ⟨T6, 8, none⟩)) rfl (by kernel_rfl) (by kernel_rfl) (by kernel_rfl) (fun _ _ _ h => h) (Or.inl ⟨by rfl, fun w0 hSw => ?_⟩) hH3 ?_
    · (clear hSw; go_simp)
    simp only [Act.put, List.setIfInBounds_toArray, List.set_cons_zero, List.set_cons_succ]
    refine wpAnyH_ready (rs := [9]) (by kernel_rfl) (by simp) ?_
    refine AllReadyH.cons (o := { dst := some 47, op := Op.call { callee := Callee.value (Operand.func 12), args := #[Operand.tmp 44, Operand.tmp 46], argTypes := #[28, 28] }, type := 28, pos := "whole.go:22", after := #[{ on := 6, ground := Ground.data }, { on := 8, ground := Ground.data }, { on := 4, ground := Ground.chain }], guard := none }) rfl (fun K hK => ?_) AllReadyH.nil
    have HH := hidden hH3
    clear hH3
    go_simp
    refine (C9.out _ HH.out).mono ?_
    rintro e wn4 ⟨rfl, hb⟩
    replace RG := hidden (range_keepM RG.out hb)
    replace TH := hidden (there_keepM TH.out hb)
    have SN := hidden (HH.out.trans (gbI hb _))
    clear HH C9 hb
    go_wp2_with fail
    refine hK.out _ _ SN.out (fun hH4 => ?_)
    clear hK K SN
    refine wpAnyH_ready (rs := [11]) (by kernel_rfl) (by simp) ?_
    refine AllReadyH.cons (o := { dst := none, op := Op.store 28 (Operand.tmp 48) (Operand.tmp 42), type := 0, pos := "whole.go:22", after := #[{ on := 10, ground := Ground.data }, { on := 4, ground := Ground.data }, { on := 9, ground := Ground.chain }, { on := 0, ground := Ground.phase }, { on := 1, ground := Ground.phase }, { on := 2, ground := Ground.phase }, { on := 3, ground := Ground.phase }, { on := 4, ground := Ground.phase }, { on := 5, ground := Ground.phase }, { on := 6, ground := Ground.phase }, { on := 7, ground := Ground.textOnly Departure.lateStores }, { on := 8, ground := Ground.textOnly Departure.lateStores }, { on := 9, ground := Ground.textOnly Departure.lateStoresUnsure }], guard := none }) rfl (fun K hK => ?_) AllReadyH.nil
    have HH := hidden hH4
    clear hH4
    refine wp_storeE 28 _ _ rfl T6 8 ([.int .u64 A.x0, .int .u64 A.x1, .int .u64 A.x2, .int .u64 A.x3]) (by rfl) (by rfl) (there_part TH.out (by simp)) i4_s (one4 _) rfl (fun wn5 hw => ?_)
    replace RG := hidden (show World.rangeAt _ T6 0 (tc a r A t VL VR) from range_pt RG.out 8 [.int .u64 A.x0, .int .u64 A.x1, .int .u64 A.x2, .int .u64 A.x3] (by simp [tc]))
    replace TH := hidden (there_setO TH.out T6 8 [.int .u64 A.x0, .int .u64 A.x1, .int .u64 A.x2, .int .u64 A.x3])
    have SN := hidden (HH.out.trans (gb_setCells T6 [.int .u64 A.x0, .int .u64 A.x1, .int .u64 A.x2, .int .u64 A.x3] 8 _))
    rw [← hw] at RG TH SN
    clear HH hw
    refine hK.out _ _ SN.out (fun hH5 => ?_)
    clear hK K SN
    refine wpAnyH_take (i := 12) (oi := { dst := some 49, op := Op.fieldAddr 31 (Operand.tmp 6) 3, type := 0, pos := "whole.go:22", after := #[{ on := 0, ground := Ground.phase }, { on := 1, ground := Ground.phase }, { on := 2, ground := Ground.phase }, { on := 3, ground := Ground.phase }, { on := 4, ground := Ground.phase }, { on := 5, ground := Ground.phase }, { on := 6, ground := Ground.phase }, { on := 7, ground := Ground.phase }, { on := 8, ground := Ground.phase }, { on := 9, ground := Ground.phase }, { on := 10, ground := Ground.phase }, { on := 11, ground := Ground.phase }], guard := none }) (v := .pointer (some ⟨T6, 12, none⟩)) rfl (by kernel_rfl) (by kernel_rfl) (by kernel_rfl) (fun _ _ _ h => h) (Or.inl ⟨by rfl, fun w0 hSw => ?_⟩) hH5 ?_
    · (clear hSw; go_simp)
    simp only [Act.put, List.setIfInBounds_toArray, List.set_cons_zero, List.set_cons_succ]
    refine wpAnyH_ready (rs := [13]) (by kernel_rfl) (by simp) ?_
    refine AllReadyH.cons (o := { dst := none, op := Op.store 28 (Operand.tmp 49) (Operand.tmp 47), type := 0, pos := "whole.go:22", after := #[{ on := 12, ground := Ground.data }, { on := 9, ground := Ground.data }, { on := 11, ground := Ground.chain }, { on := 0, ground := Ground.phase }, { on := 1, ground := Ground.phase }, { on := 2, ground := Ground.phase }, { on := 3, ground := Ground.phase }, { on := 4, ground := Ground.phase }, { on := 5, ground := Ground.phase }, { on := 6, ground := Ground.phase }, { on := 7, ground := Ground.phase }, { on := 8, ground := Ground.phase }, { on := 9, ground := Ground.phase }, { on := 10, ground := Ground.phase }, { on := 11, ground := Ground.phase }], guard := none }) rfl (fun K hK => ?_) AllReadyH.nil
    have HH := hidden hH5
    clear hH5
    refine wp_storeE 28 _ _ rfl T6 12 ([.int .u64 B.x0, .int .u64 B.x1, .int .u64 B.x2, .int .u64 B.x3]) (by rfl) (by rfl) (there_part TH.out (by simp)) i4_s (one4 _) rfl (fun wn6 hw => ?_)
    replace RG := hidden (show World.rangeAt _ T6 0 (tc a r A B VL VR) from range_pt RG.out 12 [.int .u64 B.x0, .int .u64 B.x1, .int .u64 B.x2, .int .u64 B.x3] (by simp [tc]))
    replace TH := hidden (there_setO TH.out T6 12 [.int .u64 B.x0, .int .u64 B.x1, .int .u64 B.x2, .int .u64 B.x3])
    have SN := hidden (HH.out.trans (gb_setCells T6 [.int .u64 B.x0, .int .u64 B.x1, .int .u64 B.x2, .int .u64 B.x3] 12 _))
    rw [← hw] at RG TH SN
    clear HH hw
    refine hK.out _ _ SN.out (fun hH6 => ?_)
    clear hK K SN
    have HH := hidden hH6
    have FQ := hidden (HQ.out _ HH.out RG.out TH.out)
    refine wpAnyH_done (by kernel_rfl) ?_ _
    refine NoPanic.normal ?_
    exact FQ.out
theorem range_gr {w w' : World} {r : Option Nat} {b : Nat} {cs : List Value} (h : w.rangeAt b 0 cs) (hg : w.grownBy w' r) (hne : ¬ some b = r) : w'.rangeAt b 0 cs := fun j v hv => hg.cell (h j v hv) hne
theorem there_gr {w w' : World} {r : Option Nat} {b n : Nat} (h : w.there b 0 n) (hg : w.grownBy w' r) (hne : ¬ some b = r) : w'.there b 0 n := fun j hj => by
  obtain ⟨h1, h2⟩ := h j hj
  obtain ⟨u, hu⟩ := Option.isSome_iff_exists.1 h1
  have hb := hg.block b (World.block_lt_of_cell? w _ hu) hne
  exact ⟨by rw [World.cell?_of_block (a := ⟨b, 0 + j, none⟩) hb]; exact h1, by rw [World.frozen?_of_block (a := ⟨b, 0 + j, none⟩) hb]; exact h2⟩
def wh11o : Array Oper := #[{ dst := some 50, op := Op.fieldAddr 31 (Operand.tmp 6) 4, type := 0, pos := "whole.go:23", after := #[], guard := none },
  { dst := some 51, op := Op.load 29 (Operand.tmp 50), type := 29, pos := "whole.go:23", after := #[{ on := 0, ground := Ground.data }], guard := none },
  { dst := some 52, op := Op.fieldAddr 31 (Operand.tmp 8) 4, type := 0, pos := "whole.go:23", after := #[], guard := none },
  { dst := some 53, op := Op.load 29 (Operand.tmp 52), type := 29, pos := "whole.go:23", after := #[{ on := 2, ground := Ground.data }], guard := none },
  { dst := some 54, op := Op.call { callee := Callee.value (Operand.func 20), args := #[Operand.tmp 51, Operand.tmp 53], argTypes := #[29, 29] }, type := 29, pos := "whole.go:23", after := #[{ on := 1, ground := Ground.data }, { on := 3, ground := Ground.data }], guard := none },
  { dst := some 55, op := Op.fieldAddr 31 (Operand.tmp 6) 5, type := 0, pos := "whole.go:23", after := #[], guard := none },
  { dst := some 56, op := Op.load 29 (Operand.tmp 55), type := 29, pos := "whole.go:23", after := #[{ on := 5, ground := Ground.data }], guard := none },
  { dst := some 57, op := Op.fieldAddr 31 (Operand.tmp 8) 5, type := 0, pos := "whole.go:23", after := #[], guard := none },
  { dst := some 58, op := Op.load 29 (Operand.tmp 57), type := 29, pos := "whole.go:23", after := #[{ on := 7, ground := Ground.data }], guard := none },
  { dst := some 59, op := Op.call { callee := Callee.value (Operand.func 20), args := #[Operand.tmp 56, Operand.tmp 58], argTypes := #[29, 29] }, type := 29, pos := "whole.go:23", after := #[{ on := 6, ground := Ground.data }, { on := 8, ground := Ground.data }, { on := 4, ground := Ground.chain }], guard := none },
  { dst := some 60, op := Op.fieldAddr 31 (Operand.tmp 6) 4, type := 0, pos := "whole.go:23", after := #[{ on := 0, ground := Ground.phase }, { on := 1, ground := Ground.phase }, { on := 2, ground := Ground.phase }, { on := 3, ground := Ground.phase }, { on := 4, ground := Ground.phase }, { on := 5, ground := Ground.phase }, { on := 6, ground := Ground.phase }, { on := 7, ground := Ground.textOnly Departure.lateStores }, { on := 8, ground := Ground.textOnly Departure.lateStores }, { on := 9, ground := Ground.textOnly Departure.lateStoresUnsure }], guard := none },
  { dst := none, op := Op.store 29 (Operand.tmp 60) (Operand.tmp 54), type := 0, pos := "whole.go:23", after := #[{ on := 10, ground := Ground.data }, { on := 4, ground := Ground.data }, { on := 9, ground := Ground.chain }, { on := 0, ground := Ground.phase }, { on := 1, ground := Ground.phase }, { on := 2, ground := Ground.phase }, { on := 3, ground := Ground.phase }, { on := 4, ground := Ground.phase }, { on := 5, ground := Ground.phase }, { on := 6, ground := Ground.phase }, { on := 7, ground := Ground.textOnly Departure.lateStores }, { on := 8, ground := Ground.textOnly Departure.lateStores }, { on := 9, ground := Ground.textOnly Departure.lateStoresUnsure }], guard := none },
  { dst := some 61, op := Op.fieldAddr 31 (Operand.tmp 6) 5, type := 0, pos := "whole.go:23", after := #[{ on := 0, ground := Ground.phase }, { on := 1, ground := Ground.phase }, { on := 2, ground := Ground.phase }, { on := 3, ground := Ground.phase }, { on := 4, ground := Ground.phase }, { on := 5, ground := Ground.phase }, { on := 6, ground := Ground.phase }, { on := 7, ground := Ground.phase }, { on := 8, ground := Ground.phase }, { on := 9, ground := Ground.phase }, { on := 10, ground := Ground.phase }, { on := 11, ground := Ground.phase }], guard := none },
  { dst := none, op := Op.store 29 (Operand.tmp 61) (Operand.tmp 59), type := 0, pos := "whole.go:23", after := #[{ on := 12, ground := Ground.data }, { on := 9, ground := Ground.data }, { on := 11, ground := Ground.chain }, { on := 0, ground := Ground.phase }, { on := 1, ground := Ground.phase }, { on := 2, ground := Ground.phase }, { on := 3, ground := Ground.phase }, { on := 4, ground := Ground.phase }, { on := 5, ground := Ground.phase }, { on := 6, ground := Ground.phase }, { on := 7, ground := Ground.phase }, { on := 8, ground := Ground.phase }, { on := 9, ground := Ground.phase }, { on := 10, ground := Ground.phase }, { on := 11, ground := Ground.phase }], guard := none }]
set_option maxRecDepth 100000 in
set_option maxHeartbeats 16000000 in
theorem wh11 (Q : Exit → Act → World → Prop) (T6 T8 B n m : Nat) (a r s t : E4) (VL VR XL XR : Value) (g1 g2 : Nat → E4) (u0 u1 u2 u3 u4 u5 u7 u9 u10 u11 u12 u13 u14 u15 u16 u17 u18 u19 u20 u21 u22 u23 u24 u25 u26 u27 u28 u29 u30 u31 u32 u33 u34 u35 u36 u37 u38 u39 u40 u41 u42 u43 u44 u45 u46 u47 u48 u49 u50 u51 u52 u53 u54 u55 u56 u57 u58 u59 u60 u61 u62 u63 : Value) (W : World)
    (RG0 : W.rangeAt T6 0 (tc a r s t VL VR)) (TH0 : W.there T6 0 18) (ne86 : T8 ≠ T6) (hB : T6 < B) (h6W : T6 ≤ W.heap.size) (cL : W.cell? ⟨T8, 16, none⟩ = some XL) (cR : W.cell? ⟨T8, 17, none⟩ = some XR)
    (OL0 : W.ownsRow B 28 4 VL n (svs n g1)) (OR0 : W.ownsRow B 28 4 VR n (svs n g2)) (DJ0 : Dj VL VR) (L8a : ¬ VL.ownBlock = some T8) (R8a : ¬ VR.ownBlock = some T8)
    (C4 : Hid (∀ x, Below T6 W x → W.heap.size ≤ x.heap.size → x.ownsRow B 28 4 VL n (svs n g1) → Calls Tryd.prog 20 #[VL, XL] x fun e w' => ∃ (p : Option Addr) (c : Nat), e = .returned (.slice p (n + m) c) ∧ w'.ownsRow B 28 4 (.slice p (n + m) c) (n + m) (svs (n + m) g1) ∧ x.grownBy w' (VL).ownBlock ∧ Nx VL (.slice p (n + m) c) x.heap.size))
    (C9 : Hid (∀ x, Below T6 W x → W.heap.size ≤ x.heap.size → x.ownsRow B 28 4 VR n (svs n g2) → Calls Tryd.prog 20 #[VR, XR] x fun e w' => ∃ (p : Option Addr) (c : Nat), e = .returned (.slice p (n + m) c) ∧ w'.ownsRow B 28 4 (.slice p (n + m) c) (n + m) (svs (n + m) g2) ∧ x.grownBy w' (VR).ownBlock ∧ Nx VR (.slice p (n + m) c) x.heap.size))
    (HQ : Hid (∀ p1 k1 p2 k2 wz, Below T6 W wz → W.heap.size ≤ wz.heap.size → wz.rangeAt T6 0 (tc a r s t (.slice p1 (n + m) k1) (.slice p2 (n + m) k2)) → wz.there T6 0 18 → wz.ownsRow B 28 4 (.slice p1 (n + m) k1) (n + m) (svs (n + m) g1) → wz.ownsRow B 28 4 (.slice p2 (n + m) k2) (n + m) (svs (n + m) g2) → Dj (.slice p1 (n + m) k1) (.slice p2 (n + m) k2) → Q .normal ⟨#[u0, u1, u2, u3, u4, u5, .pointer (some ⟨T6, 0, none⟩), u7, .pointer (some ⟨T8, 0, none⟩), u9, u10, u11, u12, u13, u14, u15, u16, u17, u18, u19, u20, u21, u22, u23, u24, u25, u26, u27, u28, u29, u30, u31, u32, u33, u34, u35, u36, u37, u38, u39, u40, u41, u42, u43, u44, u45, u46, u47, u48, u49, .pointer (some ⟨T6, 16, none⟩), VL, .pointer (some ⟨T8, 16, none⟩), XL, .slice p1 (n + m) k1, .pointer (some ⟨T6, 17, none⟩), VR, .pointer (some ⟨T8, 17, none⟩), XR, .slice p2 (n + m) k2, .pointer (some ⟨T6, 16, none⟩), .pointer (some ⟨T6, 17, none⟩), u62, u63], []⟩ wz)) : (Code.region 11 wh11o true).wp Tryd.prog Q ⟨#[u0, u1, u2, u3, u4, u5, .pointer (some ⟨T6, 0, none⟩), u7, .pointer (some ⟨T8, 0, none⟩), u9, u10, u11, u12, u13, u14, u15, u16, u17, u18, u19, u20, u21, u22, u23, u24, u25, u26, u27, u28, u29, u30, u31, u32, u33, u34, u35, u36, u37, u38, u39, u40, u41, u42, u43, u44, u45, u46, u47, u48, u49, u50, u51, u52, u53, u54, u55, u56, u57, u58, u59, u60, u61, u62, u63], []⟩ W := by
  have RG := hidden (range_keepM RG0 (bl_drew W))
  have TH := hidden (there_keepM TH0 (bl_drew W))
  have OL := hidden (own_keepX OL0 (bl_drew W))
  have OR := hidden (own_keepX OR0 (bl_drew W))
  have DJ := hidden DJ0
  have L8 := hidden L8a
  have R8 := hidden R8a
  have T6W := hidden h6W
  have FB := hidden (bl_mono (bl_drew W) h6W)
  have FS := hidden (bl_drew W).size
  clear RG0 TH0 OL0 OR0 DJ0 L8a R8a h6W
  unfold wh11o
  refine wp_region_noPanic ?_
  refine wp_region_held_drew (S := fun x => x.cell? ⟨T8, 16, none⟩ = some XL ∧ x.cell? ⟨T8, 17, none⟩ = some XR) (by kernel_rfl) (And.intro (cell_keep cL (bl_drew W)) (cell_keep cR (bl_drew W))) (fun hH0 => ?_)
  refine wpAnyH_take (i := 0) (oi := { dst := some 50, op := Op.fieldAddr 31 (Operand.tmp 6) 4, type := 0, pos := "whole.go:23", after := #[], guard := none }) (v := .pointer (some ⟨T6, 16, none⟩)) rfl (by kernel_rfl) (by kernel_rfl) (by kernel_rfl) (fun _ _ _ h => h) (Or.inl ⟨by rfl, fun w0 hSw => ?_⟩) hH0 ?_
  · (clear hSw; go_simp)
  simp only [Act.put, List.setIfInBounds_toArray, List.set_cons_zero, List.set_cons_succ]
  refine wpAnyH_take (i := 2) (oi := { dst := some 52, op := Op.fieldAddr 31 (Operand.tmp 8) 4, type := 0, pos := "whole.go:23", after := #[], guard := none }) (v := .pointer (some ⟨T8, 16, none⟩)) rfl (by kernel_rfl) (by kernel_rfl) (by kernel_rfl) (fun _ _ _ h => h) (Or.inl ⟨by rfl, fun w0 hSw => ?_⟩) hH0 ?_
  · (clear hSw; go_simp)
  simp only [Act.put, List.setIfInBounds_toArray, List.set_cons_zero, List.set_cons_succ]
  refine wpAnyH_take (i := 5) (oi := { dst := some 55, op := Op.fieldAddr 31 (Operand.tmp 6) 5, type := 0, pos := "whole.go:23", after := #[], guard := none }) (v := .pointer (some ⟨T6, 17, none⟩)) rfl (by kernel_rfl) (by kernel_rfl) (by kernel_rfl) (fun _ _ _ h => h) (Or.inl ⟨by rfl, fun w0 hSw => ?_⟩) hH0 ?_
  · (clear hSw; go_simp)
  simp only [Act.put, List.setIfInBounds_toArray, List.set_cons_zero, List.set_cons_succ]
  refine wpAnyH_take (i := 7) (oi := { dst := some 57, op := Op.fieldAddr 31 (Operand.tmp 8) 5, type := 0, pos := "whole.go:23", after := #[], guard := none }) (v := .pointer (some ⟨T8, 17, none⟩)) rfl (by kernel_rfl) (by kernel_rfl) (by kernel_rfl) (fun _ _ _ h => h) (Or.inl ⟨by rfl, fun w0 hSw => ?_⟩) hH0 ?_
  · (clear hSw; go_simp)
  simp only [Act.put, List.setIfInBounds_toArray, List.set_cons_zero, List.set_cons_succ]
  refine wpAnyH_take (i := 3) (oi := { dst := some 53, op := Op.load 29 (Operand.tmp 52), type := 29, pos := "whole.go:23", after := #[{ on := 2, ground := Ground.data }], guard := none }) (v := XL) rfl (by kernel_rfl) (by kernel_rfl) (by kernel_rfl) (fun _ _ _ h => h) (Or.inl ⟨by rfl, fun w0 hSw => ?_⟩) hH0 ?_
  · (have hS : w0.cell? ⟨T8, 16, none⟩ = some XL ∧ w0.cell? ⟨T8, 17, none⟩ = some XR := hSw; have a0 := hS.1; clear hS hSw; go_simp)
  simp only [Act.put, List.setIfInBounds_toArray, List.set_cons_zero, List.set_cons_succ]
  refine wpAnyH_take (i := 8) (oi := { dst := some 58, op := Op.load 29 (Operand.tmp 57), type := 29, pos := "whole.go:23", after := #[{ on := 7, ground := Ground.data }], guard := none }) (v := XR) rfl (by kernel_rfl) (by kernel_rfl) (by kernel_rfl) (fun _ _ _ h => h) (Or.inl ⟨by rfl, fun w0 hSw => ?_⟩) hH0 ?_
  · (have hS : w0.cell? ⟨T8, 16, none⟩ = some XL ∧ w0.cell? ⟨T8, 17, none⟩ = some XR := hSw; have a0 := hS.2; clear hS hSw; go_simp)
  simp only [Act.put, List.setIfInBounds_toArray, List.set_cons_zero, List.set_cons_succ]
  refine wpAnyH_ready (rs := [1, 6]) (by kernel_rfl) (by simp) ?_
  refine AllReadyH.cons (o := { dst := some 51, op := Op.load 29 (Operand.tmp 50), type := 29, pos := "whole.go:23", after := #[{ on := 0, ground := Ground.data }], guard := none }) rfl (fun K hK => ?_) (AllReadyH.cons (o := { dst := some 56, op := Op.load 29 (Operand.tmp 55), type := 29, pos := "whole.go:23", after := #[{ on := 5, ground := Ground.data }], guard := none }) rfl (fun K hK => ?_) AllReadyH.nil)
  · have HH := hidden hH0
    clear hH0
    refine wp_loadX 29 _ rfl T6 16 (by rfl) VL (run_loadS _ T6 16 VL (by simpa using RG.out 16 _ rfl)) ?_
    simp only [Act.put, List.setIfInBounds_toArray, List.set_cons_zero, List.set_cons_succ]
    have SN := HH
    clear HH
    refine hK.out _ _ SN.out (fun hH1 => ?_)
    clear hK K SN
    refine wpAnyH_ready (rs := [4, 6]) (by kernel_rfl) (by simp) ?_
    refine AllReadyH.cons (o := { dst := some 54, op := Op.call { callee := Callee.value (Operand.func 20), args := #[Operand.tmp 51, Operand.tmp 53], argTypes := #[29, 29] }, type := 29, pos := "whole.go:23", after := #[{ on := 1, ground := Ground.data }, { on := 3, ground := Ground.data }], guard := none }) rfl (fun K hK => ?_) (AllReadyH.cons (o := { dst := some 56, op := Op.load 29 (Operand.tmp 55), type := 29, pos := "whole.go:23", after := #[{ on := 5, ground := Ground.data }], guard := none }) rfl (fun K hK => ?_) AllReadyH.nil)
    · have HH := hidden hH1
      clear hH1
      go_simp
      refine (C4.out _ FB.out FS.out OL.out).mono ?_
      rintro e wn2 ⟨p1, k1, rfl, ho, hg, hx⟩
      have LO := hidden (fun j hj => (OL.out.lt j hj))
      have LR := hidden (fun j hj => (OR.out.lt j hj))
      have SN := hidden (And.intro (hg.cell HH.out.1 (fun e => L8.out e.symm)) (hg.cell HH.out.2 (fun e => L8.out e.symm)))
      replace RG := hidden (range_gr RG.out hg (fun e => by have := (LO.out _ e.symm).1; omega))
      replace TH := hidden (there_gr TH.out hg (fun e => by have := (LO.out _ e.symm).1; omega))
      replace OR := hidden (DJ.out.kept OR.out hg)
      replace OL := hidden (ho)
      replace DJ := hidden (DJ.out.next hx (fun j hj => (LR.out j hj).2))
      replace FB := hidden (below_transI FB.out (bl_grown hg (Nat.le_trans T6W.out FS.out) (fun k hk => by have := (LO.out k hk).1; omega)))
      replace FS := hidden (Nat.le_trans FS.out hg.size)
      clear HH C4 ho hg hx LO LR
      go_wp2_with fail
      refine hK.out _ _ SN.out (fun hH2 => ?_)
      clear hK K SN
      refine wpAnyH_ready (rs := [6]) (by kernel_rfl) (by simp) ?_
      refine AllReadyH.cons (o := { dst := some 56, op := Op.load 29 (Operand.tmp 55), type := 29, pos := "whole.go:23", after := #[{ on := 5, ground := Ground.data }], guard := none }) rfl (fun K hK => ?_) AllReadyH.nil
      have HH := hidden hH2
      clear hH2
      refine wp_loadX 29 _ rfl T6 17 (by rfl) VR (run_loadS _ T6 17 VR (by simpa using RG.out 17 _ rfl)) ?_
      simp only [Act.put, List.setIfInBounds_toArray, List.set_cons_zero, List.set_cons_succ]
      have SN := HH
      clear HH
      refine hK.out _ _ SN.out (fun hH3 => ?_)
      clear hK K SN
      refine wpAnyH_take (i := 10) (oi := { dst := some 60, op := Op.fieldAddr 31 (Operand.tmp 6) 4, type := 0, pos := "whole.go:23", after := #[{ on := 0, ground := Ground.phase }, { on := 1, ground := Ground.phase }, { on := 2, ground := Ground.phase }, { on := 3, ground := Ground.phase }, { on := 4, ground := Ground.phase }, { on := 5, ground := Ground.phase }, { on := 6, ground := Ground.phase }, { on := 7, ground := Ground.textOnly Departure.lateStores }, { on := 8, ground := Ground.textOnly Departure.lateStores }, { on := 9, ground := Ground.textOnly Departure.lateStoresUnsure }], guard := none }) (v := .pointer (some ⟨T6, 16, none⟩)) rfl (by kernel_rfl) (by kernel_rfl) (by kernel_rfl) (fun _ _ _ h => h) (Or.inl ⟨by rfl, fun w0 hSw => ?_⟩) hH3 ?_
      · (clear hSw; go_simp)
      simp only [Act.put, List.setIfInBounds_toArray, List.set_cons_zero, List.set_cons_succ]
      refine wpAnyH_ready (rs := [9]) (by kernel_rfl) (by simp) ?_
      refine AllReadyH.cons (o := { dst := some 59, op := Op.call { callee := Callee.value (Operand.func 20), args := #[Operand.tmp 56, Operand.tmp 58], argTypes := #[29, 29] }, type := 29, pos := "whole.go:23", after := #[{ on := 6, ground := Ground.data }, { on := 8, ground := Ground.data }, { on := 4, ground := Ground.chain }], guard := none }) rfl (fun K hK => ?_) AllReadyH.nil
      have HH := hidden hH3
      clear hH3
      go_simp
      refine (C9.out _ FB.out FS.out OR.out).mono ?_
      rintro e wn4 ⟨p2, k2, rfl, ho, hg, hx⟩
      have LO := hidden (fun j hj => (OL.out.lt j hj))
      have LR := hidden (fun j hj => (OR.out.lt j hj))
      have SN := hidden (And.intro (hg.cell HH.out.1 (fun e => R8.out e.symm)) (hg.cell HH.out.2 (fun e => R8.out e.symm)))
      replace RG := hidden (range_gr RG.out hg (fun e => by have := (LR.out _ e.symm).1; omega))
      replace TH := hidden (there_gr TH.out hg (fun e => by have := (LR.out _ e.symm).1; omega))
      replace OL := hidden (DJ.out.symm.kept OL.out hg)
      replace OR := hidden (ho)
      replace DJ := hidden ((DJ.out.symm.next hx (fun j hj => (LO.out j hj).2)).symm)
      replace FB := hidden (below_transI FB.out (bl_grown hg (Nat.le_trans T6W.out FS.out) (fun k hk => by have := (LR.out k hk).1; omega)))
      replace FS := hidden (Nat.le_trans FS.out hg.size)
      clear HH C9 ho hg hx LO LR
      go_wp2_with fail
      refine hK.out _ _ SN.out (fun hH4 => ?_)
      clear hK K SN
      refine wpAnyH_ready (rs := [11]) (by kernel_rfl) (by simp) ?_
      refine AllReadyH.cons (o := { dst := none, op := Op.store 29 (Operand.tmp 60) (Operand.tmp 54), type := 0, pos := "whole.go:23", after := #[{ on := 10, ground := Ground.data }, { on := 4, ground := Ground.data }, { on := 9, ground := Ground.chain }, { on := 0, ground := Ground.phase }, { on := 1, ground := Ground.phase }, { on := 2, ground := Ground.phase }, { on := 3, ground := Ground.phase }, { on := 4, ground := Ground.phase }, { on := 5, ground := Ground.phase }, { on := 6, ground := Ground.phase }, { on := 7, ground := Ground.textOnly Departure.lateStores }, { on := 8, ground := Ground.textOnly Departure.lateStores }, { on := 9, ground := Ground.textOnly Departure.lateStoresUnsure }], guard := none }) rfl (fun K hK => ?_) AllReadyH.nil
      have HH := hidden hH4
      clear hH4
      refine wp_storeV 29 _ _ rfl T6 16 p1 (n + m) k1 (by rfl) (by rfl) (there_part TH.out (by decide)) i1_s rfl (fun wn5 hw => ?_)
      replace RG := hidden (show World.rangeAt _ T6 0 (tc a r s t (.slice p1 (n + m) k1) VR) from range_pt RG.out 16 [.slice p1 (n + m) k1] (by simp [tc]))
      replace TH := hidden (there_setO TH.out T6 16 [.slice p1 (n + m) k1])
      replace OL := hidden (own_setCells OL.out T6 16 [.slice p1 (n + m) k1] (fun e => by have := (OL.out.lt _ e).1; omega))
      replace OR := hidden (own_setCells OR.out T6 16 [.slice p1 (n + m) k1] (fun e => by have := (OR.out.lt _ e).1; omega))
      have SN := hidden (And.intro ((gb_setCells T6 [.slice p1 (n + m) k1] 16 _).cell HH.out.1 (fun e => ne86 (Option.some.inj e))) ((gb_setCells T6 [.slice p1 (n + m) k1] 16 _).cell HH.out.2 (fun e => ne86 (Option.some.inj e))))
      replace FB := hidden (below_transI FB.out (bl_grown (gb_setCells T6 [.slice p1 (n + m) k1] 16 _) (Nat.le_trans T6W.out FS.out) (fun k hk => by have := Option.some.inj hk; omega)))
      replace FS := hidden (Nat.le_trans FS.out (gb_setCells T6 [.slice p1 (n + m) k1] 16 _).size)
      rw [← hw] at RG TH OL OR SN FB FS
      clear HH hw
      refine hK.out _ _ SN.out (fun hH5 => ?_)
      clear hK K SN
      refine wpAnyH_take (i := 12) (oi := { dst := some 61, op := Op.fieldAddr 31 (Operand.tmp 6) 5, type := 0, pos := "whole.go:23", after := #[{ on := 0, ground := Ground.phase }, { on := 1, ground := Ground.phase }, { on := 2, ground := Ground.phase }, { on := 3, ground := Ground.phase }, { on := 4, ground := Ground.phase }, { on := 5, ground := Ground.phase }, { on := 6, ground := Ground.phase }, { on := 7, ground := Ground.phase }, { on := 8, ground := Ground.phase }, { on := 9, ground := Ground.phase }, { on := 10, ground := Ground.phase }, { on := 11, ground := Ground.phase }], guard := none }) (v := .pointer (some ⟨T6, 17, none⟩)) rfl (by kernel_rfl) (by kernel_rfl) (by kernel_rfl) (fun _ _ _ h => h) (Or.inl ⟨by rfl, fun w0 hSw => ?_⟩) hH5 ?_
      · (clear hSw; go_simp)
      simp only [Act.put, List.setIfInBounds_toArray, List.set_cons_zero, List.set_cons_succ]
      refine wpAnyH_ready (rs := [13]) (by kernel_rfl) (by simp) ?_
      refine AllReadyH.cons (o := { dst := none, op := Op.store 29 (Operand.tmp 61) (Operand.tmp 59), type := 0, pos := "whole.go:23", after := #[{ on := 12, ground := Ground.data }, { on := 9, ground := Ground.data }, { on := 11, ground := Ground.chain }, { on := 0, ground := Ground.phase }, { on := 1, ground := Ground.phase }, { on := 2, ground := Ground.phase }, { on := 3, ground := Ground.phase }, { on := 4, ground := Ground.phase }, { on := 5, ground := Ground.phase }, { on := 6, ground := Ground.phase }, { on := 7, ground := Ground.phase }, { on := 8, ground := Ground.phase }, { on := 9, ground := Ground.phase }, { on := 10, ground := Ground.phase }, { on := 11, ground := Ground.phase }], guard := none }) rfl (fun K hK => ?_) AllReadyH.nil
      have HH := hidden hH5
      clear hH5
      refine wp_storeV 29 _ _ rfl T6 17 p2 (n + m) k2 (by rfl) (by rfl) (there_part TH.out (by decide)) i1_s rfl (fun wn6 hw => ?_)
      replace RG := hidden (show World.rangeAt _ T6 0 (tc a r s t (.slice p1 (n + m) k1) (.slice p2 (n + m) k2)) from range_pt RG.out 17 [.slice p2 (n + m) k2] (by simp [tc]))
      replace TH := hidden (there_setO TH.out T6 17 [.slice p2 (n + m) k2])
      replace OL := hidden (own_setCells OL.out T6 17 [.slice p2 (n + m) k2] (fun e => by have := (OL.out.lt _ e).1; omega))
      replace OR := hidden (own_setCells OR.out T6 17 [.slice p2 (n + m) k2] (fun e => by have := (OR.out.lt _ e).1; omega))
      have SN := hidden (And.intro ((gb_setCells T6 [.slice p2 (n + m) k2] 17 _).cell HH.out.1 (fun e => ne86 (Option.some.inj e))) ((gb_setCells T6 [.slice p2 (n + m) k2] 17 _).cell HH.out.2 (fun e => ne86 (Option.some.inj e))))
      replace FB := hidden (below_transI FB.out (bl_grown (gb_setCells T6 [.slice p2 (n + m) k2] 17 _) (Nat.le_trans T6W.out FS.out) (fun k hk => by have := Option.some.inj hk; omega)))
      replace FS := hidden (Nat.le_trans FS.out (gb_setCells T6 [.slice p2 (n + m) k2] 17 _).size)
      rw [← hw] at RG TH OL OR SN FB FS
      clear HH hw
      refine hK.out _ _ SN.out (fun hH6 => ?_)
      clear hK K SN
      have HH := hidden hH6
      have FQ := hidden (HQ.out p1 k1 p2 k2 _ FB.out FS.out RG.out TH.out OL.out OR.out DJ.out)
      refine wpAnyH_done (by kernel_rfl) ?_ _
      refine NoPanic.normal ?_
      exact FQ.out
    · have HH := hidden hH1
      clear hH1
      refine wp_loadX 29 _ rfl T6 17 (by rfl) VR (run_loadS _ T6 17 VR (by simpa using RG.out 17 _ rfl)) ?_
      simp only [Act.put, List.setIfInBounds_toArray, List.set_cons_zero, List.set_cons_succ]
      have SN := HH
      clear HH
      refine hK.out _ _ SN.out (fun hH2 => ?_)
      clear hK K SN
      refine wpAnyH_ready (rs := [4]) (by kernel_rfl) (by simp) ?_
      refine AllReadyH.cons (o := { dst := some 54, op := Op.call { callee := Callee.value (Operand.func 20), args := #[Operand.tmp 51, Operand.tmp 53], argTypes := #[29, 29] }, type := 29, pos := "whole.go:23", after := #[{ on := 1, ground := Ground.data }, { on := 3, ground := Ground.data }], guard := none }) rfl (fun K hK => ?_) AllReadyH.nil
      have HH := hidden hH2
      clear hH2
      go_simp
      refine (C4.out _ FB.out FS.out OL.out).mono ?_
      rintro e wn3 ⟨p1, k1, rfl, ho, hg, hx⟩
      have LO := hidden (fun j hj => (OL.out.lt j hj))
      have LR := hidden (fun j hj => (OR.out.lt j hj))
      have SN := hidden (And.intro (hg.cell HH.out.1 (fun e => L8.out e.symm)) (hg.cell HH.out.2 (fun e => L8.out e.symm)))
      replace RG := hidden (range_gr RG.out hg (fun e => by have := (LO.out _ e.symm).1; omega))
      replace TH := hidden (there_gr TH.out hg (fun e => by have := (LO.out _ e.symm).1; omega))
      replace OR := hidden (DJ.out.kept OR.out hg)
      replace OL := hidden (ho)
      replace DJ := hidden (DJ.out.next hx (fun j hj => (LR.out j hj).2))
      replace FB := hidden (below_transI FB.out (bl_grown hg (Nat.le_trans T6W.out FS.out) (fun k hk => by have := (LO.out k hk).1; omega)))
      replace FS := hidden (Nat.le_trans FS.out hg.size)
      clear HH C4 ho hg hx LO LR
      go_wp2_with fail
      refine hK.out _ _ SN.out (fun hH3 => ?_)
      clear hK K SN
      refine wpAnyH_take (i := 10) (oi := { dst := some 60, op := Op.fieldAddr 31 (Operand.tmp 6) 4, type := 0, pos := "whole.go:23", after := #[{ on := 0, ground := Ground.phase }, { on := 1, ground := Ground.phase }, { on := 2, ground := Ground.phase }, { on := 3, ground := Ground.phase }, { on := 4, ground := Ground.phase }, { on := 5, ground := Ground.phase }, { on := 6, ground := Ground.phase }, { on := 7, ground := Ground.textOnly Departure.lateStores }, { on := 8, ground := Ground.textOnly Departure.lateStores }, { on := 9, ground := Ground.textOnly Departure.lateStoresUnsure }], guard := none }) (v := .pointer (some ⟨T6, 16, none⟩)) rfl (by kernel_rfl) (by kernel_rfl) (by kernel_rfl) (fun _ _ _ h => h) (Or.inl ⟨by rfl, fun w0 hSw => ?_⟩) hH3 ?_
      · (clear hSw; go_simp)
      simp only [Act.put, List.setIfInBounds_toArray, List.set_cons_zero, List.set_cons_succ]
      refine wpAnyH_ready (rs := [9]) (by kernel_rfl) (by simp) ?_
      refine AllReadyH.cons (o := { dst := some 59, op := Op.call { callee := Callee.value (Operand.func 20), args := #[Operand.tmp 56, Operand.tmp 58], argTypes := #[29, 29] }, type := 29, pos := "whole.go:23", after := #[{ on := 6, ground := Ground.data }, { on := 8, ground := Ground.data }, { on := 4, ground := Ground.chain }], guard := none }) rfl (fun K hK => ?_) AllReadyH.nil
      have HH := hidden hH3
      clear hH3
      go_simp
      refine (C9.out _ FB.out FS.out OR.out).mono ?_
      rintro e wn4 ⟨p2, k2, rfl, ho, hg, hx⟩
      have LO := hidden (fun j hj => (OL.out.lt j hj))
      have LR := hidden (fun j hj => (OR.out.lt j hj))
      have SN := hidden (And.intro (hg.cell HH.out.1 (fun e => R8.out e.symm)) (hg.cell HH.out.2 (fun e => R8.out e.symm)))
      replace RG := hidden (range_gr RG.out hg (fun e => by have := (LR.out _ e.symm).1; omega))
      replace TH := hidden (there_gr TH.out hg (fun e => by have := (LR.out _ e.symm).1; omega))
      replace OL := hidden (DJ.out.symm.kept OL.out hg)
      replace OR := hidden (ho)
      replace DJ := hidden ((DJ.out.symm.next hx (fun j hj => (LO.out j hj).2)).symm)
      replace FB := hidden (below_transI FB.out (bl_grown hg (Nat.le_trans T6W.out FS.out) (fun k hk => by have := (LR.out k hk).1; omega)))
      replace FS := hidden (Nat.le_trans FS.out hg.size)
      clear HH C9 ho hg hx LO LR
      go_wp2_with fail
      refine hK.out _ _ SN.out (fun hH4 => ?_)
      clear hK K SN
      refine wpAnyH_ready (rs := [11]) (by kernel_rfl) (by simp) ?_
      refine AllReadyH.cons (o := { dst := none, op := Op.store 29 (Operand.tmp 60) (Operand.tmp 54), type := 0, pos := "whole.go:23", after := #[{ on := 10, ground := Ground.data }, { on := 4, ground := Ground.data }, { on := 9, ground := Ground.chain }, { on := 0, ground := Ground.phase }, { on := 1, ground := Ground.phase }, { on := 2, ground := Ground.phase }, { on := 3, ground := Ground.phase }, { on := 4, ground := Ground.phase }, { on := 5, ground := Ground.phase }, { on := 6, ground := Ground.phase }, { on := 7, ground := Ground.textOnly Departure.lateStores }, { on := 8, ground := Ground.textOnly Departure.lateStores }, { on := 9, ground := Ground.textOnly Departure.lateStoresUnsure }], guard := none }) rfl (fun K hK => ?_) AllReadyH.nil
      have HH := hidden hH4
      clear hH4
      refine wp_storeV 29 _ _ rfl T6 16 p1 (n + m) k1 (by rfl) (by rfl) (there_part TH.out (by decide)) i1_s rfl (fun wn5 hw => ?_)
      replace RG := hidden (show World.rangeAt _ T6 0 (tc a r s t (.slice p1 (n + m) k1) VR) from range_pt RG.out 16 [.slice p1 (n + m) k1] (by simp [tc]))
      replace TH := hidden (there_setO TH.out T6 16 [.slice p1 (n + m) k1])
      replace OL := hidden (own_setCells OL.out T6 16 [.slice p1 (n + m) k1] (fun e => by have := (OL.out.lt _ e).1; omega))
      replace OR := hidden (own_setCells OR.out T6 16 [.slice p1 (n + m) k1] (fun e => by have := (OR.out.lt _ e).1; omega))
      have SN := hidden (And.intro ((gb_setCells T6 [.slice p1 (n + m) k1] 16 _).cell HH.out.1 (fun e => ne86 (Option.some.inj e))) ((gb_setCells T6 [.slice p1 (n + m) k1] 16 _).cell HH.out.2 (fun e => ne86 (Option.some.inj e))))
      replace FB := hidden (below_transI FB.out (bl_grown (gb_setCells T6 [.slice p1 (n + m) k1] 16 _) (Nat.le_trans T6W.out FS.out) (fun k hk => by have := Option.some.inj hk; omega)))
      replace FS := hidden (Nat.le_trans FS.out (gb_setCells T6 [.slice p1 (n + m) k1] 16 _).size)
      rw [← hw] at RG TH OL OR SN FB FS
      clear HH hw
      refine hK.out _ _ SN.out (fun hH5 => ?_)
      clear hK K SN
      refine wpAnyH_take (i := 12) (oi := { dst := some 61, op := Op.fieldAddr 31 (Operand.tmp 6) 5, type := 0, pos := "whole.go:23", after := #[{ on := 0, ground := Ground.phase }, { on := 1, ground := Ground.phase }, { on := 2, ground := Ground.phase }, { on := 3, ground := Ground.phase }, { on := 4, ground := Ground.phase }, { on := 5, ground := Ground.phase }, { on := 6, ground := Ground.phase }, { on := 7, ground := Ground.phase }, { on := 8, ground := Ground.phase }, { on := 9, ground := Ground.phase }, { on := 10, ground := Ground.phase }, { on := 11, ground := Ground.phase }], guard := none }) (v := .pointer (some ⟨T6, 17, none⟩)) rfl (by kernel_rfl) (by kernel_rfl) (by kernel_rfl) (fun _ _ _ h => h) (Or.inl ⟨by rfl, fun w0 hSw => ?_⟩) hH5 ?_
      · (clear hSw; go_simp)
      simp only [Act.put, List.setIfInBounds_toArray, List.set_cons_zero, List.set_cons_succ]
      refine wpAnyH_ready (rs := [13]) (by kernel_rfl) (by simp) ?_
      refine AllReadyH.cons (o := { dst := none, op := Op.store 29 (Operand.tmp 61) (Operand.tmp 59), type := 0, pos := "whole.go:23", after := #[{ on := 12, ground := Ground.data }, { on := 9, ground := Ground.data }, { on := 11, ground := Ground.chain }, { on := 0, ground := Ground.phase }, { on := 1, ground := Ground.phase }, { on := 2, ground := Ground.phase }, { on := 3, ground := Ground.phase }, { on := 4, ground := Ground.phase }, { on := 5, ground := Ground.phase }, { on := 6, ground := Ground.phase }, { on := 7, ground := Ground.phase }, { on := 8, ground := Ground.phase }, { on := 9, ground := Ground.phase }, { on := 10, ground := Ground.phase }, { on := 11, ground := Ground.phase }], guard := none }) rfl (fun K hK => ?_) AllReadyH.nil
      have HH := hidden hH5
      clear hH5
      refine wp_storeV 29 _ _ rfl T6 17 p2 (n + m) k2 (by rfl) (by rfl) (there_part TH.out (by decide)) i1_s rfl (fun wn6 hw => ?_)
      replace RG := hidden (show World.rangeAt _ T6 0 (tc a r s t (.slice p1 (n + m) k1) (.slice p2 (n + m) k2)) from range_pt RG.out 17 [.slice p2 (n + m) k2] (by simp [tc]))
      replace TH := hidden (there_setO TH.out T6 17 [.slice p2 (n + m) k2])
      replace OL := hidden (own_setCells OL.out T6 17 [.slice p2 (n + m) k2] (fun e => by have := (OL.out.lt _ e).1; omega))
      replace OR := hidden (own_setCells OR.out T6 17 [.slice p2 (n + m) k2] (fun e => by have := (OR.out.lt _ e).1; omega))
      have SN := hidden (And.intro ((gb_setCells T6 [.slice p2 (n + m) k2] 17 _).cell HH.out.1 (fun e => ne86 (Option.some.inj e))) ((gb_setCells T6 [.slice p2 (n + m) k2] 17 _).cell HH.out.2 (fun e => ne86 (Option.some.inj e))))
      replace FB := hidden (below_transI FB.out (bl_grown (gb_setCells T6 [.slice p2 (n + m) k2] 17 _) (Nat.le_trans T6W.out FS.out) (fun k hk => by have := Option.some.inj hk; omega)))
      replace FS := hidden (Nat.le_trans FS.out (gb_setCells T6 [.slice p2 (n + m) k2] 17 _).size)
      rw [← hw] at RG TH OL OR SN FB FS
      clear HH hw
      refine hK.out _ _ SN.out (fun hH6 => ?_)
      clear hK K SN
      have HH := hidden hH6
      have FQ := hidden (HQ.out p1 k1 p2 k2 _ FB.out FS.out RG.out TH.out OL.out OR.out DJ.out)
      refine wpAnyH_done (by kernel_rfl) ?_ _
      refine NoPanic.normal ?_
      exact FQ.out
  · have HH := hidden hH0
    clear hH0
    refine wp_loadX 29 _ rfl T6 17 (by rfl) VR (run_loadS _ T6 17 VR (by simpa using RG.out 17 _ rfl)) ?_
    simp only [Act.put, List.setIfInBounds_toArray, List.set_cons_zero, List.set_cons_succ]
    have SN := HH
    clear HH
    refine hK.out _ _ SN.out (fun hH1 => ?_)
    clear hK K SN
    refine wpAnyH_ready (rs := [1]) (by kernel_rfl) (by simp) ?_
    refine AllReadyH.cons (o := { dst := some 51, op := Op.load 29 (Operand.tmp 50), type := 29, pos := "whole.go:23", after := #[{ on := 0, ground := Ground.data }], guard := none }) rfl (fun K hK => ?_) AllReadyH.nil
    have HH := hidden hH1
    clear hH1
    refine wp_loadX 29 _ rfl T6 16 (by rfl) VL (run_loadS _ T6 16 VL (by simpa using RG.out 16 _ rfl)) ?_
    simp only [Act.put, List.setIfInBounds_toArray, List.set_cons_zero, List.set_cons_succ]
    have SN := HH
    clear HH
    refine hK.out _ _ SN.out (fun hH2 => ?_)
    clear hK K SN
    refine wpAnyH_ready (rs := [4]) (by kernel_rfl) (by simp) ?_
    refine AllReadyH.cons (o := { dst := some 54, op := Op.call { callee := Callee.value (Operand.func 20), args := #[Operand.tmp 51, Operand.tmp 53], argTypes := #[29, 29] }, type := 29, pos := "whole.go:23", after := #[{ on := 1, ground := Ground.data }, { on := 3, ground := Ground.data }], guard := none }) rfl (fun K hK => ?_) AllReadyH.nil
    have HH := hidden hH2
    clear hH2
    go_simp
    refine (C4.out _ FB.out FS.out OL.out).mono ?_
    rintro e wn3 ⟨p1, k1, rfl, ho, hg, hx⟩
    have LO := hidden (fun j hj => (OL.out.lt j hj))
    have LR := hidden (fun j hj => (OR.out.lt j hj))
    have SN := hidden (And.intro (hg.cell HH.out.1 (fun e => L8.out e.symm)) (hg.cell HH.out.2 (fun e => L8.out e.symm)))
    replace RG := hidden (range_gr RG.out hg (fun e => by have := (LO.out _ e.symm).1; omega))
    replace TH := hidden (there_gr TH.out hg (fun e => by have := (LO.out _ e.symm).1; omega))
    replace OR := hidden (DJ.out.kept OR.out hg)
    replace OL := hidden (ho)
    replace DJ := hidden (DJ.out.next hx (fun j hj => (LR.out j hj).2))
    replace FB := hidden (below_transI FB.out (bl_grown hg (Nat.le_trans T6W.out FS.out) (fun k hk => by have := (LO.out k hk).1; omega)))
    replace FS := hidden (Nat.le_trans FS.out hg.size)
    clear HH C4 ho hg hx LO LR
    go_wp2_with fail
    refine hK.out _ _ SN.out (fun hH3 => ?_)
    clear hK K SN
    refine wpAnyH_take (i := 10) (oi := { dst := some 60, op := Op.fieldAddr 31 (Operand.tmp 6) 4, type := 0, pos := "whole.go:23", after := #[{ on := 0, ground := Ground.phase }, { on := 1, ground := Ground.phase }, { on := 2, ground := Ground.phase }, { on := 3, ground := Ground.phase }, { on := 4, ground := Ground.phase }, { on := 5, ground := Ground.phase }, { on := 6, ground := Ground.phase }, { on := 7, ground := Ground.textOnly Departure.lateStores }, { on := 8, ground := Ground.textOnly Departure.lateStores }, { on := 9, ground := Ground.textOnly Departure.lateStoresUnsure }], guard := none }) (v := .pointer (some ⟨T6, 16, none⟩)) rfl (by kernel_rfl) (by kernel_rfl) (by kernel_rfl) (fun _ _ _ h => h) (Or.inl ⟨by rfl, fun w0 hSw => ?_⟩) hH3 ?_
    · (clear hSw; go_simp)
    simp only [Act.put, List.setIfInBounds_toArray, List.set_cons_zero, List.set_cons_succ]
    refine wpAnyH_ready (rs := [9]) (by kernel_rfl) (by simp) ?_
    refine AllReadyH.cons (o := { dst := some 59, op := Op.call { callee := Callee.value (Operand.func 20), args := #[Operand.tmp 56, Operand.tmp 58], argTypes := #[29, 29] }, type := 29, pos := "whole.go:23", after := #[{ on := 6, ground := Ground.data }, { on := 8, ground := Ground.data }, { on := 4, ground := Ground.chain }], guard := none }) rfl (fun K hK => ?_) AllReadyH.nil
    have HH := hidden hH3
    clear hH3
    go_simp
    refine (C9.out _ FB.out FS.out OR.out).mono ?_
    rintro e wn4 ⟨p2, k2, rfl, ho, hg, hx⟩
    have LO := hidden (fun j hj => (OL.out.lt j hj))
    have LR := hidden (fun j hj => (OR.out.lt j hj))
    have SN := hidden (And.intro (hg.cell HH.out.1 (fun e => R8.out e.symm)) (hg.cell HH.out.2 (fun e => R8.out e.symm)))
    replace RG := hidden (range_gr RG.out hg (fun e => by have := (LR.out _ e.symm).1; omega))
    replace TH := hidden (there_gr TH.out hg (fun e => by have := (LR.out _ e.symm).1; omega))
    replace OL := hidden (DJ.out.symm.kept OL.out hg)
    replace OR := hidden (ho)
    replace DJ := hidden ((DJ.out.symm.next hx (fun j hj => (LO.out j hj).2)).symm)
    replace FB := hidden (below_transI FB.out (bl_grown hg (Nat.le_trans T6W.out FS.out) (fun k hk => by have := (LR.out k hk).1; omega)))
    replace FS := hidden (Nat.le_trans FS.out hg.size)
    clear HH C9 ho hg hx LO LR
    go_wp2_with fail
    refine hK.out _ _ SN.out (fun hH4 => ?_)
    clear hK K SN
    refine wpAnyH_ready (rs := [11]) (by kernel_rfl) (by simp) ?_
    refine AllReadyH.cons (o := { dst := none, op := Op.store 29 (Operand.tmp 60) (Operand.tmp 54), type := 0, pos := "whole.go:23", after := #[{ on := 10, ground := Ground.data }, { on := 4, ground := Ground.data }, { on := 9, ground := Ground.chain }, { on := 0, ground := Ground.phase }, { on := 1, ground := Ground.phase }, { on := 2, ground := Ground.phase }, { on := 3, ground := Ground.phase }, { on := 4, ground := Ground.phase }, { on := 5, ground := Ground.phase }, { on := 6, ground := Ground.phase }, { on := 7, ground := Ground.textOnly Departure.lateStores }, { on := 8, ground := Ground.textOnly Departure.lateStores }, { on := 9, ground := Ground.textOnly Departure.lateStoresUnsure }], guard := none }) rfl (fun K hK => ?_) AllReadyH.nil
    have HH := hidden hH4
    clear hH4
    refine wp_storeV 29 _ _ rfl T6 16 p1 (n + m) k1 (by rfl) (by rfl) (there_part TH.out (by decide)) i1_s rfl (fun wn5 hw => ?_)
    replace RG := hidden (show World.rangeAt _ T6 0 (tc a r s t (.slice p1 (n + m) k1) VR) from range_pt RG.out 16 [.slice p1 (n + m) k1] (by simp [tc]))
    replace TH := hidden (there_setO TH.out T6 16 [.slice p1 (n + m) k1])
    replace OL := hidden (own_setCells OL.out T6 16 [.slice p1 (n + m) k1] (fun e => by have := (OL.out.lt _ e).1; omega))
    replace OR := hidden (own_setCells OR.out T6 16 [.slice p1 (n + m) k1] (fun e => by have := (OR.out.lt _ e).1; omega))
    have SN := hidden (And.intro ((gb_setCells T6 [.slice p1 (n + m) k1] 16 _).cell HH.out.1 (fun e => ne86 (Option.some.inj e))) ((gb_setCells T6 [.slice p1 (n + m) k1] 16 _).cell HH.out.2 (fun e => ne86 (Option.some.inj e))))
    replace FB := hidden (below_transI FB.out (bl_grown (gb_setCells T6 [.slice p1 (n + m) k1] 16 _) (Nat.le_trans T6W.out FS.out) (fun k hk => by have := Option.some.inj hk; omega)))
    replace FS := hidden (Nat.le_trans FS.out (gb_setCells T6 [.slice p1 (n + m) k1] 16 _).size)
    rw [← hw] at RG TH OL OR SN FB FS
    clear HH hw
    refine hK.out _ _ SN.out (fun hH5 => ?_)
    clear hK K SN
    refine wpAnyH_take (i := 12) (oi := { dst := some 61, op := Op.fieldAddr 31 (Operand.tmp 6) 5, type := 0, pos := "whole.go:23", after := #[{ on := 0, ground := Ground.phase }, { on := 1, ground := Ground.phase }, { on := 2, ground := Ground.phase }, { on := 3, ground := Ground.phase }, { on := 4, ground := Ground.phase }, { on := 5, ground := Ground.phase }, { on := 6, ground := Ground.phase }, { on := 7, ground := Ground.phase }, { on := 8, ground := Ground.phase }, { on := 9, ground := Ground.phase }, { on := 10, ground := Ground.phase }, { on := 11, ground := Ground.phase }], guard := none }) (v := .pointer (some ⟨T6, 17, none⟩)) rfl (by kernel_rfl) (by kernel_rfl) (by kernel_rfl) (fun _ _ _ h => h) (Or.inl ⟨by rfl, fun w0 hSw => ?_⟩) hH5 ?_
    · (clear hSw; go_simp)
    simp only [Act.put, List.setIfInBounds_toArray, List.set_cons_zero, List.set_cons_succ]
    refine wpAnyH_ready (rs := [13]) (by kernel_rfl) (by simp) ?_
    refine AllReadyH.cons (o := { dst := none, op := Op.store 29 (Operand.tmp 61) (Operand.tmp 59), type := 0, pos := "whole.go:23", after := #[{ on := 12, ground := Ground.data }, { on := 9, ground := Ground.data }, { on := 11, ground := Ground.chain }, { on := 0, ground := Ground.phase }, { on := 1, ground := Ground.phase }, { on := 2, ground := Ground.phase }, { on := 3, ground := Ground.phase }, { on := 4, ground := Ground.phase }, { on := 5, ground := Ground.phase }, { on := 6, ground := Ground.phase }, { on := 7, ground := Ground.phase }, { on := 8, ground := Ground.phase }, { on := 9, ground := Ground.phase }, { on := 10, ground := Ground.phase }, { on := 11, ground := Ground.phase }], guard := none }) rfl (fun K hK => ?_) AllReadyH.nil
    have HH := hidden hH5
    clear hH5
    refine wp_storeV 29 _ _ rfl T6 17 p2 (n + m) k2 (by rfl) (by rfl) (there_part TH.out (by decide)) i1_s rfl (fun wn6 hw => ?_)
    replace RG := hidden (show World.rangeAt _ T6 0 (tc a r s t (.slice p1 (n + m) k1) (.slice p2 (n + m) k2)) from range_pt RG.out 17 [.slice p2 (n + m) k2] (by simp [tc]))
    replace TH := hidden (there_setO TH.out T6 17 [.slice p2 (n + m) k2])
    replace OL := hidden (own_setCells OL.out T6 17 [.slice p2 (n + m) k2] (fun e => by have := (OL.out.lt _ e).1; omega))
    replace OR := hidden (own_setCells OR.out T6 17 [.slice p2 (n + m) k2] (fun e => by have := (OR.out.lt _ e).1; omega))
    have SN := hidden (And.intro ((gb_setCells T6 [.slice p2 (n + m) k2] 17 _).cell HH.out.1 (fun e => ne86 (Option.some.inj e))) ((gb_setCells T6 [.slice p2 (n + m) k2] 17 _).cell HH.out.2 (fun e => ne86 (Option.some.inj e))))
    replace FB := hidden (below_transI FB.out (bl_grown (gb_setCells T6 [.slice p2 (n + m) k2] 17 _) (Nat.le_trans T6W.out FS.out) (fun k hk => by have := Option.some.inj hk; omega)))
    replace FS := hidden (Nat.le_trans FS.out (gb_setCells T6 [.slice p2 (n + m) k2] 17 _).size)
    rw [← hw] at RG TH OL OR SN FB FS
    clear HH hw
    refine hK.out _ _ SN.out (fun hH6 => ?_)
    clear hK K SN
    have HH := hidden hH6
    have FQ := hidden (HQ.out p1 k1 p2 k2 _ FB.out FS.out RG.out TH.out OL.out OR.out DJ.out)
    refine wpAnyH_done (by kernel_rfl) ?_ _
    refine NoPanic.normal ?_
    exact FQ.out
end Go.Proofs.YtbkiobfjabadeaaDoor
