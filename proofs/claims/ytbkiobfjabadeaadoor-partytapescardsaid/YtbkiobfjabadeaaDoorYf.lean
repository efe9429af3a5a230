import Derived.Test.YtbkiobfjabadeaaDoorYe
import Derived.Test.YtbkiobfjabadeaaDoorYd
namespace Go.Proofs.YtbkiobfjabadeaaDoor
open Go.RowKit
set_option linter.unusedVariables false
def tp1o : Array Oper := #[{ dst := some 3, op := Op.fieldAddr 31 (Operand.tmp 1) 0, type := 0, pos := "law.go:91", after := #[], guard := none },
  { dst := some 4, op := Op.load 28 (Operand.tmp 3), type := 28, pos := "law.go:91", after := #[{ on := 0, ground := Ground.data }], guard := none },
  { dst := some 5, op := Op.call { callee := Callee.value (Operand.func 16), args := #[Operand.tmp 4], argTypes := #[28] }, type := 33, pos := "law.go:91", after := #[{ on := 1, ground := Ground.data }], guard := none },
  { dst := some 6, op := Op.fieldAddr 31 (Operand.tmp 1) 1, type := 0, pos := "law.go:91", after := #[], guard := none },
  { dst := some 7, op := Op.load 28 (Operand.tmp 6), type := 28, pos := "law.go:91", after := #[{ on := 3, ground := Ground.data }], guard := none },
  { dst := some 8, op := Op.call { callee := Callee.value (Operand.func 16), args := #[Operand.tmp 7], argTypes := #[28] }, type := 33, pos := "law.go:91", after := #[{ on := 4, ground := Ground.data }, { on := 2, ground := Ground.chain }], guard := none },
  { dst := some 9, op := Op.fieldAddr 31 (Operand.tmp 1) 2, type := 0, pos := "law.go:91", after := #[], guard := none },
  { dst := some 10, op := Op.load 28 (Operand.tmp 9), type := 28, pos := "law.go:91", after := #[{ on := 6, ground := Ground.data }], guard := none },
  { dst := some 11, op := Op.call { callee := Callee.value (Operand.func 16), args := #[Operand.tmp 10], argTypes := #[28] }, type := 33, pos := "law.go:91", after := #[{ on := 7, ground := Ground.data }, { on := 5, ground := Ground.chain }], guard := none },
  { dst := some 12, op := Op.fieldAddr 31 (Operand.tmp 1) 3, type := 0, pos := "law.go:91", after := #[], guard := none },
  { dst := some 13, op := Op.load 28 (Operand.tmp 12), type := 28, pos := "law.go:91", after := #[{ on := 9, ground := Ground.data }], guard := none },
  { dst := some 14, op := Op.call { callee := Callee.value (Operand.func 16), args := #[Operand.tmp 13], argTypes := #[28] }, type := 33, pos := "law.go:91", after := #[{ on := 10, ground := Ground.data }, { on := 8, ground := Ground.chain }], guard := none },
  { dst := some 15, op := Op.fieldAddr 31 (Operand.tmp 1) 4, type := 0, pos := "law.go:91", after := #[], guard := none },
  { dst := some 16, op := Op.load 29 (Operand.tmp 15), type := 29, pos := "law.go:91", after := #[{ on := 12, ground := Ground.data }], guard := none },
  { dst := some 17, op := Op.call { callee := Callee.value (Operand.func 17), args := #[Operand.tmp 16], argTypes := #[29] }, type := 34, pos := "law.go:91", after := #[{ on := 13, ground := Ground.data }, { on := 11, ground := Ground.chain }], guard := none },
  { dst := some 18, op := Op.fieldAddr 31 (Operand.tmp 1) 5, type := 0, pos := "law.go:91", after := #[], guard := none },
  { dst := some 19, op := Op.load 29 (Operand.tmp 18), type := 29, pos := "law.go:91", after := #[{ on := 15, ground := Ground.data }], guard := none },
  { dst := some 20, op := Op.call { callee := Callee.value (Operand.func 17), args := #[Operand.tmp 19], argTypes := #[29] }, type := 34, pos := "law.go:91", after := #[{ on := 16, ground := Ground.data }, { on := 14, ground := Ground.chain }], guard := none },
  { dst := some 21, op := Op.build 36 #[(0, Operand.tmp 5), (1, Operand.tmp 8), (2, Operand.tmp 11), (3, Operand.tmp 14), (4, Operand.tmp 17), (5, Operand.tmp 20)], type := 36, pos := "law.go:91", after := #[{ on := 2, ground := Ground.data }, { on := 5, ground := Ground.data }, { on := 8, ground := Ground.data }, { on := 11, ground := Ground.data }, { on := 14, ground := Ground.data }, { on := 17, ground := Ground.data }], guard := none },
  { dst := none, op := Op.store 36 (Operand.tmp 2) (Operand.tmp 21), type := 0, pos := "law.go:91", after := #[{ on := 18, ground := Ground.data }, { on := 17, ground := Ground.chain }, { on := 0, ground := Ground.phase }, { on := 1, ground := Ground.phase }, { on := 2, ground := Ground.phase }, { on := 3, ground := Ground.phase }, { on := 4, ground := Ground.phase }, { on := 5, ground := Ground.phase }, { on := 6, ground := Ground.phase }, { on := 7, ground := Ground.phase }, { on := 8, ground := Ground.phase }, { on := 9, ground := Ground.phase }, { on := 10, ground := Ground.phase }, { on := 11, ground := Ground.phase }, { on := 12, ground := Ground.phase }, { on := 13, ground := Ground.phase }, { on := 14, ground := Ground.phase }, { on := 15, ground := Ground.phase }, { on := 16, ground := Ground.phase }, { on := 17, ground := Ground.phase }, { on := 18, ground := Ground.phase }], guard := none }]
set_option maxRecDepth 100000 in
set_option maxHeartbeats 16000000 in
theorem tp1 (Q : Exit → Act → World → Prop) (T1 T2 n m : Nat) (a r s t A R S T : E4) (VL VR : Value) (g h : Nat → E4) (u0 u3 u4 u5 u6 u7 u8 u9 u10 u11 u12 u13 u14 u15 u16 u17 u18 u19 u20 u21 : Value) (W : World)
    (ht : W.there T2 0 18) (ca0 : W.cell? ⟨T1, 0, none⟩ = some (.int .u64 a.x0)) (ca1 : W.cell? ⟨T1, 1, none⟩ = some (.int .u64 a.x1)) (ca2 : W.cell? ⟨T1, 2, none⟩ = some (.int .u64 a.x2)) (ca3 : W.cell? ⟨T1, 3, none⟩ = some (.int .u64 a.x3)) (cr0 : W.cell? ⟨T1, 4, none⟩ = some (.int .u64 r.x0)) (cr1 : W.cell? ⟨T1, 5, none⟩ = some (.int .u64 r.x1)) (cr2 : W.cell? ⟨T1, 6, none⟩ = some (.int .u64 r.x2)) (cr3 : W.cell? ⟨T1, 7, none⟩ = some (.int .u64 r.x3)) (cs0 : W.cell? ⟨T1, 8, none⟩ = some (.int .u64 s.x0)) (cs1 : W.cell? ⟨T1, 9, none⟩ = some (.int .u64 s.x1)) (cs2 : W.cell? ⟨T1, 10, none⟩ = some (.int .u64 s.x2)) (cs3 : W.cell? ⟨T1, 11, none⟩ = some (.int .u64 s.x3)) (ct0 : W.cell? ⟨T1, 12, none⟩ = some (.int .u64 t.x0)) (ct1 : W.cell? ⟨T1, 13, none⟩ = some (.int .u64 t.x1)) (ct2 : W.cell? ⟨T1, 14, none⟩ = some (.int .u64 t.x2)) (ct3 : W.cell? ⟨T1, 15, none⟩ = some (.int .u64 t.x3)) (cL0 : W.cell? ⟨T1, 16, none⟩ = some VL) (cR0 : W.cell? ⟨T1, 17, none⟩ = some VR)
    (ne_ca : T1 ≠ T2) (ne_cr : T1 ≠ T2) (ne_cs : T1 ≠ T2) (ne_ct : T1 ≠ T2) (ne_cL : T1 ≠ T2) (ne_cR : T1 ≠ T2)
    (C2 : Hid (∀ x, Calls Tryd.prog 16 #[.agg #[.int .u64 a.x0, .int .u64 a.x1, .int .u64 a.x2, .int .u64 a.x3]] x fun e w' => e = .returned (.agg #[.int .u64 A.x0, .int .u64 A.x1, .int .u64 A.x2, .int .u64 A.x3]) ∧ Below x.heap.size x w')) (C5 : Hid (∀ x, Calls Tryd.prog 16 #[.agg #[.int .u64 r.x0, .int .u64 r.x1, .int .u64 r.x2, .int .u64 r.x3]] x fun e w' => e = .returned (.agg #[.int .u64 R.x0, .int .u64 R.x1, .int .u64 R.x2, .int .u64 R.x3]) ∧ Below x.heap.size x w')) (C8 : Hid (∀ x, Calls Tryd.prog 16 #[.agg #[.int .u64 s.x0, .int .u64 s.x1, .int .u64 s.x2, .int .u64 s.x3]] x fun e w' => e = .returned (.agg #[.int .u64 S.x0, .int .u64 S.x1, .int .u64 S.x2, .int .u64 S.x3]) ∧ Below x.heap.size x w')) (C11 : Hid (∀ x, Calls Tryd.prog 16 #[.agg #[.int .u64 t.x0, .int .u64 t.x1, .int .u64 t.x2, .int .u64 t.x3]] x fun e w' => e = .returned (.agg #[.int .u64 T.x0, .int .u64 T.x1, .int .u64 T.x2, .int .u64 T.x3]) ∧ Below x.heap.size x w'))
    (C14 : Hid (∀ x, Below W.heap.size W x → Calls Tryd.prog 17 #[VL] x fun e w' => ∃ (p : Option Addr) (k : Nat), e = .returned (.slice p n k) ∧ w'.ownsRow x.heap.size 33 4 (.slice p n k) n (svs n g) ∧ Below x.heap.size x w'))
    (C17 : Hid (∀ x, Below W.heap.size W x → Calls Tryd.prog 17 #[VR] x fun e w' => ∃ (p : Option Addr) (k : Nat), e = .returned (.slice p m k) ∧ w'.ownsRow x.heap.size 33 4 (.slice p m k) m (svs m h) ∧ Below x.heap.size x w'))
    (HQ : Hid (∀ p1 k1 p2 k2 q wy, Below W.heap.size W wy → wy.ownsRow W.heap.size 33 4 (.slice p1 n k1) n (svs n g) → wy.ownsRow q 33 4 (.slice p2 m k2) m (svs m h) → W.heap.size ≤ q → (∀ k, (Value.slice p1 n k1).ownBlock = some k → k < q) → Q .normal ⟨#[u0, .pointer (some ⟨T1, 0, none⟩), .pointer (some ⟨T2, 0, none⟩), .pointer (some ⟨T1, 0, none⟩), .agg #[.int .u64 a.x0, .int .u64 a.x1, .int .u64 a.x2, .int .u64 a.x3], .agg #[.int .u64 A.x0, .int .u64 A.x1, .int .u64 A.x2, .int .u64 A.x3], .pointer (some ⟨T1, 4, none⟩), .agg #[.int .u64 r.x0, .int .u64 r.x1, .int .u64 r.x2, .int .u64 r.x3], .agg #[.int .u64 R.x0, .int .u64 R.x1, .int .u64 R.x2, .int .u64 R.x3], .pointer (some ⟨T1, 8, none⟩), .agg #[.int .u64 s.x0, .int .u64 s.x1, .int .u64 s.x2, .int .u64 s.x3], .agg #[.int .u64 S.x0, .int .u64 S.x1, .int .u64 S.x2, .int .u64 S.x3], .pointer (some ⟨T1, 12, none⟩), .agg #[.int .u64 t.x0, .int .u64 t.x1, .int .u64 t.x2, .int .u64 t.x3], .agg #[.int .u64 T.x0, .int .u64 T.x1, .int .u64 T.x2, .int .u64 T.x3], .pointer (some ⟨T1, 16, none⟩), VL, .slice p1 n k1, .pointer (some ⟨T1, 17, none⟩), VR, .slice p2 m k2, .agg (tc A R S T (.slice p1 n k1) (.slice p2 m k2)).toArray], []⟩ (wy.setCells T2 0 (tc A R S T (.slice p1 n k1) (.slice p2 m k2))))) : (Code.region 1 tp1o true).wp Tryd.prog Q ⟨#[u0, .pointer (some ⟨T1, 0, none⟩), .pointer (some ⟨T2, 0, none⟩), u3, u4, u5, u6, u7, u8, u9, u10, u11, u12, u13, u14, u15, u16, u17, u18, u19, u20, u21], []⟩ W := by
  have B0 := hidden (bl_drew W)
  have TH := hidden (there_keepM ht (bl_drew W))
  clear ht
  unfold tp1o
  refine wp_region_noPanic ?_
  refine wp_region_held_drew (S := fun x => W.grownBy x (some T2)) (by kernel_rfl) (gbI (bl_drew W) _) (fun hH0 => ?_)
  refine wpAnyH_take (i := 0) (oi := { dst := some 3, op := Op.fieldAddr 31 (Operand.tmp 1) 0, type := 0, pos := "law.go:91", after := #[], guard := none }) (v := .pointer (some ⟨T1, 0, none⟩)) rfl (by kernel_rfl) (by kernel_rfl) (by kernel_rfl) (fun _ _ _ h => h) (Or.inl ⟨by rfl, fun w0 hSw => ?_⟩) hH0 ?_
  · (clear hSw; go_simp)
  simp only [Act.put, List.setIfInBounds_toArray, List.set_cons_zero, List.set_cons_succ]
  refine wpAnyH_take (i := 1) (oi := { dst := some 4, op := Op.load 28 (Operand.tmp 3), type := 28, pos := "law.go:91", after := #[{ on := 0, ground := Ground.data }], guard := none }) (v := .agg #[.int .u64 a.x0, .int .u64 a.x1, .int .u64 a.x2, .int .u64 a.x3]) rfl (by kernel_rfl) (by kernel_rfl) (by kernel_rfl) (fun _ _ _ h => h) (Or.inl ⟨by rfl, fun w0 hSw => ?_⟩) hH0 ?_
  · (have hS : W.grownBy w0 (some T2) := hSw; have a0 := hS.cell ca0 (fun e => ne_ca (Option.some.inj e)); have a1 := hS.cell ca1 (fun e => ne_ca (Option.some.inj e)); have a2 := hS.cell ca2 (fun e => ne_ca (Option.some.inj e)); have a3 := hS.cell ca3 (fun e => ne_ca (Option.some.inj e)); clear hS hSw; go_simp)
  simp only [Act.put, List.setIfInBounds_toArray, List.set_cons_zero, List.set_cons_succ]
  refine wpAnyH_take (i := 3) (oi := { dst := some 6, op := Op.fieldAddr 31 (Operand.tmp 1) 1, type := 0, pos := "law.go:91", after := #[], guard := none }) (v := .pointer (some ⟨T1, 4, none⟩)) rfl (by kernel_rfl) (by kernel_rfl) (by kernel_rfl) (fun _ _ _ h => h) (Or.inl ⟨by rfl, fun w0 hSw => ?_⟩) hH0 ?_
  · (clear hSw; go_simp)
  simp only [Act.put, List.setIfInBounds_toArray, List.set_cons_zero, List.set_cons_succ]
  refine wpAnyH_take (i := 4) (oi := { dst := some 7, op := Op.load 28 (Operand.tmp 6), type := 28, pos := "law.go:91", after := #[{ on := 3, ground := Ground.data }], guard := none }) (v := .agg #[.int .u64 r.x0, .int .u64 r.x1, .int .u64 r.x2, .int .u64 r.x3]) rfl (by kernel_rfl) (by kernel_rfl) (by kernel_rfl) (fun _ _ _ h => h) (Or.inl ⟨by rfl, fun w0 hSw => ?_⟩) hH0 ?_
  · (have hS : W.grownBy w0 (some T2) := hSw; have a0 := hS.cell cr0 (fun e => ne_cr (Option.some.inj e)); have a1 := hS.cell cr1 (fun e => ne_cr (Option.some.inj e)); have a2 := hS.cell cr2 (fun e => ne_cr (Option.some.inj e)); have a3 := hS.cell cr3 (fun e => ne_cr (Option.some.inj e)); clear hS hSw; go_simp)
  simp only [Act.put, List.setIfInBounds_toArray, List.set_cons_zero, List.set_cons_succ]
  refine wpAnyH_take (i := 6) (oi := { dst := some 9, op := Op.fieldAddr 31 (Operand.tmp 1) 2, type := 0, pos := "law.go:91", after := #[], guard := none }) (v := .pointer (some ⟨T1, 8, none⟩)) rfl (by kernel_rfl) (by kernel_rfl) (by kernel_rfl) (fun _ _ _ h => h) (Or.inl ⟨by rfl, fun w0 hSw => ?_⟩) hH0 ?_
  · (clear hSw; go_simp)
  simp only [Act.put, List.setIfInBounds_toArray, List.set_cons_zero, List.set_cons_succ]
  refine wpAnyH_take (i := 7) (oi := { dst := some 10, op := Op.load 28 (Operand.tmp 9), type := 28, pos := "law.go:91", after := #[{ on := 6, ground := Ground.data }], guard := none }) (v := .agg #[.int .u64 s.x0, .int .u64 s.x1, .int .u64 s.x2, .int .u64 s.x3]) rfl (by kernel_rfl) (by kernel_rfl) (by kernel_rfl) (fun _ _ _ h => h) (Or.inl ⟨by rfl, fun w0 hSw => ?_⟩) hH0 ?_
  · (have hS : W.grownBy w0 (some T2) := hSw; have a0 := hS.cell cs0 (fun e => ne_cs (Option.some.inj e)); have a1 := hS.cell cs1 (fun e => ne_cs (Option.some.inj e)); have a2 := hS.cell cs2 (fun e => ne_cs (Option.some.inj e)); have a3 := hS.cell cs3 (fun e => ne_cs (Option.some.inj e)); clear hS hSw; go_simp)
  simp only [Act.put, List.setIfInBounds_toArray, List.set_cons_zero, List.set_cons_succ]
  refine wpAnyH_take (i := 9) (oi := { dst := some 12, op := Op.fieldAddr 31 (Operand.tmp 1) 3, type := 0, pos := "law.go:91", after := #[], guard := none }) (v := .pointer (some ⟨T1, 12, none⟩)) rfl (by kernel_rfl) (by kernel_rfl) (by kernel_rfl) (fun _ _ _ h => h) (Or.inl ⟨by rfl, fun w0 hSw => ?_⟩) hH0 ?_
  · (clear hSw; go_simp)
  simp only [Act.put, List.setIfInBounds_toArray, List.set_cons_zero, List.set_cons_succ]
  refine wpAnyH_take (i := 10) (oi := { dst := some 13, op := Op.load 28 (Operand.tmp 12), type := 28, pos := "law.go:91", after := #[{ on := 9, ground := Ground.data }], guard := none }) (v := .agg #[.int .u64 t.x0, .int .u64 t.x1, .int .u64 t.x2, .int .u64 t.x3]) rfl (by kernel_rfl) (by kernel_rfl) (by kernel_rfl) (fun _ _ _ h => h) (Or.inl ⟨by rfl, fun w0 hSw => ?_⟩) hH0 ?_
  · (have hS : W.grownBy w0 (some T2) := hSw; have a0 := hS.cell ct0 (fun e => ne_ct (Option.some.inj e)); have a1 := hS.cell ct1 (fun e => ne_ct (Option.some.inj e)); have a2 := hS.cell ct2 (fun e => ne_ct (Option.some.inj e)); have a3 := hS.cell ct3 (fun e => ne_ct (Option.some.inj e)); clear hS hSw; go_simp)
  simp only [Act.put, List.setIfInBounds_toArray, List.set_cons_zero, List.set_cons_succ]
  refine wpAnyH_take (i := 12) (oi := { dst := some 15, op := Op.fieldAddr 31 (Operand.tmp 1) 4, type := 0, pos := "law.go:91", after := #[], guard := none }) (v := .pointer (some ⟨T1, 16, none⟩)) rfl (by kernel_rfl) (by kernel_rfl) (by kernel_rfl) (fun _ _ _ h => h) (Or.inl ⟨by rfl, fun w0 hSw => ?_⟩) hH0 ?_
  · (clear hSw; go_simp)
  simp only [Act.put, List.setIfInBounds_toArray, List.set_cons_zero, List.set_cons_succ]
  refine wpAnyH_take (i := 13) (oi := { dst := some 16, op := Op.load 29 (Operand.tmp 15), type := 29, pos := "law.go:91", after := #[{ on := 12, ground := Ground.data }], guard := none }) (v := VL) rfl (by kernel_rfl) (by kernel_rfl) (by kernel_rfl) (fun _ _ _ h => h) (Or.inl ⟨by rfl, fun w0 hSw => ?_⟩) hH0 ?_
  · (have hS : W.grownBy w0 (some T2) := hSw; have a0 := hS.cell cL0 (fun e => ne_cL (Option.some.inj e)); clear hS hSw; go_simp)
  simp only [Act.put, List.setIfInBounds_toArray, List.set_cons_zero, List.set_cons_succ]
  refine wpAnyH_take (i := 15) (oi := { dst := some 18, op := Op.fieldAddr 31 (Operand.tmp 1) 5, type := 0, pos := "law.go:91", after := #[], guard := none }) (v := .pointer (some ⟨T1, 17, none⟩)) rfl (by kernel_rfl) (by kernel_rfl) (by kernel_rfl) (fun _ _ _ h => h) (Or.inl ⟨by rfl, fun w0 hSw => ?_⟩) hH0 ?_
  · (clear hSw; go_simp)
  simp only [Act.put, List.setIfInBounds_toArray, List.set_cons_zero, List.set_cons_succ]
  refine wpAnyH_take (i := 16) (oi := { dst := some 19, op := Op.load 29 (Operand.tmp 18), type := 29, pos := "law.go:91", after := #[{ on := 15, ground := Ground.data }], guard := none }) (v := VR) rfl (by kernel_rfl) (by kernel_rfl) (by kernel_rfl) (fun _ _ _ h => h) (Or.inl ⟨by rfl, fun w0 hSw => ?_⟩) hH0 ?_
  · (have hS : W.grownBy w0 (some T2) := hSw; have a0 := hS.cell cR0 (fun e => ne_cR (Option.some.inj e)); clear hS hSw; go_simp)
  simp only [Act.put, List.setIfInBounds_toArray, List.set_cons_zero, List.set_cons_succ]
  refine wpAnyH_ready (rs := [2]) (by kernel_rfl) (by simp) ?_
  refine AllReadyH.cons (o := { dst := some 5, op := Op.call { callee := Callee.value (Operand.func 16), args := #[Operand.tmp 4], argTypes := #[28] }, type := 33, pos := "law.go:91", after := #[{ on := 1, ground := Ground.data }], guard := none }) rfl (fun K hK => ?_) AllReadyH.nil
  have HH := hidden hH0
  clear hH0
  go_simp
  refine (C2.out _).mono ?_
  rintro e wn1 ⟨rfl, hb⟩
  replace B0 := hidden (bl_trans B0.out hb)
  replace TH := hidden (there_keepM TH.out hb)
  have SN := hidden (HH.out.trans (gbI hb _))
  clear HH hb C2
  go_wp2_with fail
  refine hK.out _ _ SN.out (fun hH1 => ?_)
  clear hK K SN
  refine wpAnyH_ready (rs := [5]) (by kernel_rfl) (by simp) ?_
  refine AllReadyH.cons (o := { dst := some 8, op := Op.call { callee := Callee.value (Operand.func 16), args := #[Operand.tmp 7], argTypes := #[28] }, type := 33, pos := "law.go:91", after := #[{ on := 4, ground := Ground.data }, { on := 2, ground := Ground.chain }], guard := none }) rfl (fun K hK => ?_) AllReadyH.nil
  have HH := hidden hH1
  clear hH1
  go_simp
  refine (C5.out _).mono ?_
  rintro e wn2 ⟨rfl, hb⟩
  replace B0 := hidden (bl_trans B0.out hb)
  replace TH := hidden (there_keepM TH.out hb)
  have SN := hidden (HH.out.trans (gbI hb _))
  clear HH hb C5
  go_wp2_with fail
  refine hK.out _ _ SN.out (fun hH2 => ?_)
  clear hK K SN
  refine wpAnyH_ready (rs := [8]) (by kernel_rfl) (by simp) ?_
  refine AllReadyH.cons (o := { dst := some 11, op := Op.call { callee := Callee.value (Operand.func 16), args := #[Operand.tmp 10], argTypes := #[28] }, type := 33, pos := "law.go:91", after := #[{ on := 7, ground := Ground.data }, { on := 5, ground := Ground.chain }], guard := none }) rfl (fun K hK => ?_) AllReadyH.nil
  have HH := hidden hH2
  clear hH2
  go_simp
  refine (C8.out _).mono ?_
  rintro e wn3 ⟨rfl, hb⟩
  replace B0 := hidden (bl_trans B0.out hb)
  replace TH := hidden (there_keepM TH.out hb)
  have SN := hidden (HH.out.trans (gbI hb _))
  clear HH hb C8
  go_wp2_with fail
  refine hK.out _ _ SN.out (fun hH3 => ?_)
  clear hK K SN
  refine wpAnyH_ready (rs := [11]) (by kernel_rfl) (by simp) ?_
  refine AllReadyH.cons (o := { dst := some 14, op := Op.call { callee := Callee.value (Operand.func 16), args := #[Operand.tmp 13], argTypes := #[28] }, type := 33, pos := "law.go:91", after := #[{ on := 10, ground := Ground.data }, { on := 8, ground := Ground.chain }], guard := none }) rfl (fun K hK => ?_) AllReadyH.nil
  have HH := hidden hH3
  clear hH3
  go_simp
  refine (C11.out _).mono ?_
  rintro e wn4 ⟨rfl, hb⟩
  replace B0 := hidden (bl_trans B0.out hb)
  replace TH := hidden (there_keepM TH.out hb)
  have SN := hidden (HH.out.trans (gbI hb _))
  clear HH hb C11
  go_wp2_with fail
  refine hK.out _ _ SN.out (fun hH4 => ?_)
  clear hK K SN
  refine wpAnyH_ready (rs := [14]) (by kernel_rfl) (by simp) ?_
  refine AllReadyH.cons (o := { dst := some 17, op := Op.call { callee := Callee.value (Operand.func 17), args := #[Operand.tmp 16], argTypes := #[29] }, type := 34, pos := "law.go:91", after := #[{ on := 13, ground := Ground.data }, { on := 11, ground := Ground.chain }], guard := none }) rfl (fun K hK => ?_) AllReadyH.nil
  have HH := hidden hH4
  clear hH4
  go_simp
  refine (C14.out _ B0.out).mono ?_
  rintro e wn5 ⟨p1, k1, rfl, ho, hb⟩
  have O1 := hidden (own_mono (base' := W.heap.size) ho B0.out.size)
  replace B0 := hidden (bl_trans B0.out hb)
  replace TH := hidden (there_keepM TH.out hb)
  have SN := hidden (HH.out.trans (gbI hb _))
  clear HH hb C14 ho
  go_wp2_with fail
  refine hK.out _ _ SN.out (fun hH5 => ?_)
  clear hK K SN
  refine wpAnyH_ready (rs := [17]) (by kernel_rfl) (by simp) ?_
  refine AllReadyH.cons (o := { dst := some 20, op := Op.call { callee := Callee.value (Operand.func 17), args := #[Operand.tmp 19], argTypes := #[29] }, type := 34, pos := "law.go:91", after := #[{ on := 16, ground := Ground.data }, { on := 14, ground := Ground.chain }], guard := none }) rfl (fun K hK => ?_) AllReadyH.nil
  have HH := hidden hH5
  clear hH5
  go_simp
  refine (C17.out _ B0.out).mono ?_
  rintro e wn6 ⟨p2, k2, rfl, ho, hb⟩
  have O2 := hidden (ho)
  have QL := hidden (B0.out.size)
  have LT := hidden (fun k hk => (O1.out.lt k hk).2)
  replace B0 := hidden (bl_trans B0.out hb)
  replace TH := hidden (there_keepM TH.out hb)
  replace O1 := hidden (own_keepX O1.out hb)
  have SN := hidden (HH.out.trans (gbI hb _))
  clear HH hb C17 ho
  go_wp2_with fail
  refine hK.out _ _ SN.out (fun hH6 => ?_)
  clear hK K SN
  refine wpAnyH_take (i := 18) (oi := { dst := some 21, op := Op.build 36 #[(0, Operand.tmp 5), (1, Operand.tmp 8), (2, Operand.tmp 11), (3, Operand.tmp 14), (4, Operand.tmp 17), (5, Operand.tmp 20)], type := 36, pos := "law.go:91", after := #[{ on := 2, ground := Ground.data }, { on := 5, ground := Ground.data }, { on := 8, ground := Ground.data }, { on := 11, ground := Ground.data }, { on := 14, ground := Ground.data }, { on := 17, ground := Ground.data }], guard := none }) (v := .agg (tc A R S T (.slice p1 n k1) (.slice p2 m k2)).toArray) rfl (by kernel_rfl) (by kernel_rfl) (by kernel_rfl) (fun _ _ _ h => h) (Or.inl ⟨by rfl, fun w0 hSw => ?_⟩) hH6 ?_
  · (clear hSw; kernel_rfl)
  simp only [Act.put, List.setIfInBounds_toArray, List.set_cons_zero, List.set_cons_succ]
  have HH := hidden hH6
  clear hH6
  refine wpAnyH_ready (rs := [19]) (by kernel_rfl) (by simp) ?_
  refine AllReadyH.cons (o := { dst := none, op := Op.store 36 (Operand.tmp 2) (Operand.tmp 21), type := 0, pos := "law.go:91", after := #[{ on := 18, ground := Ground.data }, { on := 17, ground := Ground.chain }, { on := 0, ground := Ground.phase }, { on := 1, ground := Ground.phase }, { on := 2, ground := Ground.phase }, { on := 3, ground := Ground.phase }, { on := 4, ground := Ground.phase }, { on := 5, ground := Ground.phase }, { on := 6, ground := Ground.phase }, { on := 7, ground := Ground.phase }, { on := 8, ground := Ground.phase }, { on := 9, ground := Ground.phase }, { on := 10, ground := Ground.phase }, { on := 11, ground := Ground.phase }, { on := 12, ground := Ground.phase }, { on := 13, ground := Ground.phase }, { on := 14, ground := Ground.phase }, { on := 15, ground := Ground.phase }, { on := 16, ground := Ground.phase }, { on := 17, ground := Ground.phase }, { on := 18, ground := Ground.phase }], guard := none }) rfl (fun K hK => ?_) AllReadyH.nil
  refine wp_store_mid 36 _ _ rfl T2 0 (tc A R S T (.slice p1 n k1) (.slice p2 m k2)).toArray (by rfl) (by rfl) TH.out rtinfo (tc_one _ _ _ _ _ _ _ _ _ _) ?_
  have FQ := hidden (HQ.out p1 k1 p2 k2 _ _ B0.out O1.out O2.out QL.out LT.out)
  refine hK.out _ _ (HH.out.trans (gb_setCells T2 _ 0 _)) (fun hF => ?_)
  clear hK K HH
  refine wpAnyH_done (by kernel_rfl) ?_ _
  refine NoPanic.normal ?_
  exact FQ.out
theorem nums_sl (V : Value) (n : Nat) (g : Nat → E4) (w : World) (hn : n ≤ 4398046510976) (hV : In w V n g) (hg : ∀ k, k < n → (g k).ok) :
    Calls Tryd.prog 17 #[V] w fun e w' => ∃ (p : Option Addr) (k : Nat), e = .returned (.slice p n k) ∧ w'.ownsRow w.heap.size 33 4 (.slice p n k) n (svs n (fun k => lst (g k).n)) ∧ Below w.heap.size w w' :=
  (nums_any V n g w hn hV hg).mono (by
    rintro e w' ⟨v, rfl, ho, hb⟩
    obtain ⟨p, k, rfl, -⟩ := own_shape4 ho
    exact ⟨p, k, rfl, ho, hb⟩)
/-- a tape's scalars are limbs -/
def Tq.ok (q : Tq) : Prop := q.a.ok ∧ q.r.ok ∧ q.s.ok ∧ q.t.ok ∧ (∀ k, k < q.n → (q.g k).ok) ∧ (∀ k, k < q.m → (q.h k).ok) ∧ q.n ≤ 4398046510976 ∧ q.m ≤ 4398046510976
/-- the document's tape -/
def Tq.doc (q : Tq) : Tq := ⟨lst q.a.n, lst q.r.n, lst q.s.n, lst q.t.n, q.n, q.m, fun k => lst (q.g k).n, fun k => lst (q.h k).n⟩
set_option maxRecDepth 100000 in
set_option maxHeartbeats 8000000 in
theorem tape_any (q : Tq) (V1 V2 : Value) (w : World) (hq : q.ok) (h1 : In w V1 q.n q.g) (h2 : In w V2 q.m q.h) :
    Calls Tryd.prog 5 #[.agg (tc q.a q.r q.s q.t V1 V2).toArray] w fun e w' => ∃ (p1 : Option Addr) (k1 : Nat) (p2 : Option Addr) (k2 : Nat) (x : Nat), e = .returned (.agg (tc q.doc.a q.doc.r q.doc.s q.doc.t (.slice p1 q.n k1) (.slice p2 q.m k2)).toArray) ∧
      w'.ownsRow w.heap.size 33 4 (.slice p1 q.n k1) q.n (svs q.n q.doc.g) ∧ w'.ownsRow x 33 4 (.slice p2 q.m k2) q.m (svs q.m q.doc.h) ∧ w.heap.size ≤ x ∧ (∀ k, (Value.slice p1 q.n k1).ownBlock = some k → k < x) ∧ Below w.heap.size w w' := by
  obtain ⟨a, r, s, t, n, m, g, h⟩ := q
  obtain ⟨ha, hr, hs, ht, hg, hh, hn, hm⟩ := hq
  simp only [Tq.doc] at *
  have C1 := hidden (fun x => num_any a ha x); have C2 := hidden (fun x => num_any r hr x); have C3 := hidden (fun x => num_any s hs x); have C4 := hidden (fun x => num_any t ht x)
  have NL := hidden (fun x (hb : Below w.heap.size w x) => nums_sl V1 n g x hn (h1.keep hb) hg)
  have NR := hidden (fun x (hb : Below w.heap.size w x) => nums_sl V2 m h x hm (h2.keep hb) hh)
  obtain ⟨D, hD⟩ : ∃ D, tc a r s t V1 V2 = D := ⟨_, rfl⟩
  have M0 := (Mw.start w).new D 31
  have M1 := M0.new tz 36
  rw [World.size_alloc] at M1
  have MM := hidden M1
  have HD := hidden hD
  rw [hD]
  clear ha hr hs ht hg hh hn hm h1 h2 hD M0 M1
  generalize lst a.n = A at *
  generalize lst r.n = R at *
  generalize lst s.n = S at *
  generalize lst t.n = T at *
  simp only [E4.v] at C1 C2 C3 C4
  go_enter Tryd.func5, Tryd.ntmps5
  go_upto_region 1 with (refine wpList_rtalloc rfl rfl ?_)
  simp only [Act.put, List.setIfInBounds_toArray, List.set_cons_zero, List.set_cons_succ, World.size_alloc]
  have W1 : Hid (w.heap.size + 1 < ((w.alloc (.cells D.toArray 31)).alloc (.cells tz.toArray 36)).heap.size) := hidden (by simp)
  generalize (w.alloc (.cells D.toArray 31)).alloc (.cells tz.toArray 36) = w1 at *
  have r0 := (MM.out.r (w.heap.size, D) (by simp)).1
  have T0 := (MM.out.r (w.heap.size + 1, tz) (by simp)).2.1
  rw [← HD.out] at r0
  refine tp1 _ w.heap.size (w.heap.size + 1) n m a r s t A R S T V1 V2 (fun k => lst (g k).n) (fun k => lst (h k).n) _ _ _ _ _ _ _ _ _ _ _ _ _ _ _ _ _ _ _ _ w1 T0
    (by simpa using r0 0 _ rfl) (by simpa using r0 1 _ rfl) (by simpa using r0 2 _ rfl) (by simpa using r0 3 _ rfl) (by simpa using r0 4 _ rfl) (by simpa using r0 5 _ rfl) (by simpa using r0 6 _ rfl) (by simpa using r0 7 _ rfl) (by simpa using r0 8 _ rfl) (by simpa using r0 9 _ rfl) (by simpa using r0 10 _ rfl) (by simpa using r0 11 _ rfl) (by simpa using r0 12 _ rfl) (by simpa using r0 13 _ rfl) (by simpa using r0 14 _ rfl) (by simpa using r0 15 _ rfl) (by simpa using r0 16 _ rfl) (by simpa using r0 17 _ rfl)
    (by omega) (by omega) (by omega) (by omega) (by omega) (by omega) C1 C2 C3 C4 (hidden (fun x hx => NL.out x (bl_trans MM.out.bel hx))) (hidden (fun x hx => NR.out x (bl_trans MM.out.bel hx))) (hidden ?_)
  intro p1 k1 p2 k2 x wy hb o1 o2 hx hlt
  obtain ⟨DD, hDD⟩ : ∃ DD, tc A R S T (.slice p1 n k1) (.slice p2 m k2) = DD := ⟨_, rfl⟩
  have DE := hidden hDD
  have TL : Hid (DD.length = 18) := hidden (by rw [← hDD]; rfl)
  rw [hDD]
  have MF := hidden ((MM.out.keep hb).set (M := []) DD (c := w.heap.size + 1) (o := tz) (by simp) (by rw [TL.out]; rfl) (by simp))
  have GA : Hid (w.heap.size + 1 < w1.heap.size) := W1
  have Q1 := hidden (own_mono (base' := w.heap.size) (own_setCells o1 (w.heap.size + 1) 0 DD (fun e => by have := (o1.lt _ e).1; have := GA.out; omega)) (by have := GA.out; omega))
  have Q2 := hidden (own_setCells o2 (w.heap.size + 1) 0 DD (fun e => by have := (o2.lt _ e).1; have := GA.out; omega))
  have HX : Hid (w.heap.size ≤ x ∧ ∀ k, (Value.slice p1 n k1).ownBlock = some k → k < x) := hidden ⟨by have := GA.out; omega, hlt⟩
  clear hDD hb o1 o2 hx hlt r0 T0 NL NR C1 C2 C3 C4
  generalize wy.setCells (w.heap.size + 1) 0 DD = wf at *
  go_wp2_with fail
  have DI : Hid ((Tryd.prog.info? 36).map (·.size) = some DD.length) := hidden (by rw [TL.out]; exact rtinfo)
  have LD := hidden (MF.out.var (c := w.heap.size + 1) (ds := DD) (by simp) Tryd.underlying36 rfl DI.out)
  refine bodyPost_ret (v := .agg DD.toArray) (results_cellM Tryd.results5 _ _ _ _ _ (by rfl) LD.out) rfl ⟨p1, k1, p2, k2, x, by rw [DE.out], Q1.out, Q2.out, HX.out.1, HX.out.2, MF.out.bel⟩
end Go.Proofs.YtbkiobfjabadeaaDoor
