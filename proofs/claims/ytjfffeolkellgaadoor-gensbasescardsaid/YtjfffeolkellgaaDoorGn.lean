import Derived.Test.YtjfffeolkellgaaDoorGm
namespace Go.Proofs.YtjfffeolkellgaaDoor
open Go.RowKit
theorem wpList_loadG {P : Program} {ops : Array Oper} {rest : List Oper} {op : Oper} {a : Act} {w : World} {Q : Exit → Act → World → Prop} (hw : Region.wanted op (yielded ops a.tmps) = true) (ty : TypeId) (x : Operand) (ho : op.op = .load ty x)
    (b o : Nat) (hx : a.eval x = .pointer (some ⟨b, o, none⟩)) (cs : List Value) (d : TypeDesc) (hc : w.rangeAt b o cs)
    (hu : P.underlying ty = some d) (hd : d.isRow = true) (hi : (P.info? ty).map (·.size) = some cs.length)
    (h : wpList P ops Q rest (a.put op.dst (.agg cs.toArray)) w) : wpList P ops Q (op :: rest) a w := by
  unfold wpList
  rw [if_pos hw]
  exact Or.inl (wp_load_mid ty x ho b o hx cs d hc hu hd hi h)
theorem range_keepO {w w' : World} {b o m : Nat} {cs : List Value} (h : w.rangeAt b o cs) (hb : Below m w w') (hm : b < m) : w'.rangeAt b o cs := fun j v hv => (hb.cell (p := ⟨b, o + j, none⟩) hm).trans (h j v hv)
theorem isFree_unit (p B C : Nat) (v L : Value) (w : World) (hT : Tb w) (hp : p ≤ 200) (hu : Uv B w v p) (hL : w.ownsRow C 39 4 L (p + 1) (svs (p + 1) (uf p))) :
    Calls Tryd.prog 7 #[v, .agg (fe L).toArray] w fun e w' => e = .returned (.bool true) ∧ Below w.heap.size w w' := by
  obtain ⟨b, rfl, _, hr⟩ := hu
  obtain ⟨g, c, rfl, _, _, _⟩ := own_shapeG hL (by omega)
  exact isFree_any _ _ (p + 1) _ _ _ (uf p) w hT (by omega) ⟨b, 0, fun _ => rfl, fun _ => hr⟩ ⟨g, 0, fun _ => rfl, fun _ => own_rl hL⟩ (fun k _ => ⟨uf_ok p k, uf_least p k⟩) (fe_25 _)
/-- what a round looks at -/
def S8 (W : World) (A D g1 g2 gG cG gH cH n k : Nat) (e1 e2 L1 L2 : Value) (w : World) : Prop :=
  Below W.heap.size W w ∧ w.cell? ⟨A, 3, none⟩ = some (.slice (some ⟨g1, 0, none⟩) n n) ∧ w.cell? ⟨A, 4, none⟩ = some (.slice (some ⟨g2, 0, none⟩) n n) ∧ w.cell? ⟨D, 79, none⟩ = some (.slice (some ⟨gG, 0, none⟩) n cG) ∧ w.cell? ⟨D, 80, none⟩ = some (.slice (some ⟨gH, 0, none⟩) n cH) ∧ w.cell? ⟨g1, k, none⟩ = some e1 ∧ w.cell? ⟨g2, k, none⟩ = some e2 ∧ w.rangeAt gG (k * 26) (fe L1) ∧ w.rangeAt gH (k * 26) (fe L2)
theorem S8.keep {W : World} {A D g1 g2 gG cG gH cH n k : Nat} {e1 e2 L1 L2 : Value} {w w' : World} (h : S8 W A D g1 g2 gG cG gH cH n k e1 e2 L1 L2 w) (hb : Below w.heap.size w w') : S8 W A D g1 g2 gG cG gH cH n k e1 e2 L1 L2 w' := by
  obtain ⟨h0, h1, h2, h3, h4, h5, h6, h7, h8⟩ := h
  have q7 := World.block_lt_of_cell? w _ (h7 0 _ rfl)
  have q8 := World.block_lt_of_cell? w _ (h8 0 _ rfl)
  exact ⟨bl_trans h0 hb, cell_keep h1 hb, cell_keep h2 hb, cell_keep h3 hb, cell_keep h4 hb, cell_keep h5 hb, cell_keep h6 hb, range_keepO h7 hb q7, range_keepO h8 hb q8⟩
/-- the operations of a round -/
def gb8o : Array Oper := #[{ dst := some 70, op := Op.fieldAddr 27 (Operand.tmp 3) 3, type := 0, pos := "law.go:178", after := #[], guard := none },
  { dst := some 71, op := Op.load 25 (Operand.tmp 70), type := 25, pos := "law.go:178", after := #[{ on := 0, ground := Ground.data }], guard := none },
  { dst := some 72, op := Op.move (Operand.tmp 7), type := 3, pos := "law.go:178", after := #[], guard := none },
  { dst := some 73, op := Op.indexAddr 25 (Operand.tmp 71) (Operand.tmp 72), type := 0, pos := "law.go:178", after := #[{ on := 1, ground := Ground.data }, { on := 2, ground := Ground.data }], guard := none },
  { dst := some 74, op := Op.load 24 (Operand.tmp 73), type := 24, pos := "law.go:178", after := #[{ on := 3, ground := Ground.data }], guard := none },
  { dst := some 75, op := Op.fieldAddr 45 (Operand.tmp 5) 4, type := 0, pos := "law.go:178", after := #[], guard := none },
  { dst := some 76, op := Op.load 43 (Operand.tmp 75), type := 43, pos := "law.go:178", after := #[{ on := 5, ground := Ground.data }], guard := none },
  { dst := some 77, op := Op.move (Operand.tmp 7), type := 3, pos := "law.go:178", after := #[], guard := none },
  { dst := some 78, op := Op.indexAddr 43 (Operand.tmp 76) (Operand.tmp 77), type := 0, pos := "law.go:178", after := #[{ on := 6, ground := Ground.data }, { on := 7, ground := Ground.data }], guard := none },
  { dst := some 79, op := Op.load 42 (Operand.tmp 78), type := 42, pos := "law.go:178", after := #[{ on := 8, ground := Ground.data }], guard := none },
  { dst := some 80, op := Op.call { callee := Callee.value (Operand.func 7), args := #[Operand.tmp 74, Operand.tmp 79], argTypes := #[24, 42] }, type := 4, pos := "law.go:178", after := #[{ on := 4, ground := Ground.data }, { on := 9, ground := Ground.data }], guard := none },
  { dst := some 81, op := Op.unOp UnOp.not 4 (Operand.tmp 80), type := 4, pos := "law.go:178", after := #[{ on := 10, ground := Ground.data }], guard := none },
  { dst := some 82, op := Op.move (Operand.tmp 81), type := 4, pos := "law.go:178", after := #[{ on := 11, ground := Ground.data }, { on := 10, ground := Ground.chain }], guard := none },
  { dst := some 83, op := Op.fieldAddr 27 (Operand.tmp 3) 4, type := 0, pos := "law.go:178", after := #[{ on := 12, ground := Ground.guard }], guard := some (12, false) },
  { dst := some 84, op := Op.load 25 (Operand.tmp 83), type := 25, pos := "law.go:178", after := #[{ on := 13, ground := Ground.data }, { on := 12, ground := Ground.guard }], guard := some (12, false) },
  { dst := some 85, op := Op.move (Operand.tmp 7), type := 3, pos := "law.go:178", after := #[{ on := 12, ground := Ground.guard }], guard := some (12, false) },
  { dst := some 86, op := Op.indexAddr 25 (Operand.tmp 84) (Operand.tmp 85), type := 0, pos := "law.go:178", after := #[{ on := 14, ground := Ground.data }, { on := 15, ground := Ground.data }, { on := 12, ground := Ground.guard }], guard := some (12, false) },
  { dst := some 87, op := Op.load 24 (Operand.tmp 86), type := 24, pos := "law.go:178", after := #[{ on := 16, ground := Ground.data }, { on := 12, ground := Ground.guard }], guard := some (12, false) },
  { dst := some 88, op := Op.fieldAddr 45 (Operand.tmp 5) 5, type := 0, pos := "law.go:178", after := #[{ on := 12, ground := Ground.guard }], guard := some (12, false) },
  { dst := some 89, op := Op.load 43 (Operand.tmp 88), type := 43, pos := "law.go:178", after := #[{ on := 18, ground := Ground.data }, { on := 12, ground := Ground.guard }], guard := some (12, false) },
  { dst := some 90, op := Op.move (Operand.tmp 7), type := 3, pos := "law.go:178", after := #[{ on := 12, ground := Ground.guard }], guard := some (12, false) },
  { dst := some 91, op := Op.indexAddr 43 (Operand.tmp 89) (Operand.tmp 90), type := 0, pos := "law.go:178", after := #[{ on := 19, ground := Ground.data }, { on := 20, ground := Ground.data }, { on := 12, ground := Ground.guard }], guard := some (12, false) },
  { dst := some 92, op := Op.load 42 (Operand.tmp 91), type := 42, pos := "law.go:178", after := #[{ on := 21, ground := Ground.data }, { on := 12, ground := Ground.guard }], guard := some (12, false) },
  { dst := some 93, op := Op.call { callee := Callee.value (Operand.func 7), args := #[Operand.tmp 87, Operand.tmp 92], argTypes := #[24, 42] }, type := 4, pos := "law.go:178", after := #[{ on := 17, ground := Ground.data }, { on := 22, ground := Ground.data }, { on := 12, ground := Ground.chain }, { on := 12, ground := Ground.guard }], guard := some (12, false) },
  { dst := some 94, op := Op.unOp UnOp.not 4 (Operand.tmp 93), type := 4, pos := "law.go:178", after := #[{ on := 23, ground := Ground.data }, { on := 12, ground := Ground.guard }], guard := some (12, false) },
  { dst := some 95, op := Op.pick (Operand.tmp 82) (Operand.const (Value.bool true)) (Operand.tmp 94), type := 4, pos := "law.go:178", after := #[{ on := 12, ground := Ground.data }, { on := 24, ground := Ground.data }], guard := none }]
set_option maxRecDepth 100000 in
set_option maxHeartbeats 16000000 in
theorem gb8 (Q : Exit → Act → World → Prop) (A D g1 g2 gG cG gH cH n k z1 z2 m1 m2 : Nat) (x0 x1 x2 x4 x6 x8 x9 x10 x11 x12 x13 x14 x15 x16 x17 x18 x19 x20 x21 x22 x23 x24 x25 x26 x27 x28 x29 x30 x31 x32 x33 x34 x35 x36 x37 x38 x39 x40 x41 x42 x43 x44 x45 x46 x47 x48 x49 x50 x51 x52 x53 x54 x55 x56 x57 x58 x59 x60 x61 x62 x63 x64 x65 x66 x67 x68 x69 x70 x71 x72 x73 x74 x75 x76 x77 x78 x79 x80 x81 x82 x83 x84 x85 x86 x87 x88 x89 x90 x91 x92 x93 x94 x95 L1 L2 : Value) (W : World) (hk : k < n) (HS : S8 W A D g1 g2 gG cG gH cH n k (.slice (some ⟨z1, 0, none⟩) m1 m1) (.slice (some ⟨z2, 0, none⟩) m2 m2) L1 L2 W) (C1 : Hid (∀ w, Below W.heap.size W w → Calls Tryd.prog 7 #[.agg #[.slice (some ⟨z1, 0, none⟩) m1 m1], .agg (fe L1).toArray] w fun e w' => e = .returned (.bool true) ∧ Below w.heap.size w w')) (C2 : Hid (∀ w, Below W.heap.size W w → Calls Tryd.prog 7 #[.agg #[.slice (some ⟨z2, 0, none⟩) m2 m2], .agg (fe L2).toArray] w fun e w' => e = .returned (.bool true) ∧ Below w.heap.size w w'))
    (HQ : Hid (∀ wz, Below W.heap.size W wz → Q .normal ⟨#[x0, x1, x2, .pointer (some ⟨A, 0, none⟩), x4, .pointer (some ⟨D, 0, none⟩), x6, .int .i64 (k : Int), x8, x9, x10, x11, x12, x13, x14, x15, x16, x17, x18, x19, x20, x21, x22, x23, x24, x25, x26, x27, x28, x29, x30, x31, x32, x33, x34, x35, x36, x37, x38, x39, x40, x41, x42, x43, x44, x45, x46, x47, x48, x49, x50, x51, x52, x53, x54, x55, x56, x57, x58, x59, x60, x61, x62, x63, x64, x65, x66, x67, x68, x69, .pointer (some ⟨A, 3, none⟩), .slice (some ⟨g1, 0, none⟩) n n, .int .i64 (k : Int), .pointer (some ⟨g1, k, none⟩), .agg #[.slice (some ⟨z1, 0, none⟩) m1 m1], .pointer (some ⟨D, 79, none⟩), .slice (some ⟨gG, 0, none⟩) n cG, .int .i64 (k : Int), .pointer (some ⟨gG, k * 26, none⟩), .agg (fe L1).toArray, .bool true, .bool false, .bool false, .pointer (some ⟨A, 4, none⟩), .slice (some ⟨g2, 0, none⟩) n n, .int .i64 (k : Int), .pointer (some ⟨g2, k, none⟩), .agg #[.slice (some ⟨z2, 0, none⟩) m2 m2], .pointer (some ⟨D, 80, none⟩), .slice (some ⟨gH, 0, none⟩) n cH, .int .i64 (k : Int), .pointer (some ⟨gH, k * 26, none⟩), .agg (fe L2).toArray, .bool true, .bool false, .bool false], []⟩ wz)) : (Code.region 8 gb8o true).wp Tryd.prog Q ⟨#[x0, x1, x2, .pointer (some ⟨A, 0, none⟩), x4, .pointer (some ⟨D, 0, none⟩), x6, .int .i64 (k : Int), x8, x9, x10, x11, x12, x13, x14, x15, x16, x17, x18, x19, x20, x21, x22, x23, x24, x25, x26, x27, x28, x29, x30, x31, x32, x33, x34, x35, x36, x37, x38, x39, x40, x41, x42, x43, x44, x45, x46, x47, x48, x49, x50, x51, x52, x53, x54, x55, x56, x57, x58, x59, x60, x61, x62, x63, x64, x65, x66, x67, x68, x69, x70, x71, x72, x73, x74, x75, x76, x77, x78, x79, x80, x81, x82, x83, x84, x85, x86, x87, x88, x89, x90, x91, x92, x93, x94, x95], []⟩ W := by
  have k0 : (0 : Int) ≤ (k : Int) := by omega
  have k1 : (k : Int) < (n : Int) := by omega
  have UE : Hid (Tryd.prog.underlying 42 = _) := hidden Tryd.underlying42
  have IE : Hid ((Tryd.prog.info? 42).map (·.size) = some (fe L1).length) := hidden einfoG
  have IF : Hid ((Tryd.prog.info? 42).map (·.size) = some (fe L2).length) := hidden einfoG
  refine wp_region_noPanic ?_
  refine wp_region_held_drew (S := (S8 W A D g1 g2 gG cG gH cH n k (.slice (some ⟨z1, 0, none⟩) m1 m1) (.slice (some ⟨z2, 0, none⟩) m2 m2) L1 L2)) (by kernel_rfl) (HS.keep (drew_blW W)) (fun hHeld => ?_)
  change wpAnyH Tryd.prog .any gb8o _ _ 26 #[false, false, false, false, false, false, false, false, false, false, false, false, false, false, false, false, false, false, false, false, false, false, false, false, false, false] _ _
  clear HS
  refine wpAnyH_take (i := 0) (oi := { dst := some 70, op := Op.fieldAddr 27 (Operand.tmp 3) 3, type := 0, pos := "law.go:178", after := #[], guard := none }) (v := .pointer (some ⟨A, 3, none⟩)) rfl (by kernel_rfl) (by kernel_rfl) (by kernel_rfl) (fun _ _ _ h => h) (Or.inl ⟨by rfl, fun w0 hSw => ?_⟩) hHeld ?_
  · (obtain ⟨s0, s1, s2, s3, s4, s5, s6, s7, s8⟩ := hSw; clear s0 s7 s8; go_simp)
  simp only [Act.put, List.setIfInBounds_toArray, List.set_cons_zero, List.set_cons_succ]
  refine wpAnyH_take (i := 1) (oi := { dst := some 71, op := Op.load 25 (Operand.tmp 70), type := 25, pos := "law.go:178", after := #[{ on := 0, ground := Ground.data }], guard := none }) (v := .slice (some ⟨g1, 0, none⟩) n n) rfl (by kernel_rfl) (by kernel_rfl) (by kernel_rfl) (fun _ _ _ h => h) (Or.inl ⟨by rfl, fun w0 hSw => ?_⟩) hHeld ?_
  · (obtain ⟨s0, s1, s2, s3, s4, s5, s6, s7, s8⟩ := hSw; clear s0 s7 s8; go_simp)
  simp only [Act.put, List.setIfInBounds_toArray, List.set_cons_zero, List.set_cons_succ]
  refine wpAnyH_take (i := 2) (oi := { dst := some 72, op := Op.move (Operand.tmp 7), type := 3, pos := "law.go:178", after := #[], guard := none }) (v := .int .i64 (k : Int)) rfl (by kernel_rfl) (by kernel_rfl) (by kernel_rfl) (fun _ _ _ h => h) (Or.inl ⟨by rfl, fun w0 hSw => ?_⟩) hHeld ?_
  · (obtain ⟨s0, s1, s2, s3, s4, s5, s6, s7, s8⟩ := hSw; clear s0 s7 s8; go_simp)
  simp only [Act.put, List.setIfInBounds_toArray, List.set_cons_zero, List.set_cons_succ]
  refine wpAnyH_take (i := 3) (oi := { dst := some 73, op := Op.indexAddr 25 (Operand.tmp 71) (Operand.tmp 72), type := 0, pos := "law.go:178", after := #[{ on := 1, ground := Ground.data }, { on := 2, ground := Ground.data }], guard := none }) (v := .pointer (some ⟨g1, k, none⟩)) rfl (by kernel_rfl) (by kernel_rfl) (by kernel_rfl) (fun _ _ _ h => h) (Or.inl ⟨by rfl, fun w0 hSw => ?_⟩) hHeld ?_
  · (obtain ⟨s0, s1, s2, s3, s4, s5, s6, s7, s8⟩ := hSw; clear s0 s7 s8; go_simp)
  simp only [Act.put, List.setIfInBounds_toArray, List.set_cons_zero, List.set_cons_succ]
  refine wpAnyH_take (i := 4) (oi := { dst := some 74, op := Op.load 24 (Operand.tmp 73), type := 24, pos := "law.go:178", after := #[{ on := 3, ground := Ground.data }], guard := none }) (v := .agg #[.slice (some ⟨z1, 0, none⟩) m1 m1]) rfl (by kernel_rfl) (by kernel_rfl) (by kernel_rfl) (fun _ _ _ h => h) (Or.inl ⟨by rfl, fun w0 hSw => ?_⟩) hHeld ?_
  · (obtain ⟨s0, s1, s2, s3, s4, s5, s6, s7, s8⟩ := hSw; clear s0 s7 s8; go_simp)
  simp only [Act.put, List.setIfInBounds_toArray, List.set_cons_zero, List.set_cons_succ]
  refine wpAnyH_take (i := 5) (oi := { dst := some 75, op := Op.fieldAddr 45 (Operand.tmp 5) 4, type := 0, pos := "law.go:178", after := #[], guard := none }) (v := .pointer (some ⟨D, 79, none⟩)) rfl (by kernel_rfl) (by kernel_rfl) (by kernel_rfl) (fun _ _ _ h => h) (Or.inl ⟨by rfl, fun w0 hSw => ?_⟩) hHeld ?_
  · (obtain ⟨s0, s1, s2, s3, s4, s5, s6, s7, s8⟩ := hSw; clear s0 s7 s8; go_simp)
  simp only [Act.put, List.setIfInBounds_toArray, List.set_cons_zero, List.set_cons_succ]
  refine wpAnyH_take (i := 6) (oi := { dst := some 76, op := Op.load 43 (Operand.tmp 75), type := 43, pos := "law.go:178", after := #[{ on := 5, ground := Ground.data }], guard := none }) (v := .slice (some ⟨gG, 0, none⟩) n cG) rfl (by kernel_rfl) (by kernel_rfl) (by kernel_rfl) (fun _ _ _ h => h) (Or.inl ⟨by rfl, fun w0 hSw => ?_⟩) hHeld ?_
  · (obtain ⟨s0, s1, s2, s3, s4, s5, s6, s7, s8⟩ := hSw; clear s0 s7 s8; go_simp)
  simp only [Act.put, List.setIfInBounds_toArray, List.set_cons_zero, List.set_cons_succ]
  refine wpAnyH_take (i := 7) (oi := { dst := some 77, op := Op.move (Operand.tmp 7), type := 3, pos := "law.go:178", after := #[], guard := none }) (v := .int .i64 (k : Int)) rfl (by kernel_rfl) (by kernel_rfl) (by kernel_rfl) (fun _ _ _ h => h) (Or.inl ⟨by rfl, fun w0 hSw => ?_⟩) hHeld ?_
  · (obtain ⟨s0, s1, s2, s3, s4, s5, s6, s7, s8⟩ := hSw; clear s0 s7 s8; go_simp)
  simp only [Act.put, List.setIfInBounds_toArray, List.set_cons_zero, List.set_cons_succ]
  refine wpAnyH_take (i := 8) (oi := { dst := some 78, op := Op.indexAddr 43 (Operand.tmp 76) (Operand.tmp 77), type := 0, pos := "law.go:178", after := #[{ on := 6, ground := Ground.data }, { on := 7, ground := Ground.data }], guard := none }) (v := .pointer (some ⟨gG, k * 26, none⟩)) rfl (by kernel_rfl) (by kernel_rfl) (by kernel_rfl) (fun _ _ _ h => h) (Or.inl ⟨by rfl, fun w0 hSw => ?_⟩) hHeld ?_
  · (obtain ⟨s0, s1, s2, s3, s4, s5, s6, s7, s8⟩ := hSw; clear s0 s7 s8; go_simp)
  simp only [Act.put, List.setIfInBounds_toArray, List.set_cons_zero, List.set_cons_succ]
  refine wpAnyH_take (i := 9) (oi := { dst := some 79, op := Op.load 42 (Operand.tmp 78), type := 42, pos := "law.go:178", after := #[{ on := 8, ground := Ground.data }], guard := none }) (v := .agg (fe L1).toArray) rfl (by kernel_rfl) (by kernel_rfl) (by kernel_rfl) (fun _ _ _ h => h) (yieldsIf_load_mid (by rfl) 42 _ rfl gG (k * 26) rfl (fe L1) _ (fun w0 hSw => hSw.2.2.2.2.2.2.2.1) UE.out rfl IE.out) hHeld ?_
  simp only [Act.put, List.setIfInBounds_toArray, List.set_cons_zero, List.set_cons_succ]
  refine wpAnyH_ready (rs := [10]) (by kernel_rfl) (by simp) ?_
  refine AllReadyH.cons (o := { dst := some 80, op := Op.call { callee := Callee.value (Operand.func 7), args := #[Operand.tmp 74, Operand.tmp 79], argTypes := #[24, 42] }, type := 4, pos := "law.go:178", after := #[{ on := 4, ground := Ground.data }, { on := 9, ground := Ground.data }], guard := none }) rfl (fun K hK => ?_) AllReadyH.nil
  have CC := hidden (C1.out _ hHeld.1)
  have HH := hidden hHeld
  clear hHeld
  go_simp
  refine (CC.out).mono ?_
  rintro e wa ⟨rfl, hb⟩
  have SN := hidden (HH.out.keep hb)
  clear hb CC HH
  go_wp2_with fail
  refine hK.out _ _ SN.out (fun hwa => ?_)
  clear hK K SN
  refine wpAnyH_take (i := 11) (oi := { dst := some 81, op := Op.unOp UnOp.not 4 (Operand.tmp 80), type := 4, pos := "law.go:178", after := #[{ on := 10, ground := Ground.data }], guard := none }) (v := .bool false) rfl (by kernel_rfl) (by kernel_rfl) (by kernel_rfl) (fun _ _ _ h => h) (Or.inl ⟨by rfl, fun w0 hSw => ?_⟩) hwa ?_
  · (obtain ⟨s0, s1, s2, s3, s4, s5, s6, s7, s8⟩ := hSw; clear s0 s7 s8; go_simp)
  simp only [Act.put, List.setIfInBounds_toArray, List.set_cons_zero, List.set_cons_succ]
  refine wpAnyH_take (i := 12) (oi := { dst := some 82, op := Op.move (Operand.tmp 81), type := 4, pos := "law.go:178", after := #[{ on := 11, ground := Ground.data }, { on := 10, ground := Ground.chain }], guard := none }) (v := .bool false) rfl (by kernel_rfl) (by kernel_rfl) (by kernel_rfl) (fun _ _ _ h => h) (Or.inl ⟨by rfl, fun w0 hSw => ?_⟩) hwa ?_
  · (obtain ⟨s0, s1, s2, s3, s4, s5, s6, s7, s8⟩ := hSw; clear s0 s7 s8; go_simp)
  simp only [Act.put, List.setIfInBounds_toArray, List.set_cons_zero, List.set_cons_succ]
  refine wpAnyH_take (i := 13) (oi := { dst := some 83, op := Op.fieldAddr 27 (Operand.tmp 3) 4, type := 0, pos := "law.go:178", after := #[{ on := 12, ground := Ground.guard }], guard := some (12, false) }) (v := .pointer (some ⟨A, 4, none⟩)) rfl (by kernel_rfl) (by kernel_rfl) (by kernel_rfl) (fun _ _ _ h => h) (Or.inl ⟨by rfl, fun w0 hSw => ?_⟩) hwa ?_
  · (obtain ⟨s0, s1, s2, s3, s4, s5, s6, s7, s8⟩ := hSw; clear s0 s7 s8; go_simp)
  simp only [Act.put, List.setIfInBounds_toArray, List.set_cons_zero, List.set_cons_succ]
  refine wpAnyH_take (i := 14) (oi := { dst := some 84, op := Op.load 25 (Operand.tmp 83), type := 25, pos := "law.go:178", after := #[{ on := 13, ground := Ground.data }, { on := 12, ground := Ground.guard }], guard := some (12, false) }) (v := .slice (some ⟨g2, 0, none⟩) n n) rfl (by kernel_rfl) (by kernel_rfl) (by kernel_rfl) (fun _ _ _ h => h) (Or.inl ⟨by rfl, fun w0 hSw => ?_⟩) hwa ?_
  · (obtain ⟨s0, s1, s2, s3, s4, s5, s6, s7, s8⟩ := hSw; clear s0 s7 s8; go_simp)
  simp only [Act.put, List.setIfInBounds_toArray, List.set_cons_zero, List.set_cons_succ]
  refine wpAnyH_take (i := 15) (oi := { dst := some 85, op := Op.move (Operand.tmp 7), type := 3, pos := "law.go:178", after := #[{ on := 12, ground := Ground.guard }], guard := some (12, false) }) (v := .int .i64 (k : Int)) rfl (by kernel_rfl) (by kernel_rfl) (by kernel_rfl) (fun _ _ _ h => h) (Or.inl ⟨by rfl, fun w0 hSw => ?_⟩) hwa ?_
  · (obtain ⟨s0, s1, s2, s3, s4, s5, s6, s7, s8⟩ := hSw; clear s0 s7 s8; go_simp)
  simp only [Act.put, List.setIfInBounds_toArray, List.set_cons_zero, List.set_cons_succ]
  refine wpAnyH_take (i := 16) (oi := { dst := some 86, op := Op.indexAddr 25 (Operand.tmp 84) (Operand.tmp 85), type := 0, pos := "law.go:178", after := #[{ on := 14, ground := Ground.data }, { on := 15, ground := Ground.data }, { on := 12, ground := Ground.guard }], guard := some (12, false) }) (v := .pointer (some ⟨g2, k, none⟩)) rfl (by kernel_rfl) (by kernel_rfl) (by kernel_rfl) (fun _ _ _ h => h) (Or.inl ⟨by rfl, fun w0 hSw => ?_⟩) hwa ?_
  · (obtain ⟨s0, s1, s2, s3, s4, s5, s6, s7, s8⟩ := hSw; clear s0 s7 s8; go_simp)
  simp only [Act.put, List.setIfInBounds_toArray, List.set_cons_zero, List.set_cons_succ]
  refine wpAnyH_take (i := 17) (oi := { dst := some 87, op := Op.load 24 (Operand.tmp 86), type := 24, pos := "law.go:178", after := #[{ on := 16, ground := Ground.data }, { on := 12, ground := Ground.guard }], guard := some (12, false) }) (v := .agg #[.slice (some ⟨z2, 0, none⟩) m2 m2]) rfl (by kernel_rfl) (by kernel_rfl) (by kernel_rfl) (fun _ _ _ h => h) (Or.inl ⟨by rfl, fun w0 hSw => ?_⟩) hwa ?_
  · (obtain ⟨s0, s1, s2, s3, s4, s5, s6, s7, s8⟩ := hSw; clear s0 s7 s8; go_simp)
  simp only [Act.put, List.setIfInBounds_toArray, List.set_cons_zero, List.set_cons_succ]
  refine wpAnyH_take (i := 18) (oi := { dst := some 88, op := Op.fieldAddr 45 (Operand.tmp 5) 5, type := 0, pos := "law.go:178", after := #[{ on := 12, ground := Ground.guard }], guard := some (12, false) }) (v := .pointer (some ⟨D, 80, none⟩)) rfl (by kernel_rfl) (by kernel_rfl) (by kernel_rfl) (fun _ _ _ h => h) (Or.inl ⟨by rfl, fun w0 hSw => ?_⟩) hwa ?_
  · (obtain ⟨s0, s1, s2, s3, s4, s5, s6, s7, s8⟩ := hSw; clear s0 s7 s8; go_simp)
  simp only [Act.put, List.setIfInBounds_toArray, List.set_cons_zero, List.set_cons_succ]
  refine wpAnyH_take (i := 19) (oi := { dst := some 89, op := Op.load 43 (Operand.tmp 88), type := 43, pos := "law.go:178", after := #[{ on := 18, ground := Ground.data }, { on := 12, ground := Ground.guard }], guard := some (12, false) }) (v := .slice (some ⟨gH, 0, none⟩) n cH) rfl (by kernel_rfl) (by kernel_rfl) (by kernel_rfl) (fun _ _ _ h => h) (Or.inl ⟨by rfl, fun w0 hSw => ?_⟩) hwa ?_
  · (obtain ⟨s0, s1, s2, s3, s4, s5, s6, s7, s8⟩ := hSw; clear s0 s7 s8; go_simp)
  simp only [Act.put, List.setIfInBounds_toArray, List.set_cons_zero, List.set_cons_succ]
  refine wpAnyH_take (i := 20) (oi := { dst := some 90, op := Op.move (Operand.tmp 7), type := 3, pos := "law.go:178", after := #[{ on := 12, ground := Ground.guard }], guard := some (12, false) }) (v := .int .i64 (k : Int)) rfl (by kernel_rfl) (by kernel_rfl) (by kernel_rfl) (fun _ _ _ h => h) (Or.inl ⟨by rfl, fun w0 hSw => ?_⟩) hwa ?_
  · (obtain ⟨s0, s1, s2, s3, s4, s5, s6, s7, s8⟩ := hSw; clear s0 s7 s8; go_simp)
  simp only [Act.put, List.setIfInBounds_toArray, List.set_cons_zero, List.set_cons_succ]
  refine wpAnyH_take (i := 21) (oi := { dst := some 91, op := Op.indexAddr 43 (Operand.tmp 89) (Operand.tmp 90), type := 0, pos := "law.go:178", after := #[{ on := 19, ground := Ground.data }, { on := 20, ground := Ground.data }, { on := 12, ground := Ground.guard }], guard := some (12, false) }) (v := .pointer (some ⟨gH, k * 26, none⟩)) rfl (by kernel_rfl) (by kernel_rfl) (by kernel_rfl) (fun _ _ _ h => h) (Or.inl ⟨by rfl, fun w0 hSw => ?_⟩) hwa ?_
  · (obtain ⟨s0, s1, s2, s3, s4, s5, s6, s7, s8⟩ := hSw; clear s0 s7 s8; go_simp)
  simp only [Act.put, List.setIfInBounds_toArray, List.set_cons_zero, List.set_cons_succ]
  refine wpAnyH_take (i := 22) (oi := { dst := some 92, op := Op.load 42 (Operand.tmp 91), type := 42, pos := "law.go:178", after := #[{ on := 21, ground := Ground.data }, { on := 12, ground := Ground.guard }], guard := some (12, false) }) (v := .agg (fe L2).toArray) rfl (by kernel_rfl) (by kernel_rfl) (by kernel_rfl) (fun _ _ _ h => h) (yieldsIf_load_mid (by rfl) 42 _ rfl gH (k * 26) rfl (fe L2) _ (fun w0 hSw => hSw.2.2.2.2.2.2.2.2) UE.out rfl IF.out) hwa ?_
  simp only [Act.put, List.setIfInBounds_toArray, List.set_cons_zero, List.set_cons_succ]
  refine wpAnyH_ready (rs := [23]) (by kernel_rfl) (by simp) ?_
  refine AllReadyH.cons (o := { dst := some 93, op := Op.call { callee := Callee.value (Operand.func 7), args := #[Operand.tmp 87, Operand.tmp 92], argTypes := #[24, 42] }, type := 4, pos := "law.go:178", after := #[{ on := 17, ground := Ground.data }, { on := 22, ground := Ground.data }, { on := 12, ground := Ground.chain }, { on := 12, ground := Ground.guard }], guard := some (12, false) }) rfl (fun K hK => ?_) AllReadyH.nil
  have CC := hidden (C2.out _ hwa.1)
  have HH := hidden hwa
  clear hwa
  go_simp
  refine (CC.out).mono ?_
  rintro e wb ⟨rfl, hb⟩
  have SN := hidden (HH.out.keep hb)
  clear hb CC HH
  go_wp2_with fail
  refine hK.out _ _ SN.out (fun hwb => ?_)
  clear hK K SN
  refine wpAnyH_take (i := 24) (oi := { dst := some 94, op := Op.unOp UnOp.not 4 (Operand.tmp 93), type := 4, pos := "law.go:178", after := #[{ on := 23, ground := Ground.data }, { on := 12, ground := Ground.guard }], guard := some (12, false) }) (v := .bool false) rfl (by kernel_rfl) (by kernel_rfl) (by kernel_rfl) (fun _ _ _ h => h) (Or.inl ⟨by rfl, fun w0 hSw => ?_⟩) hwb ?_
  · (obtain ⟨s0, s1, s2, s3, s4, s5, s6, s7, s8⟩ := hSw; clear s0 s7 s8; go_simp)
  simp only [Act.put, List.setIfInBounds_toArray, List.set_cons_zero, List.set_cons_succ]
  refine wpAnyH_take (i := 25) (oi := { dst := some 95, op := Op.pick (Operand.tmp 82) (Operand.const (Value.bool true)) (Operand.tmp 94), type := 4, pos := "law.go:178", after := #[{ on := 12, ground := Ground.data }, { on := 24, ground := Ground.data }], guard := none }) (v := .bool false) rfl (by kernel_rfl) (by kernel_rfl) (by kernel_rfl) (fun _ _ _ h => h) (Or.inl ⟨by rfl, fun w0 hSw => ?_⟩) hwb ?_
  · (obtain ⟨s0, s1, s2, s3, s4, s5, s6, s7, s8⟩ := hSw; clear s0 s7 s8; go_simp)
  simp only [Act.put, List.setIfInBounds_toArray, List.set_cons_zero, List.set_cons_succ]
  refine wpAnyH_done (by kernel_rfl) ?_ _
  exact HQ.out _ hwb.1
end Go.Proofs.YtjfffeolkellgaaDoor
