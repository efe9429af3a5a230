import Derived.Test.YtpblcnefihhhoaaDoorVxB
namespace Go.Proofs.YtpblcnefihhhoaaDoor
open Go.RowKit
set_option linter.unusedVariables false
theorem wp_allocX {T : TypeId} (zs : List Value) (hz : ∀ w, (zeroValue T).run Tryd.prog w = .ok (.agg zs.toArray) w) {o : Oper} {a : Act} {w : World} {K : Act → World → Prop} {Q : Exit → Act → World → Prop} (ho : o.op = .alloc T) (h : ∀ (A : Nat) (wq : World), A = w.heap.size → Below w.heap.size w wq → wq.there A 0 zs.length → wq.rangeAt A 0 zs → K (a.put o.dst (.pointer (some ⟨A, 0, none⟩))) wq) : o.wp Tryd.prog a w K Q := by
  have hk := h w.heap.size (w.alloc (.cells zs.toArray T)) rfl (bl_alloc _ _) (there_newM w zs T) (range_newM w zs T)
  have hz' := hz w
  clear h hz
  generalize zs = z at hz' hk
  unfold Oper.wp execOp
  simp [ho, Instr.alloc, hz']
  exact hk
def z4 : List Value := [.int .u64 0, .int .u64 0, .int .u64 0, .int .u64 0]
theorem zv_s (w : World) : (zeroValue 27).run Tryd.prog w = .ok (.agg z4.toArray) w := by kernel_rfl
theorem zv_r (w : World) : (zeroValue 34).run Tryd.prog w = .ok (.agg z4.toArray) w := by kernel_rfl
theorem i4_s : (Tryd.prog.info? 27).map (·.size) = some 4 := by kernel_rfl
theorem i4_r : (Tryd.prog.info? 34).map (·.size) = some 4 := by kernel_rfl
theorem one4 (p : E4) : ([.int .u64 p.x0, .int .u64 p.x1, .int .u64 p.x2, .int .u64 p.x3] : List Value).toArray.all (·.oneCell') = true := by simp [Value.oneCell']
def de2o : Array Oper := #[{ dst := some 14, op := Op.load 27 (Operand.tmp 5), type := 27, pos := "powers.go:36", after := #[], guard := none },
  { dst := some 15, op := Op.load 27 (Operand.tmp 5), type := 27, pos := "powers.go:36", after := #[], guard := none },
  { dst := some 16, op := Op.load 27 (Operand.tmp 5), type := 27, pos := "powers.go:36", after := #[], guard := none },
  { dst := some 17, op := Op.call { callee := Callee.value (Operand.func 37), args := #[Operand.tmp 15, Operand.tmp 16], argTypes := #[27, 27] }, type := 27, pos := "powers.go:36", after := #[{ on := 1, ground := Ground.data }, { on := 2, ground := Ground.data }], guard := none },
  { dst := some 18, op := Op.call { callee := Callee.value (Operand.func 36), args := #[Operand.tmp 14, Operand.tmp 17], argTypes := #[27, 27] }, type := 27, pos := "powers.go:36", after := #[{ on := 0, ground := Ground.data }, { on := 3, ground := Ground.data }, { on := 3, ground := Ground.chain }], guard := none },
  { dst := some 19, op := Op.load 23 (Operand.tmp 3), type := 23, pos := "powers.go:36", after := #[], guard := none },
  { dst := some 20, op := Op.load 27 (Operand.tmp 4), type := 27, pos := "powers.go:36", after := #[], guard := none },
  { dst := some 21, op := Op.call { callee := Callee.value (Operand.func 39), args := #[Operand.tmp 19, Operand.tmp 20], argTypes := #[23, 27] }, type := 28, pos := "powers.go:36", after := #[{ on := 5, ground := Ground.data }, { on := 6, ground := Ground.data }, { on := 4, ground := Ground.chain }], guard := none },
  { dst := some 22, op := Op.call { callee := Callee.value (Operand.func 38), args := #[Operand.tmp 21], argTypes := #[28] }, type := 27, pos := "powers.go:36", after := #[{ on := 7, ground := Ground.data }, { on := 7, ground := Ground.chain }], guard := none },
  { dst := some 23, op := Op.call { callee := Callee.value (Operand.func 37), args := #[Operand.tmp 18, Operand.tmp 22], argTypes := #[27, 27] }, type := 27, pos := "powers.go:36", after := #[{ on := 4, ground := Ground.data }, { on := 8, ground := Ground.data }, { on := 8, ground := Ground.chain }], guard := none },
  { dst := some 8, op := Op.alloc 27, type := 0, pos := "powers.go:36", after := #[], guard := none },
  { dst := none, op := Op.store 27 (Operand.tmp 8) (Operand.tmp 23), type := 0, pos := "powers.go:36", after := #[{ on := 10, ground := Ground.data }, { on := 9, ground := Ground.data }, { on := 9, ground := Ground.chain }, { on := 0, ground := Ground.phase }, { on := 1, ground := Ground.phase }, { on := 2, ground := Ground.phase }, { on := 3, ground := Ground.phase }, { on := 4, ground := Ground.phase }, { on := 5, ground := Ground.phase }, { on := 6, ground := Ground.phase }, { on := 7, ground := Ground.phase }, { on := 8, ground := Ground.phase }, { on := 9, ground := Ground.phase }, { on := 10, ground := Ground.phase }], guard := none }]
set_option maxRecDepth 100000 in
set_option maxHeartbeats 16000000 in
theorem de2 (Q : Exit → Act → World → Prop) (T3 T4 T5 n B C : Nat) (g : Nat → E4) (z y zz s1 ys p : E4) (u0 u1 u2 u6 u7 u8 u9 u10 u11 u12 u13 u14 u15 u16 u17 u18 u19 u20 u21 u22 u23 u24 u25 u26 u27 u28 u29 u30 u31 u32 u33 : Value) (W : World)
    (cz0 : W.cell? ⟨T5, 0, none⟩ = some (.int .u64 z.x0)) (cz1 : W.cell? ⟨T5, 1, none⟩ = some (.int .u64 z.x1)) (cz2 : W.cell? ⟨T5, 2, none⟩ = some (.int .u64 z.x2)) (cz3 : W.cell? ⟨T5, 3, none⟩ = some (.int .u64 z.x3)) (cy0 : W.cell? ⟨T4, 0, none⟩ = some (.int .u64 y.x0)) (cy1 : W.cell? ⟨T4, 1, none⟩ = some (.int .u64 y.x1)) (cy2 : W.cell? ⟨T4, 2, none⟩ = some (.int .u64 y.x2)) (cy3 : W.cell? ⟨T4, 3, none⟩ = some (.int .u64 y.x3)) (cp0 : W.cell? ⟨T3, 0, none⟩ = some (.int .i64 (B : Int))) (cp1 : W.cell? ⟨T3, 1, none⟩ = some (.int .i64 (C : Int)))
    (C3 : Hid (∀ x, Below W.heap.size W x → Calls Tryd.prog 37 #[.agg #[.int .u64 z.x0, .int .u64 z.x1, .int .u64 z.x2, .int .u64 z.x3], .agg #[.int .u64 z.x0, .int .u64 z.x1, .int .u64 z.x2, .int .u64 z.x3]] x fun e w' => e = .returned (.agg #[.int .u64 zz.x0, .int .u64 zz.x1, .int .u64 zz.x2, .int .u64 zz.x3]) ∧ Below x.heap.size x w')) (C4 : Hid (∀ x, Below W.heap.size W x → Calls Tryd.prog 36 #[.agg #[.int .u64 z.x0, .int .u64 z.x1, .int .u64 z.x2, .int .u64 z.x3], .agg #[.int .u64 zz.x0, .int .u64 zz.x1, .int .u64 zz.x2, .int .u64 zz.x3]] x fun e w' => e = .returned (.agg #[.int .u64 s1.x0, .int .u64 s1.x1, .int .u64 s1.x2, .int .u64 s1.x3]) ∧ Below x.heap.size x w'))
    (C7 : Hid (∀ x, Below W.heap.size W x → Calls Tryd.prog 39 #[.agg #[.int .i64 (B : Int), .int .i64 (C : Int)], .agg #[.int .u64 y.x0, .int .u64 y.x1, .int .u64 y.x2, .int .u64 y.x3]] x fun e w' => ∃ b : Nat, e = .returned (.slice (some ⟨b, 0, none⟩) n n) ∧ Rws w' b n g ∧ Below x.heap.size x w'))
    (C8 : Hid (∀ x b, Below W.heap.size W x → Rws x b n g → Calls Tryd.prog 38 #[.slice (some ⟨b, 0, none⟩) n n] x fun e w' => e = .returned (.agg #[.int .u64 ys.x0, .int .u64 ys.x1, .int .u64 ys.x2, .int .u64 ys.x3]) ∧ Below x.heap.size x w'))
    (C9 : Hid (∀ x, Below W.heap.size W x → Calls Tryd.prog 37 #[.agg #[.int .u64 s1.x0, .int .u64 s1.x1, .int .u64 s1.x2, .int .u64 s1.x3], .agg #[.int .u64 ys.x0, .int .u64 ys.x1, .int .u64 ys.x2, .int .u64 ys.x3]] x fun e w' => e = .returned (.agg #[.int .u64 p.x0, .int .u64 p.x1, .int .u64 p.x2, .int .u64 p.x3]) ∧ Below x.heap.size x w'))
    (HQ : Hid (∀ A b wz, W.heap.size ≤ A → Below W.heap.size W wz → wz.rangeAt A 0 [.int .u64 p.x0, .int .u64 p.x1, .int .u64 p.x2, .int .u64 p.x3] → wz.there A 0 4 → Q .normal ⟨#[u0, u1, u2, .pointer (some ⟨T3, 0, none⟩), .pointer (some ⟨T4, 0, none⟩), .pointer (some ⟨T5, 0, none⟩), u6, u7, .pointer (some ⟨A, 0, none⟩), u9, u10, u11, u12, u13, .agg #[.int .u64 z.x0, .int .u64 z.x1, .int .u64 z.x2, .int .u64 z.x3], .agg #[.int .u64 z.x0, .int .u64 z.x1, .int .u64 z.x2, .int .u64 z.x3], .agg #[.int .u64 z.x0, .int .u64 z.x1, .int .u64 z.x2, .int .u64 z.x3], .agg #[.int .u64 zz.x0, .int .u64 zz.x1, .int .u64 zz.x2, .int .u64 zz.x3], .agg #[.int .u64 s1.x0, .int .u64 s1.x1, .int .u64 s1.x2, .int .u64 s1.x3], .agg #[.int .i64 (B : Int), .int .i64 (C : Int)], .agg #[.int .u64 y.x0, .int .u64 y.x1, .int .u64 y.x2, .int .u64 y.x3], .slice (some ⟨b, 0, none⟩) n n, .agg #[.int .u64 ys.x0, .int .u64 ys.x1, .int .u64 ys.x2, .int .u64 ys.x3], .agg #[.int .u64 p.x0, .int .u64 p.x1, .int .u64 p.x2, .int .u64 p.x3], u24, u25, u26, u27, u28, u29, u30, u31, u32, u33], []⟩ wz)) : (Code.region 2 de2o true).wp Tryd.prog Q ⟨#[u0, u1, u2, .pointer (some ⟨T3, 0, none⟩), .pointer (some ⟨T4, 0, none⟩), .pointer (some ⟨T5, 0, none⟩), u6, u7, u8, u9, u10, u11, u12, u13, u14, u15, u16, u17, u18, u19, u20, u21, u22, u23, u24, u25, u26, u27, u28, u29, u30, u31, u32, u33], []⟩ W := by
  unfold de2o
  refine wp_region_noPanic ?_
  refine wp_region_held_drew (S := fun x => Below W.heap.size W x) (by kernel_rfl) (bl_drew W) (fun hH0 => ?_)
  refine wpAnyH_take (i := 0) (oi := { dst := some 14, op := Op.load 27 (Operand.tmp 5), type := 27, pos := "powers.go:36", after := #[], guard := none }) (v := .agg #[.int .u64 z.x0, .int .u64 z.x1, .int .u64 z.x2, .int .u64 z.x3]) rfl (by kernel_rfl) (by kernel_rfl) (by kernel_rfl) (fun _ _ _ h => h) (Or.inl ⟨by rfl, fun w0 hSw => ?_⟩) hH0 ?_
  · (have hS : Below W.heap.size W w0 := hSw; have a0 := cell_keep cz0 hS; have a1 := cell_keep cz1 hS; have a2 := cell_keep cz2 hS; have a3 := cell_keep cz3 hS; clear hS hSw; go_simp)
  simp only [Act.put, List.setIfInBounds_toArray, List.set_cons_zero, List.set_cons_succ]
  refine wpAnyH_take (i := 1) (oi := { dst := some 15, op := Op.load 27 (Operand.tmp 5), type := 27, pos := "powers.go:36", after := #[], guard := none }) (v := .agg #[.int .u64 z.x0, .int .u64 z.x1, .int .u64 z.x2, .int .u64 z.x3]) rfl (by kernel_rfl) (by kernel_rfl) (by kernel_rfl) (fun _ _ _ h => h) (Or.inl ⟨by rfl, fun w0 hSw => ?_⟩) hH0 ?_
  · (have hS : Below W.heap.size W w0 := hSw; have a0 := cell_keep cz0 hS; have a1 := cell_keep cz1 hS; have a2 := cell_keep cz2 hS; have a3 := cell_keep cz3 hS; clear hS hSw; go_simp)
  simp only [Act.put, List.setIfInBounds_toArray, List.set_cons_zero, List.set_cons_succ]
  refine wpAnyH_take (i := 2) (oi := { dst := some 16, op := Op.load 27 (Operand.tmp 5), type := 27, pos := "powers.go:36", after := #[], guard := none }) (v := .agg #[.int .u64 z.x0, .int .u64 z.x1, .int .u64 z.x2, .int .u64 z.x3]) rfl (by kernel_rfl) (by kernel_rfl) (by kernel_rfl) (fun _ _ _ h => h) (Or.inl ⟨by rfl, fun w0 hSw => ?_⟩) hH0 ?_
  · (have hS : Below W.heap.size W w0 := hSw; have a0 := cell_keep cz0 hS; have a1 := cell_keep cz1 hS; have a2 := cell_keep cz2 hS; have a3 := cell_keep cz3 hS; clear hS hSw; go_simp)
  simp only [Act.put, List.setIfInBounds_toArray, List.set_cons_zero, List.set_cons_succ]
  refine wpAnyH_take (i := 5) (oi := { dst := some 19, op := Op.load 23 (Operand.tmp 3), type := 23, pos := "powers.go:36", after := #[], guard := none }) (v := .agg #[.int .i64 (B : Int), .int .i64 (C : Int)]) rfl (by kernel_rfl) (by kernel_rfl) (by kernel_rfl) (fun _ _ _ h => h) (Or.inl ⟨by rfl, fun w0 hSw => ?_⟩) hH0 ?_
  · (have hS : Below W.heap.size W w0 := hSw; have a0 := cell_keep cp0 hS; have a1 := cell_keep cp1 hS; clear hS hSw; go_simp)
  simp only [Act.put, List.setIfInBounds_toArray, List.set_cons_zero, List.set_cons_succ]
  refine wpAnyH_take (i := 6) (oi := { dst := some 20, op := Op.load 27 (Operand.tmp 4), type := 27, pos := "powers.go:36", after := #[], guard := none }) (v := .agg #[.int .u64 y.x0, .int .u64 y.x1, .int .u64 y.x2, .int .u64 y.x3]) rfl (by kernel_rfl) (by kernel_rfl) (by kernel_rfl) (fun _ _ _ h => h) (Or.inl ⟨by rfl, fun w0 hSw => ?_⟩) hH0 ?_
  · (have hS : Below W.heap.size W w0 := hSw; have a0 := cell_keep cy0 hS; have a1 := cell_keep cy1 hS; have a2 := cell_keep cy2 hS; have a3 := cell_keep cy3 hS; clear hS hSw; go_simp)
  simp only [Act.put, List.setIfInBounds_toArray, List.set_cons_zero, List.set_cons_succ]
  refine wpAnyH_ready (rs := [3, 10]) (by kernel_rfl) (by simp) ?_
  refine AllReadyH.cons (o := { dst := some 17, op := Op.call { callee := Callee.value (Operand.func 37), args := #[Operand.tmp 15, Operand.tmp 16], argTypes := #[27, 27] }, type := 27, pos := "powers.go:36", after := #[{ on := 1, ground := Ground.data }, { on := 2, ground := Ground.data }], guard := none }) rfl (fun K hK => ?_) (AllReadyH.cons (o := { dst := some 8, op := Op.alloc 27, type := 0, pos := "powers.go:36", after := #[], guard := none }) rfl (fun K hK => ?_) AllReadyH.nil)
  · have HH := hidden hH0
    clear hH0
    go_simp
    refine (C3.out _ HH.out).mono ?_
    rintro e wn1 ⟨rfl, hb⟩
    have SN := hidden (bl_trans HH.out hb)
    clear HH hb C3
    go_wp2_with fail
    refine hK.out _ _ SN.out (fun hH1 => ?_)
    clear hK K SN
    refine wpAnyH_ready (rs := [4, 10]) (by kernel_rfl) (by simp) ?_
    refine AllReadyH.cons (o := { dst := some 18, op := Op.call { callee := Callee.value (Operand.func 36), args := #[Operand.tmp 14, Operand.tmp 17], argTypes := #[27, 27] }, type := 27, pos := "powers.go:36", after := #[{ on := 0, ground := Ground.data }, { on := 3, ground := Ground.data }, { on := 3, ground := Ground.chain }], guard := none }) rfl (fun K hK => ?_) (AllReadyH.cons (o := { dst := some 8, op := Op.alloc 27, type := 0, pos := "powers.go:36", after := #[], guard := none }) rfl (fun K hK => ?_) AllReadyH.nil)
    · have HH := hidden hH1
      clear hH1
      go_simp
      refine (C4.out _ HH.out).mono ?_
      rintro e wn2 ⟨rfl, hb⟩
      have SN := hidden (bl_trans HH.out hb)
      clear HH hb C4
      go_wp2_with fail
      refine hK.out _ _ SN.out (fun hH2 => ?_)
      clear hK K SN
      refine wpAnyH_ready (rs := [7, 10]) (by kernel_rfl) (by simp) ?_
      refine AllReadyH.cons (o := { dst := some 21, op := Op.call { callee := Callee.value (Operand.func 39), args := #[Operand.tmp 19, Operand.tmp 20], argTypes := #[23, 27] }, type := 28, pos := "powers.go:36", after := #[{ on := 5, ground := Ground.data }, { on := 6, ground := Ground.data }, { on := 4, ground := Ground.chain }], guard := none }) rfl (fun K hK => ?_) (AllReadyH.cons (o := { dst := some 8, op := Op.alloc 27, type := 0, pos := "powers.go:36", after := #[], guard := none }) rfl (fun K hK => ?_) AllReadyH.nil)
      · have HH := hidden hH2
        clear hH2
        go_simp
        refine (C7.out _ HH.out).mono ?_
        rintro e wn3 ⟨b, rfl, hr, hb⟩
        have RW := hidden (hr)
        have SN := hidden (bl_trans HH.out hb)
        clear HH hb C7 hr
        go_wp2_with fail
        refine hK.out _ _ SN.out (fun hH3 => ?_)
        clear hK K SN
        refine wpAnyH_ready (rs := [8, 10]) (by kernel_rfl) (by simp) ?_
        refine AllReadyH.cons (o := { dst := some 22, op := Op.call { callee := Callee.value (Operand.func 38), args := #[Operand.tmp 21], argTypes := #[28] }, type := 27, pos := "powers.go:36", after := #[{ on := 7, ground := Ground.data }, { on := 7, ground := Ground.chain }], guard := none }) rfl (fun K hK => ?_) (AllReadyH.cons (o := { dst := some 8, op := Op.alloc 27, type := 0, pos := "powers.go:36", after := #[], guard := none }) rfl (fun K hK => ?_) AllReadyH.nil)
        · have HH := hidden hH3
          clear hH3
          go_simp
          refine (C8.out _ b HH.out RW.out).mono ?_
          rintro e wn4 ⟨rfl, hb⟩
          replace RW := hidden (RW.out.keep hb)
          have SN := hidden (bl_trans HH.out hb)
          clear HH hb C8
          go_wp2_with fail
          refine hK.out _ _ SN.out (fun hH4 => ?_)
          clear hK K SN
          refine wpAnyH_ready (rs := [9, 10]) (by kernel_rfl) (by simp) ?_
          refine AllReadyH.cons (o := { dst := some 23, op := Op.call { callee := Callee.value (Operand.func 37), args := #[Operand.tmp 18, Operand.tmp 22], argTypes := #[27, 27] }, type := 27, pos := "powers.go:36", after := #[{ on := 4, ground := Ground.data }, { on := 8, ground := Ground.data }, { on := 8, ground := Ground.chain }], guard := none }) rfl (fun K hK => ?_) (AllReadyH.cons (o := { dst := some 8, op := Op.alloc 27, type := 0, pos := "powers.go:36", after := #[], guard := none }) rfl (fun K hK => ?_) AllReadyH.nil)
          · have HH := hidden hH4
            clear hH4
            go_simp
            refine (C9.out _ HH.out).mono ?_
            rintro e wn5 ⟨rfl, hb⟩
            replace RW := hidden (RW.out.keep hb)
            have SN := hidden (bl_trans HH.out hb)
            clear HH hb C9
            go_wp2_with fail
            refine hK.out _ _ SN.out (fun hH5 => ?_)
            clear hK K SN
            refine wpAnyH_ready (rs := [10]) (by kernel_rfl) (by simp) ?_
            refine AllReadyH.cons (o := { dst := some 8, op := Op.alloc 27, type := 0, pos := "powers.go:36", after := #[], guard := none }) rfl (fun K hK => ?_) AllReadyH.nil
            have HH := hidden hH5
            clear hH5
            refine wp_allocX z4 zv_s rfl (fun A wq6 hA hb hth hra => ?_)
            have GA := hidden (show W.heap.size ≤ A by rw [hA]; exact HH.out.size)
            have TH := hidden hth
            replace RW := hidden (RW.out.keep hb)
            have SN := hidden (bl_trans HH.out hb)
            clear HH hb hth hra hA
            simp only [Act.put, List.setIfInBounds_toArray, List.set_cons_zero, List.set_cons_succ]
            refine hK.out _ _ SN.out (fun hH6 => ?_)
            clear hK K SN
            have HH := hidden hH6
            clear hH6
            refine wpAnyH_ready (rs := [11]) (by kernel_rfl) (by simp) ?_
            refine AllReadyH.cons (o := { dst := none, op := Op.store 27 (Operand.tmp 8) (Operand.tmp 23), type := 0, pos := "powers.go:36", after := #[{ on := 10, ground := Ground.data }, { on := 9, ground := Ground.data }, { on := 9, ground := Ground.chain }, { on := 0, ground := Ground.phase }, { on := 1, ground := Ground.phase }, { on := 2, ground := Ground.phase }, { on := 3, ground := Ground.phase }, { on := 4, ground := Ground.phase }, { on := 5, ground := Ground.phase }, { on := 6, ground := Ground.phase }, { on := 7, ground := Ground.phase }, { on := 8, ground := Ground.phase }, { on := 9, ground := Ground.phase }, { on := 10, ground := Ground.phase }], guard := none }) rfl (fun K hK => ?_) AllReadyH.nil
            refine wp_store_mid 27 _ _ rfl A 0 ([.int .u64 p.x0, .int .u64 p.x1, .int .u64 p.x2, .int .u64 p.x3]).toArray (by rfl) (by rfl) TH.out i4_s (one4 p) ?_
            have FQ := hidden (HQ.out A b _ GA.out (below_setCellsM A _ 0 HH.out GA.out) (World.rangeAt_setCells_same _ A 0 _ TH.out) (there_setM TH.out A _))
            refine hK.out _ _ (below_setCellsM A _ 0 HH.out GA.out) (fun hF => ?_)
            clear hK K HH
            refine wpAnyH_done (by kernel_rfl) ?_ _
            refine NoPanic.normal ?_
            exact FQ.out
          · have HH := hidden hH4
            clear hH4
            refine wp_allocX z4 zv_s rfl (fun A wq5 hA hb hth hra => ?_)
            have GA := hidden (show W.heap.size ≤ A by rw [hA]; exact HH.out.size)
            have TH := hidden hth
            replace RW := hidden (RW.out.keep hb)
            have SN := hidden (bl_trans HH.out hb)
            clear HH hb hth hra hA
            simp only [Act.put, List.setIfInBounds_toArray, List.set_cons_zero, List.set_cons_succ]
            refine hK.out _ _ SN.out (fun hH5 => ?_)
            clear hK K SN
            refine wpAnyH_ready (rs := [9]) (by kernel_rfl) (by simp) ?_
            refine AllReadyH.cons (o := { dst := some 23, op := Op.call { callee := Callee.value (Operand.func 37), args := #[Operand.tmp 18, Operand.tmp 22], argTypes := #[27, 27] }, type := 27, pos := "powers.go:36", after := #[{ on := 4, ground := Ground.data }, { on := 8, ground := Ground.data }, { on := 8, ground := Ground.chain }], guard := none }) rfl (fun K hK => ?_) AllReadyH.nil
            have HH := hidden hH5
            clear hH5
            go_simp
            refine (C9.out _ HH.out).mono ?_
            rintro e wn6 ⟨rfl, hb⟩
            replace RW := hidden (RW.out.keep hb)
            replace TH := hidden (there_keepM TH.out hb)
            have SN := hidden (bl_trans HH.out hb)
            clear HH hb C9
            go_wp2_with fail
            refine hK.out _ _ SN.out (fun hH6 => ?_)
            clear hK K SN
            have HH := hidden hH6
            clear hH6
            refine wpAnyH_ready (rs := [11]) (by kernel_rfl) (by simp) ?_
            refine AllReadyH.cons (o := { dst := none, op := Op.store 27 (Operand.tmp 8) (Operand.tmp 23), type := 0, pos := "powers.go:36", after := #[{ on := 10, ground := Ground.data }, { on := 9, ground := Ground.data }, { on := 9, ground := Ground.chain }, { on := 0, ground := Ground.phase }, { on := 1, ground := Ground.phase }, { on := 2, ground := Ground.phase }, { on := 3, ground := Ground.phase }, { on := 4, ground := Ground.phase }, { on := 5, ground := Ground.phase }, { on := 6, ground := Ground.phase }, { on := 7, ground := Ground.phase }, { on := 8, ground := Ground.phase }, { on := 9, ground := Ground.phase }, { on := 10, ground := Ground.phase }], guard := none }) rfl (fun K hK => ?_) AllReadyH.nil
            refine wp_store_mid 27 _ _ rfl A 0 ([.int .u64 p.x0, .int .u64 p.x1, .int .u64 p.x2, .int .u64 p.x3]).toArray (by rfl) (by rfl) TH.out i4_s (one4 p) ?_
            have FQ := hidden (HQ.out A b _ GA.out (below_setCellsM A _ 0 HH.out GA.out) (World.rangeAt_setCells_same _ A 0 _ TH.out) (there_setM TH.out A _))
            refine hK.out _ _ (below_setCellsM A _ 0 HH.out GA.out) (fun hF => ?_)
            clear hK K HH
            refine wpAnyH_done (by kernel_rfl) ?_ _
            refine NoPanic.normal ?_
            exact FQ.out
        · have HH := hidden hH3
          clear hH3
          refine wp_allocX z4 zv_s rfl (fun A wq4 hA hb hth hra => ?_)
          have GA := hidden (show W.heap.size ≤ A by rw [hA]; exact HH.out.size)
          have TH := hidden hth
          replace RW := hidden (RW.out.keep hb)
          have SN := hidden (bl_trans HH.out hb)
          clear HH hb hth hra hA
          simp only [Act.put, List.setIfInBounds_toArray, List.set_cons_zero, List.set_cons_succ]
          refine hK.out _ _ SN.out (fun hH4 => ?_)
          clear hK K SN
          refine wpAnyH_ready (rs := [8]) (by kernel_rfl) (by simp) ?_
          refine AllReadyH.cons (o := { dst := some 22, op := Op.call { callee := Callee.value (Operand.func 38), args := #[Operand.tmp 21], argTypes := #[28] }, type := 27, pos := "powers.go:36", after := #[{ on := 7, ground := Ground.data }, { on := 7, ground := Ground.chain }], guard := none }) rfl (fun K hK => ?_) AllReadyH.nil
          have HH := hidden hH4
          clear hH4
          go_simp
          refine (C8.out _ b HH.out RW.out).mono ?_
          rintro e wn5 ⟨rfl, hb⟩
          replace RW := hidden (RW.out.keep hb)
          replace TH := hidden (there_keepM TH.out hb)
          have SN := hidden (bl_trans HH.out hb)
          clear HH hb C8
          go_wp2_with fail
          refine hK.out _ _ SN.out (fun hH5 => ?_)
          clear hK K SN
          refine wpAnyH_ready (rs := [9]) (by kernel_rfl) (by simp) ?_
          refine AllReadyH.cons (o := { dst := some 23, op := Op.call { callee := Callee.value (Operand.func 37), args := #[Operand.tmp 18, Operand.tmp 22], argTypes := #[27, 27] }, type := 27, pos := "powers.go:36", after := #[{ on := 4, ground := Ground.data }, { on := 8, ground := Ground.data }, { on := 8, ground := Ground.chain }], guard := none }) rfl (fun K hK => ?_) AllReadyH.nil
          have HH := hidden hH5
          clear hH5
          go_simp
          refine (C9.out _ HH.out).mono ?_
          rintro e wn6 ⟨rfl, hb⟩
          replace RW := hidden (RW.out.keep hb)
          replace TH := hidden (there_keepM TH.out hb)
          have SN := hidden (bl_trans HH.out hb)
          clear HH hb C9
          go_wp2_with fail
          refine hK.out _ _ SN.out (fun hH6 => ?_)
          clear hK K SN
          have HH := hidden hH6
          clear hH6
          refine wpAnyH_ready (rs := [11]) (by kernel_rfl) (by simp) ?_
          refine AllReadyH.cons (o := { dst := none, op := Op.store 27 (Operand.tmp 8) (Operand.tmp 23), type := 0, pos := "powers.go:36", after := #[{ on := 10, ground := Ground.data }, { on := 9, ground := Ground.data }, { on := 9, ground := Ground.chain }, { on := 0, ground := Ground.phase }, { on := 1, ground := Ground.phase }, { on := 2, ground := Ground.phase }, { on := 3, ground := Ground.phase }, { on := 4, ground := Ground.phase }, { on := 5, ground := Ground.phase }, { on := 6, ground := Ground.phase }, { on := 7, ground := Ground.phase }, { on := 8, ground := Ground.phase }, { on := 9, ground := Ground.phase }, { on := 10, ground := Ground.phase }], guard := none }) rfl (fun K hK => ?_) AllReadyH.nil
          refine wp_store_mid 27 _ _ rfl A 0 ([.int .u64 p.x0, .int .u64 p.x1, .int .u64 p.x2, .int .u64 p.x3]).toArray (by rfl) (by rfl) TH.out i4_s (one4 p) ?_
          have FQ := hidden (HQ.out A b _ GA.out (below_setCellsM A _ 0 HH.out GA.out) (World.rangeAt_setCells_same _ A 0 _ TH.out) (there_setM TH.out A _))
          refine hK.out _ _ (below_setCellsM A _ 0 HH.out GA.out) (fun hF => ?_)
          clear hK K HH
          refine wpAnyH_done (by kernel_rfl) ?_ _
          refine NoPanic.normal ?_
          exact FQ.out
      · have HH := hidden hH2
        clear hH2
        refine wp_allocX z4 zv_s rfl (fun A wq3 hA hb hth hra => ?_)
        have GA := hidden (show W.heap.size ≤ A by rw [hA]; exact HH.out.size)
        have TH := hidden hth
        have SN := hidden (bl_trans HH.out hb)
        clear HH hb hth hra hA
        simp only [Act.put, List.setIfInBounds_toArray, List.set_cons_zero, List.set_cons_succ]
        refine hK.out _ _ SN.out (fun hH3 => ?_)
        clear hK K SN
        refine wpAnyH_ready (rs := [7]) (by kernel_rfl) (by simp) ?_
        refine AllReadyH.cons (o := { dst := some 21, op := Op.call { callee := Callee.value (Operand.func 39), args := #[Operand.tmp 19, Operand.tmp 20], argTypes := #[23, 27] }, type := 28, pos := "powers.go:36", after := #[{ on := 5, ground := Ground.data }, { on := 6, ground := Ground.data }, { on := 4, ground := Ground.chain }], guard := none }) rfl (fun K hK => ?_) AllReadyH.nil
        have HH := hidden hH3
        clear hH3
        go_simp
        refine (C7.out _ HH.out).mono ?_
        rintro e wn4 ⟨b, rfl, hr, hb⟩
        replace TH := hidden (there_keepM TH.out hb)
        have RW := hidden (hr)
        have SN := hidden (bl_trans HH.out hb)
        clear HH hb C7 hr
        go_wp2_with fail
        refine hK.out _ _ SN.out (fun hH4 => ?_)
        clear hK K SN
        refine wpAnyH_ready (rs := [8]) (by kernel_rfl) (by simp) ?_
        refine AllReadyH.cons (o := { dst := some 22, op := Op.call { callee := Callee.value (Operand.func 38), args := #[Operand.tmp 21], argTypes := #[28] }, type := 27, pos := "powers.go:36", after := #[{ on := 7, ground := Ground.data }, { on := 7, ground := Ground.chain }], guard := none }) rfl (fun K hK => ?_) AllReadyH.nil
        have HH := hidden hH4
        clear hH4
        go_simp
        refine (C8.out _ b HH.out RW.out).mono ?_
        rintro e wn5 ⟨rfl, hb⟩
        replace TH := hidden (there_keepM TH.out hb)
        replace RW := hidden (RW.out.keep hb)
        have SN := hidden (bl_trans HH.out hb)
        clear HH hb C8
        go_wp2_with fail
        refine hK.out _ _ SN.out (fun hH5 => ?_)
        clear hK K SN
        refine wpAnyH_ready (rs := [9]) (by kernel_rfl) (by simp) ?_
        refine AllReadyH.cons (o := { dst := some 23, op := Op.call { callee := Callee.value (Operand.func 37), args := #[Operand.tmp 18, Operand.tmp 22], argTypes := #[27, 27] }, type := 27, pos := "powers.go:36", after := #[{ on := 4, ground := Ground.data }, { on := 8, ground := Ground.data }, { on := 8, ground := Ground.chain }], guard := none }) rfl (fun K hK => ?_) AllReadyH.nil
        have HH := hidden hH5
        clear hH5
        go_simp
        refine (C9.out _ HH.out).mono ?_
        rintro e wn6 ⟨rfl, hb⟩
        replace TH := hidden (there_keepM TH.out hb)
        replace RW := hidden (RW.out.keep hb)
        have SN := hidden (bl_trans HH.out hb)
        clear HH hb C9
        go_wp2_with fail
        refine hK.out _ _ SN.out (fun hH6 => ?_)
        clear hK K SN
        have HH := hidden hH6
        clear hH6
        refine wpAnyH_ready (rs := [11]) (by kernel_rfl) (by simp) ?_
        refine AllReadyH.cons (o := { dst := none, op := Op.store 27 (Operand.tmp 8) (Operand.tmp 23), type := 0, pos := "powers.go:36", after := #[{ on := 10, ground := Ground.data }, { on := 9, ground := Ground.data }, { on := 9, ground := Ground.chain }, { on := 0, ground := Ground.phase }, { on := 1, ground := Ground.phase }, { on := 2, ground := Ground.phase }, { on := 3, ground := Ground.phase }, { on := 4, ground := Ground.phase }, { on := 5, ground := Ground.phase }, { on := 6, ground := Ground.phase }, { on := 7, ground := Ground.phase }, { on := 8, ground := Ground.phase }, { on := 9, ground := Ground.phase }, { on := 10, ground := Ground.phase }], guard := none }) rfl (fun K hK => ?_) AllReadyH.nil
        refine wp_store_mid 27 _ _ rfl A 0 ([.int .u64 p.x0, .int .u64 p.x1, .int .u64 p.x2, .int .u64 p.x3]).toArray (by rfl) (by rfl) TH.out i4_s (one4 p) ?_
        have FQ := hidden (HQ.out A b _ GA.out (below_setCellsM A _ 0 HH.out GA.out) (World.rangeAt_setCells_same _ A 0 _ TH.out) (there_setM TH.out A _))
        refine hK.out _ _ (below_setCellsM A _ 0 HH.out GA.out) (fun hF => ?_)
        clear hK K HH
        refine wpAnyH_done (by kernel_rfl) ?_ _
        refine NoPanic.normal ?_
        exact FQ.out
    · have HH := hidden hH1
      clear hH1
      refine wp_allocX z4 zv_s rfl (fun A wq2 hA hb hth hra => ?_)
      have GA := hidden (show W.heap.size ≤ A by rw [hA]; exact HH.out.size)
      have TH := hidden hth
      have SN := hidden (bl_trans HH.out hb)
      clear HH hb hth hra hA
      simp only [Act.put, List.setIfInBounds_toArray, List.set_cons_zero, List.set_cons_succ]
      refine hK.out _ _ SN.out (fun hH2 => ?_)
      clear hK K SN
      refine wpAnyH_ready (rs := [4]) (by kernel_rfl) (by simp) ?_
      refine AllReadyH.cons (o := { dst := some 18, op := Op.call { callee := Callee.value (Operand.func 36), args := #[Operand.tmp 14, Operand.tmp 17], argTypes := #[27, 27] }, type := 27, pos := "powers.go:36", after := #[{ on := 0, ground := Ground.data }, { on := 3, ground := Ground.data }, { on := 3, ground := Ground.chain }], guard := none }) rfl (fun K hK => ?_) AllReadyH.nil
      have HH := hidden hH2
      clear hH2
      go_simp
      refine (C4.out _ HH.out).mono ?_
      rintro e wn3 ⟨rfl, hb⟩
      replace TH := hidden (there_keepM TH.out hb)
      have SN := hidden (bl_trans HH.out hb)
      clear HH hb C4
      go_wp2_with fail
      refine hK.out _ _ SN.out (fun hH3 => ?_)
      clear hK K SN
      refine wpAnyH_ready (rs := [7]) (by kernel_rfl) (by simp) ?_
      refine AllReadyH.cons (o := { dst := some 21, op := Op.call { callee := Callee.value (Operand.func 39), args := #[Operand.tmp 19, Operand.tmp 20], argTypes := #[23, 27] }, type := 28, pos := "powers.go:36", after := #[{ on := 5, ground := Ground.data }, { on := 6, ground := Ground.data }, { on := 4, ground := Ground.chain }], guard := none }) rfl (fun K hK => ?_) AllReadyH.nil
      have HH := hidden hH3
      clear hH3
      go_simp
      refine (C7.out _ HH.out).mono ?_
      rintro e wn4 ⟨b, rfl, hr, hb⟩
      replace TH := hidden (there_keepM TH.out hb)
      have RW := hidden (hr)
      have SN := hidden (bl_trans HH.out hb)
      clear HH hb C7 hr
      go_wp2_with fail
      refine hK.out _ _ SN.out (fun hH4 => ?_)
      clear hK K SN
      refine wpAnyH_ready (rs := [8]) (by kernel_rfl) (by simp) ?_
      refine AllReadyH.cons (o := { dst := some 22, op := Op.call { callee := Callee.value (Operand.func 38), args := #[Operand.tmp 21], argTypes := #[28] }, type := 27, pos := "powers.go:36", after := #[{ on := 7, ground := Ground.data }, { on := 7, ground := Ground.chain }], guard := none }) rfl (fun K hK => ?_) AllReadyH.nil
      have HH := hidden hH4
      clear hH4
      go_simp
      refine (C8.out _ b HH.out RW.out).mono ?_
      rintro e wn5 ⟨rfl, hb⟩
      replace TH := hidden (there_keepM TH.out hb)
      replace RW := hidden (RW.out.keep hb)
      have SN := hidden (bl_trans HH.out hb)
      clear HH hb C8
      go_wp2_with fail
      refine hK.out _ _ SN.out (fun hH5 => ?_)
      clear hK K SN
      refine wpAnyH_ready (rs := [9]) (by kernel_rfl) (by simp) ?_
      refine AllReadyH.cons (o := { dst := some 23, op := Op.call { callee := Callee.value (Operand.func 37), args := #[Operand.tmp 18, Operand.tmp 22], argTypes := #[27, 27] }, type := 27, pos := "powers.go:36", after := #[{ on := 4, ground := Ground.data }, { on := 8, ground := Ground.data }, { on := 8, ground := Ground.chain }], guard := none }) rfl (fun K hK => ?_) AllReadyH.nil
      have HH := hidden hH5
      clear hH5
      go_simp
      refine (C9.out _ HH.out).mono ?_
      rintro e wn6 ⟨rfl, hb⟩
      replace TH := hidden (there_keepM TH.out hb)
      replace RW := hidden (RW.out.keep hb)
      have SN := hidden (bl_trans HH.out hb)
      clear HH hb C9
      go_wp2_with fail
      refine hK.out _ _ SN.out (fun hH6 => ?_)
      clear hK K SN
      have HH := hidden hH6
      clear hH6
      refine wpAnyH_ready (rs := [11]) (by kernel_rfl) (by simp) ?_
      refine AllReadyH.cons (o := { dst := none, op := Op.store 27 (Operand.tmp 8) (Operand.tmp 23), type := 0, pos := "powers.go:36", after := #[{ on := 10, ground := Ground.data }, { on := 9, ground := Ground.data }, { on := 9, ground := Ground.chain }, { on := 0, ground := Ground.phase }, { on := 1, ground := Ground.phase }, { on := 2, ground := Ground.phase }, { on := 3, ground := Ground.phase }, { on := 4, ground := Ground.phase }, { on := 5, ground := Ground.phase }, { on := 6, ground := Ground.phase }, { on := 7, ground := Ground.phase }, { on := 8, ground := Ground.phase }, { on := 9, ground := Ground.phase }, { on := 10, ground := Ground.phase }], guard := none }) rfl (fun K hK => ?_) AllReadyH.nil
      refine wp_store_mid 27 _ _ rfl A 0 ([.int .u64 p.x0, .int .u64 p.x1, .int .u64 p.x2, .int .u64 p.x3]).toArray (by rfl) (by rfl) TH.out i4_s (one4 p) ?_
      have FQ := hidden (HQ.out A b _ GA.out (below_setCellsM A _ 0 HH.out GA.out) (World.rangeAt_setCells_same _ A 0 _ TH.out) (there_setM TH.out A _))
      refine hK.out _ _ (below_setCellsM A _ 0 HH.out GA.out) (fun hF => ?_)
      clear hK K HH
      refine wpAnyH_done (by kernel_rfl) ?_ _
      refine NoPanic.normal ?_
      exact FQ.out
  · have HH := hidden hH0
    clear hH0
    refine wp_allocX z4 zv_s rfl (fun A wq1 hA hb hth hra => ?_)
    have GA := hidden (show W.heap.size ≤ A by rw [hA]; exact HH.out.size)
    have TH := hidden hth
    have SN := hidden (bl_trans HH.out hb)
    clear HH hb hth hra hA
    simp only [Act.put, List.setIfInBounds_toArray, List.set_cons_zero, List.set_cons_succ]
    refine hK.out _ _ SN.out (fun hH1 => ?_)
    clear hK K SN
    refine wpAnyH_ready (rs := [3]) (by kernel_rfl) (by simp) ?_
    refine AllReadyH.cons (o := { dst := some 17, op := Op.call { callee := Callee.value (Operand.func 37), args := #[Operand.tmp 15, Operand.tmp 16], argTypes := #[27, 27] }, type := 27, pos := "powers.go:36", after := #[{ on := 1, ground := Ground.data }, { on := 2, ground := Ground.data }], guard := none }) rfl (fun K hK => ?_) AllReadyH.nil
    have HH := hidden hH1
    clear hH1
    go_simp
    refine (C3.out _ HH.out).mono ?_
    rintro e wn2 ⟨rfl, hb⟩
    replace TH := hidden (there_keepM TH.out hb)
    have SN := hidden (bl_trans HH.out hb)
    clear HH hb C3
    go_wp2_with fail
    refine hK.out _ _ SN.out (fun hH2 => ?_)
    clear hK K SN
    refine wpAnyH_ready (rs := [4]) (by kernel_rfl) (by simp) ?_
    refine AllReadyH.cons (o := { dst := some 18, op := Op.call { callee := Callee.value (Operand.func 36), args := #[Operand.tmp 14, Operand.tmp 17], argTypes := #[27, 27] }, type := 27, pos := "powers.go:36", after := #[{ on := 0, ground := Ground.data }, { on := 3, ground := Ground.data }, { on := 3, ground := Ground.chain }], guard := none }) rfl (fun K hK => ?_) AllReadyH.nil
    have HH := hidden hH2
    clear hH2
    go_simp
    refine (C4.out _ HH.out).mono ?_
    rintro e wn3 ⟨rfl, hb⟩
    replace TH := hidden (there_keepM TH.out hb)
    have SN := hidden (bl_trans HH.out hb)
    clear HH hb C4
    go_wp2_with fail
    refine hK.out _ _ SN.out (fun hH3 => ?_)
    clear hK K SN
    refine wpAnyH_ready (rs := [7]) (by kernel_rfl) (by simp) ?_
    refine AllReadyH.cons (o := { dst := some 21, op := Op.call { callee := Callee.value (Operand.func 39), args := #[Operand.tmp 19, Operand.tmp 20], argTypes := #[23, 27] }, type := 28, pos := "powers.go:36", after := #[{ on := 5, ground := Ground.data }, { on := 6, ground := Ground.data }, { on := 4, ground := Ground.chain }], guard := none }) rfl (fun K hK => ?_) AllReadyH.nil
    have HH := hidden hH3
    clear hH3
    go_simp
    refine (C7.out _ HH.out).mono ?_
    rintro e wn4 ⟨b, rfl, hr, hb⟩
    replace TH := hidden (there_keepM TH.out hb)
    have RW := hidden (hr)
    have SN := hidden (bl_trans HH.out hb)
    clear HH hb C7 hr
    go_wp2_with fail
    refine hK.out _ _ SN.out (fun hH4 => ?_)
    clear hK K SN
    refine wpAnyH_ready (rs := [8]) (by kernel_rfl) (by simp) ?_
    refine AllReadyH.cons (o := { dst := some 22, op := Op.call { callee := Callee.value (Operand.func 38), args := #[Operand.tmp 21], argTypes := #[28] }, type := 27, pos := "powers.go:36", after := #[{ on := 7, ground := Ground.data }, { on := 7, ground := Ground.chain }], guard := none }) rfl (fun K hK => ?_) AllReadyH.nil
    have HH := hidden hH4
    clear hH4
    go_simp
    refine (C8.out _ b HH.out RW.out).mono ?_
    rintro e wn5 ⟨rfl, hb⟩
    replace TH := hidden (there_keepM TH.out hb)
    replace RW := hidden (RW.out.keep hb)
    have SN := hidden (bl_trans HH.out hb)
    clear HH hb C8
    go_wp2_with fail
    refine hK.out _ _ SN.out (fun hH5 => ?_)
    clear hK K SN
    refine wpAnyH_ready (rs := [9]) (by kernel_rfl) (by simp) ?_
    refine AllReadyH.cons (o := { dst := some 23, op := Op.call { callee := Callee.value (Operand.func 37), args := #[Operand.tmp 18, Operand.tmp 22], argTypes := #[27, 27] }, type := 27, pos := "powers.go:36", after := #[{ on := 4, ground := Ground.data }, { on := 8, ground := Ground.data }, { on := 8, ground := Ground.chain }], guard := none }) rfl (fun K hK => ?_) AllReadyH.nil
    have HH := hidden hH5
    clear hH5
    go_simp
    refine (C9.out _ HH.out).mono ?_
    rintro e wn6 ⟨rfl, hb⟩
    replace TH := hidden (there_keepM TH.out hb)
    replace RW := hidden (RW.out.keep hb)
    have SN := hidden (bl_trans HH.out hb)
    clear HH hb C9
    go_wp2_with fail
    refine hK.out _ _ SN.out (fun hH6 => ?_)
    clear hK K SN
    have HH := hidden hH6
    clear hH6
    refine wpAnyH_ready (rs := [11]) (by kernel_rfl) (by simp) ?_
    refine AllReadyH.cons (o := { dst := none, op := Op.store 27 (Operand.tmp 8) (Operand.tmp 23), type := 0, pos := "powers.go:36", after := #[{ on := 10, ground := Ground.data }, { on := 9, ground := Ground.data }, { on := 9, ground := Ground.chain }, { on := 0, ground := Ground.phase }, { on := 1, ground := Ground.phase }, { on := 2, ground := Ground.phase }, { on := 3, ground := Ground.phase }, { on := 4, ground := Ground.phase }, { on := 5, ground := Ground.phase }, { on := 6, ground := Ground.phase }, { on := 7, ground := Ground.phase }, { on := 8, ground := Ground.phase }, { on := 9, ground := Ground.phase }, { on := 10, ground := Ground.phase }], guard := none }) rfl (fun K hK => ?_) AllReadyH.nil
    refine wp_store_mid 27 _ _ rfl A 0 ([.int .u64 p.x0, .int .u64 p.x1, .int .u64 p.x2, .int .u64 p.x3]).toArray (by rfl) (by rfl) TH.out i4_s (one4 p) ?_
    have FQ := hidden (HQ.out A b _ GA.out (below_setCellsM A _ 0 HH.out GA.out) (World.rangeAt_setCells_same _ A 0 _ TH.out) (there_setM TH.out A _))
    refine hK.out _ _ (below_setCellsM A _ 0 HH.out GA.out) (fun hF => ?_)
    clear hK K HH
    refine wpAnyH_done (by kernel_rfl) ?_ _
    refine NoPanic.normal ?_
    exact FQ.out
def de3o : Array Oper := #[{ dst := some 24, op := Op.load 27 (Operand.tmp 8), type := 27, pos := "powers.go:37", after := #[], guard := none },
  { dst := some 25, op := Op.load 23 (Operand.tmp 3), type := 23, pos := "powers.go:37", after := #[], guard := none },
  { dst := some 26, op := Op.load 27 (Operand.tmp 5), type := 27, pos := "powers.go:37", after := #[], guard := none },
  { dst := some 27, op := Op.call { callee := Callee.value (Operand.func 40), args := #[Operand.tmp 25, Operand.tmp 26], argTypes := #[23, 27] }, type := 28, pos := "powers.go:37", after := #[{ on := 1, ground := Ground.data }, { on := 2, ground := Ground.data }], guard := none },
  { dst := some 28, op := Op.call { callee := Callee.value (Operand.func 38), args := #[Operand.tmp 27], argTypes := #[28] }, type := 27, pos := "powers.go:37", after := #[{ on := 3, ground := Ground.data }, { on := 3, ground := Ground.chain }], guard := none },
  { dst := some 29, op := Op.load 27 (Operand.tmp 5), type := 27, pos := "powers.go:37", after := #[], guard := none },
  { dst := some 30, op := Op.call { callee := Callee.value (Operand.func 37), args := #[Operand.tmp 28, Operand.tmp 29], argTypes := #[27, 27] }, type := 27, pos := "powers.go:37", after := #[{ on := 4, ground := Ground.data }, { on := 5, ground := Ground.data }, { on := 4, ground := Ground.chain }], guard := none },
  { dst := some 31, op := Op.load 27 (Operand.tmp 7), type := 27, pos := "powers.go:37", after := #[], guard := none },
  { dst := some 32, op := Op.call { callee := Callee.value (Operand.func 37), args := #[Operand.tmp 30, Operand.tmp 31], argTypes := #[27, 27] }, type := 27, pos := "powers.go:37", after := #[{ on := 6, ground := Ground.data }, { on := 7, ground := Ground.data }, { on := 6, ground := Ground.chain }], guard := none },
  { dst := some 33, op := Op.call { callee := Callee.value (Operand.func 36), args := #[Operand.tmp 24, Operand.tmp 32], argTypes := #[27, 27] }, type := 27, pos := "powers.go:37", after := #[{ on := 0, ground := Ground.data }, { on := 8, ground := Ground.data }, { on := 8, ground := Ground.chain }], guard := none },
  { dst := none, op := Op.store 27 (Operand.tmp 6) (Operand.tmp 33), type := 0, pos := "powers.go:37", after := #[{ on := 9, ground := Ground.data }, { on := 9, ground := Ground.chain }, { on := 0, ground := Ground.phase }, { on := 1, ground := Ground.phase }, { on := 2, ground := Ground.phase }, { on := 3, ground := Ground.phase }, { on := 4, ground := Ground.phase }, { on := 5, ground := Ground.phase }, { on := 6, ground := Ground.phase }, { on := 7, ground := Ground.phase }, { on := 8, ground := Ground.phase }, { on := 9, ground := Ground.phase }], guard := none }]
set_option maxRecDepth 100000 in
set_option maxHeartbeats 16000000 in
theorem de3 (Q : Exit → Act → World → Prop) (T3 T5 T6 T7 T8 B C : Nat) (g : Nat → E4) (z p m sv sz sm r : E4) (u0 u1 u2 u4 u9 u10 u11 u12 u13 u14 u15 u16 u17 u18 u19 u20 u21 u22 u23 u24 u25 u26 u27 u28 u29 u30 u31 u32 u33 : Value) (W : World)
    (ne_cz : T5 ≠ T6) (ne_cp : T3 ≠ T6) (ne_ck : T8 ≠ T6) (ne_cm : T7 ≠ T6) (ht : W.there T6 0 4)
    (cz0 : W.cell? ⟨T5, 0, none⟩ = some (.int .u64 z.x0)) (cz1 : W.cell? ⟨T5, 1, none⟩ = some (.int .u64 z.x1)) (cz2 : W.cell? ⟨T5, 2, none⟩ = some (.int .u64 z.x2)) (cz3 : W.cell? ⟨T5, 3, none⟩ = some (.int .u64 z.x3)) (ck0 : W.cell? ⟨T8, 0, none⟩ = some (.int .u64 p.x0)) (ck1 : W.cell? ⟨T8, 1, none⟩ = some (.int .u64 p.x1)) (ck2 : W.cell? ⟨T8, 2, none⟩ = some (.int .u64 p.x2)) (ck3 : W.cell? ⟨T8, 3, none⟩ = some (.int .u64 p.x3)) (cm0 : W.cell? ⟨T7, 0, none⟩ = some (.int .u64 m.x0)) (cm1 : W.cell? ⟨T7, 1, none⟩ = some (.int .u64 m.x1)) (cm2 : W.cell? ⟨T7, 2, none⟩ = some (.int .u64 m.x2)) (cm3 : W.cell? ⟨T7, 3, none⟩ = some (.int .u64 m.x3)) (cp0 : W.cell? ⟨T3, 0, none⟩ = some (.int .i64 (B : Int))) (cp1 : W.cell? ⟨T3, 1, none⟩ = some (.int .i64 (C : Int)))
    (C3 : Hid (∀ x, W.grownBy x (some T6) → Calls Tryd.prog 40 #[.agg #[.int .i64 (B : Int), .int .i64 (C : Int)], .agg #[.int .u64 z.x0, .int .u64 z.x1, .int .u64 z.x2, .int .u64 z.x3]] x fun e w' => ∃ b : Nat, e = .returned (.slice (some ⟨b, 8, none⟩) C C) ∧ Rlo w' b 8 C g ∧ Below x.heap.size x w'))
    (C4 : Hid (∀ x b, W.grownBy x (some T6) → Rlo x b 8 C g → Calls Tryd.prog 38 #[.slice (some ⟨b, 8, none⟩) C C] x fun e w' => e = .returned (.agg #[.int .u64 sv.x0, .int .u64 sv.x1, .int .u64 sv.x2, .int .u64 sv.x3]) ∧ Below x.heap.size x w'))
    (C6 : Hid (∀ x, W.grownBy x (some T6) → Calls Tryd.prog 37 #[.agg #[.int .u64 sv.x0, .int .u64 sv.x1, .int .u64 sv.x2, .int .u64 sv.x3], .agg #[.int .u64 z.x0, .int .u64 z.x1, .int .u64 z.x2, .int .u64 z.x3]] x fun e w' => e = .returned (.agg #[.int .u64 sz.x0, .int .u64 sz.x1, .int .u64 sz.x2, .int .u64 sz.x3]) ∧ Below x.heap.size x w')) (C8 : Hid (∀ x, W.grownBy x (some T6) → Calls Tryd.prog 37 #[.agg #[.int .u64 sz.x0, .int .u64 sz.x1, .int .u64 sz.x2, .int .u64 sz.x3], .agg #[.int .u64 m.x0, .int .u64 m.x1, .int .u64 m.x2, .int .u64 m.x3]] x fun e w' => e = .returned (.agg #[.int .u64 sm.x0, .int .u64 sm.x1, .int .u64 sm.x2, .int .u64 sm.x3]) ∧ Below x.heap.size x w')) (C9 : Hid (∀ x, W.grownBy x (some T6) → Calls Tryd.prog 36 #[.agg #[.int .u64 p.x0, .int .u64 p.x1, .int .u64 p.x2, .int .u64 p.x3], .agg #[.int .u64 sm.x0, .int .u64 sm.x1, .int .u64 sm.x2, .int .u64 sm.x3]] x fun e w' => e = .returned (.agg #[.int .u64 r.x0, .int .u64 r.x1, .int .u64 r.x2, .int .u64 r.x3]) ∧ Below x.heap.size x w'))
    (HQ : Hid (∀ b wz, W.grownBy wz (some T6) → wz.rangeAt T6 0 [.int .u64 r.x0, .int .u64 r.x1, .int .u64 r.x2, .int .u64 r.x3] → Q .normal ⟨#[u0, u1, u2, .pointer (some ⟨T3, 0, none⟩), u4, .pointer (some ⟨T5, 0, none⟩), .pointer (some ⟨T6, 0, none⟩), .pointer (some ⟨T7, 0, none⟩), .pointer (some ⟨T8, 0, none⟩), u9, u10, u11, u12, u13, u14, u15, u16, u17, u18, u19, u20, u21, u22, u23, .agg #[.int .u64 p.x0, .int .u64 p.x1, .int .u64 p.x2, .int .u64 p.x3], .agg #[.int .i64 (B : Int), .int .i64 (C : Int)], .agg #[.int .u64 z.x0, .int .u64 z.x1, .int .u64 z.x2, .int .u64 z.x3], .slice (some ⟨b, 8, none⟩) C C, .agg #[.int .u64 sv.x0, .int .u64 sv.x1, .int .u64 sv.x2, .int .u64 sv.x3], .agg #[.int .u64 z.x0, .int .u64 z.x1, .int .u64 z.x2, .int .u64 z.x3], .agg #[.int .u64 sz.x0, .int .u64 sz.x1, .int .u64 sz.x2, .int .u64 sz.x3], .agg #[.int .u64 m.x0, .int .u64 m.x1, .int .u64 m.x2, .int .u64 m.x3], .agg #[.int .u64 sm.x0, .int .u64 sm.x1, .int .u64 sm.x2, .int .u64 sm.x3], .agg #[.int .u64 r.x0, .int .u64 r.x1, .int .u64 r.x2, .int .u64 r.x3]], []⟩ wz)) : (Code.region 3 de3o true).wp Tryd.prog Q ⟨#[u0, u1, u2, .pointer (some ⟨T3, 0, none⟩), u4, .pointer (some ⟨T5, 0, none⟩), .pointer (some ⟨T6, 0, none⟩), .pointer (some ⟨T7, 0, none⟩), .pointer (some ⟨T8, 0, none⟩), u9, u10, u11, u12, u13, u14, u15, u16, u17, u18, u19, u20, u21, u22, u23, u24, u25, u26, u27, u28, u29, u30, u31, u32, u33], []⟩ W := by
  have TH := hidden (there_keepM ht (bl_drew W))
  clear ht
  unfold de3o
  refine wp_region_noPanic ?_
  refine wp_region_held_drew (S := fun x => W.grownBy x (some T6)) (by kernel_rfl) (gbI (bl_drew W) _) (fun hH0 => ?_)
  refine wpAnyH_take (i := 0) (oi := { dst := some 24, op := Op.load 27 (Operand.tmp 8), type := 27, pos := "powers.go:37", after := #[], guard := none }) (v := .agg #[.int .u64 p.x0, .int .u64 p.x1, .int .u64 p.x2, .int .u64 p.x3]) rfl (by kernel_rfl) (by kernel_rfl) (by kernel_rfl) (fun _ _ _ h => h) (Or.inl ⟨by rfl, fun w0 hSw => ?_⟩) hH0 ?_
  · (have hS : W.grownBy w0 (some T6) := hSw; have a0 := hS.cell ck0 (fun e => ne_ck (Option.some.inj e)); have a1 := hS.cell ck1 (fun e => ne_ck (Option.some.inj e)); have a2 := hS.cell ck2 (fun e => ne_ck (Option.some.inj e)); have a3 := hS.cell ck3 (fun e => ne_ck (Option.some.inj e)); clear hS hSw; go_simp)
  simp only [Act.put, List.setIfInBounds_toArray, List.set_cons_zero, List.set_cons_succ]
  refine wpAnyH_take (i := 1) (oi := { dst := some 25, op := Op.load 23 (Operand.tmp 3), type := 23, pos := "powers.go:37", after := #[], guard := none }) (v := .agg #[.int .i64 (B : Int), .int .i64 (C : Int)]) rfl (by kernel_rfl) (by kernel_rfl) (by kernel_rfl) (fun _ _ _ h => h) (Or.inl ⟨by rfl, fun w0 hSw => ?_⟩) hH0 ?_
  · (have hS : W.grownBy w0 (some T6) := hSw; have a0 := hS.cell cp0 (fun e => ne_cp (Option.some.inj e)); have a1 := hS.cell cp1 (fun e => ne_cp (Option.some.inj e)); clear hS hSw; go_simp)
  simp only [Act.put, List.setIfInBounds_toArray, List.set_cons_zero, List.set_cons_succ]
  refine wpAnyH_take (i := 2) (oi := { dst := some 26, op := Op.load 27 (Operand.tmp 5), type := 27, pos := "powers.go:37", after := #[], guard := none }) (v := .agg #[.int .u64 z.x0, .int .u64 z.x1, .int .u64 z.x2, .int .u64 z.x3]) rfl (by kernel_rfl) (by kernel_rfl) (by kernel_rfl) (fun _ _ _ h => h) (Or.inl ⟨by rfl, fun w0 hSw => ?_⟩) hH0 ?_
  · (have hS : W.grownBy w0 (some T6) := hSw; have a0 := hS.cell cz0 (fun e => ne_cz (Option.some.inj e)); have a1 := hS.cell cz1 (fun e => ne_cz (Option.some.inj e)); have a2 := hS.cell cz2 (fun e => ne_cz (Option.some.inj e)); have a3 := hS.cell cz3 (fun e => ne_cz (Option.some.inj e)); clear hS hSw; go_simp)
  simp only [Act.put, List.setIfInBounds_toArray, List.set_cons_zero, List.set_cons_succ]
  refine wpAnyH_take (i := 5) (oi := { dst := some 29, op := Op.load 27 (Operand.tmp 5), type := 27, pos := "powers.go:37", after := #[], guard := none }) (v := .agg #[.int .u64 z.x0, .int .u64 z.x1, .int .u64 z.x2, .int .u64 z.x3]) rfl (by kernel_rfl) (by kernel_rfl) (by kernel_rfl) (fun _ _ _ h => h) (Or.inl ⟨by rfl, fun w0 hSw => ?_⟩) hH0 ?_
  · (have hS : W.grownBy w0 (some T6) := hSw; have a0 := hS.cell cz0 (fun e => ne_cz (Option.some.inj e)); have a1 := hS.cell cz1 (fun e => ne_cz (Option.some.inj e)); have a2 := hS.cell cz2 (fun e => ne_cz (Option.some.inj e)); have a3 := hS.cell cz3 (fun e => ne_cz (Option.some.inj e)); clear hS hSw; go_simp)
  simp only [Act.put, List.setIfInBounds_toArray, List.set_cons_zero, List.set_cons_succ]
  refine wpAnyH_take (i := 7) (oi := { dst := some 31, op := Op.load 27 (Operand.tmp 7), type := 27, pos := "powers.go:37", after := #[], guard := none }) (v := .agg #[.int .u64 m.x0, .int .u64 m.x1, .int .u64 m.x2, .int .u64 m.x3]) rfl (by kernel_rfl) (by kernel_rfl) (by kernel_rfl) (fun _ _ _ h => h) (Or.inl ⟨by rfl, fun w0 hSw => ?_⟩) hH0 ?_
  · (have hS : W.grownBy w0 (some T6) := hSw; have a0 := hS.cell cm0 (fun e => ne_cm (Option.some.inj e)); have a1 := hS.cell cm1 (fun e => ne_cm (Option.some.inj e)); have a2 := hS.cell cm2 (fun e => ne_cm (Option.some.inj e)); have a3 := hS.cell cm3 (fun e => ne_cm (Option.some.inj e)); clear hS hSw; go_simp)
  simp only [Act.put, List.setIfInBounds_toArray, List.set_cons_zero, List.set_cons_succ]
  refine wpAnyH_ready (rs := [3]) (by kernel_rfl) (by simp) ?_
  refine AllReadyH.cons (o := { dst := some 27, op := Op.call { callee := Callee.value (Operand.func 40), args := #[Operand.tmp 25, Operand.tmp 26], argTypes := #[23, 27] }, type := 28, pos := "powers.go:37", after := #[{ on := 1, ground := Ground.data }, { on := 2, ground := Ground.data }], guard := none }) rfl (fun K hK => ?_) AllReadyH.nil
  have HH := hidden hH0
  clear hH0
  go_simp
  refine (C3.out _ HH.out).mono ?_
  rintro e wn1 ⟨b, rfl, hr, hb⟩
  replace TH := hidden (there_keepM TH.out hb)
  have RW := hidden (hr)
  have SN := hidden (HH.out.trans (gbI hb _))
  clear HH hb C3 hr
  go_wp2_with fail
  refine hK.out _ _ SN.out (fun hH1 => ?_)
  clear hK K SN
  refine wpAnyH_ready (rs := [4]) (by kernel_rfl) (by simp) ?_
  refine AllReadyH.cons (o := { dst := some 28, op := Op.call { callee := Callee.value (Operand.func 38), args := #[Operand.tmp 27], argTypes := #[28] }, type := 27, pos := "powers.go:37", after := #[{ on := 3, ground := Ground.data }, { on := 3, ground := Ground.chain }], guard := none }) rfl (fun K hK => ?_) AllReadyH.nil
  have HH := hidden hH1
  clear hH1
  go_simp
  refine (C4.out _ b HH.out RW.out).mono ?_
  rintro e wn2 ⟨rfl, hb⟩
  replace TH := hidden (there_keepM TH.out hb)
  replace RW := hidden (RW.out.keep hb)
  have SN := hidden (HH.out.trans (gbI hb _))
  clear HH hb C4
  go_wp2_with fail
  refine hK.out _ _ SN.out (fun hH2 => ?_)
  clear hK K SN
  refine wpAnyH_ready (rs := [6]) (by kernel_rfl) (by simp) ?_
  refine AllReadyH.cons (o := { dst := some 30, op := Op.call { callee := Callee.value (Operand.func 37), args := #[Operand.tmp 28, Operand.tmp 29], argTypes := #[27, 27] }, type := 27, pos := "powers.go:37", after := #[{ on := 4, ground := Ground.data }, { on := 5, ground := Ground.data }, { on := 4, ground := Ground.chain }], guard := none }) rfl (fun K hK => ?_) AllReadyH.nil
  have HH := hidden hH2
  clear hH2
  go_simp
  refine (C6.out _ HH.out).mono ?_
  rintro e wn3 ⟨rfl, hb⟩
  replace TH := hidden (there_keepM TH.out hb)
  replace RW := hidden (RW.out.keep hb)
  have SN := hidden (HH.out.trans (gbI hb _))
  clear HH hb C6
  go_wp2_with fail
  refine hK.out _ _ SN.out (fun hH3 => ?_)
  clear hK K SN
  refine wpAnyH_ready (rs := [8]) (by kernel_rfl) (by simp) ?_
  refine AllReadyH.cons (o := { dst := some 32, op := Op.call { callee := Callee.value (Operand.func 37), args := #[Operand.tmp 30, Operand.tmp 31], argTypes := #[27, 27] }, type := 27, pos := "powers.go:37", after := #[{ on := 6, ground := Ground.data }, { on := 7, ground := Ground.data }, { on := 6, ground := Ground.chain }], guard := none }) rfl (fun K hK => ?_) AllReadyH.nil
  have HH := hidden hH3
  clear hH3
  go_simp
  refine (C8.out _ HH.out).mono ?_
  rintro e wn4 ⟨rfl, hb⟩
  replace TH := hidden (there_keepM TH.out hb)
  replace RW := hidden (RW.out.keep hb)
  have SN := hidden (HH.out.trans (gbI hb _))
  clear HH hb C8
  go_wp2_with fail
  refine hK.out _ _ SN.out (fun hH4 => ?_)
  clear hK K SN
  refine wpAnyH_ready (rs := [9]) (by kernel_rfl) (by simp) ?_
  refine AllReadyH.cons (o := { dst := some 33, op := Op.call { callee := Callee.value (Operand.func 36), args := #[Operand.tmp 24, Operand.tmp 32], argTypes := #[27, 27] }, type := 27, pos := "powers.go:37", after := #[{ on := 0, ground := Ground.data }, { on := 8, ground := Ground.data }, { on := 8, ground := Ground.chain }], guard := none }) rfl (fun K hK => ?_) AllReadyH.nil
  have HH := hidden hH4
  clear hH4
  go_simp
  refine (C9.out _ HH.out).mono ?_
  rintro e wn5 ⟨rfl, hb⟩
  replace TH := hidden (there_keepM TH.out hb)
  replace RW := hidden (RW.out.keep hb)
  have SN := hidden (HH.out.trans (gbI hb _))
  clear HH hb C9
  go_wp2_with fail
  refine hK.out _ _ SN.out (fun hH5 => ?_)
  clear hK K SN
  have HH := hidden hH5
  clear hH5
  refine wpAnyH_ready (rs := [10]) (by kernel_rfl) (by simp) ?_
  refine AllReadyH.cons (o := { dst := none, op := Op.store 27 (Operand.tmp 6) (Operand.tmp 33), type := 0, pos := "powers.go:37", after := #[{ on := 9, ground := Ground.data }, { on := 9, ground := Ground.chain }, { on := 0, ground := Ground.phase }, { on := 1, ground := Ground.phase }, { on := 2, ground := Ground.phase }, { on := 3, ground := Ground.phase }, { on := 4, ground := Ground.phase }, { on := 5, ground := Ground.phase }, { on := 6, ground := Ground.phase }, { on := 7, ground := Ground.phase }, { on := 8, ground := Ground.phase }, { on := 9, ground := Ground.phase }], guard := none }) rfl (fun K hK => ?_) AllReadyH.nil
  refine wp_store_mid 27 _ _ rfl T6 0 ([.int .u64 r.x0, .int .u64 r.x1, .int .u64 r.x2, .int .u64 r.x3]).toArray (by rfl) (by rfl) TH.out i4_s (one4 r) ?_
  have FQ := hidden (HQ.out b _ (HH.out.trans (gb_setCells T6 _ 0 _)) (World.rangeAt_setCells_same _ T6 0 _ TH.out))
  refine hK.out _ _ (HH.out.trans (gb_setCells T6 _ 0 _)) (fun hF => ?_)
  clear hK K HH
  refine wpAnyH_done (by kernel_rfl) ?_ _
  refine NoPanic.normal ?_
  exact FQ.out
end Go.Proofs.YtpblcnefihhhoaaDoor
namespace Go.Proofs.YtpblcnefihhhoaaDoor
open Go.RowKit
set_option linter.unusedVariables false
def op1o : Array Oper := #[{ dst := some 8, op := Op.load 27 (Operand.tmp 3), type := 27, pos := "powers.go:11", after := #[], guard := none },
  { dst := some 9, op := Op.load 23 (Operand.tmp 2), type := 23, pos := "powers.go:11", after := #[], guard := none },
  { dst := some 10, op := Op.call { callee := Callee.value (Operand.func 14), args := #[Operand.tmp 9], argTypes := #[23] }, type := 3, pos := "powers.go:11", after := #[{ on := 1, ground := Ground.data }], guard := none },
  { dst := some 11, op := Op.call { callee := Callee.value (Operand.func 61), args := #[Operand.tmp 8, Operand.tmp 10], argTypes := #[27, 3] }, type := 50, pos := "powers.go:11", after := #[{ on := 0, ground := Ground.data }, { on := 2, ground := Ground.data }, { on := 2, ground := Ground.chain }], guard := none },
  { dst := some 7, op := Op.move (Operand.tmp 11), type := 50, pos := "powers.go:11", after := #[{ on := 3, ground := Ground.data }], guard := none },
  { dst := some 12, op := Op.extract (Operand.tmp 7) 0, type := 28, pos := "powers.go:11", after := #[{ on := 4, ground := Ground.data }], guard := none },
  { dst := some 13, op := Op.extract (Operand.tmp 7) 1, type := 31, pos := "powers.go:11", after := #[{ on := 4, ground := Ground.data }, { on := 7, ground := Ground.gcOnly Departure.lateStores }], guard := none },
  { dst := some 5, op := Op.assign (Operand.tmp 12), type := 28, pos := "powers.go:11", after := #[{ on := 5, ground := Ground.data }, { on := 3, ground := Ground.chain }, { on := 0, ground := Ground.phase }, { on := 1, ground := Ground.phase }, { on := 2, ground := Ground.phase }, { on := 3, ground := Ground.phase }, { on := 4, ground := Ground.phase }, { on := 5, ground := Ground.phase }, { on := 6, ground := Ground.textOnly Departure.lateStores }], guard := none },
  { dst := some 6, op := Op.assign (Operand.tmp 13), type := 31, pos := "powers.go:11", after := #[{ on := 6, ground := Ground.data }, { on := 7, ground := Ground.chain }, { on := 0, ground := Ground.phase }, { on := 1, ground := Ground.phase }, { on := 2, ground := Ground.phase }, { on := 3, ground := Ground.phase }, { on := 4, ground := Ground.phase }, { on := 5, ground := Ground.phase }, { on := 6, ground := Ground.phase }, { on := 7, ground := Ground.phase }], guard := none }]
set_option maxRecDepth 100000 in
set_option maxHeartbeats 16000000 in
theorem op1 (Q : Exit → Act → World → Prop) (T2 T3 n B C : Nat) (g : Nat → E4) (y : E4) (u0 u1 u4 u5 u6 u7 u8 u9 u10 u11 u12 u13 u14 : Value) (W : World)
    (cy0 : W.cell? ⟨T3, 0, none⟩ = some (.int .u64 y.x0)) (cy1 : W.cell? ⟨T3, 1, none⟩ = some (.int .u64 y.x1)) (cy2 : W.cell? ⟨T3, 2, none⟩ = some (.int .u64 y.x2)) (cy3 : W.cell? ⟨T3, 3, none⟩ = some (.int .u64 y.x3)) (cp0 : W.cell? ⟨T2, 0, none⟩ = some (.int .i64 (B : Int))) (cp1 : W.cell? ⟨T2, 1, none⟩ = some (.int .i64 (C : Int)))
    (C2 : Hid (∀ x, Calls Tryd.prog 14 #[.agg #[.int .i64 (B : Int), .int .i64 (C : Int)]] x fun e w' => e = .returned (.int .i64 (n : Int)) ∧ Below x.heap.size x w'))
    (C3 : Hid (∀ x, Below W.heap.size W x → Calls Tryd.prog 61 #[.agg #[.int .u64 y.x0, .int .u64 y.x1, .int .u64 y.x2, .int .u64 y.x3], .int .i64 (n : Int)] x fun e w' => ∃ b : Nat, e = .returned (.tuple #[.slice (some ⟨b, 0, none⟩) n n, .int .i64 0]) ∧ x.heap.size ≤ b ∧ Rws w' b n g ∧ Below x.heap.size x w'))
    (HQ : Hid (∀ b wz, Below W.heap.size W wz → Rws wz b n g → Q .normal ⟨#[u0, u1, .pointer (some ⟨T2, 0, none⟩), .pointer (some ⟨T3, 0, none⟩), u4, .slice (some ⟨b, 0, none⟩) n n, .int .i64 0, .tuple #[.slice (some ⟨b, 0, none⟩) n n, .int .i64 0], .agg #[.int .u64 y.x0, .int .u64 y.x1, .int .u64 y.x2, .int .u64 y.x3], .agg #[.int .i64 (B : Int), .int .i64 (C : Int)], .int .i64 (n : Int), .tuple #[.slice (some ⟨b, 0, none⟩) n n, .int .i64 0], .slice (some ⟨b, 0, none⟩) n n, .int .i64 0, u14], []⟩ wz)) : (Code.region 1 op1o true).wp Tryd.prog Q ⟨#[u0, u1, .pointer (some ⟨T2, 0, none⟩), .pointer (some ⟨T3, 0, none⟩), u4, u5, u6, u7, u8, u9, u10, u11, u12, u13, u14], []⟩ W := by
  unfold op1o
  refine wp_region_noPanic ?_
  refine wp_region_held_drew (S := fun x => Below W.heap.size W x) (by kernel_rfl) (bl_drew W) (fun hH0 => ?_)
  refine wpAnyH_take (i := 0) (oi := { dst := some 8, op := Op.load 27 (Operand.tmp 3), type := 27, pos := "powers.go:11", after := #[], guard := none }) (v := .agg #[.int .u64 y.x0, .int .u64 y.x1, .int .u64 y.x2, .int .u64 y.x3]) rfl (by kernel_rfl) (by kernel_rfl) (by kernel_rfl) (fun _ _ _ h => h) (Or.inl ⟨by rfl, fun w0 hSw => ?_⟩) hH0 ?_
  · (have hS : Below W.heap.size W w0 := hSw; have a0 := cell_keep cy0 hS; have a1 := cell_keep cy1 hS; have a2 := cell_keep cy2 hS; have a3 := cell_keep cy3 hS; clear hS hSw; go_simp)
  simp only [Act.put, List.setIfInBounds_toArray, List.set_cons_zero, List.set_cons_succ]
  refine wpAnyH_take (i := 1) (oi := { dst := some 9, op := Op.load 23 (Operand.tmp 2), type := 23, pos := "powers.go:11", after := #[], guard := none }) (v := .agg #[.int .i64 (B : Int), .int .i64 (C : Int)]) rfl (by kernel_rfl) (by kernel_rfl) (by kernel_rfl) (fun _ _ _ h => h) (Or.inl ⟨by rfl, fun w0 hSw => ?_⟩) hH0 ?_
  · (have hS : Below W.heap.size W w0 := hSw; have a0 := cell_keep cp0 hS; have a1 := cell_keep cp1 hS; clear hS hSw; go_simp)
  simp only [Act.put, List.setIfInBounds_toArray, List.set_cons_zero, List.set_cons_succ]
  refine wpAnyH_ready (rs := [2]) (by kernel_rfl) (by simp) ?_
  refine AllReadyH.cons (o := { dst := some 10, op := Op.call { callee := Callee.value (Operand.func 14), args := #[Operand.tmp 9], argTypes := #[23] }, type := 3, pos := "powers.go:11", after := #[{ on := 1, ground := Ground.data }], guard := none }) rfl (fun K hK => ?_) AllReadyH.nil
  have HH := hidden hH0
  clear hH0
  go_simp
  refine (C2.out _).mono ?_
  rintro e wn1 ⟨rfl, hb⟩
  have SN := hidden (bl_trans HH.out hb)
  clear HH hb C2
  go_wp2_with fail
  refine hK.out _ _ SN.out (fun hH1 => ?_)
  clear hK K SN
  refine wpAnyH_ready (rs := [3]) (by kernel_rfl) (by simp) ?_
  refine AllReadyH.cons (o := { dst := some 11, op := Op.call { callee := Callee.value (Operand.func 61), args := #[Operand.tmp 8, Operand.tmp 10], argTypes := #[27, 3] }, type := 50, pos := "powers.go:11", after := #[{ on := 0, ground := Ground.data }, { on := 2, ground := Ground.data }, { on := 2, ground := Ground.chain }], guard := none }) rfl (fun K hK => ?_) AllReadyH.nil
  have HH := hidden hH1
  clear hH1
  go_simp
  refine (C3.out _ HH.out).mono ?_
  rintro e wn2 ⟨b, rfl, hg, hr, hb⟩
  have RW := hidden (hr)
  have SN := hidden (bl_trans HH.out hb)
  clear HH hb C3 hr hg
  go_wp2_with fail
  refine hK.out _ _ SN.out (fun hH2 => ?_)
  clear hK K SN
  refine wpAnyH_take (i := 4) (oi := { dst := some 7, op := Op.move (Operand.tmp 11), type := 50, pos := "powers.go:11", after := #[{ on := 3, ground := Ground.data }], guard := none }) (v := .tuple #[.slice (some ⟨b, 0, none⟩) n n, .int .i64 0]) rfl (by kernel_rfl) (by kernel_rfl) (by kernel_rfl) (fun _ _ _ h => h) (Or.inl ⟨by rfl, fun w0 hSw => ?_⟩) hH2 ?_
  · (clear hSw; go_simp)
  simp only [Act.put, List.setIfInBounds_toArray, List.set_cons_zero, List.set_cons_succ]
  refine wpAnyH_take (i := 5) (oi := { dst := some 12, op := Op.extract (Operand.tmp 7) 0, type := 28, pos := "powers.go:11", after := #[{ on := 4, ground := Ground.data }], guard := none }) (v := .slice (some ⟨b, 0, none⟩) n n) rfl (by kernel_rfl) (by kernel_rfl) (by kernel_rfl) (fun _ _ _ h => h) (Or.inl ⟨by rfl, fun w0 hSw => ?_⟩) hH2 ?_
  · (clear hSw; go_simp)
  simp only [Act.put, List.setIfInBounds_toArray, List.set_cons_zero, List.set_cons_succ]
  refine wpAnyH_take (i := 6) (oi := { dst := some 13, op := Op.extract (Operand.tmp 7) 1, type := 31, pos := "powers.go:11", after := #[{ on := 4, ground := Ground.data }, { on := 7, ground := Ground.gcOnly Departure.lateStores }], guard := none }) (v := .int .i64 0) rfl (by kernel_rfl) (by kernel_rfl) (by kernel_rfl) (fun _ _ _ h => h) (Or.inl ⟨by rfl, fun w0 hSw => ?_⟩) hH2 ?_
  · (clear hSw; go_simp)
  simp only [Act.put, List.setIfInBounds_toArray, List.set_cons_zero, List.set_cons_succ]
  have HH := hidden hH2
  have FQ := hidden (HQ.out b _ HH.out RW.out)
  refine wpAnyH_take (i := 7) (oi := { dst := some 5, op := Op.assign (Operand.tmp 12), type := 28, pos := "powers.go:11", after := #[{ on := 5, ground := Ground.data }, { on := 3, ground := Ground.chain }, { on := 0, ground := Ground.phase }, { on := 1, ground := Ground.phase }, { on := 2, ground := Ground.phase }, { on := 3, ground := Ground.phase }, { on := 4, ground := Ground.phase }, { on := 5, ground := Ground.phase }, { on := 6, ground := Ground.textOnly Departure.lateStores }], guard := none }) (v := .slice (some ⟨b, 0, none⟩) n n) rfl (by kernel_rfl) (by kernel_rfl) (by kernel_rfl) (fun _ _ _ h => h) (Or.inl ⟨by rfl, fun w0 hSw => ?_⟩) hH2 ?_
  · (clear hSw; go_simp)
  simp only [Act.put, List.setIfInBounds_toArray, List.set_cons_zero, List.set_cons_succ]
  refine wpAnyH_take (i := 8) (oi := { dst := some 6, op := Op.assign (Operand.tmp 13), type := 31, pos := "powers.go:11", after := #[{ on := 6, ground := Ground.data }, { on := 7, ground := Ground.chain }, { on := 0, ground := Ground.phase }, { on := 1, ground := Ground.phase }, { on := 2, ground := Ground.phase }, { on := 3, ground := Ground.phase }, { on := 4, ground := Ground.phase }, { on := 5, ground := Ground.phase }, { on := 6, ground := Ground.phase }, { on := 7, ground := Ground.phase }], guard := none }) (v := .int .i64 0) rfl (by kernel_rfl) (by kernel_rfl) (by kernel_rfl) (fun _ _ _ h => h) (Or.inl ⟨by rfl, fun w0 hSw => ?_⟩) hH2 ?_
  · (clear hSw; go_simp)
  simp only [Act.put, List.setIfInBounds_toArray, List.set_cons_zero, List.set_cons_succ]
  refine wpAnyH_done (by kernel_rfl) ?_ _
  refine NoPanic.normal ?_
  exact FQ.out
set_option maxRecDepth 100000 in
set_option maxHeartbeats 8000000 in
theorem ofPlaces_any (B C n : Nat) (hn : B * C = n) (hB : B ≤ 64) (hC : C ≤ 16) (y : E4) (hy : y.ok) (w : World) (hT : Tb w) :
    Calls Tryd.prog 39 #[.agg #[.int .i64 (B : Int), .int .i64 (C : Int)], y.v] w fun e w' => ∃ b : Nat, e = .returned (.slice (some ⟨b, 0, none⟩) n n) ∧ Rws w' b n (fun k => lst (y.n ^ k)) ∧ Below w.heap.size w w' := by
  have hle : B * C ≤ 64 * 16 := Nat.mul_le_mul hB hC
  have SZ := hidden (fun w => Size_any B C n hn hB hC w)
  have M0 := (Mw.start w).new [.int .i64 (B : Int), .int .i64 (C : Int)] 23
  have M1 := M0.new [.int .u64 y.x0, .int .u64 y.x1, .int .u64 y.x2, .int .u64 y.x3] 27
  rw [World.size_alloc] at M1
  have MM := hidden M1
  have HT := hidden hT
  have PO := hidden (fun x T => Powers_in y n x T hy (by omega))
  simp only [E4.v] at PO
  clear M0 M1 hn hB hC hle hy hT
  unfold E4.v
  go_enter Tryd.func39, Tryd.ntmps39
  go_upto_region 1 with fail
  generalize (w.alloc (.cells #[.int .i64 (B : Int), .int .i64 (C : Int)] 23)).alloc (.cells #[.int .u64 y.x0, .int .u64 y.x1, .int .u64 y.x2, .int .u64 y.x3] 27) = w1 at *
  have rP := (MM.out.r (w.heap.size, [.int .i64 (B : Int), .int .i64 (C : Int)]) (by simp)).1
  have rY := (MM.out.r (w.heap.size + 1, [.int .u64 y.x0, .int .u64 y.x1, .int .u64 y.x2, .int .u64 y.x3]) (by simp)).1
  have p0 := rP 0 _ rfl; have p1 := rP 1 _ rfl
  have y0 := rY 0 _ rfl; have y1 := rY 1 _ rfl; have y2 := rY 2 _ rfl; have y3 := rY 3 _ rfl
  simp only [Nat.zero_add] at p0 p1 y0 y1 y2 y3
  refine op1 _ w.heap.size (w.heap.size + 1) n B C (fun k => lst (y.n ^ k)) y _ _ _ _ _ _ _ _ _ _ _ _ _ w1 y0 y1 y2 y3 p0 p1 SZ (hidden (fun x hx => PO.out x (HT.out.keep (bl_trans MM.out.bel hx)))) (hidden ?_)
  intro b wz hb hr
  have HB := hidden (bl_trans MM.out.bel hb)
  have HR := hidden hr
  clear hb hr p0 p1 y0 y1 y2 y3 rP rY MM
  go_wp2_with fail
  refine bodyPost_ret (v := .slice (some ⟨b, 0, none⟩) n n) (by simp [results, Tryd.results39, go_sem]) rfl ⟨b, rfl, HR.out, HB.out⟩
set_option maxRecDepth 100000 in
set_option maxHeartbeats 8000000 in
theorem ofValues_any (B C : Nat) (hC0 : 1 ≤ C) (hC : C ≤ 16) (z : E4) (hz : z.ok) (w : World) (hT : Tb w) :
    Calls Tryd.prog 40 #[.agg #[.int .i64 (B : Int), .int .i64 (C : Int)], z.v] w fun e w' => ∃ b : Nat, e = .returned (.slice (some ⟨b, 8, none⟩) C C) ∧ Rlo w' b 8 C (fun k => lst (z.n ^ (2 + k))) ∧ Below w.heap.size w w' := by
  have M0 := (Mw.start w).new [.int .i64 (B : Int), .int .i64 (C : Int)] 23
  have M1 := M0.new [.int .u64 z.x0, .int .u64 z.x1, .int .u64 z.x2, .int .u64 z.x3] 27
  rw [World.size_alloc] at M1
  have MM := hidden M1
  have HT := hidden hT
  obtain ⟨m, hm⟩ : ∃ m, 2 + C = m := ⟨_, rfl⟩
  have PO := hidden (fun x T => Powers_in z m x T hz (by omega))
  simp only [E4.v] at PO
  have w1 : IntKind.i64.wrap (2 + (C : Int)) = (m : Int) := by rw [IntWalk.i64_in _ (by omega)]; omega
  have s1 : (2 : Int) ≤ (m : Int) := by omega
  have s2 : ¬ m = 2 := by omega
  have s3 : m - 2 = C := by omega
  have HM := hidden hm
  clear M0 M1 hC hC0 hz hT hm
  unfold E4.v
  go_enter Tryd.func40, Tryd.ntmps40
  go_upto_region 1 with fail
  generalize (w.alloc (.cells #[.int .i64 (B : Int), .int .i64 (C : Int)] 23)).alloc (.cells #[.int .u64 z.x0, .int .u64 z.x1, .int .u64 z.x2, .int .u64 z.x3] 27) = w1 at *
  have rP := (MM.out.r (w.heap.size, [.int .i64 (B : Int), .int .i64 (C : Int)]) (by simp)).1
  have rY := (MM.out.r (w.heap.size + 1, [.int .u64 z.x0, .int .u64 z.x1, .int .u64 z.x2, .int .u64 z.x3]) (by simp)).1
  have p0 := rP 0 _ rfl; have p1 := rP 1 _ rfl
  have y0 := rY 0 _ rfl; have y1 := rY 1 _ rfl; have y2 := rY 2 _ rfl; have y3 := rY 3 _ rfl
  simp only [Nat.zero_add] at p0 p1 y0 y1 y2 y3
  clear rP rY
  go_wp2_with (first | (go_at_call 61; refine (PO.out _ (HT.out.keep MM.out.bel)).mono ?_; rintro e wz ⟨b, rfl, hg, hr, hb⟩; have HB := hidden (bl_trans MM.out.bel hb); have HR := hidden hr; clear hg hr hb MM PO))
  refine bodyPost_ret (v := .slice (some ⟨b, 8, none⟩) C C) (by simp [results, Tryd.results40, go_sem]) rfl ⟨b, rfl, HR.out.part 2 C (by have := HM.out; omega), HB.out⟩
end Go.Proofs.YtpblcnefihhhoaaDoor
namespace Go.Proofs.YtpblcnefihhhoaaDoor
open Go.RowKit
set_option linter.unusedVariables false
/-- a sum of numbers -/
def sm (f : Nat → Int) : Nat → Int
  | 0 => 0
  | n + 1 => sm f n + f n
theorem lst_sub' (n m : Int) : lst (n - (lst m).n) = lst (n - m) := lst_congr (by rw [lst_n, Int.sub_emod, emod_emod_L, ← Int.sub_emod])
theorem lst_mul2 (n m : Int) : lst ((lst n).n * (lst m).n) = lst (n * m) := by rw [lst_mul, lst_mul']
theorem lst_sub2 (n m : Int) : lst ((lst n).n - (lst m).n) = lst (n - m) := by rw [lst_sub, lst_sub']
theorem sn_lst (f : Nat → Int) : ∀ n, lst (sn (fun k => lst (f k)) n) = lst (sm f n)
  | 0 => rfl
  | n + 1 => by
    show lst (sn (fun k => lst (f k)) n + (lst (f n)).n) = lst (sm f n + f n)
    rw [lst_add', ← lst_add (sn _ n), sn_lst f n, lst_add]
theorem sm_mul (f : Nat → Int) (k : Int) : ∀ n, sm (fun i => f i * k) n = sm f n * k
  | 0 => by simp [sm]
  | n + 1 => by simp only [sm]; rw [sm_mul f k n, Int.add_mul]
theorem sm_congr {f g : Nat → Int} (h : ∀ k, f k = g k) (n : Nat) : sm f n = sm g n := by rw [show f = g from funext h]
theorem sm_two : ∀ B, sm (fun k => 2 ^ k) B = 2 ^ B - 1
  | 0 => by simp [sm]
  | B + 1 => by simp only [sm]; rw [sm_two B, Int.pow_succ]; omega
/-- Delta as a whole number -/
def dw (B C n : Nat) (Y Z : Int) : Int := (Z - Z * Z) * sm (fun k => Y ^ k) n - sm (fun j => Z ^ (3 + j) * (2 ^ B - 1)) C
theorem dw_is (B C n : Nat) (Y Z : Int) :
    lst ((lst ((lst (Z - (lst (Z * Z)).n)).n * (lst (sn (fun k => lst (Y ^ k)) n)).n)).n - (lst ((lst ((lst (sn (fun k => lst (Z ^ (2 + k))) C)).n * Z)).n * (lst (2 ^ B - 1)).n)).n) = lst (dw B C n Y Z) := by
  rw [lst_sub' Z (Z * Z), sn_lst, sn_lst, lst_mul2, lst_mul (sm _ C) Z, lst_mul2, lst_sub2]
  congr 1
  unfold dw
  rw [show sm (fun j => Z ^ (3 + j) * (2 ^ B - 1)) C = sm (fun k => Z ^ (2 + k)) C * Z * (2 ^ B - 1) by
    rw [← sm_mul, ← sm_mul]; exact sm_congr (fun k => by rw [show 3 + k = 2 + k + 1 by omega, Int.pow_succ]) C]
end Go.Proofs.YtpblcnefihhhoaaDoor
namespace Go.Proofs.YtpblcnefihhhoaaDoor
open Go.RowKit
set_option linter.unusedVariables false
theorem Tb.keep0 {w w' : World} {b : Nat} (h : Tb w) (hg : w.grownBy w' (some b)) (hb : 0 ≠ b) : Tb w' := by
  have k : ∀ {j : Nat} {v : Value}, w.cell? ⟨0, j, none⟩ = some v → w'.cell? ⟨0, j, none⟩ = some v := fun hc => hg.cell hc (fun e => hb (Option.some.inj e))
  obtain ⟨h0, h1, h2, h3, h4, h5, h6, h7, h8, h9, h10, h11⟩ := h
  exact ⟨k h0, k h1, k h2, k h3, k h4, k h5, k h6, k h7, k h8, k h9, k h10, k h11⟩
theorem Rws.all {w : World} {b n : Nat} {g : Nat → E4} (h : Rws w b n g) : Rlo w b 0 n g := by have := h.part 0 n (by omega); simpa using this
theorem Mw.add {w0 : World} {L : List (Nat × List Value)} {w : World} (h : Mw w0 L w) {c : Nat} {cs : List Value} (hr : w.rangeAt c 0 cs) (ht : w.there c 0 cs.length) (hc : w0.heap.size ≤ c) (hl : c < w.heap.size) : Mw w0 ((c, cs) :: L) w := ⟨h.bel, fun p hp => by
  rcases List.mem_cons.1 hp with rfl | hp
  · exact ⟨hr, ht, hc, hl⟩
  · exact h.r p hp⟩
theorem two_bd (B : Nat) (hB : B ≤ 64) : (1 : Int) ≤ 2 ^ B ∧ (2 : Int) ^ B ≤ 18446744073709551616 := by
  have e : ((2 : Int) ^ B) = ((2 ^ B : Nat) : Int) := by simp
  have h1 : 0 < 2 ^ B := Nat.pow_pos (by omega)
  have h2 : 2 ^ B ≤ 2 ^ 64 := Nat.pow_le_pow_right (by omega) hB
  rw [e]
  omega
theorem two_wrap (B : Nat) (hB : B ≤ 64) : IntKind.u64.wrap (IntKind.u64.wrap ((2 : Int) ^ B) - 1) = 2 ^ B - 1 := by
  by_cases h64 : B = 64
  · subst h64; decide
  · have e : ((2 : Int) ^ B) = ((2 ^ B : Nat) : Int) := by simp
    have h2 : 2 ^ B < 2 ^ 64 := Nat.pow_lt_pow_right (by omega) (by omega)
    have h1 := two_bd B hB
    rw [e] at h1 ⊢
    rw [IntWalk.u64_in ((2 ^ B : Nat) : Int) (by omega), IntWalk.u64_in _ (by omega)]
set_option maxRecDepth 100000 in
set_option maxHeartbeats 8000000 in
theorem delta_any (B C n : Nat) (hn : B * C = n) (hB0 : 1 ≤ B) (hB : B ≤ 64) (hC0 : 1 ≤ C) (hC : C ≤ 16) (y z : E4) (hy : y.ok) (hz : z.ok) (w : World) (hT : Tb w) :
    Calls Tryd.prog 22 #[.agg #[.int .i64 (B : Int), .int .i64 (C : Int)], y.v, z.v] w fun e w' => e = .returned (lst (dw B C n y.n z.n)).v ∧ Below w.heap.size w w' := by
  have hle : B * C ≤ 64 * 16 := Nat.mul_le_mul hB hC
  have M0 := (Mw.start w).new [.int .i64 (B : Int), .int .i64 (C : Int)] 23
  have M1 := M0.new [.int .u64 y.x0, .int .u64 y.x1, .int .u64 y.x2, .int .u64 y.x3] 27
  rw [World.size_alloc] at M1
  have M2 := M1.new [.int .u64 z.x0, .int .u64 z.x1, .int .u64 z.x2, .int .u64 z.x3] 27
  simp only [World.size_alloc] at M2
  have M3 := M2.new [.int .u64 0, .int .u64 0, .int .u64 0, .int .u64 0] 27
  simp only [World.size_alloc] at M3
  have MM := hidden M3
  clear M0 M1 M2 M3
  have HT := hidden hT
  have h0 := World.block_lt_of_cell? w _ hT.1
  have mk : min B 64 = B := by omega
  have hM : (0 : Int) ≤ 2 ^ B - 1 ∧ (2 : Int) ^ B - 1 < 18446744073709551616 := by have := two_bd B hB; omega
  obtain ⟨e, he⟩ : ∃ e, IntKind.u64.wrap ((2 : Int) ^ B) = e := ⟨_, rfl⟩
  have he2 : IntKind.u64.wrap (e - 1) = 2 ^ B - 1 := by rw [← he]; exact two_wrap B hB
  obtain ⟨M, hMM⟩ : ∃ M : Int, 2 ^ B - 1 = M := ⟨_, rfl⟩
  rw [hMM] at he2 hM
  have IN := hidden (fun x => fix (Int_any M x ⟨hM.1, hM.2⟩) (show lst M = lst M from rfl))
  obtain ⟨m, hm⟩ : ∃ m, lst M = m := ⟨_, rfl⟩
  rw [hm] at IN
  simp only [E4.v] at IN
  clear mk
  unfold E4.v
  go_enter Tryd.func22, Tryd.ntmps22
  go_upto_region 1 with fail
  generalize (((w.alloc (.cells #[.int .i64 (B : Int), .int .i64 (C : Int)] 23)).alloc (.cells #[.int .u64 y.x0, .int .u64 y.x1, .int .u64 y.x2, .int .u64 y.x3] 27)).alloc (.cells #[.int .u64 z.x0, .int .u64 z.x1, .int .u64 z.x2, .int .u64 z.x3] 27)).alloc (.cells #[.int .u64 0, .int .u64 0, .int .u64 0, .int .u64 0] 27) = w4 at *
  have x0 := (MM.out.r (w.heap.size, [.int .i64 (B : Int), .int .i64 (C : Int)]) (by simp)).1 0 _ rfl
  simp only [Nat.zero_add] at x0
  have HS : Hid (Sm.Wd M) := hidden ⟨hM.1, hM.2⟩
  clear hM hle
  go_upto_region 2 with (first | (go_at_call 35; refine (IN.out _).mono ?_; rintro e wa ⟨rfl, hb⟩; have MA := hidden ((MM.out.keep hb).new [.int .u64 m.x0, .int .u64 m.x1, .int .u64 m.x2, .int .u64 m.x3] 27); have HL4 := hidden (Nat.lt_of_lt_of_le (MM.out.r (w.heap.size + 1 + 1 + 1, [.int .u64 0, .int .u64 0, .int .u64 0, .int .u64 0]) (by simp)).2.2.2 hb.size); clear hb MM x0 IN))
  have HLT : Hid (w.heap.size + 1 + 1 + 1 < wa.heap.size) := hidden (by
    have h1 := (MA.out.r (w.heap.size + 1 + 1 + 1, [.int .u64 0, .int .u64 0, .int .u64 0, .int .u64 0]) (by simp)).2.2.2
    have h2 := HL4.out
    omega)
  generalize wa.alloc (.cells #[.int .u64 m.x0, .int .u64 m.x1, .int .u64 m.x2, .int .u64 m.x3] 27) = w5 at *
  generalize wa.heap.size = T7 at *
  have M5 := hidden MA.out
  have r_cp := (M5.out.r (w.heap.size, [.int .i64 (B : Int), .int .i64 (C : Int)]) (by simp)).1
  have cp0 := r_cp 0 _ rfl
  have cp1 := r_cp 1 _ rfl
  have r_cy := (M5.out.r (w.heap.size + 1, [.int .u64 y.x0, .int .u64 y.x1, .int .u64 y.x2, .int .u64 y.x3]) (by simp)).1
  have cy0 := r_cy 0 _ rfl
  have cy1 := r_cy 1 _ rfl
  have cy2 := r_cy 2 _ rfl
  have cy3 := r_cy 3 _ rfl
  have r_cz := (M5.out.r (w.heap.size + 1 + 1, [.int .u64 z.x0, .int .u64 z.x1, .int .u64 z.x2, .int .u64 z.x3]) (by simp)).1
  have cz0 := r_cz 0 _ rfl
  have cz1 := r_cz 1 _ rfl
  have cz2 := r_cz 2 _ rfl
  have cz3 := r_cz 3 _ rfl
  simp only [Nat.zero_add] at cp0 cp1 cy0 cy1 cy2 cy3 cz0 cz1 cz2 cz3
  clear r_cp r_cy r_cz
  have TT : Hid (∀ x, Below w5.heap.size w5 x → Tb x) := hidden (fun x hx => HT.out.keep (bl_trans M5.out.bel hx))
  obtain ⟨zz, hzz⟩ : ∃ u, lst (z.n * z.n) = u := ⟨_, rfl⟩
  obtain ⟨s1, hs1⟩ : ∃ u, lst (z.n - zz.n) = u := ⟨_, rfl⟩
  obtain ⟨ys, hys⟩ : ∃ u, lst (sn (fun k => lst (y.n ^ k)) n) = u := ⟨_, rfl⟩
  obtain ⟨p, hp⟩ : ∃ u, lst (s1.n * ys.n) = u := ⟨_, rfl⟩
  obtain ⟨sv, hsv⟩ : ∃ u, lst (sn (fun k => lst (z.n ^ (2 + k))) C) = u := ⟨_, rfl⟩
  obtain ⟨sz, hsz⟩ : ∃ u, lst (sv.n * z.n) = u := ⟨_, rfl⟩
  obtain ⟨sx, hsx⟩ : ∃ u, lst (sz.n * m.n) = u := ⟨_, rfl⟩
  obtain ⟨r, hr⟩ : ∃ u, lst (p.n - sx.n) = u := ⟨_, rfl⟩
  have FIN : Hid (lst (dw B C n y.n z.n) = r) := hidden (by rw [← dw_is, hMM, hm, hzz, hs1, hys, hp, hsv, hsz, hsx, hr])
  have okL : ∀ {u : E4} {k : Int}, lst k = u → u.ok := fun h => by rw [← h]; exact lst_ok _
  have gy : ∀ k, k < n → ((fun k => lst (y.n ^ k)) k).ok := fun k _ => lst_ok _
  have gv : ∀ k, k < C → ((fun k => lst (z.n ^ (2 + k))) k).ok := fun k _ => lst_ok _
  have n4 : n ≤ 4096 := by have := Nat.mul_le_mul hB hC; omega
  refine de2 _ w.heap.size (w.heap.size + 1) (w.heap.size + 1 + 1) n B C (fun k => lst (y.n ^ k)) z y zz s1 ys p _ _ _ _ _ _ _ _ _ _ _ _ _ _ _ _ _ _ _ _ _ _ _ _ _ _ _ _ _ _ _ w5 cz0 cz1 cz2 cz3 cy0 cy1 cy2 cy3 cp0 cp1
    (hidden (fun x hx => fix (Mul_any z z x (TT.out x hx) hz hz) hzz)) (hidden (fun x hx => fix (Sub_any z zz x (TT.out x hx) hz (okL hzz)) hs1)) (hidden (fun x hx => ofPlaces_any B C n hn hB hC y hy x (TT.out x hx))) (hidden (fun x b hx hr => by rw [← hys]; exact Sum_in b 0 n n _ x (TT.out x hx) gy n4 hr.all)) (hidden (fun x hx => fix (Mul_any s1 ys x (TT.out x hx) (okL hs1) (okL hys)) hp)) (hidden ?_)
  intro A b wz hA hbz hrz htz
  have M7 := hidden ((M5.out.keep hbz).add (c := A) (cs := [.int .u64 p.x0, .int .u64 p.x1, .int .u64 p.x2, .int .u64 p.x3]) hrz htz (Nat.le_trans M5.out.bel.size hA) (World.block_lt_of_cell? wz ⟨A, 0 + 0, none⟩ (hrz 0 _ rfl)))
  have HA : Hid (w.heap.size + 1 + 1 + 1 < A) := hidden (by have := (M5.out.r (w.heap.size + 1 + 1 + 1, [.int .u64 0, .int .u64 0, .int .u64 0, .int .u64 0]) (by simp)).2.2.2; omega)
  have T8Q := hidden (HT.out.keep M7.out.bel)
  clear cp0 cp1 cy0 cy1 cy2 cy3 cz0 cz1 cz2 cz3 hA hbz hrz htz M5 MA TT
  generalize A = T8 at *
  go_upto_region 3 with fail
  have r_cp := (M7.out.r (w.heap.size, [.int .i64 (B : Int), .int .i64 (C : Int)]) (by simp)).1
  have cp0 := r_cp 0 _ rfl
  have cp1 := r_cp 1 _ rfl
  have r_cz := (M7.out.r (w.heap.size + 1 + 1, [.int .u64 z.x0, .int .u64 z.x1, .int .u64 z.x2, .int .u64 z.x3]) (by simp)).1
  have cz0 := r_cz 0 _ rfl
  have cz1 := r_cz 1 _ rfl
  have cz2 := r_cz 2 _ rfl
  have cz3 := r_cz 3 _ rfl
  have r_cm := (M7.out.r (T7, [.int .u64 m.x0, .int .u64 m.x1, .int .u64 m.x2, .int .u64 m.x3]) (by simp)).1
  have cm0 := r_cm 0 _ rfl
  have cm1 := r_cm 1 _ rfl
  have cm2 := r_cm 2 _ rfl
  have cm3 := r_cm 3 _ rfl
  have r_ck := (M7.out.r (T8, [.int .u64 p.x0, .int .u64 p.x1, .int .u64 p.x2, .int .u64 p.x3]) (by simp)).1
  have ck0 := r_ck 0 _ rfl
  have ck1 := r_ck 1 _ rfl
  have ck2 := r_ck 2 _ rfl
  have ck3 := r_ck 3 _ rfl
  simp only [Nat.zero_add] at cp0 cp1 cz0 cz1 cz2 cz3 cm0 cm1 cm2 cm3 ck0 ck1 ck2 ck3
  clear r_cp r_cz r_cm r_ck
  have tz := (M7.out.r (w.heap.size + 1 + 1 + 1, [.int .u64 0, .int .u64 0, .int .u64 0, .int .u64 0]) (by simp)).2.1
  have TT : Hid (∀ x, wz.grownBy x (some (w.heap.size + 1 + 1 + 1)) → Tb x) := hidden (fun x hx => T8Q.out.keep0 hx (by omega))
  refine de3 _ w.heap.size (w.heap.size + 1 + 1) (w.heap.size + 1 + 1 + 1) T7 T8 B C (fun k => lst (z.n ^ (2 + k))) z p m sv sz sx r _ _ _ _ _ _ _ _ _ _ _ _ _ _ _ _ _ _ _ _ _ _ _ _ _ _ _ _ _ wz (by omega) (by omega) (by have := HA.out; omega) (by have := HLT.out; omega) tz cz0 cz1 cz2 cz3 ck0 ck1 ck2 ck3 cm0 cm1 cm2 cm3 cp0 cp1
    (hidden (fun x hx => ofValues_any B C hC0 hC z hz x (TT.out x hx))) (hidden (fun x b hx hr => by rw [← hsv]; exact Sum_in b 8 C C _ x (TT.out x hx) gv (by omega) hr)) (hidden (fun x hx => fix (Mul_any sv z x (TT.out x hx) (okL hsv) hz) hsz)) (hidden (fun x hx => fix (Mul_any sz m x (TT.out x hx) (okL hsz) (okL hm)) hsx)) (hidden (fun x hx => fix (Sub_any p sx x (TT.out x hx) (okL hp) (okL hsx)) hr)) (hidden ?_)
  intro b2 wf hg hrf
  have BX := M7.out.bel
  have BF := hidden (BX.grown hg BX.size (fun j hj => by obtain rfl := Option.some.inj hj; omega))
  have LD := hidden (run_loadVar_mid (P := Tryd.prog) wf (w.heap.size + 1 + 1 + 1) 0 27 [.int .u64 r.x0, .int .u64 r.x1, .int .u64 r.x2, .int .u64 r.x3] _ hrf Tryd.underlying27 rfl i4_s)
  clear cp0 cp1 cz0 cz1 cz2 cz3 cm0 cm1 cm2 cm3 ck0 ck1 ck2 ck3 hg hrf BX tz TT M7
  go_wp2_with fail
  refine bodyPost_ret (v := .agg [.int .u64 r.x0, .int .u64 r.x1, .int .u64 r.x2, .int .u64 r.x3].toArray) (results_cellM Tryd.results22 _ _ _ _ _ (by rfl) LD.out) rfl ⟨by rw [FIN.out], BF.out⟩
end Go.Proofs.YtpblcnefihhhoaaDoor
