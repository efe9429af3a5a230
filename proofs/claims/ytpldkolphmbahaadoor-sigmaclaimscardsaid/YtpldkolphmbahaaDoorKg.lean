import Derived.Test.YtpldkolphmbahaaDoorKf
namespace Go.Proofs.YtpldkolphmbahaaDoor
open Go.RowKit
set_option linter.unusedVariables false
/-- the cells of no set -/
def zs : List Value := .int .i64 0 :: (ze ++ (ze ++ (ze ++ [.slice none 0 0, .slice none 0 0])))
theorem sinfo81 : (Tryd.prog.info? 44).map (·.size) = some 81 := by kernel_rfl
theorem zv81 (w : World) : (zeroValue 44).run Tryd.prog w = .ok (.agg zs.toArray) w := by kernel_rfl
theorem s81_len (b f : E4) : (s81 b f).length = 81 := rfl
theorem s81_one (b f : E4) : (s81 b f).toArray.all (·.oneCell') = true := by simp [s81, el, ze, Value.oneCell']
theorem s81_built (b f : E4) : Tryd.prog.built 44 [(0, .int .i64 2), (1, .agg (el b).toArray), (2, .agg (el f).toArray)] = some (s81 b f).toArray := by kernel_rfl

theorem wp_alloc81 {o : Oper} {a : Act} {w : World} {K : Act → World → Prop} {Q : Exit → Act → World → Prop} (ho : o.op = .alloc 44) (h : K (a.put o.dst (.pointer (some ⟨w.heap.size, 0, none⟩))) (w.alloc (.cells zs.toArray 44))) : o.wp Tryd.prog a w K Q := by
  have hz := zv81 w
  generalize zs = z at hz h
  unfold Oper.wp execOp
  simp [ho, Instr.alloc, hz]
  exact h
def sc2o : Array Oper := #[{ dst := some 20, op := Op.load 24 (Operand.tmp 4), type := 24, pos := "law.go:505", after := #[], guard := none },
  { dst := some 21, op := Op.call { callee := Callee.value (Operand.func 5), args := #[Operand.tmp 20], argTypes := #[24] }, type := 36, pos := "law.go:505", after := #[{ on := 0, ground := Ground.data }], guard := none },
  { dst := some 22, op := Op.call { callee := Callee.value (Operand.func 4), args := #[Operand.tmp 21], argTypes := #[36] }, type := 39, pos := "law.go:505", after := #[{ on := 1, ground := Ground.data }, { on := 1, ground := Ground.chain }], guard := none },
  { dst := some 23, op := Op.load 24 (Operand.tmp 5), type := 24, pos := "law.go:505", after := #[], guard := none },
  { dst := some 24, op := Op.call { callee := Callee.value (Operand.func 5), args := #[Operand.tmp 23], argTypes := #[24] }, type := 36, pos := "law.go:505", after := #[{ on := 3, ground := Ground.data }, { on := 2, ground := Ground.chain }], guard := none },
  { dst := some 25, op := Op.call { callee := Callee.value (Operand.func 4), args := #[Operand.tmp 24], argTypes := #[36] }, type := 39, pos := "law.go:505", after := #[{ on := 4, ground := Ground.data }, { on := 4, ground := Ground.chain }], guard := none },
  { dst := some 26, op := Op.build 44 #[(0, Operand.const (Value.int IntKind.i64 2)), (1, Operand.tmp 22), (2, Operand.tmp 25)], type := 44, pos := "law.go:505", after := #[{ on := 2, ground := Ground.data }, { on := 5, ground := Ground.data }], guard := none },
  { dst := some 10, op := Op.alloc 44, type := 0, pos := "law.go:505", after := #[], guard := none },
  { dst := none, op := Op.store 44 (Operand.tmp 10) (Operand.tmp 26), type := 0, pos := "law.go:505", after := #[{ on := 7, ground := Ground.data }, { on := 6, ground := Ground.data }, { on := 5, ground := Ground.chain }, { on := 0, ground := Ground.phase }, { on := 1, ground := Ground.phase }, { on := 2, ground := Ground.phase }, { on := 3, ground := Ground.phase }, { on := 4, ground := Ground.phase }, { on := 5, ground := Ground.phase }, { on := 6, ground := Ground.phase }, { on := 7, ground := Ground.phase }], guard := none }]
/-- what region 2 looks at -/
def S2 (W : World) (T4 T5 : Nat) (b f : E4) (w : World) : Prop := Below W.heap.size W w ∧ w.cell? ⟨T4, 0, none⟩ = some (.int .u64 b.x0) ∧ w.cell? ⟨T4, 1, none⟩ = some (.int .u64 b.x1) ∧ w.cell? ⟨T4, 2, none⟩ = some (.int .u64 b.x2) ∧ w.cell? ⟨T4, 3, none⟩ = some (.int .u64 b.x3) ∧ w.cell? ⟨T5, 0, none⟩ = some (.int .u64 f.x0) ∧ w.cell? ⟨T5, 1, none⟩ = some (.int .u64 f.x1) ∧ w.cell? ⟨T5, 2, none⟩ = some (.int .u64 f.x2) ∧ w.cell? ⟨T5, 3, none⟩ = some (.int .u64 f.x3)
theorem S2.keep {W : World} {T4 T5 : Nat} {b f : E4} {w w' : World} (h : S2 W T4 T5 b f w) (hb : Below w.heap.size w w') : S2 W T4 T5 b f w' := by
  obtain ⟨h0, h1, h2, h3, h4, h5, h6, h7, h8⟩ := h
  exact ⟨bl_trans h0 hb, cell_keep h1 hb, cell_keep h2 hb, cell_keep h3 hb, cell_keep h4 hb, cell_keep h5 hb, cell_keep h6 hb, cell_keep h7 hb, cell_keep h8 hb⟩
/-- a block that may be written, and its place -/
structure Bw (w : World) (B b : Nat) (cs : List Value) : Prop where
  r : w.rangeAt b 0 cs
  t : w.there b 0 cs.length
  ge : B ≤ b
  lt : b < w.heap.size
theorem Bw.keep {w w' : World} {B b : Nat} {cs : List Value} (h : Bw w B b cs) (hb : Below w.heap.size w w') : Bw w' B b cs := ⟨range_keepM h.r hb, there_keepM h.t hb, h.ge, Nat.lt_of_lt_of_le h.lt hb.size⟩
theorem Bw.new (w : World) (B : Nat) (cs : List Value) (t : TypeId) (hB : B ≤ w.heap.size) : Bw (w.alloc (.cells cs.toArray t)) B w.heap.size cs := ⟨range_newM w cs t, there_newM w cs t, hB, by simp⟩
theorem Bw.set {w : World} {B b : Nat} {cs ds : List Value} (h : Bw w B b cs) (hl : ds.length = cs.length) : Bw (w.setCells b 0 ds) B b ds := by
  have ht : w.there b 0 ds.length := by rw [hl]; exact h.t
  exact ⟨World.rangeAt_setCells_same w b 0 ds ht, there_setM ht _ _, h.ge, by rw [size_setCellsM]; exact h.lt⟩
set_option maxRecDepth 100000 in
set_option maxHeartbeats 16000000 in
theorem sc2 (Q : Exit → Act → World → Prop) (T4 T5 : Nat) (b f rb rf : E4) (u0 u1 u2 u3 u6 u7 u8 u9 u10 u11 u12 u13 u14 u15 u16 u17 u18 u19 u20 u21 u22 u23 u24 u25 u26 u27 u28 u29 u30 u31 u32 u33 u34 u35 u36 u37 u38 u39 u40 u41 u42 u43 u44 u45 u46 u47 u48 u49 u50 u51 u52 u53 u54 u55 u56 u57 u58 u59 u60 u61 u62 u63 : Value) (W : World) (HS : S2 W T4 T5 b f W)
    (N1 : Hid (∀ x, Calls Tryd.prog 5 #[.agg #[.int .u64 b.x0, .int .u64 b.x1, .int .u64 b.x2, .int .u64 b.x3]] x fun e w' => e = .returned (.agg #[.int .u64 rb.x0, .int .u64 rb.x1, .int .u64 rb.x2, .int .u64 rb.x3]) ∧ Below x.heap.size x w'))
    (L1 : Hid (∀ x, Calls Tryd.prog 4 #[.agg #[.int .u64 rb.x0, .int .u64 rb.x1, .int .u64 rb.x2, .int .u64 rb.x3]] x fun e w' => e = .returned (.agg (el rb).toArray) ∧ Below x.heap.size x w'))
    (N2 : Hid (∀ x, Calls Tryd.prog 5 #[.agg #[.int .u64 f.x0, .int .u64 f.x1, .int .u64 f.x2, .int .u64 f.x3]] x fun e w' => e = .returned (.agg #[.int .u64 rf.x0, .int .u64 rf.x1, .int .u64 rf.x2, .int .u64 rf.x3]) ∧ Below x.heap.size x w'))
    (L2 : Hid (∀ x, Calls Tryd.prog 4 #[.agg #[.int .u64 rf.x0, .int .u64 rf.x1, .int .u64 rf.x2, .int .u64 rf.x3]] x fun e w' => e = .returned (.agg (el rf).toArray) ∧ Below x.heap.size x w'))
    (HQ : Hid (∀ N wz, Below W.heap.size W wz → Bw wz W.heap.size N (s81 rb rf) → Q .normal ⟨#[u0, u1, u2, u3, .pointer (some ⟨T4, 0, none⟩), .pointer (some ⟨T5, 0, none⟩), u6, u7, u8, u9, .pointer (some ⟨N, 0, none⟩), u11, u12, u13, u14, u15, u16, u17, u18, u19, .agg #[.int .u64 b.x0, .int .u64 b.x1, .int .u64 b.x2, .int .u64 b.x3], .agg #[.int .u64 rb.x0, .int .u64 rb.x1, .int .u64 rb.x2, .int .u64 rb.x3], .agg (el rb).toArray, .agg #[.int .u64 f.x0, .int .u64 f.x1, .int .u64 f.x2, .int .u64 f.x3], .agg #[.int .u64 rf.x0, .int .u64 rf.x1, .int .u64 rf.x2, .int .u64 rf.x3], .agg (el rf).toArray, .agg (s81 rb rf).toArray, u27, u28, u29, u30, u31, u32, u33, u34, u35, u36, u37, u38, u39, u40, u41, u42, u43, u44, u45, u46, u47, u48, u49, u50, u51, u52, u53, u54, u55, u56, u57, u58, u59, u60, u61, u62, u63], []⟩ wz)) : (Code.region 2 sc2o true).wp Tryd.prog Q ⟨#[u0, u1, u2, u3, .pointer (some ⟨T4, 0, none⟩), .pointer (some ⟨T5, 0, none⟩), u6, u7, u8, u9, u10, u11, u12, u13, u14, u15, u16, u17, u18, u19, u20, u21, u22, u23, u24, u25, u26, u27, u28, u29, u30, u31, u32, u33, u34, u35, u36, u37, u38, u39, u40, u41, u42, u43, u44, u45, u46, u47, u48, u49, u50, u51, u52, u53, u54, u55, u56, u57, u58, u59, u60, u61, u62, u63], []⟩ W := by
  have I2 : Hid ((Tryd.prog.info? 44).map (·.size) = some (s81 rb rf).toArray.size) := hidden sinfo81
  have O2 := hidden (s81_one rb rf)
  have SB := hidden (s81_built rb rf)
  have ZV := hidden zv81
  refine wp_region_noPanic ?_
  refine wp_region_held_drew (S := S2 W T4 T5 b f) (by kernel_rfl) (HS.keep (drew_blW W)) (fun hHeld => ?_)
  change wpAnyH Tryd.prog .any sc2o _ _ 9 #[false, false, false, false, false, false, false, false, false] _ _
  have HW := hidden HS
  clear HS
  refine wpAnyH_take (i := 0) (oi := { dst := some 20, op := Op.load 24 (Operand.tmp 4), type := 24, pos := "law.go:505", after := #[], guard := none }) (v := .agg #[.int .u64 b.x0, .int .u64 b.x1, .int .u64 b.x2, .int .u64 b.x3]) rfl (by kernel_rfl) (by kernel_rfl) (by kernel_rfl) (fun _ _ _ h => h) (Or.inl ⟨by rfl, fun w0 hSw => ?_⟩) hHeld ?_
  · (obtain ⟨s0, s1, s2, s3, s4, s5, s6, s7, s8⟩ := hSw; clear s0; go_simp)
  simp only [Act.put, List.setIfInBounds_toArray, List.set_cons_zero, List.set_cons_succ]
  refine wpAnyH_take (i := 3) (oi := { dst := some 23, op := Op.load 24 (Operand.tmp 5), type := 24, pos := "law.go:505", after := #[], guard := none }) (v := .agg #[.int .u64 f.x0, .int .u64 f.x1, .int .u64 f.x2, .int .u64 f.x3]) rfl (by kernel_rfl) (by kernel_rfl) (by kernel_rfl) (fun _ _ _ h => h) (Or.inl ⟨by rfl, fun w0 hSw => ?_⟩) hHeld ?_
  · (obtain ⟨s0, s1, s2, s3, s4, s5, s6, s7, s8⟩ := hSw; clear s0; go_simp)
  simp only [Act.put, List.setIfInBounds_toArray, List.set_cons_zero, List.set_cons_succ]
  refine wpAnyH_ready (rs := [1, 7]) (by kernel_rfl) (by simp) ?_
  refine AllReadyH.cons (o := { dst := some 21, op := Op.call { callee := Callee.value (Operand.func 5), args := #[Operand.tmp 20], argTypes := #[24] }, type := 36, pos := "law.go:505", after := #[{ on := 0, ground := Ground.data }], guard := none }) rfl (fun K hK => ?_) ?_
  ·
    have HH := hidden hHeld
    clear hHeld
    go_simp
    refine (N1.out _).mono ?_
    rintro e wn1 ⟨rfl, hb⟩
    have SN := hidden (HH.out.keep hb)
    clear HH hb
    go_wp2_with fail
    refine hK.out _ _ SN.out (fun hHeld1 => ?_)
    clear hK K SN
    refine wpAnyH_ready (rs := [2, 7]) (by kernel_rfl) (by simp) ?_
    refine AllReadyH.cons (o := { dst := some 22, op := Op.call { callee := Callee.value (Operand.func 4), args := #[Operand.tmp 21], argTypes := #[36] }, type := 39, pos := "law.go:505", after := #[{ on := 1, ground := Ground.data }, { on := 1, ground := Ground.chain }], guard := none }) rfl (fun K hK => ?_) ?_
    ·
      have HH := hidden hHeld1
      clear hHeld1
      go_simp
      refine (L1.out _).mono ?_
      rintro e wn2 ⟨rfl, hb⟩
      have SN := hidden (HH.out.keep hb)
      clear HH hb
      go_wp2_with fail
      refine hK.out _ _ SN.out (fun hHeld2 => ?_)
      clear hK K SN
      refine wpAnyH_ready (rs := [4, 7]) (by kernel_rfl) (by simp) ?_
      refine AllReadyH.cons (o := { dst := some 24, op := Op.call { callee := Callee.value (Operand.func 5), args := #[Operand.tmp 23], argTypes := #[24] }, type := 36, pos := "law.go:505", after := #[{ on := 3, ground := Ground.data }, { on := 2, ground := Ground.chain }], guard := none }) rfl (fun K hK => ?_) ?_
      ·
        have HH := hidden hHeld2
        clear hHeld2
        go_simp
        refine (N2.out _).mono ?_
        rintro e wn3 ⟨rfl, hb⟩
        have SN := hidden (HH.out.keep hb)
        clear HH hb
        go_wp2_with fail
        refine hK.out _ _ SN.out (fun hHeld3 => ?_)
        clear hK K SN
        refine wpAnyH_ready (rs := [5, 7]) (by kernel_rfl) (by simp) ?_
        refine AllReadyH.cons (o := { dst := some 25, op := Op.call { callee := Callee.value (Operand.func 4), args := #[Operand.tmp 24], argTypes := #[36] }, type := 39, pos := "law.go:505", after := #[{ on := 4, ground := Ground.data }, { on := 4, ground := Ground.chain }], guard := none }) rfl (fun K hK => ?_) ?_
        ·
          have HH := hidden hHeld3
          clear hHeld3
          go_simp
          refine (L2.out _).mono ?_
          rintro e wn4 ⟨rfl, hb⟩
          have SN := hidden (HH.out.keep hb)
          clear HH hb
          go_wp2_with fail
          refine hK.out _ _ SN.out (fun hHeld4 => ?_)
          clear hK K SN
          refine wpAnyH_take (i := 6) (oi := { dst := some 26, op := Op.build 44 #[(0, Operand.const (Value.int IntKind.i64 2)), (1, Operand.tmp 22), (2, Operand.tmp 25)], type := 44, pos := "law.go:505", after := #[{ on := 2, ground := Ground.data }, { on := 5, ground := Ground.data }], guard := none }) (v := .agg (s81 rb rf).toArray) rfl (by kernel_rfl) (by kernel_rfl) (by kernel_rfl) (fun _ _ _ h => h) (Or.inl ⟨by rfl, fun w0 hSw => by kernel_rfl⟩) hHeld4 ?_
          simp only [Act.put, List.setIfInBounds_toArray, List.set_cons_zero, List.set_cons_succ]
          refine wpAnyH_ready (rs := [7]) (by kernel_rfl) (by simp) ?_
          refine AllReadyH.cons (o := { dst := some 10, op := Op.alloc 44, type := 0, pos := "law.go:505", after := #[], guard := none }) rfl (fun K hK => ?_) AllReadyH.nil
          have HH := hidden hHeld4
          clear hHeld4
          refine wp_alloc81 rfl ?_
          have hb := bl_alloc wn4 (.cells zs.toArray 44)
          have BB := hidden (Bw.new wn4 W.heap.size zs 44 HH.out.1.size)
          refine hK.out _ _ (HH.out.keep hb) (fun hHeld5 => ?_)
          clear hK K HH hb
          simp only [Act.put, List.setIfInBounds_toArray, List.set_cons_zero, List.set_cons_succ]
          refine wpAnyH_ready (rs := [8]) (by kernel_rfl) (by simp) ?_
          refine AllReadyH.cons (o := { dst := none, op := Op.store 44 (Operand.tmp 10) (Operand.tmp 26), type := 0, pos := "law.go:505", after := #[{ on := 7, ground := Ground.data }, { on := 6, ground := Ground.data }, { on := 5, ground := Ground.chain }, { on := 0, ground := Ground.phase }, { on := 1, ground := Ground.phase }, { on := 2, ground := Ground.phase }, { on := 3, ground := Ground.phase }, { on := 4, ground := Ground.phase }, { on := 5, ground := Ground.phase }, { on := 6, ground := Ground.phase }, { on := 7, ground := Ground.phase }], guard := none }) rfl (fun K hK => ?_) AllReadyH.nil
          have HH := hidden hHeld5
          clear hHeld5
          have TH := hidden (show World.there _ wn4.heap.size 0 (s81 rb rf).toArray.size from BB.out.t)
          refine wp_store_mid 44 _ _ rfl wn4.heap.size 0 (s81 rb rf).toArray (by rfl) (by rfl) TH.out I2.out O2.out ?_
          have hB := below_setCellsM wn4.heap.size (s81 rb rf) 0 HH.out.1 BB.out.ge
          refine hK.out _ _ (S2.keep HW.out hB) (fun _ => ?_)
          refine wpAnyH_done (by kernel_rfl) ?_ _
          refine NoPanic.normal ?_
          exact HQ.out wn4.heap.size _ hB (Bw.set BB.out rfl)
        refine AllReadyH.cons (o := { dst := some 10, op := Op.alloc 44, type := 0, pos := "law.go:505", after := #[], guard := none }) rfl (fun K hK => ?_) AllReadyH.nil
        have HH := hidden hHeld3
        clear hHeld3
        refine wp_alloc81 rfl ?_
        have hb := bl_alloc wn3 (.cells zs.toArray 44)
        have BB := hidden (Bw.new wn3 W.heap.size zs 44 HH.out.1.size)
        refine hK.out _ _ (HH.out.keep hb) (fun hHeld6 => ?_)
        clear hK K HH hb
        simp only [Act.put, List.setIfInBounds_toArray, List.set_cons_zero, List.set_cons_succ]
        refine wpAnyH_ready (rs := [5]) (by kernel_rfl) (by simp) ?_
        refine AllReadyH.cons (o := { dst := some 25, op := Op.call { callee := Callee.value (Operand.func 4), args := #[Operand.tmp 24], argTypes := #[36] }, type := 39, pos := "law.go:505", after := #[{ on := 4, ground := Ground.data }, { on := 4, ground := Ground.chain }], guard := none }) rfl (fun K hK => ?_) AllReadyH.nil
        have HH := hidden hHeld6
        clear hHeld6
        go_simp
        refine (L2.out _).mono ?_
        rintro e wn7 ⟨rfl, hb⟩
        replace BB := hidden (BB.out.keep hb)
        have SN := hidden (HH.out.keep hb)
        clear HH hb
        go_wp2_with fail
        refine hK.out _ _ SN.out (fun hHeld7 => ?_)
        clear hK K SN
        refine wpAnyH_take (i := 6) (oi := { dst := some 26, op := Op.build 44 #[(0, Operand.const (Value.int IntKind.i64 2)), (1, Operand.tmp 22), (2, Operand.tmp 25)], type := 44, pos := "law.go:505", after := #[{ on := 2, ground := Ground.data }, { on := 5, ground := Ground.data }], guard := none }) (v := .agg (s81 rb rf).toArray) rfl (by kernel_rfl) (by kernel_rfl) (by kernel_rfl) (fun _ _ _ h => h) (Or.inl ⟨by rfl, fun w0 hSw => by kernel_rfl⟩) hHeld7 ?_
        simp only [Act.put, List.setIfInBounds_toArray, List.set_cons_zero, List.set_cons_succ]
        refine wpAnyH_ready (rs := [8]) (by kernel_rfl) (by simp) ?_
        refine AllReadyH.cons (o := { dst := none, op := Op.store 44 (Operand.tmp 10) (Operand.tmp 26), type := 0, pos := "law.go:505", after := #[{ on := 7, ground := Ground.data }, { on := 6, ground := Ground.data }, { on := 5, ground := Ground.chain }, { on := 0, ground := Ground.phase }, { on := 1, ground := Ground.phase }, { on := 2, ground := Ground.phase }, { on := 3, ground := Ground.phase }, { on := 4, ground := Ground.phase }, { on := 5, ground := Ground.phase }, { on := 6, ground := Ground.phase }, { on := 7, ground := Ground.phase }], guard := none }) rfl (fun K hK => ?_) AllReadyH.nil
        have HH := hidden hHeld7
        clear hHeld7
        have TH := hidden (show World.there _ wn3.heap.size 0 (s81 rb rf).toArray.size from BB.out.t)
        refine wp_store_mid 44 _ _ rfl wn3.heap.size 0 (s81 rb rf).toArray (by rfl) (by rfl) TH.out I2.out O2.out ?_
        have hB := below_setCellsM wn3.heap.size (s81 rb rf) 0 HH.out.1 BB.out.ge
        refine hK.out _ _ (S2.keep HW.out hB) (fun _ => ?_)
        refine wpAnyH_done (by kernel_rfl) ?_ _
        refine NoPanic.normal ?_
        exact HQ.out wn3.heap.size _ hB (Bw.set BB.out rfl)
      refine AllReadyH.cons (o := { dst := some 10, op := Op.alloc 44, type := 0, pos := "law.go:505", after := #[], guard := none }) rfl (fun K hK => ?_) AllReadyH.nil
      have HH := hidden hHeld2
      clear hHeld2
      refine wp_alloc81 rfl ?_
      have hb := bl_alloc wn2 (.cells zs.toArray 44)
      have BB := hidden (Bw.new wn2 W.heap.size zs 44 HH.out.1.size)
      refine hK.out _ _ (HH.out.keep hb) (fun hHeld8 => ?_)
      clear hK K HH hb
      simp only [Act.put, List.setIfInBounds_toArray, List.set_cons_zero, List.set_cons_succ]
      refine wpAnyH_ready (rs := [4]) (by kernel_rfl) (by simp) ?_
      refine AllReadyH.cons (o := { dst := some 24, op := Op.call { callee := Callee.value (Operand.func 5), args := #[Operand.tmp 23], argTypes := #[24] }, type := 36, pos := "law.go:505", after := #[{ on := 3, ground := Ground.data }, { on := 2, ground := Ground.chain }], guard := none }) rfl (fun K hK => ?_) AllReadyH.nil
      have HH := hidden hHeld8
      clear hHeld8
      go_simp
      refine (N2.out _).mono ?_
      rintro e wn9 ⟨rfl, hb⟩
      replace BB := hidden (BB.out.keep hb)
      have SN := hidden (HH.out.keep hb)
      clear HH hb
      go_wp2_with fail
      refine hK.out _ _ SN.out (fun hHeld9 => ?_)
      clear hK K SN
      refine wpAnyH_ready (rs := [5]) (by kernel_rfl) (by simp) ?_
      refine AllReadyH.cons (o := { dst := some 25, op := Op.call { callee := Callee.value (Operand.func 4), args := #[Operand.tmp 24], argTypes := #[36] }, type := 39, pos := "law.go:505", after := #[{ on := 4, ground := Ground.data }, { on := 4, ground := Ground.chain }], guard := none }) rfl (fun K hK => ?_) AllReadyH.nil
      have HH := hidden hHeld9
      clear hHeld9
      go_simp
      refine (L2.out _).mono ?_
      rintro e wn10 ⟨rfl, hb⟩
      replace BB := hidden (BB.out.keep hb)
      have SN := hidden (HH.out.keep hb)
      clear HH hb
      go_wp2_with fail
      refine hK.out _ _ SN.out (fun hHeld10 => ?_)
      clear hK K SN
      refine wpAnyH_take (i := 6) (oi := { dst := some 26, op := Op.build 44 #[(0, Operand.const (Value.int IntKind.i64 2)), (1, Operand.tmp 22), (2, Operand.tmp 25)], type := 44, pos := "law.go:505", after := #[{ on := 2, ground := Ground.data }, { on := 5, ground := Ground.data }], guard := none }) (v := .agg (s81 rb rf).toArray) rfl (by kernel_rfl) (by kernel_rfl) (by kernel_rfl) (fun _ _ _ h => h) (Or.inl ⟨by rfl, fun w0 hSw => by kernel_rfl⟩) hHeld10 ?_
      simp only [Act.put, List.setIfInBounds_toArray, List.set_cons_zero, List.set_cons_succ]
      refine wpAnyH_ready (rs := [8]) (by kernel_rfl) (by simp) ?_
      refine AllReadyH.cons (o := { dst := none, op := Op.store 44 (Operand.tmp 10) (Operand.tmp 26), type := 0, pos := "law.go:505", after := #[{ on := 7, ground := Ground.data }, { on := 6, ground := Ground.data }, { on := 5, ground := Ground.chain }, { on := 0, ground := Ground.phase }, { on := 1, ground := Ground.phase }, { on := 2, ground := Ground.phase }, { on := 3, ground := Ground.phase }, { on := 4, ground := Ground.phase }, { on := 5, ground := Ground.phase }, { on := 6, ground := Ground.phase }, { on := 7, ground := Ground.phase }], guard := none }) rfl (fun K hK => ?_) AllReadyH.nil
      have HH := hidden hHeld10
      clear hHeld10
      have TH := hidden (show World.there _ wn2.heap.size 0 (s81 rb rf).toArray.size from BB.out.t)
      refine wp_store_mid 44 _ _ rfl wn2.heap.size 0 (s81 rb rf).toArray (by rfl) (by rfl) TH.out I2.out O2.out ?_
      have hB := below_setCellsM wn2.heap.size (s81 rb rf) 0 HH.out.1 BB.out.ge
      refine hK.out _ _ (S2.keep HW.out hB) (fun _ => ?_)
      refine wpAnyH_done (by kernel_rfl) ?_ _
      refine NoPanic.normal ?_
      exact HQ.out wn2.heap.size _ hB (Bw.set BB.out rfl)
    refine AllReadyH.cons (o := { dst := some 10, op := Op.alloc 44, type := 0, pos := "law.go:505", after := #[], guard := none }) rfl (fun K hK => ?_) AllReadyH.nil
    have HH := hidden hHeld1
    clear hHeld1
    refine wp_alloc81 rfl ?_
    have hb := bl_alloc wn1 (.cells zs.toArray 44)
    have BB := hidden (Bw.new wn1 W.heap.size zs 44 HH.out.1.size)
    refine hK.out _ _ (HH.out.keep hb) (fun hHeld11 => ?_)
    clear hK K HH hb
    simp only [Act.put, List.setIfInBounds_toArray, List.set_cons_zero, List.set_cons_succ]
    refine wpAnyH_ready (rs := [2]) (by kernel_rfl) (by simp) ?_
    refine AllReadyH.cons (o := { dst := some 22, op := Op.call { callee := Callee.value (Operand.func 4), args := #[Operand.tmp 21], argTypes := #[36] }, type := 39, pos := "law.go:505", after := #[{ on := 1, ground := Ground.data }, { on := 1, ground := Ground.chain }], guard := none }) rfl (fun K hK => ?_) AllReadyH.nil
    have HH := hidden hHeld11
    clear hHeld11
    go_simp
    refine (L1.out _).mono ?_
    rintro e wn12 ⟨rfl, hb⟩
    replace BB := hidden (BB.out.keep hb)
    have SN := hidden (HH.out.keep hb)
    clear HH hb
    go_wp2_with fail
    refine hK.out _ _ SN.out (fun hHeld12 => ?_)
    clear hK K SN
    refine wpAnyH_ready (rs := [4]) (by kernel_rfl) (by simp) ?_
    refine AllReadyH.cons (o := { dst := some 24, op := Op.call { callee := Callee.value (Operand.func 5), args := #[Operand.tmp 23], argTypes := #[24] }, type := 36, pos := "law.go:505", after := #[{ on := 3, ground := Ground.data }, { on := 2, ground := Ground.chain }], guard := none }) rfl (fun K hK => ?_) AllReadyH.nil
    have HH := hidden hHeld12
    clear hHeld12
    go_simp
    refine (N2.out _).mono ?_
    rintro e wn13 ⟨rfl, hb⟩
    replace BB := hidden (BB.out.keep hb)
    have SN := hidden (HH.out.keep hb)
    clear HH hb
    go_wp2_with fail
    refine hK.out _ _ SN.out (fun hHeld13 => ?_)
    clear hK K SN
    refine wpAnyH_ready (rs := [5]) (by kernel_rfl) (by simp) ?_
    refine AllReadyH.cons (o := { dst := some 25, op := Op.call { callee := Callee.value (Operand.func 4), args := #[Operand.tmp 24], argTypes := #[36] }, type := 39, pos := "law.go:505", after := #[{ on := 4, ground := Ground.data }, { on := 4, ground := Ground.chain }], guard := none }) rfl (fun K hK => ?_) AllReadyH.nil
    have HH := hidden hHeld13
    clear hHeld13
    go_simp
    refine (L2.out _).mono ?_
    rintro e wn14 ⟨rfl, hb⟩
    replace BB := hidden (BB.out.keep hb)
    have SN := hidden (HH.out.keep hb)
    clear HH hb
    go_wp2_with fail
    refine hK.out _ _ SN.out (fun hHeld14 => ?_)
    clear hK K SN
    refine wpAnyH_take (i := 6) (oi := { dst := some 26, op := Op.build 44 #[(0, Operand.const (Value.int IntKind.i64 2)), (1, Operand.tmp 22), (2, Operand.tmp 25)], type := 44, pos := "law.go:505", after := #[{ on := 2, ground := Ground.data }, { on := 5, ground := Ground.data }], guard := none }) (v := .agg (s81 rb rf).toArray) rfl (by kernel_rfl) (by kernel_rfl) (by kernel_rfl) (fun _ _ _ h => h) (Or.inl ⟨by rfl, fun w0 hSw => by kernel_rfl⟩) hHeld14 ?_
    simp only [Act.put, List.setIfInBounds_toArray, List.set_cons_zero, List.set_cons_succ]
    refine wpAnyH_ready (rs := [8]) (by kernel_rfl) (by simp) ?_
    refine AllReadyH.cons (o := { dst := none, op := Op.store 44 (Operand.tmp 10) (Operand.tmp 26), type := 0, pos := "law.go:505", after := #[{ on := 7, ground := Ground.data }, { on := 6, ground := Ground.data }, { on := 5, ground := Ground.chain }, { on := 0, ground := Ground.phase }, { on := 1, ground := Ground.phase }, { on := 2, ground := Ground.phase }, { on := 3, ground := Ground.phase }, { on := 4, ground := Ground.phase }, { on := 5, ground := Ground.phase }, { on := 6, ground := Ground.phase }, { on := 7, ground := Ground.phase }], guard := none }) rfl (fun K hK => ?_) AllReadyH.nil
    have HH := hidden hHeld14
    clear hHeld14
    have TH := hidden (show World.there _ wn1.heap.size 0 (s81 rb rf).toArray.size from BB.out.t)
    refine wp_store_mid 44 _ _ rfl wn1.heap.size 0 (s81 rb rf).toArray (by rfl) (by rfl) TH.out I2.out O2.out ?_
    have hB := below_setCellsM wn1.heap.size (s81 rb rf) 0 HH.out.1 BB.out.ge
    refine hK.out _ _ (S2.keep HW.out hB) (fun _ => ?_)
    refine wpAnyH_done (by kernel_rfl) ?_ _
    refine NoPanic.normal ?_
    exact HQ.out wn1.heap.size _ hB (Bw.set BB.out rfl)
  refine AllReadyH.cons (o := { dst := some 10, op := Op.alloc 44, type := 0, pos := "law.go:505", after := #[], guard := none }) rfl (fun K hK => ?_) AllReadyH.nil
  have HH := hidden hHeld
  clear hHeld
  refine wp_alloc81 rfl ?_
  have hb := bl_alloc W.drew (.cells zs.toArray 44)
  have BB := hidden (Bw.new W.drew W.heap.size zs 44 HH.out.1.size)
  refine hK.out _ _ (HH.out.keep hb) (fun hHeld15 => ?_)
  clear hK K HH hb
  simp only [Act.put, List.setIfInBounds_toArray, List.set_cons_zero, List.set_cons_succ]
  refine wpAnyH_ready (rs := [1]) (by kernel_rfl) (by simp) ?_
  refine AllReadyH.cons (o := { dst := some 21, op := Op.call { callee := Callee.value (Operand.func 5), args := #[Operand.tmp 20], argTypes := #[24] }, type := 36, pos := "law.go:505", after := #[{ on := 0, ground := Ground.data }], guard := none }) rfl (fun K hK => ?_) AllReadyH.nil
  have HH := hidden hHeld15
  clear hHeld15
  go_simp
  refine (N1.out _).mono ?_
  rintro e wn16 ⟨rfl, hb⟩
  replace BB := hidden (BB.out.keep hb)
  have SN := hidden (HH.out.keep hb)
  clear HH hb
  go_wp2_with fail
  refine hK.out _ _ SN.out (fun hHeld16 => ?_)
  clear hK K SN
  refine wpAnyH_ready (rs := [2]) (by kernel_rfl) (by simp) ?_
  refine AllReadyH.cons (o := { dst := some 22, op := Op.call { callee := Callee.value (Operand.func 4), args := #[Operand.tmp 21], argTypes := #[36] }, type := 39, pos := "law.go:505", after := #[{ on := 1, ground := Ground.data }, { on := 1, ground := Ground.chain }], guard := none }) rfl (fun K hK => ?_) AllReadyH.nil
  have HH := hidden hHeld16
  clear hHeld16
  go_simp
  refine (L1.out _).mono ?_
  rintro e wn17 ⟨rfl, hb⟩
  replace BB := hidden (BB.out.keep hb)
  have SN := hidden (HH.out.keep hb)
  clear HH hb
  go_wp2_with fail
  refine hK.out _ _ SN.out (fun hHeld17 => ?_)
  clear hK K SN
  refine wpAnyH_ready (rs := [4]) (by kernel_rfl) (by simp) ?_
  refine AllReadyH.cons (o := { dst := some 24, op := Op.call { callee := Callee.value (Operand.func 5), args := #[Operand.tmp 23], argTypes := #[24] }, type := 36, pos := "law.go:505", after := #[{ on := 3, ground := Ground.data }, { on := 2, ground := Ground.chain }], guard := none }) rfl (fun K hK => ?_) AllReadyH.nil
  have HH := hidden hHeld17
  clear hHeld17
  go_simp
  refine (N2.out _).mono ?_
  rintro e wn18 ⟨rfl, hb⟩
  replace BB := hidden (BB.out.keep hb)
  have SN := hidden (HH.out.keep hb)
  clear HH hb
  go_wp2_with fail
  refine hK.out _ _ SN.out (fun hHeld18 => ?_)
  clear hK K SN
  refine wpAnyH_ready (rs := [5]) (by kernel_rfl) (by simp) ?_
  refine AllReadyH.cons (o := { dst := some 25, op := Op.call { callee := Callee.value (Operand.func 4), args := #[Operand.tmp 24], argTypes := #[36] }, type := 39, pos := "law.go:505", after := #[{ on := 4, ground := Ground.data }, { on := 4, ground := Ground.chain }], guard := none }) rfl (fun K hK => ?_) AllReadyH.nil
  have HH := hidden hHeld18
  clear hHeld18
  go_simp
  refine (L2.out _).mono ?_
  rintro e wn19 ⟨rfl, hb⟩
  replace BB := hidden (BB.out.keep hb)
  have SN := hidden (HH.out.keep hb)
  clear HH hb
  go_wp2_with fail
  refine hK.out _ _ SN.out (fun hHeld19 => ?_)
  clear hK K SN
  refine wpAnyH_take (i := 6) (oi := { dst := some 26, op := Op.build 44 #[(0, Operand.const (Value.int IntKind.i64 2)), (1, Operand.tmp 22), (2, Operand.tmp 25)], type := 44, pos := "law.go:505", after := #[{ on := 2, ground := Ground.data }, { on := 5, ground := Ground.data }], guard := none }) (v := .agg (s81 rb rf).toArray) rfl (by kernel_rfl) (by kernel_rfl) (by kernel_rfl) (fun _ _ _ h => h) (Or.inl ⟨by rfl, fun w0 hSw => by kernel_rfl⟩) hHeld19 ?_
  simp only [Act.put, List.setIfInBounds_toArray, List.set_cons_zero, List.set_cons_succ]
  refine wpAnyH_ready (rs := [8]) (by kernel_rfl) (by simp) ?_
  refine AllReadyH.cons (o := { dst := none, op := Op.store 44 (Operand.tmp 10) (Operand.tmp 26), type := 0, pos := "law.go:505", after := #[{ on := 7, ground := Ground.data }, { on := 6, ground := Ground.data }, { on := 5, ground := Ground.chain }, { on := 0, ground := Ground.phase }, { on := 1, ground := Ground.phase }, { on := 2, ground := Ground.phase }, { on := 3, ground := Ground.phase }, { on := 4, ground := Ground.phase }, { on := 5, ground := Ground.phase }, { on := 6, ground := Ground.phase }, { on := 7, ground := Ground.phase }], guard := none }) rfl (fun K hK => ?_) AllReadyH.nil
  have HH := hidden hHeld19
  clear hHeld19
  have TH := hidden (show World.there _ W.drew.heap.size 0 (s81 rb rf).toArray.size from BB.out.t)
  refine wp_store_mid 44 _ _ rfl W.drew.heap.size 0 (s81 rb rf).toArray (by rfl) (by rfl) TH.out I2.out O2.out ?_
  have hB := below_setCellsM W.drew.heap.size (s81 rb rf) 0 HH.out.1 BB.out.ge
  refine hK.out _ _ (S2.keep HW.out hB) (fun _ => ?_)
  refine wpAnyH_done (by kernel_rfl) ?_ _
  refine NoPanic.normal ?_
  exact HQ.out W.drew.heap.size _ hB (Bw.set BB.out rfl)
end Go.Proofs.YtpldkolphmbahaaDoor
