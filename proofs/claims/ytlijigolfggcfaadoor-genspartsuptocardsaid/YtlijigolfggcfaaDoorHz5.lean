import Derived.Test.YtlijigolfggcfaaDoorHy
namespace Go.Proofs.YtlijigolfggcfaaDoor
open Go.RowKit
set_option linter.unusedVariables false
theorem wpList_want {P : Program} {ops : Array Oper} {rest : List Oper} {o : Oper} {a : Act} {w : World} {Q : Exit → Act → World → Prop} (hw : Region.wanted o (yielded ops a.tmps) = true) (h : ∀ K : Act → World → Prop, Hid (∀ a w, wpList P ops Q rest a w → K a w) → o.wp P a w K Q) : wpList P ops Q (o :: rest) a w := by
  unfold wpList
  rw [if_pos hw]
  exact Or.inl (h _ (fun _ _ h => h))
theorem wpList_skip {P : Program} {ops : Array Oper} {rest : List Oper} {o : Oper} {a : Act} {w : World} {Q : Exit → Act → World → Prop} (hw : Region.wanted o (yielded ops a.tmps) = false) (h : wpList P ops Q rest (a.put o.dst undef) w) : wpList P ops Q (o :: rest) a w := by
  unfold wpList
  rw [if_neg (by rw [hw]; decide)]
  exact h
structure Shut (p : Prop) : Prop where
  out : p
theorem wpList_wantH {P : Program} {ops : Array Oper} {rest : List Oper} {o : Oper} {a : Act} {w : World} {Q : Exit → Act → World → Prop} (hw : Region.wanted o (yielded ops a.tmps) = true) (h : ∀ K : Act → World → Prop, Hid (∀ a w, Shut (wpList P ops Q rest a w) → K a w) → o.wp P a w K Q) : wpList P ops Q (o :: rest) a w := by
  unfold wpList
  rw [if_pos hw]
  exact Or.inl (h _ (fun _ _ h => h.out))
theorem wpList_skipH {P : Program} {ops : Array Oper} {rest : List Oper} {o : Oper} {a : Act} {w : World} {Q : Exit → Act → World → Prop} (hw : Region.wanted o (yielded ops a.tmps) = false) (h : Shut (wpList P ops Q rest (a.put o.dst undef) w)) : Shut (wpList P ops Q (o :: rest) a w) := ⟨wpList_skip hw h.out⟩
def rg5o : Array Oper := #[{ dst := some 40, op := Op.move (Operand.tmp 12), type := 49, pos := "law.go:191", after := #[], guard := none },
  { dst := some 41, op := Op.move (Operand.tmp 14), type := 49, pos := "law.go:191", after := #[], guard := none },
  { dst := some 42, op := Op.binOp BinOp.neq 49 (Operand.tmp 40) (Operand.tmp 41) 49, type := 4, pos := "law.go:191", after := #[{ on := 0, ground := Ground.data }, { on := 1, ground := Ground.data }], guard := none },
  { dst := some 43, op := Op.move (Operand.tmp 42), type := 4, pos := "law.go:191", after := #[{ on := 2, ground := Ground.data }], guard := none },
  { dst := some 44, op := Op.move (Operand.tmp 12), type := 49, pos := "law.go:191", after := #[{ on := 3, ground := Ground.guard }], guard := some (3, false) },
  { dst := some 45, op := Op.binOp BinOp.eql 3 (Operand.tmp 44) (Operand.const (Value.int IntKind.i64 0)) 3, type := 4, pos := "law.go:191", after := #[{ on := 4, ground := Ground.data }, { on := 3, ground := Ground.guard }], guard := some (3, false) },
  { dst := some 46, op := Op.move (Operand.tmp 45), type := 4, pos := "law.go:191", after := #[{ on := 5, ground := Ground.data }, { on := 3, ground := Ground.chain }, { on := 3, ground := Ground.guard }], guard := some (3, false) },
  { dst := some 47, op := Op.load 32 (Operand.tmp 11), type := 32, pos := "law.go:191", after := #[{ on := 6, ground := Ground.guard }], guard := some (6, true) },
  { dst := some 48, op := Op.load 47 (Operand.tmp 13), type := 47, pos := "law.go:191", after := #[{ on := 6, ground := Ground.guard }], guard := some (6, true) },
  { dst := some 49, op := Op.call { callee := Callee.value (Operand.func 8), args := #[Operand.tmp 47, Operand.tmp 48], argTypes := #[32, 47] }, type := 4, pos := "law.go:191", after := #[{ on := 7, ground := Ground.data }, { on := 8, ground := Ground.data }, { on := 6, ground := Ground.chain }, { on := 6, ground := Ground.guard }], guard := some (6, true) },
  { dst := some 50, op := Op.unOp UnOp.not 4 (Operand.tmp 49), type := 4, pos := "law.go:191", after := #[{ on := 9, ground := Ground.data }, { on := 6, ground := Ground.guard }], guard := some (6, true) },
  { dst := some 51, op := Op.pick (Operand.tmp 46) (Operand.tmp 50) (Operand.const (Value.bool false)), type := 4, pos := "law.go:191", after := #[{ on := 6, ground := Ground.data }, { on := 10, ground := Ground.data }, { on := 3, ground := Ground.guard }], guard := some (3, false) },
  { dst := some 52, op := Op.pick (Operand.tmp 43) (Operand.const (Value.bool true)) (Operand.tmp 51), type := 4, pos := "law.go:191", after := #[{ on := 3, ground := Ground.data }, { on := 11, ground := Ground.data }], guard := none },
  { dst := some 53, op := Op.move (Operand.tmp 52), type := 4, pos := "law.go:191", after := #[{ on := 12, ground := Ground.data }, { on := 9, ground := Ground.chain }], guard := none },
  { dst := some 54, op := Op.move (Operand.tmp 12), type := 49, pos := "law.go:191", after := #[{ on := 13, ground := Ground.guard }], guard := some (13, false) },
  { dst := some 55, op := Op.binOp BinOp.neq 3 (Operand.tmp 54) (Operand.const (Value.int IntKind.i64 0)) 3, type := 4, pos := "law.go:191", after := #[{ on := 14, ground := Ground.data }, { on := 13, ground := Ground.guard }], guard := some (13, false) },
  { dst := some 56, op := Op.move (Operand.tmp 55), type := 4, pos := "law.go:191", after := #[{ on := 15, ground := Ground.data }, { on := 13, ground := Ground.chain }, { on := 13, ground := Ground.guard }], guard := some (13, false) },
  { dst := some 57, op := Op.fieldAddr 32 (Operand.tmp 11) 0, type := 0, pos := "law.go:191", after := #[{ on := 16, ground := Ground.guard }], guard := some (16, true) },
  { dst := some 58, op := Op.fieldAddr 29 (Operand.tmp 57) 0, type := 0, pos := "law.go:191", after := #[{ on := 17, ground := Ground.data }, { on := 16, ground := Ground.guard }], guard := some (16, true) },
  { dst := some 59, op := Op.load 24 (Operand.tmp 58), type := 24, pos := "law.go:191", after := #[{ on := 18, ground := Ground.data }, { on := 16, ground := Ground.guard }], guard := some (16, true) },
  { dst := some 60, op := Op.build 24 #[], type := 24, pos := "law.go:191", after := #[{ on := 16, ground := Ground.guard }], guard := some (16, true) },
  { dst := some 61, op := Op.binOp BinOp.neq 24 (Operand.tmp 59) (Operand.tmp 60) 24, type := 4, pos := "law.go:191", after := #[{ on := 19, ground := Ground.data }, { on := 20, ground := Ground.data }, { on := 16, ground := Ground.guard }], guard := some (16, true) },
  { dst := some 62, op := Op.move (Operand.tmp 61), type := 4, pos := "law.go:191", after := #[{ on := 21, ground := Ground.data }, { on := 16, ground := Ground.chain }, { on := 16, ground := Ground.guard }], guard := some (16, true) },
  { dst := some 63, op := Op.fieldAddr 32 (Operand.tmp 11) 3, type := 0, pos := "law.go:191", after := #[{ on := 22, ground := Ground.guard }], guard := some (22, false) },
  { dst := some 64, op := Op.load 30 (Operand.tmp 63), type := 30, pos := "law.go:191", after := #[{ on := 23, ground := Ground.data }, { on := 22, ground := Ground.guard }], guard := some (22, false) },
  { dst := some 65, op := Op.call { callee := Callee.builtin Builtin.len, args := #[Operand.tmp 64], argTypes := #[30] }, type := 3, pos := "law.go:191", after := #[{ on := 24, ground := Ground.data }, { on := 22, ground := Ground.guard }], guard := some (22, false) },
  { dst := some 66, op := Op.fieldAddr 32 (Operand.tmp 11) 4, type := 0, pos := "law.go:191", after := #[{ on := 22, ground := Ground.guard }], guard := some (22, false) },
  { dst := some 67, op := Op.load 30 (Operand.tmp 66), type := 30, pos := "law.go:191", after := #[{ on := 26, ground := Ground.data }, { on := 22, ground := Ground.guard }], guard := some (22, false) },
  { dst := some 68, op := Op.call { callee := Callee.builtin Builtin.len, args := #[Operand.tmp 67], argTypes := #[30] }, type := 3, pos := "law.go:191", after := #[{ on := 27, ground := Ground.data }, { on := 22, ground := Ground.guard }], guard := some (22, false) },
  { dst := some 69, op := Op.binOp BinOp.add 3 (Operand.tmp 65) (Operand.tmp 68) 3, type := 3, pos := "law.go:191", after := #[{ on := 25, ground := Ground.data }, { on := 28, ground := Ground.data }, { on := 22, ground := Ground.guard }], guard := some (22, false) },
  { dst := some 70, op := Op.binOp BinOp.neq 3 (Operand.tmp 69) (Operand.const (Value.int IntKind.i64 0)) 3, type := 4, pos := "law.go:191", after := #[{ on := 29, ground := Ground.data }, { on := 22, ground := Ground.guard }], guard := some (22, false) },
  { dst := some 71, op := Op.pick (Operand.tmp 62) (Operand.const (Value.bool true)) (Operand.tmp 70), type := 4, pos := "law.go:191", after := #[{ on := 22, ground := Ground.data }, { on := 30, ground := Ground.data }, { on := 16, ground := Ground.guard }], guard := some (16, true) },
  { dst := some 72, op := Op.pick (Operand.tmp 56) (Operand.tmp 71) (Operand.const (Value.bool false)), type := 4, pos := "law.go:191", after := #[{ on := 16, ground := Ground.data }, { on := 31, ground := Ground.data }, { on := 13, ground := Ground.guard }], guard := some (13, false) },
  { dst := some 73, op := Op.pick (Operand.tmp 53) (Operand.const (Value.bool true)) (Operand.tmp 72), type := 4, pos := "law.go:191", after := #[{ on := 13, ground := Ground.data }, { on := 32, ground := Ground.data }], guard := none }]
set_option maxRecDepth 100000 in
set_option maxHeartbeats 16000000 in
theorem rg5 (Q : Exit → Act → World → Prop) (T11 T13 : Nat) (x y : List Value) (u0 u1 u2 u3 u4 u5 u6 u7 u8 u9 u10 u15 u16 u17 u18 u19 u20 u21 u22 u23 u24 u25 u26 u27 u28 u29 u30 u31 u32 u33 u34 u35 u36 u37 u38 u39 u40 u41 u42 u43 u44 u45 u46 u47 u48 u49 u50 u51 u52 u53 u54 u55 u56 u57 u58 u59 u60 u61 u62 u63 u64 u65 u66 u67 u68 u69 u70 u71 u72 u73 u74 u75 u76 u77 u78 u79 u80 u81 u82 u83 u84 u85 u86 u87 u88 u89 u90 u91 u92 u93 u94 u95 u96 u97 u98 u99 u100 u101 u102 u103 u104 u105 u106 u107 u108 : Value) (W : World) (r1 : W.rangeAt T11 0 x) (r2 : W.rangeAt T13 0 y) (i1 : Hid ((Tryd.prog.info? 32).map (·.size) = some x.length)) (i2 : Hid ((Tryd.prog.info? 47).map (·.size) = some y.length)) (C : Hid (Calls Tryd.prog 8 #[.agg x.toArray, .agg y.toArray] W fun e w' => e = .returned (.bool true) ∧ Below W.heap.size W w'))
    (HQ : Hid (∀ (z40 z41 z42 z43 z44 z45 z46 z47 z48 z49 z50 z51 z52 z53 z54 z55 z56 z57 z58 z59 z60 z61 z62 z63 z64 z65 z66 z67 z68 z69 z70 z71 z72 : Value) (wz : World), Below W.heap.size W wz → Q .normal ⟨#[u0, u1, u2, u3, u4, u5, u6, u7, u8, u9, u10, .pointer (some ⟨T11, 0, none⟩), .int .i64 0, .pointer (some ⟨T13, 0, none⟩), .int .i64 0, u15, u16, u17, u18, u19, u20, u21, u22, u23, u24, u25, u26, u27, u28, u29, u30, u31, u32, u33, u34, u35, u36, u37, u38, u39, z40, z41, z42, z43, z44, z45, z46, z47, z48, z49, z50, z51, z52, z53, z54, z55, z56, z57, z58, z59, z60, z61, z62, z63, z64, z65, z66, z67, z68, z69, z70, z71, z72, .bool false, u74, u75, u76, u77, u78, u79, u80, u81, u82, u83, u84, u85, u86, u87, u88, u89, u90, u91, u92, u93, u94, u95, u96, u97, u98, u99, u100, u101, u102, u103, u104, u105, u106, u107, u108], []⟩ wz)) : (Code.region 5 rg5o false).wp Tryd.prog Q ⟨#[u0, u1, u2, u3, u4, u5, u6, u7, u8, u9, u10, .pointer (some ⟨T11, 0, none⟩), .int .i64 0, .pointer (some ⟨T13, 0, none⟩), .int .i64 0, u15, u16, u17, u18, u19, u20, u21, u22, u23, u24, u25, u26, u27, u28, u29, u30, u31, u32, u33, u34, u35, u36, u37, u38, u39, u40, u41, u42, u43, u44, u45, u46, u47, u48, u49, u50, u51, u52, u53, u54, u55, u56, u57, u58, u59, u60, u61, u62, u63, u64, u65, u66, u67, u68, u69, u70, u71, u72, u73, u74, u75, u76, u77, u78, u79, u80, u81, u82, u83, u84, u85, u86, u87, u88, u89, u90, u91, u92, u93, u94, u95, u96, u97, u98, u99, u100, u101, u102, u103, u104, u105, u106, u107, u108], []⟩ W := by
  have U32 : Hid (Tryd.prog.underlying 32 = _) := hidden Tryd.underlying32
  have U47 : Hid (Tryd.prog.underlying 47 = _) := hidden Tryd.underlying47
  have R1 := hidden r1
  have R2 := hidden r2
  clear r1 r2
  unfold rg5o
  refine wp_region_lit ?_
  (iterate 7 (refine wpList_want (by rfl) (fun K hK => ?_); go_simp; refine hK.out _ _ ?_; clear hK K))
  refine wpList_loadG (by rfl) 32 _ rfl T11 0 (by rfl) x _ R1.out U32.out rfl i1.out ?_
  simp only [Act.put, List.setIfInBounds_toArray, List.set_cons_zero, List.set_cons_succ]
  refine wpList_loadG (by rfl) 47 _ rfl T13 0 (by rfl) y _ R2.out U47.out rfl i2.out ?_
  simp only [Act.put, List.setIfInBounds_toArray, List.set_cons_zero, List.set_cons_succ]
  refine wpList_want (by rfl) (fun K hK => ?_)
  go_simp
  refine C.out.mono ?_
  rintro e w5 ⟨rfl, hb⟩
  dsimp only
  refine hK.out _ _ ?_
  clear hK K C R1 R2
  try simp only [Act.put, List.setIfInBounds_toArray, List.set_cons_zero, List.set_cons_succ]
  have BH := hidden hb
  clear hb
  (iterate 6 (refine wpList_want (by rfl) (fun K hK => ?_); go_simp; refine hK.out _ _ ?_; clear hK K))
  refine wpList_wantH (by rfl) (fun K hK => ?_)
  go_simp
  refine hK.out _ _ ?_
  clear hK K
  (iterate 15 (refine wpList_skipH (by rfl) ?_; simp only [Act.put, List.setIfInBounds_toArray, List.set_cons_zero, List.set_cons_succ]))
  refine ⟨?_⟩
  (iterate 2 (refine wpList_want (by rfl) (fun K hK => ?_); go_simp; refine hK.out _ _ ?_; clear hK K))
  exact HQ.out _ _ _ _ _ _ _ _ _ _ _ _ _ _ _ _ _ _ _ _ _ _ _ _ _ _ _ _ _ _ _ _ _ w5 BH.out
end Go.Proofs.YtlijigolfggcfaaDoor
