import Derived.Test.YtmhpgcfmllcnpaaDoorPn
namespace Go.Proofs.YtmhpgcfmllcnpaaDoor
open Go.RowKit
set_option linter.unusedVariables false
theorem wpList_loadG {P : Program} {ops : Array Oper} {rest : List Oper} {op : Oper} {a : Act} {w : World} {Q : Exit → Act → World → Prop} (hw : Region.wanted op (yielded ops a.tmps) = true) (ty : TypeId) (x : Operand) (ho : op.op = .load ty x)
    (b o : Nat) (hx : a.eval x = .pointer (some ⟨b, o, none⟩)) (cs : List Value) (d : TypeDesc) (hc : w.rangeAt b o cs)
    (hu : P.underlying ty = some d) (hd : d.isRow = true) (hi : (P.info? ty).map (·.size) = some cs.length)
    (h : wpList P ops Q rest (a.put op.dst (.agg cs.toArray)) w) : wpList P ops Q (op :: rest) a w := by
  unfold wpList
  rw [if_pos hw]
  exact Or.inl (wp_load_mid ty x ho b o hx cs d hc hu hd hi h)
theorem wpList_want {P : Program} {ops : Array Oper} {rest : List Oper} {o : Oper} {a : Act} {w : World} {Q : Exit → Act → World → Prop} (hw : Region.wanted o (yielded ops a.tmps) = true) (h : ∀ K : Act → World → Prop, Hid (∀ a w, wpList P ops Q rest a w → K a w) → o.wp P a w K Q) : wpList P ops Q (o :: rest) a w := by
  unfold wpList
  rw [if_pos hw]
  exact Or.inl (h _ (fun _ _ h => h))
theorem wpList_skip {P : Program} {ops : Array Oper} {rest : List Oper} {o : Oper} {a : Act} {w : World} {Q : Exit → Act → World → Prop} (hw : Region.wanted o (yielded ops a.tmps) = false) (h : wpList P ops Q rest (a.put o.dst undef) w) : wpList P ops Q (o :: rest) a w := by
  unfold wpList
  rw [if_neg (by rw [hw]; decide)]
  exact h
structure Shut (p : Prop) : Prop where
  out : p
theorem wpList_wantH {P : Program} {ops : Array Oper} {rest : List Oper} {o : Oper} {a : Act} {w : World} {Q : Exit → Act → World → Prop} (hw : Region.wanted o (yielded ops a.tmps) = true) (h : ∀ K : Act → World → Prop, Hid (∀ a w, Shut (wpList P ops Q rest a w) → K a w) → o.wp P a w K Q) : wpList P ops Q (o :: rest) a w := by
  unfold wpList
  rw [if_pos hw]
  exact Or.inl (h _ (fun _ _ h => h.out))
theorem wpList_skipH {P : Program} {ops : Array Oper} {rest : List Oper} {o : Oper} {a : Act} {w : World} {Q : Exit → Act → World → Prop} (hw : Region.wanted o (yielded ops a.tmps) = false) (h : Shut (wpList P ops Q rest (a.put o.dst undef) w)) : Shut (wpList P ops Q (o :: rest) a w) := ⟨wpList_skip hw h.out⟩
def al9o : Array Oper := #[{ dst := some 56, op := Op.fieldAddr 35 (Operand.tmp 2) 0, type := 0, pos := "outright.go:164", after := #[], guard := none },
  { dst := some 57, op := Op.load 32 (Operand.tmp 56), type := 32, pos := "outright.go:164", after := #[{ on := 0, ground := Ground.data }], guard := none },
  { dst := some 58, op := Op.fieldAddr 35 (Operand.tmp 3) 0, type := 0, pos := "outright.go:164", after := #[], guard := none },
  { dst := some 59, op := Op.load 32 (Operand.tmp 58), type := 32, pos := "outright.go:164", after := #[{ on := 2, ground := Ground.data }], guard := none },
  { dst := some 60, op := Op.call { callee := Callee.value (Operand.func 21), args := #[Operand.tmp 57, Operand.tmp 59], argTypes := #[32, 32] }, type := 4, pos := "outright.go:164", after := #[{ on := 1, ground := Ground.data }, { on := 3, ground := Ground.data }], guard := none },
  { dst := some 61, op := Op.move (Operand.tmp 60), type := 4, pos := "outright.go:164", after := #[{ on := 4, ground := Ground.data }, { on := 4, ground := Ground.chain }], guard := none },
  { dst := some 62, op := Op.fieldAddr 35 (Operand.tmp 2) 1, type := 0, pos := "outright.go:164", after := #[{ on := 5, ground := Ground.guard }], guard := some (5, true) },
  { dst := some 63, op := Op.load 32 (Operand.tmp 62), type := 32, pos := "outright.go:164", after := #[{ on := 6, ground := Ground.data }, { on := 5, ground := Ground.guard }], guard := some (5, true) },
  { dst := some 64, op := Op.fieldAddr 35 (Operand.tmp 3) 1, type := 0, pos := "outright.go:164", after := #[{ on := 5, ground := Ground.guard }], guard := some (5, true) },
  { dst := some 65, op := Op.load 32 (Operand.tmp 64), type := 32, pos := "outright.go:164", after := #[{ on := 8, ground := Ground.data }, { on := 5, ground := Ground.guard }], guard := some (5, true) },
  { dst := some 66, op := Op.call { callee := Callee.value (Operand.func 21), args := #[Operand.tmp 63, Operand.tmp 65], argTypes := #[32, 32] }, type := 4, pos := "outright.go:164", after := #[{ on := 7, ground := Ground.data }, { on := 9, ground := Ground.data }, { on := 5, ground := Ground.chain }, { on := 5, ground := Ground.guard }], guard := some (5, true) },
  { dst := some 67, op := Op.pick (Operand.tmp 61) (Operand.tmp 66) (Operand.const (Value.bool false)), type := 4, pos := "outright.go:164", after := #[{ on := 5, ground := Ground.data }, { on := 10, ground := Ground.data }], guard := none },
  { dst := some 68, op := Op.move (Operand.tmp 67), type := 4, pos := "outright.go:164", after := #[{ on := 11, ground := Ground.data }, { on := 10, ground := Ground.chain }], guard := none },
  { dst := some 69, op := Op.fieldAddr 35 (Operand.tmp 2) 2, type := 0, pos := "outright.go:164", after := #[{ on := 12, ground := Ground.guard }], guard := some (12, true) },
  { dst := some 70, op := Op.load 32 (Operand.tmp 69), type := 32, pos := "outright.go:164", after := #[{ on := 13, ground := Ground.data }, { on := 12, ground := Ground.guard }], guard := some (12, true) },
  { dst := some 71, op := Op.fieldAddr 35 (Operand.tmp 3) 2, type := 0, pos := "outright.go:164", after := #[{ on := 12, ground := Ground.guard }], guard := some (12, true) },
  { dst := some 72, op := Op.load 32 (Operand.tmp 71), type := 32, pos := "outright.go:164", after := #[{ on := 15, ground := Ground.data }, { on := 12, ground := Ground.guard }], guard := some (12, true) },
  { dst := some 73, op := Op.call { callee := Callee.value (Operand.func 21), args := #[Operand.tmp 70, Operand.tmp 72], argTypes := #[32, 32] }, type := 4, pos := "outright.go:164", after := #[{ on := 14, ground := Ground.data }, { on := 16, ground := Ground.data }, { on := 12, ground := Ground.chain }, { on := 12, ground := Ground.guard }], guard := some (12, true) },
  { dst := some 74, op := Op.pick (Operand.tmp 68) (Operand.tmp 73) (Operand.const (Value.bool false)), type := 4, pos := "outright.go:164", after := #[{ on := 12, ground := Ground.data }, { on := 17, ground := Ground.data }], guard := none },
  { dst := some 75, op := Op.move (Operand.tmp 74), type := 4, pos := "outright.go:164", after := #[{ on := 18, ground := Ground.data }, { on := 17, ground := Ground.chain }], guard := none },
  { dst := some 76, op := Op.fieldAddr 35 (Operand.tmp 2) 3, type := 0, pos := "outright.go:164", after := #[{ on := 19, ground := Ground.guard }], guard := some (19, true) },
  { dst := some 77, op := Op.load 32 (Operand.tmp 76), type := 32, pos := "outright.go:164", after := #[{ on := 20, ground := Ground.data }, { on := 19, ground := Ground.guard }], guard := some (19, true) },
  { dst := some 78, op := Op.fieldAddr 35 (Operand.tmp 3) 3, type := 0, pos := "outright.go:164", after := #[{ on := 19, ground := Ground.guard }], guard := some (19, true) },
  { dst := some 79, op := Op.load 32 (Operand.tmp 78), type := 32, pos := "outright.go:164", after := #[{ on := 22, ground := Ground.data }, { on := 19, ground := Ground.guard }], guard := some (19, true) },
  { dst := some 80, op := Op.call { callee := Callee.value (Operand.func 21), args := #[Operand.tmp 77, Operand.tmp 79], argTypes := #[32, 32] }, type := 4, pos := "outright.go:164", after := #[{ on := 21, ground := Ground.data }, { on := 23, ground := Ground.data }, { on := 19, ground := Ground.chain }, { on := 19, ground := Ground.guard }], guard := some (19, true) },
  { dst := some 81, op := Op.pick (Operand.tmp 75) (Operand.tmp 80) (Operand.const (Value.bool false)), type := 4, pos := "outright.go:164", after := #[{ on := 19, ground := Ground.data }, { on := 24, ground := Ground.data }], guard := none },
  { dst := some 82, op := Op.move (Operand.tmp 81), type := 4, pos := "outright.go:164", after := #[{ on := 25, ground := Ground.data }, { on := 24, ground := Ground.chain }], guard := none },
  { dst := some 83, op := Op.move (Operand.tmp 6), type := 60, pos := "outright.go:164", after := #[{ on := 26, ground := Ground.guard }], guard := some (26, true) },
  { dst := some 84, op := Op.fieldAddr 35 (Operand.tmp 2) 4, type := 0, pos := "outright.go:164", after := #[{ on := 26, ground := Ground.guard }], guard := some (26, true) },
  { dst := some 85, op := Op.load 24 (Operand.tmp 84), type := 24, pos := "outright.go:164", after := #[{ on := 28, ground := Ground.data }, { on := 26, ground := Ground.guard }], guard := some (26, true) },
  { dst := some 86, op := Op.fieldAddr 35 (Operand.tmp 3) 4, type := 0, pos := "outright.go:164", after := #[{ on := 26, ground := Ground.guard }], guard := some (26, true) },
  { dst := some 87, op := Op.load 24 (Operand.tmp 86), type := 24, pos := "outright.go:164", after := #[{ on := 30, ground := Ground.data }, { on := 26, ground := Ground.guard }], guard := some (26, true) },
  { dst := some 88, op := Op.call { callee := Callee.value (Operand.tmp 83), args := #[Operand.tmp 85, Operand.tmp 87], argTypes := #[24, 24] }, type := 4, pos := "outright.go:164", after := #[{ on := 27, ground := Ground.data }, { on := 29, ground := Ground.data }, { on := 31, ground := Ground.data }, { on := 26, ground := Ground.chain }, { on := 26, ground := Ground.guard }], guard := some (26, true) },
  { dst := some 89, op := Op.pick (Operand.tmp 82) (Operand.tmp 88) (Operand.const (Value.bool false)), type := 4, pos := "outright.go:164", after := #[{ on := 26, ground := Ground.data }, { on := 32, ground := Ground.data }], guard := none },
  { dst := some 90, op := Op.move (Operand.tmp 89), type := 4, pos := "outright.go:164", after := #[{ on := 33, ground := Ground.data }, { on := 32, ground := Ground.chain }], guard := none },
  { dst := some 91, op := Op.move (Operand.tmp 6), type := 60, pos := "outright.go:164", after := #[{ on := 34, ground := Ground.guard }], guard := some (34, true) },
  { dst := some 92, op := Op.fieldAddr 35 (Operand.tmp 2) 5, type := 0, pos := "outright.go:164", after := #[{ on := 34, ground := Ground.guard }], guard := some (34, true) },
  { dst := some 93, op := Op.load 24 (Operand.tmp 92), type := 24, pos := "outright.go:164", after := #[{ on := 36, ground := Ground.data }, { on := 34, ground := Ground.guard }], guard := some (34, true) },
  { dst := some 94, op := Op.fieldAddr 35 (Operand.tmp 3) 5, type := 0, pos := "outright.go:164", after := #[{ on := 34, ground := Ground.guard }], guard := some (34, true) },
  { dst := some 95, op := Op.load 24 (Operand.tmp 94), type := 24, pos := "outright.go:164", after := #[{ on := 38, ground := Ground.data }, { on := 34, ground := Ground.guard }], guard := some (34, true) },
  { dst := some 96, op := Op.call { callee := Callee.value (Operand.tmp 91), args := #[Operand.tmp 93, Operand.tmp 95], argTypes := #[24, 24] }, type := 4, pos := "outright.go:164", after := #[{ on := 35, ground := Ground.data }, { on := 37, ground := Ground.data }, { on := 39, ground := Ground.data }, { on := 34, ground := Ground.chain }, { on := 34, ground := Ground.guard }], guard := some (34, true) },
  { dst := some 97, op := Op.pick (Operand.tmp 90) (Operand.tmp 96) (Operand.const (Value.bool false)), type := 4, pos := "outright.go:164", after := #[{ on := 34, ground := Ground.data }, { on := 40, ground := Ground.data }], guard := none },
  { dst := some 98, op := Op.move (Operand.tmp 97), type := 4, pos := "outright.go:164", after := #[{ on := 41, ground := Ground.data }, { on := 40, ground := Ground.chain }], guard := none },
  { dst := some 99, op := Op.move (Operand.tmp 6), type := 60, pos := "outright.go:164", after := #[{ on := 42, ground := Ground.guard }], guard := some (42, true) },
  { dst := some 100, op := Op.fieldAddr 35 (Operand.tmp 2) 6, type := 0, pos := "outright.go:164", after := #[{ on := 42, ground := Ground.guard }], guard := some (42, true) },
  { dst := some 101, op := Op.load 24 (Operand.tmp 100), type := 24, pos := "outright.go:164", after := #[{ on := 44, ground := Ground.data }, { on := 42, ground := Ground.guard }], guard := some (42, true) },
  { dst := some 102, op := Op.fieldAddr 35 (Operand.tmp 3) 6, type := 0, pos := "outright.go:164", after := #[{ on := 42, ground := Ground.guard }], guard := some (42, true) },
  { dst := some 103, op := Op.load 24 (Operand.tmp 102), type := 24, pos := "outright.go:164", after := #[{ on := 46, ground := Ground.data }, { on := 42, ground := Ground.guard }], guard := some (42, true) },
  { dst := some 104, op := Op.call { callee := Callee.value (Operand.tmp 99), args := #[Operand.tmp 101, Operand.tmp 103], argTypes := #[24, 24] }, type := 4, pos := "outright.go:164", after := #[{ on := 43, ground := Ground.data }, { on := 45, ground := Ground.data }, { on := 47, ground := Ground.data }, { on := 42, ground := Ground.chain }, { on := 42, ground := Ground.guard }], guard := some (42, true) },
  { dst := some 105, op := Op.pick (Operand.tmp 98) (Operand.tmp 104) (Operand.const (Value.bool false)), type := 4, pos := "outright.go:164", after := #[{ on := 42, ground := Ground.data }, { on := 48, ground := Ground.data }], guard := none },
  { dst := some 106, op := Op.move (Operand.tmp 105), type := 4, pos := "outright.go:164", after := #[{ on := 49, ground := Ground.data }, { on := 48, ground := Ground.chain }], guard := none },
  { dst := some 107, op := Op.move (Operand.tmp 6), type := 60, pos := "outright.go:164", after := #[{ on := 50, ground := Ground.guard }], guard := some (50, true) },
  { dst := some 108, op := Op.fieldAddr 35 (Operand.tmp 2) 9, type := 0, pos := "outright.go:164", after := #[{ on := 50, ground := Ground.guard }], guard := some (50, true) },
  { dst := some 109, op := Op.load 24 (Operand.tmp 108), type := 24, pos := "outright.go:164", after := #[{ on := 52, ground := Ground.data }, { on := 50, ground := Ground.guard }], guard := some (50, true) },
  { dst := some 110, op := Op.fieldAddr 35 (Operand.tmp 3) 9, type := 0, pos := "outright.go:164", after := #[{ on := 50, ground := Ground.guard }], guard := some (50, true) },
  { dst := some 111, op := Op.load 24 (Operand.tmp 110), type := 24, pos := "outright.go:164", after := #[{ on := 54, ground := Ground.data }, { on := 50, ground := Ground.guard }], guard := some (50, true) },
  { dst := some 112, op := Op.call { callee := Callee.value (Operand.tmp 107), args := #[Operand.tmp 109, Operand.tmp 111], argTypes := #[24, 24] }, type := 4, pos := "outright.go:164", after := #[{ on := 51, ground := Ground.data }, { on := 53, ground := Ground.data }, { on := 55, ground := Ground.data }, { on := 50, ground := Ground.chain }, { on := 50, ground := Ground.guard }], guard := some (50, true) },
  { dst := some 113, op := Op.pick (Operand.tmp 106) (Operand.tmp 112) (Operand.const (Value.bool false)), type := 4, pos := "outright.go:164", after := #[{ on := 50, ground := Ground.data }, { on := 56, ground := Ground.data }], guard := none },
  { dst := some 114, op := Op.move (Operand.tmp 113), type := 4, pos := "outright.go:164", after := #[{ on := 57, ground := Ground.data }, { on := 56, ground := Ground.chain }], guard := none },
  { dst := some 115, op := Op.move (Operand.tmp 6), type := 60, pos := "outright.go:164", after := #[{ on := 58, ground := Ground.guard }], guard := some (58, true) },
  { dst := some 116, op := Op.fieldAddr 35 (Operand.tmp 2) 10, type := 0, pos := "outright.go:164", after := #[{ on := 58, ground := Ground.guard }], guard := some (58, true) },
  { dst := some 117, op := Op.load 24 (Operand.tmp 116), type := 24, pos := "outright.go:164", after := #[{ on := 60, ground := Ground.data }, { on := 58, ground := Ground.guard }], guard := some (58, true) },
  { dst := some 118, op := Op.fieldAddr 35 (Operand.tmp 3) 10, type := 0, pos := "outright.go:164", after := #[{ on := 58, ground := Ground.guard }], guard := some (58, true) },
  { dst := some 119, op := Op.load 24 (Operand.tmp 118), type := 24, pos := "outright.go:164", after := #[{ on := 62, ground := Ground.data }, { on := 58, ground := Ground.guard }], guard := some (58, true) },
  { dst := some 120, op := Op.call { callee := Callee.value (Operand.tmp 115), args := #[Operand.tmp 117, Operand.tmp 119], argTypes := #[24, 24] }, type := 4, pos := "outright.go:164", after := #[{ on := 59, ground := Ground.data }, { on := 61, ground := Ground.data }, { on := 63, ground := Ground.data }, { on := 58, ground := Ground.chain }, { on := 58, ground := Ground.guard }], guard := some (58, true) },
  { dst := some 121, op := Op.pick (Operand.tmp 114) (Operand.tmp 120) (Operand.const (Value.bool false)), type := 4, pos := "outright.go:164", after := #[{ on := 58, ground := Ground.data }, { on := 64, ground := Ground.data }], guard := none },
  { dst := some 4, op := Op.assign (Operand.tmp 121), type := 4, pos := "outright.go:164", after := ([{ on := 65, ground := Ground.data }, { on := 64, ground := Ground.chain }, { on := 0, ground := Ground.phase }, { on := 1, ground := Ground.phase }, { on := 2, ground := Ground.phase }, { on := 3, ground := Ground.phase }, { on := 4, ground := Ground.phase }, { on := 5, ground := Ground.phase }, { on := 6, ground := Ground.phase }, { on := 7, ground := Ground.phase }, { on := 8, ground := Ground.phase }, { on := 9, ground := Ground.phase }, { on := 10, ground := Ground.phase }, { on := 11, ground := Ground.phase }, { on := 12, ground := Ground.phase }, { on := 13, ground := Ground.phase }, { on := 14, ground := Ground.phase }, { on := 15, ground := Ground.phase }, { on := 16, ground := Ground.phase }, { on := 17, ground := Ground.phase }, { on := 18, ground := Ground.phase }, { on := 19, ground := Ground.phase }, { on := 20, ground := Ground.phase }, { on := 21, ground := Ground.phase }, { on := 22, ground := Ground.phase }, { on := 23, ground := Ground.phase }, { on := 24, ground := Ground.phase }, { on := 25, ground := Ground.phase }, { on := 26, ground := Ground.phase }, { on := 27, ground := Ground.phase }, { on := 28, ground := Ground.phase }, { on := 29, ground := Ground.phase }, { on := 30, ground := Ground.phase }, { on := 31, ground := Ground.phase }].append [{ on := 32, ground := Ground.phase }, { on := 33, ground := Ground.phase }, { on := 34, ground := Ground.phase }, { on := 35, ground := Ground.phase }, { on := 36, ground := Ground.phase }, { on := 37, ground := Ground.phase }, { on := 38, ground := Ground.phase }, { on := 39, ground := Ground.phase }, { on := 40, ground := Ground.phase }, { on := 41, ground := Ground.phase }, { on := 42, ground := Ground.phase }, { on := 43, ground := Ground.phase }, { on := 44, ground := Ground.phase }, { on := 45, ground := Ground.phase }, { on := 46, ground := Ground.phase }, { on := 47, ground := Ground.phase }, { on := 48, ground := Ground.phase }, { on := 49, ground := Ground.phase }, { on := 50, ground := Ground.phase }, { on := 51, ground := Ground.phase }, { on := 52, ground := Ground.phase }, { on := 53, ground := Ground.phase }, { on := 54, ground := Ground.phase }, { on := 55, ground := Ground.phase }, { on := 56, ground := Ground.phase }, { on := 57, ground := Ground.phase }, { on := 58, ground := Ground.phase }, { on := 59, ground := Ground.phase }, { on := 60, ground := Ground.phase }, { on := 61, ground := Ground.phase }, { on := 62, ground := Ground.phase }, { on := 63, ground := Ground.phase }, { on := 64, ground := Ground.phase }, { on := 65, ground := Ground.phase }]).toArray, guard := none }]
set_option maxRecDepth 100000 in
set_option maxHeartbeats 16000000 in
theorem al9_0 (Q : Exit → Act → World → Prop) (B2 B3 : Nat) (s s' : Nat → E4) (u0 u1 u4 u5 u7 u8 u9 u10 u11 u12 u13 u14 u15 u16 u17 u18 u19 u20 u21 u22 u23 u24 u25 u26 u27 u28 u29 u30 u31 u32 u33 u34 u35 u36 u37 u38 u39 u40 u41 u42 u43 u44 u45 u46 u47 u48 u49 u50 u51 u52 u53 u54 u55 u56 u57 u58 u59 u60 u61 u62 u63 u64 u65 u66 u67 u68 u69 u70 u71 u72 u73 u74 u75 u76 u77 u78 u79 u80 u81 u82 u83 u84 u85 u86 u87 u88 u89 u90 u91 u92 u93 u94 u95 u96 u97 u98 u99 u100 u101 u102 u103 u104 u105 u106 u107 u108 u109 u110 u111 u112 u113 u114 u115 u116 u117 u118 u119 u120 u121 : Value) (W : World)
    (C0 : Hid (∀ x, Below W.heap.size W x → Calls Tryd.prog 21 #[.agg #[.int .u64 (s 0).x0, .int .u64 (s 0).x1, .int .u64 (s 0).x2, .int .u64 (s 0).x3], .agg #[.int .u64 (s' 0).x0, .int .u64 (s' 0).x1, .int .u64 (s' 0).x2, .int .u64 (s' 0).x3]] x fun e w' => e = .returned (.bool false) ∧ Below x.heap.size x w')) (A0 : Hid (∀ x, Below W.heap.size W x → x.rangeAt B2 0 [.int .u64 (s 0).x0, .int .u64 (s 0).x1, .int .u64 (s 0).x2, .int .u64 (s 0).x3])) (D0 : Hid (∀ x, Below W.heap.size W x → x.rangeAt B3 0 [.int .u64 (s' 0).x0, .int .u64 (s' 0).x1, .int .u64 (s' 0).x2, .int .u64 (s' 0).x3]))
    (HQ : Hid (∀ (z56 z57 z58 z59 z60 z61 z62 z63 z64 z65 z66 z67 z68 z69 z70 z71 z72 z73 z74 z75 z76 z77 z78 z79 z80 z81 z82 z83 z84 z85 z86 z87 z88 z89 z90 z91 z92 z93 z94 z95 z96 z97 z98 z99 z100 z101 z102 z103 z104 z105 z106 z107 z108 z109 z110 z111 z112 z113 z114 z115 z116 z117 z118 z119 z120 z121 : Value) wz, Below W.heap.size W wz → Q .normal ⟨#[u0, u1, .pointer (some ⟨B2, 0, none⟩), .pointer (some ⟨B3, 0, none⟩), .bool false, u5, .func (.func 22) #[] #[], u7, u8, u9, u10, u11, u12, u13, u14, u15, u16, u17, u18, u19, u20, u21, u22, u23, u24, u25, u26, u27, u28, u29, u30, u31, u32, u33, u34, u35, u36, u37, u38, u39, u40, u41, u42, u43, u44, u45, u46, u47, u48, u49, u50, u51, u52, u53, u54, u55, z56, z57, z58, z59, z60, z61, z62, z63, z64, z65, z66, z67, z68, z69, z70, z71, z72, z73, z74, z75, z76, z77, z78, z79, z80, z81, z82, z83, z84, z85, z86, z87, z88, z89, z90, z91, z92, z93, z94, z95, z96, z97, z98, z99, z100, z101, z102, z103, z104, z105, z106, z107, z108, z109, z110, z111, z112, z113, z114, z115, z116, z117, z118, z119, z120, z121], []⟩ wz)) : (Code.region 9 al9o false).wp Tryd.prog Q ⟨#[u0, u1, .pointer (some ⟨B2, 0, none⟩), .pointer (some ⟨B3, 0, none⟩), u4, u5, .func (.func 22) #[] #[], u7, u8, u9, u10, u11, u12, u13, u14, u15, u16, u17, u18, u19, u20, u21, u22, u23, u24, u25, u26, u27, u28, u29, u30, u31, u32, u33, u34, u35, u36, u37, u38, u39, u40, u41, u42, u43, u44, u45, u46, u47, u48, u49, u50, u51, u52, u53, u54, u55, u56, u57, u58, u59, u60, u61, u62, u63, u64, u65, u66, u67, u68, u69, u70, u71, u72, u73, u74, u75, u76, u77, u78, u79, u80, u81, u82, u83, u84, u85, u86, u87, u88, u89, u90, u91, u92, u93, u94, u95, u96, u97, u98, u99, u100, u101, u102, u103, u104, u105, u106, u107, u108, u109, u110, u111, u112, u113, u114, u115, u116, u117, u118, u119, u120, u121], []⟩ W := by
  have UL : Hid (Tryd.prog.underlying 32 = _) := hidden Tryd.underlying32
  have US : Hid (Tryd.prog.underlying 24 = _) := hidden Tryd.underlying24
  have BZ := hidden (Below.refl W.heap.size W)
  unfold al9o
  refine wp_region_lit ?_
  refine wpList_want (by rfl) (fun K hK => ?_)
  go_simp
  refine hK.out _ _ ?_
  clear hK K
  refine wpList_loadG (by rfl) 32 _ rfl B2 0 (by rfl) [.int .u64 (s 0).x0, .int .u64 (s 0).x1, .int .u64 (s 0).x2, .int .u64 (s 0).x3] _ (A0.out _ BZ.out) UL.out rfl (i4L _) ?_
  simp only [Act.put, List.setIfInBounds_toArray, List.set_cons_zero, List.set_cons_succ]
  refine wpList_want (by rfl) (fun K hK => ?_)
  go_simp
  refine hK.out _ _ ?_
  clear hK K
  refine wpList_loadG (by rfl) 32 _ rfl B3 0 (by rfl) [.int .u64 (s' 0).x0, .int .u64 (s' 0).x1, .int .u64 (s' 0).x2, .int .u64 (s' 0).x3] _ (D0.out _ BZ.out) UL.out rfl (i4L _) ?_
  simp only [Act.put, List.setIfInBounds_toArray, List.set_cons_zero, List.set_cons_succ]
  refine wpList_want (by rfl) (fun K hK => ?_)
  go_simp
  refine (C0.out _ BZ.out).mono ?_
  rintro e w0 ⟨rfl, hb⟩
  dsimp only
  refine hK.out _ _ ?_
  clear hK K C0 A0 D0
  try simp only [Act.put, List.setIfInBounds_toArray, List.set_cons_zero, List.set_cons_succ]
  replace BZ := hidden (bl_trans BZ.out hb)
  clear hb
  refine wpList_wantH (by rfl) (fun K hK => ?_)
  go_simp
  refine hK.out _ _ ?_
  clear hK K
  (iterate 5 (refine wpList_skipH (by rfl) ?_; simp only [Act.put, List.setIfInBounds_toArray, List.set_cons_zero, List.set_cons_succ]))
  refine ⟨?_⟩
  refine wpList_want (by rfl) (fun K hK => ?_)
  go_simp
  refine hK.out _ _ ?_
  clear hK K
  refine wpList_wantH (by rfl) (fun K hK => ?_)
  go_simp
  refine hK.out _ _ ?_
  clear hK K
  (iterate 5 (refine wpList_skipH (by rfl) ?_; simp only [Act.put, List.setIfInBounds_toArray, List.set_cons_zero, List.set_cons_succ]))
  refine ⟨?_⟩
  refine wpList_want (by rfl) (fun K hK => ?_)
  go_simp
  refine hK.out _ _ ?_
  clear hK K
  refine wpList_wantH (by rfl) (fun K hK => ?_)
  go_simp
  refine hK.out _ _ ?_
  clear hK K
  (iterate 5 (refine wpList_skipH (by rfl) ?_; simp only [Act.put, List.setIfInBounds_toArray, List.set_cons_zero, List.set_cons_succ]))
  refine ⟨?_⟩
  refine wpList_want (by rfl) (fun K hK => ?_)
  go_simp
  refine hK.out _ _ ?_
  clear hK K
  refine wpList_wantH (by rfl) (fun K hK => ?_)
  go_simp
  refine hK.out _ _ ?_
  clear hK K
  (iterate 6 (refine wpList_skipH (by rfl) ?_; simp only [Act.put, List.setIfInBounds_toArray, List.set_cons_zero, List.set_cons_succ]))
  refine ⟨?_⟩
  refine wpList_want (by rfl) (fun K hK => ?_)
  go_simp
  refine hK.out _ _ ?_
  clear hK K
  refine wpList_wantH (by rfl) (fun K hK => ?_)
  go_simp
  refine hK.out _ _ ?_
  clear hK K
  (iterate 6 (refine wpList_skipH (by rfl) ?_; simp only [Act.put, List.setIfInBounds_toArray, List.set_cons_zero, List.set_cons_succ]))
  refine ⟨?_⟩
  refine wpList_want (by rfl) (fun K hK => ?_)
  go_simp
  refine hK.out _ _ ?_
  clear hK K
  refine wpList_wantH (by rfl) (fun K hK => ?_)
  go_simp
  refine hK.out _ _ ?_
  clear hK K
  (iterate 6 (refine wpList_skipH (by rfl) ?_; simp only [Act.put, List.setIfInBounds_toArray, List.set_cons_zero, List.set_cons_succ]))
  refine ⟨?_⟩
  refine wpList_want (by rfl) (fun K hK => ?_)
  go_simp
  refine hK.out _ _ ?_
  clear hK K
  refine wpList_wantH (by rfl) (fun K hK => ?_)
  go_simp
  refine hK.out _ _ ?_
  clear hK K
  (iterate 6 (refine wpList_skipH (by rfl) ?_; simp only [Act.put, List.setIfInBounds_toArray, List.set_cons_zero, List.set_cons_succ]))
  refine ⟨?_⟩
  refine wpList_want (by rfl) (fun K hK => ?_)
  go_simp
  refine hK.out _ _ ?_
  clear hK K
  refine wpList_wantH (by rfl) (fun K hK => ?_)
  go_simp
  refine hK.out _ _ ?_
  clear hK K
  (iterate 6 (refine wpList_skipH (by rfl) ?_; simp only [Act.put, List.setIfInBounds_toArray, List.set_cons_zero, List.set_cons_succ]))
  refine ⟨?_⟩
  refine wpList_want (by rfl) (fun K hK => ?_)
  go_simp
  refine hK.out _ _ ?_
  clear hK K
  refine wpList_want (by rfl) (fun K hK => ?_)
  go_simp
  refine hK.out _ _ ?_
  clear hK K
  exact HQ.out _ _ _ _ _ _ _ _ _ _ _ _ _ _ _ _ _ _ _ _ _ _ _ _ _ _ _ _ _ _ _ _ _ _ _ _ _ _ _ _ _ _ _ _ _ _ _ _ _ _ _ _ _ _ _ _ _ _ _ _ _ _ _ _ _ _ _ BZ.out
set_option maxRecDepth 100000 in
set_option maxHeartbeats 16000000 in
theorem al9_1 (Q : Exit → Act → World → Prop) (B2 B3 : Nat) (s s' : Nat → E4) (u0 u1 u4 u5 u7 u8 u9 u10 u11 u12 u13 u14 u15 u16 u17 u18 u19 u20 u21 u22 u23 u24 u25 u26 u27 u28 u29 u30 u31 u32 u33 u34 u35 u36 u37 u38 u39 u40 u41 u42 u43 u44 u45 u46 u47 u48 u49 u50 u51 u52 u53 u54 u55 u56 u57 u58 u59 u60 u61 u62 u63 u64 u65 u66 u67 u68 u69 u70 u71 u72 u73 u74 u75 u76 u77 u78 u79 u80 u81 u82 u83 u84 u85 u86 u87 u88 u89 u90 u91 u92 u93 u94 u95 u96 u97 u98 u99 u100 u101 u102 u103 u104 u105 u106 u107 u108 u109 u110 u111 u112 u113 u114 u115 u116 u117 u118 u119 u120 u121 : Value) (W : World)
    (C0 : Hid (∀ x, Below W.heap.size W x → Calls Tryd.prog 21 #[.agg #[.int .u64 (s 0).x0, .int .u64 (s 0).x1, .int .u64 (s 0).x2, .int .u64 (s 0).x3], .agg #[.int .u64 (s' 0).x0, .int .u64 (s' 0).x1, .int .u64 (s' 0).x2, .int .u64 (s' 0).x3]] x fun e w' => e = .returned (.bool true) ∧ Below x.heap.size x w')) (A0 : Hid (∀ x, Below W.heap.size W x → x.rangeAt B2 0 [.int .u64 (s 0).x0, .int .u64 (s 0).x1, .int .u64 (s 0).x2, .int .u64 (s 0).x3])) (D0 : Hid (∀ x, Below W.heap.size W x → x.rangeAt B3 0 [.int .u64 (s' 0).x0, .int .u64 (s' 0).x1, .int .u64 (s' 0).x2, .int .u64 (s' 0).x3])) (C1 : Hid (∀ x, Below W.heap.size W x → Calls Tryd.prog 21 #[.agg #[.int .u64 (s 1).x0, .int .u64 (s 1).x1, .int .u64 (s 1).x2, .int .u64 (s 1).x3], .agg #[.int .u64 (s' 1).x0, .int .u64 (s' 1).x1, .int .u64 (s' 1).x2, .int .u64 (s' 1).x3]] x fun e w' => e = .returned (.bool false) ∧ Below x.heap.size x w')) (A1 : Hid (∀ x, Below W.heap.size W x → x.rangeAt B2 4 [.int .u64 (s 1).x0, .int .u64 (s 1).x1, .int .u64 (s 1).x2, .int .u64 (s 1).x3])) (D1 : Hid (∀ x, Below W.heap.size W x → x.rangeAt B3 4 [.int .u64 (s' 1).x0, .int .u64 (s' 1).x1, .int .u64 (s' 1).x2, .int .u64 (s' 1).x3]))
    (HQ : Hid (∀ (z56 z57 z58 z59 z60 z61 z62 z63 z64 z65 z66 z67 z68 z69 z70 z71 z72 z73 z74 z75 z76 z77 z78 z79 z80 z81 z82 z83 z84 z85 z86 z87 z88 z89 z90 z91 z92 z93 z94 z95 z96 z97 z98 z99 z100 z101 z102 z103 z104 z105 z106 z107 z108 z109 z110 z111 z112 z113 z114 z115 z116 z117 z118 z119 z120 z121 : Value) wz, Below W.heap.size W wz → Q .normal ⟨#[u0, u1, .pointer (some ⟨B2, 0, none⟩), .pointer (some ⟨B3, 0, none⟩), .bool false, u5, .func (.func 22) #[] #[], u7, u8, u9, u10, u11, u12, u13, u14, u15, u16, u17, u18, u19, u20, u21, u22, u23, u24, u25, u26, u27, u28, u29, u30, u31, u32, u33, u34, u35, u36, u37, u38, u39, u40, u41, u42, u43, u44, u45, u46, u47, u48, u49, u50, u51, u52, u53, u54, u55, z56, z57, z58, z59, z60, z61, z62, z63, z64, z65, z66, z67, z68, z69, z70, z71, z72, z73, z74, z75, z76, z77, z78, z79, z80, z81, z82, z83, z84, z85, z86, z87, z88, z89, z90, z91, z92, z93, z94, z95, z96, z97, z98, z99, z100, z101, z102, z103, z104, z105, z106, z107, z108, z109, z110, z111, z112, z113, z114, z115, z116, z117, z118, z119, z120, z121], []⟩ wz)) : (Code.region 9 al9o false).wp Tryd.prog Q ⟨#[u0, u1, .pointer (some ⟨B2, 0, none⟩), .pointer (some ⟨B3, 0, none⟩), u4, u5, .func (.func 22) #[] #[], u7, u8, u9, u10, u11, u12, u13, u14, u15, u16, u17, u18, u19, u20, u21, u22, u23, u24, u25, u26, u27, u28, u29, u30, u31, u32, u33, u34, u35, u36, u37, u38, u39, u40, u41, u42, u43, u44, u45, u46, u47, u48, u49, u50, u51, u52, u53, u54, u55, u56, u57, u58, u59, u60, u61, u62, u63, u64, u65, u66, u67, u68, u69, u70, u71, u72, u73, u74, u75, u76, u77, u78, u79, u80, u81, u82, u83, u84, u85, u86, u87, u88, u89, u90, u91, u92, u93, u94, u95, u96, u97, u98, u99, u100, u101, u102, u103, u104, u105, u106, u107, u108, u109, u110, u111, u112, u113, u114, u115, u116, u117, u118, u119, u120, u121], []⟩ W := by
  have UL : Hid (Tryd.prog.underlying 32 = _) := hidden Tryd.underlying32
  have US : Hid (Tryd.prog.underlying 24 = _) := hidden Tryd.underlying24
  have BZ := hidden (Below.refl W.heap.size W)
  unfold al9o
  refine wp_region_lit ?_
  refine wpList_want (by rfl) (fun K hK => ?_)
  go_simp
  refine hK.out _ _ ?_
  clear hK K
  refine wpList_loadG (by rfl) 32 _ rfl B2 0 (by rfl) [.int .u64 (s 0).x0, .int .u64 (s 0).x1, .int .u64 (s 0).x2, .int .u64 (s 0).x3] _ (A0.out _ BZ.out) UL.out rfl (i4L _) ?_
  simp only [Act.put, List.setIfInBounds_toArray, List.set_cons_zero, List.set_cons_succ]
  refine wpList_want (by rfl) (fun K hK => ?_)
  go_simp
  refine hK.out _ _ ?_
  clear hK K
  refine wpList_loadG (by rfl) 32 _ rfl B3 0 (by rfl) [.int .u64 (s' 0).x0, .int .u64 (s' 0).x1, .int .u64 (s' 0).x2, .int .u64 (s' 0).x3] _ (D0.out _ BZ.out) UL.out rfl (i4L _) ?_
  simp only [Act.put, List.setIfInBounds_toArray, List.set_cons_zero, List.set_cons_succ]
  refine wpList_want (by rfl) (fun K hK => ?_)
  go_simp
  refine (C0.out _ BZ.out).mono ?_
  rintro e w0 ⟨rfl, hb⟩
  dsimp only
  refine hK.out _ _ ?_
  clear hK K C0 A0 D0
  try simp only [Act.put, List.setIfInBounds_toArray, List.set_cons_zero, List.set_cons_succ]
  replace BZ := hidden (bl_trans BZ.out hb)
  clear hb
  refine wpList_want (by rfl) (fun K hK => ?_)
  go_simp
  refine hK.out _ _ ?_
  clear hK K
  refine wpList_want (by rfl) (fun K hK => ?_)
  go_simp
  refine hK.out _ _ ?_
  clear hK K
  refine wpList_loadG (by rfl) 32 _ rfl B2 4 (by rfl) [.int .u64 (s 1).x0, .int .u64 (s 1).x1, .int .u64 (s 1).x2, .int .u64 (s 1).x3] _ (A1.out _ BZ.out) UL.out rfl (i4L _) ?_
  simp only [Act.put, List.setIfInBounds_toArray, List.set_cons_zero, List.set_cons_succ]
  refine wpList_want (by rfl) (fun K hK => ?_)
  go_simp
  refine hK.out _ _ ?_
  clear hK K
  refine wpList_loadG (by rfl) 32 _ rfl B3 4 (by rfl) [.int .u64 (s' 1).x0, .int .u64 (s' 1).x1, .int .u64 (s' 1).x2, .int .u64 (s' 1).x3] _ (D1.out _ BZ.out) UL.out rfl (i4L _) ?_
  simp only [Act.put, List.setIfInBounds_toArray, List.set_cons_zero, List.set_cons_succ]
  refine wpList_want (by rfl) (fun K hK => ?_)
  go_simp
  refine (C1.out _ BZ.out).mono ?_
  rintro e w1 ⟨rfl, hb⟩
  dsimp only
  refine hK.out _ _ ?_
  clear hK K C1 A1 D1
  try simp only [Act.put, List.setIfInBounds_toArray, List.set_cons_zero, List.set_cons_succ]
  replace BZ := hidden (bl_trans BZ.out hb)
  clear hb
  refine wpList_want (by rfl) (fun K hK => ?_)
  go_simp
  refine hK.out _ _ ?_
  clear hK K
  refine wpList_wantH (by rfl) (fun K hK => ?_)
  go_simp
  refine hK.out _ _ ?_
  clear hK K
  (iterate 5 (refine wpList_skipH (by rfl) ?_; simp only [Act.put, List.setIfInBounds_toArray, List.set_cons_zero, List.set_cons_succ]))
  refine ⟨?_⟩
  refine wpList_want (by rfl) (fun K hK => ?_)
  go_simp
  refine hK.out _ _ ?_
  clear hK K
  refine wpList_wantH (by rfl) (fun K hK => ?_)
  go_simp
  refine hK.out _ _ ?_
  clear hK K
  (iterate 5 (refine wpList_skipH (by rfl) ?_; simp only [Act.put, List.setIfInBounds_toArray, List.set_cons_zero, List.set_cons_succ]))
  refine ⟨?_⟩
  refine wpList_want (by rfl) (fun K hK => ?_)
  go_simp
  refine hK.out _ _ ?_
  clear hK K
  refine wpList_wantH (by rfl) (fun K hK => ?_)
  go_simp
  refine hK.out _ _ ?_
  clear hK K
  (iterate 6 (refine wpList_skipH (by rfl) ?_; simp only [Act.put, List.setIfInBounds_toArray, List.set_cons_zero, List.set_cons_succ]))
  refine ⟨?_⟩
  refine wpList_want (by rfl) (fun K hK => ?_)
  go_simp
  refine hK.out _ _ ?_
  clear hK K
  refine wpList_wantH (by rfl) (fun K hK => ?_)
  go_simp
  refine hK.out _ _ ?_
  clear hK K
  (iterate 6 (refine wpList_skipH (by rfl) ?_; simp only [Act.put, List.setIfInBounds_toArray, List.set_cons_zero, List.set_cons_succ]))
  refine ⟨?_⟩
  refine wpList_want (by rfl) (fun K hK => ?_)
  go_simp
  refine hK.out _ _ ?_
  clear hK K
  refine wpList_wantH (by rfl) (fun K hK => ?_)
  go_simp
  refine hK.out _ _ ?_
  clear hK K
  (iterate 6 (refine wpList_skipH (by rfl) ?_; simp only [Act.put, List.setIfInBounds_toArray, List.set_cons_zero, List.set_cons_succ]))
  refine ⟨?_⟩
  refine wpList_want (by rfl) (fun K hK => ?_)
  go_simp
  refine hK.out _ _ ?_
  clear hK K
  refine wpList_wantH (by rfl) (fun K hK => ?_)
  go_simp
  refine hK.out _ _ ?_
  clear hK K
  (iterate 6 (refine wpList_skipH (by rfl) ?_; simp only [Act.put, List.setIfInBounds_toArray, List.set_cons_zero, List.set_cons_succ]))
  refine ⟨?_⟩
  refine wpList_want (by rfl) (fun K hK => ?_)
  go_simp
  refine hK.out _ _ ?_
  clear hK K
  refine wpList_wantH (by rfl) (fun K hK => ?_)
  go_simp
  refine hK.out _ _ ?_
  clear hK K
  (iterate 6 (refine wpList_skipH (by rfl) ?_; simp only [Act.put, List.setIfInBounds_toArray, List.set_cons_zero, List.set_cons_succ]))
  refine ⟨?_⟩
  refine wpList_want (by rfl) (fun K hK => ?_)
  go_simp
  refine hK.out _ _ ?_
  clear hK K
  refine wpList_want (by rfl) (fun K hK => ?_)
  go_simp
  refine hK.out _ _ ?_
  clear hK K
  exact HQ.out _ _ _ _ _ _ _ _ _ _ _ _ _ _ _ _ _ _ _ _ _ _ _ _ _ _ _ _ _ _ _ _ _ _ _ _ _ _ _ _ _ _ _ _ _ _ _ _ _ _ _ _ _ _ _ _ _ _ _ _ _ _ _ _ _ _ _ BZ.out
set_option maxRecDepth 100000 in
set_option maxHeartbeats 16000000 in
theorem al9_2 (Q : Exit → Act → World → Prop) (B2 B3 : Nat) (s s' : Nat → E4) (u0 u1 u4 u5 u7 u8 u9 u10 u11 u12 u13 u14 u15 u16 u17 u18 u19 u20 u21 u22 u23 u24 u25 u26 u27 u28 u29 u30 u31 u32 u33 u34 u35 u36 u37 u38 u39 u40 u41 u42 u43 u44 u45 u46 u47 u48 u49 u50 u51 u52 u53 u54 u55 u56 u57 u58 u59 u60 u61 u62 u63 u64 u65 u66 u67 u68 u69 u70 u71 u72 u73 u74 u75 u76 u77 u78 u79 u80 u81 u82 u83 u84 u85 u86 u87 u88 u89 u90 u91 u92 u93 u94 u95 u96 u97 u98 u99 u100 u101 u102 u103 u104 u105 u106 u107 u108 u109 u110 u111 u112 u113 u114 u115 u116 u117 u118 u119 u120 u121 : Value) (W : World)
    (C0 : Hid (∀ x, Below W.heap.size W x → Calls Tryd.prog 21 #[.agg #[.int .u64 (s 0).x0, .int .u64 (s 0).x1, .int .u64 (s 0).x2, .int .u64 (s 0).x3], .agg #[.int .u64 (s' 0).x0, .int .u64 (s' 0).x1, .int .u64 (s' 0).x2, .int .u64 (s' 0).x3]] x fun e w' => e = .returned (.bool true) ∧ Below x.heap.size x w')) (A0 : Hid (∀ x, Below W.heap.size W x → x.rangeAt B2 0 [.int .u64 (s 0).x0, .int .u64 (s 0).x1, .int .u64 (s 0).x2, .int .u64 (s 0).x3])) (D0 : Hid (∀ x, Below W.heap.size W x → x.rangeAt B3 0 [.int .u64 (s' 0).x0, .int .u64 (s' 0).x1, .int .u64 (s' 0).x2, .int .u64 (s' 0).x3])) (C1 : Hid (∀ x, Below W.heap.size W x → Calls Tryd.prog 21 #[.agg #[.int .u64 (s 1).x0, .int .u64 (s 1).x1, .int .u64 (s 1).x2, .int .u64 (s 1).x3], .agg #[.int .u64 (s' 1).x0, .int .u64 (s' 1).x1, .int .u64 (s' 1).x2, .int .u64 (s' 1).x3]] x fun e w' => e = .returned (.bool true) ∧ Below x.heap.size x w')) (A1 : Hid (∀ x, Below W.heap.size W x → x.rangeAt B2 4 [.int .u64 (s 1).x0, .int .u64 (s 1).x1, .int .u64 (s 1).x2, .int .u64 (s 1).x3])) (D1 : Hid (∀ x, Below W.heap.size W x → x.rangeAt B3 4 [.int .u64 (s' 1).x0, .int .u64 (s' 1).x1, .int .u64 (s' 1).x2, .int .u64 (s' 1).x3])) (C2 : Hid (∀ x, Below W.heap.size W x → Calls Tryd.prog 21 #[.agg #[.int .u64 (s 2).x0, .int .u64 (s 2).x1, .int .u64 (s 2).x2, .int .u64 (s 2).x3], .agg #[.int .u64 (s' 2).x0, .int .u64 (s' 2).x1, .int .u64 (s' 2).x2, .int .u64 (s' 2).x3]] x fun e w' => e = .returned (.bool false) ∧ Below x.heap.size x w')) (A2 : Hid (∀ x, Below W.heap.size W x → x.rangeAt B2 8 [.int .u64 (s 2).x0, .int .u64 (s 2).x1, .int .u64 (s 2).x2, .int .u64 (s 2).x3])) (D2 : Hid (∀ x, Below W.heap.size W x → x.rangeAt B3 8 [.int .u64 (s' 2).x0, .int .u64 (s' 2).x1, .int .u64 (s' 2).x2, .int .u64 (s' 2).x3]))
    (HQ : Hid (∀ (z56 z57 z58 z59 z60 z61 z62 z63 z64 z65 z66 z67 z68 z69 z70 z71 z72 z73 z74 z75 z76 z77 z78 z79 z80 z81 z82 z83 z84 z85 z86 z87 z88 z89 z90 z91 z92 z93 z94 z95 z96 z97 z98 z99 z100 z101 z102 z103 z104 z105 z106 z107 z108 z109 z110 z111 z112 z113 z114 z115 z116 z117 z118 z119 z120 z121 : Value) wz, Below W.heap.size W wz → Q .normal ⟨#[u0, u1, .pointer (some ⟨B2, 0, none⟩), .pointer (some ⟨B3, 0, none⟩), .bool false, u5, .func (.func 22) #[] #[], u7, u8, u9, u10, u11, u12, u13, u14, u15, u16, u17, u18, u19, u20, u21, u22, u23, u24, u25, u26, u27, u28, u29, u30, u31, u32, u33, u34, u35, u36, u37, u38, u39, u40, u41, u42, u43, u44, u45, u46, u47, u48, u49, u50, u51, u52, u53, u54, u55, z56, z57, z58, z59, z60, z61, z62, z63, z64, z65, z66, z67, z68, z69, z70, z71, z72, z73, z74, z75, z76, z77, z78, z79, z80, z81, z82, z83, z84, z85, z86, z87, z88, z89, z90, z91, z92, z93, z94, z95, z96, z97, z98, z99, z100, z101, z102, z103, z104, z105, z106, z107, z108, z109, z110, z111, z112, z113, z114, z115, z116, z117, z118, z119, z120, z121], []⟩ wz)) : (Code.region 9 al9o false).wp Tryd.prog Q ⟨#[u0, u1, .pointer (some ⟨B2, 0, none⟩), .pointer (some ⟨B3, 0, none⟩), u4, u5, .func (.func 22) #[] #[], u7, u8, u9, u10, u11, u12, u13, u14, u15, u16, u17, u18, u19, u20, u21, u22, u23, u24, u25, u26, u27, u28, u29, u30, u31, u32, u33, u34, u35, u36, u37, u38, u39, u40, u41, u42, u43, u44, u45, u46, u47, u48, u49, u50, u51, u52, u53, u54, u55, u56, u57, u58, u59, u60, u61, u62, u63, u64, u65, u66, u67, u68, u69, u70, u71, u72, u73, u74, u75, u76, u77, u78, u79, u80, u81, u82, u83, u84, u85, u86, u87, u88, u89, u90, u91, u92, u93, u94, u95, u96, u97, u98, u99, u100, u101, u102, u103, u104, u105, u106, u107, u108, u109, u110, u111, u112, u113, u114, u115, u116, u117, u118, u119, u120, u121], []⟩ W := by
  have UL : Hid (Tryd.prog.underlying 32 = _) := hidden Tryd.underlying32
  have US : Hid (Tryd.prog.underlying 24 = _) := hidden Tryd.underlying24
  have BZ := hidden (Below.refl W.heap.size W)
  unfold al9o
  refine wp_region_lit ?_
  refine wpList_want (by rfl) (fun K hK => ?_)
  go_simp
  refine hK.out _ _ ?_
  clear hK K
  refine wpList_loadG (by rfl) 32 _ rfl B2 0 (by rfl) [.int .u64 (s 0).x0, .int .u64 (s 0).x1, .int .u64 (s 0).x2, .int .u64 (s 0).x3] _ (A0.out _ BZ.out) UL.out rfl (i4L _) ?_
  simp only [Act.put, List.setIfInBounds_toArray, List.set_cons_zero, List.set_cons_succ]
  refine wpList_want (by rfl) (fun K hK => ?_)
  go_simp
  refine hK.out _ _ ?_
  clear hK K
  refine wpList_loadG (by rfl) 32 _ rfl B3 0 (by rfl) [.int .u64 (s' 0).x0, .int .u64 (s' 0).x1, .int .u64 (s' 0).x2, .int .u64 (s' 0).x3] _ (D0.out _ BZ.out) UL.out rfl (i4L _) ?_
  simp only [Act.put, List.setIfInBounds_toArray, List.set_cons_zero, List.set_cons_succ]
  refine wpList_want (by rfl) (fun K hK => ?_)
  go_simp
  refine (C0.out _ BZ.out).mono ?_
  rintro e w0 ⟨rfl, hb⟩
  dsimp only
  refine hK.out _ _ ?_
  clear hK K C0 A0 D0
  try simp only [Act.put, List.setIfInBounds_toArray, List.set_cons_zero, List.set_cons_succ]
  replace BZ := hidden (bl_trans BZ.out hb)
  clear hb
  refine wpList_want (by rfl) (fun K hK => ?_)
  go_simp
  refine hK.out _ _ ?_
  clear hK K
  refine wpList_want (by rfl) (fun K hK => ?_)
  go_simp
  refine hK.out _ _ ?_
  clear hK K
  refine wpList_loadG (by rfl) 32 _ rfl B2 4 (by rfl) [.int .u64 (s 1).x0, .int .u64 (s 1).x1, .int .u64 (s 1).x2, .int .u64 (s 1).x3] _ (A1.out _ BZ.out) UL.out rfl (i4L _) ?_
  simp only [Act.put, List.setIfInBounds_toArray, List.set_cons_zero, List.set_cons_succ]
  refine wpList_want (by rfl) (fun K hK => ?_)
  go_simp
  refine hK.out _ _ ?_
  clear hK K
  refine wpList_loadG (by rfl) 32 _ rfl B3 4 (by rfl) [.int .u64 (s' 1).x0, .int .u64 (s' 1).x1, .int .u64 (s' 1).x2, .int .u64 (s' 1).x3] _ (D1.out _ BZ.out) UL.out rfl (i4L _) ?_
  simp only [Act.put, List.setIfInBounds_toArray, List.set_cons_zero, List.set_cons_succ]
  refine wpList_want (by rfl) (fun K hK => ?_)
  go_simp
  refine (C1.out _ BZ.out).mono ?_
  rintro e w1 ⟨rfl, hb⟩
  dsimp only
  refine hK.out _ _ ?_
  clear hK K C1 A1 D1
  try simp only [Act.put, List.setIfInBounds_toArray, List.set_cons_zero, List.set_cons_succ]
  replace BZ := hidden (bl_trans BZ.out hb)
  clear hb
  (iterate 2 (refine wpList_want (by rfl) (fun K hK => ?_); go_simp; refine hK.out _ _ ?_; clear hK K))
  refine wpList_want (by rfl) (fun K hK => ?_)
  go_simp
  refine hK.out _ _ ?_
  clear hK K
  refine wpList_loadG (by rfl) 32 _ rfl B2 8 (by rfl) [.int .u64 (s 2).x0, .int .u64 (s 2).x1, .int .u64 (s 2).x2, .int .u64 (s 2).x3] _ (A2.out _ BZ.out) UL.out rfl (i4L _) ?_
  simp only [Act.put, List.setIfInBounds_toArray, List.set_cons_zero, List.set_cons_succ]
  refine wpList_want (by rfl) (fun K hK => ?_)
  go_simp
  refine hK.out _ _ ?_
  clear hK K
  refine wpList_loadG (by rfl) 32 _ rfl B3 8 (by rfl) [.int .u64 (s' 2).x0, .int .u64 (s' 2).x1, .int .u64 (s' 2).x2, .int .u64 (s' 2).x3] _ (D2.out _ BZ.out) UL.out rfl (i4L _) ?_
  simp only [Act.put, List.setIfInBounds_toArray, List.set_cons_zero, List.set_cons_succ]
  refine wpList_want (by rfl) (fun K hK => ?_)
  go_simp
  refine (C2.out _ BZ.out).mono ?_
  rintro e w2 ⟨rfl, hb⟩
  dsimp only
  refine hK.out _ _ ?_
  clear hK K C2 A2 D2
  try simp only [Act.put, List.setIfInBounds_toArray, List.set_cons_zero, List.set_cons_succ]
  replace BZ := hidden (bl_trans BZ.out hb)
  clear hb
  refine wpList_want (by rfl) (fun K hK => ?_)
  go_simp
  refine hK.out _ _ ?_
  clear hK K
  refine wpList_wantH (by rfl) (fun K hK => ?_)
  go_simp
  refine hK.out _ _ ?_
  clear hK K
  (iterate 5 (refine wpList_skipH (by rfl) ?_; simp only [Act.put, List.setIfInBounds_toArray, List.set_cons_zero, List.set_cons_succ]))
  refine ⟨?_⟩
  refine wpList_want (by rfl) (fun K hK => ?_)
  go_simp
  refine hK.out _ _ ?_
  clear hK K
  refine wpList_wantH (by rfl) (fun K hK => ?_)
  go_simp
  refine hK.out _ _ ?_
  clear hK K
  (iterate 6 (refine wpList_skipH (by rfl) ?_; simp only [Act.put, List.setIfInBounds_toArray, List.set_cons_zero, List.set_cons_succ]))
  refine ⟨?_⟩
  refine wpList_want (by rfl) (fun K hK => ?_)
  go_simp
  refine hK.out _ _ ?_
  clear hK K
  refine wpList_wantH (by rfl) (fun K hK => ?_)
  go_simp
  refine hK.out _ _ ?_
  clear hK K
  (iterate 6 (refine wpList_skipH (by rfl) ?_; simp only [Act.put, List.setIfInBounds_toArray, List.set_cons_zero, List.set_cons_succ]))
  refine ⟨?_⟩
  refine wpList_want (by rfl) (fun K hK => ?_)
  go_simp
  refine hK.out _ _ ?_
  clear hK K
  refine wpList_wantH (by rfl) (fun K hK => ?_)
  go_simp
  refine hK.out _ _ ?_
  clear hK K
  (iterate 6 (refine wpList_skipH (by rfl) ?_; simp only [Act.put, List.setIfInBounds_toArray, List.set_cons_zero, List.set_cons_succ]))
  refine ⟨?_⟩
  refine wpList_want (by rfl) (fun K hK => ?_)
  go_simp
  refine hK.out _ _ ?_
  clear hK K
  refine wpList_wantH (by rfl) (fun K hK => ?_)
  go_simp
  refine hK.out _ _ ?_
  clear hK K
  (iterate 6 (refine wpList_skipH (by rfl) ?_; simp only [Act.put, List.setIfInBounds_toArray, List.set_cons_zero, List.set_cons_succ]))
  refine ⟨?_⟩
  refine wpList_want (by rfl) (fun K hK => ?_)
  go_simp
  refine hK.out _ _ ?_
  clear hK K
  refine wpList_wantH (by rfl) (fun K hK => ?_)
  go_simp
  refine hK.out _ _ ?_
  clear hK K
  (iterate 6 (refine wpList_skipH (by rfl) ?_; simp only [Act.put, List.setIfInBounds_toArray, List.set_cons_zero, List.set_cons_succ]))
  refine ⟨?_⟩
  refine wpList_want (by rfl) (fun K hK => ?_)
  go_simp
  refine hK.out _ _ ?_
  clear hK K
  refine wpList_want (by rfl) (fun K hK => ?_)
  go_simp
  refine hK.out _ _ ?_
  clear hK K
  exact HQ.out _ _ _ _ _ _ _ _ _ _ _ _ _ _ _ _ _ _ _ _ _ _ _ _ _ _ _ _ _ _ _ _ _ _ _ _ _ _ _ _ _ _ _ _ _ _ _ _ _ _ _ _ _ _ _ _ _ _ _ _ _ _ _ _ _ _ _ BZ.out
set_option maxRecDepth 100000 in
set_option maxHeartbeats 16000000 in
theorem al9_3 (Q : Exit → Act → World → Prop) (B2 B3 : Nat) (s s' : Nat → E4) (u0 u1 u4 u5 u7 u8 u9 u10 u11 u12 u13 u14 u15 u16 u17 u18 u19 u20 u21 u22 u23 u24 u25 u26 u27 u28 u29 u30 u31 u32 u33 u34 u35 u36 u37 u38 u39 u40 u41 u42 u43 u44 u45 u46 u47 u48 u49 u50 u51 u52 u53 u54 u55 u56 u57 u58 u59 u60 u61 u62 u63 u64 u65 u66 u67 u68 u69 u70 u71 u72 u73 u74 u75 u76 u77 u78 u79 u80 u81 u82 u83 u84 u85 u86 u87 u88 u89 u90 u91 u92 u93 u94 u95 u96 u97 u98 u99 u100 u101 u102 u103 u104 u105 u106 u107 u108 u109 u110 u111 u112 u113 u114 u115 u116 u117 u118 u119 u120 u121 : Value) (W : World)
    (C0 : Hid (∀ x, Below W.heap.size W x → Calls Tryd.prog 21 #[.agg #[.int .u64 (s 0).x0, .int .u64 (s 0).x1, .int .u64 (s 0).x2, .int .u64 (s 0).x3], .agg #[.int .u64 (s' 0).x0, .int .u64 (s' 0).x1, .int .u64 (s' 0).x2, .int .u64 (s' 0).x3]] x fun e w' => e = .returned (.bool true) ∧ Below x.heap.size x w')) (A0 : Hid (∀ x, Below W.heap.size W x → x.rangeAt B2 0 [.int .u64 (s 0).x0, .int .u64 (s 0).x1, .int .u64 (s 0).x2, .int .u64 (s 0).x3])) (D0 : Hid (∀ x, Below W.heap.size W x → x.rangeAt B3 0 [.int .u64 (s' 0).x0, .int .u64 (s' 0).x1, .int .u64 (s' 0).x2, .int .u64 (s' 0).x3])) (C1 : Hid (∀ x, Below W.heap.size W x → Calls Tryd.prog 21 #[.agg #[.int .u64 (s 1).x0, .int .u64 (s 1).x1, .int .u64 (s 1).x2, .int .u64 (s 1).x3], .agg #[.int .u64 (s' 1).x0, .int .u64 (s' 1).x1, .int .u64 (s' 1).x2, .int .u64 (s' 1).x3]] x fun e w' => e = .returned (.bool true) ∧ Below x.heap.size x w')) (A1 : Hid (∀ x, Below W.heap.size W x → x.rangeAt B2 4 [.int .u64 (s 1).x0, .int .u64 (s 1).x1, .int .u64 (s 1).x2, .int .u64 (s 1).x3])) (D1 : Hid (∀ x, Below W.heap.size W x → x.rangeAt B3 4 [.int .u64 (s' 1).x0, .int .u64 (s' 1).x1, .int .u64 (s' 1).x2, .int .u64 (s' 1).x3])) (C2 : Hid (∀ x, Below W.heap.size W x → Calls Tryd.prog 21 #[.agg #[.int .u64 (s 2).x0, .int .u64 (s 2).x1, .int .u64 (s 2).x2, .int .u64 (s 2).x3], .agg #[.int .u64 (s' 2).x0, .int .u64 (s' 2).x1, .int .u64 (s' 2).x2, .int .u64 (s' 2).x3]] x fun e w' => e = .returned (.bool true) ∧ Below x.heap.size x w')) (A2 : Hid (∀ x, Below W.heap.size W x → x.rangeAt B2 8 [.int .u64 (s 2).x0, .int .u64 (s 2).x1, .int .u64 (s 2).x2, .int .u64 (s 2).x3])) (D2 : Hid (∀ x, Below W.heap.size W x → x.rangeAt B3 8 [.int .u64 (s' 2).x0, .int .u64 (s' 2).x1, .int .u64 (s' 2).x2, .int .u64 (s' 2).x3])) (C3 : Hid (∀ x, Below W.heap.size W x → Calls Tryd.prog 21 #[.agg #[.int .u64 (s 3).x0, .int .u64 (s 3).x1, .int .u64 (s 3).x2, .int .u64 (s 3).x3], .agg #[.int .u64 (s' 3).x0, .int .u64 (s' 3).x1, .int .u64 (s' 3).x2, .int .u64 (s' 3).x3]] x fun e w' => e = .returned (.bool false) ∧ Below x.heap.size x w')) (A3 : Hid (∀ x, Below W.heap.size W x → x.rangeAt B2 12 [.int .u64 (s 3).x0, .int .u64 (s 3).x1, .int .u64 (s 3).x2, .int .u64 (s 3).x3])) (D3 : Hid (∀ x, Below W.heap.size W x → x.rangeAt B3 12 [.int .u64 (s' 3).x0, .int .u64 (s' 3).x1, .int .u64 (s' 3).x2, .int .u64 (s' 3).x3]))
    (HQ : Hid (∀ (z56 z57 z58 z59 z60 z61 z62 z63 z64 z65 z66 z67 z68 z69 z70 z71 z72 z73 z74 z75 z76 z77 z78 z79 z80 z81 z82 z83 z84 z85 z86 z87 z88 z89 z90 z91 z92 z93 z94 z95 z96 z97 z98 z99 z100 z101 z102 z103 z104 z105 z106 z107 z108 z109 z110 z111 z112 z113 z114 z115 z116 z117 z118 z119 z120 z121 : Value) wz, Below W.heap.size W wz → Q .normal ⟨#[u0, u1, .pointer (some ⟨B2, 0, none⟩), .pointer (some ⟨B3, 0, none⟩), .bool false, u5, .func (.func 22) #[] #[], u7, u8, u9, u10, u11, u12, u13, u14, u15, u16, u17, u18, u19, u20, u21, u22, u23, u24, u25, u26, u27, u28, u29, u30, u31, u32, u33, u34, u35, u36, u37, u38, u39, u40, u41, u42, u43, u44, u45, u46, u47, u48, u49, u50, u51, u52, u53, u54, u55, z56, z57, z58, z59, z60, z61, z62, z63, z64, z65, z66, z67, z68, z69, z70, z71, z72, z73, z74, z75, z76, z77, z78, z79, z80, z81, z82, z83, z84, z85, z86, z87, z88, z89, z90, z91, z92, z93, z94, z95, z96, z97, z98, z99, z100, z101, z102, z103, z104, z105, z106, z107, z108, z109, z110, z111, z112, z113, z114, z115, z116, z117, z118, z119, z120, z121], []⟩ wz)) : (Code.region 9 al9o false).wp Tryd.prog Q ⟨#[u0, u1, .pointer (some ⟨B2, 0, none⟩), .pointer (some ⟨B3, 0, none⟩), u4, u5, .func (.func 22) #[] #[], u7, u8, u9, u10, u11, u12, u13, u14, u15, u16, u17, u18, u19, u20, u21, u22, u23, u24, u25, u26, u27, u28, u29, u30, u31, u32, u33, u34, u35, u36, u37, u38, u39, u40, u41, u42, u43, u44, u45, u46, u47, u48, u49, u50, u51, u52, u53, u54, u55, u56, u57, u58, u59, u60, u61, u62, u63, u64, u65, u66, u67, u68, u69, u70, u71, u72, u73, u74, u75, u76, u77, u78, u79, u80, u81, u82, u83, u84, u85, u86, u87, u88, u89, u90, u91, u92, u93, u94, u95, u96, u97, u98, u99, u100, u101, u102, u103, u104, u105, u106, u107, u108, u109, u110, u111, u112, u113, u114, u115, u116, u117, u118, u119, u120, u121], []⟩ W := by
  have UL : Hid (Tryd.prog.underlying 32 = _) := hidden Tryd.underlying32
  have US : Hid (Tryd.prog.underlying 24 = _) := hidden Tryd.underlying24
  have BZ := hidden (Below.refl W.heap.size W)
  unfold al9o
  refine wp_region_lit ?_
  refine wpList_want (by rfl) (fun K hK => ?_)
  go_simp
  refine hK.out _ _ ?_
  clear hK K
  refine wpList_loadG (by rfl) 32 _ rfl B2 0 (by rfl) [.int .u64 (s 0).x0, .int .u64 (s 0).x1, .int .u64 (s 0).x2, .int .u64 (s 0).x3] _ (A0.out _ BZ.out) UL.out rfl (i4L _) ?_
  simp only [Act.put, List.setIfInBounds_toArray, List.set_cons_zero, List.set_cons_succ]
  refine wpList_want (by rfl) (fun K hK => ?_)
  go_simp
  refine hK.out _ _ ?_
  clear hK K
  refine wpList_loadG (by rfl) 32 _ rfl B3 0 (by rfl) [.int .u64 (s' 0).x0, .int .u64 (s' 0).x1, .int .u64 (s' 0).x2, .int .u64 (s' 0).x3] _ (D0.out _ BZ.out) UL.out rfl (i4L _) ?_
  simp only [Act.put, List.setIfInBounds_toArray, List.set_cons_zero, List.set_cons_succ]
  refine wpList_want (by rfl) (fun K hK => ?_)
  go_simp
  refine (C0.out _ BZ.out).mono ?_
  rintro e w0 ⟨rfl, hb⟩
  dsimp only
  refine hK.out _ _ ?_
  clear hK K C0 A0 D0
  try simp only [Act.put, List.setIfInBounds_toArray, List.set_cons_zero, List.set_cons_succ]
  replace BZ := hidden (bl_trans BZ.out hb)
  clear hb
  refine wpList_want (by rfl) (fun K hK => ?_)
  go_simp
  refine hK.out _ _ ?_
  clear hK K
  refine wpList_want (by rfl) (fun K hK => ?_)
  go_simp
  refine hK.out _ _ ?_
  clear hK K
  refine wpList_loadG (by rfl) 32 _ rfl B2 4 (by rfl) [.int .u64 (s 1).x0, .int .u64 (s 1).x1, .int .u64 (s 1).x2, .int .u64 (s 1).x3] _ (A1.out _ BZ.out) UL.out rfl (i4L _) ?_
  simp only [Act.put, List.setIfInBounds_toArray, List.set_cons_zero, List.set_cons_succ]
  refine wpList_want (by rfl) (fun K hK => ?_)
  go_simp
  refine hK.out _ _ ?_
  clear hK K
  refine wpList_loadG (by rfl) 32 _ rfl B3 4 (by rfl) [.int .u64 (s' 1).x0, .int .u64 (s' 1).x1, .int .u64 (s' 1).x2, .int .u64 (s' 1).x3] _ (D1.out _ BZ.out) UL.out rfl (i4L _) ?_
  simp only [Act.put, List.setIfInBounds_toArray, List.set_cons_zero, List.set_cons_succ]
  refine wpList_want (by rfl) (fun K hK => ?_)
  go_simp
  refine (C1.out _ BZ.out).mono ?_
  rintro e w1 ⟨rfl, hb⟩
  dsimp only
  refine hK.out _ _ ?_
  clear hK K C1 A1 D1
  try simp only [Act.put, List.setIfInBounds_toArray, List.set_cons_zero, List.set_cons_succ]
  replace BZ := hidden (bl_trans BZ.out hb)
  clear hb
  (iterate 2 (refine wpList_want (by rfl) (fun K hK => ?_); go_simp; refine hK.out _ _ ?_; clear hK K))
  refine wpList_want (by rfl) (fun K hK => ?_)
  go_simp
  refine hK.out _ _ ?_
  clear hK K
  refine wpList_loadG (by rfl) 32 _ rfl B2 8 (by rfl) [.int .u64 (s 2).x0, .int .u64 (s 2).x1, .int .u64 (s 2).x2, .int .u64 (s 2).x3] _ (A2.out _ BZ.out) UL.out rfl (i4L _) ?_
  simp only [Act.put, List.setIfInBounds_toArray, List.set_cons_zero, List.set_cons_succ]
  refine wpList_want (by rfl) (fun K hK => ?_)
  go_simp
  refine hK.out _ _ ?_
  clear hK K
  refine wpList_loadG (by rfl) 32 _ rfl B3 8 (by rfl) [.int .u64 (s' 2).x0, .int .u64 (s' 2).x1, .int .u64 (s' 2).x2, .int .u64 (s' 2).x3] _ (D2.out _ BZ.out) UL.out rfl (i4L _) ?_
  simp only [Act.put, List.setIfInBounds_toArray, List.set_cons_zero, List.set_cons_succ]
  refine wpList_want (by rfl) (fun K hK => ?_)
  go_simp
  refine (C2.out _ BZ.out).mono ?_
  rintro e w2 ⟨rfl, hb⟩
  dsimp only
  refine hK.out _ _ ?_
  clear hK K C2 A2 D2
  try simp only [Act.put, List.setIfInBounds_toArray, List.set_cons_zero, List.set_cons_succ]
  replace BZ := hidden (bl_trans BZ.out hb)
  clear hb
  (iterate 2 (refine wpList_want (by rfl) (fun K hK => ?_); go_simp; refine hK.out _ _ ?_; clear hK K))
  refine wpList_want (by rfl) (fun K hK => ?_)
  go_simp
  refine hK.out _ _ ?_
  clear hK K
  refine wpList_loadG (by rfl) 32 _ rfl B2 12 (by rfl) [.int .u64 (s 3).x0, .int .u64 (s 3).x1, .int .u64 (s 3).x2, .int .u64 (s 3).x3] _ (A3.out _ BZ.out) UL.out rfl (i4L _) ?_
  simp only [Act.put, List.setIfInBounds_toArray, List.set_cons_zero, List.set_cons_succ]
  refine wpList_want (by rfl) (fun K hK => ?_)
  go_simp
  refine hK.out _ _ ?_
  clear hK K
  refine wpList_loadG (by rfl) 32 _ rfl B3 12 (by rfl) [.int .u64 (s' 3).x0, .int .u64 (s' 3).x1, .int .u64 (s' 3).x2, .int .u64 (s' 3).x3] _ (D3.out _ BZ.out) UL.out rfl (i4L _) ?_
  simp only [Act.put, List.setIfInBounds_toArray, List.set_cons_zero, List.set_cons_succ]
  refine wpList_want (by rfl) (fun K hK => ?_)
  go_simp
  refine (C3.out _ BZ.out).mono ?_
  rintro e w3 ⟨rfl, hb⟩
  dsimp only
  refine hK.out _ _ ?_
  clear hK K C3 A3 D3
  try simp only [Act.put, List.setIfInBounds_toArray, List.set_cons_zero, List.set_cons_succ]
  replace BZ := hidden (bl_trans BZ.out hb)
  clear hb
  refine wpList_want (by rfl) (fun K hK => ?_)
  go_simp
  refine hK.out _ _ ?_
  clear hK K
  refine wpList_wantH (by rfl) (fun K hK => ?_)
  go_simp
  refine hK.out _ _ ?_
  clear hK K
  (iterate 6 (refine wpList_skipH (by rfl) ?_; simp only [Act.put, List.setIfInBounds_toArray, List.set_cons_zero, List.set_cons_succ]))
  refine ⟨?_⟩
  refine wpList_want (by rfl) (fun K hK => ?_)
  go_simp
  refine hK.out _ _ ?_
  clear hK K
  refine wpList_wantH (by rfl) (fun K hK => ?_)
  go_simp
  refine hK.out _ _ ?_
  clear hK K
  (iterate 6 (refine wpList_skipH (by rfl) ?_; simp only [Act.put, List.setIfInBounds_toArray, List.set_cons_zero, List.set_cons_succ]))
  refine ⟨?_⟩
  refine wpList_want (by rfl) (fun K hK => ?_)
  go_simp
  refine hK.out _ _ ?_
  clear hK K
  refine wpList_wantH (by rfl) (fun K hK => ?_)
  go_simp
  refine hK.out _ _ ?_
  clear hK K
  (iterate 6 (refine wpList_skipH (by rfl) ?_; simp only [Act.put, List.setIfInBounds_toArray, List.set_cons_zero, List.set_cons_succ]))
  refine ⟨?_⟩
  refine wpList_want (by rfl) (fun K hK => ?_)
  go_simp
  refine hK.out _ _ ?_
  clear hK K
  refine wpList_wantH (by rfl) (fun K hK => ?_)
  go_simp
  refine hK.out _ _ ?_
  clear hK K
  (iterate 6 (refine wpList_skipH (by rfl) ?_; simp only [Act.put, List.setIfInBounds_toArray, List.set_cons_zero, List.set_cons_succ]))
  refine ⟨?_⟩
  refine wpList_want (by rfl) (fun K hK => ?_)
  go_simp
  refine hK.out _ _ ?_
  clear hK K
  refine wpList_wantH (by rfl) (fun K hK => ?_)
  go_simp
  refine hK.out _ _ ?_
  clear hK K
  (iterate 6 (refine wpList_skipH (by rfl) ?_; simp only [Act.put, List.setIfInBounds_toArray, List.set_cons_zero, List.set_cons_succ]))
  refine ⟨?_⟩
  refine wpList_want (by rfl) (fun K hK => ?_)
  go_simp
  refine hK.out _ _ ?_
  clear hK K
  refine wpList_want (by rfl) (fun K hK => ?_)
  go_simp
  refine hK.out _ _ ?_
  clear hK K
  exact HQ.out _ _ _ _ _ _ _ _ _ _ _ _ _ _ _ _ _ _ _ _ _ _ _ _ _ _ _ _ _ _ _ _ _ _ _ _ _ _ _ _ _ _ _ _ _ _ _ _ _ _ _ _ _ _ _ _ _ _ _ _ _ _ _ _ _ _ _ BZ.out
set_option maxRecDepth 100000 in
set_option maxHeartbeats 16000000 in
theorem al9_4 (Q : Exit → Act → World → Prop) (B2 B3 : Nat) (s s' : Nat → E4) (u0 u1 u4 u5 u7 u8 u9 u10 u11 u12 u13 u14 u15 u16 u17 u18 u19 u20 u21 u22 u23 u24 u25 u26 u27 u28 u29 u30 u31 u32 u33 u34 u35 u36 u37 u38 u39 u40 u41 u42 u43 u44 u45 u46 u47 u48 u49 u50 u51 u52 u53 u54 u55 u56 u57 u58 u59 u60 u61 u62 u63 u64 u65 u66 u67 u68 u69 u70 u71 u72 u73 u74 u75 u76 u77 u78 u79 u80 u81 u82 u83 u84 u85 u86 u87 u88 u89 u90 u91 u92 u93 u94 u95 u96 u97 u98 u99 u100 u101 u102 u103 u104 u105 u106 u107 u108 u109 u110 u111 u112 u113 u114 u115 u116 u117 u118 u119 u120 u121 : Value) (W : World)
    (C0 : Hid (∀ x, Below W.heap.size W x → Calls Tryd.prog 21 #[.agg #[.int .u64 (s 0).x0, .int .u64 (s 0).x1, .int .u64 (s 0).x2, .int .u64 (s 0).x3], .agg #[.int .u64 (s' 0).x0, .int .u64 (s' 0).x1, .int .u64 (s' 0).x2, .int .u64 (s' 0).x3]] x fun e w' => e = .returned (.bool true) ∧ Below x.heap.size x w')) (A0 : Hid (∀ x, Below W.heap.size W x → x.rangeAt B2 0 [.int .u64 (s 0).x0, .int .u64 (s 0).x1, .int .u64 (s 0).x2, .int .u64 (s 0).x3])) (D0 : Hid (∀ x, Below W.heap.size W x → x.rangeAt B3 0 [.int .u64 (s' 0).x0, .int .u64 (s' 0).x1, .int .u64 (s' 0).x2, .int .u64 (s' 0).x3])) (C1 : Hid (∀ x, Below W.heap.size W x → Calls Tryd.prog 21 #[.agg #[.int .u64 (s 1).x0, .int .u64 (s 1).x1, .int .u64 (s 1).x2, .int .u64 (s 1).x3], .agg #[.int .u64 (s' 1).x0, .int .u64 (s' 1).x1, .int .u64 (s' 1).x2, .int .u64 (s' 1).x3]] x fun e w' => e = .returned (.bool true) ∧ Below x.heap.size x w')) (A1 : Hid (∀ x, Below W.heap.size W x → x.rangeAt B2 4 [.int .u64 (s 1).x0, .int .u64 (s 1).x1, .int .u64 (s 1).x2, .int .u64 (s 1).x3])) (D1 : Hid (∀ x, Below W.heap.size W x → x.rangeAt B3 4 [.int .u64 (s' 1).x0, .int .u64 (s' 1).x1, .int .u64 (s' 1).x2, .int .u64 (s' 1).x3])) (C2 : Hid (∀ x, Below W.heap.size W x → Calls Tryd.prog 21 #[.agg #[.int .u64 (s 2).x0, .int .u64 (s 2).x1, .int .u64 (s 2).x2, .int .u64 (s 2).x3], .agg #[.int .u64 (s' 2).x0, .int .u64 (s' 2).x1, .int .u64 (s' 2).x2, .int .u64 (s' 2).x3]] x fun e w' => e = .returned (.bool true) ∧ Below x.heap.size x w')) (A2 : Hid (∀ x, Below W.heap.size W x → x.rangeAt B2 8 [.int .u64 (s 2).x0, .int .u64 (s 2).x1, .int .u64 (s 2).x2, .int .u64 (s 2).x3])) (D2 : Hid (∀ x, Below W.heap.size W x → x.rangeAt B3 8 [.int .u64 (s' 2).x0, .int .u64 (s' 2).x1, .int .u64 (s' 2).x2, .int .u64 (s' 2).x3])) (C3 : Hid (∀ x, Below W.heap.size W x → Calls Tryd.prog 21 #[.agg #[.int .u64 (s 3).x0, .int .u64 (s 3).x1, .int .u64 (s 3).x2, .int .u64 (s 3).x3], .agg #[.int .u64 (s' 3).x0, .int .u64 (s' 3).x1, .int .u64 (s' 3).x2, .int .u64 (s' 3).x3]] x fun e w' => e = .returned (.bool true) ∧ Below x.heap.size x w')) (A3 : Hid (∀ x, Below W.heap.size W x → x.rangeAt B2 12 [.int .u64 (s 3).x0, .int .u64 (s 3).x1, .int .u64 (s 3).x2, .int .u64 (s 3).x3])) (D3 : Hid (∀ x, Below W.heap.size W x → x.rangeAt B3 12 [.int .u64 (s' 3).x0, .int .u64 (s' 3).x1, .int .u64 (s' 3).x2, .int .u64 (s' 3).x3])) (C4 : Hid (∀ x, Below W.heap.size W x → Calls Tryd.prog 22 #[.agg #[.int .u64 (s 4).x0, .int .u64 (s 4).x1, .int .u64 (s 4).x2, .int .u64 (s 4).x3], .agg #[.int .u64 (s' 4).x0, .int .u64 (s' 4).x1, .int .u64 (s' 4).x2, .int .u64 (s' 4).x3]] x fun e w' => e = .returned (.bool false) ∧ Below x.heap.size x w')) (A4 : Hid (∀ x, Below W.heap.size W x → x.rangeAt B2 16 [.int .u64 (s 4).x0, .int .u64 (s 4).x1, .int .u64 (s 4).x2, .int .u64 (s 4).x3])) (D4 : Hid (∀ x, Below W.heap.size W x → x.rangeAt B3 16 [.int .u64 (s' 4).x0, .int .u64 (s' 4).x1, .int .u64 (s' 4).x2, .int .u64 (s' 4).x3]))
    (HQ : Hid (∀ (z56 z57 z58 z59 z60 z61 z62 z63 z64 z65 z66 z67 z68 z69 z70 z71 z72 z73 z74 z75 z76 z77 z78 z79 z80 z81 z82 z83 z84 z85 z86 z87 z88 z89 z90 z91 z92 z93 z94 z95 z96 z97 z98 z99 z100 z101 z102 z103 z104 z105 z106 z107 z108 z109 z110 z111 z112 z113 z114 z115 z116 z117 z118 z119 z120 z121 : Value) wz, Below W.heap.size W wz → Q .normal ⟨#[u0, u1, .pointer (some ⟨B2, 0, none⟩), .pointer (some ⟨B3, 0, none⟩), .bool false, u5, .func (.func 22) #[] #[], u7, u8, u9, u10, u11, u12, u13, u14, u15, u16, u17, u18, u19, u20, u21, u22, u23, u24, u25, u26, u27, u28, u29, u30, u31, u32, u33, u34, u35, u36, u37, u38, u39, u40, u41, u42, u43, u44, u45, u46, u47, u48, u49, u50, u51, u52, u53, u54, u55, z56, z57, z58, z59, z60, z61, z62, z63, z64, z65, z66, z67, z68, z69, z70, z71, z72, z73, z74, z75, z76, z77, z78, z79, z80, z81, z82, z83, z84, z85, z86, z87, z88, z89, z90, z91, z92, z93, z94, z95, z96, z97, z98, z99, z100, z101, z102, z103, z104, z105, z106, z107, z108, z109, z110, z111, z112, z113, z114, z115, z116, z117, z118, z119, z120, z121], []⟩ wz)) : (Code.region 9 al9o false).wp Tryd.prog Q ⟨#[u0, u1, .pointer (some ⟨B2, 0, none⟩), .pointer (some ⟨B3, 0, none⟩), u4, u5, .func (.func 22) #[] #[], u7, u8, u9, u10, u11, u12, u13, u14, u15, u16, u17, u18, u19, u20, u21, u22, u23, u24, u25, u26, u27, u28, u29, u30, u31, u32, u33, u34, u35, u36, u37, u38, u39, u40, u41, u42, u43, u44, u45, u46, u47, u48, u49, u50, u51, u52, u53, u54, u55, u56, u57, u58, u59, u60, u61, u62, u63, u64, u65, u66, u67, u68, u69, u70, u71, u72, u73, u74, u75, u76, u77, u78, u79, u80, u81, u82, u83, u84, u85, u86, u87, u88, u89, u90, u91, u92, u93, u94, u95, u96, u97, u98, u99, u100, u101, u102, u103, u104, u105, u106, u107, u108, u109, u110, u111, u112, u113, u114, u115, u116, u117, u118, u119, u120, u121], []⟩ W := by
  have UL : Hid (Tryd.prog.underlying 32 = _) := hidden Tryd.underlying32
  have US : Hid (Tryd.prog.underlying 24 = _) := hidden Tryd.underlying24
  have BZ := hidden (Below.refl W.heap.size W)
  unfold al9o
  refine wp_region_lit ?_
  refine wpList_want (by rfl) (fun K hK => ?_)
  go_simp
  refine hK.out _ _ ?_
  clear hK K
  refine wpList_loadG (by rfl) 32 _ rfl B2 0 (by rfl) [.int .u64 (s 0).x0, .int .u64 (s 0).x1, .int .u64 (s 0).x2, .int .u64 (s 0).x3] _ (A0.out _ BZ.out) UL.out rfl (i4L _) ?_
  simp only [Act.put, List.setIfInBounds_toArray, List.set_cons_zero, List.set_cons_succ]
  refine wpList_want (by rfl) (fun K hK => ?_)
  go_simp
  refine hK.out _ _ ?_
  clear hK K
  refine wpList_loadG (by rfl) 32 _ rfl B3 0 (by rfl) [.int .u64 (s' 0).x0, .int .u64 (s' 0).x1, .int .u64 (s' 0).x2, .int .u64 (s' 0).x3] _ (D0.out _ BZ.out) UL.out rfl (i4L _) ?_
  simp only [Act.put, List.setIfInBounds_toArray, List.set_cons_zero, List.set_cons_succ]
  refine wpList_want (by rfl) (fun K hK => ?_)
  go_simp
  refine (C0.out _ BZ.out).mono ?_
  rintro e w0 ⟨rfl, hb⟩
  dsimp only
  refine hK.out _ _ ?_
  clear hK K C0 A0 D0
  try simp only [Act.put, List.setIfInBounds_toArray, List.set_cons_zero, List.set_cons_succ]
  replace BZ := hidden (bl_trans BZ.out hb)
  clear hb
  refine wpList_want (by rfl) (fun K hK => ?_)
  go_simp
  refine hK.out _ _ ?_
  clear hK K
  refine wpList_want (by rfl) (fun K hK => ?_)
  go_simp
  refine hK.out _ _ ?_
  clear hK K
  refine wpList_loadG (by rfl) 32 _ rfl B2 4 (by rfl) [.int .u64 (s 1).x0, .int .u64 (s 1).x1, .int .u64 (s 1).x2, .int .u64 (s 1).x3] _ (A1.out _ BZ.out) UL.out rfl (i4L _) ?_
  simp only [Act.put, List.setIfInBounds_toArray, List.set_cons_zero, List.set_cons_succ]
  refine wpList_want (by rfl) (fun K hK => ?_)
  go_simp
  refine hK.out _ _ ?_
  clear hK K
  refine wpList_loadG (by rfl) 32 _ rfl B3 4 (by rfl) [.int .u64 (s' 1).x0, .int .u64 (s' 1).x1, .int .u64 (s' 1).x2, .int .u64 (s' 1).x3] _ (D1.out _ BZ.out) UL.out rfl (i4L _) ?_
  simp only [Act.put, List.setIfInBounds_toArray, List.set_cons_zero, List.set_cons_succ]
  refine wpList_want (by rfl) (fun K hK => ?_)
  go_simp
  refine (C1.out _ BZ.out).mono ?_
  rintro e w1 ⟨rfl, hb⟩
  dsimp only
  refine hK.out _ _ ?_
  clear hK K C1 A1 D1
  try simp only [Act.put, List.setIfInBounds_toArray, List.set_cons_zero, List.set_cons_succ]
  replace BZ := hidden (bl_trans BZ.out hb)
  clear hb
  (iterate 2 (refine wpList_want (by rfl) (fun K hK => ?_); go_simp; refine hK.out _ _ ?_; clear hK K))
  refine wpList_want (by rfl) (fun K hK => ?_)
  go_simp
  refine hK.out _ _ ?_
  clear hK K
  refine wpList_loadG (by rfl) 32 _ rfl B2 8 (by rfl) [.int .u64 (s 2).x0, .int .u64 (s 2).x1, .int .u64 (s 2).x2, .int .u64 (s 2).x3] _ (A2.out _ BZ.out) UL.out rfl (i4L _) ?_
  simp only [Act.put, List.setIfInBounds_toArray, List.set_cons_zero, List.set_cons_succ]
  refine wpList_want (by rfl) (fun K hK => ?_)
  go_simp
  refine hK.out _ _ ?_
  clear hK K
  refine wpList_loadG (by rfl) 32 _ rfl B3 8 (by rfl) [.int .u64 (s' 2).x0, .int .u64 (s' 2).x1, .int .u64 (s' 2).x2, .int .u64 (s' 2).x3] _ (D2.out _ BZ.out) UL.out rfl (i4L _) ?_
  simp only [Act.put, List.setIfInBounds_toArray, List.set_cons_zero, List.set_cons_succ]
  refine wpList_want (by rfl) (fun K hK => ?_)
  go_simp
  refine (C2.out _ BZ.out).mono ?_
  rintro e w2 ⟨rfl, hb⟩
  dsimp only
  refine hK.out _ _ ?_
  clear hK K C2 A2 D2
  try simp only [Act.put, List.setIfInBounds_toArray, List.set_cons_zero, List.set_cons_succ]
  replace BZ := hidden (bl_trans BZ.out hb)
  clear hb
  (iterate 2 (refine wpList_want (by rfl) (fun K hK => ?_); go_simp; refine hK.out _ _ ?_; clear hK K))
  refine wpList_want (by rfl) (fun K hK => ?_)
  go_simp
  refine hK.out _ _ ?_
  clear hK K
  refine wpList_loadG (by rfl) 32 _ rfl B2 12 (by rfl) [.int .u64 (s 3).x0, .int .u64 (s 3).x1, .int .u64 (s 3).x2, .int .u64 (s 3).x3] _ (A3.out _ BZ.out) UL.out rfl (i4L _) ?_
  simp only [Act.put, List.setIfInBounds_toArray, List.set_cons_zero, List.set_cons_succ]
  refine wpList_want (by rfl) (fun K hK => ?_)
  go_simp
  refine hK.out _ _ ?_
  clear hK K
  refine wpList_loadG (by rfl) 32 _ rfl B3 12 (by rfl) [.int .u64 (s' 3).x0, .int .u64 (s' 3).x1, .int .u64 (s' 3).x2, .int .u64 (s' 3).x3] _ (D3.out _ BZ.out) UL.out rfl (i4L _) ?_
  simp only [Act.put, List.setIfInBounds_toArray, List.set_cons_zero, List.set_cons_succ]
  refine wpList_want (by rfl) (fun K hK => ?_)
  go_simp
  refine (C3.out _ BZ.out).mono ?_
  rintro e w3 ⟨rfl, hb⟩
  dsimp only
  refine hK.out _ _ ?_
  clear hK K C3 A3 D3
  try simp only [Act.put, List.setIfInBounds_toArray, List.set_cons_zero, List.set_cons_succ]
  replace BZ := hidden (bl_trans BZ.out hb)
  clear hb
  (iterate 2 (refine wpList_want (by rfl) (fun K hK => ?_); go_simp; refine hK.out _ _ ?_; clear hK K))
  refine wpList_want (by rfl) (fun K hK => ?_)
  go_simp
  refine hK.out _ _ ?_
  clear hK K
  refine wpList_want (by rfl) (fun K hK => ?_)
  go_simp
  refine hK.out _ _ ?_
  clear hK K
  refine wpList_loadG (by rfl) 24 _ rfl B2 16 (by rfl) [.int .u64 (s 4).x0, .int .u64 (s 4).x1, .int .u64 (s 4).x2, .int .u64 (s 4).x3] _ (A4.out _ BZ.out) US.out rfl (i4S _) ?_
  simp only [Act.put, List.setIfInBounds_toArray, List.set_cons_zero, List.set_cons_succ]
  refine wpList_want (by rfl) (fun K hK => ?_)
  go_simp
  refine hK.out _ _ ?_
  clear hK K
  refine wpList_loadG (by rfl) 24 _ rfl B3 16 (by rfl) [.int .u64 (s' 4).x0, .int .u64 (s' 4).x1, .int .u64 (s' 4).x2, .int .u64 (s' 4).x3] _ (D4.out _ BZ.out) US.out rfl (i4S _) ?_
  simp only [Act.put, List.setIfInBounds_toArray, List.set_cons_zero, List.set_cons_succ]
  refine wpList_want (by rfl) (fun K hK => ?_)
  go_simp
  refine (C4.out _ BZ.out).mono ?_
  rintro e w4 ⟨rfl, hb⟩
  dsimp only
  refine hK.out _ _ ?_
  clear hK K C4 A4 D4
  try simp only [Act.put, List.setIfInBounds_toArray, List.set_cons_zero, List.set_cons_succ]
  replace BZ := hidden (bl_trans BZ.out hb)
  clear hb
  refine wpList_want (by rfl) (fun K hK => ?_)
  go_simp
  refine hK.out _ _ ?_
  clear hK K
  refine wpList_wantH (by rfl) (fun K hK => ?_)
  go_simp
  refine hK.out _ _ ?_
  clear hK K
  (iterate 6 (refine wpList_skipH (by rfl) ?_; simp only [Act.put, List.setIfInBounds_toArray, List.set_cons_zero, List.set_cons_succ]))
  refine ⟨?_⟩
  refine wpList_want (by rfl) (fun K hK => ?_)
  go_simp
  refine hK.out _ _ ?_
  clear hK K
  refine wpList_wantH (by rfl) (fun K hK => ?_)
  go_simp
  refine hK.out _ _ ?_
  clear hK K
  (iterate 6 (refine wpList_skipH (by rfl) ?_; simp only [Act.put, List.setIfInBounds_toArray, List.set_cons_zero, List.set_cons_succ]))
  refine ⟨?_⟩
  refine wpList_want (by rfl) (fun K hK => ?_)
  go_simp
  refine hK.out _ _ ?_
  clear hK K
  refine wpList_wantH (by rfl) (fun K hK => ?_)
  go_simp
  refine hK.out _ _ ?_
  clear hK K
  (iterate 6 (refine wpList_skipH (by rfl) ?_; simp only [Act.put, List.setIfInBounds_toArray, List.set_cons_zero, List.set_cons_succ]))
  refine ⟨?_⟩
  refine wpList_want (by rfl) (fun K hK => ?_)
  go_simp
  refine hK.out _ _ ?_
  clear hK K
  refine wpList_wantH (by rfl) (fun K hK => ?_)
  go_simp
  refine hK.out _ _ ?_
  clear hK K
  (iterate 6 (refine wpList_skipH (by rfl) ?_; simp only [Act.put, List.setIfInBounds_toArray, List.set_cons_zero, List.set_cons_succ]))
  refine ⟨?_⟩
  refine wpList_want (by rfl) (fun K hK => ?_)
  go_simp
  refine hK.out _ _ ?_
  clear hK K
  refine wpList_want (by rfl) (fun K hK => ?_)
  go_simp
  refine hK.out _ _ ?_
  clear hK K
  exact HQ.out _ _ _ _ _ _ _ _ _ _ _ _ _ _ _ _ _ _ _ _ _ _ _ _ _ _ _ _ _ _ _ _ _ _ _ _ _ _ _ _ _ _ _ _ _ _ _ _ _ _ _ _ _ _ _ _ _ _ _ _ _ _ _ _ _ _ _ BZ.out
set_option maxRecDepth 100000 in
set_option maxHeartbeats 16000000 in
theorem al9_5 (Q : Exit → Act → World → Prop) (B2 B3 : Nat) (s s' : Nat → E4) (u0 u1 u4 u5 u7 u8 u9 u10 u11 u12 u13 u14 u15 u16 u17 u18 u19 u20 u21 u22 u23 u24 u25 u26 u27 u28 u29 u30 u31 u32 u33 u34 u35 u36 u37 u38 u39 u40 u41 u42 u43 u44 u45 u46 u47 u48 u49 u50 u51 u52 u53 u54 u55 u56 u57 u58 u59 u60 u61 u62 u63 u64 u65 u66 u67 u68 u69 u70 u71 u72 u73 u74 u75 u76 u77 u78 u79 u80 u81 u82 u83 u84 u85 u86 u87 u88 u89 u90 u91 u92 u93 u94 u95 u96 u97 u98 u99 u100 u101 u102 u103 u104 u105 u106 u107 u108 u109 u110 u111 u112 u113 u114 u115 u116 u117 u118 u119 u120 u121 : Value) (W : World)
    (C0 : Hid (∀ x, Below W.heap.size W x → Calls Tryd.prog 21 #[.agg #[.int .u64 (s 0).x0, .int .u64 (s 0).x1, .int .u64 (s 0).x2, .int .u64 (s 0).x3], .agg #[.int .u64 (s' 0).x0, .int .u64 (s' 0).x1, .int .u64 (s' 0).x2, .int .u64 (s' 0).x3]] x fun e w' => e = .returned (.bool true) ∧ Below x.heap.size x w')) (A0 : Hid (∀ x, Below W.heap.size W x → x.rangeAt B2 0 [.int .u64 (s 0).x0, .int .u64 (s 0).x1, .int .u64 (s 0).x2, .int .u64 (s 0).x3])) (D0 : Hid (∀ x, Below W.heap.size W x → x.rangeAt B3 0 [.int .u64 (s' 0).x0, .int .u64 (s' 0).x1, .int .u64 (s' 0).x2, .int .u64 (s' 0).x3])) (C1 : Hid (∀ x, Below W.heap.size W x → Calls Tryd.prog 21 #[.agg #[.int .u64 (s 1).x0, .int .u64 (s 1).x1, .int .u64 (s 1).x2, .int .u64 (s 1).x3], .agg #[.int .u64 (s' 1).x0, .int .u64 (s' 1).x1, .int .u64 (s' 1).x2, .int .u64 (s' 1).x3]] x fun e w' => e = .returned (.bool true) ∧ Below x.heap.size x w')) (A1 : Hid (∀ x, Below W.heap.size W x → x.rangeAt B2 4 [.int .u64 (s 1).x0, .int .u64 (s 1).x1, .int .u64 (s 1).x2, .int .u64 (s 1).x3])) (D1 : Hid (∀ x, Below W.heap.size W x → x.rangeAt B3 4 [.int .u64 (s' 1).x0, .int .u64 (s' 1).x1, .int .u64 (s' 1).x2, .int .u64 (s' 1).x3])) (C2 : Hid (∀ x, Below W.heap.size W x → Calls Tryd.prog 21 #[.agg #[.int .u64 (s 2).x0, .int .u64 (s 2).x1, .int .u64 (s 2).x2, .int .u64 (s 2).x3], .agg #[.int .u64 (s' 2).x0, .int .u64 (s' 2).x1, .int .u64 (s' 2).x2, .int .u64 (s' 2).x3]] x fun e w' => e = .returned (.bool true) ∧ Below x.heap.size x w')) (A2 : Hid (∀ x, Below W.heap.size W x → x.rangeAt B2 8 [.int .u64 (s 2).x0, .int .u64 (s 2).x1, .int .u64 (s 2).x2, .int .u64 (s 2).x3])) (D2 : Hid (∀ x, Below W.heap.size W x → x.rangeAt B3 8 [.int .u64 (s' 2).x0, .int .u64 (s' 2).x1, .int .u64 (s' 2).x2, .int .u64 (s' 2).x3])) (C3 : Hid (∀ x, Below W.heap.size W x → Calls Tryd.prog 21 #[.agg #[.int .u64 (s 3).x0, .int .u64 (s 3).x1, .int .u64 (s 3).x2, .int .u64 (s 3).x3], .agg #[.int .u64 (s' 3).x0, .int .u64 (s' 3).x1, .int .u64 (s' 3).x2, .int .u64 (s' 3).x3]] x fun e w' => e = .returned (.bool true) ∧ Below x.heap.size x w')) (A3 : Hid (∀ x, Below W.heap.size W x → x.rangeAt B2 12 [.int .u64 (s 3).x0, .int .u64 (s 3).x1, .int .u64 (s 3).x2, .int .u64 (s 3).x3])) (D3 : Hid (∀ x, Below W.heap.size W x → x.rangeAt B3 12 [.int .u64 (s' 3).x0, .int .u64 (s' 3).x1, .int .u64 (s' 3).x2, .int .u64 (s' 3).x3])) (C4 : Hid (∀ x, Below W.heap.size W x → Calls Tryd.prog 22 #[.agg #[.int .u64 (s 4).x0, .int .u64 (s 4).x1, .int .u64 (s 4).x2, .int .u64 (s 4).x3], .agg #[.int .u64 (s' 4).x0, .int .u64 (s' 4).x1, .int .u64 (s' 4).x2, .int .u64 (s' 4).x3]] x fun e w' => e = .returned (.bool true) ∧ Below x.heap.size x w')) (A4 : Hid (∀ x, Below W.heap.size W x → x.rangeAt B2 16 [.int .u64 (s 4).x0, .int .u64 (s 4).x1, .int .u64 (s 4).x2, .int .u64 (s 4).x3])) (D4 : Hid (∀ x, Below W.heap.size W x → x.rangeAt B3 16 [.int .u64 (s' 4).x0, .int .u64 (s' 4).x1, .int .u64 (s' 4).x2, .int .u64 (s' 4).x3])) (C5 : Hid (∀ x, Below W.heap.size W x → Calls Tryd.prog 22 #[.agg #[.int .u64 (s 5).x0, .int .u64 (s 5).x1, .int .u64 (s 5).x2, .int .u64 (s 5).x3], .agg #[.int .u64 (s' 5).x0, .int .u64 (s' 5).x1, .int .u64 (s' 5).x2, .int .u64 (s' 5).x3]] x fun e w' => e = .returned (.bool false) ∧ Below x.heap.size x w')) (A5 : Hid (∀ x, Below W.heap.size W x → x.rangeAt B2 20 [.int .u64 (s 5).x0, .int .u64 (s 5).x1, .int .u64 (s 5).x2, .int .u64 (s 5).x3])) (D5 : Hid (∀ x, Below W.heap.size W x → x.rangeAt B3 20 [.int .u64 (s' 5).x0, .int .u64 (s' 5).x1, .int .u64 (s' 5).x2, .int .u64 (s' 5).x3]))
    (HQ : Hid (∀ (z56 z57 z58 z59 z60 z61 z62 z63 z64 z65 z66 z67 z68 z69 z70 z71 z72 z73 z74 z75 z76 z77 z78 z79 z80 z81 z82 z83 z84 z85 z86 z87 z88 z89 z90 z91 z92 z93 z94 z95 z96 z97 z98 z99 z100 z101 z102 z103 z104 z105 z106 z107 z108 z109 z110 z111 z112 z113 z114 z115 z116 z117 z118 z119 z120 z121 : Value) wz, Below W.heap.size W wz → Q .normal ⟨#[u0, u1, .pointer (some ⟨B2, 0, none⟩), .pointer (some ⟨B3, 0, none⟩), .bool false, u5, .func (.func 22) #[] #[], u7, u8, u9, u10, u11, u12, u13, u14, u15, u16, u17, u18, u19, u20, u21, u22, u23, u24, u25, u26, u27, u28, u29, u30, u31, u32, u33, u34, u35, u36, u37, u38, u39, u40, u41, u42, u43, u44, u45, u46, u47, u48, u49, u50, u51, u52, u53, u54, u55, z56, z57, z58, z59, z60, z61, z62, z63, z64, z65, z66, z67, z68, z69, z70, z71, z72, z73, z74, z75, z76, z77, z78, z79, z80, z81, z82, z83, z84, z85, z86, z87, z88, z89, z90, z91, z92, z93, z94, z95, z96, z97, z98, z99, z100, z101, z102, z103, z104, z105, z106, z107, z108, z109, z110, z111, z112, z113, z114, z115, z116, z117, z118, z119, z120, z121], []⟩ wz)) : (Code.region 9 al9o false).wp Tryd.prog Q ⟨#[u0, u1, .pointer (some ⟨B2, 0, none⟩), .pointer (some ⟨B3, 0, none⟩), u4, u5, .func (.func 22) #[] #[], u7, u8, u9, u10, u11, u12, u13, u14, u15, u16, u17, u18, u19, u20, u21, u22, u23, u24, u25, u26, u27, u28, u29, u30, u31, u32, u33, u34, u35, u36, u37, u38, u39, u40, u41, u42, u43, u44, u45, u46, u47, u48, u49, u50, u51, u52, u53, u54, u55, u56, u57, u58, u59, u60, u61, u62, u63, u64, u65, u66, u67, u68, u69, u70, u71, u72, u73, u74, u75, u76, u77, u78, u79, u80, u81, u82, u83, u84, u85, u86, u87, u88, u89, u90, u91, u92, u93, u94, u95, u96, u97, u98, u99, u100, u101, u102, u103, u104, u105, u106, u107, u108, u109, u110, u111, u112, u113, u114, u115, u116, u117, u118, u119, u120, u121], []⟩ W := by
  have UL : Hid (Tryd.prog.underlying 32 = _) := hidden Tryd.underlying32
  have US : Hid (Tryd.prog.underlying 24 = _) := hidden Tryd.underlying24
  have BZ := hidden (Below.refl W.heap.size W)
  unfold al9o
  refine wp_region_lit ?_
  refine wpList_want (by rfl) (fun K hK => ?_)
  go_simp
  refine hK.out _ _ ?_
  clear hK K
  refine wpList_loadG (by rfl) 32 _ rfl B2 0 (by rfl) [.int .u64 (s 0).x0, .int .u64 (s 0).x1, .int .u64 (s 0).x2, .int .u64 (s 0).x3] _ (A0.out _ BZ.out) UL.out rfl (i4L _) ?_
  simp only [Act.put, List.setIfInBounds_toArray, List.set_cons_zero, List.set_cons_succ]
  refine wpList_want (by rfl) (fun K hK => ?_)
  go_simp
  refine hK.out _ _ ?_
  clear hK K
  refine wpList_loadG (by rfl) 32 _ rfl B3 0 (by rfl) [.int .u64 (s' 0).x0, .int .u64 (s' 0).x1, .int .u64 (s' 0).x2, .int .u64 (s' 0).x3] _ (D0.out _ BZ.out) UL.out rfl (i4L _) ?_
  simp only [Act.put, List.setIfInBounds_toArray, List.set_cons_zero, List.set_cons_succ]
  refine wpList_want (by rfl) (fun K hK => ?_)
  go_simp
  refine (C0.out _ BZ.out).mono ?_
  rintro e w0 ⟨rfl, hb⟩
  dsimp only
  refine hK.out _ _ ?_
  clear hK K C0 A0 D0
  try simp only [Act.put, List.setIfInBounds_toArray, List.set_cons_zero, List.set_cons_succ]
  replace BZ := hidden (bl_trans BZ.out hb)
  clear hb
  refine wpList_want (by rfl) (fun K hK => ?_)
  go_simp
  refine hK.out _ _ ?_
  clear hK K
  refine wpList_want (by rfl) (fun K hK => ?_)
  go_simp
  refine hK.out _ _ ?_
  clear hK K
  refine wpList_loadG (by rfl) 32 _ rfl B2 4 (by rfl) [.int .u64 (s 1).x0, .int .u64 (s 1).x1, .int .u64 (s 1).x2, .int .u64 (s 1).x3] _ (A1.out _ BZ.out) UL.out rfl (i4L _) ?_
  simp only [Act.put, List.setIfInBounds_toArray, List.set_cons_zero, List.set_cons_succ]
  refine wpList_want (by rfl) (fun K hK => ?_)
  go_simp
  refine hK.out _ _ ?_
  clear hK K
  refine wpList_loadG (by rfl) 32 _ rfl B3 4 (by rfl) [.int .u64 (s' 1).x0, .int .u64 (s' 1).x1, .int .u64 (s' 1).x2, .int .u64 (s' 1).x3] _ (D1.out _ BZ.out) UL.out rfl (i4L _) ?_
  simp only [Act.put, List.setIfInBounds_toArray, List.set_cons_zero, List.set_cons_succ]
  refine wpList_want (by rfl) (fun K hK => ?_)
  go_simp
  refine (C1.out _ BZ.out).mono ?_
  rintro e w1 ⟨rfl, hb⟩
  dsimp only
  refine hK.out _ _ ?_
  clear hK K C1 A1 D1
  try simp only [Act.put, List.setIfInBounds_toArray, List.set_cons_zero, List.set_cons_succ]
  replace BZ := hidden (bl_trans BZ.out hb)
  clear hb
  (iterate 2 (refine wpList_want (by rfl) (fun K hK => ?_); go_simp; refine hK.out _ _ ?_; clear hK K))
  refine wpList_want (by rfl) (fun K hK => ?_)
  go_simp
  refine hK.out _ _ ?_
  clear hK K
  refine wpList_loadG (by rfl) 32 _ rfl B2 8 (by rfl) [.int .u64 (s 2).x0, .int .u64 (s 2).x1, .int .u64 (s 2).x2, .int .u64 (s 2).x3] _ (A2.out _ BZ.out) UL.out rfl (i4L _) ?_
  simp only [Act.put, List.setIfInBounds_toArray, List.set_cons_zero, List.set_cons_succ]
  refine wpList_want (by rfl) (fun K hK => ?_)
  go_simp
  refine hK.out _ _ ?_
  clear hK K
  refine wpList_loadG (by rfl) 32 _ rfl B3 8 (by rfl) [.int .u64 (s' 2).x0, .int .u64 (s' 2).x1, .int .u64 (s' 2).x2, .int .u64 (s' 2).x3] _ (D2.out _ BZ.out) UL.out rfl (i4L _) ?_
  simp only [Act.put, List.setIfInBounds_toArray, List.set_cons_zero, List.set_cons_succ]
  refine wpList_want (by rfl) (fun K hK => ?_)
  go_simp
  refine (C2.out _ BZ.out).mono ?_
  rintro e w2 ⟨rfl, hb⟩
  dsimp only
  refine hK.out _ _ ?_
  clear hK K C2 A2 D2
  try simp only [Act.put, List.setIfInBounds_toArray, List.set_cons_zero, List.set_cons_succ]
  replace BZ := hidden (bl_trans BZ.out hb)
  clear hb
  (iterate 2 (refine wpList_want (by rfl) (fun K hK => ?_); go_simp; refine hK.out _ _ ?_; clear hK K))
  refine wpList_want (by rfl) (fun K hK => ?_)
  go_simp
  refine hK.out _ _ ?_
  clear hK K
  refine wpList_loadG (by rfl) 32 _ rfl B2 12 (by rfl) [.int .u64 (s 3).x0, .int .u64 (s 3).x1, .int .u64 (s 3).x2, .int .u64 (s 3).x3] _ (A3.out _ BZ.out) UL.out rfl (i4L _) ?_
  simp only [Act.put, List.setIfInBounds_toArray, List.set_cons_zero, List.set_cons_succ]
  refine wpList_want (by rfl) (fun K hK => ?_)
  go_simp
  refine hK.out _ _ ?_
  clear hK K
  refine wpList_loadG (by rfl) 32 _ rfl B3 12 (by rfl) [.int .u64 (s' 3).x0, .int .u64 (s' 3).x1, .int .u64 (s' 3).x2, .int .u64 (s' 3).x3] _ (D3.out _ BZ.out) UL.out rfl (i4L _) ?_
  simp only [Act.put, List.setIfInBounds_toArray, List.set_cons_zero, List.set_cons_succ]
  refine wpList_want (by rfl) (fun K hK => ?_)
  go_simp
  refine (C3.out _ BZ.out).mono ?_
  rintro e w3 ⟨rfl, hb⟩
  dsimp only
  refine hK.out _ _ ?_
  clear hK K C3 A3 D3
  try simp only [Act.put, List.setIfInBounds_toArray, List.set_cons_zero, List.set_cons_succ]
  replace BZ := hidden (bl_trans BZ.out hb)
  clear hb
  (iterate 2 (refine wpList_want (by rfl) (fun K hK => ?_); go_simp; refine hK.out _ _ ?_; clear hK K))
  refine wpList_want (by rfl) (fun K hK => ?_)
  go_simp
  refine hK.out _ _ ?_
  clear hK K
  refine wpList_want (by rfl) (fun K hK => ?_)
  go_simp
  refine hK.out _ _ ?_
  clear hK K
  refine wpList_loadG (by rfl) 24 _ rfl B2 16 (by rfl) [.int .u64 (s 4).x0, .int .u64 (s 4).x1, .int .u64 (s 4).x2, .int .u64 (s 4).x3] _ (A4.out _ BZ.out) US.out rfl (i4S _) ?_
  simp only [Act.put, List.setIfInBounds_toArray, List.set_cons_zero, List.set_cons_succ]
  refine wpList_want (by rfl) (fun K hK => ?_)
  go_simp
  refine hK.out _ _ ?_
  clear hK K
  refine wpList_loadG (by rfl) 24 _ rfl B3 16 (by rfl) [.int .u64 (s' 4).x0, .int .u64 (s' 4).x1, .int .u64 (s' 4).x2, .int .u64 (s' 4).x3] _ (D4.out _ BZ.out) US.out rfl (i4S _) ?_
  simp only [Act.put, List.setIfInBounds_toArray, List.set_cons_zero, List.set_cons_succ]
  refine wpList_want (by rfl) (fun K hK => ?_)
  go_simp
  refine (C4.out _ BZ.out).mono ?_
  rintro e w4 ⟨rfl, hb⟩
  dsimp only
  refine hK.out _ _ ?_
  clear hK K C4 A4 D4
  try simp only [Act.put, List.setIfInBounds_toArray, List.set_cons_zero, List.set_cons_succ]
  replace BZ := hidden (bl_trans BZ.out hb)
  clear hb
  (iterate 2 (refine wpList_want (by rfl) (fun K hK => ?_); go_simp; refine hK.out _ _ ?_; clear hK K))
  refine wpList_want (by rfl) (fun K hK => ?_)
  go_simp
  refine hK.out _ _ ?_
  clear hK K
  refine wpList_want (by rfl) (fun K hK => ?_)
  go_simp
  refine hK.out _ _ ?_
  clear hK K
  refine wpList_loadG (by rfl) 24 _ rfl B2 20 (by rfl) [.int .u64 (s 5).x0, .int .u64 (s 5).x1, .int .u64 (s 5).x2, .int .u64 (s 5).x3] _ (A5.out _ BZ.out) US.out rfl (i4S _) ?_
  simp only [Act.put, List.setIfInBounds_toArray, List.set_cons_zero, List.set_cons_succ]
  refine wpList_want (by rfl) (fun K hK => ?_)
  go_simp
  refine hK.out _ _ ?_
  clear hK K
  refine wpList_loadG (by rfl) 24 _ rfl B3 20 (by rfl) [.int .u64 (s' 5).x0, .int .u64 (s' 5).x1, .int .u64 (s' 5).x2, .int .u64 (s' 5).x3] _ (D5.out _ BZ.out) US.out rfl (i4S _) ?_
  simp only [Act.put, List.setIfInBounds_toArray, List.set_cons_zero, List.set_cons_succ]
  refine wpList_want (by rfl) (fun K hK => ?_)
  go_simp
  refine (C5.out _ BZ.out).mono ?_
  rintro e w5 ⟨rfl, hb⟩
  dsimp only
  refine hK.out _ _ ?_
  clear hK K C5 A5 D5
  try simp only [Act.put, List.setIfInBounds_toArray, List.set_cons_zero, List.set_cons_succ]
  replace BZ := hidden (bl_trans BZ.out hb)
  clear hb
  refine wpList_want (by rfl) (fun K hK => ?_)
  go_simp
  refine hK.out _ _ ?_
  clear hK K
  refine wpList_wantH (by rfl) (fun K hK => ?_)
  go_simp
  refine hK.out _ _ ?_
  clear hK K
  (iterate 6 (refine wpList_skipH (by rfl) ?_; simp only [Act.put, List.setIfInBounds_toArray, List.set_cons_zero, List.set_cons_succ]))
  refine ⟨?_⟩
  refine wpList_want (by rfl) (fun K hK => ?_)
  go_simp
  refine hK.out _ _ ?_
  clear hK K
  refine wpList_wantH (by rfl) (fun K hK => ?_)
  go_simp
  refine hK.out _ _ ?_
  clear hK K
  (iterate 6 (refine wpList_skipH (by rfl) ?_; simp only [Act.put, List.setIfInBounds_toArray, List.set_cons_zero, List.set_cons_succ]))
  refine ⟨?_⟩
  refine wpList_want (by rfl) (fun K hK => ?_)
  go_simp
  refine hK.out _ _ ?_
  clear hK K
  refine wpList_wantH (by rfl) (fun K hK => ?_)
  go_simp
  refine hK.out _ _ ?_
  clear hK K
  (iterate 6 (refine wpList_skipH (by rfl) ?_; simp only [Act.put, List.setIfInBounds_toArray, List.set_cons_zero, List.set_cons_succ]))
  refine ⟨?_⟩
  refine wpList_want (by rfl) (fun K hK => ?_)
  go_simp
  refine hK.out _ _ ?_
  clear hK K
  refine wpList_want (by rfl) (fun K hK => ?_)
  go_simp
  refine hK.out _ _ ?_
  clear hK K
  exact HQ.out _ _ _ _ _ _ _ _ _ _ _ _ _ _ _ _ _ _ _ _ _ _ _ _ _ _ _ _ _ _ _ _ _ _ _ _ _ _ _ _ _ _ _ _ _ _ _ _ _ _ _ _ _ _ _ _ _ _ _ _ _ _ _ _ _ _ _ BZ.out
set_option maxRecDepth 100000 in
set_option maxHeartbeats 16000000 in
theorem al9_6 (Q : Exit → Act → World → Prop) (B2 B3 : Nat) (s s' : Nat → E4) (u0 u1 u4 u5 u7 u8 u9 u10 u11 u12 u13 u14 u15 u16 u17 u18 u19 u20 u21 u22 u23 u24 u25 u26 u27 u28 u29 u30 u31 u32 u33 u34 u35 u36 u37 u38 u39 u40 u41 u42 u43 u44 u45 u46 u47 u48 u49 u50 u51 u52 u53 u54 u55 u56 u57 u58 u59 u60 u61 u62 u63 u64 u65 u66 u67 u68 u69 u70 u71 u72 u73 u74 u75 u76 u77 u78 u79 u80 u81 u82 u83 u84 u85 u86 u87 u88 u89 u90 u91 u92 u93 u94 u95 u96 u97 u98 u99 u100 u101 u102 u103 u104 u105 u106 u107 u108 u109 u110 u111 u112 u113 u114 u115 u116 u117 u118 u119 u120 u121 : Value) (W : World)
    (C0 : Hid (∀ x, Below W.heap.size W x → Calls Tryd.prog 21 #[.agg #[.int .u64 (s 0).x0, .int .u64 (s 0).x1, .int .u64 (s 0).x2, .int .u64 (s 0).x3], .agg #[.int .u64 (s' 0).x0, .int .u64 (s' 0).x1, .int .u64 (s' 0).x2, .int .u64 (s' 0).x3]] x fun e w' => e = .returned (.bool true) ∧ Below x.heap.size x w')) (A0 : Hid (∀ x, Below W.heap.size W x → x.rangeAt B2 0 [.int .u64 (s 0).x0, .int .u64 (s 0).x1, .int .u64 (s 0).x2, .int .u64 (s 0).x3])) (D0 : Hid (∀ x, Below W.heap.size W x → x.rangeAt B3 0 [.int .u64 (s' 0).x0, .int .u64 (s' 0).x1, .int .u64 (s' 0).x2, .int .u64 (s' 0).x3])) (C1 : Hid (∀ x, Below W.heap.size W x → Calls Tryd.prog 21 #[.agg #[.int .u64 (s 1).x0, .int .u64 (s 1).x1, .int .u64 (s 1).x2, .int .u64 (s 1).x3], .agg #[.int .u64 (s' 1).x0, .int .u64 (s' 1).x1, .int .u64 (s' 1).x2, .int .u64 (s' 1).x3]] x fun e w' => e = .returned (.bool true) ∧ Below x.heap.size x w')) (A1 : Hid (∀ x, Below W.heap.size W x → x.rangeAt B2 4 [.int .u64 (s 1).x0, .int .u64 (s 1).x1, .int .u64 (s 1).x2, .int .u64 (s 1).x3])) (D1 : Hid (∀ x, Below W.heap.size W x → x.rangeAt B3 4 [.int .u64 (s' 1).x0, .int .u64 (s' 1).x1, .int .u64 (s' 1).x2, .int .u64 (s' 1).x3])) (C2 : Hid (∀ x, Below W.heap.size W x → Calls Tryd.prog 21 #[.agg #[.int .u64 (s 2).x0, .int .u64 (s 2).x1, .int .u64 (s 2).x2, .int .u64 (s 2).x3], .agg #[.int .u64 (s' 2).x0, .int .u64 (s' 2).x1, .int .u64 (s' 2).x2, .int .u64 (s' 2).x3]] x fun e w' => e = .returned (.bool true) ∧ Below x.heap.size x w')) (A2 : Hid (∀ x, Below W.heap.size W x → x.rangeAt B2 8 [.int .u64 (s 2).x0, .int .u64 (s 2).x1, .int .u64 (s 2).x2, .int .u64 (s 2).x3])) (D2 : Hid (∀ x, Below W.heap.size W x → x.rangeAt B3 8 [.int .u64 (s' 2).x0, .int .u64 (s' 2).x1, .int .u64 (s' 2).x2, .int .u64 (s' 2).x3])) (C3 : Hid (∀ x, Below W.heap.size W x → Calls Tryd.prog 21 #[.agg #[.int .u64 (s 3).x0, .int .u64 (s 3).x1, .int .u64 (s 3).x2, .int .u64 (s 3).x3], .agg #[.int .u64 (s' 3).x0, .int .u64 (s' 3).x1, .int .u64 (s' 3).x2, .int .u64 (s' 3).x3]] x fun e w' => e = .returned (.bool true) ∧ Below x.heap.size x w')) (A3 : Hid (∀ x, Below W.heap.size W x → x.rangeAt B2 12 [.int .u64 (s 3).x0, .int .u64 (s 3).x1, .int .u64 (s 3).x2, .int .u64 (s 3).x3])) (D3 : Hid (∀ x, Below W.heap.size W x → x.rangeAt B3 12 [.int .u64 (s' 3).x0, .int .u64 (s' 3).x1, .int .u64 (s' 3).x2, .int .u64 (s' 3).x3])) (C4 : Hid (∀ x, Below W.heap.size W x → Calls Tryd.prog 22 #[.agg #[.int .u64 (s 4).x0, .int .u64 (s 4).x1, .int .u64 (s 4).x2, .int .u64 (s 4).x3], .agg #[.int .u64 (s' 4).x0, .int .u64 (s' 4).x1, .int .u64 (s' 4).x2, .int .u64 (s' 4).x3]] x fun e w' => e = .returned (.bool true) ∧ Below x.heap.size x w')) (A4 : Hid (∀ x, Below W.heap.size W x → x.rangeAt B2 16 [.int .u64 (s 4).x0, .int .u64 (s 4).x1, .int .u64 (s 4).x2, .int .u64 (s 4).x3])) (D4 : Hid (∀ x, Below W.heap.size W x → x.rangeAt B3 16 [.int .u64 (s' 4).x0, .int .u64 (s' 4).x1, .int .u64 (s' 4).x2, .int .u64 (s' 4).x3])) (C5 : Hid (∀ x, Below W.heap.size W x → Calls Tryd.prog 22 #[.agg #[.int .u64 (s 5).x0, .int .u64 (s 5).x1, .int .u64 (s 5).x2, .int .u64 (s 5).x3], .agg #[.int .u64 (s' 5).x0, .int .u64 (s' 5).x1, .int .u64 (s' 5).x2, .int .u64 (s' 5).x3]] x fun e w' => e = .returned (.bool true) ∧ Below x.heap.size x w')) (A5 : Hid (∀ x, Below W.heap.size W x → x.rangeAt B2 20 [.int .u64 (s 5).x0, .int .u64 (s 5).x1, .int .u64 (s 5).x2, .int .u64 (s 5).x3])) (D5 : Hid (∀ x, Below W.heap.size W x → x.rangeAt B3 20 [.int .u64 (s' 5).x0, .int .u64 (s' 5).x1, .int .u64 (s' 5).x2, .int .u64 (s' 5).x3])) (C6 : Hid (∀ x, Below W.heap.size W x → Calls Tryd.prog 22 #[.agg #[.int .u64 (s 6).x0, .int .u64 (s 6).x1, .int .u64 (s 6).x2, .int .u64 (s 6).x3], .agg #[.int .u64 (s' 6).x0, .int .u64 (s' 6).x1, .int .u64 (s' 6).x2, .int .u64 (s' 6).x3]] x fun e w' => e = .returned (.bool false) ∧ Below x.heap.size x w')) (A6 : Hid (∀ x, Below W.heap.size W x → x.rangeAt B2 24 [.int .u64 (s 6).x0, .int .u64 (s 6).x1, .int .u64 (s 6).x2, .int .u64 (s 6).x3])) (D6 : Hid (∀ x, Below W.heap.size W x → x.rangeAt B3 24 [.int .u64 (s' 6).x0, .int .u64 (s' 6).x1, .int .u64 (s' 6).x2, .int .u64 (s' 6).x3]))
    (HQ : Hid (∀ (z56 z57 z58 z59 z60 z61 z62 z63 z64 z65 z66 z67 z68 z69 z70 z71 z72 z73 z74 z75 z76 z77 z78 z79 z80 z81 z82 z83 z84 z85 z86 z87 z88 z89 z90 z91 z92 z93 z94 z95 z96 z97 z98 z99 z100 z101 z102 z103 z104 z105 z106 z107 z108 z109 z110 z111 z112 z113 z114 z115 z116 z117 z118 z119 z120 z121 : Value) wz, Below W.heap.size W wz → Q .normal ⟨#[u0, u1, .pointer (some ⟨B2, 0, none⟩), .pointer (some ⟨B3, 0, none⟩), .bool false, u5, .func (.func 22) #[] #[], u7, u8, u9, u10, u11, u12, u13, u14, u15, u16, u17, u18, u19, u20, u21, u22, u23, u24, u25, u26, u27, u28, u29, u30, u31, u32, u33, u34, u35, u36, u37, u38, u39, u40, u41, u42, u43, u44, u45, u46, u47, u48, u49, u50, u51, u52, u53, u54, u55, z56, z57, z58, z59, z60, z61, z62, z63, z64, z65, z66, z67, z68, z69, z70, z71, z72, z73, z74, z75, z76, z77, z78, z79, z80, z81, z82, z83, z84, z85, z86, z87, z88, z89, z90, z91, z92, z93, z94, z95, z96, z97, z98, z99, z100, z101, z102, z103, z104, z105, z106, z107, z108, z109, z110, z111, z112, z113, z114, z115, z116, z117, z118, z119, z120, z121], []⟩ wz)) : (Code.region 9 al9o false).wp Tryd.prog Q ⟨#[u0, u1, .pointer (some ⟨B2, 0, none⟩), .pointer (some ⟨B3, 0, none⟩), u4, u5, .func (.func 22) #[] #[], u7, u8, u9, u10, u11, u12, u13, u14, u15, u16, u17, u18, u19, u20, u21, u22, u23, u24, u25, u26, u27, u28, u29, u30, u31, u32, u33, u34, u35, u36, u37, u38, u39, u40, u41, u42, u43, u44, u45, u46, u47, u48, u49, u50, u51, u52, u53, u54, u55, u56, u57, u58, u59, u60, u61, u62, u63, u64, u65, u66, u67, u68, u69, u70, u71, u72, u73, u74, u75, u76, u77, u78, u79, u80, u81, u82, u83, u84, u85, u86, u87, u88, u89, u90, u91, u92, u93, u94, u95, u96, u97, u98, u99, u100, u101, u102, u103, u104, u105, u106, u107, u108, u109, u110, u111, u112, u113, u114, u115, u116, u117, u118, u119, u120, u121], []⟩ W := by
  have UL : Hid (Tryd.prog.underlying 32 = _) := hidden Tryd.underlying32
  have US : Hid (Tryd.prog.underlying 24 = _) := hidden Tryd.underlying24
  have BZ := hidden (Below.refl W.heap.size W)
  unfold al9o
  refine wp_region_lit ?_
  refine wpList_want (by rfl) (fun K hK => ?_)
  go_simp
  refine hK.out _ _ ?_
  clear hK K
  refine wpList_loadG (by rfl) 32 _ rfl B2 0 (by rfl) [.int .u64 (s 0).x0, .int .u64 (s 0).x1, .int .u64 (s 0).x2, .int .u64 (s 0).x3] _ (A0.out _ BZ.out) UL.out rfl (i4L _) ?_
  simp only [Act.put, List.setIfInBounds_toArray, List.set_cons_zero, List.set_cons_succ]
  refine wpList_want (by rfl) (fun K hK => ?_)
  go_simp
  refine hK.out _ _ ?_
  clear hK K
  refine wpList_loadG (by rfl) 32 _ rfl B3 0 (by rfl) [.int .u64 (s' 0).x0, .int .u64 (s' 0).x1, .int .u64 (s' 0).x2, .int .u64 (s' 0).x3] _ (D0.out _ BZ.out) UL.out rfl (i4L _) ?_
  simp only [Act.put, List.setIfInBounds_toArray, List.set_cons_zero, List.set_cons_succ]
  refine wpList_want (by rfl) (fun K hK => ?_)
  go_simp
  refine (C0.out _ BZ.out).mono ?_
  rintro e w0 ⟨rfl, hb⟩
  dsimp only
  refine hK.out _ _ ?_
  clear hK K C0 A0 D0
  try simp only [Act.put, List.setIfInBounds_toArray, List.set_cons_zero, List.set_cons_succ]
  replace BZ := hidden (bl_trans BZ.out hb)
  clear hb
  refine wpList_want (by rfl) (fun K hK => ?_)
  go_simp
  refine hK.out _ _ ?_
  clear hK K
  refine wpList_want (by rfl) (fun K hK => ?_)
  go_simp
  refine hK.out _ _ ?_
  clear hK K
  refine wpList_loadG (by rfl) 32 _ rfl B2 4 (by rfl) [.int .u64 (s 1).x0, .int .u64 (s 1).x1, .int .u64 (s 1).x2, .int .u64 (s 1).x3] _ (A1.out _ BZ.out) UL.out rfl (i4L _) ?_
  simp only [Act.put, List.setIfInBounds_toArray, List.set_cons_zero, List.set_cons_succ]
  refine wpList_want (by rfl) (fun K hK => ?_)
  go_simp
  refine hK.out _ _ ?_
  clear hK K
  refine wpList_loadG (by rfl) 32 _ rfl B3 4 (by rfl) [.int .u64 (s' 1).x0, .int .u64 (s' 1).x1, .int .u64 (s' 1).x2, .int .u64 (s' 1).x3] _ (D1.out _ BZ.out) UL.out rfl (i4L _) ?_
  simp only [Act.put, List.setIfInBounds_toArray, List.set_cons_zero, List.set_cons_succ]
  refine wpList_want (by rfl) (fun K hK => ?_)
  go_simp
  refine (C1.out _ BZ.out).mono ?_
  rintro e w1 ⟨rfl, hb⟩
  dsimp only
  refine hK.out _ _ ?_
  clear hK K C1 A1 D1
  try simp only [Act.put, List.setIfInBounds_toArray, List.set_cons_zero, List.set_cons_succ]
  replace BZ := hidden (bl_trans BZ.out hb)
  clear hb
  (iterate 2 (refine wpList_want (by rfl) (fun K hK => ?_); go_simp; refine hK.out _ _ ?_; clear hK K))
  refine wpList_want (by rfl) (fun K hK => ?_)
  go_simp
  refine hK.out _ _ ?_
  clear hK K
  refine wpList_loadG (by rfl) 32 _ rfl B2 8 (by rfl) [.int .u64 (s 2).x0, .int .u64 (s 2).x1, .int .u64 (s 2).x2, .int .u64 (s 2).x3] _ (A2.out _ BZ.out) UL.out rfl (i4L _) ?_
  simp only [Act.put, List.setIfInBounds_toArray, List.set_cons_zero, List.set_cons_succ]
  refine wpList_want (by rfl) (fun K hK => ?_)
  go_simp
  refine hK.out _ _ ?_
  clear hK K
  refine wpList_loadG (by rfl) 32 _ rfl B3 8 (by rfl) [.int .u64 (s' 2).x0, .int .u64 (s' 2).x1, .int .u64 (s' 2).x2, .int .u64 (s' 2).x3] _ (D2.out _ BZ.out) UL.out rfl (i4L _) ?_
  simp only [Act.put, List.setIfInBounds_toArray, List.set_cons_zero, List.set_cons_succ]
  refine wpList_want (by rfl) (fun K hK => ?_)
  go_simp
  refine (C2.out _ BZ.out).mono ?_
  rintro e w2 ⟨rfl, hb⟩
  dsimp only
  refine hK.out _ _ ?_
  clear hK K C2 A2 D2
  try simp only [Act.put, List.setIfInBounds_toArray, List.set_cons_zero, List.set_cons_succ]
  replace BZ := hidden (bl_trans BZ.out hb)
  clear hb
  (iterate 2 (refine wpList_want (by rfl) (fun K hK => ?_); go_simp; refine hK.out _ _ ?_; clear hK K))
  refine wpList_want (by rfl) (fun K hK => ?_)
  go_simp
  refine hK.out _ _ ?_
  clear hK K
  refine wpList_loadG (by rfl) 32 _ rfl B2 12 (by rfl) [.int .u64 (s 3).x0, .int .u64 (s 3).x1, .int .u64 (s 3).x2, .int .u64 (s 3).x3] _ (A3.out _ BZ.out) UL.out rfl (i4L _) ?_
  simp only [Act.put, List.setIfInBounds_toArray, List.set_cons_zero, List.set_cons_succ]
  refine wpList_want (by rfl) (fun K hK => ?_)
  go_simp
  refine hK.out _ _ ?_
  clear hK K
  refine wpList_loadG (by rfl) 32 _ rfl B3 12 (by rfl) [.int .u64 (s' 3).x0, .int .u64 (s' 3).x1, .int .u64 (s' 3).x2, .int .u64 (s' 3).x3] _ (D3.out _ BZ.out) UL.out rfl (i4L _) ?_
  simp only [Act.put, List.setIfInBounds_toArray, List.set_cons_zero, List.set_cons_succ]
  refine wpList_want (by rfl) (fun K hK => ?_)
  go_simp
  refine (C3.out _ BZ.out).mono ?_
  rintro e w3 ⟨rfl, hb⟩
  dsimp only
  refine hK.out _ _ ?_
  clear hK K C3 A3 D3
  try simp only [Act.put, List.setIfInBounds_toArray, List.set_cons_zero, List.set_cons_succ]
  replace BZ := hidden (bl_trans BZ.out hb)
  clear hb
  (iterate 2 (refine wpList_want (by rfl) (fun K hK => ?_); go_simp; refine hK.out _ _ ?_; clear hK K))
  refine wpList_want (by rfl) (fun K hK => ?_)
  go_simp
  refine hK.out _ _ ?_
  clear hK K
  refine wpList_want (by rfl) (fun K hK => ?_)
  go_simp
  refine hK.out _ _ ?_
  clear hK K
  refine wpList_loadG (by rfl) 24 _ rfl B2 16 (by rfl) [.int .u64 (s 4).x0, .int .u64 (s 4).x1, .int .u64 (s 4).x2, .int .u64 (s 4).x3] _ (A4.out _ BZ.out) US.out rfl (i4S _) ?_
  simp only [Act.put, List.setIfInBounds_toArray, List.set_cons_zero, List.set_cons_succ]
  refine wpList_want (by rfl) (fun K hK => ?_)
  go_simp
  refine hK.out _ _ ?_
  clear hK K
  refine wpList_loadG (by rfl) 24 _ rfl B3 16 (by rfl) [.int .u64 (s' 4).x0, .int .u64 (s' 4).x1, .int .u64 (s' 4).x2, .int .u64 (s' 4).x3] _ (D4.out _ BZ.out) US.out rfl (i4S _) ?_
  simp only [Act.put, List.setIfInBounds_toArray, List.set_cons_zero, List.set_cons_succ]
  refine wpList_want (by rfl) (fun K hK => ?_)
  go_simp
  refine (C4.out _ BZ.out).mono ?_
  rintro e w4 ⟨rfl, hb⟩
  dsimp only
  refine hK.out _ _ ?_
  clear hK K C4 A4 D4
  try simp only [Act.put, List.setIfInBounds_toArray, List.set_cons_zero, List.set_cons_succ]
  replace BZ := hidden (bl_trans BZ.out hb)
  clear hb
  (iterate 2 (refine wpList_want (by rfl) (fun K hK => ?_); go_simp; refine hK.out _ _ ?_; clear hK K))
  refine wpList_want (by rfl) (fun K hK => ?_)
  go_simp
  refine hK.out _ _ ?_
  clear hK K
  refine wpList_want (by rfl) (fun K hK => ?_)
  go_simp
  refine hK.out _ _ ?_
  clear hK K
  refine wpList_loadG (by rfl) 24 _ rfl B2 20 (by rfl) [.int .u64 (s 5).x0, .int .u64 (s 5).x1, .int .u64 (s 5).x2, .int .u64 (s 5).x3] _ (A5.out _ BZ.out) US.out rfl (i4S _) ?_
  simp only [Act.put, List.setIfInBounds_toArray, List.set_cons_zero, List.set_cons_succ]
  refine wpList_want (by rfl) (fun K hK => ?_)
  go_simp
  refine hK.out _ _ ?_
  clear hK K
  refine wpList_loadG (by rfl) 24 _ rfl B3 20 (by rfl) [.int .u64 (s' 5).x0, .int .u64 (s' 5).x1, .int .u64 (s' 5).x2, .int .u64 (s' 5).x3] _ (D5.out _ BZ.out) US.out rfl (i4S _) ?_
  simp only [Act.put, List.setIfInBounds_toArray, List.set_cons_zero, List.set_cons_succ]
  refine wpList_want (by rfl) (fun K hK => ?_)
  go_simp
  refine (C5.out _ BZ.out).mono ?_
  rintro e w5 ⟨rfl, hb⟩
  dsimp only
  refine hK.out _ _ ?_
  clear hK K C5 A5 D5
  try simp only [Act.put, List.setIfInBounds_toArray, List.set_cons_zero, List.set_cons_succ]
  replace BZ := hidden (bl_trans BZ.out hb)
  clear hb
  (iterate 2 (refine wpList_want (by rfl) (fun K hK => ?_); go_simp; refine hK.out _ _ ?_; clear hK K))
  refine wpList_want (by rfl) (fun K hK => ?_)
  go_simp
  refine hK.out _ _ ?_
  clear hK K
  refine wpList_want (by rfl) (fun K hK => ?_)
  go_simp
  refine hK.out _ _ ?_
  clear hK K
  refine wpList_loadG (by rfl) 24 _ rfl B2 24 (by rfl) [.int .u64 (s 6).x0, .int .u64 (s 6).x1, .int .u64 (s 6).x2, .int .u64 (s 6).x3] _ (A6.out _ BZ.out) US.out rfl (i4S _) ?_
  simp only [Act.put, List.setIfInBounds_toArray, List.set_cons_zero, List.set_cons_succ]
  refine wpList_want (by rfl) (fun K hK => ?_)
  go_simp
  refine hK.out _ _ ?_
  clear hK K
  refine wpList_loadG (by rfl) 24 _ rfl B3 24 (by rfl) [.int .u64 (s' 6).x0, .int .u64 (s' 6).x1, .int .u64 (s' 6).x2, .int .u64 (s' 6).x3] _ (D6.out _ BZ.out) US.out rfl (i4S _) ?_
  simp only [Act.put, List.setIfInBounds_toArray, List.set_cons_zero, List.set_cons_succ]
  refine wpList_want (by rfl) (fun K hK => ?_)
  go_simp
  refine (C6.out _ BZ.out).mono ?_
  rintro e w6 ⟨rfl, hb⟩
  dsimp only
  refine hK.out _ _ ?_
  clear hK K C6 A6 D6
  try simp only [Act.put, List.setIfInBounds_toArray, List.set_cons_zero, List.set_cons_succ]
  replace BZ := hidden (bl_trans BZ.out hb)
  clear hb
  refine wpList_want (by rfl) (fun K hK => ?_)
  go_simp
  refine hK.out _ _ ?_
  clear hK K
  refine wpList_wantH (by rfl) (fun K hK => ?_)
  go_simp
  refine hK.out _ _ ?_
  clear hK K
  (iterate 6 (refine wpList_skipH (by rfl) ?_; simp only [Act.put, List.setIfInBounds_toArray, List.set_cons_zero, List.set_cons_succ]))
  refine ⟨?_⟩
  refine wpList_want (by rfl) (fun K hK => ?_)
  go_simp
  refine hK.out _ _ ?_
  clear hK K
  refine wpList_wantH (by rfl) (fun K hK => ?_)
  go_simp
  refine hK.out _ _ ?_
  clear hK K
  (iterate 6 (refine wpList_skipH (by rfl) ?_; simp only [Act.put, List.setIfInBounds_toArray, List.set_cons_zero, List.set_cons_succ]))
  refine ⟨?_⟩
  refine wpList_want (by rfl) (fun K hK => ?_)
  go_simp
  refine hK.out _ _ ?_
  clear hK K
  refine wpList_want (by rfl) (fun K hK => ?_)
  go_simp
  refine hK.out _ _ ?_
  clear hK K
  exact HQ.out _ _ _ _ _ _ _ _ _ _ _ _ _ _ _ _ _ _ _ _ _ _ _ _ _ _ _ _ _ _ _ _ _ _ _ _ _ _ _ _ _ _ _ _ _ _ _ _ _ _ _ _ _ _ _ _ _ _ _ _ _ _ _ _ _ _ _ BZ.out
set_option maxRecDepth 100000 in
set_option maxHeartbeats 16000000 in
theorem al9_7 (Q : Exit → Act → World → Prop) (B2 B3 : Nat) (s s' : Nat → E4) (u0 u1 u4 u5 u7 u8 u9 u10 u11 u12 u13 u14 u15 u16 u17 u18 u19 u20 u21 u22 u23 u24 u25 u26 u27 u28 u29 u30 u31 u32 u33 u34 u35 u36 u37 u38 u39 u40 u41 u42 u43 u44 u45 u46 u47 u48 u49 u50 u51 u52 u53 u54 u55 u56 u57 u58 u59 u60 u61 u62 u63 u64 u65 u66 u67 u68 u69 u70 u71 u72 u73 u74 u75 u76 u77 u78 u79 u80 u81 u82 u83 u84 u85 u86 u87 u88 u89 u90 u91 u92 u93 u94 u95 u96 u97 u98 u99 u100 u101 u102 u103 u104 u105 u106 u107 u108 u109 u110 u111 u112 u113 u114 u115 u116 u117 u118 u119 u120 u121 : Value) (W : World)
    (C0 : Hid (∀ x, Below W.heap.size W x → Calls Tryd.prog 21 #[.agg #[.int .u64 (s 0).x0, .int .u64 (s 0).x1, .int .u64 (s 0).x2, .int .u64 (s 0).x3], .agg #[.int .u64 (s' 0).x0, .int .u64 (s' 0).x1, .int .u64 (s' 0).x2, .int .u64 (s' 0).x3]] x fun e w' => e = .returned (.bool true) ∧ Below x.heap.size x w')) (A0 : Hid (∀ x, Below W.heap.size W x → x.rangeAt B2 0 [.int .u64 (s 0).x0, .int .u64 (s 0).x1, .int .u64 (s 0).x2, .int .u64 (s 0).x3])) (D0 : Hid (∀ x, Below W.heap.size W x → x.rangeAt B3 0 [.int .u64 (s' 0).x0, .int .u64 (s' 0).x1, .int .u64 (s' 0).x2, .int .u64 (s' 0).x3])) (C1 : Hid (∀ x, Below W.heap.size W x → Calls Tryd.prog 21 #[.agg #[.int .u64 (s 1).x0, .int .u64 (s 1).x1, .int .u64 (s 1).x2, .int .u64 (s 1).x3], .agg #[.int .u64 (s' 1).x0, .int .u64 (s' 1).x1, .int .u64 (s' 1).x2, .int .u64 (s' 1).x3]] x fun e w' => e = .returned (.bool true) ∧ Below x.heap.size x w')) (A1 : Hid (∀ x, Below W.heap.size W x → x.rangeAt B2 4 [.int .u64 (s 1).x0, .int .u64 (s 1).x1, .int .u64 (s 1).x2, .int .u64 (s 1).x3])) (D1 : Hid (∀ x, Below W.heap.size W x → x.rangeAt B3 4 [.int .u64 (s' 1).x0, .int .u64 (s' 1).x1, .int .u64 (s' 1).x2, .int .u64 (s' 1).x3])) (C2 : Hid (∀ x, Below W.heap.size W x → Calls Tryd.prog 21 #[.agg #[.int .u64 (s 2).x0, .int .u64 (s 2).x1, .int .u64 (s 2).x2, .int .u64 (s 2).x3], .agg #[.int .u64 (s' 2).x0, .int .u64 (s' 2).x1, .int .u64 (s' 2).x2, .int .u64 (s' 2).x3]] x fun e w' => e = .returned (.bool true) ∧ Below x.heap.size x w')) (A2 : Hid (∀ x, Below W.heap.size W x → x.rangeAt B2 8 [.int .u64 (s 2).x0, .int .u64 (s 2).x1, .int .u64 (s 2).x2, .int .u64 (s 2).x3])) (D2 : Hid (∀ x, Below W.heap.size W x → x.rangeAt B3 8 [.int .u64 (s' 2).x0, .int .u64 (s' 2).x1, .int .u64 (s' 2).x2, .int .u64 (s' 2).x3])) (C3 : Hid (∀ x, Below W.heap.size W x → Calls Tryd.prog 21 #[.agg #[.int .u64 (s 3).x0, .int .u64 (s 3).x1, .int .u64 (s 3).x2, .int .u64 (s 3).x3], .agg #[.int .u64 (s' 3).x0, .int .u64 (s' 3).x1, .int .u64 (s' 3).x2, .int .u64 (s' 3).x3]] x fun e w' => e = .returned (.bool true) ∧ Below x.heap.size x w')) (A3 : Hid (∀ x, Below W.heap.size W x → x.rangeAt B2 12 [.int .u64 (s 3).x0, .int .u64 (s 3).x1, .int .u64 (s 3).x2, .int .u64 (s 3).x3])) (D3 : Hid (∀ x, Below W.heap.size W x → x.rangeAt B3 12 [.int .u64 (s' 3).x0, .int .u64 (s' 3).x1, .int .u64 (s' 3).x2, .int .u64 (s' 3).x3])) (C4 : Hid (∀ x, Below W.heap.size W x → Calls Tryd.prog 22 #[.agg #[.int .u64 (s 4).x0, .int .u64 (s 4).x1, .int .u64 (s 4).x2, .int .u64 (s 4).x3], .agg #[.int .u64 (s' 4).x0, .int .u64 (s' 4).x1, .int .u64 (s' 4).x2, .int .u64 (s' 4).x3]] x fun e w' => e = .returned (.bool true) ∧ Below x.heap.size x w')) (A4 : Hid (∀ x, Below W.heap.size W x → x.rangeAt B2 16 [.int .u64 (s 4).x0, .int .u64 (s 4).x1, .int .u64 (s 4).x2, .int .u64 (s 4).x3])) (D4 : Hid (∀ x, Below W.heap.size W x → x.rangeAt B3 16 [.int .u64 (s' 4).x0, .int .u64 (s' 4).x1, .int .u64 (s' 4).x2, .int .u64 (s' 4).x3])) (C5 : Hid (∀ x, Below W.heap.size W x → Calls Tryd.prog 22 #[.agg #[.int .u64 (s 5).x0, .int .u64 (s 5).x1, .int .u64 (s 5).x2, .int .u64 (s 5).x3], .agg #[.int .u64 (s' 5).x0, .int .u64 (s' 5).x1, .int .u64 (s' 5).x2, .int .u64 (s' 5).x3]] x fun e w' => e = .returned (.bool true) ∧ Below x.heap.size x w')) (A5 : Hid (∀ x, Below W.heap.size W x → x.rangeAt B2 20 [.int .u64 (s 5).x0, .int .u64 (s 5).x1, .int .u64 (s 5).x2, .int .u64 (s 5).x3])) (D5 : Hid (∀ x, Below W.heap.size W x → x.rangeAt B3 20 [.int .u64 (s' 5).x0, .int .u64 (s' 5).x1, .int .u64 (s' 5).x2, .int .u64 (s' 5).x3])) (C6 : Hid (∀ x, Below W.heap.size W x → Calls Tryd.prog 22 #[.agg #[.int .u64 (s 6).x0, .int .u64 (s 6).x1, .int .u64 (s 6).x2, .int .u64 (s 6).x3], .agg #[.int .u64 (s' 6).x0, .int .u64 (s' 6).x1, .int .u64 (s' 6).x2, .int .u64 (s' 6).x3]] x fun e w' => e = .returned (.bool true) ∧ Below x.heap.size x w')) (A6 : Hid (∀ x, Below W.heap.size W x → x.rangeAt B2 24 [.int .u64 (s 6).x0, .int .u64 (s 6).x1, .int .u64 (s 6).x2, .int .u64 (s 6).x3])) (D6 : Hid (∀ x, Below W.heap.size W x → x.rangeAt B3 24 [.int .u64 (s' 6).x0, .int .u64 (s' 6).x1, .int .u64 (s' 6).x2, .int .u64 (s' 6).x3])) (C7 : Hid (∀ x, Below W.heap.size W x → Calls Tryd.prog 22 #[.agg #[.int .u64 (s 7).x0, .int .u64 (s 7).x1, .int .u64 (s 7).x2, .int .u64 (s 7).x3], .agg #[.int .u64 (s' 7).x0, .int .u64 (s' 7).x1, .int .u64 (s' 7).x2, .int .u64 (s' 7).x3]] x fun e w' => e = .returned (.bool false) ∧ Below x.heap.size x w')) (A7 : Hid (∀ x, Below W.heap.size W x → x.rangeAt B2 30 [.int .u64 (s 7).x0, .int .u64 (s 7).x1, .int .u64 (s 7).x2, .int .u64 (s 7).x3])) (D7 : Hid (∀ x, Below W.heap.size W x → x.rangeAt B3 30 [.int .u64 (s' 7).x0, .int .u64 (s' 7).x1, .int .u64 (s' 7).x2, .int .u64 (s' 7).x3]))
    (HQ : Hid (∀ (z56 z57 z58 z59 z60 z61 z62 z63 z64 z65 z66 z67 z68 z69 z70 z71 z72 z73 z74 z75 z76 z77 z78 z79 z80 z81 z82 z83 z84 z85 z86 z87 z88 z89 z90 z91 z92 z93 z94 z95 z96 z97 z98 z99 z100 z101 z102 z103 z104 z105 z106 z107 z108 z109 z110 z111 z112 z113 z114 z115 z116 z117 z118 z119 z120 z121 : Value) wz, Below W.heap.size W wz → Q .normal ⟨#[u0, u1, .pointer (some ⟨B2, 0, none⟩), .pointer (some ⟨B3, 0, none⟩), .bool false, u5, .func (.func 22) #[] #[], u7, u8, u9, u10, u11, u12, u13, u14, u15, u16, u17, u18, u19, u20, u21, u22, u23, u24, u25, u26, u27, u28, u29, u30, u31, u32, u33, u34, u35, u36, u37, u38, u39, u40, u41, u42, u43, u44, u45, u46, u47, u48, u49, u50, u51, u52, u53, u54, u55, z56, z57, z58, z59, z60, z61, z62, z63, z64, z65, z66, z67, z68, z69, z70, z71, z72, z73, z74, z75, z76, z77, z78, z79, z80, z81, z82, z83, z84, z85, z86, z87, z88, z89, z90, z91, z92, z93, z94, z95, z96, z97, z98, z99, z100, z101, z102, z103, z104, z105, z106, z107, z108, z109, z110, z111, z112, z113, z114, z115, z116, z117, z118, z119, z120, z121], []⟩ wz)) : (Code.region 9 al9o false).wp Tryd.prog Q ⟨#[u0, u1, .pointer (some ⟨B2, 0, none⟩), .pointer (some ⟨B3, 0, none⟩), u4, u5, .func (.func 22) #[] #[], u7, u8, u9, u10, u11, u12, u13, u14, u15, u16, u17, u18, u19, u20, u21, u22, u23, u24, u25, u26, u27, u28, u29, u30, u31, u32, u33, u34, u35, u36, u37, u38, u39, u40, u41, u42, u43, u44, u45, u46, u47, u48, u49, u50, u51, u52, u53, u54, u55, u56, u57, u58, u59, u60, u61, u62, u63, u64, u65, u66, u67, u68, u69, u70, u71, u72, u73, u74, u75, u76, u77, u78, u79, u80, u81, u82, u83, u84, u85, u86, u87, u88, u89, u90, u91, u92, u93, u94, u95, u96, u97, u98, u99, u100, u101, u102, u103, u104, u105, u106, u107, u108, u109, u110, u111, u112, u113, u114, u115, u116, u117, u118, u119, u120, u121], []⟩ W := by
  have UL : Hid (Tryd.prog.underlying 32 = _) := hidden Tryd.underlying32
  have US : Hid (Tryd.prog.underlying 24 = _) := hidden Tryd.underlying24
  have BZ := hidden (Below.refl W.heap.size W)
  unfold al9o
  refine wp_region_lit ?_
  refine wpList_want (by rfl) (fun K hK => ?_)
  go_simp
  refine hK.out _ _ ?_
  clear hK K
  refine wpList_loadG (by rfl) 32 _ rfl B2 0 (by rfl) [.int .u64 (s 0).x0, .int .u64 (s 0).x1, .int .u64 (s 0).x2, .int .u64 (s 0).x3] _ (A0.out _ BZ.out) UL.out rfl (i4L _) ?_
  simp only [Act.put, List.setIfInBounds_toArray, List.set_cons_zero, List.set_cons_succ]
  refine wpList_want (by rfl) (fun K hK => ?_)
  go_simp
  refine hK.out _ _ ?_
  clear hK K
  refine wpList_loadG (by rfl) 32 _ rfl B3 0 (by rfl) [.int .u64 (s' 0).x0, .int .u64 (s' 0).x1, .int .u64 (s' 0).x2, .int .u64 (s' 0).x3] _ (D0.out _ BZ.out) UL.out rfl (i4L _) ?_
  simp only [Act.put, List.setIfInBounds_toArray, List.set_cons_zero, List.set_cons_succ]
  refine wpList_want (by rfl) (fun K hK => ?_)
  go_simp
  refine (C0.out _ BZ.out).mono ?_
  rintro e w0 ⟨rfl, hb⟩
  dsimp only
  refine hK.out _ _ ?_
  clear hK K C0 A0 D0
  try simp only [Act.put, List.setIfInBounds_toArray, List.set_cons_zero, List.set_cons_succ]
  replace BZ := hidden (bl_trans BZ.out hb)
  clear hb
  refine wpList_want (by rfl) (fun K hK => ?_)
  go_simp
  refine hK.out _ _ ?_
  clear hK K
  refine wpList_want (by rfl) (fun K hK => ?_)
  go_simp
  refine hK.out _ _ ?_
  clear hK K
  refine wpList_loadG (by rfl) 32 _ rfl B2 4 (by rfl) [.int .u64 (s 1).x0, .int .u64 (s 1).x1, .int .u64 (s 1).x2, .int .u64 (s 1).x3] _ (A1.out _ BZ.out) UL.out rfl (i4L _) ?_
  simp only [Act.put, List.setIfInBounds_toArray, List.set_cons_zero, List.set_cons_succ]
  refine wpList_want (by rfl) (fun K hK => ?_)
  go_simp
  refine hK.out _ _ ?_
  clear hK K
  refine wpList_loadG (by rfl) 32 _ rfl B3 4 (by rfl) [.int .u64 (s' 1).x0, .int .u64 (s' 1).x1, .int .u64 (s' 1).x2, .int .u64 (s' 1).x3] _ (D1.out _ BZ.out) UL.out rfl (i4L _) ?_
  simp only [Act.put, List.setIfInBounds_toArray, List.set_cons_zero, List.set_cons_succ]
  refine wpList_want (by rfl) (fun K hK => ?_)
  go_simp
  refine (C1.out _ BZ.out).mono ?_
  rintro e w1 ⟨rfl, hb⟩
  dsimp only
  refine hK.out _ _ ?_
  clear hK K C1 A1 D1
  try simp only [Act.put, List.setIfInBounds_toArray, List.set_cons_zero, List.set_cons_succ]
  replace BZ := hidden (bl_trans BZ.out hb)
  clear hb
  (iterate 2 (refine wpList_want (by rfl) (fun K hK => ?_); go_simp; refine hK.out _ _ ?_; clear hK K))
  refine wpList_want (by rfl) (fun K hK => ?_)
  go_simp
  refine hK.out _ _ ?_
  clear hK K
  refine wpList_loadG (by rfl) 32 _ rfl B2 8 (by rfl) [.int .u64 (s 2).x0, .int .u64 (s 2).x1, .int .u64 (s 2).x2, .int .u64 (s 2).x3] _ (A2.out _ BZ.out) UL.out rfl (i4L _) ?_
  simp only [Act.put, List.setIfInBounds_toArray, List.set_cons_zero, List.set_cons_succ]
  refine wpList_want (by rfl) (fun K hK => ?_)
  go_simp
  refine hK.out _ _ ?_
  clear hK K
  refine wpList_loadG (by rfl) 32 _ rfl B3 8 (by rfl) [.int .u64 (s' 2).x0, .int .u64 (s' 2).x1, .int .u64 (s' 2).x2, .int .u64 (s' 2).x3] _ (D2.out _ BZ.out) UL.out rfl (i4L _) ?_
  simp only [Act.put, List.setIfInBounds_toArray, List.set_cons_zero, List.set_cons_succ]
  refine wpList_want (by rfl) (fun K hK => ?_)
  go_simp
  refine (C2.out _ BZ.out).mono ?_
  rintro e w2 ⟨rfl, hb⟩
  dsimp only
  refine hK.out _ _ ?_
  clear hK K C2 A2 D2
  try simp only [Act.put, List.setIfInBounds_toArray, List.set_cons_zero, List.set_cons_succ]
  replace BZ := hidden (bl_trans BZ.out hb)
  clear hb
  (iterate 2 (refine wpList_want (by rfl) (fun K hK => ?_); go_simp; refine hK.out _ _ ?_; clear hK K))
  refine wpList_want (by rfl) (fun K hK => ?_)
  go_simp
  refine hK.out _ _ ?_
  clear hK K
  refine wpList_loadG (by rfl) 32 _ rfl B2 12 (by rfl) [.int .u64 (s 3).x0, .int .u64 (s 3).x1, .int .u64 (s 3).x2, .int .u64 (s 3).x3] _ (A3.out _ BZ.out) UL.out rfl (i4L _) ?_
  simp only [Act.put, List.setIfInBounds_toArray, List.set_cons_zero, List.set_cons_succ]
  refine wpList_want (by rfl) (fun K hK => ?_)
  go_simp
  refine hK.out _ _ ?_
  clear hK K
  refine wpList_loadG (by rfl) 32 _ rfl B3 12 (by rfl) [.int .u64 (s' 3).x0, .int .u64 (s' 3).x1, .int .u64 (s' 3).x2, .int .u64 (s' 3).x3] _ (D3.out _ BZ.out) UL.out rfl (i4L _) ?_
  simp only [Act.put, List.setIfInBounds_toArray, List.set_cons_zero, List.set_cons_succ]
  refine wpList_want (by rfl) (fun K hK => ?_)
  go_simp
  refine (C3.out _ BZ.out).mono ?_
  rintro e w3 ⟨rfl, hb⟩
  dsimp only
  refine hK.out _ _ ?_
  clear hK K C3 A3 D3
  try simp only [Act.put, List.setIfInBounds_toArray, List.set_cons_zero, List.set_cons_succ]
  replace BZ := hidden (bl_trans BZ.out hb)
  clear hb
  (iterate 2 (refine wpList_want (by rfl) (fun K hK => ?_); go_simp; refine hK.out _ _ ?_; clear hK K))
  refine wpList_want (by rfl) (fun K hK => ?_)
  go_simp
  refine hK.out _ _ ?_
  clear hK K
  refine wpList_want (by rfl) (fun K hK => ?_)
  go_simp
  refine hK.out _ _ ?_
  clear hK K
  refine wpList_loadG (by rfl) 24 _ rfl B2 16 (by rfl) [.int .u64 (s 4).x0, .int .u64 (s 4).x1, .int .u64 (s 4).x2, .int .u64 (s 4).x3] _ (A4.out _ BZ.out) US.out rfl (i4S _) ?_
  simp only [Act.put, List.setIfInBounds_toArray, List.set_cons_zero, List.set_cons_succ]
  refine wpList_want (by rfl) (fun K hK => ?_)
  go_simp
  refine hK.out _ _ ?_
  clear hK K
  refine wpList_loadG (by rfl) 24 _ rfl B3 16 (by rfl) [.int .u64 (s' 4).x0, .int .u64 (s' 4).x1, .int .u64 (s' 4).x2, .int .u64 (s' 4).x3] _ (D4.out _ BZ.out) US.out rfl (i4S _) ?_
  simp only [Act.put, List.setIfInBounds_toArray, List.set_cons_zero, List.set_cons_succ]
  refine wpList_want (by rfl) (fun K hK => ?_)
  go_simp
  refine (C4.out _ BZ.out).mono ?_
  rintro e w4 ⟨rfl, hb⟩
  dsimp only
  refine hK.out _ _ ?_
  clear hK K C4 A4 D4
  try simp only [Act.put, List.setIfInBounds_toArray, List.set_cons_zero, List.set_cons_succ]
  replace BZ := hidden (bl_trans BZ.out hb)
  clear hb
  (iterate 2 (refine wpList_want (by rfl) (fun K hK => ?_); go_simp; refine hK.out _ _ ?_; clear hK K))
  refine wpList_want (by rfl) (fun K hK => ?_)
  go_simp
  refine hK.out _ _ ?_
  clear hK K
  refine wpList_want (by rfl) (fun K hK => ?_)
  go_simp
  refine hK.out _ _ ?_
  clear hK K
  refine wpList_loadG (by rfl) 24 _ rfl B2 20 (by rfl) [.int .u64 (s 5).x0, .int .u64 (s 5).x1, .int .u64 (s 5).x2, .int .u64 (s 5).x3] _ (A5.out _ BZ.out) US.out rfl (i4S _) ?_
  simp only [Act.put, List.setIfInBounds_toArray, List.set_cons_zero, List.set_cons_succ]
  refine wpList_want (by rfl) (fun K hK => ?_)
  go_simp
  refine hK.out _ _ ?_
  clear hK K
  refine wpList_loadG (by rfl) 24 _ rfl B3 20 (by rfl) [.int .u64 (s' 5).x0, .int .u64 (s' 5).x1, .int .u64 (s' 5).x2, .int .u64 (s' 5).x3] _ (D5.out _ BZ.out) US.out rfl (i4S _) ?_
  simp only [Act.put, List.setIfInBounds_toArray, List.set_cons_zero, List.set_cons_succ]
  refine wpList_want (by rfl) (fun K hK => ?_)
  go_simp
  refine (C5.out _ BZ.out).mono ?_
  rintro e w5 ⟨rfl, hb⟩
  dsimp only
  refine hK.out _ _ ?_
  clear hK K C5 A5 D5
  try simp only [Act.put, List.setIfInBounds_toArray, List.set_cons_zero, List.set_cons_succ]
  replace BZ := hidden (bl_trans BZ.out hb)
  clear hb
  (iterate 2 (refine wpList_want (by rfl) (fun K hK => ?_); go_simp; refine hK.out _ _ ?_; clear hK K))
  refine wpList_want (by rfl) (fun K hK => ?_)
  go_simp
  refine hK.out _ _ ?_
  clear hK K
  refine wpList_want (by rfl) (fun K hK => ?_)
  go_simp
  refine hK.out _ _ ?_
  clear hK K
  refine wpList_loadG (by rfl) 24 _ rfl B2 24 (by rfl) [.int .u64 (s 6).x0, .int .u64 (s 6).x1, .int .u64 (s 6).x2, .int .u64 (s 6).x3] _ (A6.out _ BZ.out) US.out rfl (i4S _) ?_
  simp only [Act.put, List.setIfInBounds_toArray, List.set_cons_zero, List.set_cons_succ]
  refine wpList_want (by rfl) (fun K hK => ?_)
  go_simp
  refine hK.out _ _ ?_
  clear hK K
  refine wpList_loadG (by rfl) 24 _ rfl B3 24 (by rfl) [.int .u64 (s' 6).x0, .int .u64 (s' 6).x1, .int .u64 (s' 6).x2, .int .u64 (s' 6).x3] _ (D6.out _ BZ.out) US.out rfl (i4S _) ?_
  simp only [Act.put, List.setIfInBounds_toArray, List.set_cons_zero, List.set_cons_succ]
  refine wpList_want (by rfl) (fun K hK => ?_)
  go_simp
  refine (C6.out _ BZ.out).mono ?_
  rintro e w6 ⟨rfl, hb⟩
  dsimp only
  refine hK.out _ _ ?_
  clear hK K C6 A6 D6
  try simp only [Act.put, List.setIfInBounds_toArray, List.set_cons_zero, List.set_cons_succ]
  replace BZ := hidden (bl_trans BZ.out hb)
  clear hb
  (iterate 2 (refine wpList_want (by rfl) (fun K hK => ?_); go_simp; refine hK.out _ _ ?_; clear hK K))
  refine wpList_want (by rfl) (fun K hK => ?_)
  go_simp
  refine hK.out _ _ ?_
  clear hK K
  refine wpList_want (by rfl) (fun K hK => ?_)
  go_simp
  refine hK.out _ _ ?_
  clear hK K
  refine wpList_loadG (by rfl) 24 _ rfl B2 30 (by rfl) [.int .u64 (s 7).x0, .int .u64 (s 7).x1, .int .u64 (s 7).x2, .int .u64 (s 7).x3] _ (A7.out _ BZ.out) US.out rfl (i4S _) ?_
  simp only [Act.put, List.setIfInBounds_toArray, List.set_cons_zero, List.set_cons_succ]
  refine wpList_want (by rfl) (fun K hK => ?_)
  go_simp
  refine hK.out _ _ ?_
  clear hK K
  refine wpList_loadG (by rfl) 24 _ rfl B3 30 (by rfl) [.int .u64 (s' 7).x0, .int .u64 (s' 7).x1, .int .u64 (s' 7).x2, .int .u64 (s' 7).x3] _ (D7.out _ BZ.out) US.out rfl (i4S _) ?_
  simp only [Act.put, List.setIfInBounds_toArray, List.set_cons_zero, List.set_cons_succ]
  refine wpList_want (by rfl) (fun K hK => ?_)
  go_simp
  refine (C7.out _ BZ.out).mono ?_
  rintro e w7 ⟨rfl, hb⟩
  dsimp only
  refine hK.out _ _ ?_
  clear hK K C7 A7 D7
  try simp only [Act.put, List.setIfInBounds_toArray, List.set_cons_zero, List.set_cons_succ]
  replace BZ := hidden (bl_trans BZ.out hb)
  clear hb
  refine wpList_want (by rfl) (fun K hK => ?_)
  go_simp
  refine hK.out _ _ ?_
  clear hK K
  refine wpList_wantH (by rfl) (fun K hK => ?_)
  go_simp
  refine hK.out _ _ ?_
  clear hK K
  (iterate 6 (refine wpList_skipH (by rfl) ?_; simp only [Act.put, List.setIfInBounds_toArray, List.set_cons_zero, List.set_cons_succ]))
  refine ⟨?_⟩
  refine wpList_want (by rfl) (fun K hK => ?_)
  go_simp
  refine hK.out _ _ ?_
  clear hK K
  refine wpList_want (by rfl) (fun K hK => ?_)
  go_simp
  refine hK.out _ _ ?_
  clear hK K
  exact HQ.out _ _ _ _ _ _ _ _ _ _ _ _ _ _ _ _ _ _ _ _ _ _ _ _ _ _ _ _ _ _ _ _ _ _ _ _ _ _ _ _ _ _ _ _ _ _ _ _ _ _ _ _ _ _ _ _ _ _ _ _ _ _ _ _ _ _ _ BZ.out
set_option maxRecDepth 100000 in
set_option maxHeartbeats 16000000 in
theorem al9_8 (Q : Exit → Act → World → Prop) (B2 B3 : Nat) (s s' : Nat → E4) (u0 u1 u4 u5 u7 u8 u9 u10 u11 u12 u13 u14 u15 u16 u17 u18 u19 u20 u21 u22 u23 u24 u25 u26 u27 u28 u29 u30 u31 u32 u33 u34 u35 u36 u37 u38 u39 u40 u41 u42 u43 u44 u45 u46 u47 u48 u49 u50 u51 u52 u53 u54 u55 u56 u57 u58 u59 u60 u61 u62 u63 u64 u65 u66 u67 u68 u69 u70 u71 u72 u73 u74 u75 u76 u77 u78 u79 u80 u81 u82 u83 u84 u85 u86 u87 u88 u89 u90 u91 u92 u93 u94 u95 u96 u97 u98 u99 u100 u101 u102 u103 u104 u105 u106 u107 u108 u109 u110 u111 u112 u113 u114 u115 u116 u117 u118 u119 u120 u121 : Value) (W : World)
    (C0 : Hid (∀ x, Below W.heap.size W x → Calls Tryd.prog 21 #[.agg #[.int .u64 (s 0).x0, .int .u64 (s 0).x1, .int .u64 (s 0).x2, .int .u64 (s 0).x3], .agg #[.int .u64 (s' 0).x0, .int .u64 (s' 0).x1, .int .u64 (s' 0).x2, .int .u64 (s' 0).x3]] x fun e w' => e = .returned (.bool true) ∧ Below x.heap.size x w')) (A0 : Hid (∀ x, Below W.heap.size W x → x.rangeAt B2 0 [.int .u64 (s 0).x0, .int .u64 (s 0).x1, .int .u64 (s 0).x2, .int .u64 (s 0).x3])) (D0 : Hid (∀ x, Below W.heap.size W x → x.rangeAt B3 0 [.int .u64 (s' 0).x0, .int .u64 (s' 0).x1, .int .u64 (s' 0).x2, .int .u64 (s' 0).x3])) (C1 : Hid (∀ x, Below W.heap.size W x → Calls Tryd.prog 21 #[.agg #[.int .u64 (s 1).x0, .int .u64 (s 1).x1, .int .u64 (s 1).x2, .int .u64 (s 1).x3], .agg #[.int .u64 (s' 1).x0, .int .u64 (s' 1).x1, .int .u64 (s' 1).x2, .int .u64 (s' 1).x3]] x fun e w' => e = .returned (.bool true) ∧ Below x.heap.size x w')) (A1 : Hid (∀ x, Below W.heap.size W x → x.rangeAt B2 4 [.int .u64 (s 1).x0, .int .u64 (s 1).x1, .int .u64 (s 1).x2, .int .u64 (s 1).x3])) (D1 : Hid (∀ x, Below W.heap.size W x → x.rangeAt B3 4 [.int .u64 (s' 1).x0, .int .u64 (s' 1).x1, .int .u64 (s' 1).x2, .int .u64 (s' 1).x3])) (C2 : Hid (∀ x, Below W.heap.size W x → Calls Tryd.prog 21 #[.agg #[.int .u64 (s 2).x0, .int .u64 (s 2).x1, .int .u64 (s 2).x2, .int .u64 (s 2).x3], .agg #[.int .u64 (s' 2).x0, .int .u64 (s' 2).x1, .int .u64 (s' 2).x2, .int .u64 (s' 2).x3]] x fun e w' => e = .returned (.bool true) ∧ Below x.heap.size x w')) (A2 : Hid (∀ x, Below W.heap.size W x → x.rangeAt B2 8 [.int .u64 (s 2).x0, .int .u64 (s 2).x1, .int .u64 (s 2).x2, .int .u64 (s 2).x3])) (D2 : Hid (∀ x, Below W.heap.size W x → x.rangeAt B3 8 [.int .u64 (s' 2).x0, .int .u64 (s' 2).x1, .int .u64 (s' 2).x2, .int .u64 (s' 2).x3])) (C3 : Hid (∀ x, Below W.heap.size W x → Calls Tryd.prog 21 #[.agg #[.int .u64 (s 3).x0, .int .u64 (s 3).x1, .int .u64 (s 3).x2, .int .u64 (s 3).x3], .agg #[.int .u64 (s' 3).x0, .int .u64 (s' 3).x1, .int .u64 (s' 3).x2, .int .u64 (s' 3).x3]] x fun e w' => e = .returned (.bool true) ∧ Below x.heap.size x w')) (A3 : Hid (∀ x, Below W.heap.size W x → x.rangeAt B2 12 [.int .u64 (s 3).x0, .int .u64 (s 3).x1, .int .u64 (s 3).x2, .int .u64 (s 3).x3])) (D3 : Hid (∀ x, Below W.heap.size W x → x.rangeAt B3 12 [.int .u64 (s' 3).x0, .int .u64 (s' 3).x1, .int .u64 (s' 3).x2, .int .u64 (s' 3).x3])) (C4 : Hid (∀ x, Below W.heap.size W x → Calls Tryd.prog 22 #[.agg #[.int .u64 (s 4).x0, .int .u64 (s 4).x1, .int .u64 (s 4).x2, .int .u64 (s 4).x3], .agg #[.int .u64 (s' 4).x0, .int .u64 (s' 4).x1, .int .u64 (s' 4).x2, .int .u64 (s' 4).x3]] x fun e w' => e = .returned (.bool true) ∧ Below x.heap.size x w')) (A4 : Hid (∀ x, Below W.heap.size W x → x.rangeAt B2 16 [.int .u64 (s 4).x0, .int .u64 (s 4).x1, .int .u64 (s 4).x2, .int .u64 (s 4).x3])) (D4 : Hid (∀ x, Below W.heap.size W x → x.rangeAt B3 16 [.int .u64 (s' 4).x0, .int .u64 (s' 4).x1, .int .u64 (s' 4).x2, .int .u64 (s' 4).x3])) (C5 : Hid (∀ x, Below W.heap.size W x → Calls Tryd.prog 22 #[.agg #[.int .u64 (s 5).x0, .int .u64 (s 5).x1, .int .u64 (s 5).x2, .int .u64 (s 5).x3], .agg #[.int .u64 (s' 5).x0, .int .u64 (s' 5).x1, .int .u64 (s' 5).x2, .int .u64 (s' 5).x3]] x fun e w' => e = .returned (.bool true) ∧ Below x.heap.size x w')) (A5 : Hid (∀ x, Below W.heap.size W x → x.rangeAt B2 20 [.int .u64 (s 5).x0, .int .u64 (s 5).x1, .int .u64 (s 5).x2, .int .u64 (s 5).x3])) (D5 : Hid (∀ x, Below W.heap.size W x → x.rangeAt B3 20 [.int .u64 (s' 5).x0, .int .u64 (s' 5).x1, .int .u64 (s' 5).x2, .int .u64 (s' 5).x3])) (C6 : Hid (∀ x, Below W.heap.size W x → Calls Tryd.prog 22 #[.agg #[.int .u64 (s 6).x0, .int .u64 (s 6).x1, .int .u64 (s 6).x2, .int .u64 (s 6).x3], .agg #[.int .u64 (s' 6).x0, .int .u64 (s' 6).x1, .int .u64 (s' 6).x2, .int .u64 (s' 6).x3]] x fun e w' => e = .returned (.bool true) ∧ Below x.heap.size x w')) (A6 : Hid (∀ x, Below W.heap.size W x → x.rangeAt B2 24 [.int .u64 (s 6).x0, .int .u64 (s 6).x1, .int .u64 (s 6).x2, .int .u64 (s 6).x3])) (D6 : Hid (∀ x, Below W.heap.size W x → x.rangeAt B3 24 [.int .u64 (s' 6).x0, .int .u64 (s' 6).x1, .int .u64 (s' 6).x2, .int .u64 (s' 6).x3])) (C7 : Hid (∀ x, Below W.heap.size W x → Calls Tryd.prog 22 #[.agg #[.int .u64 (s 7).x0, .int .u64 (s 7).x1, .int .u64 (s 7).x2, .int .u64 (s 7).x3], .agg #[.int .u64 (s' 7).x0, .int .u64 (s' 7).x1, .int .u64 (s' 7).x2, .int .u64 (s' 7).x3]] x fun e w' => e = .returned (.bool true) ∧ Below x.heap.size x w')) (A7 : Hid (∀ x, Below W.heap.size W x → x.rangeAt B2 30 [.int .u64 (s 7).x0, .int .u64 (s 7).x1, .int .u64 (s 7).x2, .int .u64 (s 7).x3])) (D7 : Hid (∀ x, Below W.heap.size W x → x.rangeAt B3 30 [.int .u64 (s' 7).x0, .int .u64 (s' 7).x1, .int .u64 (s' 7).x2, .int .u64 (s' 7).x3])) (C8 : Hid (∀ x, Below W.heap.size W x → Calls Tryd.prog 22 #[.agg #[.int .u64 (s 8).x0, .int .u64 (s 8).x1, .int .u64 (s 8).x2, .int .u64 (s 8).x3], .agg #[.int .u64 (s' 8).x0, .int .u64 (s' 8).x1, .int .u64 (s' 8).x2, .int .u64 (s' 8).x3]] x fun e w' => e = .returned (.bool false) ∧ Below x.heap.size x w')) (A8 : Hid (∀ x, Below W.heap.size W x → x.rangeAt B2 34 [.int .u64 (s 8).x0, .int .u64 (s 8).x1, .int .u64 (s 8).x2, .int .u64 (s 8).x3])) (D8 : Hid (∀ x, Below W.heap.size W x → x.rangeAt B3 34 [.int .u64 (s' 8).x0, .int .u64 (s' 8).x1, .int .u64 (s' 8).x2, .int .u64 (s' 8).x3]))
    (HQ : Hid (∀ (z56 z57 z58 z59 z60 z61 z62 z63 z64 z65 z66 z67 z68 z69 z70 z71 z72 z73 z74 z75 z76 z77 z78 z79 z80 z81 z82 z83 z84 z85 z86 z87 z88 z89 z90 z91 z92 z93 z94 z95 z96 z97 z98 z99 z100 z101 z102 z103 z104 z105 z106 z107 z108 z109 z110 z111 z112 z113 z114 z115 z116 z117 z118 z119 z120 z121 : Value) wz, Below W.heap.size W wz → Q .normal ⟨#[u0, u1, .pointer (some ⟨B2, 0, none⟩), .pointer (some ⟨B3, 0, none⟩), .bool false, u5, .func (.func 22) #[] #[], u7, u8, u9, u10, u11, u12, u13, u14, u15, u16, u17, u18, u19, u20, u21, u22, u23, u24, u25, u26, u27, u28, u29, u30, u31, u32, u33, u34, u35, u36, u37, u38, u39, u40, u41, u42, u43, u44, u45, u46, u47, u48, u49, u50, u51, u52, u53, u54, u55, z56, z57, z58, z59, z60, z61, z62, z63, z64, z65, z66, z67, z68, z69, z70, z71, z72, z73, z74, z75, z76, z77, z78, z79, z80, z81, z82, z83, z84, z85, z86, z87, z88, z89, z90, z91, z92, z93, z94, z95, z96, z97, z98, z99, z100, z101, z102, z103, z104, z105, z106, z107, z108, z109, z110, z111, z112, z113, z114, z115, z116, z117, z118, z119, z120, z121], []⟩ wz)) : (Code.region 9 al9o false).wp Tryd.prog Q ⟨#[u0, u1, .pointer (some ⟨B2, 0, none⟩), .pointer (some ⟨B3, 0, none⟩), u4, u5, .func (.func 22) #[] #[], u7, u8, u9, u10, u11, u12, u13, u14, u15, u16, u17, u18, u19, u20, u21, u22, u23, u24, u25, u26, u27, u28, u29, u30, u31, u32, u33, u34, u35, u36, u37, u38, u39, u40, u41, u42, u43, u44, u45, u46, u47, u48, u49, u50, u51, u52, u53, u54, u55, u56, u57, u58, u59, u60, u61, u62, u63, u64, u65, u66, u67, u68, u69, u70, u71, u72, u73, u74, u75, u76, u77, u78, u79, u80, u81, u82, u83, u84, u85, u86, u87, u88, u89, u90, u91, u92, u93, u94, u95, u96, u97, u98, u99, u100, u101, u102, u103, u104, u105, u106, u107, u108, u109, u110, u111, u112, u113, u114, u115, u116, u117, u118, u119, u120, u121], []⟩ W := by
  have UL : Hid (Tryd.prog.underlying 32 = _) := hidden Tryd.underlying32
  have US : Hid (Tryd.prog.underlying 24 = _) := hidden Tryd.underlying24
  have BZ := hidden (Below.refl W.heap.size W)
  unfold al9o
  refine wp_region_lit ?_
  refine wpList_want (by rfl) (fun K hK => ?_)
  go_simp
  refine hK.out _ _ ?_
  clear hK K
  refine wpList_loadG (by rfl) 32 _ rfl B2 0 (by rfl) [.int .u64 (s 0).x0, .int .u64 (s 0).x1, .int .u64 (s 0).x2, .int .u64 (s 0).x3] _ (A0.out _ BZ.out) UL.out rfl (i4L _) ?_
  simp only [Act.put, List.setIfInBounds_toArray, List.set_cons_zero, List.set_cons_succ]
  refine wpList_want (by rfl) (fun K hK => ?_)
  go_simp
  refine hK.out _ _ ?_
  clear hK K
  refine wpList_loadG (by rfl) 32 _ rfl B3 0 (by rfl) [.int .u64 (s' 0).x0, .int .u64 (s' 0).x1, .int .u64 (s' 0).x2, .int .u64 (s' 0).x3] _ (D0.out _ BZ.out) UL.out rfl (i4L _) ?_
  simp only [Act.put, List.setIfInBounds_toArray, List.set_cons_zero, List.set_cons_succ]
  refine wpList_want (by rfl) (fun K hK => ?_)
  go_simp
  refine (C0.out _ BZ.out).mono ?_
  rintro e w0 ⟨rfl, hb⟩
  dsimp only
  refine hK.out _ _ ?_
  clear hK K C0 A0 D0
  try simp only [Act.put, List.setIfInBounds_toArray, List.set_cons_zero, List.set_cons_succ]
  replace BZ := hidden (bl_trans BZ.out hb)
  clear hb
  refine wpList_want (by rfl) (fun K hK => ?_)
  go_simp
  refine hK.out _ _ ?_
  clear hK K
  refine wpList_want (by rfl) (fun K hK => ?_)
  go_simp
  refine hK.out _ _ ?_
  clear hK K
  refine wpList_loadG (by rfl) 32 _ rfl B2 4 (by rfl) [.int .u64 (s 1).x0, .int .u64 (s 1).x1, .int .u64 (s 1).x2, .int .u64 (s 1).x3] _ (A1.out _ BZ.out) UL.out rfl (i4L _) ?_
  simp only [Act.put, List.setIfInBounds_toArray, List.set_cons_zero, List.set_cons_succ]
  refine wpList_want (by rfl) (fun K hK => ?_)
  go_simp
  refine hK.out _ _ ?_
  clear hK K
  refine wpList_loadG (by rfl) 32 _ rfl B3 4 (by rfl) [.int .u64 (s' 1).x0, .int .u64 (s' 1).x1, .int .u64 (s' 1).x2, .int .u64 (s' 1).x3] _ (D1.out _ BZ.out) UL.out rfl (i4L _) ?_
  simp only [Act.put, List.setIfInBounds_toArray, List.set_cons_zero, List.set_cons_succ]
  refine wpList_want (by rfl) (fun K hK => ?_)
  go_simp
  refine (C1.out _ BZ.out).mono ?_
  rintro e w1 ⟨rfl, hb⟩
  dsimp only
  refine hK.out _ _ ?_
  clear hK K C1 A1 D1
  try simp only [Act.put, List.setIfInBounds_toArray, List.set_cons_zero, List.set_cons_succ]
  replace BZ := hidden (bl_trans BZ.out hb)
  clear hb
  (iterate 2 (refine wpList_want (by rfl) (fun K hK => ?_); go_simp; refine hK.out _ _ ?_; clear hK K))
  refine wpList_want (by rfl) (fun K hK => ?_)
  go_simp
  refine hK.out _ _ ?_
  clear hK K
  refine wpList_loadG (by rfl) 32 _ rfl B2 8 (by rfl) [.int .u64 (s 2).x0, .int .u64 (s 2).x1, .int .u64 (s 2).x2, .int .u64 (s 2).x3] _ (A2.out _ BZ.out) UL.out rfl (i4L _) ?_
  simp only [Act.put, List.setIfInBounds_toArray, List.set_cons_zero, List.set_cons_succ]
  refine wpList_want (by rfl) (fun K hK => ?_)
  go_simp
  refine hK.out _ _ ?_
  clear hK K
  refine wpList_loadG (by rfl) 32 _ rfl B3 8 (by rfl) [.int .u64 (s' 2).x0, .int .u64 (s' 2).x1, .int .u64 (s' 2).x2, .int .u64 (s' 2).x3] _ (D2.out _ BZ.out) UL.out rfl (i4L _) ?_
  simp only [Act.put, List.setIfInBounds_toArray, List.set_cons_zero, List.set_cons_succ]
  refine wpList_want (by rfl) (fun K hK => ?_)
  go_simp
  refine (C2.out _ BZ.out).mono ?_
  rintro e w2 ⟨rfl, hb⟩
  dsimp only
  refine hK.out _ _ ?_
  clear hK K C2 A2 D2
  try simp only [Act.put, List.setIfInBounds_toArray, List.set_cons_zero, List.set_cons_succ]
  replace BZ := hidden (bl_trans BZ.out hb)
  clear hb
  (iterate 2 (refine wpList_want (by rfl) (fun K hK => ?_); go_simp; refine hK.out _ _ ?_; clear hK K))
  refine wpList_want (by rfl) (fun K hK => ?_)
  go_simp
  refine hK.out _ _ ?_
  clear hK K
  refine wpList_loadG (by rfl) 32 _ rfl B2 12 (by rfl) [.int .u64 (s 3).x0, .int .u64 (s 3).x1, .int .u64 (s 3).x2, .int .u64 (s 3).x3] _ (A3.out _ BZ.out) UL.out rfl (i4L _) ?_
  simp only [Act.put, List.setIfInBounds_toArray, List.set_cons_zero, List.set_cons_succ]
  refine wpList_want (by rfl) (fun K hK => ?_)
  go_simp
  refine hK.out _ _ ?_
  clear hK K
  refine wpList_loadG (by rfl) 32 _ rfl B3 12 (by rfl) [.int .u64 (s' 3).x0, .int .u64 (s' 3).x1, .int .u64 (s' 3).x2, .int .u64 (s' 3).x3] _ (D3.out _ BZ.out) UL.out rfl (i4L _) ?_
  simp only [Act.put, List.setIfInBounds_toArray, List.set_cons_zero, List.set_cons_succ]
  refine wpList_want (by rfl) (fun K hK => ?_)
  go_simp
  refine (C3.out _ BZ.out).mono ?_
  rintro e w3 ⟨rfl, hb⟩
  dsimp only
  refine hK.out _ _ ?_
  clear hK K C3 A3 D3
  try simp only [Act.put, List.setIfInBounds_toArray, List.set_cons_zero, List.set_cons_succ]
  replace BZ := hidden (bl_trans BZ.out hb)
  clear hb
  (iterate 2 (refine wpList_want (by rfl) (fun K hK => ?_); go_simp; refine hK.out _ _ ?_; clear hK K))
  refine wpList_want (by rfl) (fun K hK => ?_)
  go_simp
  refine hK.out _ _ ?_
  clear hK K
  refine wpList_want (by rfl) (fun K hK => ?_)
  go_simp
  refine hK.out _ _ ?_
  clear hK K
  refine wpList_loadG (by rfl) 24 _ rfl B2 16 (by rfl) [.int .u64 (s 4).x0, .int .u64 (s 4).x1, .int .u64 (s 4).x2, .int .u64 (s 4).x3] _ (A4.out _ BZ.out) US.out rfl (i4S _) ?_
  simp only [Act.put, List.setIfInBounds_toArray, List.set_cons_zero, List.set_cons_succ]
  refine wpList_want (by rfl) (fun K hK => ?_)
  go_simp
  refine hK.out _ _ ?_
  clear hK K
  refine wpList_loadG (by rfl) 24 _ rfl B3 16 (by rfl) [.int .u64 (s' 4).x0, .int .u64 (s' 4).x1, .int .u64 (s' 4).x2, .int .u64 (s' 4).x3] _ (D4.out _ BZ.out) US.out rfl (i4S _) ?_
  simp only [Act.put, List.setIfInBounds_toArray, List.set_cons_zero, List.set_cons_succ]
  refine wpList_want (by rfl) (fun K hK => ?_)
  go_simp
  refine (C4.out _ BZ.out).mono ?_
  rintro e w4 ⟨rfl, hb⟩
  dsimp only
  refine hK.out _ _ ?_
  clear hK K C4 A4 D4
  try simp only [Act.put, List.setIfInBounds_toArray, List.set_cons_zero, List.set_cons_succ]
  replace BZ := hidden (bl_trans BZ.out hb)
  clear hb
  (iterate 2 (refine wpList_want (by rfl) (fun K hK => ?_); go_simp; refine hK.out _ _ ?_; clear hK K))
  refine wpList_want (by rfl) (fun K hK => ?_)
  go_simp
  refine hK.out _ _ ?_
  clear hK K
  refine wpList_want (by rfl) (fun K hK => ?_)
  go_simp
  refine hK.out _ _ ?_
  clear hK K
  refine wpList_loadG (by rfl) 24 _ rfl B2 20 (by rfl) [.int .u64 (s 5).x0, .int .u64 (s 5).x1, .int .u64 (s 5).x2, .int .u64 (s 5).x3] _ (A5.out _ BZ.out) US.out rfl (i4S _) ?_
  simp only [Act.put, List.setIfInBounds_toArray, List.set_cons_zero, List.set_cons_succ]
  refine wpList_want (by rfl) (fun K hK => ?_)
  go_simp
  refine hK.out _ _ ?_
  clear hK K
  refine wpList_loadG (by rfl) 24 _ rfl B3 20 (by rfl) [.int .u64 (s' 5).x0, .int .u64 (s' 5).x1, .int .u64 (s' 5).x2, .int .u64 (s' 5).x3] _ (D5.out _ BZ.out) US.out rfl (i4S _) ?_
  simp only [Act.put, List.setIfInBounds_toArray, List.set_cons_zero, List.set_cons_succ]
  refine wpList_want (by rfl) (fun K hK => ?_)
  go_simp
  refine (C5.out _ BZ.out).mono ?_
  rintro e w5 ⟨rfl, hb⟩
  dsimp only
  refine hK.out _ _ ?_
  clear hK K C5 A5 D5
  try simp only [Act.put, List.setIfInBounds_toArray, List.set_cons_zero, List.set_cons_succ]
  replace BZ := hidden (bl_trans BZ.out hb)
  clear hb
  (iterate 2 (refine wpList_want (by rfl) (fun K hK => ?_); go_simp; refine hK.out _ _ ?_; clear hK K))
  refine wpList_want (by rfl) (fun K hK => ?_)
  go_simp
  refine hK.out _ _ ?_
  clear hK K
  refine wpList_want (by rfl) (fun K hK => ?_)
  go_simp
  refine hK.out _ _ ?_
  clear hK K
  refine wpList_loadG (by rfl) 24 _ rfl B2 24 (by rfl) [.int .u64 (s 6).x0, .int .u64 (s 6).x1, .int .u64 (s 6).x2, .int .u64 (s 6).x3] _ (A6.out _ BZ.out) US.out rfl (i4S _) ?_
  simp only [Act.put, List.setIfInBounds_toArray, List.set_cons_zero, List.set_cons_succ]
  refine wpList_want (by rfl) (fun K hK => ?_)
  go_simp
  refine hK.out _ _ ?_
  clear hK K
  refine wpList_loadG (by rfl) 24 _ rfl B3 24 (by rfl) [.int .u64 (s' 6).x0, .int .u64 (s' 6).x1, .int .u64 (s' 6).x2, .int .u64 (s' 6).x3] _ (D6.out _ BZ.out) US.out rfl (i4S _) ?_
  simp only [Act.put, List.setIfInBounds_toArray, List.set_cons_zero, List.set_cons_succ]
  refine wpList_want (by rfl) (fun K hK => ?_)
  go_simp
  refine (C6.out _ BZ.out).mono ?_
  rintro e w6 ⟨rfl, hb⟩
  dsimp only
  refine hK.out _ _ ?_
  clear hK K C6 A6 D6
  try simp only [Act.put, List.setIfInBounds_toArray, List.set_cons_zero, List.set_cons_succ]
  replace BZ := hidden (bl_trans BZ.out hb)
  clear hb
  (iterate 2 (refine wpList_want (by rfl) (fun K hK => ?_); go_simp; refine hK.out _ _ ?_; clear hK K))
  refine wpList_want (by rfl) (fun K hK => ?_)
  go_simp
  refine hK.out _ _ ?_
  clear hK K
  refine wpList_want (by rfl) (fun K hK => ?_)
  go_simp
  refine hK.out _ _ ?_
  clear hK K
  refine wpList_loadG (by rfl) 24 _ rfl B2 30 (by rfl) [.int .u64 (s 7).x0, .int .u64 (s 7).x1, .int .u64 (s 7).x2, .int .u64 (s 7).x3] _ (A7.out _ BZ.out) US.out rfl (i4S _) ?_
  simp only [Act.put, List.setIfInBounds_toArray, List.set_cons_zero, List.set_cons_succ]
  refine wpList_want (by rfl) (fun K hK => ?_)
  go_simp
  refine hK.out _ _ ?_
  clear hK K
  refine wpList_loadG (by rfl) 24 _ rfl B3 30 (by rfl) [.int .u64 (s' 7).x0, .int .u64 (s' 7).x1, .int .u64 (s' 7).x2, .int .u64 (s' 7).x3] _ (D7.out _ BZ.out) US.out rfl (i4S _) ?_
  simp only [Act.put, List.setIfInBounds_toArray, List.set_cons_zero, List.set_cons_succ]
  refine wpList_want (by rfl) (fun K hK => ?_)
  go_simp
  refine (C7.out _ BZ.out).mono ?_
  rintro e w7 ⟨rfl, hb⟩
  dsimp only
  refine hK.out _ _ ?_
  clear hK K C7 A7 D7
  try simp only [Act.put, List.setIfInBounds_toArray, List.set_cons_zero, List.set_cons_succ]
  replace BZ := hidden (bl_trans BZ.out hb)
  clear hb
  (iterate 2 (refine wpList_want (by rfl) (fun K hK => ?_); go_simp; refine hK.out _ _ ?_; clear hK K))
  refine wpList_want (by rfl) (fun K hK => ?_)
  go_simp
  refine hK.out _ _ ?_
  clear hK K
  refine wpList_want (by rfl) (fun K hK => ?_)
  go_simp
  refine hK.out _ _ ?_
  clear hK K
  refine wpList_loadG (by rfl) 24 _ rfl B2 34 (by rfl) [.int .u64 (s 8).x0, .int .u64 (s 8).x1, .int .u64 (s 8).x2, .int .u64 (s 8).x3] _ (A8.out _ BZ.out) US.out rfl (i4S _) ?_
  simp only [Act.put, List.setIfInBounds_toArray, List.set_cons_zero, List.set_cons_succ]
  refine wpList_want (by rfl) (fun K hK => ?_)
  go_simp
  refine hK.out _ _ ?_
  clear hK K
  refine wpList_loadG (by rfl) 24 _ rfl B3 34 (by rfl) [.int .u64 (s' 8).x0, .int .u64 (s' 8).x1, .int .u64 (s' 8).x2, .int .u64 (s' 8).x3] _ (D8.out _ BZ.out) US.out rfl (i4S _) ?_
  simp only [Act.put, List.setIfInBounds_toArray, List.set_cons_zero, List.set_cons_succ]
  refine wpList_want (by rfl) (fun K hK => ?_)
  go_simp
  refine (C8.out _ BZ.out).mono ?_
  rintro e w8 ⟨rfl, hb⟩
  dsimp only
  refine hK.out _ _ ?_
  clear hK K C8 A8 D8
  try simp only [Act.put, List.setIfInBounds_toArray, List.set_cons_zero, List.set_cons_succ]
  replace BZ := hidden (bl_trans BZ.out hb)
  clear hb
  refine wpList_want (by rfl) (fun K hK => ?_)
  go_simp
  refine hK.out _ _ ?_
  clear hK K
  refine wpList_want (by rfl) (fun K hK => ?_)
  go_simp
  refine hK.out _ _ ?_
  clear hK K
  exact HQ.out _ _ _ _ _ _ _ _ _ _ _ _ _ _ _ _ _ _ _ _ _ _ _ _ _ _ _ _ _ _ _ _ _ _ _ _ _ _ _ _ _ _ _ _ _ _ _ _ _ _ _ _ _ _ _ _ _ _ _ _ _ _ _ _ _ _ _ BZ.out
set_option maxRecDepth 100000 in
set_option maxHeartbeats 16000000 in
theorem al9_9 (Q : Exit → Act → World → Prop) (B2 B3 : Nat) (s s' : Nat → E4) (u0 u1 u4 u5 u7 u8 u9 u10 u11 u12 u13 u14 u15 u16 u17 u18 u19 u20 u21 u22 u23 u24 u25 u26 u27 u28 u29 u30 u31 u32 u33 u34 u35 u36 u37 u38 u39 u40 u41 u42 u43 u44 u45 u46 u47 u48 u49 u50 u51 u52 u53 u54 u55 u56 u57 u58 u59 u60 u61 u62 u63 u64 u65 u66 u67 u68 u69 u70 u71 u72 u73 u74 u75 u76 u77 u78 u79 u80 u81 u82 u83 u84 u85 u86 u87 u88 u89 u90 u91 u92 u93 u94 u95 u96 u97 u98 u99 u100 u101 u102 u103 u104 u105 u106 u107 u108 u109 u110 u111 u112 u113 u114 u115 u116 u117 u118 u119 u120 u121 : Value) (W : World)
    (C0 : Hid (∀ x, Below W.heap.size W x → Calls Tryd.prog 21 #[.agg #[.int .u64 (s 0).x0, .int .u64 (s 0).x1, .int .u64 (s 0).x2, .int .u64 (s 0).x3], .agg #[.int .u64 (s' 0).x0, .int .u64 (s' 0).x1, .int .u64 (s' 0).x2, .int .u64 (s' 0).x3]] x fun e w' => e = .returned (.bool true) ∧ Below x.heap.size x w')) (A0 : Hid (∀ x, Below W.heap.size W x → x.rangeAt B2 0 [.int .u64 (s 0).x0, .int .u64 (s 0).x1, .int .u64 (s 0).x2, .int .u64 (s 0).x3])) (D0 : Hid (∀ x, Below W.heap.size W x → x.rangeAt B3 0 [.int .u64 (s' 0).x0, .int .u64 (s' 0).x1, .int .u64 (s' 0).x2, .int .u64 (s' 0).x3])) (C1 : Hid (∀ x, Below W.heap.size W x → Calls Tryd.prog 21 #[.agg #[.int .u64 (s 1).x0, .int .u64 (s 1).x1, .int .u64 (s 1).x2, .int .u64 (s 1).x3], .agg #[.int .u64 (s' 1).x0, .int .u64 (s' 1).x1, .int .u64 (s' 1).x2, .int .u64 (s' 1).x3]] x fun e w' => e = .returned (.bool true) ∧ Below x.heap.size x w')) (A1 : Hid (∀ x, Below W.heap.size W x → x.rangeAt B2 4 [.int .u64 (s 1).x0, .int .u64 (s 1).x1, .int .u64 (s 1).x2, .int .u64 (s 1).x3])) (D1 : Hid (∀ x, Below W.heap.size W x → x.rangeAt B3 4 [.int .u64 (s' 1).x0, .int .u64 (s' 1).x1, .int .u64 (s' 1).x2, .int .u64 (s' 1).x3])) (C2 : Hid (∀ x, Below W.heap.size W x → Calls Tryd.prog 21 #[.agg #[.int .u64 (s 2).x0, .int .u64 (s 2).x1, .int .u64 (s 2).x2, .int .u64 (s 2).x3], .agg #[.int .u64 (s' 2).x0, .int .u64 (s' 2).x1, .int .u64 (s' 2).x2, .int .u64 (s' 2).x3]] x fun e w' => e = .returned (.bool true) ∧ Below x.heap.size x w')) (A2 : Hid (∀ x, Below W.heap.size W x → x.rangeAt B2 8 [.int .u64 (s 2).x0, .int .u64 (s 2).x1, .int .u64 (s 2).x2, .int .u64 (s 2).x3])) (D2 : Hid (∀ x, Below W.heap.size W x → x.rangeAt B3 8 [.int .u64 (s' 2).x0, .int .u64 (s' 2).x1, .int .u64 (s' 2).x2, .int .u64 (s' 2).x3])) (C3 : Hid (∀ x, Below W.heap.size W x → Calls Tryd.prog 21 #[.agg #[.int .u64 (s 3).x0, .int .u64 (s 3).x1, .int .u64 (s 3).x2, .int .u64 (s 3).x3], .agg #[.int .u64 (s' 3).x0, .int .u64 (s' 3).x1, .int .u64 (s' 3).x2, .int .u64 (s' 3).x3]] x fun e w' => e = .returned (.bool true) ∧ Below x.heap.size x w')) (A3 : Hid (∀ x, Below W.heap.size W x → x.rangeAt B2 12 [.int .u64 (s 3).x0, .int .u64 (s 3).x1, .int .u64 (s 3).x2, .int .u64 (s 3).x3])) (D3 : Hid (∀ x, Below W.heap.size W x → x.rangeAt B3 12 [.int .u64 (s' 3).x0, .int .u64 (s' 3).x1, .int .u64 (s' 3).x2, .int .u64 (s' 3).x3])) (C4 : Hid (∀ x, Below W.heap.size W x → Calls Tryd.prog 22 #[.agg #[.int .u64 (s 4).x0, .int .u64 (s 4).x1, .int .u64 (s 4).x2, .int .u64 (s 4).x3], .agg #[.int .u64 (s' 4).x0, .int .u64 (s' 4).x1, .int .u64 (s' 4).x2, .int .u64 (s' 4).x3]] x fun e w' => e = .returned (.bool true) ∧ Below x.heap.size x w')) (A4 : Hid (∀ x, Below W.heap.size W x → x.rangeAt B2 16 [.int .u64 (s 4).x0, .int .u64 (s 4).x1, .int .u64 (s 4).x2, .int .u64 (s 4).x3])) (D4 : Hid (∀ x, Below W.heap.size W x → x.rangeAt B3 16 [.int .u64 (s' 4).x0, .int .u64 (s' 4).x1, .int .u64 (s' 4).x2, .int .u64 (s' 4).x3])) (C5 : Hid (∀ x, Below W.heap.size W x → Calls Tryd.prog 22 #[.agg #[.int .u64 (s 5).x0, .int .u64 (s 5).x1, .int .u64 (s 5).x2, .int .u64 (s 5).x3], .agg #[.int .u64 (s' 5).x0, .int .u64 (s' 5).x1, .int .u64 (s' 5).x2, .int .u64 (s' 5).x3]] x fun e w' => e = .returned (.bool true) ∧ Below x.heap.size x w')) (A5 : Hid (∀ x, Below W.heap.size W x → x.rangeAt B2 20 [.int .u64 (s 5).x0, .int .u64 (s 5).x1, .int .u64 (s 5).x2, .int .u64 (s 5).x3])) (D5 : Hid (∀ x, Below W.heap.size W x → x.rangeAt B3 20 [.int .u64 (s' 5).x0, .int .u64 (s' 5).x1, .int .u64 (s' 5).x2, .int .u64 (s' 5).x3])) (C6 : Hid (∀ x, Below W.heap.size W x → Calls Tryd.prog 22 #[.agg #[.int .u64 (s 6).x0, .int .u64 (s 6).x1, .int .u64 (s 6).x2, .int .u64 (s 6).x3], .agg #[.int .u64 (s' 6).x0, .int .u64 (s' 6).x1, .int .u64 (s' 6).x2, .int .u64 (s' 6).x3]] x fun e w' => e = .returned (.bool true) ∧ Below x.heap.size x w')) (A6 : Hid (∀ x, Below W.heap.size W x → x.rangeAt B2 24 [.int .u64 (s 6).x0, .int .u64 (s 6).x1, .int .u64 (s 6).x2, .int .u64 (s 6).x3])) (D6 : Hid (∀ x, Below W.heap.size W x → x.rangeAt B3 24 [.int .u64 (s' 6).x0, .int .u64 (s' 6).x1, .int .u64 (s' 6).x2, .int .u64 (s' 6).x3])) (C7 : Hid (∀ x, Below W.heap.size W x → Calls Tryd.prog 22 #[.agg #[.int .u64 (s 7).x0, .int .u64 (s 7).x1, .int .u64 (s 7).x2, .int .u64 (s 7).x3], .agg #[.int .u64 (s' 7).x0, .int .u64 (s' 7).x1, .int .u64 (s' 7).x2, .int .u64 (s' 7).x3]] x fun e w' => e = .returned (.bool true) ∧ Below x.heap.size x w')) (A7 : Hid (∀ x, Below W.heap.size W x → x.rangeAt B2 30 [.int .u64 (s 7).x0, .int .u64 (s 7).x1, .int .u64 (s 7).x2, .int .u64 (s 7).x3])) (D7 : Hid (∀ x, Below W.heap.size W x → x.rangeAt B3 30 [.int .u64 (s' 7).x0, .int .u64 (s' 7).x1, .int .u64 (s' 7).x2, .int .u64 (s' 7).x3])) (C8 : Hid (∀ x, Below W.heap.size W x → Calls Tryd.prog 22 #[.agg #[.int .u64 (s 8).x0, .int .u64 (s 8).x1, .int .u64 (s 8).x2, .int .u64 (s 8).x3], .agg #[.int .u64 (s' 8).x0, .int .u64 (s' 8).x1, .int .u64 (s' 8).x2, .int .u64 (s' 8).x3]] x fun e w' => e = .returned (.bool true) ∧ Below x.heap.size x w')) (A8 : Hid (∀ x, Below W.heap.size W x → x.rangeAt B2 34 [.int .u64 (s 8).x0, .int .u64 (s 8).x1, .int .u64 (s 8).x2, .int .u64 (s 8).x3])) (D8 : Hid (∀ x, Below W.heap.size W x → x.rangeAt B3 34 [.int .u64 (s' 8).x0, .int .u64 (s' 8).x1, .int .u64 (s' 8).x2, .int .u64 (s' 8).x3]))
    (HQ : Hid (∀ (z56 z57 z58 z59 z60 z61 z62 z63 z64 z65 z66 z67 z68 z69 z70 z71 z72 z73 z74 z75 z76 z77 z78 z79 z80 z81 z82 z83 z84 z85 z86 z87 z88 z89 z90 z91 z92 z93 z94 z95 z96 z97 z98 z99 z100 z101 z102 z103 z104 z105 z106 z107 z108 z109 z110 z111 z112 z113 z114 z115 z116 z117 z118 z119 z120 z121 : Value) wz, Below W.heap.size W wz → Q .normal ⟨#[u0, u1, .pointer (some ⟨B2, 0, none⟩), .pointer (some ⟨B3, 0, none⟩), .bool true, u5, .func (.func 22) #[] #[], u7, u8, u9, u10, u11, u12, u13, u14, u15, u16, u17, u18, u19, u20, u21, u22, u23, u24, u25, u26, u27, u28, u29, u30, u31, u32, u33, u34, u35, u36, u37, u38, u39, u40, u41, u42, u43, u44, u45, u46, u47, u48, u49, u50, u51, u52, u53, u54, u55, z56, z57, z58, z59, z60, z61, z62, z63, z64, z65, z66, z67, z68, z69, z70, z71, z72, z73, z74, z75, z76, z77, z78, z79, z80, z81, z82, z83, z84, z85, z86, z87, z88, z89, z90, z91, z92, z93, z94, z95, z96, z97, z98, z99, z100, z101, z102, z103, z104, z105, z106, z107, z108, z109, z110, z111, z112, z113, z114, z115, z116, z117, z118, z119, z120, z121], []⟩ wz)) : (Code.region 9 al9o false).wp Tryd.prog Q ⟨#[u0, u1, .pointer (some ⟨B2, 0, none⟩), .pointer (some ⟨B3, 0, none⟩), u4, u5, .func (.func 22) #[] #[], u7, u8, u9, u10, u11, u12, u13, u14, u15, u16, u17, u18, u19, u20, u21, u22, u23, u24, u25, u26, u27, u28, u29, u30, u31, u32, u33, u34, u35, u36, u37, u38, u39, u40, u41, u42, u43, u44, u45, u46, u47, u48, u49, u50, u51, u52, u53, u54, u55, u56, u57, u58, u59, u60, u61, u62, u63, u64, u65, u66, u67, u68, u69, u70, u71, u72, u73, u74, u75, u76, u77, u78, u79, u80, u81, u82, u83, u84, u85, u86, u87, u88, u89, u90, u91, u92, u93, u94, u95, u96, u97, u98, u99, u100, u101, u102, u103, u104, u105, u106, u107, u108, u109, u110, u111, u112, u113, u114, u115, u116, u117, u118, u119, u120, u121], []⟩ W := by
  have UL : Hid (Tryd.prog.underlying 32 = _) := hidden Tryd.underlying32
  have US : Hid (Tryd.prog.underlying 24 = _) := hidden Tryd.underlying24
  have BZ := hidden (Below.refl W.heap.size W)
  unfold al9o
  refine wp_region_lit ?_
  refine wpList_want (by rfl) (fun K hK => ?_)
  go_simp
  refine hK.out _ _ ?_
  clear hK K
  refine wpList_loadG (by rfl) 32 _ rfl B2 0 (by rfl) [.int .u64 (s 0).x0, .int .u64 (s 0).x1, .int .u64 (s 0).x2, .int .u64 (s 0).x3] _ (A0.out _ BZ.out) UL.out rfl (i4L _) ?_
  simp only [Act.put, List.setIfInBounds_toArray, List.set_cons_zero, List.set_cons_succ]
  refine wpList_want (by rfl) (fun K hK => ?_)
  go_simp
  refine hK.out _ _ ?_
  clear hK K
  refine wpList_loadG (by rfl) 32 _ rfl B3 0 (by rfl) [.int .u64 (s' 0).x0, .int .u64 (s' 0).x1, .int .u64 (s' 0).x2, .int .u64 (s' 0).x3] _ (D0.out _ BZ.out) UL.out rfl (i4L _) ?_
  simp only [Act.put, List.setIfInBounds_toArray, List.set_cons_zero, List.set_cons_succ]
  refine wpList_want (by rfl) (fun K hK => ?_)
  go_simp
  refine (C0.out _ BZ.out).mono ?_
  rintro e w0 ⟨rfl, hb⟩
  dsimp only
  refine hK.out _ _ ?_
  clear hK K C0 A0 D0
  try simp only [Act.put, List.setIfInBounds_toArray, List.set_cons_zero, List.set_cons_succ]
  replace BZ := hidden (bl_trans BZ.out hb)
  clear hb
  refine wpList_want (by rfl) (fun K hK => ?_)
  go_simp
  refine hK.out _ _ ?_
  clear hK K
  refine wpList_want (by rfl) (fun K hK => ?_)
  go_simp
  refine hK.out _ _ ?_
  clear hK K
  refine wpList_loadG (by rfl) 32 _ rfl B2 4 (by rfl) [.int .u64 (s 1).x0, .int .u64 (s 1).x1, .int .u64 (s 1).x2, .int .u64 (s 1).x3] _ (A1.out _ BZ.out) UL.out rfl (i4L _) ?_
  simp only [Act.put, List.setIfInBounds_toArray, List.set_cons_zero, List.set_cons_succ]
  refine wpList_want (by rfl) (fun K hK => ?_)
  go_simp
  refine hK.out _ _ ?_
  clear hK K
  refine wpList_loadG (by rfl) 32 _ rfl B3 4 (by rfl) [.int .u64 (s' 1).x0, .int .u64 (s' 1).x1, .int .u64 (s' 1).x2, .int .u64 (s' 1).x3] _ (D1.out _ BZ.out) UL.out rfl (i4L _) ?_
  simp only [Act.put, List.setIfInBounds_toArray, List.set_cons_zero, List.set_cons_succ]
  refine wpList_want (by rfl) (fun K hK => ?_)
  go_simp
  refine (C1.out _ BZ.out).mono ?_
  rintro e w1 ⟨rfl, hb⟩
  dsimp only
  refine hK.out _ _ ?_
  clear hK K C1 A1 D1
  try simp only [Act.put, List.setIfInBounds_toArray, List.set_cons_zero, List.set_cons_succ]
  replace BZ := hidden (bl_trans BZ.out hb)
  clear hb
  (iterate 2 (refine wpList_want (by rfl) (fun K hK => ?_); go_simp; refine hK.out _ _ ?_; clear hK K))
  refine wpList_want (by rfl) (fun K hK => ?_)
  go_simp
  refine hK.out _ _ ?_
  clear hK K
  refine wpList_loadG (by rfl) 32 _ rfl B2 8 (by rfl) [.int .u64 (s 2).x0, .int .u64 (s 2).x1, .int .u64 (s 2).x2, .int .u64 (s 2).x3] _ (A2.out _ BZ.out) UL.out rfl (i4L _) ?_
  simp only [Act.put, List.setIfInBounds_toArray, List.set_cons_zero, List.set_cons_succ]
  refine wpList_want (by rfl) (fun K hK => ?_)
  go_simp
  refine hK.out _ _ ?_
  clear hK K
  refine wpList_loadG (by rfl) 32 _ rfl B3 8 (by rfl) [.int .u64 (s' 2).x0, .int .u64 (s' 2).x1, .int .u64 (s' 2).x2, .int .u64 (s' 2).x3] _ (D2.out _ BZ.out) UL.out rfl (i4L _) ?_
  simp only [Act.put, List.setIfInBounds_toArray, List.set_cons_zero, List.set_cons_succ]
  refine wpList_want (by rfl) (fun K hK => ?_)
  go_simp
  refine (C2.out _ BZ.out).mono ?_
  rintro e w2 ⟨rfl, hb⟩
  dsimp only
  refine hK.out _ _ ?_
  clear hK K C2 A2 D2
  try simp only [Act.put, List.setIfInBounds_toArray, List.set_cons_zero, List.set_cons_succ]
  replace BZ := hidden (bl_trans BZ.out hb)
  clear hb
  (iterate 2 (refine wpList_want (by rfl) (fun K hK => ?_); go_simp; refine hK.out _ _ ?_; clear hK K))
  refine wpList_want (by rfl) (fun K hK => ?_)
  go_simp
  refine hK.out _ _ ?_
  clear hK K
  refine wpList_loadG (by rfl) 32 _ rfl B2 12 (by rfl) [.int .u64 (s 3).x0, .int .u64 (s 3).x1, .int .u64 (s 3).x2, .int .u64 (s 3).x3] _ (A3.out _ BZ.out) UL.out rfl (i4L _) ?_
  simp only [Act.put, List.setIfInBounds_toArray, List.set_cons_zero, List.set_cons_succ]
  refine wpList_want (by rfl) (fun K hK => ?_)
  go_simp
  refine hK.out _ _ ?_
  clear hK K
  refine wpList_loadG (by rfl) 32 _ rfl B3 12 (by rfl) [.int .u64 (s' 3).x0, .int .u64 (s' 3).x1, .int .u64 (s' 3).x2, .int .u64 (s' 3).x3] _ (D3.out _ BZ.out) UL.out rfl (i4L _) ?_
  simp only [Act.put, List.setIfInBounds_toArray, List.set_cons_zero, List.set_cons_succ]
  refine wpList_want (by rfl) (fun K hK => ?_)
  go_simp
  refine (C3.out _ BZ.out).mono ?_
  rintro e w3 ⟨rfl, hb⟩
  dsimp only
  refine hK.out _ _ ?_
  clear hK K C3 A3 D3
  try simp only [Act.put, List.setIfInBounds_toArray, List.set_cons_zero, List.set_cons_succ]
  replace BZ := hidden (bl_trans BZ.out hb)
  clear hb
  (iterate 2 (refine wpList_want (by rfl) (fun K hK => ?_); go_simp; refine hK.out _ _ ?_; clear hK K))
  refine wpList_want (by rfl) (fun K hK => ?_)
  go_simp
  refine hK.out _ _ ?_
  clear hK K
  refine wpList_want (by rfl) (fun K hK => ?_)
  go_simp
  refine hK.out _ _ ?_
  clear hK K
  refine wpList_loadG (by rfl) 24 _ rfl B2 16 (by rfl) [.int .u64 (s 4).x0, .int .u64 (s 4).x1, .int .u64 (s 4).x2, .int .u64 (s 4).x3] _ (A4.out _ BZ.out) US.out rfl (i4S _) ?_
  simp only [Act.put, List.setIfInBounds_toArray, List.set_cons_zero, List.set_cons_succ]
  refine wpList_want (by rfl) (fun K hK => ?_)
  go_simp
  refine hK.out _ _ ?_
  clear hK K
  refine wpList_loadG (by rfl) 24 _ rfl B3 16 (by rfl) [.int .u64 (s' 4).x0, .int .u64 (s' 4).x1, .int .u64 (s' 4).x2, .int .u64 (s' 4).x3] _ (D4.out _ BZ.out) US.out rfl (i4S _) ?_
  simp only [Act.put, List.setIfInBounds_toArray, List.set_cons_zero, List.set_cons_succ]
  refine wpList_want (by rfl) (fun K hK => ?_)
  go_simp
  refine (C4.out _ BZ.out).mono ?_
  rintro e w4 ⟨rfl, hb⟩
  dsimp only
  refine hK.out _ _ ?_
  clear hK K C4 A4 D4
  try simp only [Act.put, List.setIfInBounds_toArray, List.set_cons_zero, List.set_cons_succ]
  replace BZ := hidden (bl_trans BZ.out hb)
  clear hb
  (iterate 2 (refine wpList_want (by rfl) (fun K hK => ?_); go_simp; refine hK.out _ _ ?_; clear hK K))
  refine wpList_want (by rfl) (fun K hK => ?_)
  go_simp
  refine hK.out _ _ ?_
  clear hK K
  refine wpList_want (by rfl) (fun K hK => ?_)
  go_simp
  refine hK.out _ _ ?_
  clear hK K
  refine wpList_loadG (by rfl) 24 _ rfl B2 20 (by rfl) [.int .u64 (s 5).x0, .int .u64 (s 5).x1, .int .u64 (s 5).x2, .int .u64 (s 5).x3] _ (A5.out _ BZ.out) US.out rfl (i4S _) ?_
  simp only [Act.put, List.setIfInBounds_toArray, List.set_cons_zero, List.set_cons_succ]
  refine wpList_want (by rfl) (fun K hK => ?_)
  go_simp
  refine hK.out _ _ ?_
  clear hK K
  refine wpList_loadG (by rfl) 24 _ rfl B3 20 (by rfl) [.int .u64 (s' 5).x0, .int .u64 (s' 5).x1, .int .u64 (s' 5).x2, .int .u64 (s' 5).x3] _ (D5.out _ BZ.out) US.out rfl (i4S _) ?_
  simp only [Act.put, List.setIfInBounds_toArray, List.set_cons_zero, List.set_cons_succ]
  refine wpList_want (by rfl) (fun K hK => ?_)
  go_simp
  refine (C5.out _ BZ.out).mono ?_
  rintro e w5 ⟨rfl, hb⟩
  dsimp only
  refine hK.out _ _ ?_
  clear hK K C5 A5 D5
  try simp only [Act.put, List.setIfInBounds_toArray, List.set_cons_zero, List.set_cons_succ]
  replace BZ := hidden (bl_trans BZ.out hb)
  clear hb
  (iterate 2 (refine wpList_want (by rfl) (fun K hK => ?_); go_simp; refine hK.out _ _ ?_; clear hK K))
  refine wpList_want (by rfl) (fun K hK => ?_)
  go_simp
  refine hK.out _ _ ?_
  clear hK K
  refine wpList_want (by rfl) (fun K hK => ?_)
  go_simp
  refine hK.out _ _ ?_
  clear hK K
  refine wpList_loadG (by rfl) 24 _ rfl B2 24 (by rfl) [.int .u64 (s 6).x0, .int .u64 (s 6).x1, .int .u64 (s 6).x2, .int .u64 (s 6).x3] _ (A6.out _ BZ.out) US.out rfl (i4S _) ?_
  simp only [Act.put, List.setIfInBounds_toArray, List.set_cons_zero, List.set_cons_succ]
  refine wpList_want (by rfl) (fun K hK => ?_)
  go_simp
  refine hK.out _ _ ?_
  clear hK K
  refine wpList_loadG (by rfl) 24 _ rfl B3 24 (by rfl) [.int .u64 (s' 6).x0, .int .u64 (s' 6).x1, .int .u64 (s' 6).x2, .int .u64 (s' 6).x3] _ (D6.out _ BZ.out) US.out rfl (i4S _) ?_
  simp only [Act.put, List.setIfInBounds_toArray, List.set_cons_zero, List.set_cons_succ]
  refine wpList_want (by rfl) (fun K hK => ?_)
  go_simp
  refine (C6.out _ BZ.out).mono ?_
  rintro e w6 ⟨rfl, hb⟩
  dsimp only
  refine hK.out _ _ ?_
  clear hK K C6 A6 D6
  try simp only [Act.put, List.setIfInBounds_toArray, List.set_cons_zero, List.set_cons_succ]
  replace BZ := hidden (bl_trans BZ.out hb)
  clear hb
  (iterate 2 (refine wpList_want (by rfl) (fun K hK => ?_); go_simp; refine hK.out _ _ ?_; clear hK K))
  refine wpList_want (by rfl) (fun K hK => ?_)
  go_simp
  refine hK.out _ _ ?_
  clear hK K
  refine wpList_want (by rfl) (fun K hK => ?_)
  go_simp
  refine hK.out _ _ ?_
  clear hK K
  refine wpList_loadG (by rfl) 24 _ rfl B2 30 (by rfl) [.int .u64 (s 7).x0, .int .u64 (s 7).x1, .int .u64 (s 7).x2, .int .u64 (s 7).x3] _ (A7.out _ BZ.out) US.out rfl (i4S _) ?_
  simp only [Act.put, List.setIfInBounds_toArray, List.set_cons_zero, List.set_cons_succ]
  refine wpList_want (by rfl) (fun K hK => ?_)
  go_simp
  refine hK.out _ _ ?_
  clear hK K
  refine wpList_loadG (by rfl) 24 _ rfl B3 30 (by rfl) [.int .u64 (s' 7).x0, .int .u64 (s' 7).x1, .int .u64 (s' 7).x2, .int .u64 (s' 7).x3] _ (D7.out _ BZ.out) US.out rfl (i4S _) ?_
  simp only [Act.put, List.setIfInBounds_toArray, List.set_cons_zero, List.set_cons_succ]
  refine wpList_want (by rfl) (fun K hK => ?_)
  go_simp
  refine (C7.out _ BZ.out).mono ?_
  rintro e w7 ⟨rfl, hb⟩
  dsimp only
  refine hK.out _ _ ?_
  clear hK K C7 A7 D7
  try simp only [Act.put, List.setIfInBounds_toArray, List.set_cons_zero, List.set_cons_succ]
  replace BZ := hidden (bl_trans BZ.out hb)
  clear hb
  (iterate 2 (refine wpList_want (by rfl) (fun K hK => ?_); go_simp; refine hK.out _ _ ?_; clear hK K))
  refine wpList_want (by rfl) (fun K hK => ?_)
  go_simp
  refine hK.out _ _ ?_
  clear hK K
  refine wpList_want (by rfl) (fun K hK => ?_)
  go_simp
  refine hK.out _ _ ?_
  clear hK K
  refine wpList_loadG (by rfl) 24 _ rfl B2 34 (by rfl) [.int .u64 (s 8).x0, .int .u64 (s 8).x1, .int .u64 (s 8).x2, .int .u64 (s 8).x3] _ (A8.out _ BZ.out) US.out rfl (i4S _) ?_
  simp only [Act.put, List.setIfInBounds_toArray, List.set_cons_zero, List.set_cons_succ]
  refine wpList_want (by rfl) (fun K hK => ?_)
  go_simp
  refine hK.out _ _ ?_
  clear hK K
  refine wpList_loadG (by rfl) 24 _ rfl B3 34 (by rfl) [.int .u64 (s' 8).x0, .int .u64 (s' 8).x1, .int .u64 (s' 8).x2, .int .u64 (s' 8).x3] _ (D8.out _ BZ.out) US.out rfl (i4S _) ?_
  simp only [Act.put, List.setIfInBounds_toArray, List.set_cons_zero, List.set_cons_succ]
  refine wpList_want (by rfl) (fun K hK => ?_)
  go_simp
  refine (C8.out _ BZ.out).mono ?_
  rintro e w8 ⟨rfl, hb⟩
  dsimp only
  refine hK.out _ _ ?_
  clear hK K C8 A8 D8
  try simp only [Act.put, List.setIfInBounds_toArray, List.set_cons_zero, List.set_cons_succ]
  replace BZ := hidden (bl_trans BZ.out hb)
  clear hb
  refine wpList_want (by rfl) (fun K hK => ?_)
  go_simp
  refine hK.out _ _ ?_
  clear hK K
  refine wpList_want (by rfl) (fun K hK => ?_)
  go_simp
  refine hK.out _ _ ?_
  clear hK K
  exact HQ.out _ _ _ _ _ _ _ _ _ _ _ _ _ _ _ _ _ _ _ _ _ _ _ _ _ _ _ _ _ _ _ _ _ _ _ _ _ _ _ _ _ _ _ _ _ _ _ _ _ _ _ _ _ _ _ _ _ _ _ _ _ _ _ _ _ _ _ BZ.out
end Go.Proofs.YtmhpgcfmllcnpaaDoor
