import Derived.Test.YtlijigolfggcfaaDoorHb
namespace Go.Proofs.YtlijigolfggcfaaDoor
open Go.RowKit
/-- the cells of a set of the law's -/
def gs14 (b f q : E4) (G H : Value) : List Value := [.int .u64 b.x0, .int .u64 b.x1, .int .u64 b.x2, .int .u64 b.x3, .int .u64 f.x0, .int .u64 f.x1, .int .u64 f.x2, .int .u64 f.x3, .int .u64 q.x0, .int .u64 q.x1, .int .u64 q.x2, .int .u64 q.x3, G, H]
theorem gs14_len (b f q : E4) (G H : Value) : (gs14 b f q G H).length = 14 := rfl
theorem info14 : (Tryd.prog.info? 32).map (·.size) = some 14 := by kernel_rfl
theorem info14g : (Tryd.prog.info? 27).map (·.size) = some 14 := by kernel_rfl
theorem gs14_one (b f q : E4) (P R : Option Addr) (l c m d : Nat) : (gs14 b f q (.slice P l c) (.slice R m d)).toArray.all (·.oneCell') = true := by simp [gs14, Value.oneCell']
/-- no set -/
def zs14 : List Value := gs14 ⟨0, 0, 0, 0⟩ ⟨0, 0, 0, 0⟩ ⟨0, 0, 0, 0⟩ (.slice none 0 0) (.slice none 0 0)
/-- the operations of line's third region -/
def gl3o : Array Oper := #[{ dst := some 13, op := Op.fieldAddr 27 (Operand.tmp 1) 0, type := 0, pos := "law.go:54", after := #[], guard := none },
  { dst := some 14, op := Op.load 24 (Operand.tmp 13), type := 24, pos := "law.go:54", after := #[{ on := 0, ground := Ground.data }], guard := none },
  { dst := some 15, op := Op.build 29 #[(0, Operand.tmp 14)], type := 29, pos := "law.go:54", after := #[{ on := 1, ground := Ground.data }], guard := none },
  { dst := some 16, op := Op.fieldAddr 27 (Operand.tmp 1) 1, type := 0, pos := "law.go:54", after := #[], guard := none },
  { dst := some 17, op := Op.load 24 (Operand.tmp 16), type := 24, pos := "law.go:54", after := #[{ on := 3, ground := Ground.data }], guard := none },
  { dst := some 18, op := Op.build 29 #[(0, Operand.tmp 17)], type := 29, pos := "law.go:54", after := #[{ on := 4, ground := Ground.data }], guard := none },
  { dst := some 19, op := Op.fieldAddr 27 (Operand.tmp 1) 2, type := 0, pos := "law.go:54", after := #[], guard := none },
  { dst := some 20, op := Op.load 24 (Operand.tmp 19), type := 24, pos := "law.go:54", after := #[{ on := 6, ground := Ground.data }], guard := none },
  { dst := some 21, op := Op.build 29 #[(0, Operand.tmp 20)], type := 29, pos := "law.go:54", after := #[{ on := 7, ground := Ground.data }], guard := none },
  { dst := some 22, op := Op.move (Operand.tmp 5), type := 30, pos := "law.go:54", after := #[], guard := none },
  { dst := some 23, op := Op.fieldAddr 27 (Operand.tmp 1) 3, type := 0, pos := "law.go:54", after := #[], guard := none },
  { dst := some 24, op := Op.load 25 (Operand.tmp 23), type := 25, pos := "law.go:54", after := #[{ on := 10, ground := Ground.data }], guard := none },
  { dst := some 25, op := Op.call { callee := Callee.builtin Builtin.len, args := #[Operand.tmp 24], argTypes := #[25] }, type := 3, pos := "law.go:54", after := #[{ on := 11, ground := Ground.data }], guard := none },
  { dst := some 26, op := Op.slice 30 (Operand.tmp 22) none (some (Operand.tmp 25)) none, type := 30, pos := "law.go:54", after := #[{ on := 9, ground := Ground.data }, { on := 12, ground := Ground.data }], guard := none },
  { dst := some 27, op := Op.move (Operand.tmp 6), type := 30, pos := "law.go:54", after := #[], guard := none },
  { dst := some 28, op := Op.fieldAddr 27 (Operand.tmp 1) 4, type := 0, pos := "law.go:54", after := #[], guard := none },
  { dst := some 29, op := Op.load 25 (Operand.tmp 28), type := 25, pos := "law.go:54", after := #[{ on := 15, ground := Ground.data }], guard := none },
  { dst := some 30, op := Op.call { callee := Callee.builtin Builtin.len, args := #[Operand.tmp 29], argTypes := #[25] }, type := 3, pos := "law.go:54", after := #[{ on := 16, ground := Ground.data }], guard := none },
  { dst := some 31, op := Op.slice 30 (Operand.tmp 27) none (some (Operand.tmp 30)) none, type := 30, pos := "law.go:54", after := #[{ on := 14, ground := Ground.data }, { on := 17, ground := Ground.data }], guard := none },
  { dst := some 32, op := Op.build 32 #[(0, Operand.tmp 15), (1, Operand.tmp 18), (2, Operand.tmp 21), (3, Operand.tmp 26), (4, Operand.tmp 31)], type := 32, pos := "law.go:54", after := #[{ on := 2, ground := Ground.data }, { on := 5, ground := Ground.data }, { on := 8, ground := Ground.data }, { on := 13, ground := Ground.data }, { on := 18, ground := Ground.data }], guard := none },
  { dst := some 33, op := Op.move (Operand.tmp 5), type := 30, pos := "law.go:54", after := #[{ on := 22, ground := Ground.gcOnly Departure.lateStores }], guard := none },
  { dst := some 34, op := Op.move (Operand.tmp 6), type := 30, pos := "law.go:54", after := #[{ on := 23, ground := Ground.gcOnly Departure.lateStores }], guard := none },
  { dst := none, op := Op.store 32 (Operand.tmp 2) (Operand.tmp 32), type := 0, pos := "law.go:54", after := #[{ on := 19, ground := Ground.data }, { on := 0, ground := Ground.phase }, { on := 1, ground := Ground.phase }, { on := 2, ground := Ground.phase }, { on := 3, ground := Ground.phase }, { on := 4, ground := Ground.phase }, { on := 5, ground := Ground.phase }, { on := 6, ground := Ground.phase }, { on := 7, ground := Ground.phase }, { on := 8, ground := Ground.phase }, { on := 9, ground := Ground.phase }, { on := 10, ground := Ground.phase }, { on := 11, ground := Ground.phase }, { on := 12, ground := Ground.phase }, { on := 13, ground := Ground.phase }, { on := 14, ground := Ground.phase }, { on := 15, ground := Ground.phase }, { on := 16, ground := Ground.phase }, { on := 17, ground := Ground.phase }, { on := 18, ground := Ground.phase }, { on := 19, ground := Ground.phase }, { on := 20, ground := Ground.textOnly Departure.lateStores }, { on := 21, ground := Ground.textOnly Departure.lateStores }], guard := none },
  { dst := some 3, op := Op.assign (Operand.tmp 33), type := 30, pos := "law.go:54", after := #[{ on := 20, ground := Ground.data }, { on := 22, ground := Ground.chain }, { on := 0, ground := Ground.phase }, { on := 1, ground := Ground.phase }, { on := 2, ground := Ground.phase }, { on := 3, ground := Ground.phase }, { on := 4, ground := Ground.phase }, { on := 5, ground := Ground.phase }, { on := 6, ground := Ground.phase }, { on := 7, ground := Ground.phase }, { on := 8, ground := Ground.phase }, { on := 9, ground := Ground.phase }, { on := 10, ground := Ground.phase }, { on := 11, ground := Ground.phase }, { on := 12, ground := Ground.phase }, { on := 13, ground := Ground.phase }, { on := 14, ground := Ground.phase }, { on := 15, ground := Ground.phase }, { on := 16, ground := Ground.phase }, { on := 17, ground := Ground.phase }, { on := 18, ground := Ground.phase }, { on := 19, ground := Ground.phase }, { on := 20, ground := Ground.phase }, { on := 21, ground := Ground.textOnly Departure.lateStores }, { on := 22, ground := Ground.phase }], guard := none },
  { dst := some 4, op := Op.assign (Operand.tmp 34), type := 30, pos := "law.go:54", after := #[{ on := 21, ground := Ground.data }, { on := 23, ground := Ground.chain }, { on := 0, ground := Ground.phase }, { on := 1, ground := Ground.phase }, { on := 2, ground := Ground.phase }, { on := 3, ground := Ground.phase }, { on := 4, ground := Ground.phase }, { on := 5, ground := Ground.phase }, { on := 6, ground := Ground.phase }, { on := 7, ground := Ground.phase }, { on := 8, ground := Ground.phase }, { on := 9, ground := Ground.phase }, { on := 10, ground := Ground.phase }, { on := 11, ground := Ground.phase }, { on := 12, ground := Ground.phase }, { on := 13, ground := Ground.phase }, { on := 14, ground := Ground.phase }, { on := 15, ground := Ground.phase }, { on := 16, ground := Ground.phase }, { on := 17, ground := Ground.phase }, { on := 18, ground := Ground.phase }, { on := 19, ground := Ground.phase }, { on := 20, ground := Ground.phase }, { on := 21, ground := Ground.phase }, { on := 22, ground := Ground.phase }, { on := 23, ground := Ground.phase }], guard := none }]
set_option maxRecDepth 100000 in
set_option maxHeartbeats 8000000 in
theorem gl3 (Q : Exit → Act → World → Prop) (T1 T2 g h cg ch LG cG LH cH : Nat) (PG PH : Option Addr) (b f q : E4) (x0 x3 x4 x7 x8 x9 x10 x11 x12 x13 x14 x15 x16 x17 x18 x19 x20 x21 x22 x23 x24 x25 x26 x27 x28 x29 x30 x31 x32 x33 x34 : Value) (w : World) (hne : T1 ≠ T2) (hg : LG ≤ cg) (hh : LH ≤ ch) (hr : w.rangeAt T1 0 (gs14 b f q (.slice PG LG cG) (.slice PH LH cH))) (ht : w.there T2 0 14)
    (HQ : Hid (Q .normal ⟨#[x0, .pointer (some ⟨T1, 0, none⟩), .pointer (some ⟨T2, 0, none⟩), .slice (some ⟨g, 0, none⟩) (LG + 2) cg, .slice (some ⟨h, 0, none⟩) (LH + 2) ch, .slice (some ⟨g, 0, none⟩) (LG + 2) cg, .slice (some ⟨h, 0, none⟩) (LH + 2) ch, x7, x8, x9, x10, x11, x12, .pointer (some ⟨T1, 0, none⟩), .agg #[.int .u64 b.x0, .int .u64 b.x1, .int .u64 b.x2, .int .u64 b.x3], .agg #[.int .u64 b.x0, .int .u64 b.x1, .int .u64 b.x2, .int .u64 b.x3], .pointer (some ⟨T1, 4, none⟩), .agg #[.int .u64 f.x0, .int .u64 f.x1, .int .u64 f.x2, .int .u64 f.x3], .agg #[.int .u64 f.x0, .int .u64 f.x1, .int .u64 f.x2, .int .u64 f.x3], .pointer (some ⟨T1, 8, none⟩), .agg #[.int .u64 q.x0, .int .u64 q.x1, .int .u64 q.x2, .int .u64 q.x3], .agg #[.int .u64 q.x0, .int .u64 q.x1, .int .u64 q.x2, .int .u64 q.x3], .slice (some ⟨g, 0, none⟩) (LG + 2) cg, .pointer (some ⟨T1, 12, none⟩), .slice PG LG cG, .int .i64 (LG : Int), .slice (some ⟨g, 0, none⟩) LG cg, .slice (some ⟨h, 0, none⟩) (LH + 2) ch, .pointer (some ⟨T1, 13, none⟩), .slice PH LH cH, .int .i64 (LH : Int), .slice (some ⟨h, 0, none⟩) LH ch, .agg (gs14 b f q (.slice (some ⟨g, 0, none⟩) LG cg) (.slice (some ⟨h, 0, none⟩) LH ch)).toArray, .slice (some ⟨g, 0, none⟩) (LG + 2) cg, .slice (some ⟨h, 0, none⟩) (LH + 2) ch], []⟩ (w.drew.setCells T2 0 (gs14 b f q (.slice (some ⟨g, 0, none⟩) LG cg) (.slice (some ⟨h, 0, none⟩) LH ch))))) : (Code.region 3 gl3o true).wp Tryd.prog Q ⟨#[x0, .pointer (some ⟨T1, 0, none⟩), .pointer (some ⟨T2, 0, none⟩), x3, x4, .slice (some ⟨g, 0, none⟩) (LG + 2) cg, .slice (some ⟨h, 0, none⟩) (LH + 2) ch, x7, x8, x9, x10, x11, x12, x13, x14, x15, x16, x17, x18, x19, x20, x21, x22, x23, x24, x25, x26, x27, x28, x29, x30, x31, x32, x33, x34], []⟩ w := by
  have g0 : (0 : Int) ≤ (LG : Int) := by omega
  have g1 : (LG : Int) ≤ (cg : Int) := by omega
  have h0 : (0 : Int) ≤ (LH : Int) := by omega
  have h1 : (LH : Int) ≤ (ch : Int) := by omega
  have I2 : Hid ((Tryd.prog.info? 32).map (·.size) = some (gs14 b f q (.slice (some ⟨g, 0, none⟩) LG cg) (.slice (some ⟨h, 0, none⟩) LH ch)).toArray.size) := hidden info14
  have O2 := hidden (gs14_one b f q (some ⟨g, 0, none⟩) (some ⟨h, 0, none⟩) LG cg LH ch)
  have S2 : Hid ((fun w' => w'.rangeAt T1 0 (gs14 b f q (.slice PG LG cG) (.slice PH LH cH)) ∧ w'.there T2 0 14) (w.drew.setCells T2 0 (gs14 b f q (.slice (some ⟨g, 0, none⟩) LG cg) (.slice (some ⟨h, 0, none⟩) LH ch)))) := hidden ⟨World.rangeAt_setCells_apart ((World.rangeAt_drew w T1 0 _).2 hr) _ _ _ (Or.inl hne), there_setM ((World.there_drew w T2 0 14).2 ht) _ _⟩
  refine wp_region_noPanic ?_
  refine wp_region_held_drew (S := (fun w' => w'.rangeAt T1 0 (gs14 b f q (.slice PG LG cG) (.slice PH LH cH)) ∧ w'.there T2 0 14)) (by kernel_rfl) ⟨(World.rangeAt_drew w T1 0 _).2 hr, (World.there_drew w T2 0 14).2 ht⟩ (fun hHeld => ?_)
  change wpAnyH Tryd.prog .any gl3o _ _ 25 #[false, false, false, false, false, false, false, false, false, false, false, false, false, false, false, false, false, false, false, false, false, false, false, false, false] _ _
  clear hr ht
  refine wpAnyH_take (i := 0) (oi := { dst := some 13, op := Op.fieldAddr 27 (Operand.tmp 1) 0, type := 0, pos := "law.go:54", after := #[], guard := none }) (v := .pointer (some ⟨T1, 0, none⟩)) rfl (by kernel_rfl) (by kernel_rfl) (by kernel_rfl) (fun _ _ _ h => h) (Or.inl ⟨by rfl, fun w0 hSw => ?_⟩) hHeld ?_
  · (clear hSw; go_simp)
  simp only [Act.put, List.setIfInBounds_toArray, List.set_cons_zero, List.set_cons_succ]
  refine wpAnyH_take (i := 1) (oi := { dst := some 14, op := Op.load 24 (Operand.tmp 13), type := 24, pos := "law.go:54", after := #[{ on := 0, ground := Ground.data }], guard := none }) (v := .agg #[.int .u64 b.x0, .int .u64 b.x1, .int .u64 b.x2, .int .u64 b.x3]) rfl (by kernel_rfl) (by kernel_rfl) (by kernel_rfl) (fun _ _ _ h => h) (Or.inl ⟨by rfl, fun w0 hSw => ?_⟩) hHeld ?_
  · (have s1 := hSw.1; have c0 := s1 0 _ rfl; have c1 := s1 1 _ rfl; have c2 := s1 2 _ rfl; have c3 := s1 3 _ rfl; clear s1; simp only [Nat.zero_add] at c0 c1 c2 c3; clear hSw; go_simp)
  simp only [Act.put, List.setIfInBounds_toArray, List.set_cons_zero, List.set_cons_succ]
  refine wpAnyH_take (i := 2) (oi := { dst := some 15, op := Op.build 29 #[(0, Operand.tmp 14)], type := 29, pos := "law.go:54", after := #[{ on := 1, ground := Ground.data }], guard := none }) (v := .agg #[.int .u64 b.x0, .int .u64 b.x1, .int .u64 b.x2, .int .u64 b.x3]) rfl (by kernel_rfl) (by kernel_rfl) (by kernel_rfl) (fun _ _ _ h => h) (Or.inl ⟨by rfl, fun w0 hSw => ?_⟩) hHeld ?_
  · (clear hSw; go_simp)
  simp only [Act.put, List.setIfInBounds_toArray, List.set_cons_zero, List.set_cons_succ]
  refine wpAnyH_take (i := 3) (oi := { dst := some 16, op := Op.fieldAddr 27 (Operand.tmp 1) 1, type := 0, pos := "law.go:54", after := #[], guard := none }) (v := .pointer (some ⟨T1, 4, none⟩)) rfl (by kernel_rfl) (by kernel_rfl) (by kernel_rfl) (fun _ _ _ h => h) (Or.inl ⟨by rfl, fun w0 hSw => ?_⟩) hHeld ?_
  · (clear hSw; go_simp)
  simp only [Act.put, List.setIfInBounds_toArray, List.set_cons_zero, List.set_cons_succ]
  refine wpAnyH_take (i := 4) (oi := { dst := some 17, op := Op.load 24 (Operand.tmp 16), type := 24, pos := "law.go:54", after := #[{ on := 3, ground := Ground.data }], guard := none }) (v := .agg #[.int .u64 f.x0, .int .u64 f.x1, .int .u64 f.x2, .int .u64 f.x3]) rfl (by kernel_rfl) (by kernel_rfl) (by kernel_rfl) (fun _ _ _ h => h) (Or.inl ⟨by rfl, fun w0 hSw => ?_⟩) hHeld ?_
  · (have s1 := hSw.1; have c4 := s1 4 _ rfl; have c5 := s1 5 _ rfl; have c6 := s1 6 _ rfl; have c7 := s1 7 _ rfl; clear s1; simp only [Nat.zero_add] at c4 c5 c6 c7; clear hSw; go_simp)
  simp only [Act.put, List.setIfInBounds_toArray, List.set_cons_zero, List.set_cons_succ]
  refine wpAnyH_take (i := 5) (oi := { dst := some 18, op := Op.build 29 #[(0, Operand.tmp 17)], type := 29, pos := "law.go:54", after := #[{ on := 4, ground := Ground.data }], guard := none }) (v := .agg #[.int .u64 f.x0, .int .u64 f.x1, .int .u64 f.x2, .int .u64 f.x3]) rfl (by kernel_rfl) (by kernel_rfl) (by kernel_rfl) (fun _ _ _ h => h) (Or.inl ⟨by rfl, fun w0 hSw => ?_⟩) hHeld ?_
  · (clear hSw; go_simp)
  simp only [Act.put, List.setIfInBounds_toArray, List.set_cons_zero, List.set_cons_succ]
  refine wpAnyH_take (i := 6) (oi := { dst := some 19, op := Op.fieldAddr 27 (Operand.tmp 1) 2, type := 0, pos := "law.go:54", after := #[], guard := none }) (v := .pointer (some ⟨T1, 8, none⟩)) rfl (by kernel_rfl) (by kernel_rfl) (by kernel_rfl) (fun _ _ _ h => h) (Or.inl ⟨by rfl, fun w0 hSw => ?_⟩) hHeld ?_
  · (clear hSw; go_simp)
  simp only [Act.put, List.setIfInBounds_toArray, List.set_cons_zero, List.set_cons_succ]
  refine wpAnyH_take (i := 7) (oi := { dst := some 20, op := Op.load 24 (Operand.tmp 19), type := 24, pos := "law.go:54", after := #[{ on := 6, ground := Ground.data }], guard := none }) (v := .agg #[.int .u64 q.x0, .int .u64 q.x1, .int .u64 q.x2, .int .u64 q.x3]) rfl (by kernel_rfl) (by kernel_rfl) (by kernel_rfl) (fun _ _ _ h => h) (Or.inl ⟨by rfl, fun w0 hSw => ?_⟩) hHeld ?_
  · (have s1 := hSw.1; have c8 := s1 8 _ rfl; have c9 := s1 9 _ rfl; have c10 := s1 10 _ rfl; have c11 := s1 11 _ rfl; clear s1; simp only [Nat.zero_add] at c8 c9 c10 c11; clear hSw; go_simp)
  simp only [Act.put, List.setIfInBounds_toArray, List.set_cons_zero, List.set_cons_succ]
  refine wpAnyH_take (i := 8) (oi := { dst := some 21, op := Op.build 29 #[(0, Operand.tmp 20)], type := 29, pos := "law.go:54", after := #[{ on := 7, ground := Ground.data }], guard := none }) (v := .agg #[.int .u64 q.x0, .int .u64 q.x1, .int .u64 q.x2, .int .u64 q.x3]) rfl (by kernel_rfl) (by kernel_rfl) (by kernel_rfl) (fun _ _ _ h => h) (Or.inl ⟨by rfl, fun w0 hSw => ?_⟩) hHeld ?_
  · (clear hSw; go_simp)
  simp only [Act.put, List.setIfInBounds_toArray, List.set_cons_zero, List.set_cons_succ]
  refine wpAnyH_take (i := 9) (oi := { dst := some 22, op := Op.move (Operand.tmp 5), type := 30, pos := "law.go:54", after := #[], guard := none }) (v := .slice (some ⟨g, 0, none⟩) (LG + 2) cg) rfl (by kernel_rfl) (by kernel_rfl) (by kernel_rfl) (fun _ _ _ h => h) (Or.inl ⟨by rfl, fun w0 hSw => ?_⟩) hHeld ?_
  · (clear hSw; go_simp)
  simp only [Act.put, List.setIfInBounds_toArray, List.set_cons_zero, List.set_cons_succ]
  refine wpAnyH_take (i := 10) (oi := { dst := some 23, op := Op.fieldAddr 27 (Operand.tmp 1) 3, type := 0, pos := "law.go:54", after := #[], guard := none }) (v := .pointer (some ⟨T1, 12, none⟩)) rfl (by kernel_rfl) (by kernel_rfl) (by kernel_rfl) (fun _ _ _ h => h) (Or.inl ⟨by rfl, fun w0 hSw => ?_⟩) hHeld ?_
  · (clear hSw; go_simp)
  simp only [Act.put, List.setIfInBounds_toArray, List.set_cons_zero, List.set_cons_succ]
  refine wpAnyH_take (i := 11) (oi := { dst := some 24, op := Op.load 25 (Operand.tmp 23), type := 25, pos := "law.go:54", after := #[{ on := 10, ground := Ground.data }], guard := none }) (v := .slice PG LG cG) rfl (by kernel_rfl) (by kernel_rfl) (by kernel_rfl) (fun _ _ _ h => h) (Or.inl ⟨by rfl, fun w0 hSw => ?_⟩) hHeld ?_
  · (have s1 := hSw.1; have c12 := s1 12 _ rfl; clear s1; simp only [Nat.zero_add] at c12; clear hSw; go_simp)
  simp only [Act.put, List.setIfInBounds_toArray, List.set_cons_zero, List.set_cons_succ]
  refine wpAnyH_take (i := 12) (oi := { dst := some 25, op := Op.call { callee := Callee.builtin Builtin.len, args := #[Operand.tmp 24], argTypes := #[25] }, type := 3, pos := "law.go:54", after := #[{ on := 11, ground := Ground.data }], guard := none }) (v := .int .i64 (LG : Int)) rfl (by kernel_rfl) (by kernel_rfl) (by kernel_rfl) (fun _ _ _ h => h) (Or.inl ⟨by rfl, fun w0 hSw => ?_⟩) hHeld ?_
  · (clear hSw; go_simp)
  simp only [Act.put, List.setIfInBounds_toArray, List.set_cons_zero, List.set_cons_succ]
  refine wpAnyH_take (i := 13) (oi := { dst := some 26, op := Op.slice 30 (Operand.tmp 22) none (some (Operand.tmp 25)) none, type := 30, pos := "law.go:54", after := #[{ on := 9, ground := Ground.data }, { on := 12, ground := Ground.data }], guard := none }) (v := .slice (some ⟨g, 0, none⟩) LG cg) rfl (by kernel_rfl) (by kernel_rfl) (by kernel_rfl) (fun _ _ _ h => h) (Or.inl ⟨by rfl, fun w0 hSw => ?_⟩) hHeld ?_
  · (clear hSw; go_simp)
  simp only [Act.put, List.setIfInBounds_toArray, List.set_cons_zero, List.set_cons_succ]
  refine wpAnyH_take (i := 14) (oi := { dst := some 27, op := Op.move (Operand.tmp 6), type := 30, pos := "law.go:54", after := #[], guard := none }) (v := .slice (some ⟨h, 0, none⟩) (LH + 2) ch) rfl (by kernel_rfl) (by kernel_rfl) (by kernel_rfl) (fun _ _ _ h => h) (Or.inl ⟨by rfl, fun w0 hSw => ?_⟩) hHeld ?_
  · (clear hSw; go_simp)
  simp only [Act.put, List.setIfInBounds_toArray, List.set_cons_zero, List.set_cons_succ]
  refine wpAnyH_take (i := 15) (oi := { dst := some 28, op := Op.fieldAddr 27 (Operand.tmp 1) 4, type := 0, pos := "law.go:54", after := #[], guard := none }) (v := .pointer (some ⟨T1, 13, none⟩)) rfl (by kernel_rfl) (by kernel_rfl) (by kernel_rfl) (fun _ _ _ h => h) (Or.inl ⟨by rfl, fun w0 hSw => ?_⟩) hHeld ?_
  · (clear hSw; go_simp)
  simp only [Act.put, List.setIfInBounds_toArray, List.set_cons_zero, List.set_cons_succ]
  refine wpAnyH_take (i := 16) (oi := { dst := some 29, op := Op.load 25 (Operand.tmp 28), type := 25, pos := "law.go:54", after := #[{ on := 15, ground := Ground.data }], guard := none }) (v := .slice PH LH cH) rfl (by kernel_rfl) (by kernel_rfl) (by kernel_rfl) (fun _ _ _ h => h) (Or.inl ⟨by rfl, fun w0 hSw => ?_⟩) hHeld ?_
  · (have s1 := hSw.1; have c13 := s1 13 _ rfl; clear s1; simp only [Nat.zero_add] at c13; clear hSw; go_simp)
  simp only [Act.put, List.setIfInBounds_toArray, List.set_cons_zero, List.set_cons_succ]
  refine wpAnyH_take (i := 17) (oi := { dst := some 30, op := Op.call { callee := Callee.builtin Builtin.len, args := #[Operand.tmp 29], argTypes := #[25] }, type := 3, pos := "law.go:54", after := #[{ on := 16, ground := Ground.data }], guard := none }) (v := .int .i64 (LH : Int)) rfl (by kernel_rfl) (by kernel_rfl) (by kernel_rfl) (fun _ _ _ h => h) (Or.inl ⟨by rfl, fun w0 hSw => ?_⟩) hHeld ?_
  · (clear hSw; go_simp)
  simp only [Act.put, List.setIfInBounds_toArray, List.set_cons_zero, List.set_cons_succ]
  refine wpAnyH_take (i := 18) (oi := { dst := some 31, op := Op.slice 30 (Operand.tmp 27) none (some (Operand.tmp 30)) none, type := 30, pos := "law.go:54", after := #[{ on := 14, ground := Ground.data }, { on := 17, ground := Ground.data }], guard := none }) (v := .slice (some ⟨h, 0, none⟩) LH ch) rfl (by kernel_rfl) (by kernel_rfl) (by kernel_rfl) (fun _ _ _ h => h) (Or.inl ⟨by rfl, fun w0 hSw => ?_⟩) hHeld ?_
  · (clear hSw; go_simp)
  simp only [Act.put, List.setIfInBounds_toArray, List.set_cons_zero, List.set_cons_succ]
  refine wpAnyH_take (i := 19) (oi := { dst := some 32, op := Op.build 32 #[(0, Operand.tmp 15), (1, Operand.tmp 18), (2, Operand.tmp 21), (3, Operand.tmp 26), (4, Operand.tmp 31)], type := 32, pos := "law.go:54", after := #[{ on := 2, ground := Ground.data }, { on := 5, ground := Ground.data }, { on := 8, ground := Ground.data }, { on := 13, ground := Ground.data }, { on := 18, ground := Ground.data }], guard := none }) (v := .agg (gs14 b f q (.slice (some ⟨g, 0, none⟩) LG cg) (.slice (some ⟨h, 0, none⟩) LH ch)).toArray) rfl (by kernel_rfl) (by kernel_rfl) (by kernel_rfl) (fun _ _ _ h => h) (Or.inl ⟨by rfl, fun w0 hSw => by kernel_rfl⟩) hHeld ?_
  simp only [Act.put, List.setIfInBounds_toArray, List.set_cons_zero, List.set_cons_succ]
  refine wpAnyH_take (i := 20) (oi := { dst := some 33, op := Op.move (Operand.tmp 5), type := 30, pos := "law.go:54", after := #[{ on := 22, ground := Ground.gcOnly Departure.lateStores }], guard := none }) (v := .slice (some ⟨g, 0, none⟩) (LG + 2) cg) rfl (by kernel_rfl) (by kernel_rfl) (by kernel_rfl) (fun _ _ _ h => h) (Or.inl ⟨by rfl, fun w0 hSw => ?_⟩) hHeld ?_
  · (clear hSw; go_simp)
  simp only [Act.put, List.setIfInBounds_toArray, List.set_cons_zero, List.set_cons_succ]
  refine wpAnyH_take (i := 21) (oi := { dst := some 34, op := Op.move (Operand.tmp 6), type := 30, pos := "law.go:54", after := #[{ on := 23, ground := Ground.gcOnly Departure.lateStores }], guard := none }) (v := .slice (some ⟨h, 0, none⟩) (LH + 2) ch) rfl (by kernel_rfl) (by kernel_rfl) (by kernel_rfl) (fun _ _ _ h => h) (Or.inl ⟨by rfl, fun w0 hSw => ?_⟩) hHeld ?_
  · (clear hSw; go_simp)
  simp only [Act.put, List.setIfInBounds_toArray, List.set_cons_zero, List.set_cons_succ]
  refine wpAnyH_ready (rs := [22]) (by kernel_rfl) (by simp) ?_
  refine AllReadyH.cons (o := { dst := none, op := Op.store 32 (Operand.tmp 2) (Operand.tmp 32), type := 0, pos := "law.go:54", after := #[{ on := 19, ground := Ground.data }, { on := 0, ground := Ground.phase }, { on := 1, ground := Ground.phase }, { on := 2, ground := Ground.phase }, { on := 3, ground := Ground.phase }, { on := 4, ground := Ground.phase }, { on := 5, ground := Ground.phase }, { on := 6, ground := Ground.phase }, { on := 7, ground := Ground.phase }, { on := 8, ground := Ground.phase }, { on := 9, ground := Ground.phase }, { on := 10, ground := Ground.phase }, { on := 11, ground := Ground.phase }, { on := 12, ground := Ground.phase }, { on := 13, ground := Ground.phase }, { on := 14, ground := Ground.phase }, { on := 15, ground := Ground.phase }, { on := 16, ground := Ground.phase }, { on := 17, ground := Ground.phase }, { on := 18, ground := Ground.phase }, { on := 19, ground := Ground.phase }, { on := 20, ground := Ground.textOnly Departure.lateStores }, { on := 21, ground := Ground.textOnly Departure.lateStores }], guard := none }) rfl (fun K hK => ?_) AllReadyH.nil
  refine Eq.mpr (if_pos (by rfl)) ?_
  refine wp_store_mid 32 _ _ rfl T2 0 (gs14 b f q (.slice (some ⟨g, 0, none⟩) LG cg) (.slice (some ⟨h, 0, none⟩) LH ch)).toArray rfl rfl hHeld.2 I2.out O2.out ?_
  refine hK.out _ _ S2.out (fun hH2 => ?_)
  clear hK K
  simp only [List.setIfInBounds_toArray, List.set_cons_zero, List.set_cons_succ]
  refine wpAnyH_ready (rs := [23]) (by kernel_rfl) (by simp) ?_
  refine AllReadyH.cons (o := { dst := some 3, op := Op.assign (Operand.tmp 33), type := 30, pos := "law.go:54", after := #[{ on := 20, ground := Ground.data }, { on := 22, ground := Ground.chain }, { on := 0, ground := Ground.phase }, { on := 1, ground := Ground.phase }, { on := 2, ground := Ground.phase }, { on := 3, ground := Ground.phase }, { on := 4, ground := Ground.phase }, { on := 5, ground := Ground.phase }, { on := 6, ground := Ground.phase }, { on := 7, ground := Ground.phase }, { on := 8, ground := Ground.phase }, { on := 9, ground := Ground.phase }, { on := 10, ground := Ground.phase }, { on := 11, ground := Ground.phase }, { on := 12, ground := Ground.phase }, { on := 13, ground := Ground.phase }, { on := 14, ground := Ground.phase }, { on := 15, ground := Ground.phase }, { on := 16, ground := Ground.phase }, { on := 17, ground := Ground.phase }, { on := 18, ground := Ground.phase }, { on := 19, ground := Ground.phase }, { on := 20, ground := Ground.phase }, { on := 21, ground := Ground.textOnly Departure.lateStores }, { on := 22, ground := Ground.phase }], guard := none }) rfl (fun K hK => ?_) AllReadyH.nil
  go_wp2_with fail
  refine hK.out _ _ S2.out (fun _ => ?_)
  clear hK K
  refine wpAnyH_ready (rs := [24]) (by kernel_rfl) (by simp) ?_
  refine AllReadyH.cons (o := { dst := some 4, op := Op.assign (Operand.tmp 34), type := 30, pos := "law.go:54", after := #[{ on := 21, ground := Ground.data }, { on := 23, ground := Ground.chain }, { on := 0, ground := Ground.phase }, { on := 1, ground := Ground.phase }, { on := 2, ground := Ground.phase }, { on := 3, ground := Ground.phase }, { on := 4, ground := Ground.phase }, { on := 5, ground := Ground.phase }, { on := 6, ground := Ground.phase }, { on := 7, ground := Ground.phase }, { on := 8, ground := Ground.phase }, { on := 9, ground := Ground.phase }, { on := 10, ground := Ground.phase }, { on := 11, ground := Ground.phase }, { on := 12, ground := Ground.phase }, { on := 13, ground := Ground.phase }, { on := 14, ground := Ground.phase }, { on := 15, ground := Ground.phase }, { on := 16, ground := Ground.phase }, { on := 17, ground := Ground.phase }, { on := 18, ground := Ground.phase }, { on := 19, ground := Ground.phase }, { on := 20, ground := Ground.phase }, { on := 21, ground := Ground.phase }, { on := 22, ground := Ground.phase }, { on := 23, ground := Ground.phase }], guard := none }) rfl (fun K hK => ?_) AllReadyH.nil
  go_wp2_with fail
  refine hK.out _ _ S2.out (fun _ => ?_)
  clear hK K
  refine wpAnyH_done (by kernel_rfl) ?_ _
  exact HQ.out
end Go.Proofs.YtlijigolfggcfaaDoor
