import Derived.Test.YthlohkbicnicjaaGreatDoorGc
namespace Go.Proofs.YthlohkbicnicjaaGreatDoor
open Go.RowKit
/-- the operations of setOf's third region -/
def so3 : Array Oper := #[{ dst := some 18, op := Op.move (Operand.tmp 2), type := 48, pos := "gens.go:21", after := #[], guard := none },
  { dst := some 19, op := Op.call { callee := Callee.value (Operand.tmp 18), args := #[Operand.const (Value.int IntKind.i64 1), Operand.const (Value.int IntKind.i64 0)], argTypes := #[3, 3] }, type := 27, pos := "gens.go:22", after := #[{ on := 0, ground := Ground.data }], guard := none },
  { dst := some 20, op := Op.move (Operand.tmp 2), type := 48, pos := "gens.go:21", after := #[], guard := none },
  { dst := some 21, op := Op.call { callee := Callee.value (Operand.tmp 20), args := #[Operand.const (Value.int IntKind.i64 2), Operand.const (Value.int IntKind.i64 0)], argTypes := #[3, 3] }, type := 27, pos := "gens.go:23", after := #[{ on := 2, ground := Ground.data }, { on := 1, ground := Ground.chain }], guard := none },
  { dst := some 22, op := Op.move (Operand.tmp 2), type := 48, pos := "gens.go:21", after := #[], guard := none },
  { dst := some 23, op := Op.call { callee := Callee.value (Operand.tmp 22), args := #[Operand.const (Value.int IntKind.i64 3), Operand.const (Value.int IntKind.i64 0)], argTypes := #[3, 3] }, type := 27, pos := "gens.go:24", after := #[{ on := 4, ground := Ground.data }, { on := 3, ground := Ground.chain }], guard := none },
  { dst := some 24, op := Op.move (Operand.tmp 0), type := 3, pos := "gens.go:21", after := #[], guard := none },
  { dst := some 25, op := Op.makeSlice 28 (Operand.tmp 24) (Operand.tmp 24), type := 28, pos := "gens.go:21", after := #[{ on := 6, ground := Ground.data }, { on := 6, ground := Ground.data }], guard := none },
  { dst := some 26, op := Op.move (Operand.tmp 0), type := 3, pos := "gens.go:21", after := #[], guard := none },
  { dst := some 27, op := Op.makeSlice 28 (Operand.tmp 26) (Operand.tmp 26), type := 28, pos := "gens.go:21", after := #[{ on := 8, ground := Ground.data }, { on := 8, ground := Ground.data }], guard := none },
  { dst := some 28, op := Op.build 30 #[(0, Operand.tmp 19), (1, Operand.tmp 21), (2, Operand.tmp 23), (3, Operand.tmp 25), (4, Operand.tmp 27)], type := 30, pos := "gens.go:21", after := #[{ on := 1, ground := Ground.data }, { on := 3, ground := Ground.data }, { on := 5, ground := Ground.data }, { on := 7, ground := Ground.data }, { on := 9, ground := Ground.data }], guard := none },
  { dst := some 8, op := Op.alloc 30, type := 0, pos := "gens.go:21", after := #[], guard := none },
  { dst := none, op := Op.store 30 (Operand.tmp 8) (Operand.tmp 28), type := 0, pos := "gens.go:21", after := #[{ on := 11, ground := Ground.data }, { on := 10, ground := Ground.data }, { on := 5, ground := Ground.chain }, { on := 0, ground := Ground.phase }, { on := 1, ground := Ground.phase }, { on := 2, ground := Ground.phase }, { on := 3, ground := Ground.phase }, { on := 4, ground := Ground.phase }, { on := 5, ground := Ground.phase }, { on := 6, ground := Ground.phase }, { on := 7, ground := Ground.phase }, { on := 8, ground := Ground.phase }, { on := 9, ground := Ground.phase }, { on := 10, ground := Ground.phase }, { on := 11, ground := Ground.phase }], guard := none }]
/-- the function that tells the generators -/
def fv (X : Nat) : Value := .func (.func 13) #[] #[.pointer (some ⟨X, 0, none⟩)]
section
variable (Q : Exit → Act → World → Prop) (n X : Nat) (x1 x3 x4 x5 x6 x7 x9 x10 x11 x12 x13 x14 x15 x16 x17 : Value) (w0 : World)
def sw5 (w : World) (s : Nat) (a b c d f : Value) : World := ((((w.setCell ⟨s, 0, none⟩ a).setCell ⟨s, 1, none⟩ b).setCell ⟨s, 2, none⟩ c).setCell ⟨s, 3, none⟩ d).setCell ⟨s, 4, none⟩ f
theorem sw5_bel {m s : Nat} {w1 w : World} (h : Below m w1 w) (hs : m ≤ s) (a b c d f : Value) : Below m w1 (sw5 w s a b c d f) := ((((h.setCell hs _).setCell hs _).setCell hs _).setCell hs _).setCell hs _
def HQ3 : Prop := ∀ (b0 b1 b2 g1 g2 s : Nat) (w : World), Below w0.heap.size w0 w → w0.heap.size ≤ b0 → w0.heap.size ≤ b1 → w0.heap.size ≤ b2 → w0.heap.size ≤ g1 → w0.heap.size ≤ g2 → w0.heap.size ≤ s → Rl w b0 0 1 (uf 0) → Rl w b1 0 2 (uf 1) → Rl w b2 0 3 (uf 2) → Gs w g1 n (fun _ => .slice none 0 0) → Gs w g2 n (fun _ => .slice none 0 0) → Gs w s 5 (fun _ => .slice none 0 0) → g1 ≠ g2 → g1 ≠ s → g2 ≠ s → Q .normal ⟨#[.int .i64 (n : Int), x1, fv X, x3, x4, x5, x6, x7, .pointer (some ⟨s, 0, none⟩), x9, x10, x11, x12, x13, x14, x15, x16, x17, fv X, .agg #[.slice (some ⟨b0, 0, none⟩) 1 1], fv X, .agg #[.slice (some ⟨b1, 0, none⟩) 2 2], fv X, .agg #[.slice (some ⟨b2, 0, none⟩) 3 3], .int .i64 (n : Int), .slice (some ⟨g1, 0, none⟩) n n, .int .i64 (n : Int), .slice (some ⟨g2, 0, none⟩) n n, .agg #[.slice (some ⟨b0, 0, none⟩) 1 1, .slice (some ⟨b1, 0, none⟩) 2 2, .slice (some ⟨b2, 0, none⟩) 3 3, .slice (some ⟨g1, 0, none⟩) n n, .slice (some ⟨g2, 0, none⟩) n n], undef, undef, undef, undef, undef, undef, undef, undef, undef, undef, undef, undef, undef, undef, undef, undef, undef, undef, undef, undef], []⟩ (sw5 w s (.slice (some ⟨b0, 0, none⟩) 1 1) (.slice (some ⟨b1, 0, none⟩) 2 2) (.slice (some ⟨b2, 0, none⟩) 3 3) (.slice (some ⟨g1, 0, none⟩) n n) (.slice (some ⟨g2, 0, none⟩) n n))
/-- the calls -/
def HC3 : Prop := ∀ k : Nat, 1 ≤ k ∧ k ≤ 3 → ∀ w, Below w0.heap.size w0 w → Calls Tryz.prog 13 #[.int .i64 (k : Int), .int .i64 0, .pointer (some ⟨X, 0, none⟩)] w fun e w' => ∃ v, e = .returned v ∧ Uv w0.heap.size w' v (k - 1) ∧ Below w.heap.size w w'
/-- the makes -/
def HM3 : Prop := ∀ w, (Instr.makeSlice 28 (.int .i64 (n : Int)) (.int .i64 (n : Int))).run Tryz.prog w = .ok (.slice (some ⟨w.heap.size, 0, none⟩) n n) (w.alloc (.cells (madeCells #[.slice none 0 0] n) 27))
set_option maxRecDepth 100000 in
set_option maxHeartbeats 4000000 in
theorem so_last (HQ : HQ3 Q n X x1 x3 x4 x5 x6 x7 x9 x10 x11 x12 x13 x14 x15 x16 x17 w0) (b0 b1 b2 g1 g2 s : Nat) (w : World) (hS : Below w0.heap.size w0 w) (q0 : w0.heap.size ≤ b0) (q1 : w0.heap.size ≤ b1) (q2 : w0.heap.size ≤ b2) (p1 : w0.heap.size ≤ g1) (p2 : w0.heap.size ≤ g2) (p3 : w0.heap.size ≤ s) (hu0 : Rl w b0 0 1 (uf 0)) (hu1 : Rl w b1 0 2 (uf 1)) (hu2 : Rl w b2 0 3 (uf 2)) (hm1 : Gs w g1 n (fun _ => .slice none 0 0)) (hm2 : Gs w g2 n (fun _ => .slice none 0 0)) (hal : Gs w s 5 (fun _ => .slice none 0 0)) (d12 : g1 ≠ g2) (d1a : g1 ≠ s) (d2a : g2 ≠ s) :
    wpAnyH Tryz.prog .any so3 Q (fun w' => Below w0.heap.size w0 w') 1 #[true, true, true, true, true, true, true, true, true, true, true, true, false] ⟨#[.int .i64 (n : Int), x1, fv X, x3, x4, x5, x6, x7, .pointer (some ⟨s, 0, none⟩), x9, x10, x11, x12, x13, x14, x15, x16, x17, fv X, .agg #[.slice (some ⟨b0, 0, none⟩) 1 1], fv X, .agg #[.slice (some ⟨b1, 0, none⟩) 2 2], fv X, .agg #[.slice (some ⟨b2, 0, none⟩) 3 3], .int .i64 (n : Int), .slice (some ⟨g1, 0, none⟩) n n, .int .i64 (n : Int), .slice (some ⟨g2, 0, none⟩) n n, .agg #[.slice (some ⟨b0, 0, none⟩) 1 1, .slice (some ⟨b1, 0, none⟩) 2 2, .slice (some ⟨b2, 0, none⟩) 3 3, .slice (some ⟨g1, 0, none⟩) n n, .slice (some ⟨g2, 0, none⟩) n n], undef, undef, undef, undef, undef, undef, undef, undef, undef, undef, undef, undef, undef, undef, undef, undef, undef, undef, undef, undef], []⟩ w := by
  have R := hidden (HQ b0 b1 b2 g1 g2 s w hS q0 q1 q2 p1 p2 p3 hu0 hu1 hu2 hm1 hm2 hal d12 d1a d2a)
  unfold sw5 at R
  have SB := hidden (sw5_bel hS p3 (.slice (some ⟨b0, 0, none⟩) 1 1) (.slice (some ⟨b1, 0, none⟩) 2 2) (.slice (some ⟨b2, 0, none⟩) 3 3) (.slice (some ⟨g1, 0, none⟩) n n) (.slice (some ⟨g2, 0, none⟩) n n))
  unfold sw5 at SB
  have c0 := hal.c 0 (by omega)
  have f0 := hal.fr 0 (by omega)
  have c1 := hal.c 1 (by omega)
  have f1 := hal.fr 1 (by omega)
  have c2 := hal.c 2 (by omega)
  have f2 := hal.fr 2 (by omega)
  have c3 := hal.c 3 (by omega)
  have f3 := hal.fr 3 (by omega)
  have c4 := hal.c 4 (by omega)
  have f4 := hal.fr 4 (by omega)
  clear hu0 hu1 hu2 hm1 hm2 hal d12 d1a d2a
  refine wpAnyH_ready (rs := [12]) (by kernel_rfl) (by simp) ?_
  refine AllReadyH.cons (o := { dst := none, op := Op.store 30 (Operand.tmp 8) (Operand.tmp 28), type := 0, pos := "gens.go:21", after := #[{ on := 11, ground := Ground.data }, { on := 10, ground := Ground.data }, { on := 5, ground := Ground.chain }, { on := 0, ground := Ground.phase }, { on := 1, ground := Ground.phase }, { on := 2, ground := Ground.phase }, { on := 3, ground := Ground.phase }, { on := 4, ground := Ground.phase }, { on := 5, ground := Ground.phase }, { on := 6, ground := Ground.phase }, { on := 7, ground := Ground.phase }, { on := 8, ground := Ground.phase }, { on := 9, ground := Ground.phase }, { on := 10, ground := Ground.phase }, { on := 11, ground := Ground.phase }], guard := none }) rfl (fun K hK => ?_) AllReadyH.nil
  go_wp2_with fail
  refine hK.out _ _ SB.out (fun _ => ?_)
  exact wpAnyH_done (by kernel_rfl) R.out _
set_option maxRecDepth 100000 in
set_option maxHeartbeats 4000000 in
theorem so_3111 (PP : ∀ v c a w, Q (.panic c) (a.put (some 28) v) w → Q (.panic c) a w) (HQ : HQ3 Q n X x1 x3 x4 x5 x6 x7 x9 x10 x11 x12 x13 x14 x15 x16 x17 w0) (_HC : HC3 X w0) (_HM : HM3 n) (u0 u1 u2 m1 m2 al : Value) (w : World) (hS : Below w0.heap.size w0 w) (hu0 : Uv w0.heap.size w u0 0) (hu1 : Uv w0.heap.size w u1 1) (hu2 : Uv w0.heap.size w u2 2) (hm1 : Mv w0.heap.size w m1 n) (hm2 : Mv w0.heap.size w m2 n) (hal : Av w0.heap.size w al) (d12 : bkOf m1 ≠ bkOf m2) (d1a : bkOf m1 ≠ bkOf al) (d2a : bkOf m2 ≠ bkOf al) : wpAnyH Tryz.prog .any so3 Q (fun w' => Below w0.heap.size w0 w') 2 #[true, true, true, true, true, true, true, true, true, true, false, true, false] ⟨#[.int .i64 (n : Int), x1, fv X, x3, x4, x5, x6, x7, al, x9, x10, x11, x12, x13, x14, x15, x16, x17, fv X, u0, fv X, u1, fv X, u2, .int .i64 (n : Int), m1, .int .i64 (n : Int), m2, undef, undef, undef, undef, undef, undef, undef, undef, undef, undef, undef, undef, undef, undef, undef, undef, undef, undef, undef, undef, undef], []⟩ w := by
  obtain ⟨b0, rfl, q0, hu0⟩ := hu0
  obtain ⟨b1, rfl, q1, hu1⟩ := hu1
  obtain ⟨b2, rfl, q2, hu2⟩ := hu2
  obtain ⟨g1, rfl, p1, hm1⟩ := hm1
  obtain ⟨g2, rfl, p2, hm2⟩ := hm2
  obtain ⟨s, rfl, p3, hal⟩ := hal
  refine wpAnyH_take (i := 10) (oi := { dst := some 28, op := Op.build 30 #[(0, Operand.tmp 19), (1, Operand.tmp 21), (2, Operand.tmp 23), (3, Operand.tmp 25), (4, Operand.tmp 27)], type := 30, pos := "gens.go:21", after := #[{ on := 1, ground := Ground.data }, { on := 3, ground := Ground.data }, { on := 5, ground := Ground.data }, { on := 7, ground := Ground.data }, { on := 9, ground := Ground.data }], guard := none }) (v := .agg #[.slice (some ⟨b0, 0, none⟩) 1 1, .slice (some ⟨b1, 0, none⟩) 2 2, .slice (some ⟨b2, 0, none⟩) 3 3, .slice (some ⟨g1, 0, none⟩) n n, .slice (some ⟨g2, 0, none⟩) n n]) rfl (by kernel_rfl) (by kernel_rfl) (by kernel_rfl) (PP _) (Or.inl ⟨by rfl, fun w0 hSw => by go_simp⟩) hS ?_
  exact so_last Q n X x1 x3 x4 x5 x6 x7 x9 x10 x11 x12 x13 x14 x15 x16 x17 w0 HQ b0 b1 b2 g1 g2 s w hS q0 q1 q2 p1 p2 p3 hu0 hu1 hu2 hm1 hm2 hal d12 d1a d2a
set_option maxRecDepth 100000 in
set_option maxHeartbeats 4000000 in
theorem so_2111 (PP : ∀ v c a w, Q (.panic c) (a.put (some 28) v) w → Q (.panic c) a w) (HQ : HQ3 Q n X x1 x3 x4 x5 x6 x7 x9 x10 x11 x12 x13 x14 x15 x16 x17 w0) (HC : HC3 X w0) (HM : HM3 n) (u0 u1 m1 m2 al : Value) (w : World) (hS : Below w0.heap.size w0 w) (hu0 : Uv w0.heap.size w u0 0) (hu1 : Uv w0.heap.size w u1 1) (hm1 : Mv w0.heap.size w m1 n) (hm2 : Mv w0.heap.size w m2 n) (hal : Av w0.heap.size w al) (d12 : bkOf m1 ≠ bkOf m2) (d1a : bkOf m1 ≠ bkOf al) (d2a : bkOf m2 ≠ bkOf al) : wpAnyH Tryz.prog .any so3 Q (fun w' => Below w0.heap.size w0 w') 3 #[true, true, true, true, true, false, true, true, true, true, false, true, false] ⟨#[.int .i64 (n : Int), x1, fv X, x3, x4, x5, x6, x7, al, x9, x10, x11, x12, x13, x14, x15, x16, x17, fv X, u0, fv X, u1, fv X, undef, .int .i64 (n : Int), m1, .int .i64 (n : Int), m2, undef, undef, undef, undef, undef, undef, undef, undef, undef, undef, undef, undef, undef, undef, undef, undef, undef, undef, undef, undef, undef], []⟩ w := by
  refine wpAnyH_ready (rs := [5]) (by kernel_rfl) (by simp) ?_
  refine AllReadyH.cons (o := { dst := some 23, op := Op.call { callee := Callee.value (Operand.tmp 22), args := #[Operand.const (Value.int IntKind.i64 3), Operand.const (Value.int IntKind.i64 0)], argTypes := #[3, 3] }, type := 27, pos := "gens.go:24", after := #[{ on := 4, ground := Ground.data }, { on := 3, ground := Ground.chain }], guard := none }) rfl (fun K hK => ?_) ?_
  · have C := hidden (HC 3 (by omega) w hS)
    go_simp
    refine (C.out).mono ?_
    rintro e wn ⟨u2, rfl, hu2, hb⟩
    go_wp2_with fail
    refine hK.out _ _ (bl_trans hS hb) (fun _ => ?_)
    exact so_3111 Q n X x1 x3 x4 x5 x6 x7 x9 x10 x11 x12 x13 x14 x15 x16 x17 w0 PP HQ HC HM u0 u1 u2 m1 m2 al _ (bl_trans hS hb) (hu0.keep hb) (hu1.keep hb) hu2 (hm1.keep hb) (hm2.keep hb) (hal.keep hb) d12 d1a d2a
  exact AllReadyH.nil
set_option maxRecDepth 100000 in
set_option maxHeartbeats 4000000 in
theorem so_3011 (PP : ∀ v c a w, Q (.panic c) (a.put (some 28) v) w → Q (.panic c) a w) (HQ : HQ3 Q n X x1 x3 x4 x5 x6 x7 x9 x10 x11 x12 x13 x14 x15 x16 x17 w0) (HC : HC3 X w0) (HM : HM3 n) (u0 u1 u2 m2 al : Value) (w : World) (hS : Below w0.heap.size w0 w) (hu0 : Uv w0.heap.size w u0 0) (hu1 : Uv w0.heap.size w u1 1) (hu2 : Uv w0.heap.size w u2 2) (hm2 : Mv w0.heap.size w m2 n) (hal : Av w0.heap.size w al) (d2a : bkOf m2 ≠ bkOf al) : wpAnyH Tryz.prog .any so3 Q (fun w' => Below w0.heap.size w0 w') 3 #[true, true, true, true, true, true, true, false, true, true, false, true, false] ⟨#[.int .i64 (n : Int), x1, fv X, x3, x4, x5, x6, x7, al, x9, x10, x11, x12, x13, x14, x15, x16, x17, fv X, u0, fv X, u1, fv X, u2, .int .i64 (n : Int), undef, .int .i64 (n : Int), m2, undef, undef, undef, undef, undef, undef, undef, undef, undef, undef, undef, undef, undef, undef, undef, undef, undef, undef, undef, undef, undef], []⟩ w := by
  refine wpAnyH_ready (rs := [7]) (by kernel_rfl) (by simp) ?_
  refine AllReadyH.cons (o := { dst := some 25, op := Op.makeSlice 28 (Operand.tmp 24) (Operand.tmp 24), type := 28, pos := "gens.go:21", after := #[{ on := 6, ground := Ground.data }, { on := 6, ground := Ground.data }], guard := none }) rfl (fun K hK => ?_) ?_
  · have hmk := HM
    unfold HM3 at hmk
    go_wp2_with fail
    have hb := bl_alloc w (.cells (madeCells #[.slice none 0 0] n) 27)
    refine hK.out _ _ (bl_trans hS hb) (fun _ => ?_)
    have hm1 : Mv w0.heap.size (w.alloc (.cells (madeCells #[.slice none 0 0] n) 27)) (.slice (some ⟨w.heap.size, 0, none⟩) n n) n := ⟨_, rfl, hS.size, Gs.made w n _⟩
    exact so_3111 Q n X x1 x3 x4 x5 x6 x7 x9 x10 x11 x12 x13 x14 x15 x16 x17 w0 PP HQ HC HM u0 u1 u2 _ m2 al _ (bl_trans hS hb) (hu0.keep hb) (hu1.keep hb) (hu2.keep hb) hm1 (hm2.keep hb) (hal.keep hb) (Nat.ne_of_gt hm2.lt) (Nat.ne_of_gt hal.lt) d2a
  exact AllReadyH.nil
set_option maxRecDepth 100000 in
set_option maxHeartbeats 4000000 in
theorem so_3101 (PP : ∀ v c a w, Q (.panic c) (a.put (some 28) v) w → Q (.panic c) a w) (HQ : HQ3 Q n X x1 x3 x4 x5 x6 x7 x9 x10 x11 x12 x13 x14 x15 x16 x17 w0) (HC : HC3 X w0) (HM : HM3 n) (u0 u1 u2 m1 al : Value) (w : World) (hS : Below w0.heap.size w0 w) (hu0 : Uv w0.heap.size w u0 0) (hu1 : Uv w0.heap.size w u1 1) (hu2 : Uv w0.heap.size w u2 2) (hm1 : Mv w0.heap.size w m1 n) (hal : Av w0.heap.size w al) (d1a : bkOf m1 ≠ bkOf al) : wpAnyH Tryz.prog .any so3 Q (fun w' => Below w0.heap.size w0 w') 3 #[true, true, true, true, true, true, true, true, true, false, false, true, false] ⟨#[.int .i64 (n : Int), x1, fv X, x3, x4, x5, x6, x7, al, x9, x10, x11, x12, x13, x14, x15, x16, x17, fv X, u0, fv X, u1, fv X, u2, .int .i64 (n : Int), m1, .int .i64 (n : Int), undef, undef, undef, undef, undef, undef, undef, undef, undef, undef, undef, undef, undef, undef, undef, undef, undef, undef, undef, undef, undef, undef], []⟩ w := by
  refine wpAnyH_ready (rs := [9]) (by kernel_rfl) (by simp) ?_
  refine AllReadyH.cons (o := { dst := some 27, op := Op.makeSlice 28 (Operand.tmp 26) (Operand.tmp 26), type := 28, pos := "gens.go:21", after := #[{ on := 8, ground := Ground.data }, { on := 8, ground := Ground.data }], guard := none }) rfl (fun K hK => ?_) ?_
  · have hmk := HM
    unfold HM3 at hmk
    go_wp2_with fail
    have hb := bl_alloc w (.cells (madeCells #[.slice none 0 0] n) 27)
    refine hK.out _ _ (bl_trans hS hb) (fun _ => ?_)
    have hm2 : Mv w0.heap.size (w.alloc (.cells (madeCells #[.slice none 0 0] n) 27)) (.slice (some ⟨w.heap.size, 0, none⟩) n n) n := ⟨_, rfl, hS.size, Gs.made w n _⟩
    exact so_3111 Q n X x1 x3 x4 x5 x6 x7 x9 x10 x11 x12 x13 x14 x15 x16 x17 w0 PP HQ HC HM u0 u1 u2 m1 _ al _ (bl_trans hS hb) (hu0.keep hb) (hu1.keep hb) (hu2.keep hb) (hm1.keep hb) hm2 (hal.keep hb) (Nat.ne_of_lt hm1.lt) d1a (Nat.ne_of_gt hal.lt)
  exact AllReadyH.nil
set_option maxRecDepth 100000 in
set_option maxHeartbeats 4000000 in
theorem so_3110 (PP : ∀ v c a w, Q (.panic c) (a.put (some 28) v) w → Q (.panic c) a w) (HQ : HQ3 Q n X x1 x3 x4 x5 x6 x7 x9 x10 x11 x12 x13 x14 x15 x16 x17 w0) (_HC : HC3 X w0) (_HM : HM3 n) (u0 u1 u2 m1 m2 : Value) (w : World) (hS : Below w0.heap.size w0 w) (hu0 : Uv w0.heap.size w u0 0) (hu1 : Uv w0.heap.size w u1 1) (hu2 : Uv w0.heap.size w u2 2) (hm1 : Mv w0.heap.size w m1 n) (hm2 : Mv w0.heap.size w m2 n) (d12 : bkOf m1 ≠ bkOf m2) : wpAnyH Tryz.prog .any so3 Q (fun w' => Below w0.heap.size w0 w') 3 #[true, true, true, true, true, true, true, true, true, true, false, false, false] ⟨#[.int .i64 (n : Int), x1, fv X, x3, x4, x5, x6, x7, undef, x9, x10, x11, x12, x13, x14, x15, x16, x17, fv X, u0, fv X, u1, fv X, u2, .int .i64 (n : Int), m1, .int .i64 (n : Int), m2, undef, undef, undef, undef, undef, undef, undef, undef, undef, undef, undef, undef, undef, undef, undef, undef, undef, undef, undef, undef, undef], []⟩ w := by
  obtain ⟨b0, rfl, q0, hu0⟩ := hu0
  obtain ⟨b1, rfl, q1, hu1⟩ := hu1
  obtain ⟨b2, rfl, q2, hu2⟩ := hu2
  obtain ⟨g1, rfl, p1, hm1⟩ := hm1
  obtain ⟨g2, rfl, p2, hm2⟩ := hm2
  refine wpAnyH_take (i := 10) (oi := { dst := some 28, op := Op.build 30 #[(0, Operand.tmp 19), (1, Operand.tmp 21), (2, Operand.tmp 23), (3, Operand.tmp 25), (4, Operand.tmp 27)], type := 30, pos := "gens.go:21", after := #[{ on := 1, ground := Ground.data }, { on := 3, ground := Ground.data }, { on := 5, ground := Ground.data }, { on := 7, ground := Ground.data }, { on := 9, ground := Ground.data }], guard := none }) (v := .agg #[.slice (some ⟨b0, 0, none⟩) 1 1, .slice (some ⟨b1, 0, none⟩) 2 2, .slice (some ⟨b2, 0, none⟩) 3 3, .slice (some ⟨g1, 0, none⟩) n n, .slice (some ⟨g2, 0, none⟩) n n]) rfl (by kernel_rfl) (by kernel_rfl) (by kernel_rfl) (PP _) (Or.inl ⟨by rfl, fun w0 hSw => by go_simp⟩) hS ?_
  refine wpAnyH_ready (rs := [11]) (by kernel_rfl) (by simp) ?_
  refine AllReadyH.cons (o := { dst := some 8, op := Op.alloc 30, type := 0, pos := "gens.go:21", after := #[], guard := none }) rfl (fun K hK => ?_) AllReadyH.nil
  go_wp2_with fail
  have hb := bl_alloc w (.cells #[.slice none 0 0, .slice none 0 0, .slice none 0 0, .slice none 0 0, .slice none 0 0] 30)
  refine hK.out _ _ (bl_trans hS hb) (fun _ => ?_)
  exact so_last Q n X x1 x3 x4 x5 x6 x7 x9 x10 x11 x12 x13 x14 x15 x16 x17 w0 HQ b0 b1 b2 g1 g2 w.heap.size _ (bl_trans hS hb) q0 q1 q2 p1 p2 hS.size (hu0.keep hb) (hu1.keep hb) (hu2.keep hb) (hm1.keep hb) (hm2.keep hb) (Gs.five w _) d12 (Nat.ne_of_lt hm1.lt) (Nat.ne_of_lt hm2.lt)
set_option maxRecDepth 100000 in
set_option maxHeartbeats 4000000 in
theorem so_1111 (PP : ∀ v c a w, Q (.panic c) (a.put (some 28) v) w → Q (.panic c) a w) (HQ : HQ3 Q n X x1 x3 x4 x5 x6 x7 x9 x10 x11 x12 x13 x14 x15 x16 x17 w0) (HC : HC3 X w0) (HM : HM3 n) (u0 m1 m2 al : Value) (w : World) (hS : Below w0.heap.size w0 w) (hu0 : Uv w0.heap.size w u0 0) (hm1 : Mv w0.heap.size w m1 n) (hm2 : Mv w0.heap.size w m2 n) (hal : Av w0.heap.size w al) (d12 : bkOf m1 ≠ bkOf m2) (d1a : bkOf m1 ≠ bkOf al) (d2a : bkOf m2 ≠ bkOf al) : wpAnyH Tryz.prog .any so3 Q (fun w' => Below w0.heap.size w0 w') 4 #[true, true, true, false, true, false, true, true, true, true, false, true, false] ⟨#[.int .i64 (n : Int), x1, fv X, x3, x4, x5, x6, x7, al, x9, x10, x11, x12, x13, x14, x15, x16, x17, fv X, u0, fv X, undef, fv X, undef, .int .i64 (n : Int), m1, .int .i64 (n : Int), m2, undef, undef, undef, undef, undef, undef, undef, undef, undef, undef, undef, undef, undef, undef, undef, undef, undef, undef, undef, undef, undef], []⟩ w := by
  refine wpAnyH_ready (rs := [3]) (by kernel_rfl) (by simp) ?_
  refine AllReadyH.cons (o := { dst := some 21, op := Op.call { callee := Callee.value (Operand.tmp 20), args := #[Operand.const (Value.int IntKind.i64 2), Operand.const (Value.int IntKind.i64 0)], argTypes := #[3, 3] }, type := 27, pos := "gens.go:23", after := #[{ on := 2, ground := Ground.data }, { on := 1, ground := Ground.chain }], guard := none }) rfl (fun K hK => ?_) ?_
  · have C := hidden (HC 2 (by omega) w hS)
    go_simp
    refine (C.out).mono ?_
    rintro e wn ⟨u1, rfl, hu1, hb⟩
    go_wp2_with fail
    refine hK.out _ _ (bl_trans hS hb) (fun _ => ?_)
    exact so_2111 Q n X x1 x3 x4 x5 x6 x7 x9 x10 x11 x12 x13 x14 x15 x16 x17 w0 PP HQ HC HM u0 u1 m1 m2 al _ (bl_trans hS hb) (hu0.keep hb) hu1 (hm1.keep hb) (hm2.keep hb) (hal.keep hb) d12 d1a d2a
  exact AllReadyH.nil
set_option maxRecDepth 100000 in
set_option maxHeartbeats 4000000 in
theorem so_2011 (PP : ∀ v c a w, Q (.panic c) (a.put (some 28) v) w → Q (.panic c) a w) (HQ : HQ3 Q n X x1 x3 x4 x5 x6 x7 x9 x10 x11 x12 x13 x14 x15 x16 x17 w0) (HC : HC3 X w0) (HM : HM3 n) (u0 u1 m2 al : Value) (w : World) (hS : Below w0.heap.size w0 w) (hu0 : Uv w0.heap.size w u0 0) (hu1 : Uv w0.heap.size w u1 1) (hm2 : Mv w0.heap.size w m2 n) (hal : Av w0.heap.size w al) (d2a : bkOf m2 ≠ bkOf al) : wpAnyH Tryz.prog .any so3 Q (fun w' => Below w0.heap.size w0 w') 4 #[true, true, true, true, true, false, true, false, true, true, false, true, false] ⟨#[.int .i64 (n : Int), x1, fv X, x3, x4, x5, x6, x7, al, x9, x10, x11, x12, x13, x14, x15, x16, x17, fv X, u0, fv X, u1, fv X, undef, .int .i64 (n : Int), undef, .int .i64 (n : Int), m2, undef, undef, undef, undef, undef, undef, undef, undef, undef, undef, undef, undef, undef, undef, undef, undef, undef, undef, undef, undef, undef], []⟩ w := by
  refine wpAnyH_ready (rs := [5, 7]) (by kernel_rfl) (by simp) ?_
  refine AllReadyH.cons (o := { dst := some 23, op := Op.call { callee := Callee.value (Operand.tmp 22), args := #[Operand.const (Value.int IntKind.i64 3), Operand.const (Value.int IntKind.i64 0)], argTypes := #[3, 3] }, type := 27, pos := "gens.go:24", after := #[{ on := 4, ground := Ground.data }, { on := 3, ground := Ground.chain }], guard := none }) rfl (fun K hK => ?_) ?_
  · have C := hidden (HC 3 (by omega) w hS)
    go_simp
    refine (C.out).mono ?_
    rintro e wn ⟨u2, rfl, hu2, hb⟩
    go_wp2_with fail
    refine hK.out _ _ (bl_trans hS hb) (fun _ => ?_)
    exact so_3011 Q n X x1 x3 x4 x5 x6 x7 x9 x10 x11 x12 x13 x14 x15 x16 x17 w0 PP HQ HC HM u0 u1 u2 m2 al _ (bl_trans hS hb) (hu0.keep hb) (hu1.keep hb) hu2 (hm2.keep hb) (hal.keep hb) d2a
  refine AllReadyH.cons (o := { dst := some 25, op := Op.makeSlice 28 (Operand.tmp 24) (Operand.tmp 24), type := 28, pos := "gens.go:21", after := #[{ on := 6, ground := Ground.data }, { on := 6, ground := Ground.data }], guard := none }) rfl (fun K hK => ?_) ?_
  · have hmk := HM
    unfold HM3 at hmk
    go_wp2_with fail
    have hb := bl_alloc w (.cells (madeCells #[.slice none 0 0] n) 27)
    refine hK.out _ _ (bl_trans hS hb) (fun _ => ?_)
    have hm1 : Mv w0.heap.size (w.alloc (.cells (madeCells #[.slice none 0 0] n) 27)) (.slice (some ⟨w.heap.size, 0, none⟩) n n) n := ⟨_, rfl, hS.size, Gs.made w n _⟩
    exact so_2111 Q n X x1 x3 x4 x5 x6 x7 x9 x10 x11 x12 x13 x14 x15 x16 x17 w0 PP HQ HC HM u0 u1 _ m2 al _ (bl_trans hS hb) (hu0.keep hb) (hu1.keep hb) hm1 (hm2.keep hb) (hal.keep hb) (Nat.ne_of_gt hm2.lt) (Nat.ne_of_gt hal.lt) d2a
  exact AllReadyH.nil
set_option maxRecDepth 100000 in
set_option maxHeartbeats 4000000 in
theorem so_2101 (PP : ∀ v c a w, Q (.panic c) (a.put (some 28) v) w → Q (.panic c) a w) (HQ : HQ3 Q n X x1 x3 x4 x5 x6 x7 x9 x10 x11 x12 x13 x14 x15 x16 x17 w0) (HC : HC3 X w0) (HM : HM3 n) (u0 u1 m1 al : Value) (w : World) (hS : Below w0.heap.size w0 w) (hu0 : Uv w0.heap.size w u0 0) (hu1 : Uv w0.heap.size w u1 1) (hm1 : Mv w0.heap.size w m1 n) (hal : Av w0.heap.size w al) (d1a : bkOf m1 ≠ bkOf al) : wpAnyH Tryz.prog .any so3 Q (fun w' => Below w0.heap.size w0 w') 4 #[true, true, true, true, true, false, true, true, true, false, false, true, false] ⟨#[.int .i64 (n : Int), x1, fv X, x3, x4, x5, x6, x7, al, x9, x10, x11, x12, x13, x14, x15, x16, x17, fv X, u0, fv X, u1, fv X, undef, .int .i64 (n : Int), m1, .int .i64 (n : Int), undef, undef, undef, undef, undef, undef, undef, undef, undef, undef, undef, undef, undef, undef, undef, undef, undef, undef, undef, undef, undef, undef], []⟩ w := by
  refine wpAnyH_ready (rs := [5, 9]) (by kernel_rfl) (by simp) ?_
  refine AllReadyH.cons (o := { dst := some 23, op := Op.call { callee := Callee.value (Operand.tmp 22), args := #[Operand.const (Value.int IntKind.i64 3), Operand.const (Value.int IntKind.i64 0)], argTypes := #[3, 3] }, type := 27, pos := "gens.go:24", after := #[{ on := 4, ground := Ground.data }, { on := 3, ground := Ground.chain }], guard := none }) rfl (fun K hK => ?_) ?_
  · have C := hidden (HC 3 (by omega) w hS)
    go_simp
    refine (C.out).mono ?_
    rintro e wn ⟨u2, rfl, hu2, hb⟩
    go_wp2_with fail
    refine hK.out _ _ (bl_trans hS hb) (fun _ => ?_)
    exact so_3101 Q n X x1 x3 x4 x5 x6 x7 x9 x10 x11 x12 x13 x14 x15 x16 x17 w0 PP HQ HC HM u0 u1 u2 m1 al _ (bl_trans hS hb) (hu0.keep hb) (hu1.keep hb) hu2 (hm1.keep hb) (hal.keep hb) d1a
  refine AllReadyH.cons (o := { dst := some 27, op := Op.makeSlice 28 (Operand.tmp 26) (Operand.tmp 26), type := 28, pos := "gens.go:21", after := #[{ on := 8, ground := Ground.data }, { on := 8, ground := Ground.data }], guard := none }) rfl (fun K hK => ?_) ?_
  · have hmk := HM
    unfold HM3 at hmk
    go_wp2_with fail
    have hb := bl_alloc w (.cells (madeCells #[.slice none 0 0] n) 27)
    refine hK.out _ _ (bl_trans hS hb) (fun _ => ?_)
    have hm2 : Mv w0.heap.size (w.alloc (.cells (madeCells #[.slice none 0 0] n) 27)) (.slice (some ⟨w.heap.size, 0, none⟩) n n) n := ⟨_, rfl, hS.size, Gs.made w n _⟩
    exact so_2111 Q n X x1 x3 x4 x5 x6 x7 x9 x10 x11 x12 x13 x14 x15 x16 x17 w0 PP HQ HC HM u0 u1 m1 _ al _ (bl_trans hS hb) (hu0.keep hb) (hu1.keep hb) (hm1.keep hb) hm2 (hal.keep hb) (Nat.ne_of_lt hm1.lt) d1a (Nat.ne_of_gt hal.lt)
  exact AllReadyH.nil
set_option maxRecDepth 100000 in
set_option maxHeartbeats 4000000 in
theorem so_2110 (PP : ∀ v c a w, Q (.panic c) (a.put (some 28) v) w → Q (.panic c) a w) (HQ : HQ3 Q n X x1 x3 x4 x5 x6 x7 x9 x10 x11 x12 x13 x14 x15 x16 x17 w0) (HC : HC3 X w0) (HM : HM3 n) (u0 u1 m1 m2 : Value) (w : World) (hS : Below w0.heap.size w0 w) (hu0 : Uv w0.heap.size w u0 0) (hu1 : Uv w0.heap.size w u1 1) (hm1 : Mv w0.heap.size w m1 n) (hm2 : Mv w0.heap.size w m2 n) (d12 : bkOf m1 ≠ bkOf m2) : wpAnyH Tryz.prog .any so3 Q (fun w' => Below w0.heap.size w0 w') 4 #[true, true, true, true, true, false, true, true, true, true, false, false, false] ⟨#[.int .i64 (n : Int), x1, fv X, x3, x4, x5, x6, x7, undef, x9, x10, x11, x12, x13, x14, x15, x16, x17, fv X, u0, fv X, u1, fv X, undef, .int .i64 (n : Int), m1, .int .i64 (n : Int), m2, undef, undef, undef, undef, undef, undef, undef, undef, undef, undef, undef, undef, undef, undef, undef, undef, undef, undef, undef, undef, undef], []⟩ w := by
  refine wpAnyH_ready (rs := [5, 11]) (by kernel_rfl) (by simp) ?_
  refine AllReadyH.cons (o := { dst := some 23, op := Op.call { callee := Callee.value (Operand.tmp 22), args := #[Operand.const (Value.int IntKind.i64 3), Operand.const (Value.int IntKind.i64 0)], argTypes := #[3, 3] }, type := 27, pos := "gens.go:24", after := #[{ on := 4, ground := Ground.data }, { on := 3, ground := Ground.chain }], guard := none }) rfl (fun K hK => ?_) ?_
  · have C := hidden (HC 3 (by omega) w hS)
    go_simp
    refine (C.out).mono ?_
    rintro e wn ⟨u2, rfl, hu2, hb⟩
    go_wp2_with fail
    refine hK.out _ _ (bl_trans hS hb) (fun _ => ?_)
    exact so_3110 Q n X x1 x3 x4 x5 x6 x7 x9 x10 x11 x12 x13 x14 x15 x16 x17 w0 PP HQ HC HM u0 u1 u2 m1 m2 _ (bl_trans hS hb) (hu0.keep hb) (hu1.keep hb) hu2 (hm1.keep hb) (hm2.keep hb) d12
  refine AllReadyH.cons (o := { dst := some 8, op := Op.alloc 30, type := 0, pos := "gens.go:21", after := #[], guard := none }) rfl (fun K hK => ?_) ?_
  · have hmk := HM
    unfold HM3 at hmk
    go_wp2_with fail
    have hb := bl_alloc w (.cells #[.slice none 0 0, .slice none 0 0, .slice none 0 0, .slice none 0 0, .slice none 0 0] 30)
    refine hK.out _ _ (bl_trans hS hb) (fun _ => ?_)
    have hal : Av w0.heap.size (w.alloc (.cells #[.slice none 0 0, .slice none 0 0, .slice none 0 0, .slice none 0 0, .slice none 0 0] 30)) (.pointer (some ⟨w.heap.size, 0, none⟩)) := ⟨_, rfl, hS.size, Gs.five w _⟩
    exact so_2111 Q n X x1 x3 x4 x5 x6 x7 x9 x10 x11 x12 x13 x14 x15 x16 x17 w0 PP HQ HC HM u0 u1 m1 m2 _ _ (bl_trans hS hb) (hu0.keep hb) (hu1.keep hb) (hm1.keep hb) (hm2.keep hb) hal d12 (Nat.ne_of_lt hm1.lt) (Nat.ne_of_lt hm2.lt)
  exact AllReadyH.nil
set_option maxRecDepth 100000 in
set_option maxHeartbeats 4000000 in
theorem so_3001 (PP : ∀ v c a w, Q (.panic c) (a.put (some 28) v) w → Q (.panic c) a w) (HQ : HQ3 Q n X x1 x3 x4 x5 x6 x7 x9 x10 x11 x12 x13 x14 x15 x16 x17 w0) (HC : HC3 X w0) (HM : HM3 n) (u0 u1 u2 al : Value) (w : World) (hS : Below w0.heap.size w0 w) (hu0 : Uv w0.heap.size w u0 0) (hu1 : Uv w0.heap.size w u1 1) (hu2 : Uv w0.heap.size w u2 2) (hal : Av w0.heap.size w al) : wpAnyH Tryz.prog .any so3 Q (fun w' => Below w0.heap.size w0 w') 4 #[true, true, true, true, true, true, true, false, true, false, false, true, false] ⟨#[.int .i64 (n : Int), x1, fv X, x3, x4, x5, x6, x7, al, x9, x10, x11, x12, x13, x14, x15, x16, x17, fv X, u0, fv X, u1, fv X, u2, .int .i64 (n : Int), undef, .int .i64 (n : Int), undef, undef, undef, undef, undef, undef, undef, undef, undef, undef, undef, undef, undef, undef, undef, undef, undef, undef, undef, undef, undef, undef], []⟩ w := by
  refine wpAnyH_ready (rs := [7, 9]) (by kernel_rfl) (by simp) ?_
  refine AllReadyH.cons (o := { dst := some 25, op := Op.makeSlice 28 (Operand.tmp 24) (Operand.tmp 24), type := 28, pos := "gens.go:21", after := #[{ on := 6, ground := Ground.data }, { on := 6, ground := Ground.data }], guard := none }) rfl (fun K hK => ?_) ?_
  · have hmk := HM
    unfold HM3 at hmk
    go_wp2_with fail
    have hb := bl_alloc w (.cells (madeCells #[.slice none 0 0] n) 27)
    refine hK.out _ _ (bl_trans hS hb) (fun _ => ?_)
    have hm1 : Mv w0.heap.size (w.alloc (.cells (madeCells #[.slice none 0 0] n) 27)) (.slice (some ⟨w.heap.size, 0, none⟩) n n) n := ⟨_, rfl, hS.size, Gs.made w n _⟩
    exact so_3101 Q n X x1 x3 x4 x5 x6 x7 x9 x10 x11 x12 x13 x14 x15 x16 x17 w0 PP HQ HC HM u0 u1 u2 _ al _ (bl_trans hS hb) (hu0.keep hb) (hu1.keep hb) (hu2.keep hb) hm1 (hal.keep hb) (Nat.ne_of_gt hal.lt)
  refine AllReadyH.cons (o := { dst := some 27, op := Op.makeSlice 28 (Operand.tmp 26) (Operand.tmp 26), type := 28, pos := "gens.go:21", after := #[{ on := 8, ground := Ground.data }, { on := 8, ground := Ground.data }], guard := none }) rfl (fun K hK => ?_) ?_
  · have hmk := HM
    unfold HM3 at hmk
    go_wp2_with fail
    have hb := bl_alloc w (.cells (madeCells #[.slice none 0 0] n) 27)
    refine hK.out _ _ (bl_trans hS hb) (fun _ => ?_)
    have hm2 : Mv w0.heap.size (w.alloc (.cells (madeCells #[.slice none 0 0] n) 27)) (.slice (some ⟨w.heap.size, 0, none⟩) n n) n := ⟨_, rfl, hS.size, Gs.made w n _⟩
    exact so_3011 Q n X x1 x3 x4 x5 x6 x7 x9 x10 x11 x12 x13 x14 x15 x16 x17 w0 PP HQ HC HM u0 u1 u2 _ al _ (bl_trans hS hb) (hu0.keep hb) (hu1.keep hb) (hu2.keep hb) hm2 (hal.keep hb) (Nat.ne_of_gt hal.lt)
  exact AllReadyH.nil
set_option maxRecDepth 100000 in
set_option maxHeartbeats 4000000 in
theorem so_3010 (PP : ∀ v c a w, Q (.panic c) (a.put (some 28) v) w → Q (.panic c) a w) (HQ : HQ3 Q n X x1 x3 x4 x5 x6 x7 x9 x10 x11 x12 x13 x14 x15 x16 x17 w0) (HC : HC3 X w0) (HM : HM3 n) (u0 u1 u2 m2 : Value) (w : World) (hS : Below w0.heap.size w0 w) (hu0 : Uv w0.heap.size w u0 0) (hu1 : Uv w0.heap.size w u1 1) (hu2 : Uv w0.heap.size w u2 2) (hm2 : Mv w0.heap.size w m2 n) : wpAnyH Tryz.prog .any so3 Q (fun w' => Below w0.heap.size w0 w') 4 #[true, true, true, true, true, true, true, false, true, true, false, false, false] ⟨#[.int .i64 (n : Int), x1, fv X, x3, x4, x5, x6, x7, undef, x9, x10, x11, x12, x13, x14, x15, x16, x17, fv X, u0, fv X, u1, fv X, u2, .int .i64 (n : Int), undef, .int .i64 (n : Int), m2, undef, undef, undef, undef, undef, undef, undef, undef, undef, undef, undef, undef, undef, undef, undef, undef, undef, undef, undef, undef, undef], []⟩ w := by
  refine wpAnyH_ready (rs := [7, 11]) (by kernel_rfl) (by simp) ?_
  refine AllReadyH.cons (o := { dst := some 25, op := Op.makeSlice 28 (Operand.tmp 24) (Operand.tmp 24), type := 28, pos := "gens.go:21", after := #[{ on := 6, ground := Ground.data }, { on := 6, ground := Ground.data }], guard := none }) rfl (fun K hK => ?_) ?_
  · have hmk := HM
    unfold HM3 at hmk
    go_wp2_with fail
    have hb := bl_alloc w (.cells (madeCells #[.slice none 0 0] n) 27)
    refine hK.out _ _ (bl_trans hS hb) (fun _ => ?_)
    have hm1 : Mv w0.heap.size (w.alloc (.cells (madeCells #[.slice none 0 0] n) 27)) (.slice (some ⟨w.heap.size, 0, none⟩) n n) n := ⟨_, rfl, hS.size, Gs.made w n _⟩
    exact so_3110 Q n X x1 x3 x4 x5 x6 x7 x9 x10 x11 x12 x13 x14 x15 x16 x17 w0 PP HQ HC HM u0 u1 u2 _ m2 _ (bl_trans hS hb) (hu0.keep hb) (hu1.keep hb) (hu2.keep hb) hm1 (hm2.keep hb) (Nat.ne_of_gt hm2.lt)
  refine AllReadyH.cons (o := { dst := some 8, op := Op.alloc 30, type := 0, pos := "gens.go:21", after := #[], guard := none }) rfl (fun K hK => ?_) ?_
  · have hmk := HM
    unfold HM3 at hmk
    go_wp2_with fail
    have hb := bl_alloc w (.cells #[.slice none 0 0, .slice none 0 0, .slice none 0 0, .slice none 0 0, .slice none 0 0] 30)
    refine hK.out _ _ (bl_trans hS hb) (fun _ => ?_)
    have hal : Av w0.heap.size (w.alloc (.cells #[.slice none 0 0, .slice none 0 0, .slice none 0 0, .slice none 0 0, .slice none 0 0] 30)) (.pointer (some ⟨w.heap.size, 0, none⟩)) := ⟨_, rfl, hS.size, Gs.five w _⟩
    exact so_3011 Q n X x1 x3 x4 x5 x6 x7 x9 x10 x11 x12 x13 x14 x15 x16 x17 w0 PP HQ HC HM u0 u1 u2 m2 _ _ (bl_trans hS hb) (hu0.keep hb) (hu1.keep hb) (hu2.keep hb) (hm2.keep hb) hal (Nat.ne_of_lt hm2.lt)
  exact AllReadyH.nil
set_option maxRecDepth 100000 in
set_option maxHeartbeats 4000000 in
theorem so_3100 (PP : ∀ v c a w, Q (.panic c) (a.put (some 28) v) w → Q (.panic c) a w) (HQ : HQ3 Q n X x1 x3 x4 x5 x6 x7 x9 x10 x11 x12 x13 x14 x15 x16 x17 w0) (HC : HC3 X w0) (HM : HM3 n) (u0 u1 u2 m1 : Value) (w : World) (hS : Below w0.heap.size w0 w) (hu0 : Uv w0.heap.size w u0 0) (hu1 : Uv w0.heap.size w u1 1) (hu2 : Uv w0.heap.size w u2 2) (hm1 : Mv w0.heap.size w m1 n) : wpAnyH Tryz.prog .any so3 Q (fun w' => Below w0.heap.size w0 w') 4 #[true, true, true, true, true, true, true, true, true, false, false, false, false] ⟨#[.int .i64 (n : Int), x1, fv X, x3, x4, x5, x6, x7, undef, x9, x10, x11, x12, x13, x14, x15, x16, x17, fv X, u0, fv X, u1, fv X, u2, .int .i64 (n : Int), m1, .int .i64 (n : Int), undef, undef, undef, undef, undef, undef, undef, undef, undef, undef, undef, undef, undef, undef, undef, undef, undef, undef, undef, undef, undef, undef], []⟩ w := by
  refine wpAnyH_ready (rs := [9, 11]) (by kernel_rfl) (by simp) ?_
  refine AllReadyH.cons (o := { dst := some 27, op := Op.makeSlice 28 (Operand.tmp 26) (Operand.tmp 26), type := 28, pos := "gens.go:21", after := #[{ on := 8, ground := Ground.data }, { on := 8, ground := Ground.data }], guard := none }) rfl (fun K hK => ?_) ?_
  · have hmk := HM
    unfold HM3 at hmk
    go_wp2_with fail
    have hb := bl_alloc w (.cells (madeCells #[.slice none 0 0] n) 27)
    refine hK.out _ _ (bl_trans hS hb) (fun _ => ?_)
    have hm2 : Mv w0.heap.size (w.alloc (.cells (madeCells #[.slice none 0 0] n) 27)) (.slice (some ⟨w.heap.size, 0, none⟩) n n) n := ⟨_, rfl, hS.size, Gs.made w n _⟩
    exact so_3110 Q n X x1 x3 x4 x5 x6 x7 x9 x10 x11 x12 x13 x14 x15 x16 x17 w0 PP HQ HC HM u0 u1 u2 m1 _ _ (bl_trans hS hb) (hu0.keep hb) (hu1.keep hb) (hu2.keep hb) (hm1.keep hb) hm2 (Nat.ne_of_lt hm1.lt)
  refine AllReadyH.cons (o := { dst := some 8, op := Op.alloc 30, type := 0, pos := "gens.go:21", after := #[], guard := none }) rfl (fun K hK => ?_) ?_
  · have hmk := HM
    unfold HM3 at hmk
    go_wp2_with fail
    have hb := bl_alloc w (.cells #[.slice none 0 0, .slice none 0 0, .slice none 0 0, .slice none 0 0, .slice none 0 0] 30)
    refine hK.out _ _ (bl_trans hS hb) (fun _ => ?_)
    have hal : Av w0.heap.size (w.alloc (.cells #[.slice none 0 0, .slice none 0 0, .slice none 0 0, .slice none 0 0, .slice none 0 0] 30)) (.pointer (some ⟨w.heap.size, 0, none⟩)) := ⟨_, rfl, hS.size, Gs.five w _⟩
    exact so_3101 Q n X x1 x3 x4 x5 x6 x7 x9 x10 x11 x12 x13 x14 x15 x16 x17 w0 PP HQ HC HM u0 u1 u2 m1 _ _ (bl_trans hS hb) (hu0.keep hb) (hu1.keep hb) (hu2.keep hb) (hm1.keep hb) hal (Nat.ne_of_lt hm1.lt)
  exact AllReadyH.nil
set_option maxRecDepth 100000 in
set_option maxHeartbeats 4000000 in
theorem so_0111 (PP : ∀ v c a w, Q (.panic c) (a.put (some 28) v) w → Q (.panic c) a w) (HQ : HQ3 Q n X x1 x3 x4 x5 x6 x7 x9 x10 x11 x12 x13 x14 x15 x16 x17 w0) (HC : HC3 X w0) (HM : HM3 n) (m1 m2 al : Value) (w : World) (hS : Below w0.heap.size w0 w) (hm1 : Mv w0.heap.size w m1 n) (hm2 : Mv w0.heap.size w m2 n) (hal : Av w0.heap.size w al) (d12 : bkOf m1 ≠ bkOf m2) (d1a : bkOf m1 ≠ bkOf al) (d2a : bkOf m2 ≠ bkOf al) : wpAnyH Tryz.prog .any so3 Q (fun w' => Below w0.heap.size w0 w') 5 #[true, false, true, false, true, false, true, true, true, true, false, true, false] ⟨#[.int .i64 (n : Int), x1, fv X, x3, x4, x5, x6, x7, al, x9, x10, x11, x12, x13, x14, x15, x16, x17, fv X, undef, fv X, undef, fv X, undef, .int .i64 (n : Int), m1, .int .i64 (n : Int), m2, undef, undef, undef, undef, undef, undef, undef, undef, undef, undef, undef, undef, undef, undef, undef, undef, undef, undef, undef, undef, undef], []⟩ w := by
  refine wpAnyH_ready (rs := [1]) (by kernel_rfl) (by simp) ?_
  refine AllReadyH.cons (o := { dst := some 19, op := Op.call { callee := Callee.value (Operand.tmp 18), args := #[Operand.const (Value.int IntKind.i64 1), Operand.const (Value.int IntKind.i64 0)], argTypes := #[3, 3] }, type := 27, pos := "gens.go:22", after := #[{ on := 0, ground := Ground.data }], guard := none }) rfl (fun K hK => ?_) ?_
  · have C := hidden (HC 1 (by omega) w hS)
    go_simp
    refine (C.out).mono ?_
    rintro e wn ⟨u0, rfl, hu0, hb⟩
    go_wp2_with fail
    refine hK.out _ _ (bl_trans hS hb) (fun _ => ?_)
    exact so_1111 Q n X x1 x3 x4 x5 x6 x7 x9 x10 x11 x12 x13 x14 x15 x16 x17 w0 PP HQ HC HM u0 m1 m2 al _ (bl_trans hS hb) hu0 (hm1.keep hb) (hm2.keep hb) (hal.keep hb) d12 d1a d2a
  exact AllReadyH.nil
set_option maxRecDepth 100000 in
set_option maxHeartbeats 4000000 in
theorem so_1011 (PP : ∀ v c a w, Q (.panic c) (a.put (some 28) v) w → Q (.panic c) a w) (HQ : HQ3 Q n X x1 x3 x4 x5 x6 x7 x9 x10 x11 x12 x13 x14 x15 x16 x17 w0) (HC : HC3 X w0) (HM : HM3 n) (u0 m2 al : Value) (w : World) (hS : Below w0.heap.size w0 w) (hu0 : Uv w0.heap.size w u0 0) (hm2 : Mv w0.heap.size w m2 n) (hal : Av w0.heap.size w al) (d2a : bkOf m2 ≠ bkOf al) : wpAnyH Tryz.prog .any so3 Q (fun w' => Below w0.heap.size w0 w') 5 #[true, true, true, false, true, false, true, false, true, true, false, true, false] ⟨#[.int .i64 (n : Int), x1, fv X, x3, x4, x5, x6, x7, al, x9, x10, x11, x12, x13, x14, x15, x16, x17, fv X, u0, fv X, undef, fv X, undef, .int .i64 (n : Int), undef, .int .i64 (n : Int), m2, undef, undef, undef, undef, undef, undef, undef, undef, undef, undef, undef, undef, undef, undef, undef, undef, undef, undef, undef, undef, undef], []⟩ w := by
  refine wpAnyH_ready (rs := [3, 7]) (by kernel_rfl) (by simp) ?_
  refine AllReadyH.cons (o := { dst := some 21, op := Op.call { callee := Callee.value (Operand.tmp 20), args := #[Operand.const (Value.int IntKind.i64 2), Operand.const (Value.int IntKind.i64 0)], argTypes := #[3, 3] }, type := 27, pos := "gens.go:23", after := #[{ on := 2, ground := Ground.data }, { on := 1, ground := Ground.chain }], guard := none }) rfl (fun K hK => ?_) ?_
  · have C := hidden (HC 2 (by omega) w hS)
    go_simp
    refine (C.out).mono ?_
    rintro e wn ⟨u1, rfl, hu1, hb⟩
    go_wp2_with fail
    refine hK.out _ _ (bl_trans hS hb) (fun _ => ?_)
    exact so_2011 Q n X x1 x3 x4 x5 x6 x7 x9 x10 x11 x12 x13 x14 x15 x16 x17 w0 PP HQ HC HM u0 u1 m2 al _ (bl_trans hS hb) (hu0.keep hb) hu1 (hm2.keep hb) (hal.keep hb) d2a
  refine AllReadyH.cons (o := { dst := some 25, op := Op.makeSlice 28 (Operand.tmp 24) (Operand.tmp 24), type := 28, pos := "gens.go:21", after := #[{ on := 6, ground := Ground.data }, { on := 6, ground := Ground.data }], guard := none }) rfl (fun K hK => ?_) ?_
  · have hmk := HM
    unfold HM3 at hmk
    go_wp2_with fail
    have hb := bl_alloc w (.cells (madeCells #[.slice none 0 0] n) 27)
    refine hK.out _ _ (bl_trans hS hb) (fun _ => ?_)
    have hm1 : Mv w0.heap.size (w.alloc (.cells (madeCells #[.slice none 0 0] n) 27)) (.slice (some ⟨w.heap.size, 0, none⟩) n n) n := ⟨_, rfl, hS.size, Gs.made w n _⟩
    exact so_1111 Q n X x1 x3 x4 x5 x6 x7 x9 x10 x11 x12 x13 x14 x15 x16 x17 w0 PP HQ HC HM u0 _ m2 al _ (bl_trans hS hb) (hu0.keep hb) hm1 (hm2.keep hb) (hal.keep hb) (Nat.ne_of_gt hm2.lt) (Nat.ne_of_gt hal.lt) d2a
  exact AllReadyH.nil
set_option maxRecDepth 100000 in
set_option maxHeartbeats 4000000 in
theorem so_1101 (PP : ∀ v c a w, Q (.panic c) (a.put (some 28) v) w → Q (.panic c) a w) (HQ : HQ3 Q n X x1 x3 x4 x5 x6 x7 x9 x10 x11 x12 x13 x14 x15 x16 x17 w0) (HC : HC3 X w0) (HM : HM3 n) (u0 m1 al : Value) (w : World) (hS : Below w0.heap.size w0 w) (hu0 : Uv w0.heap.size w u0 0) (hm1 : Mv w0.heap.size w m1 n) (hal : Av w0.heap.size w al) (d1a : bkOf m1 ≠ bkOf al) : wpAnyH Tryz.prog .any so3 Q (fun w' => Below w0.heap.size w0 w') 5 #[true, true, true, false, true, false, true, true, true, false, false, true, false] ⟨#[.int .i64 (n : Int), x1, fv X, x3, x4, x5, x6, x7, al, x9, x10, x11, x12, x13, x14, x15, x16, x17, fv X, u0, fv X, undef, fv X, undef, .int .i64 (n : Int), m1, .int .i64 (n : Int), undef, undef, undef, undef, undef, undef, undef, undef, undef, undef, undef, undef, undef, undef, undef, undef, undef, undef, undef, undef, undef, undef], []⟩ w := by
  refine wpAnyH_ready (rs := [3, 9]) (by kernel_rfl) (by simp) ?_
  refine AllReadyH.cons (o := { dst := some 21, op := Op.call { callee := Callee.value (Operand.tmp 20), args := #[Operand.const (Value.int IntKind.i64 2), Operand.const (Value.int IntKind.i64 0)], argTypes := #[3, 3] }, type := 27, pos := "gens.go:23", after := #[{ on := 2, ground := Ground.data }, { on := 1, ground := Ground.chain }], guard := none }) rfl (fun K hK => ?_) ?_
  · have C := hidden (HC 2 (by omega) w hS)
    go_simp
    refine (C.out).mono ?_
    rintro e wn ⟨u1, rfl, hu1, hb⟩
    go_wp2_with fail
    refine hK.out _ _ (bl_trans hS hb) (fun _ => ?_)
    exact so_2101 Q n X x1 x3 x4 x5 x6 x7 x9 x10 x11 x12 x13 x14 x15 x16 x17 w0 PP HQ HC HM u0 u1 m1 al _ (bl_trans hS hb) (hu0.keep hb) hu1 (hm1.keep hb) (hal.keep hb) d1a
  refine AllReadyH.cons (o := { dst := some 27, op := Op.makeSlice 28 (Operand.tmp 26) (Operand.tmp 26), type := 28, pos := "gens.go:21", after := #[{ on := 8, ground := Ground.data }, { on := 8, ground := Ground.data }], guard := none }) rfl (fun K hK => ?_) ?_
  · have hmk := HM
    unfold HM3 at hmk
    go_wp2_with fail
    have hb := bl_alloc w (.cells (madeCells #[.slice none 0 0] n) 27)
    refine hK.out _ _ (bl_trans hS hb) (fun _ => ?_)
    have hm2 : Mv w0.heap.size (w.alloc (.cells (madeCells #[.slice none 0 0] n) 27)) (.slice (some ⟨w.heap.size, 0, none⟩) n n) n := ⟨_, rfl, hS.size, Gs.made w n _⟩
    exact so_1111 Q n X x1 x3 x4 x5 x6 x7 x9 x10 x11 x12 x13 x14 x15 x16 x17 w0 PP HQ HC HM u0 m1 _ al _ (bl_trans hS hb) (hu0.keep hb) (hm1.keep hb) hm2 (hal.keep hb) (Nat.ne_of_lt hm1.lt) d1a (Nat.ne_of_gt hal.lt)
  exact AllReadyH.nil
set_option maxRecDepth 100000 in
set_option maxHeartbeats 4000000 in
theorem so_1110 (PP : ∀ v c a w, Q (.panic c) (a.put (some 28) v) w → Q (.panic c) a w) (HQ : HQ3 Q n X x1 x3 x4 x5 x6 x7 x9 x10 x11 x12 x13 x14 x15 x16 x17 w0) (HC : HC3 X w0) (HM : HM3 n) (u0 m1 m2 : Value) (w : World) (hS : Below w0.heap.size w0 w) (hu0 : Uv w0.heap.size w u0 0) (hm1 : Mv w0.heap.size w m1 n) (hm2 : Mv w0.heap.size w m2 n) (d12 : bkOf m1 ≠ bkOf m2) : wpAnyH Tryz.prog .any so3 Q (fun w' => Below w0.heap.size w0 w') 5 #[true, true, true, false, true, false, true, true, true, true, false, false, false] ⟨#[.int .i64 (n : Int), x1, fv X, x3, x4, x5, x6, x7, undef, x9, x10, x11, x12, x13, x14, x15, x16, x17, fv X, u0, fv X, undef, fv X, undef, .int .i64 (n : Int), m1, .int .i64 (n : Int), m2, undef, undef, undef, undef, undef, undef, undef, undef, undef, undef, undef, undef, undef, undef, undef, undef, undef, undef, undef, undef, undef], []⟩ w := by
  refine wpAnyH_ready (rs := [3, 11]) (by kernel_rfl) (by simp) ?_
  refine AllReadyH.cons (o := { dst := some 21, op := Op.call { callee := Callee.value (Operand.tmp 20), args := #[Operand.const (Value.int IntKind.i64 2), Operand.const (Value.int IntKind.i64 0)], argTypes := #[3, 3] }, type := 27, pos := "gens.go:23", after := #[{ on := 2, ground := Ground.data }, { on := 1, ground := Ground.chain }], guard := none }) rfl (fun K hK => ?_) ?_
  · have C := hidden (HC 2 (by omega) w hS)
    go_simp
    refine (C.out).mono ?_
    rintro e wn ⟨u1, rfl, hu1, hb⟩
    go_wp2_with fail
    refine hK.out _ _ (bl_trans hS hb) (fun _ => ?_)
    exact so_2110 Q n X x1 x3 x4 x5 x6 x7 x9 x10 x11 x12 x13 x14 x15 x16 x17 w0 PP HQ HC HM u0 u1 m1 m2 _ (bl_trans hS hb) (hu0.keep hb) hu1 (hm1.keep hb) (hm2.keep hb) d12
  refine AllReadyH.cons (o := { dst := some 8, op := Op.alloc 30, type := 0, pos := "gens.go:21", after := #[], guard := none }) rfl (fun K hK => ?_) ?_
  · have hmk := HM
    unfold HM3 at hmk
    go_wp2_with fail
    have hb := bl_alloc w (.cells #[.slice none 0 0, .slice none 0 0, .slice none 0 0, .slice none 0 0, .slice none 0 0] 30)
    refine hK.out _ _ (bl_trans hS hb) (fun _ => ?_)
    have hal : Av w0.heap.size (w.alloc (.cells #[.slice none 0 0, .slice none 0 0, .slice none 0 0, .slice none 0 0, .slice none 0 0] 30)) (.pointer (some ⟨w.heap.size, 0, none⟩)) := ⟨_, rfl, hS.size, Gs.five w _⟩
    exact so_1111 Q n X x1 x3 x4 x5 x6 x7 x9 x10 x11 x12 x13 x14 x15 x16 x17 w0 PP HQ HC HM u0 m1 m2 _ _ (bl_trans hS hb) (hu0.keep hb) (hm1.keep hb) (hm2.keep hb) hal d12 (Nat.ne_of_lt hm1.lt) (Nat.ne_of_lt hm2.lt)
  exact AllReadyH.nil
set_option maxRecDepth 100000 in
set_option maxHeartbeats 4000000 in
theorem so_2001 (PP : ∀ v c a w, Q (.panic c) (a.put (some 28) v) w → Q (.panic c) a w) (HQ : HQ3 Q n X x1 x3 x4 x5 x6 x7 x9 x10 x11 x12 x13 x14 x15 x16 x17 w0) (HC : HC3 X w0) (HM : HM3 n) (u0 u1 al : Value) (w : World) (hS : Below w0.heap.size w0 w) (hu0 : Uv w0.heap.size w u0 0) (hu1 : Uv w0.heap.size w u1 1) (hal : Av w0.heap.size w al) : wpAnyH Tryz.prog .any so3 Q (fun w' => Below w0.heap.size w0 w') 5 #[true, true, true, true, true, false, true, false, true, false, false, true, false] ⟨#[.int .i64 (n : Int), x1, fv X, x3, x4, x5, x6, x7, al, x9, x10, x11, x12, x13, x14, x15, x16, x17, fv X, u0, fv X, u1, fv X, undef, .int .i64 (n : Int), undef, .int .i64 (n : Int), undef, undef, undef, undef, undef, undef, undef, undef, undef, undef, undef, undef, undef, undef, undef, undef, undef, undef, undef, undef, undef, undef], []⟩ w := by
  refine wpAnyH_ready (rs := [5, 7, 9]) (by kernel_rfl) (by simp) ?_
  refine AllReadyH.cons (o := { dst := some 23, op := Op.call { callee := Callee.value (Operand.tmp 22), args := #[Operand.const (Value.int IntKind.i64 3), Operand.const (Value.int IntKind.i64 0)], argTypes := #[3, 3] }, type := 27, pos := "gens.go:24", after := #[{ on := 4, ground := Ground.data }, { on := 3, ground := Ground.chain }], guard := none }) rfl (fun K hK => ?_) ?_
  · have C := hidden (HC 3 (by omega) w hS)
    go_simp
    refine (C.out).mono ?_
    rintro e wn ⟨u2, rfl, hu2, hb⟩
    go_wp2_with fail
    refine hK.out _ _ (bl_trans hS hb) (fun _ => ?_)
    exact so_3001 Q n X x1 x3 x4 x5 x6 x7 x9 x10 x11 x12 x13 x14 x15 x16 x17 w0 PP HQ HC HM u0 u1 u2 al _ (bl_trans hS hb) (hu0.keep hb) (hu1.keep hb) hu2 (hal.keep hb)
  refine AllReadyH.cons (o := { dst := some 25, op := Op.makeSlice 28 (Operand.tmp 24) (Operand.tmp 24), type := 28, pos := "gens.go:21", after := #[{ on := 6, ground := Ground.data }, { on := 6, ground := Ground.data }], guard := none }) rfl (fun K hK => ?_) ?_
  · have hmk := HM
    unfold HM3 at hmk
    go_wp2_with fail
    have hb := bl_alloc w (.cells (madeCells #[.slice none 0 0] n) 27)
    refine hK.out _ _ (bl_trans hS hb) (fun _ => ?_)
    have hm1 : Mv w0.heap.size (w.alloc (.cells (madeCells #[.slice none 0 0] n) 27)) (.slice (some ⟨w.heap.size, 0, none⟩) n n) n := ⟨_, rfl, hS.size, Gs.made w n _⟩
    exact so_2101 Q n X x1 x3 x4 x5 x6 x7 x9 x10 x11 x12 x13 x14 x15 x16 x17 w0 PP HQ HC HM u0 u1 _ al _ (bl_trans hS hb) (hu0.keep hb) (hu1.keep hb) hm1 (hal.keep hb) (Nat.ne_of_gt hal.lt)
  refine AllReadyH.cons (o := { dst := some 27, op := Op.makeSlice 28 (Operand.tmp 26) (Operand.tmp 26), type := 28, pos := "gens.go:21", after := #[{ on := 8, ground := Ground.data }, { on := 8, ground := Ground.data }], guard := none }) rfl (fun K hK => ?_) ?_
  · have hmk := HM
    unfold HM3 at hmk
    go_wp2_with fail
    have hb := bl_alloc w (.cells (madeCells #[.slice none 0 0] n) 27)
    refine hK.out _ _ (bl_trans hS hb) (fun _ => ?_)
    have hm2 : Mv w0.heap.size (w.alloc (.cells (madeCells #[.slice none 0 0] n) 27)) (.slice (some ⟨w.heap.size, 0, none⟩) n n) n := ⟨_, rfl, hS.size, Gs.made w n _⟩
    exact so_2011 Q n X x1 x3 x4 x5 x6 x7 x9 x10 x11 x12 x13 x14 x15 x16 x17 w0 PP HQ HC HM u0 u1 _ al _ (bl_trans hS hb) (hu0.keep hb) (hu1.keep hb) hm2 (hal.keep hb) (Nat.ne_of_gt hal.lt)
  exact AllReadyH.nil
set_option maxRecDepth 100000 in
set_option maxHeartbeats 4000000 in
theorem so_2010 (PP : ∀ v c a w, Q (.panic c) (a.put (some 28) v) w → Q (.panic c) a w) (HQ : HQ3 Q n X x1 x3 x4 x5 x6 x7 x9 x10 x11 x12 x13 x14 x15 x16 x17 w0) (HC : HC3 X w0) (HM : HM3 n) (u0 u1 m2 : Value) (w : World) (hS : Below w0.heap.size w0 w) (hu0 : Uv w0.heap.size w u0 0) (hu1 : Uv w0.heap.size w u1 1) (hm2 : Mv w0.heap.size w m2 n) : wpAnyH Tryz.prog .any so3 Q (fun w' => Below w0.heap.size w0 w') 5 #[true, true, true, true, true, false, true, false, true, true, false, false, false] ⟨#[.int .i64 (n : Int), x1, fv X, x3, x4, x5, x6, x7, undef, x9, x10, x11, x12, x13, x14, x15, x16, x17, fv X, u0, fv X, u1, fv X, undef, .int .i64 (n : Int), undef, .int .i64 (n : Int), m2, undef, undef, undef, undef, undef, undef, undef, undef, undef, undef, undef, undef, undef, undef, undef, undef, undef, undef, undef, undef, undef], []⟩ w := by
  refine wpAnyH_ready (rs := [5, 7, 11]) (by kernel_rfl) (by simp) ?_
  refine AllReadyH.cons (o := { dst := some 23, op := Op.call { callee := Callee.value (Operand.tmp 22), args := #[Operand.const (Value.int IntKind.i64 3), Operand.const (Value.int IntKind.i64 0)], argTypes := #[3, 3] }, type := 27, pos := "gens.go:24", after := #[{ on := 4, ground := Ground.data }, { on := 3, ground := Ground.chain }], guard := none }) rfl (fun K hK => ?_) ?_
  · have C := hidden (HC 3 (by omega) w hS)
    go_simp
    refine (C.out).mono ?_
    rintro e wn ⟨u2, rfl, hu2, hb⟩
    go_wp2_with fail
    refine hK.out _ _ (bl_trans hS hb) (fun _ => ?_)
    exact so_3010 Q n X x1 x3 x4 x5 x6 x7 x9 x10 x11 x12 x13 x14 x15 x16 x17 w0 PP HQ HC HM u0 u1 u2 m2 _ (bl_trans hS hb) (hu0.keep hb) (hu1.keep hb) hu2 (hm2.keep hb)
  refine AllReadyH.cons (o := { dst := some 25, op := Op.makeSlice 28 (Operand.tmp 24) (Operand.tmp 24), type := 28, pos := "gens.go:21", after := #[{ on := 6, ground := Ground.data }, { on := 6, ground := Ground.data }], guard := none }) rfl (fun K hK => ?_) ?_
  · have hmk := HM
    unfold HM3 at hmk
    go_wp2_with fail
    have hb := bl_alloc w (.cells (madeCells #[.slice none 0 0] n) 27)
    refine hK.out _ _ (bl_trans hS hb) (fun _ => ?_)
    have hm1 : Mv w0.heap.size (w.alloc (.cells (madeCells #[.slice none 0 0] n) 27)) (.slice (some ⟨w.heap.size, 0, none⟩) n n) n := ⟨_, rfl, hS.size, Gs.made w n _⟩
    exact so_2110 Q n X x1 x3 x4 x5 x6 x7 x9 x10 x11 x12 x13 x14 x15 x16 x17 w0 PP HQ HC HM u0 u1 _ m2 _ (bl_trans hS hb) (hu0.keep hb) (hu1.keep hb) hm1 (hm2.keep hb) (Nat.ne_of_gt hm2.lt)
  refine AllReadyH.cons (o := { dst := some 8, op := Op.alloc 30, type := 0, pos := "gens.go:21", after := #[], guard := none }) rfl (fun K hK => ?_) ?_
  · have hmk := HM
    unfold HM3 at hmk
    go_wp2_with fail
    have hb := bl_alloc w (.cells #[.slice none 0 0, .slice none 0 0, .slice none 0 0, .slice none 0 0, .slice none 0 0] 30)
    refine hK.out _ _ (bl_trans hS hb) (fun _ => ?_)
    have hal : Av w0.heap.size (w.alloc (.cells #[.slice none 0 0, .slice none 0 0, .slice none 0 0, .slice none 0 0, .slice none 0 0] 30)) (.pointer (some ⟨w.heap.size, 0, none⟩)) := ⟨_, rfl, hS.size, Gs.five w _⟩
    exact so_2011 Q n X x1 x3 x4 x5 x6 x7 x9 x10 x11 x12 x13 x14 x15 x16 x17 w0 PP HQ HC HM u0 u1 m2 _ _ (bl_trans hS hb) (hu0.keep hb) (hu1.keep hb) (hm2.keep hb) hal (Nat.ne_of_lt hm2.lt)
  exact AllReadyH.nil
set_option maxRecDepth 100000 in
set_option maxHeartbeats 4000000 in
theorem so_2100 (PP : ∀ v c a w, Q (.panic c) (a.put (some 28) v) w → Q (.panic c) a w) (HQ : HQ3 Q n X x1 x3 x4 x5 x6 x7 x9 x10 x11 x12 x13 x14 x15 x16 x17 w0) (HC : HC3 X w0) (HM : HM3 n) (u0 u1 m1 : Value) (w : World) (hS : Below w0.heap.size w0 w) (hu0 : Uv w0.heap.size w u0 0) (hu1 : Uv w0.heap.size w u1 1) (hm1 : Mv w0.heap.size w m1 n) : wpAnyH Tryz.prog .any so3 Q (fun w' => Below w0.heap.size w0 w') 5 #[true, true, true, true, true, false, true, true, true, false, false, false, false] ⟨#[.int .i64 (n : Int), x1, fv X, x3, x4, x5, x6, x7, undef, x9, x10, x11, x12, x13, x14, x15, x16, x17, fv X, u0, fv X, u1, fv X, undef, .int .i64 (n : Int), m1, .int .i64 (n : Int), undef, undef, undef, undef, undef, undef, undef, undef, undef, undef, undef, undef, undef, undef, undef, undef, undef, undef, undef, undef, undef, undef], []⟩ w := by
  refine wpAnyH_ready (rs := [5, 9, 11]) (by kernel_rfl) (by simp) ?_
  refine AllReadyH.cons (o := { dst := some 23, op := Op.call { callee := Callee.value (Operand.tmp 22), args := #[Operand.const (Value.int IntKind.i64 3), Operand.const (Value.int IntKind.i64 0)], argTypes := #[3, 3] }, type := 27, pos := "gens.go:24", after := #[{ on := 4, ground := Ground.data }, { on := 3, ground := Ground.chain }], guard := none }) rfl (fun K hK => ?_) ?_
  · have C := hidden (HC 3 (by omega) w hS)
    go_simp
    refine (C.out).mono ?_
    rintro e wn ⟨u2, rfl, hu2, hb⟩
    go_wp2_with fail
    refine hK.out _ _ (bl_trans hS hb) (fun _ => ?_)
    exact so_3100 Q n X x1 x3 x4 x5 x6 x7 x9 x10 x11 x12 x13 x14 x15 x16 x17 w0 PP HQ HC HM u0 u1 u2 m1 _ (bl_trans hS hb) (hu0.keep hb) (hu1.keep hb) hu2 (hm1.keep hb)
  refine AllReadyH.cons (o := { dst := some 27, op := Op.makeSlice 28 (Operand.tmp 26) (Operand.tmp 26), type := 28, pos := "gens.go:21", after := #[{ on := 8, ground := Ground.data }, { on := 8, ground := Ground.data }], guard := none }) rfl (fun K hK => ?_) ?_
  · have hmk := HM
    unfold HM3 at hmk
    go_wp2_with fail
    have hb := bl_alloc w (.cells (madeCells #[.slice none 0 0] n) 27)
    refine hK.out _ _ (bl_trans hS hb) (fun _ => ?_)
    have hm2 : Mv w0.heap.size (w.alloc (.cells (madeCells #[.slice none 0 0] n) 27)) (.slice (some ⟨w.heap.size, 0, none⟩) n n) n := ⟨_, rfl, hS.size, Gs.made w n _⟩
    exact so_2110 Q n X x1 x3 x4 x5 x6 x7 x9 x10 x11 x12 x13 x14 x15 x16 x17 w0 PP HQ HC HM u0 u1 m1 _ _ (bl_trans hS hb) (hu0.keep hb) (hu1.keep hb) (hm1.keep hb) hm2 (Nat.ne_of_lt hm1.lt)
  refine AllReadyH.cons (o := { dst := some 8, op := Op.alloc 30, type := 0, pos := "gens.go:21", after := #[], guard := none }) rfl (fun K hK => ?_) ?_
  · have hmk := HM
    unfold HM3 at hmk
    go_wp2_with fail
    have hb := bl_alloc w (.cells #[.slice none 0 0, .slice none 0 0, .slice none 0 0, .slice none 0 0, .slice none 0 0] 30)
    refine hK.out _ _ (bl_trans hS hb) (fun _ => ?_)
    have hal : Av w0.heap.size (w.alloc (.cells #[.slice none 0 0, .slice none 0 0, .slice none 0 0, .slice none 0 0, .slice none 0 0] 30)) (.pointer (some ⟨w.heap.size, 0, none⟩)) := ⟨_, rfl, hS.size, Gs.five w _⟩
    exact so_2101 Q n X x1 x3 x4 x5 x6 x7 x9 x10 x11 x12 x13 x14 x15 x16 x17 w0 PP HQ HC HM u0 u1 m1 _ _ (bl_trans hS hb) (hu0.keep hb) (hu1.keep hb) (hm1.keep hb) hal (Nat.ne_of_lt hm1.lt)
  exact AllReadyH.nil
set_option maxRecDepth 100000 in
set_option maxHeartbeats 4000000 in
theorem so_3000 (PP : ∀ v c a w, Q (.panic c) (a.put (some 28) v) w → Q (.panic c) a w) (HQ : HQ3 Q n X x1 x3 x4 x5 x6 x7 x9 x10 x11 x12 x13 x14 x15 x16 x17 w0) (HC : HC3 X w0) (HM : HM3 n) (u0 u1 u2 : Value) (w : World) (hS : Below w0.heap.size w0 w) (hu0 : Uv w0.heap.size w u0 0) (hu1 : Uv w0.heap.size w u1 1) (hu2 : Uv w0.heap.size w u2 2) : wpAnyH Tryz.prog .any so3 Q (fun w' => Below w0.heap.size w0 w') 5 #[true, true, true, true, true, true, true, false, true, false, false, false, false] ⟨#[.int .i64 (n : Int), x1, fv X, x3, x4, x5, x6, x7, undef, x9, x10, x11, x12, x13, x14, x15, x16, x17, fv X, u0, fv X, u1, fv X, u2, .int .i64 (n : Int), undef, .int .i64 (n : Int), undef, undef, undef, undef, undef, undef, undef, undef, undef, undef, undef, undef, undef, undef, undef, undef, undef, undef, undef, undef, undef, undef], []⟩ w := by
  refine wpAnyH_ready (rs := [7, 9, 11]) (by kernel_rfl) (by simp) ?_
  refine AllReadyH.cons (o := { dst := some 25, op := Op.makeSlice 28 (Operand.tmp 24) (Operand.tmp 24), type := 28, pos := "gens.go:21", after := #[{ on := 6, ground := Ground.data }, { on := 6, ground := Ground.data }], guard := none }) rfl (fun K hK => ?_) ?_
  · have hmk := HM
    unfold HM3 at hmk
    go_wp2_with fail
    have hb := bl_alloc w (.cells (madeCells #[.slice none 0 0] n) 27)
    refine hK.out _ _ (bl_trans hS hb) (fun _ => ?_)
    have hm1 : Mv w0.heap.size (w.alloc (.cells (madeCells #[.slice none 0 0] n) 27)) (.slice (some ⟨w.heap.size, 0, none⟩) n n) n := ⟨_, rfl, hS.size, Gs.made w n _⟩
    exact so_3100 Q n X x1 x3 x4 x5 x6 x7 x9 x10 x11 x12 x13 x14 x15 x16 x17 w0 PP HQ HC HM u0 u1 u2 _ _ (bl_trans hS hb) (hu0.keep hb) (hu1.keep hb) (hu2.keep hb) hm1
  refine AllReadyH.cons (o := { dst := some 27, op := Op.makeSlice 28 (Operand.tmp 26) (Operand.tmp 26), type := 28, pos := "gens.go:21", after := #[{ on := 8, ground := Ground.data }, { on := 8, ground := Ground.data }], guard := none }) rfl (fun K hK => ?_) ?_
  · have hmk := HM
    unfold HM3 at hmk
    go_wp2_with fail
    have hb := bl_alloc w (.cells (madeCells #[.slice none 0 0] n) 27)
    refine hK.out _ _ (bl_trans hS hb) (fun _ => ?_)
    have hm2 : Mv w0.heap.size (w.alloc (.cells (madeCells #[.slice none 0 0] n) 27)) (.slice (some ⟨w.heap.size, 0, none⟩) n n) n := ⟨_, rfl, hS.size, Gs.made w n _⟩
    exact so_3010 Q n X x1 x3 x4 x5 x6 x7 x9 x10 x11 x12 x13 x14 x15 x16 x17 w0 PP HQ HC HM u0 u1 u2 _ _ (bl_trans hS hb) (hu0.keep hb) (hu1.keep hb) (hu2.keep hb) hm2
  refine AllReadyH.cons (o := { dst := some 8, op := Op.alloc 30, type := 0, pos := "gens.go:21", after := #[], guard := none }) rfl (fun K hK => ?_) ?_
  · have hmk := HM
    unfold HM3 at hmk
    go_wp2_with fail
    have hb := bl_alloc w (.cells #[.slice none 0 0, .slice none 0 0, .slice none 0 0, .slice none 0 0, .slice none 0 0] 30)
    refine hK.out _ _ (bl_trans hS hb) (fun _ => ?_)
    have hal : Av w0.heap.size (w.alloc (.cells #[.slice none 0 0, .slice none 0 0, .slice none 0 0, .slice none 0 0, .slice none 0 0] 30)) (.pointer (some ⟨w.heap.size, 0, none⟩)) := ⟨_, rfl, hS.size, Gs.five w _⟩
    exact so_3001 Q n X x1 x3 x4 x5 x6 x7 x9 x10 x11 x12 x13 x14 x15 x16 x17 w0 PP HQ HC HM u0 u1 u2 _ _ (bl_trans hS hb) (hu0.keep hb) (hu1.keep hb) (hu2.keep hb) hal
  exact AllReadyH.nil
set_option maxRecDepth 100000 in
set_option maxHeartbeats 4000000 in
theorem so_0011 (PP : ∀ v c a w, Q (.panic c) (a.put (some 28) v) w → Q (.panic c) a w) (HQ : HQ3 Q n X x1 x3 x4 x5 x6 x7 x9 x10 x11 x12 x13 x14 x15 x16 x17 w0) (HC : HC3 X w0) (HM : HM3 n) (m2 al : Value) (w : World) (hS : Below w0.heap.size w0 w) (hm2 : Mv w0.heap.size w m2 n) (hal : Av w0.heap.size w al) (d2a : bkOf m2 ≠ bkOf al) : wpAnyH Tryz.prog .any so3 Q (fun w' => Below w0.heap.size w0 w') 6 #[true, false, true, false, true, false, true, false, true, true, false, true, false] ⟨#[.int .i64 (n : Int), x1, fv X, x3, x4, x5, x6, x7, al, x9, x10, x11, x12, x13, x14, x15, x16, x17, fv X, undef, fv X, undef, fv X, undef, .int .i64 (n : Int), undef, .int .i64 (n : Int), m2, undef, undef, undef, undef, undef, undef, undef, undef, undef, undef, undef, undef, undef, undef, undef, undef, undef, undef, undef, undef, undef], []⟩ w := by
  refine wpAnyH_ready (rs := [1, 7]) (by kernel_rfl) (by simp) ?_
  refine AllReadyH.cons (o := { dst := some 19, op := Op.call { callee := Callee.value (Operand.tmp 18), args := #[Operand.const (Value.int IntKind.i64 1), Operand.const (Value.int IntKind.i64 0)], argTypes := #[3, 3] }, type := 27, pos := "gens.go:22", after := #[{ on := 0, ground := Ground.data }], guard := none }) rfl (fun K hK => ?_) ?_
  · have C := hidden (HC 1 (by omega) w hS)
    go_simp
    refine (C.out).mono ?_
    rintro e wn ⟨u0, rfl, hu0, hb⟩
    go_wp2_with fail
    refine hK.out _ _ (bl_trans hS hb) (fun _ => ?_)
    exact so_1011 Q n X x1 x3 x4 x5 x6 x7 x9 x10 x11 x12 x13 x14 x15 x16 x17 w0 PP HQ HC HM u0 m2 al _ (bl_trans hS hb) hu0 (hm2.keep hb) (hal.keep hb) d2a
  refine AllReadyH.cons (o := { dst := some 25, op := Op.makeSlice 28 (Operand.tmp 24) (Operand.tmp 24), type := 28, pos := "gens.go:21", after := #[{ on := 6, ground := Ground.data }, { on := 6, ground := Ground.data }], guard := none }) rfl (fun K hK => ?_) ?_
  · have hmk := HM
    unfold HM3 at hmk
    go_wp2_with fail
    have hb := bl_alloc w (.cells (madeCells #[.slice none 0 0] n) 27)
    refine hK.out _ _ (bl_trans hS hb) (fun _ => ?_)
    have hm1 : Mv w0.heap.size (w.alloc (.cells (madeCells #[.slice none 0 0] n) 27)) (.slice (some ⟨w.heap.size, 0, none⟩) n n) n := ⟨_, rfl, hS.size, Gs.made w n _⟩
    exact so_0111 Q n X x1 x3 x4 x5 x6 x7 x9 x10 x11 x12 x13 x14 x15 x16 x17 w0 PP HQ HC HM _ m2 al _ (bl_trans hS hb) hm1 (hm2.keep hb) (hal.keep hb) (Nat.ne_of_gt hm2.lt) (Nat.ne_of_gt hal.lt) d2a
  exact AllReadyH.nil
set_option maxRecDepth 100000 in
set_option maxHeartbeats 4000000 in
theorem so_0101 (PP : ∀ v c a w, Q (.panic c) (a.put (some 28) v) w → Q (.panic c) a w) (HQ : HQ3 Q n X x1 x3 x4 x5 x6 x7 x9 x10 x11 x12 x13 x14 x15 x16 x17 w0) (HC : HC3 X w0) (HM : HM3 n) (m1 al : Value) (w : World) (hS : Below w0.heap.size w0 w) (hm1 : Mv w0.heap.size w m1 n) (hal : Av w0.heap.size w al) (d1a : bkOf m1 ≠ bkOf al) : wpAnyH Tryz.prog .any so3 Q (fun w' => Below w0.heap.size w0 w') 6 #[true, false, true, false, true, false, true, true, true, false, false, true, false] ⟨#[.int .i64 (n : Int), x1, fv X, x3, x4, x5, x6, x7, al, x9, x10, x11, x12, x13, x14, x15, x16, x17, fv X, undef, fv X, undef, fv X, undef, .int .i64 (n : Int), m1, .int .i64 (n : Int), undef, undef, undef, undef, undef, undef, undef, undef, undef, undef, undef, undef, undef, undef, undef, undef, undef, undef, undef, undef, undef, undef], []⟩ w := by
  refine wpAnyH_ready (rs := [1, 9]) (by kernel_rfl) (by simp) ?_
  refine AllReadyH.cons (o := { dst := some 19, op := Op.call { callee := Callee.value (Operand.tmp 18), args := #[Operand.const (Value.int IntKind.i64 1), Operand.const (Value.int IntKind.i64 0)], argTypes := #[3, 3] }, type := 27, pos := "gens.go:22", after := #[{ on := 0, ground := Ground.data }], guard := none }) rfl (fun K hK => ?_) ?_
  · have C := hidden (HC 1 (by omega) w hS)
    go_simp
    refine (C.out).mono ?_
    rintro e wn ⟨u0, rfl, hu0, hb⟩
    go_wp2_with fail
    refine hK.out _ _ (bl_trans hS hb) (fun _ => ?_)
    exact so_1101 Q n X x1 x3 x4 x5 x6 x7 x9 x10 x11 x12 x13 x14 x15 x16 x17 w0 PP HQ HC HM u0 m1 al _ (bl_trans hS hb) hu0 (hm1.keep hb) (hal.keep hb) d1a
  refine AllReadyH.cons (o := { dst := some 27, op := Op.makeSlice 28 (Operand.tmp 26) (Operand.tmp 26), type := 28, pos := "gens.go:21", after := #[{ on := 8, ground := Ground.data }, { on := 8, ground := Ground.data }], guard := none }) rfl (fun K hK => ?_) ?_
  · have hmk := HM
    unfold HM3 at hmk
    go_wp2_with fail
    have hb := bl_alloc w (.cells (madeCells #[.slice none 0 0] n) 27)
    refine hK.out _ _ (bl_trans hS hb) (fun _ => ?_)
    have hm2 : Mv w0.heap.size (w.alloc (.cells (madeCells #[.slice none 0 0] n) 27)) (.slice (some ⟨w.heap.size, 0, none⟩) n n) n := ⟨_, rfl, hS.size, Gs.made w n _⟩
    exact so_0111 Q n X x1 x3 x4 x5 x6 x7 x9 x10 x11 x12 x13 x14 x15 x16 x17 w0 PP HQ HC HM m1 _ al _ (bl_trans hS hb) (hm1.keep hb) hm2 (hal.keep hb) (Nat.ne_of_lt hm1.lt) d1a (Nat.ne_of_gt hal.lt)
  exact AllReadyH.nil
set_option maxRecDepth 100000 in
set_option maxHeartbeats 4000000 in
theorem so_0110 (PP : ∀ v c a w, Q (.panic c) (a.put (some 28) v) w → Q (.panic c) a w) (HQ : HQ3 Q n X x1 x3 x4 x5 x6 x7 x9 x10 x11 x12 x13 x14 x15 x16 x17 w0) (HC : HC3 X w0) (HM : HM3 n) (m1 m2 : Value) (w : World) (hS : Below w0.heap.size w0 w) (hm1 : Mv w0.heap.size w m1 n) (hm2 : Mv w0.heap.size w m2 n) (d12 : bkOf m1 ≠ bkOf m2) : wpAnyH Tryz.prog .any so3 Q (fun w' => Below w0.heap.size w0 w') 6 #[true, false, true, false, true, false, true, true, true, true, false, false, false] ⟨#[.int .i64 (n : Int), x1, fv X, x3, x4, x5, x6, x7, undef, x9, x10, x11, x12, x13, x14, x15, x16, x17, fv X, undef, fv X, undef, fv X, undef, .int .i64 (n : Int), m1, .int .i64 (n : Int), m2, undef, undef, undef, undef, undef, undef, undef, undef, undef, undef, undef, undef, undef, undef, undef, undef, undef, undef, undef, undef, undef], []⟩ w := by
  refine wpAnyH_ready (rs := [1, 11]) (by kernel_rfl) (by simp) ?_
  refine AllReadyH.cons (o := { dst := some 19, op := Op.call { callee := Callee.value (Operand.tmp 18), args := #[Operand.const (Value.int IntKind.i64 1), Operand.const (Value.int IntKind.i64 0)], argTypes := #[3, 3] }, type := 27, pos := "gens.go:22", after := #[{ on := 0, ground := Ground.data }], guard := none }) rfl (fun K hK => ?_) ?_
  · have C := hidden (HC 1 (by omega) w hS)
    go_simp
    refine (C.out).mono ?_
    rintro e wn ⟨u0, rfl, hu0, hb⟩
    go_wp2_with fail
    refine hK.out _ _ (bl_trans hS hb) (fun _ => ?_)
    exact so_1110 Q n X x1 x3 x4 x5 x6 x7 x9 x10 x11 x12 x13 x14 x15 x16 x17 w0 PP HQ HC HM u0 m1 m2 _ (bl_trans hS hb) hu0 (hm1.keep hb) (hm2.keep hb) d12
  refine AllReadyH.cons (o := { dst := some 8, op := Op.alloc 30, type := 0, pos := "gens.go:21", after := #[], guard := none }) rfl (fun K hK => ?_) ?_
  · have hmk := HM
    unfold HM3 at hmk
    go_wp2_with fail
    have hb := bl_alloc w (.cells #[.slice none 0 0, .slice none 0 0, .slice none 0 0, .slice none 0 0, .slice none 0 0] 30)
    refine hK.out _ _ (bl_trans hS hb) (fun _ => ?_)
    have hal : Av w0.heap.size (w.alloc (.cells #[.slice none 0 0, .slice none 0 0, .slice none 0 0, .slice none 0 0, .slice none 0 0] 30)) (.pointer (some ⟨w.heap.size, 0, none⟩)) := ⟨_, rfl, hS.size, Gs.five w _⟩
    exact so_0111 Q n X x1 x3 x4 x5 x6 x7 x9 x10 x11 x12 x13 x14 x15 x16 x17 w0 PP HQ HC HM m1 m2 _ _ (bl_trans hS hb) (hm1.keep hb) (hm2.keep hb) hal d12 (Nat.ne_of_lt hm1.lt) (Nat.ne_of_lt hm2.lt)
  exact AllReadyH.nil
set_option maxRecDepth 100000 in
set_option maxHeartbeats 4000000 in
theorem so_1001 (PP : ∀ v c a w, Q (.panic c) (a.put (some 28) v) w → Q (.panic c) a w) (HQ : HQ3 Q n X x1 x3 x4 x5 x6 x7 x9 x10 x11 x12 x13 x14 x15 x16 x17 w0) (HC : HC3 X w0) (HM : HM3 n) (u0 al : Value) (w : World) (hS : Below w0.heap.size w0 w) (hu0 : Uv w0.heap.size w u0 0) (hal : Av w0.heap.size w al) : wpAnyH Tryz.prog .any so3 Q (fun w' => Below w0.heap.size w0 w') 6 #[true, true, true, false, true, false, true, false, true, false, false, true, false] ⟨#[.int .i64 (n : Int), x1, fv X, x3, x4, x5, x6, x7, al, x9, x10, x11, x12, x13, x14, x15, x16, x17, fv X, u0, fv X, undef, fv X, undef, .int .i64 (n : Int), undef, .int .i64 (n : Int), undef, undef, undef, undef, undef, undef, undef, undef, undef, undef, undef, undef, undef, undef, undef, undef, undef, undef, undef, undef, undef, undef], []⟩ w := by
  refine wpAnyH_ready (rs := [3, 7, 9]) (by kernel_rfl) (by simp) ?_
  refine AllReadyH.cons (o := { dst := some 21, op := Op.call { callee := Callee.value (Operand.tmp 20), args := #[Operand.const (Value.int IntKind.i64 2), Operand.const (Value.int IntKind.i64 0)], argTypes := #[3, 3] }, type := 27, pos := "gens.go:23", after := #[{ on := 2, ground := Ground.data }, { on := 1, ground := Ground.chain }], guard := none }) rfl (fun K hK => ?_) ?_
  · have C := hidden (HC 2 (by omega) w hS)
    go_simp
    refine (C.out).mono ?_
    rintro e wn ⟨u1, rfl, hu1, hb⟩
    go_wp2_with fail
    refine hK.out _ _ (bl_trans hS hb) (fun _ => ?_)
    exact so_2001 Q n X x1 x3 x4 x5 x6 x7 x9 x10 x11 x12 x13 x14 x15 x16 x17 w0 PP HQ HC HM u0 u1 al _ (bl_trans hS hb) (hu0.keep hb) hu1 (hal.keep hb)
  refine AllReadyH.cons (o := { dst := some 25, op := Op.makeSlice 28 (Operand.tmp 24) (Operand.tmp 24), type := 28, pos := "gens.go:21", after := #[{ on := 6, ground := Ground.data }, { on := 6, ground := Ground.data }], guard := none }) rfl (fun K hK => ?_) ?_
  · have hmk := HM
    unfold HM3 at hmk
    go_wp2_with fail
    have hb := bl_alloc w (.cells (madeCells #[.slice none 0 0] n) 27)
    refine hK.out _ _ (bl_trans hS hb) (fun _ => ?_)
    have hm1 : Mv w0.heap.size (w.alloc (.cells (madeCells #[.slice none 0 0] n) 27)) (.slice (some ⟨w.heap.size, 0, none⟩) n n) n := ⟨_, rfl, hS.size, Gs.made w n _⟩
    exact so_1101 Q n X x1 x3 x4 x5 x6 x7 x9 x10 x11 x12 x13 x14 x15 x16 x17 w0 PP HQ HC HM u0 _ al _ (bl_trans hS hb) (hu0.keep hb) hm1 (hal.keep hb) (Nat.ne_of_gt hal.lt)
  refine AllReadyH.cons (o := { dst := some 27, op := Op.makeSlice 28 (Operand.tmp 26) (Operand.tmp 26), type := 28, pos := "gens.go:21", after := #[{ on := 8, ground := Ground.data }, { on := 8, ground := Ground.data }], guard := none }) rfl (fun K hK => ?_) ?_
  · have hmk := HM
    unfold HM3 at hmk
    go_wp2_with fail
    have hb := bl_alloc w (.cells (madeCells #[.slice none 0 0] n) 27)
    refine hK.out _ _ (bl_trans hS hb) (fun _ => ?_)
    have hm2 : Mv w0.heap.size (w.alloc (.cells (madeCells #[.slice none 0 0] n) 27)) (.slice (some ⟨w.heap.size, 0, none⟩) n n) n := ⟨_, rfl, hS.size, Gs.made w n _⟩
    exact so_1011 Q n X x1 x3 x4 x5 x6 x7 x9 x10 x11 x12 x13 x14 x15 x16 x17 w0 PP HQ HC HM u0 _ al _ (bl_trans hS hb) (hu0.keep hb) hm2 (hal.keep hb) (Nat.ne_of_gt hal.lt)
  exact AllReadyH.nil
set_option maxRecDepth 100000 in
set_option maxHeartbeats 4000000 in
theorem so_1010 (PP : ∀ v c a w, Q (.panic c) (a.put (some 28) v) w → Q (.panic c) a w) (HQ : HQ3 Q n X x1 x3 x4 x5 x6 x7 x9 x10 x11 x12 x13 x14 x15 x16 x17 w0) (HC : HC3 X w0) (HM : HM3 n) (u0 m2 : Value) (w : World) (hS : Below w0.heap.size w0 w) (hu0 : Uv w0.heap.size w u0 0) (hm2 : Mv w0.heap.size w m2 n) : wpAnyH Tryz.prog .any so3 Q (fun w' => Below w0.heap.size w0 w') 6 #[true, true, true, false, true, false, true, false, true, true, false, false, false] ⟨#[.int .i64 (n : Int), x1, fv X, x3, x4, x5, x6, x7, undef, x9, x10, x11, x12, x13, x14, x15, x16, x17, fv X, u0, fv X, undef, fv X, undef, .int .i64 (n : Int), undef, .int .i64 (n : Int), m2, undef, undef, undef, undef, undef, undef, undef, undef, undef, undef, undef, undef, undef, undef, undef, undef, undef, undef, undef, undef, undef], []⟩ w := by
  refine wpAnyH_ready (rs := [3, 7, 11]) (by kernel_rfl) (by simp) ?_
  refine AllReadyH.cons (o := { dst := some 21, op := Op.call { callee := Callee.value (Operand.tmp 20), args := #[Operand.const (Value.int IntKind.i64 2), Operand.const (Value.int IntKind.i64 0)], argTypes := #[3, 3] }, type := 27, pos := "gens.go:23", after := #[{ on := 2, ground := Ground.data }, { on := 1, ground := Ground.chain }], guard := none }) rfl (fun K hK => ?_) ?_
  · have C := hidden (HC 2 (by omega) w hS)
    go_simp
    refine (C.out).mono ?_
    rintro e wn ⟨u1, rfl, hu1, hb⟩
    go_wp2_with fail
    refine hK.out _ _ (bl_trans hS hb) (fun _ => ?_)
    exact so_2010 Q n X x1 x3 x4 x5 x6 x7 x9 x10 x11 x12 x13 x14 x15 x16 x17 w0 PP HQ HC HM u0 u1 m2 _ (bl_trans hS hb) (hu0.keep hb) hu1 (hm2.keep hb)
  refine AllReadyH.cons (o := { dst := some 25, op := Op.makeSlice 28 (Operand.tmp 24) (Operand.tmp 24), type := 28, pos := "gens.go:21", after := #[{ on := 6, ground := Ground.data }, { on := 6, ground := Ground.data }], guard := none }) rfl (fun K hK => ?_) ?_
  · have hmk := HM
    unfold HM3 at hmk
    go_wp2_with fail
    have hb := bl_alloc w (.cells (madeCells #[.slice none 0 0] n) 27)
    refine hK.out _ _ (bl_trans hS hb) (fun _ => ?_)
    have hm1 : Mv w0.heap.size (w.alloc (.cells (madeCells #[.slice none 0 0] n) 27)) (.slice (some ⟨w.heap.size, 0, none⟩) n n) n := ⟨_, rfl, hS.size, Gs.made w n _⟩
    exact so_1110 Q n X x1 x3 x4 x5 x6 x7 x9 x10 x11 x12 x13 x14 x15 x16 x17 w0 PP HQ HC HM u0 _ m2 _ (bl_trans hS hb) (hu0.keep hb) hm1 (hm2.keep hb) (Nat.ne_of_gt hm2.lt)
  refine AllReadyH.cons (o := { dst := some 8, op := Op.alloc 30, type := 0, pos := "gens.go:21", after := #[], guard := none }) rfl (fun K hK => ?_) ?_
  · have hmk := HM
    unfold HM3 at hmk
    go_wp2_with fail
    have hb := bl_alloc w (.cells #[.slice none 0 0, .slice none 0 0, .slice none 0 0, .slice none 0 0, .slice none 0 0] 30)
    refine hK.out _ _ (bl_trans hS hb) (fun _ => ?_)
    have hal : Av w0.heap.size (w.alloc (.cells #[.slice none 0 0, .slice none 0 0, .slice none 0 0, .slice none 0 0, .slice none 0 0] 30)) (.pointer (some ⟨w.heap.size, 0, none⟩)) := ⟨_, rfl, hS.size, Gs.five w _⟩
    exact so_1011 Q n X x1 x3 x4 x5 x6 x7 x9 x10 x11 x12 x13 x14 x15 x16 x17 w0 PP HQ HC HM u0 m2 _ _ (bl_trans hS hb) (hu0.keep hb) (hm2.keep hb) hal (Nat.ne_of_lt hm2.lt)
  exact AllReadyH.nil
set_option maxRecDepth 100000 in
set_option maxHeartbeats 4000000 in
theorem so_1100 (PP : ∀ v c a w, Q (.panic c) (a.put (some 28) v) w → Q (.panic c) a w) (HQ : HQ3 Q n X x1 x3 x4 x5 x6 x7 x9 x10 x11 x12 x13 x14 x15 x16 x17 w0) (HC : HC3 X w0) (HM : HM3 n) (u0 m1 : Value) (w : World) (hS : Below w0.heap.size w0 w) (hu0 : Uv w0.heap.size w u0 0) (hm1 : Mv w0.heap.size w m1 n) : wpAnyH Tryz.prog .any so3 Q (fun w' => Below w0.heap.size w0 w') 6 #[true, true, true, false, true, false, true, true, true, false, false, false, false] ⟨#[.int .i64 (n : Int), x1, fv X, x3, x4, x5, x6, x7, undef, x9, x10, x11, x12, x13, x14, x15, x16, x17, fv X, u0, fv X, undef, fv X, undef, .int .i64 (n : Int), m1, .int .i64 (n : Int), undef, undef, undef, undef, undef, undef, undef, undef, undef, undef, undef, undef, undef, undef, undef, undef, undef, undef, undef, undef, undef, undef], []⟩ w := by
  refine wpAnyH_ready (rs := [3, 9, 11]) (by kernel_rfl) (by simp) ?_
  refine AllReadyH.cons (o := { dst := some 21, op := Op.call { callee := Callee.value (Operand.tmp 20), args := #[Operand.const (Value.int IntKind.i64 2), Operand.const (Value.int IntKind.i64 0)], argTypes := #[3, 3] }, type := 27, pos := "gens.go:23", after := #[{ on := 2, ground := Ground.data }, { on := 1, ground := Ground.chain }], guard := none }) rfl (fun K hK => ?_) ?_
  · have C := hidden (HC 2 (by omega) w hS)
    go_simp
    refine (C.out).mono ?_
    rintro e wn ⟨u1, rfl, hu1, hb⟩
    go_wp2_with fail
    refine hK.out _ _ (bl_trans hS hb) (fun _ => ?_)
    exact so_2100 Q n X x1 x3 x4 x5 x6 x7 x9 x10 x11 x12 x13 x14 x15 x16 x17 w0 PP HQ HC HM u0 u1 m1 _ (bl_trans hS hb) (hu0.keep hb) hu1 (hm1.keep hb)
  refine AllReadyH.cons (o := { dst := some 27, op := Op.makeSlice 28 (Operand.tmp 26) (Operand.tmp 26), type := 28, pos := "gens.go:21", after := #[{ on := 8, ground := Ground.data }, { on := 8, ground := Ground.data }], guard := none }) rfl (fun K hK => ?_) ?_
  · have hmk := HM
    unfold HM3 at hmk
    go_wp2_with fail
    have hb := bl_alloc w (.cells (madeCells #[.slice none 0 0] n) 27)
    refine hK.out _ _ (bl_trans hS hb) (fun _ => ?_)
    have hm2 : Mv w0.heap.size (w.alloc (.cells (madeCells #[.slice none 0 0] n) 27)) (.slice (some ⟨w.heap.size, 0, none⟩) n n) n := ⟨_, rfl, hS.size, Gs.made w n _⟩
    exact so_1110 Q n X x1 x3 x4 x5 x6 x7 x9 x10 x11 x12 x13 x14 x15 x16 x17 w0 PP HQ HC HM u0 m1 _ _ (bl_trans hS hb) (hu0.keep hb) (hm1.keep hb) hm2 (Nat.ne_of_lt hm1.lt)
  refine AllReadyH.cons (o := { dst := some 8, op := Op.alloc 30, type := 0, pos := "gens.go:21", after := #[], guard := none }) rfl (fun K hK => ?_) ?_
  · have hmk := HM
    unfold HM3 at hmk
    go_wp2_with fail
    have hb := bl_alloc w (.cells #[.slice none 0 0, .slice none 0 0, .slice none 0 0, .slice none 0 0, .slice none 0 0] 30)
    refine hK.out _ _ (bl_trans hS hb) (fun _ => ?_)
    have hal : Av w0.heap.size (w.alloc (.cells #[.slice none 0 0, .slice none 0 0, .slice none 0 0, .slice none 0 0, .slice none 0 0] 30)) (.pointer (some ⟨w.heap.size, 0, none⟩)) := ⟨_, rfl, hS.size, Gs.five w _⟩
    exact so_1101 Q n X x1 x3 x4 x5 x6 x7 x9 x10 x11 x12 x13 x14 x15 x16 x17 w0 PP HQ HC HM u0 m1 _ _ (bl_trans hS hb) (hu0.keep hb) (hm1.keep hb) hal (Nat.ne_of_lt hm1.lt)
  exact AllReadyH.nil
set_option maxRecDepth 100000 in
set_option maxHeartbeats 4000000 in
theorem so_2000 (PP : ∀ v c a w, Q (.panic c) (a.put (some 28) v) w → Q (.panic c) a w) (HQ : HQ3 Q n X x1 x3 x4 x5 x6 x7 x9 x10 x11 x12 x13 x14 x15 x16 x17 w0) (HC : HC3 X w0) (HM : HM3 n) (u0 u1 : Value) (w : World) (hS : Below w0.heap.size w0 w) (hu0 : Uv w0.heap.size w u0 0) (hu1 : Uv w0.heap.size w u1 1) : wpAnyH Tryz.prog .any so3 Q (fun w' => Below w0.heap.size w0 w') 6 #[true, true, true, true, true, false, true, false, true, false, false, false, false] ⟨#[.int .i64 (n : Int), x1, fv X, x3, x4, x5, x6, x7, undef, x9, x10, x11, x12, x13, x14, x15, x16, x17, fv X, u0, fv X, u1, fv X, undef, .int .i64 (n : Int), undef, .int .i64 (n : Int), undef, undef, undef, undef, undef, undef, undef, undef, undef, undef, undef, undef, undef, undef, undef, undef, undef, undef, undef, undef, undef, undef], []⟩ w := by
  refine wpAnyH_ready (rs := [5, 7, 9, 11]) (by kernel_rfl) (by simp) ?_
  refine AllReadyH.cons (o := { dst := some 23, op := Op.call { callee := Callee.value (Operand.tmp 22), args := #[Operand.const (Value.int IntKind.i64 3), Operand.const (Value.int IntKind.i64 0)], argTypes := #[3, 3] }, type := 27, pos := "gens.go:24", after := #[{ on := 4, ground := Ground.data }, { on := 3, ground := Ground.chain }], guard := none }) rfl (fun K hK => ?_) ?_
  · have C := hidden (HC 3 (by omega) w hS)
    go_simp
    refine (C.out).mono ?_
    rintro e wn ⟨u2, rfl, hu2, hb⟩
    go_wp2_with fail
    refine hK.out _ _ (bl_trans hS hb) (fun _ => ?_)
    exact so_3000 Q n X x1 x3 x4 x5 x6 x7 x9 x10 x11 x12 x13 x14 x15 x16 x17 w0 PP HQ HC HM u0 u1 u2 _ (bl_trans hS hb) (hu0.keep hb) (hu1.keep hb) hu2
  refine AllReadyH.cons (o := { dst := some 25, op := Op.makeSlice 28 (Operand.tmp 24) (Operand.tmp 24), type := 28, pos := "gens.go:21", after := #[{ on := 6, ground := Ground.data }, { on := 6, ground := Ground.data }], guard := none }) rfl (fun K hK => ?_) ?_
  · have hmk := HM
    unfold HM3 at hmk
    go_wp2_with fail
    have hb := bl_alloc w (.cells (madeCells #[.slice none 0 0] n) 27)
    refine hK.out _ _ (bl_trans hS hb) (fun _ => ?_)
    have hm1 : Mv w0.heap.size (w.alloc (.cells (madeCells #[.slice none 0 0] n) 27)) (.slice (some ⟨w.heap.size, 0, none⟩) n n) n := ⟨_, rfl, hS.size, Gs.made w n _⟩
    exact so_2100 Q n X x1 x3 x4 x5 x6 x7 x9 x10 x11 x12 x13 x14 x15 x16 x17 w0 PP HQ HC HM u0 u1 _ _ (bl_trans hS hb) (hu0.keep hb) (hu1.keep hb) hm1
  refine AllReadyH.cons (o := { dst := some 27, op := Op.makeSlice 28 (Operand.tmp 26) (Operand.tmp 26), type := 28, pos := "gens.go:21", after := #[{ on := 8, ground := Ground.data }, { on := 8, ground := Ground.data }], guard := none }) rfl (fun K hK => ?_) ?_
  · have hmk := HM
    unfold HM3 at hmk
    go_wp2_with fail
    have hb := bl_alloc w (.cells (madeCells #[.slice none 0 0] n) 27)
    refine hK.out _ _ (bl_trans hS hb) (fun _ => ?_)
    have hm2 : Mv w0.heap.size (w.alloc (.cells (madeCells #[.slice none 0 0] n) 27)) (.slice (some ⟨w.heap.size, 0, none⟩) n n) n := ⟨_, rfl, hS.size, Gs.made w n _⟩
    exact so_2010 Q n X x1 x3 x4 x5 x6 x7 x9 x10 x11 x12 x13 x14 x15 x16 x17 w0 PP HQ HC HM u0 u1 _ _ (bl_trans hS hb) (hu0.keep hb) (hu1.keep hb) hm2
  refine AllReadyH.cons (o := { dst := some 8, op := Op.alloc 30, type := 0, pos := "gens.go:21", after := #[], guard := none }) rfl (fun K hK => ?_) ?_
  · have hmk := HM
    unfold HM3 at hmk
    go_wp2_with fail
    have hb := bl_alloc w (.cells #[.slice none 0 0, .slice none 0 0, .slice none 0 0, .slice none 0 0, .slice none 0 0] 30)
    refine hK.out _ _ (bl_trans hS hb) (fun _ => ?_)
    have hal : Av w0.heap.size (w.alloc (.cells #[.slice none 0 0, .slice none 0 0, .slice none 0 0, .slice none 0 0, .slice none 0 0] 30)) (.pointer (some ⟨w.heap.size, 0, none⟩)) := ⟨_, rfl, hS.size, Gs.five w _⟩
    exact so_2001 Q n X x1 x3 x4 x5 x6 x7 x9 x10 x11 x12 x13 x14 x15 x16 x17 w0 PP HQ HC HM u0 u1 _ _ (bl_trans hS hb) (hu0.keep hb) (hu1.keep hb) hal
  exact AllReadyH.nil
set_option maxRecDepth 100000 in
set_option maxHeartbeats 4000000 in
theorem so_0001 (PP : ∀ v c a w, Q (.panic c) (a.put (some 28) v) w → Q (.panic c) a w) (HQ : HQ3 Q n X x1 x3 x4 x5 x6 x7 x9 x10 x11 x12 x13 x14 x15 x16 x17 w0) (HC : HC3 X w0) (HM : HM3 n) (al : Value) (w : World) (hS : Below w0.heap.size w0 w) (hal : Av w0.heap.size w al) : wpAnyH Tryz.prog .any so3 Q (fun w' => Below w0.heap.size w0 w') 7 #[true, false, true, false, true, false, true, false, true, false, false, true, false] ⟨#[.int .i64 (n : Int), x1, fv X, x3, x4, x5, x6, x7, al, x9, x10, x11, x12, x13, x14, x15, x16, x17, fv X, undef, fv X, undef, fv X, undef, .int .i64 (n : Int), undef, .int .i64 (n : Int), undef, undef, undef, undef, undef, undef, undef, undef, undef, undef, undef, undef, undef, undef, undef, undef, undef, undef, undef, undef, undef, undef], []⟩ w := by
  refine wpAnyH_ready (rs := [1, 7, 9]) (by kernel_rfl) (by simp) ?_
  refine AllReadyH.cons (o := { dst := some 19, op := Op.call { callee := Callee.value (Operand.tmp 18), args := #[Operand.const (Value.int IntKind.i64 1), Operand.const (Value.int IntKind.i64 0)], argTypes := #[3, 3] }, type := 27, pos := "gens.go:22", after := #[{ on := 0, ground := Ground.data }], guard := none }) rfl (fun K hK => ?_) ?_
  · have C := hidden (HC 1 (by omega) w hS)
    go_simp
    refine (C.out).mono ?_
    rintro e wn ⟨u0, rfl, hu0, hb⟩
    go_wp2_with fail
    refine hK.out _ _ (bl_trans hS hb) (fun _ => ?_)
    exact so_1001 Q n X x1 x3 x4 x5 x6 x7 x9 x10 x11 x12 x13 x14 x15 x16 x17 w0 PP HQ HC HM u0 al _ (bl_trans hS hb) hu0 (hal.keep hb)
  refine AllReadyH.cons (o := { dst := some 25, op := Op.makeSlice 28 (Operand.tmp 24) (Operand.tmp 24), type := 28, pos := "gens.go:21", after := #[{ on := 6, ground := Ground.data }, { on := 6, ground := Ground.data }], guard := none }) rfl (fun K hK => ?_) ?_
  · have hmk := HM
    unfold HM3 at hmk
    go_wp2_with fail
    have hb := bl_alloc w (.cells (madeCells #[.slice none 0 0] n) 27)
    refine hK.out _ _ (bl_trans hS hb) (fun _ => ?_)
    have hm1 : Mv w0.heap.size (w.alloc (.cells (madeCells #[.slice none 0 0] n) 27)) (.slice (some ⟨w.heap.size, 0, none⟩) n n) n := ⟨_, rfl, hS.size, Gs.made w n _⟩
    exact so_0101 Q n X x1 x3 x4 x5 x6 x7 x9 x10 x11 x12 x13 x14 x15 x16 x17 w0 PP HQ HC HM _ al _ (bl_trans hS hb) hm1 (hal.keep hb) (Nat.ne_of_gt hal.lt)
  refine AllReadyH.cons (o := { dst := some 27, op := Op.makeSlice 28 (Operand.tmp 26) (Operand.tmp 26), type := 28, pos := "gens.go:21", after := #[{ on := 8, ground := Ground.data }, { on := 8, ground := Ground.data }], guard := none }) rfl (fun K hK => ?_) ?_
  · have hmk := HM
    unfold HM3 at hmk
    go_wp2_with fail
    have hb := bl_alloc w (.cells (madeCells #[.slice none 0 0] n) 27)
    refine hK.out _ _ (bl_trans hS hb) (fun _ => ?_)
    have hm2 : Mv w0.heap.size (w.alloc (.cells (madeCells #[.slice none 0 0] n) 27)) (.slice (some ⟨w.heap.size, 0, none⟩) n n) n := ⟨_, rfl, hS.size, Gs.made w n _⟩
    exact so_0011 Q n X x1 x3 x4 x5 x6 x7 x9 x10 x11 x12 x13 x14 x15 x16 x17 w0 PP HQ HC HM _ al _ (bl_trans hS hb) hm2 (hal.keep hb) (Nat.ne_of_gt hal.lt)
  exact AllReadyH.nil
set_option maxRecDepth 100000 in
set_option maxHeartbeats 4000000 in
theorem so_0010 (PP : ∀ v c a w, Q (.panic c) (a.put (some 28) v) w → Q (.panic c) a w) (HQ : HQ3 Q n X x1 x3 x4 x5 x6 x7 x9 x10 x11 x12 x13 x14 x15 x16 x17 w0) (HC : HC3 X w0) (HM : HM3 n) (m2 : Value) (w : World) (hS : Below w0.heap.size w0 w) (hm2 : Mv w0.heap.size w m2 n) : wpAnyH Tryz.prog .any so3 Q (fun w' => Below w0.heap.size w0 w') 7 #[true, false, true, false, true, false, true, false, true, true, false, false, false] ⟨#[.int .i64 (n : Int), x1, fv X, x3, x4, x5, x6, x7, undef, x9, x10, x11, x12, x13, x14, x15, x16, x17, fv X, undef, fv X, undef, fv X, undef, .int .i64 (n : Int), undef, .int .i64 (n : Int), m2, undef, undef, undef, undef, undef, undef, undef, undef, undef, undef, undef, undef, undef, undef, undef, undef, undef, undef, undef, undef, undef], []⟩ w := by
  refine wpAnyH_ready (rs := [1, 7, 11]) (by kernel_rfl) (by simp) ?_
  refine AllReadyH.cons (o := { dst := some 19, op := Op.call { callee := Callee.value (Operand.tmp 18), args := #[Operand.const (Value.int IntKind.i64 1), Operand.const (Value.int IntKind.i64 0)], argTypes := #[3, 3] }, type := 27, pos := "gens.go:22", after := #[{ on := 0, ground := Ground.data }], guard := none }) rfl (fun K hK => ?_) ?_
  · have C := hidden (HC 1 (by omega) w hS)
    go_simp
    refine (C.out).mono ?_
    rintro e wn ⟨u0, rfl, hu0, hb⟩
    go_wp2_with fail
    refine hK.out _ _ (bl_trans hS hb) (fun _ => ?_)
    exact so_1010 Q n X x1 x3 x4 x5 x6 x7 x9 x10 x11 x12 x13 x14 x15 x16 x17 w0 PP HQ HC HM u0 m2 _ (bl_trans hS hb) hu0 (hm2.keep hb)
  refine AllReadyH.cons (o := { dst := some 25, op := Op.makeSlice 28 (Operand.tmp 24) (Operand.tmp 24), type := 28, pos := "gens.go:21", after := #[{ on := 6, ground := Ground.data }, { on := 6, ground := Ground.data }], guard := none }) rfl (fun K hK => ?_) ?_
  · have hmk := HM
    unfold HM3 at hmk
    go_wp2_with fail
    have hb := bl_alloc w (.cells (madeCells #[.slice none 0 0] n) 27)
    refine hK.out _ _ (bl_trans hS hb) (fun _ => ?_)
    have hm1 : Mv w0.heap.size (w.alloc (.cells (madeCells #[.slice none 0 0] n) 27)) (.slice (some ⟨w.heap.size, 0, none⟩) n n) n := ⟨_, rfl, hS.size, Gs.made w n _⟩
    exact so_0110 Q n X x1 x3 x4 x5 x6 x7 x9 x10 x11 x12 x13 x14 x15 x16 x17 w0 PP HQ HC HM _ m2 _ (bl_trans hS hb) hm1 (hm2.keep hb) (Nat.ne_of_gt hm2.lt)
  refine AllReadyH.cons (o := { dst := some 8, op := Op.alloc 30, type := 0, pos := "gens.go:21", after := #[], guard := none }) rfl (fun K hK => ?_) ?_
  · have hmk := HM
    unfold HM3 at hmk
    go_wp2_with fail
    have hb := bl_alloc w (.cells #[.slice none 0 0, .slice none 0 0, .slice none 0 0, .slice none 0 0, .slice none 0 0] 30)
    refine hK.out _ _ (bl_trans hS hb) (fun _ => ?_)
    have hal : Av w0.heap.size (w.alloc (.cells #[.slice none 0 0, .slice none 0 0, .slice none 0 0, .slice none 0 0, .slice none 0 0] 30)) (.pointer (some ⟨w.heap.size, 0, none⟩)) := ⟨_, rfl, hS.size, Gs.five w _⟩
    exact so_0011 Q n X x1 x3 x4 x5 x6 x7 x9 x10 x11 x12 x13 x14 x15 x16 x17 w0 PP HQ HC HM m2 _ _ (bl_trans hS hb) (hm2.keep hb) hal (Nat.ne_of_lt hm2.lt)
  exact AllReadyH.nil
set_option maxRecDepth 100000 in
set_option maxHeartbeats 4000000 in
theorem so_0100 (PP : ∀ v c a w, Q (.panic c) (a.put (some 28) v) w → Q (.panic c) a w) (HQ : HQ3 Q n X x1 x3 x4 x5 x6 x7 x9 x10 x11 x12 x13 x14 x15 x16 x17 w0) (HC : HC3 X w0) (HM : HM3 n) (m1 : Value) (w : World) (hS : Below w0.heap.size w0 w) (hm1 : Mv w0.heap.size w m1 n) : wpAnyH Tryz.prog .any so3 Q (fun w' => Below w0.heap.size w0 w') 7 #[true, false, true, false, true, false, true, true, true, false, false, false, false] ⟨#[.int .i64 (n : Int), x1, fv X, x3, x4, x5, x6, x7, undef, x9, x10, x11, x12, x13, x14, x15, x16, x17, fv X, undef, fv X, undef, fv X, undef, .int .i64 (n : Int), m1, .int .i64 (n : Int), undef, undef, undef, undef, undef, undef, undef, undef, undef, undef, undef, undef, undef, undef, undef, undef, undef, undef, undef, undef, undef, undef], []⟩ w := by
  refine wpAnyH_ready (rs := [1, 9, 11]) (by kernel_rfl) (by simp) ?_
  refine AllReadyH.cons (o := { dst := some 19, op := Op.call { callee := Callee.value (Operand.tmp 18), args := #[Operand.const (Value.int IntKind.i64 1), Operand.const (Value.int IntKind.i64 0)], argTypes := #[3, 3] }, type := 27, pos := "gens.go:22", after := #[{ on := 0, ground := Ground.data }], guard := none }) rfl (fun K hK => ?_) ?_
  · have C := hidden (HC 1 (by omega) w hS)
    go_simp
    refine (C.out).mono ?_
    rintro e wn ⟨u0, rfl, hu0, hb⟩
    go_wp2_with fail
    refine hK.out _ _ (bl_trans hS hb) (fun _ => ?_)
    exact so_1100 Q n X x1 x3 x4 x5 x6 x7 x9 x10 x11 x12 x13 x14 x15 x16 x17 w0 PP HQ HC HM u0 m1 _ (bl_trans hS hb) hu0 (hm1.keep hb)
  refine AllReadyH.cons (o := { dst := some 27, op := Op.makeSlice 28 (Operand.tmp 26) (Operand.tmp 26), type := 28, pos := "gens.go:21", after := #[{ on := 8, ground := Ground.data }, { on := 8, ground := Ground.data }], guard := none }) rfl (fun K hK => ?_) ?_
  · have hmk := HM
    unfold HM3 at hmk
    go_wp2_with fail
    have hb := bl_alloc w (.cells (madeCells #[.slice none 0 0] n) 27)
    refine hK.out _ _ (bl_trans hS hb) (fun _ => ?_)
    have hm2 : Mv w0.heap.size (w.alloc (.cells (madeCells #[.slice none 0 0] n) 27)) (.slice (some ⟨w.heap.size, 0, none⟩) n n) n := ⟨_, rfl, hS.size, Gs.made w n _⟩
    exact so_0110 Q n X x1 x3 x4 x5 x6 x7 x9 x10 x11 x12 x13 x14 x15 x16 x17 w0 PP HQ HC HM m1 _ _ (bl_trans hS hb) (hm1.keep hb) hm2 (Nat.ne_of_lt hm1.lt)
  refine AllReadyH.cons (o := { dst := some 8, op := Op.alloc 30, type := 0, pos := "gens.go:21", after := #[], guard := none }) rfl (fun K hK => ?_) ?_
  · have hmk := HM
    unfold HM3 at hmk
    go_wp2_with fail
    have hb := bl_alloc w (.cells #[.slice none 0 0, .slice none 0 0, .slice none 0 0, .slice none 0 0, .slice none 0 0] 30)
    refine hK.out _ _ (bl_trans hS hb) (fun _ => ?_)
    have hal : Av w0.heap.size (w.alloc (.cells #[.slice none 0 0, .slice none 0 0, .slice none 0 0, .slice none 0 0, .slice none 0 0] 30)) (.pointer (some ⟨w.heap.size, 0, none⟩)) := ⟨_, rfl, hS.size, Gs.five w _⟩
    exact so_0101 Q n X x1 x3 x4 x5 x6 x7 x9 x10 x11 x12 x13 x14 x15 x16 x17 w0 PP HQ HC HM m1 _ _ (bl_trans hS hb) (hm1.keep hb) hal (Nat.ne_of_lt hm1.lt)
  exact AllReadyH.nil
set_option maxRecDepth 100000 in
set_option maxHeartbeats 4000000 in
theorem so_1000 (PP : ∀ v c a w, Q (.panic c) (a.put (some 28) v) w → Q (.panic c) a w) (HQ : HQ3 Q n X x1 x3 x4 x5 x6 x7 x9 x10 x11 x12 x13 x14 x15 x16 x17 w0) (HC : HC3 X w0) (HM : HM3 n) (u0 : Value) (w : World) (hS : Below w0.heap.size w0 w) (hu0 : Uv w0.heap.size w u0 0) : wpAnyH Tryz.prog .any so3 Q (fun w' => Below w0.heap.size w0 w') 7 #[true, true, true, false, true, false, true, false, true, false, false, false, false] ⟨#[.int .i64 (n : Int), x1, fv X, x3, x4, x5, x6, x7, undef, x9, x10, x11, x12, x13, x14, x15, x16, x17, fv X, u0, fv X, undef, fv X, undef, .int .i64 (n : Int), undef, .int .i64 (n : Int), undef, undef, undef, undef, undef, undef, undef, undef, undef, undef, undef, undef, undef, undef, undef, undef, undef, undef, undef, undef, undef, undef], []⟩ w := by
  refine wpAnyH_ready (rs := [3, 7, 9, 11]) (by kernel_rfl) (by simp) ?_
  refine AllReadyH.cons (o := { dst := some 21, op := Op.call { callee := Callee.value (Operand.tmp 20), args := #[Operand.const (Value.int IntKind.i64 2), Operand.const (Value.int IntKind.i64 0)], argTypes := #[3, 3] }, type := 27, pos := "gens.go:23", after := #[{ on := 2, ground := Ground.data }, { on := 1, ground := Ground.chain }], guard := none }) rfl (fun K hK => ?_) ?_
  · have C := hidden (HC 2 (by omega) w hS)
    go_simp
    refine (C.out).mono ?_
    rintro e wn ⟨u1, rfl, hu1, hb⟩
    go_wp2_with fail
    refine hK.out _ _ (bl_trans hS hb) (fun _ => ?_)
    exact so_2000 Q n X x1 x3 x4 x5 x6 x7 x9 x10 x11 x12 x13 x14 x15 x16 x17 w0 PP HQ HC HM u0 u1 _ (bl_trans hS hb) (hu0.keep hb) hu1
  refine AllReadyH.cons (o := { dst := some 25, op := Op.makeSlice 28 (Operand.tmp 24) (Operand.tmp 24), type := 28, pos := "gens.go:21", after := #[{ on := 6, ground := Ground.data }, { on := 6, ground := Ground.data }], guard := none }) rfl (fun K hK => ?_) ?_
  · have hmk := HM
    unfold HM3 at hmk
    go_wp2_with fail
    have hb := bl_alloc w (.cells (madeCells #[.slice none 0 0] n) 27)
    refine hK.out _ _ (bl_trans hS hb) (fun _ => ?_)
    have hm1 : Mv w0.heap.size (w.alloc (.cells (madeCells #[.slice none 0 0] n) 27)) (.slice (some ⟨w.heap.size, 0, none⟩) n n) n := ⟨_, rfl, hS.size, Gs.made w n _⟩
    exact so_1100 Q n X x1 x3 x4 x5 x6 x7 x9 x10 x11 x12 x13 x14 x15 x16 x17 w0 PP HQ HC HM u0 _ _ (bl_trans hS hb) (hu0.keep hb) hm1
  refine AllReadyH.cons (o := { dst := some 27, op := Op.makeSlice 28 (Operand.tmp 26) (Operand.tmp 26), type := 28, pos := "gens.go:21", after := #[{ on := 8, ground := Ground.data }, { on := 8, ground := Ground.data }], guard := none }) rfl (fun K hK => ?_) ?_
  · have hmk := HM
    unfold HM3 at hmk
    go_wp2_with fail
    have hb := bl_alloc w (.cells (madeCells #[.slice none 0 0] n) 27)
    refine hK.out _ _ (bl_trans hS hb) (fun _ => ?_)
    have hm2 : Mv w0.heap.size (w.alloc (.cells (madeCells #[.slice none 0 0] n) 27)) (.slice (some ⟨w.heap.size, 0, none⟩) n n) n := ⟨_, rfl, hS.size, Gs.made w n _⟩
    exact so_1010 Q n X x1 x3 x4 x5 x6 x7 x9 x10 x11 x12 x13 x14 x15 x16 x17 w0 PP HQ HC HM u0 _ _ (bl_trans hS hb) (hu0.keep hb) hm2
  refine AllReadyH.cons (o := { dst := some 8, op := Op.alloc 30, type := 0, pos := "gens.go:21", after := #[], guard := none }) rfl (fun K hK => ?_) ?_
  · have hmk := HM
    unfold HM3 at hmk
    go_wp2_with fail
    have hb := bl_alloc w (.cells #[.slice none 0 0, .slice none 0 0, .slice none 0 0, .slice none 0 0, .slice none 0 0] 30)
    refine hK.out _ _ (bl_trans hS hb) (fun _ => ?_)
    have hal : Av w0.heap.size (w.alloc (.cells #[.slice none 0 0, .slice none 0 0, .slice none 0 0, .slice none 0 0, .slice none 0 0] 30)) (.pointer (some ⟨w.heap.size, 0, none⟩)) := ⟨_, rfl, hS.size, Gs.five w _⟩
    exact so_1001 Q n X x1 x3 x4 x5 x6 x7 x9 x10 x11 x12 x13 x14 x15 x16 x17 w0 PP HQ HC HM u0 _ _ (bl_trans hS hb) (hu0.keep hb) hal
  exact AllReadyH.nil
set_option maxRecDepth 100000 in
set_option maxHeartbeats 4000000 in
theorem so_0000 (PP : ∀ v c a w, Q (.panic c) (a.put (some 28) v) w → Q (.panic c) a w) (HQ : HQ3 Q n X x1 x3 x4 x5 x6 x7 x9 x10 x11 x12 x13 x14 x15 x16 x17 w0) (HC : HC3 X w0) (HM : HM3 n)  (w : World) (hS : Below w0.heap.size w0 w)  : wpAnyH Tryz.prog .any so3 Q (fun w' => Below w0.heap.size w0 w') 8 #[true, false, true, false, true, false, true, false, true, false, false, false, false] ⟨#[.int .i64 (n : Int), x1, fv X, x3, x4, x5, x6, x7, undef, x9, x10, x11, x12, x13, x14, x15, x16, x17, fv X, undef, fv X, undef, fv X, undef, .int .i64 (n : Int), undef, .int .i64 (n : Int), undef, undef, undef, undef, undef, undef, undef, undef, undef, undef, undef, undef, undef, undef, undef, undef, undef, undef, undef, undef, undef, undef], []⟩ w := by
  refine wpAnyH_ready (rs := [1, 7, 9, 11]) (by kernel_rfl) (by simp) ?_
  refine AllReadyH.cons (o := { dst := some 19, op := Op.call { callee := Callee.value (Operand.tmp 18), args := #[Operand.const (Value.int IntKind.i64 1), Operand.const (Value.int IntKind.i64 0)], argTypes := #[3, 3] }, type := 27, pos := "gens.go:22", after := #[{ on := 0, ground := Ground.data }], guard := none }) rfl (fun K hK => ?_) ?_
  · have C := hidden (HC 1 (by omega) w hS)
    go_simp
    refine (C.out).mono ?_
    rintro e wn ⟨u0, rfl, hu0, hb⟩
    go_wp2_with fail
    refine hK.out _ _ (bl_trans hS hb) (fun _ => ?_)
    exact so_1000 Q n X x1 x3 x4 x5 x6 x7 x9 x10 x11 x12 x13 x14 x15 x16 x17 w0 PP HQ HC HM u0 _ (bl_trans hS hb) hu0
  refine AllReadyH.cons (o := { dst := some 25, op := Op.makeSlice 28 (Operand.tmp 24) (Operand.tmp 24), type := 28, pos := "gens.go:21", after := #[{ on := 6, ground := Ground.data }, { on := 6, ground := Ground.data }], guard := none }) rfl (fun K hK => ?_) ?_
  · have hmk := HM
    unfold HM3 at hmk
    go_wp2_with fail
    have hb := bl_alloc w (.cells (madeCells #[.slice none 0 0] n) 27)
    refine hK.out _ _ (bl_trans hS hb) (fun _ => ?_)
    have hm1 : Mv w0.heap.size (w.alloc (.cells (madeCells #[.slice none 0 0] n) 27)) (.slice (some ⟨w.heap.size, 0, none⟩) n n) n := ⟨_, rfl, hS.size, Gs.made w n _⟩
    exact so_0100 Q n X x1 x3 x4 x5 x6 x7 x9 x10 x11 x12 x13 x14 x15 x16 x17 w0 PP HQ HC HM _ _ (bl_trans hS hb) hm1
  refine AllReadyH.cons (o := { dst := some 27, op := Op.makeSlice 28 (Operand.tmp 26) (Operand.tmp 26), type := 28, pos := "gens.go:21", after := #[{ on := 8, ground := Ground.data }, { on := 8, ground := Ground.data }], guard := none }) rfl (fun K hK => ?_) ?_
  · have hmk := HM
    unfold HM3 at hmk
    go_wp2_with fail
    have hb := bl_alloc w (.cells (madeCells #[.slice none 0 0] n) 27)
    refine hK.out _ _ (bl_trans hS hb) (fun _ => ?_)
    have hm2 : Mv w0.heap.size (w.alloc (.cells (madeCells #[.slice none 0 0] n) 27)) (.slice (some ⟨w.heap.size, 0, none⟩) n n) n := ⟨_, rfl, hS.size, Gs.made w n _⟩
    exact so_0010 Q n X x1 x3 x4 x5 x6 x7 x9 x10 x11 x12 x13 x14 x15 x16 x17 w0 PP HQ HC HM _ _ (bl_trans hS hb) hm2
  refine AllReadyH.cons (o := { dst := some 8, op := Op.alloc 30, type := 0, pos := "gens.go:21", after := #[], guard := none }) rfl (fun K hK => ?_) ?_
  · have hmk := HM
    unfold HM3 at hmk
    go_wp2_with fail
    have hb := bl_alloc w (.cells #[.slice none 0 0, .slice none 0 0, .slice none 0 0, .slice none 0 0, .slice none 0 0] 30)
    refine hK.out _ _ (bl_trans hS hb) (fun _ => ?_)
    have hal : Av w0.heap.size (w.alloc (.cells #[.slice none 0 0, .slice none 0 0, .slice none 0 0, .slice none 0 0, .slice none 0 0] 30)) (.pointer (some ⟨w.heap.size, 0, none⟩)) := ⟨_, rfl, hS.size, Gs.five w _⟩
    exact so_0001 Q n X x1 x3 x4 x5 x6 x7 x9 x10 x11 x12 x13 x14 x15 x16 x17 w0 PP HQ HC HM _ _ (bl_trans hS hb) hal
  exact AllReadyH.nil
end
end Go.Proofs.YthlohkbicnicjaaGreatDoor
