import Derived.Test.YtcecpfcekejblaaBkc
namespace Go.Proofs.Ytcecpfcekejblaa
open Go.RowKit
set_option linter.unusedVariables false
/-- values that are lists of bytes, none empty, each from the front of its block -/
def Lv (w : World) : List Value → List (List UInt8) → Prop
  | [], [] => True
  | v :: vs, p :: ps => (∃ b c : Nat, v = .slice (some ⟨b, 0, none⟩) p.length c ∧ 1 ≤ p.length ∧ By w (some ⟨b, 0, none⟩) c p) ∧ Lv w vs ps
  | _, _ => False
theorem Lv.keep {w w' : World} (hb : Below w.heap.size w w') : ∀ {vs : List Value} {ps : List (List UInt8)}, Lv w vs ps → Lv w' vs ps
  | [], [], _ => trivial
  | _ :: _, _ :: _, ⟨⟨b, c, e, h1, h2⟩, h⟩ => ⟨⟨b, c, e, h1, h2.keep hb⟩, Lv.keep hb h⟩
theorem Lv.len {w : World} : ∀ {vs : List Value} {ps : List (List UInt8)}, Lv w vs ps → vs.length = ps.length
  | [], [], _ => rfl
  | _ :: _, _ :: _, ⟨_, h⟩ => by simp [Lv.len h]
  | [], _ :: _, h => by cases h
  | _ :: _, [], h => by cases h
theorem Lv.snoc {w : World} {b c : Nat} {p : List UInt8} (h1 : 1 ≤ p.length) (h2 : By w (some ⟨b, 0, none⟩) c p) : ∀ {vs : List Value} {ps : List (List UInt8)}, Lv w vs ps → Lv w (vs ++ [.slice (some ⟨b, 0, none⟩) p.length c]) (ps ++ [p])
  | [], [], _ => ⟨⟨b, c, rfl, h1, h2⟩, trivial⟩
  | _ :: _, _ :: _, ⟨h, hs⟩ => ⟨h, Lv.snoc h1 h2 hs⟩
  | [], _ :: _, h => by cases h
  | _ :: _, [], h => by cases h
theorem By.ne {w : World} {B n b c : Nat} {v : Value} {vs : List Value} {p : List UInt8} (ho : w.ownsRow B 24 1 v n vs) (hn : 0 < n) (hs : ∃ P m d, vs[0]? = some (Value.slice P m d)) (h1 : 1 ≤ p.length) (h : By w (some ⟨b, 0, none⟩) c p) : v.ownBlock ≠ some b := by
  obtain ⟨g, d, rfl, _⟩ := own_some ho hn
  intro e
  obtain rfl : g = b := Option.some.inj e
  have e1 := ho.cellAt 0 (by omega)
  have e2 := h.at 0 (by omega)
  obtain ⟨P, m, d', hs⟩ := hs
  rw [hs] at e1
  rw [Nat.zero_add] at e2
  rw [e1] at e2
  cases Option.some.inj e2
theorem Lv.grown {w w' : World} {B n : Nat} {v : Value} {xs : List Value} (ho : w.ownsRow B 24 1 v n xs) (hn : 0 < n) (hs : ∃ P m d, xs[0]? = some (Value.slice P m d)) (hg : w.grownBy w' v.ownBlock) : ∀ {vs : List Value} {ps : List (List UInt8)}, Lv w vs ps → Lv w' vs ps
  | [], [], _ => trivial
  | _ :: _, _ :: _, ⟨⟨b, c, e, h1, h2⟩, h⟩ => ⟨⟨b, c, e, h1, h2.blk (hg.block b (by
      have := h2.at 0 (by omega)
      exact World.block_lt_of_cell? _ _ this) (fun e => By.ne ho hn hs h1 h2 e.symm))⟩, Lv.grown ho hn hs hg h⟩
theorem Lv.get {w : World} : ∀ {vs : List Value} {ps : List (List UInt8)}, Lv w vs ps → ∀ i, i < ps.length → ∃ b c : Nat, vs[i]? = some (.slice (some ⟨b, 0, none⟩) (ps.getD i []).length c) ∧ By w (some ⟨b, 0, none⟩) c (ps.getD i [])
  | [], [], _, i, hi => absurd hi (by simp)
  | _ :: _, _ :: _, ⟨⟨b, c, e, h1, h2⟩, h⟩, 0, hi => ⟨b, c, by simpa using e, by simpa using h2⟩
  | _ :: _, _ :: _, ⟨_, h⟩, i + 1, hi => by
    obtain ⟨b, c, e1, e2⟩ := Lv.get h i (by simpa using hi)
    exact ⟨b, c, by simpa using e1, by simpa using e2⟩
theorem Lv.pt {w : World} {B n g cap : Nat} {vs : List Value} {ps : List (List UInt8)} (h : Lv w vs ps) (ho : w.ownsRow B 24 1 (.slice (some ⟨g, 0, none⟩) n cap) n vs) (hn : n = ps.length) : ∃ q c, Pt w (some ⟨g, 0, none⟩) ps q c := by
  have key : ∀ i, ∃ z : Option Addr × Nat, i < ps.length → vs[i]? = some (.slice z.1 (ps.getD i []).length z.2) ∧ By w z.1 z.2 (ps.getD i []) := fun i => by
    by_cases hi : i < ps.length
    · obtain ⟨b, c, e1, e2⟩ := h.get i hi
      exact ⟨(_, _), fun _ => ⟨e1, e2⟩⟩
    · exact ⟨(none, 0), fun h => absurd h hi⟩
  obtain ⟨f, hf⟩ := Classical.axiomOfChoice key
  refine ⟨fun i => (f i).1, fun i => (f i).2, ⟨fun _ => ⟨g, 0, rfl, fun i hi => ?_⟩, fun i hi => (hf i hi).2⟩⟩
  rw [Nat.zero_add, ho.cellAt i (by omega)]
  exact (hf i hi).1
theorem own5 (v0 v1 v2 v3 v4 : Value) (w : World) {B : Nat} (hB : B ≤ w.heap.size) : (w.alloc (.cells #[v0, v1, v2, v3, v4] 24)).ownsRow B 24 1 (.slice (some ⟨w.heap.size, 0, none⟩) 5 5) 5 [v0, v1, v2, v3, v4] :=
  ⟨by simp, .inr ⟨w.heap.size, 5, _, rfl, hB, heap_alloc_new w _, by omega, by unfold maxLen; omega, by simp, by simp⟩⟩
theorem lv5 {w : World} {N0 bx g2 g3 g4 c2 c3 c4 : Nat} {par p2 p3 p4 : List UInt8} (h0 : By w (some ⟨N0, 0, none⟩) 1 [3]) (h1 : By w (some ⟨bx, 0, none⟩) 64 par) (h2 : By w (some ⟨g2, 0, none⟩) c2 p2) (h3 : By w (some ⟨g3, 0, none⟩) c3 p3) (h4 : By w (some ⟨g4, 0, none⟩) c4 p4) (l0 : par.length = 64) (l2 : 1 ≤ p2.length) (l3 : 1 ≤ p3.length) (l4 : 1 ≤ p4.length) :
    Lv w [.slice (some ⟨N0, 0, none⟩) 1 1, .slice (some ⟨bx, 0, none⟩) 64 64, .slice (some ⟨g2, 0, none⟩) p2.length c2, .slice (some ⟨g3, 0, none⟩) p3.length c3, .slice (some ⟨g4, 0, none⟩) p4.length c4] [[3], par, p2, p3, p4] :=
  ⟨⟨_, _, rfl, by simp, h0⟩, ⟨_, _, by rw [l0], by omega, h1⟩, ⟨_, _, rfl, l2, h2⟩, ⟨_, _, rfl, l3, h3⟩, ⟨_, _, rfl, l4, h4⟩, trivial⟩
theorem build1 (w : World) : (Instr.buildSlice 24 1 #[(0, .int .u8 3)]).run Try.prog w = .ok (.slice (some ⟨w.heap.size, 0, none⟩) 1 1) (w.alloc (.cells #[.int .u8 3] 5)) := by kernel_rfl
theorem wp_build1 {w : World} {o : Oper} {a : Act} {K : Act → World → Prop} {Q : Exit → Act → World → Prop} (ho : o.op = .buildSlice 24 1 #[(0, .const (.int .u8 3))]) (h : ∀ (tb : Nat) (wq : World), tb = w.heap.size → wq = w.alloc (.cells (cb [3]).toArray 5) → K (a.put o.dst (.slice (some ⟨tb, 0, none⟩) 1 1)) wq) : o.wp Try.prog a w K Q := by
  have hr := build1 w
  unfold Oper.wp execOp
  simp only [ho, Sem.run_bind, Sem.run_pure, Result.andThen_ok, List.map_toArray, List.map_cons, List.map_nil, Act.eval, hr]
  exact h _ _ rfl rfl
theorem build5 (b0 b1 b2 b3 b4 n0 n1 n2 n3 n4 c0 c1 c2 c3 c4 : Nat) (w : World) : (Instr.buildSlice 25 5 #[(0, .slice (some ⟨b0, 0, none⟩) n0 c0), (1, .slice (some ⟨b1, 0, none⟩) n1 c1), (2, .slice (some ⟨b2, 0, none⟩) n2 c2), (3, .slice (some ⟨b3, 0, none⟩) n3 c3), (4, .slice (some ⟨b4, 0, none⟩) n4 c4)]).run Try.prog w = .ok (.slice (some ⟨w.heap.size, 0, none⟩) 5 5) (w.alloc (.cells #[.slice (some ⟨b0, 0, none⟩) n0 c0, .slice (some ⟨b1, 0, none⟩) n1 c1, .slice (some ⟨b2, 0, none⟩) n2 c2, .slice (some ⟨b3, 0, none⟩) n3 c3, .slice (some ⟨b4, 0, none⟩) n4 c4] 24)) := by kernel_rfl
theorem wp_build5 {w : World} {o : Oper} {a : Act} {K : Act → World → Prop} {Q : Exit → Act → World → Prop} (x0 x1 x2 x3 x4 : Operand) (ho : o.op = .buildSlice 25 5 #[(0, x0), (1, x1), (2, x2), (3, x3), (4, x4)]) (b0 b1 b2 b3 b4 n0 n1 n2 n3 n4 c0 c1 c2 c3 c4 : Nat) (h0 : a.eval x0 = .slice (some ⟨b0, 0, none⟩) n0 c0) (h1 : a.eval x1 = .slice (some ⟨b1, 0, none⟩) n1 c1) (h2 : a.eval x2 = .slice (some ⟨b2, 0, none⟩) n2 c2) (h3 : a.eval x3 = .slice (some ⟨b3, 0, none⟩) n3 c3) (h4 : a.eval x4 = .slice (some ⟨b4, 0, none⟩) n4 c4) (h : ∀ (tb : Nat) (wq : World), tb = w.heap.size → wq = w.alloc (.cells #[.slice (some ⟨b0, 0, none⟩) n0 c0, .slice (some ⟨b1, 0, none⟩) n1 c1, .slice (some ⟨b2, 0, none⟩) n2 c2, .slice (some ⟨b3, 0, none⟩) n3 c3, .slice (some ⟨b4, 0, none⟩) n4 c4] 24) → K (a.put o.dst (.slice (some ⟨tb, 0, none⟩) 5 5)) wq) : o.wp Try.prog a w K Q := by
  have hr := build5 b0 b1 b2 b3 b4 n0 n1 n2 n3 n4 c0 c1 c2 c3 c4 w
  unfold Oper.wp execOp
  simp only [ho, Sem.run_bind, Sem.run_pure, Result.andThen_ok, List.map_toArray, List.map_cons, List.map_nil, h0, h1, h2, h3, h4, hr]
  exact h _ _ rfl rfl
def bk6o : Array Oper := #[{ dst := some 30, op := Op.buildSlice 24 1 #[(0, Operand.const (Value.int IntKind.u8 3))], type := 24, pos := "ledger.go:107", after := #[], guard := none },
  { dst := some 31, op := Op.slice 23 (Operand.tmp 4) none none none, type := 24, pos := "ledger.go:107", after := #[], guard := none },
  { dst := some 32, op := Op.move (Operand.tmp 1), type := 3, pos := "ledger.go:107", after := #[], guard := none },
  { dst := some 33, op := Op.convert 3 38 (Operand.tmp 32), type := 38, pos := "ledger.go:107", after := #[{ on := 2, ground := Ground.data }], guard := none },
  { dst := some 34, op := Op.call { callee := Callee.value (Operand.func 13), args := #[Operand.const (Value.slice none 0 0), Operand.tmp 33], argTypes := #[24, 38] }, type := 24, pos := "ledger.go:110", after := #[{ on := 3, ground := Ground.data }], guard := none },
  { dst := some 35, op := Op.move (Operand.tmp 2), type := 24, pos := "ledger.go:107", after := #[], guard := none },
  { dst := some 36, op := Op.call { callee := Callee.value (Operand.func 14), args := #[Operand.const (Value.slice none 0 0), Operand.tmp 35], argTypes := #[24, 24] }, type := 24, pos := "ledger.go:111", after := #[{ on := 5, ground := Ground.data }, { on := 4, ground := Ground.chain }], guard := none },
  { dst := some 37, op := Op.move (Operand.tmp 3), type := 25, pos := "ledger.go:107", after := #[], guard := none },
  { dst := some 38, op := Op.call { callee := Callee.builtin Builtin.len, args := #[Operand.tmp 37], argTypes := #[25] }, type := 3, pos := "ledger.go:107", after := #[{ on := 7, ground := Ground.data }], guard := none },
  { dst := some 39, op := Op.convert 3 38 (Operand.tmp 38), type := 38, pos := "ledger.go:107", after := #[{ on := 8, ground := Ground.data }], guard := none },
  { dst := some 40, op := Op.call { callee := Callee.value (Operand.func 13), args := #[Operand.const (Value.slice none 0 0), Operand.tmp 39], argTypes := #[24, 38] }, type := 24, pos := "ledger.go:112", after := #[{ on := 9, ground := Ground.data }, { on := 6, ground := Ground.chain }], guard := none },
  { dst := some 41, op := Op.buildSlice 25 5 #[(0, Operand.tmp 30), (1, Operand.tmp 31), (2, Operand.tmp 34), (3, Operand.tmp 36), (4, Operand.tmp 40)], type := 25, pos := "ledger.go:107", after := #[{ on := 0, ground := Ground.data }, { on := 1, ground := Ground.data }, { on := 4, ground := Ground.data }, { on := 6, ground := Ground.data }, { on := 10, ground := Ground.data }], guard := none },
  { dst := some 11, op := Op.assign (Operand.tmp 41), type := 25, pos := "ledger.go:107", after := #[{ on := 11, ground := Ground.data }, { on := 10, ground := Ground.chain }, { on := 0, ground := Ground.phase }, { on := 1, ground := Ground.phase }, { on := 2, ground := Ground.phase }, { on := 3, ground := Ground.phase }, { on := 4, ground := Ground.phase }, { on := 5, ground := Ground.phase }, { on := 6, ground := Ground.phase }, { on := 7, ground := Ground.phase }, { on := 8, ground := Ground.phase }, { on := 9, ground := Ground.phase }, { on := 10, ground := Ground.phase }, { on := 11, ground := Ground.phase }], guard := none }]
set_option maxRecDepth 100000 in
set_option maxHeartbeats 16000000 in
theorem bk6 (Q : Exit → Act → World → Prop) (bx h ml cm n cn : Nat) (pm pt : Option Addr) (par p2 p3 p4 : List UInt8) (u0 u5 u6 u7 u8 u9 u10 u11 u12 u13 u14 u15 u16 u17 u18 u19 u20 u21 u22 u23 u24 u25 u26 u27 u28 u29 u30 u31 u32 u33 u34 u35 u36 u37 u38 u39 u40 u41 u42 u43 u44 u45 u46 u47 u48 u49 u50 u51 u52 u53 u54 u55 : Value) (W : World)
    (z1 : IntKind.u64.wrap (h : Int) = (h : Int)) (z2 : IntKind.u64.wrap (n : Int) = (n : Int)) (z3 : (h : Int) % 18446744073709551616 = (h : Int)) (z4 : (n : Int) % 18446744073709551616 = (n : Int))
    (l0 : par.length = 64) (l2 : 1 ≤ p2.length) (l3 : 1 ≤ p3.length) (l4 : 1 ≤ p4.length) (K0 : Hid (By W (some ⟨bx, 0, none⟩) 64 par))
    (C4 : Hid (∀ y, Below W.heap.size W y → Calls Try.prog 13 #[.slice none 0 0, .int .u64 (h : Int)] y fun e w' => ∃ g c : Nat, e = .returned (.slice (some ⟨g, 0, none⟩) p2.length c) ∧ By w' (some ⟨g, 0, none⟩) c p2 ∧ Below y.heap.size y w'))
    (C6 : Hid (∀ y, Below W.heap.size W y → Calls Try.prog 14 #[.slice none 0 0, .slice pm ml cm] y fun e w' => ∃ g c : Nat, e = .returned (.slice (some ⟨g, 0, none⟩) p3.length c) ∧ By w' (some ⟨g, 0, none⟩) c p3 ∧ Below y.heap.size y w'))
    (C10 : Hid (∀ y, Below W.heap.size W y → Calls Try.prog 13 #[.slice none 0 0, .int .u64 (n : Int)] y fun e w' => ∃ g c : Nat, e = .returned (.slice (some ⟨g, 0, none⟩) p4.length c) ∧ By w' (some ⟨g, 0, none⟩) c p4 ∧ Below y.heap.size y w'))
    (HQ : Hid (∀ (N0 g2 c2 g3 c3 g4 c4 tb : Nat) (wz : World), wz.ownsRow W.heap.size 24 1 (.slice (some ⟨tb, 0, none⟩) 5 5) 5 [.slice (some ⟨N0, 0, none⟩) 1 1, .slice (some ⟨bx, 0, none⟩) 64 64, .slice (some ⟨g2, 0, none⟩) p2.length c2, .slice (some ⟨g3, 0, none⟩) p3.length c3, .slice (some ⟨g4, 0, none⟩) p4.length c4] → Lv wz [.slice (some ⟨N0, 0, none⟩) 1 1, .slice (some ⟨bx, 0, none⟩) 64 64, .slice (some ⟨g2, 0, none⟩) p2.length c2, .slice (some ⟨g3, 0, none⟩) p3.length c3, .slice (some ⟨g4, 0, none⟩) p4.length c4] [[3], par, p2, p3, p4] → Below W.heap.size W wz → Q .normal ⟨#[u0, .int .i64 (h : Int), .slice pm ml cm, .slice pt n cn, .pointer (some ⟨bx, 0, none⟩), u5, u6, u7, u8, u9, u10, .slice (some ⟨tb, 0, none⟩) 5 5, u12, u13, u14, u15, u16, u17, u18, u19, u20, u21, u22, u23, u24, u25, u26, u27, u28, u29, .slice (some ⟨N0, 0, none⟩) 1 1, .slice (some ⟨bx, 0, none⟩) 64 64, .int .i64 (h : Int), .int .u64 (h : Int), .slice (some ⟨g2, 0, none⟩) p2.length c2, .slice pm ml cm, .slice (some ⟨g3, 0, none⟩) p3.length c3, .slice pt n cn, .int .i64 (n : Int), .int .u64 (n : Int), .slice (some ⟨g4, 0, none⟩) p4.length c4, .slice (some ⟨tb, 0, none⟩) 5 5, u42, u43, u44, u45, u46, u47, u48, u49, u50, u51, u52, u53, u54, u55], []⟩ wz)) : (Code.region 6 bk6o true).wp Try.prog Q ⟨#[u0, .int .i64 (h : Int), .slice pm ml cm, .slice pt n cn, .pointer (some ⟨bx, 0, none⟩), u5, u6, u7, u8, u9, u10, u11, u12, u13, u14, u15, u16, u17, u18, u19, u20, u21, u22, u23, u24, u25, u26, u27, u28, u29, u30, u31, u32, u33, u34, u35, u36, u37, u38, u39, u40, u41, u42, u43, u44, u45, u46, u47, u48, u49, u50, u51, u52, u53, u54, u55], []⟩ W := by
  unfold bk6o
  refine wp_region_noPanic ?_
  refine wp_region_held_drew (S := fun x => Below W.heap.size W x) (by kernel_rfl) (drew_blW W) (fun hH0 => ?_)
  refine wpAnyH_take (i := 1) (oi := { dst := some 31, op := Op.slice 23 (Operand.tmp 4) none none none, type := 24, pos := "ledger.go:107", after := #[], guard := none }) (v := .slice (some ⟨bx, 0, none⟩) 64 64) rfl (by kernel_rfl) (by kernel_rfl) (by kernel_rfl) (fun _ _ _ h => h) (Or.inl ⟨by rfl, fun w0 hSw => ?_⟩) hH0 ?_
  · (clear hSw; go_simp)
  simp only [Act.put, List.setIfInBounds_toArray, List.set_cons_zero, List.set_cons_succ]
  refine wpAnyH_take (i := 2) (oi := { dst := some 32, op := Op.move (Operand.tmp 1), type := 3, pos := "ledger.go:107", after := #[], guard := none }) (v := .int .i64 (h : Int)) rfl (by kernel_rfl) (by kernel_rfl) (by kernel_rfl) (fun _ _ _ h => h) (Or.inl ⟨by rfl, fun w0 hSw => ?_⟩) hH0 ?_
  · (clear hSw; go_simp)
  simp only [Act.put, List.setIfInBounds_toArray, List.set_cons_zero, List.set_cons_succ]
  refine wpAnyH_take (i := 5) (oi := { dst := some 35, op := Op.move (Operand.tmp 2), type := 24, pos := "ledger.go:107", after := #[], guard := none }) (v := .slice pm ml cm) rfl (by kernel_rfl) (by kernel_rfl) (by kernel_rfl) (fun _ _ _ h => h) (Or.inl ⟨by rfl, fun w0 hSw => ?_⟩) hH0 ?_
  · (clear hSw; go_simp)
  simp only [Act.put, List.setIfInBounds_toArray, List.set_cons_zero, List.set_cons_succ]
  refine wpAnyH_take (i := 7) (oi := { dst := some 37, op := Op.move (Operand.tmp 3), type := 25, pos := "ledger.go:107", after := #[], guard := none }) (v := .slice pt n cn) rfl (by kernel_rfl) (by kernel_rfl) (by kernel_rfl) (fun _ _ _ h => h) (Or.inl ⟨by rfl, fun w0 hSw => ?_⟩) hH0 ?_
  · (clear hSw; go_simp)
  simp only [Act.put, List.setIfInBounds_toArray, List.set_cons_zero, List.set_cons_succ]
  refine wpAnyH_take (i := 3) (oi := { dst := some 33, op := Op.convert 3 38 (Operand.tmp 32), type := 38, pos := "ledger.go:107", after := #[{ on := 2, ground := Ground.data }], guard := none }) (v := .int .u64 (h : Int)) rfl (by kernel_rfl) (by kernel_rfl) (by kernel_rfl) (fun _ _ _ h => h) (Or.inl ⟨by rfl, fun w0 hSw => ?_⟩) hH0 ?_
  · (clear hSw; go_simp)
  simp only [Act.put, List.setIfInBounds_toArray, List.set_cons_zero, List.set_cons_succ]
  refine wpAnyH_take (i := 8) (oi := { dst := some 38, op := Op.call { callee := Callee.builtin Builtin.len, args := #[Operand.tmp 37], argTypes := #[25] }, type := 3, pos := "ledger.go:107", after := #[{ on := 7, ground := Ground.data }], guard := none }) (v := .int .i64 (n : Int)) rfl (by kernel_rfl) (by kernel_rfl) (by kernel_rfl) (fun _ _ _ h => h) (Or.inl ⟨by rfl, fun w0 hSw => ?_⟩) hH0 ?_
  · (clear hSw; go_simp)
  simp only [Act.put, List.setIfInBounds_toArray, List.set_cons_zero, List.set_cons_succ]
  refine wpAnyH_take (i := 9) (oi := { dst := some 39, op := Op.convert 3 38 (Operand.tmp 38), type := 38, pos := "ledger.go:107", after := #[{ on := 8, ground := Ground.data }], guard := none }) (v := .int .u64 (n : Int)) rfl (by kernel_rfl) (by kernel_rfl) (by kernel_rfl) (fun _ _ _ h => h) (Or.inl ⟨by rfl, fun w0 hSw => ?_⟩) hH0 ?_
  · (clear hSw; go_simp)
  simp only [Act.put, List.setIfInBounds_toArray, List.set_cons_zero, List.set_cons_succ]
  refine wpAnyH_ready (rs := [0, 4]) (by kernel_rfl) (by simp) ?_
  refine AllReadyH.cons (o := { dst := some 30, op := Op.buildSlice 24 1 #[(0, Operand.const (Value.int IntKind.u8 3))], type := 24, pos := "ledger.go:107", after := #[], guard := none }) rfl (fun K hK => ?_) (AllReadyH.cons (o := { dst := some 34, op := Op.call { callee := Callee.value (Operand.func 13), args := #[Operand.const (Value.slice none 0 0), Operand.tmp 33], argTypes := #[24, 38] }, type := 24, pos := "ledger.go:110", after := #[{ on := 3, ground := Ground.data }], guard := none }) rfl (fun K hK => ?_) AllReadyH.nil)
  · have HH := hidden hH0
    clear hH0
    refine wp_build1 rfl (fun N0 wn1 hN hwq => ?_)
    have R0 := hidden ((by rw [hN, hwq]; exact by_list _ [3] 1 : By wn1 (some ⟨N0, 0, none⟩) 1 [3]))
    have SN := hidden ((by rw [hwq]; exact bl_trans HH.out (bl_alloc _ _) : Below W.heap.size W wn1))
    clear HH hN hwq
    simp only [Act.put, List.setIfInBounds_toArray, List.set_cons_zero, List.set_cons_succ]
    refine hK.out _ _ SN.out (fun hH1 => ?_)
    clear hK K SN
    refine wpAnyH_ready (rs := [4]) (by kernel_rfl) (by simp) ?_
    refine AllReadyH.cons (o := { dst := some 34, op := Op.call { callee := Callee.value (Operand.func 13), args := #[Operand.const (Value.slice none 0 0), Operand.tmp 33], argTypes := #[24, 38] }, type := 24, pos := "ledger.go:110", after := #[{ on := 3, ground := Ground.data }], guard := none }) rfl (fun K hK => ?_) AllReadyH.nil
    have HH := hidden hH1
    clear hH1
    go_simp
    refine (C4.out _ HH.out).mono ?_
    rintro e wn2 ⟨g2, c2, rfl, hy, hb⟩
    replace R0 := hidden (R0.out.keep hb)
    have R2 := hidden (hy)
    have SN := hidden (bl_trans HH.out hb)
    clear HH C4 hy hb
    go_wp2_with fail
    refine hK.out _ _ SN.out (fun hH2 => ?_)
    clear hK K SN
    refine wpAnyH_ready (rs := [6]) (by kernel_rfl) (by simp) ?_
    refine AllReadyH.cons (o := { dst := some 36, op := Op.call { callee := Callee.value (Operand.func 14), args := #[Operand.const (Value.slice none 0 0), Operand.tmp 35], argTypes := #[24, 24] }, type := 24, pos := "ledger.go:111", after := #[{ on := 5, ground := Ground.data }, { on := 4, ground := Ground.chain }], guard := none }) rfl (fun K hK => ?_) AllReadyH.nil
    have HH := hidden hH2
    clear hH2
    go_simp
    refine (C6.out _ HH.out).mono ?_
    rintro e wn3 ⟨g3, c3, rfl, hy, hb⟩
    replace R0 := hidden (R0.out.keep hb)
    replace R2 := hidden (R2.out.keep hb)
    have R3 := hidden (hy)
    have SN := hidden (bl_trans HH.out hb)
    clear HH C6 hy hb
    go_wp2_with fail
    refine hK.out _ _ SN.out (fun hH3 => ?_)
    clear hK K SN
    refine wpAnyH_ready (rs := [10]) (by kernel_rfl) (by simp) ?_
    refine AllReadyH.cons (o := { dst := some 40, op := Op.call { callee := Callee.value (Operand.func 13), args := #[Operand.const (Value.slice none 0 0), Operand.tmp 39], argTypes := #[24, 38] }, type := 24, pos := "ledger.go:112", after := #[{ on := 9, ground := Ground.data }, { on := 6, ground := Ground.chain }], guard := none }) rfl (fun K hK => ?_) AllReadyH.nil
    have HH := hidden hH3
    clear hH3
    go_simp
    refine (C10.out _ HH.out).mono ?_
    rintro e wn4 ⟨g4, c4, rfl, hy, hb⟩
    replace R0 := hidden (R0.out.keep hb)
    replace R2 := hidden (R2.out.keep hb)
    replace R3 := hidden (R3.out.keep hb)
    have R4 := hidden (hy)
    have SN := hidden (bl_trans HH.out hb)
    clear HH C10 hy hb
    go_wp2_with fail
    refine hK.out _ _ SN.out (fun hH4 => ?_)
    clear hK K SN
    refine wpAnyH_ready (rs := [11]) (by kernel_rfl) (by simp) ?_
    refine AllReadyH.cons (o := { dst := some 41, op := Op.buildSlice 25 5 #[(0, Operand.tmp 30), (1, Operand.tmp 31), (2, Operand.tmp 34), (3, Operand.tmp 36), (4, Operand.tmp 40)], type := 25, pos := "ledger.go:107", after := #[{ on := 0, ground := Ground.data }, { on := 1, ground := Ground.data }, { on := 4, ground := Ground.data }, { on := 6, ground := Ground.data }, { on := 10, ground := Ground.data }], guard := none }) rfl (fun K hK => ?_) AllReadyH.nil
    have HH := hidden hH4
    clear hH4
    refine wp_build5 (.tmp 30) (.tmp 31) (.tmp 34) (.tmp 36) (.tmp 40) rfl N0 bx g2 g3 g4 1 64 p2.length p3.length p4.length 1 64 c2 c3 c4 rfl rfl rfl rfl rfl (fun tb wn5 htb hwq => ?_)
    have OW := hidden ((by rw [htb, hwq]; exact own5 _ _ _ _ _ _ HH.out.size : wn5.ownsRow W.heap.size 24 1 (.slice (some ⟨tb, 0, none⟩) 5 5) 5 [.slice (some ⟨N0, 0, none⟩) 1 1, .slice (some ⟨bx, 0, none⟩) 64 64, .slice (some ⟨g2, 0, none⟩) p2.length c2, .slice (some ⟨g3, 0, none⟩) p3.length c3, .slice (some ⟨g4, 0, none⟩) p4.length c4]))
    have LV := hidden ((by rw [hwq]; exact (lv5 R0.out (K0.out.keep HH.out) R2.out R3.out R4.out l0 l2 l3 l4).keep (bl_alloc _ _) : Lv wn5 [.slice (some ⟨N0, 0, none⟩) 1 1, .slice (some ⟨bx, 0, none⟩) 64 64, .slice (some ⟨g2, 0, none⟩) p2.length c2, .slice (some ⟨g3, 0, none⟩) p3.length c3, .slice (some ⟨g4, 0, none⟩) p4.length c4] [[3], par, p2, p3, p4]))
    have SN := hidden ((by rw [hwq]; exact bl_trans HH.out (bl_alloc _ _) : Below W.heap.size W wn5))
    clear HH R0 R2 R3 R4 htb hwq
    simp only [Act.put, List.setIfInBounds_toArray, List.set_cons_zero, List.set_cons_succ]
    refine hK.out _ _ SN.out (fun hH5 => ?_)
    clear hK K SN
    refine wpAnyH_take (i := 12) (oi := { dst := some 11, op := Op.assign (Operand.tmp 41), type := 25, pos := "ledger.go:107", after := #[{ on := 11, ground := Ground.data }, { on := 10, ground := Ground.chain }, { on := 0, ground := Ground.phase }, { on := 1, ground := Ground.phase }, { on := 2, ground := Ground.phase }, { on := 3, ground := Ground.phase }, { on := 4, ground := Ground.phase }, { on := 5, ground := Ground.phase }, { on := 6, ground := Ground.phase }, { on := 7, ground := Ground.phase }, { on := 8, ground := Ground.phase }, { on := 9, ground := Ground.phase }, { on := 10, ground := Ground.phase }, { on := 11, ground := Ground.phase }], guard := none }) (v := .slice (some ⟨tb, 0, none⟩) 5 5) rfl (by kernel_rfl) (by kernel_rfl) (by kernel_rfl) (fun _ _ _ h => h) (Or.inl ⟨by rfl, fun w0 hSw => ?_⟩) hH5 ?_
    · (clear hSw; go_simp)
    simp only [Act.put, List.setIfInBounds_toArray, List.set_cons_zero, List.set_cons_succ]
    have HH := hidden hH5
    have FQ := hidden (HQ.out N0 g2 c2 g3 c3 g4 c4 tb _ OW.out LV.out HH.out)
    refine wpAnyH_done (by kernel_rfl) ?_ _
    refine NoPanic.normal ?_
    exact FQ.out
  · have HH := hidden hH0
    clear hH0
    go_simp
    refine (C4.out _ HH.out).mono ?_
    rintro e wn1 ⟨g2, c2, rfl, hy, hb⟩
    have R2 := hidden (hy)
    have SN := hidden (bl_trans HH.out hb)
    clear HH C4 hy hb
    go_wp2_with fail
    refine hK.out _ _ SN.out (fun hH1 => ?_)
    clear hK K SN
    refine wpAnyH_ready (rs := [0, 6]) (by kernel_rfl) (by simp) ?_
    refine AllReadyH.cons (o := { dst := some 30, op := Op.buildSlice 24 1 #[(0, Operand.const (Value.int IntKind.u8 3))], type := 24, pos := "ledger.go:107", after := #[], guard := none }) rfl (fun K hK => ?_) (AllReadyH.cons (o := { dst := some 36, op := Op.call { callee := Callee.value (Operand.func 14), args := #[Operand.const (Value.slice none 0 0), Operand.tmp 35], argTypes := #[24, 24] }, type := 24, pos := "ledger.go:111", after := #[{ on := 5, ground := Ground.data }, { on := 4, ground := Ground.chain }], guard := none }) rfl (fun K hK => ?_) AllReadyH.nil)
    · have HH := hidden hH1
      clear hH1
      refine wp_build1 rfl (fun N0 wn2 hN hwq => ?_)
      have R0 := hidden ((by rw [hN, hwq]; exact by_list _ [3] 1 : By wn2 (some ⟨N0, 0, none⟩) 1 [3]))
      replace R2 := hidden ((by rw [hwq]; exact R2.out.keep (bl_alloc _ _) : By wn2 (some ⟨g2, 0, none⟩) c2 p2))
      have SN := hidden ((by rw [hwq]; exact bl_trans HH.out (bl_alloc _ _) : Below W.heap.size W wn2))
      clear HH hN hwq
      simp only [Act.put, List.setIfInBounds_toArray, List.set_cons_zero, List.set_cons_succ]
      refine hK.out _ _ SN.out (fun hH2 => ?_)
      clear hK K SN
      refine wpAnyH_ready (rs := [6]) (by kernel_rfl) (by simp) ?_
      refine AllReadyH.cons (o := { dst := some 36, op := Op.call { callee := Callee.value (Operand.func 14), args := #[Operand.const (Value.slice none 0 0), Operand.tmp 35], argTypes := #[24, 24] }, type := 24, pos := "ledger.go:111", after := #[{ on := 5, ground := Ground.data }, { on := 4, ground := Ground.chain }], guard := none }) rfl (fun K hK => ?_) AllReadyH.nil
      have HH := hidden hH2
      clear hH2
      go_simp
      refine (C6.out _ HH.out).mono ?_
      rintro e wn3 ⟨g3, c3, rfl, hy, hb⟩
      replace R0 := hidden (R0.out.keep hb)
      replace R2 := hidden (R2.out.keep hb)
      have R3 := hidden (hy)
      have SN := hidden (bl_trans HH.out hb)
      clear HH C6 hy hb
      go_wp2_with fail
      refine hK.out _ _ SN.out (fun hH3 => ?_)
      clear hK K SN
      refine wpAnyH_ready (rs := [10]) (by kernel_rfl) (by simp) ?_
      refine AllReadyH.cons (o := { dst := some 40, op := Op.call { callee := Callee.value (Operand.func 13), args := #[Operand.const (Value.slice none 0 0), Operand.tmp 39], argTypes := #[24, 38] }, type := 24, pos := "ledger.go:112", after := #[{ on := 9, ground := Ground.data }, { on := 6, ground := Ground.chain }], guard := none }) rfl (fun K hK => ?_) AllReadyH.nil
      have HH := hidden hH3
      clear hH3
      go_simp
      refine (C10.out _ HH.out).mono ?_
      rintro e wn4 ⟨g4, c4, rfl, hy, hb⟩
      replace R0 := hidden (R0.out.keep hb)
      replace R2 := hidden (R2.out.keep hb)
      replace R3 := hidden (R3.out.keep hb)
      have R4 := hidden (hy)
      have SN := hidden (bl_trans HH.out hb)
      clear HH C10 hy hb
      go_wp2_with fail
      refine hK.out _ _ SN.out (fun hH4 => ?_)
      clear hK K SN
      refine wpAnyH_ready (rs := [11]) (by kernel_rfl) (by simp) ?_
      refine AllReadyH.cons (o := { dst := some 41, op := Op.buildSlice 25 5 #[(0, Operand.tmp 30), (1, Operand.tmp 31), (2, Operand.tmp 34), (3, Operand.tmp 36), (4, Operand.tmp 40)], type := 25, pos := "ledger.go:107", after := #[{ on := 0, ground := Ground.data }, { on := 1, ground := Ground.data }, { on := 4, ground := Ground.data }, { on := 6, ground := Ground.data }, { on := 10, ground := Ground.data }], guard := none }) rfl (fun K hK => ?_) AllReadyH.nil
      have HH := hidden hH4
      clear hH4
      refine wp_build5 (.tmp 30) (.tmp 31) (.tmp 34) (.tmp 36) (.tmp 40) rfl N0 bx g2 g3 g4 1 64 p2.length p3.length p4.length 1 64 c2 c3 c4 rfl rfl rfl rfl rfl (fun tb wn5 htb hwq => ?_)
      have OW := hidden ((by rw [htb, hwq]; exact own5 _ _ _ _ _ _ HH.out.size : wn5.ownsRow W.heap.size 24 1 (.slice (some ⟨tb, 0, none⟩) 5 5) 5 [.slice (some ⟨N0, 0, none⟩) 1 1, .slice (some ⟨bx, 0, none⟩) 64 64, .slice (some ⟨g2, 0, none⟩) p2.length c2, .slice (some ⟨g3, 0, none⟩) p3.length c3, .slice (some ⟨g4, 0, none⟩) p4.length c4]))
      have LV := hidden ((by rw [hwq]; exact (lv5 R0.out (K0.out.keep HH.out) R2.out R3.out R4.out l0 l2 l3 l4).keep (bl_alloc _ _) : Lv wn5 [.slice (some ⟨N0, 0, none⟩) 1 1, .slice (some ⟨bx, 0, none⟩) 64 64, .slice (some ⟨g2, 0, none⟩) p2.length c2, .slice (some ⟨g3, 0, none⟩) p3.length c3, .slice (some ⟨g4, 0, none⟩) p4.length c4] [[3], par, p2, p3, p4]))
      have SN := hidden ((by rw [hwq]; exact bl_trans HH.out (bl_alloc _ _) : Below W.heap.size W wn5))
      clear HH R0 R2 R3 R4 htb hwq
      simp only [Act.put, List.setIfInBounds_toArray, List.set_cons_zero, List.set_cons_succ]
      refine hK.out _ _ SN.out (fun hH5 => ?_)
      clear hK K SN
      refine wpAnyH_take (i := 12) (oi := { dst := some 11, op := Op.assign (Operand.tmp 41), type := 25, pos := "ledger.go:107", after := #[{ on := 11, ground := Ground.data }, { on := 10, ground := Ground.chain }, { on := 0, ground := Ground.phase }, { on := 1, ground := Ground.phase }, { on := 2, ground := Ground.phase }, { on := 3, ground := Ground.phase }, { on := 4, ground := Ground.phase }, { on := 5, ground := Ground.phase }, { on := 6, ground := Ground.phase }, { on := 7, ground := Ground.phase }, { on := 8, ground := Ground.phase }, { on := 9, ground := Ground.phase }, { on := 10, ground := Ground.phase }, { on := 11, ground := Ground.phase }], guard := none }) (v := .slice (some ⟨tb, 0, none⟩) 5 5) rfl (by kernel_rfl) (by kernel_rfl) (by kernel_rfl) (fun _ _ _ h => h) (Or.inl ⟨by rfl, fun w0 hSw => ?_⟩) hH5 ?_
      · (clear hSw; go_simp)
      simp only [Act.put, List.setIfInBounds_toArray, List.set_cons_zero, List.set_cons_succ]
      have HH := hidden hH5
      have FQ := hidden (HQ.out N0 g2 c2 g3 c3 g4 c4 tb _ OW.out LV.out HH.out)
      refine wpAnyH_done (by kernel_rfl) ?_ _
      refine NoPanic.normal ?_
      exact FQ.out
    · have HH := hidden hH1
      clear hH1
      go_simp
      refine (C6.out _ HH.out).mono ?_
      rintro e wn2 ⟨g3, c3, rfl, hy, hb⟩
      replace R2 := hidden (R2.out.keep hb)
      have R3 := hidden (hy)
      have SN := hidden (bl_trans HH.out hb)
      clear HH C6 hy hb
      go_wp2_with fail
      refine hK.out _ _ SN.out (fun hH2 => ?_)
      clear hK K SN
      refine wpAnyH_ready (rs := [0, 10]) (by kernel_rfl) (by simp) ?_
      refine AllReadyH.cons (o := { dst := some 30, op := Op.buildSlice 24 1 #[(0, Operand.const (Value.int IntKind.u8 3))], type := 24, pos := "ledger.go:107", after := #[], guard := none }) rfl (fun K hK => ?_) (AllReadyH.cons (o := { dst := some 40, op := Op.call { callee := Callee.value (Operand.func 13), args := #[Operand.const (Value.slice none 0 0), Operand.tmp 39], argTypes := #[24, 38] }, type := 24, pos := "ledger.go:112", after := #[{ on := 9, ground := Ground.data }, { on := 6, ground := Ground.chain }], guard := none }) rfl (fun K hK => ?_) AllReadyH.nil)
      · have HH := hidden hH2
        clear hH2
        refine wp_build1 rfl (fun N0 wn3 hN hwq => ?_)
        have R0 := hidden ((by rw [hN, hwq]; exact by_list _ [3] 1 : By wn3 (some ⟨N0, 0, none⟩) 1 [3]))
        replace R2 := hidden ((by rw [hwq]; exact R2.out.keep (bl_alloc _ _) : By wn3 (some ⟨g2, 0, none⟩) c2 p2))
        replace R3 := hidden ((by rw [hwq]; exact R3.out.keep (bl_alloc _ _) : By wn3 (some ⟨g3, 0, none⟩) c3 p3))
        have SN := hidden ((by rw [hwq]; exact bl_trans HH.out (bl_alloc _ _) : Below W.heap.size W wn3))
        clear HH hN hwq
        simp only [Act.put, List.setIfInBounds_toArray, List.set_cons_zero, List.set_cons_succ]
        refine hK.out _ _ SN.out (fun hH3 => ?_)
        clear hK K SN
        refine wpAnyH_ready (rs := [10]) (by kernel_rfl) (by simp) ?_
        refine AllReadyH.cons (o := { dst := some 40, op := Op.call { callee := Callee.value (Operand.func 13), args := #[Operand.const (Value.slice none 0 0), Operand.tmp 39], argTypes := #[24, 38] }, type := 24, pos := "ledger.go:112", after := #[{ on := 9, ground := Ground.data }, { on := 6, ground := Ground.chain }], guard := none }) rfl (fun K hK => ?_) AllReadyH.nil
        have HH := hidden hH3
        clear hH3
        go_simp
        refine (C10.out _ HH.out).mono ?_
        rintro e wn4 ⟨g4, c4, rfl, hy, hb⟩
        replace R0 := hidden (R0.out.keep hb)
        replace R2 := hidden (R2.out.keep hb)
        replace R3 := hidden (R3.out.keep hb)
        have R4 := hidden (hy)
        have SN := hidden (bl_trans HH.out hb)
        clear HH C10 hy hb
        go_wp2_with fail
        refine hK.out _ _ SN.out (fun hH4 => ?_)
        clear hK K SN
        refine wpAnyH_ready (rs := [11]) (by kernel_rfl) (by simp) ?_
        refine AllReadyH.cons (o := { dst := some 41, op := Op.buildSlice 25 5 #[(0, Operand.tmp 30), (1, Operand.tmp 31), (2, Operand.tmp 34), (3, Operand.tmp 36), (4, Operand.tmp 40)], type := 25, pos := "ledger.go:107", after := #[{ on := 0, ground := Ground.data }, { on := 1, ground := Ground.data }, { on := 4, ground := Ground.data }, { on := 6, ground := Ground.data }, { on := 10, ground := Ground.data }], guard := none }) rfl (fun K hK => ?_) AllReadyH.nil
        have HH := hidden hH4
        clear hH4
        refine wp_build5 (.tmp 30) (.tmp 31) (.tmp 34) (.tmp 36) (.tmp 40) rfl N0 bx g2 g3 g4 1 64 p2.length p3.length p4.length 1 64 c2 c3 c4 rfl rfl rfl rfl rfl (fun tb wn5 htb hwq => ?_)
        have OW := hidden ((by rw [htb, hwq]; exact own5 _ _ _ _ _ _ HH.out.size : wn5.ownsRow W.heap.size 24 1 (.slice (some ⟨tb, 0, none⟩) 5 5) 5 [.slice (some ⟨N0, 0, none⟩) 1 1, .slice (some ⟨bx, 0, none⟩) 64 64, .slice (some ⟨g2, 0, none⟩) p2.length c2, .slice (some ⟨g3, 0, none⟩) p3.length c3, .slice (some ⟨g4, 0, none⟩) p4.length c4]))
        have LV := hidden ((by rw [hwq]; exact (lv5 R0.out (K0.out.keep HH.out) R2.out R3.out R4.out l0 l2 l3 l4).keep (bl_alloc _ _) : Lv wn5 [.slice (some ⟨N0, 0, none⟩) 1 1, .slice (some ⟨bx, 0, none⟩) 64 64, .slice (some ⟨g2, 0, none⟩) p2.length c2, .slice (some ⟨g3, 0, none⟩) p3.length c3, .slice (some ⟨g4, 0, none⟩) p4.length c4] [[3], par, p2, p3, p4]))
        have SN := hidden ((by rw [hwq]; exact bl_trans HH.out (bl_alloc _ _) : Below W.heap.size W wn5))
        clear HH R0 R2 R3 R4 htb hwq
        simp only [Act.put, List.setIfInBounds_toArray, List.set_cons_zero, List.set_cons_succ]
        refine hK.out _ _ SN.out (fun hH5 => ?_)
        clear hK K SN
        refine wpAnyH_take (i := 12) (oi := { dst := some 11, op := Op.assign (Operand.tmp 41), type := 25, pos := "ledger.go:107", after := #[{ on := 11, ground := Ground.data }, { on := 10, ground := Ground.chain }, { on := 0, ground := Ground.phase }, { on := 1, ground := Ground.phase }, { on := 2, ground := Ground.phase }, { on := 3, ground := Ground.phase }, { on := 4, ground := Ground.phase }, { on := 5, ground := Ground.phase }, { on := 6, ground := Ground.phase }, { on := 7, ground := Ground.phase }, { on := 8, ground := Ground.phase }, { on := 9, ground := Ground.phase }, { on := 10, ground := Ground.phase }, { on := 11, ground := Ground.phase }], guard := none }) (v := .slice (some ⟨tb, 0, none⟩) 5 5) rfl (by kernel_rfl) (by kernel_rfl) (by kernel_rfl) (fun _ _ _ h => h) (Or.inl ⟨by rfl, fun w0 hSw => ?_⟩) hH5 ?_
        · (clear hSw; go_simp)
        simp only [Act.put, List.setIfInBounds_toArray, List.set_cons_zero, List.set_cons_succ]
        have HH := hidden hH5
        have FQ := hidden (HQ.out N0 g2 c2 g3 c3 g4 c4 tb _ OW.out LV.out HH.out)
        refine wpAnyH_done (by kernel_rfl) ?_ _
        refine NoPanic.normal ?_
        exact FQ.out
      · have HH := hidden hH2
        clear hH2
        go_simp
        refine (C10.out _ HH.out).mono ?_
        rintro e wn3 ⟨g4, c4, rfl, hy, hb⟩
        replace R2 := hidden (R2.out.keep hb)
        replace R3 := hidden (R3.out.keep hb)
        have R4 := hidden (hy)
        have SN := hidden (bl_trans HH.out hb)
        clear HH C10 hy hb
        go_wp2_with fail
        refine hK.out _ _ SN.out (fun hH3 => ?_)
        clear hK K SN
        refine wpAnyH_ready (rs := [0]) (by kernel_rfl) (by simp) ?_
        refine AllReadyH.cons (o := { dst := some 30, op := Op.buildSlice 24 1 #[(0, Operand.const (Value.int IntKind.u8 3))], type := 24, pos := "ledger.go:107", after := #[], guard := none }) rfl (fun K hK => ?_) AllReadyH.nil
        have HH := hidden hH3
        clear hH3
        refine wp_build1 rfl (fun N0 wn4 hN hwq => ?_)
        have R0 := hidden ((by rw [hN, hwq]; exact by_list _ [3] 1 : By wn4 (some ⟨N0, 0, none⟩) 1 [3]))
        replace R2 := hidden ((by rw [hwq]; exact R2.out.keep (bl_alloc _ _) : By wn4 (some ⟨g2, 0, none⟩) c2 p2))
        replace R3 := hidden ((by rw [hwq]; exact R3.out.keep (bl_alloc _ _) : By wn4 (some ⟨g3, 0, none⟩) c3 p3))
        replace R4 := hidden ((by rw [hwq]; exact R4.out.keep (bl_alloc _ _) : By wn4 (some ⟨g4, 0, none⟩) c4 p4))
        have SN := hidden ((by rw [hwq]; exact bl_trans HH.out (bl_alloc _ _) : Below W.heap.size W wn4))
        clear HH hN hwq
        simp only [Act.put, List.setIfInBounds_toArray, List.set_cons_zero, List.set_cons_succ]
        refine hK.out _ _ SN.out (fun hH4 => ?_)
        clear hK K SN
        refine wpAnyH_ready (rs := [11]) (by kernel_rfl) (by simp) ?_
        refine AllReadyH.cons (o := { dst := some 41, op := Op.buildSlice 25 5 #[(0, Operand.tmp 30), (1, Operand.tmp 31), (2, Operand.tmp 34), (3, Operand.tmp 36), (4, Operand.tmp 40)], type := 25, pos := "ledger.go:107", after := #[{ on := 0, ground := Ground.data }, { on := 1, ground := Ground.data }, { on := 4, ground := Ground.data }, { on := 6, ground := Ground.data }, { on := 10, ground := Ground.data }], guard := none }) rfl (fun K hK => ?_) AllReadyH.nil
        have HH := hidden hH4
        clear hH4
        refine wp_build5 (.tmp 30) (.tmp 31) (.tmp 34) (.tmp 36) (.tmp 40) rfl N0 bx g2 g3 g4 1 64 p2.length p3.length p4.length 1 64 c2 c3 c4 rfl rfl rfl rfl rfl (fun tb wn5 htb hwq => ?_)
        have OW := hidden ((by rw [htb, hwq]; exact own5 _ _ _ _ _ _ HH.out.size : wn5.ownsRow W.heap.size 24 1 (.slice (some ⟨tb, 0, none⟩) 5 5) 5 [.slice (some ⟨N0, 0, none⟩) 1 1, .slice (some ⟨bx, 0, none⟩) 64 64, .slice (some ⟨g2, 0, none⟩) p2.length c2, .slice (some ⟨g3, 0, none⟩) p3.length c3, .slice (some ⟨g4, 0, none⟩) p4.length c4]))
        have LV := hidden ((by rw [hwq]; exact (lv5 R0.out (K0.out.keep HH.out) R2.out R3.out R4.out l0 l2 l3 l4).keep (bl_alloc _ _) : Lv wn5 [.slice (some ⟨N0, 0, none⟩) 1 1, .slice (some ⟨bx, 0, none⟩) 64 64, .slice (some ⟨g2, 0, none⟩) p2.length c2, .slice (some ⟨g3, 0, none⟩) p3.length c3, .slice (some ⟨g4, 0, none⟩) p4.length c4] [[3], par, p2, p3, p4]))
        have SN := hidden ((by rw [hwq]; exact bl_trans HH.out (bl_alloc _ _) : Below W.heap.size W wn5))
        clear HH R0 R2 R3 R4 htb hwq
        simp only [Act.put, List.setIfInBounds_toArray, List.set_cons_zero, List.set_cons_succ]
        refine hK.out _ _ SN.out (fun hH5 => ?_)
        clear hK K SN
        refine wpAnyH_take (i := 12) (oi := { dst := some 11, op := Op.assign (Operand.tmp 41), type := 25, pos := "ledger.go:107", after := #[{ on := 11, ground := Ground.data }, { on := 10, ground := Ground.chain }, { on := 0, ground := Ground.phase }, { on := 1, ground := Ground.phase }, { on := 2, ground := Ground.phase }, { on := 3, ground := Ground.phase }, { on := 4, ground := Ground.phase }, { on := 5, ground := Ground.phase }, { on := 6, ground := Ground.phase }, { on := 7, ground := Ground.phase }, { on := 8, ground := Ground.phase }, { on := 9, ground := Ground.phase }, { on := 10, ground := Ground.phase }, { on := 11, ground := Ground.phase }], guard := none }) (v := .slice (some ⟨tb, 0, none⟩) 5 5) rfl (by kernel_rfl) (by kernel_rfl) (by kernel_rfl) (fun _ _ _ h => h) (Or.inl ⟨by rfl, fun w0 hSw => ?_⟩) hH5 ?_
        · (clear hSw; go_simp)
        simp only [Act.put, List.setIfInBounds_toArray, List.set_cons_zero, List.set_cons_succ]
        have HH := hidden hH5
        have FQ := hidden (HQ.out N0 g2 c2 g3 c3 g4 c4 tb _ OW.out LV.out HH.out)
        refine wpAnyH_done (by kernel_rfl) ?_ _
        refine NoPanic.normal ?_
        exact FQ.out
end Go.Proofs.Ytcecpfcekejblaa
