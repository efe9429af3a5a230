import Derived.Test.YthkfjggogcmdmaaDoorPrM
import Derived.Test.YthkfjggogcmdmaaDoorPsM
import Derived.Test.YthkfjggogcmdmaaDoorQM
import Derived.Test.YthkfjggogcmdmaaDoorWkM
import Derived.Laws.IdiomCopy
namespace Go.Proofs.YthkfjggogcmdmaaDoor
open Go.RowKit
set_option linter.unusedVariables false
set_option maxRecDepth 100000 in
set_option maxHeartbeats 16000000 in
theorem ln1d (Q : Exit → Act → World → Prop) (B1 B2 : Nat) (s l r : Nat → E4) (LP RP : Option Addr) (n m cL cR : Nat) (u0 u3 u4 u5 u6 u7 u8 u9 u10 u11 u12 u13 u14 u15 u16 u17 u18 u19 u20 u21 u22 u23 u24 u25 u26 u27 u28 u29 u30 u31 u32 u33 u34 u35 : Value) (w W : World) (h1 : W.rangeAt B1 0 (pc s (.slice LP n cL) (.slice RP m cR))) (h2 : W.there B2 0 38) (hB : w.heap.size ≤ B2) (hlt : B2 < W.heap.size) (hbel : Below w.heap.size w W) (h12 : B1 ≠ B2)
    (C1 : Hid (∀ x, Below W.heap.size W x → Calls Tryd.prog 24 #[.slice LP n cL] x fun e w' => ∃ v : Value, e = .returned v ∧ w'.ownsRow x.heap.size 32 4 v n (svs n l) ∧ Below x.heap.size x w'))
    (C2 : Hid (∀ x, Below W.heap.size W x → Calls Tryd.prog 24 #[.slice RP m cR] x fun e w' => ∃ v : Value, e = .returned v ∧ w'.ownsRow x.heap.size 32 4 v m (svs m r) ∧ Below x.heap.size x w'))
    (HQ : Hid (∀ (z3 z4 z5 z6 z7 z8 z9 z10 z11 z12 z13 z14 z15 z16 z17 z18 z19 z20 z21 z22 z23 z24 z25 z26 z27 z28 z29 z30 z31 z32 z33 z34 z35 : Value) P1 c1 P2 c2 wz, Below w.heap.size w wz → wz.rangeAt B2 0 (pc s (.slice P1 n c1) (.slice P2 m c2)) → wz.ownsRow w.heap.size 32 4 (.slice P1 n c1) n (svs n l) → wz.ownsRow w.heap.size 32 4 (.slice P2 m c2) m (svs m r) → (∀ a b : Nat, P1 = some ⟨a, 0, none⟩ → P2 = some ⟨b, 0, none⟩ → a ≠ b) → Q .normal ⟨#[u0, .pointer (some ⟨B1, 0, none⟩), .pointer (some ⟨B2, 0, none⟩), z3, z4, z5, z6, z7, z8, z9, z10, z11, z12, z13, z14, z15, z16, z17, z18, z19, z20, z21, z22, z23, z24, z25, z26, z27, z28, z29, z30, z31, z32, z33, z34, z35], []⟩ wz)) : (Code.region 1 ln1o true).wp Tryd.prog Q ⟨#[u0, .pointer (some ⟨B1, 0, none⟩), .pointer (some ⟨B2, 0, none⟩), u3, u4, u5, u6, u7, u8, u9, u10, u11, u12, u13, u14, u15, u16, u17, u18, u19, u20, u21, u22, u23, u24, u25, u26, u27, u28, u29, u30, u31, u32, u33, u34, u35], []⟩ W := by
  have hbb : B1 < W.heap.size := World.block_lt_of_cell? W _ (h1 0 _ rfl)
  have SK : Hid (∀ x, Below W.heap.size W x → x.rangeAt B1 0 (pc s (.slice LP n cL) (.slice RP m cR))) := hidden (fun x h => range_keep h1 h)
  have BL := hidden (Tr.drew_blW W)
  have PP : Hid (∀ x : World, x.rangeAt B1 0 (pc s (.slice LP n cL) (.slice RP m cR)) → x.rangeAt B1 0 [.int .u64 (s 0).x0, .int .u64 (s 0).x1, .int .u64 (s 0).x2, .int .u64 (s 0).x3] ∧ x.rangeAt B1 4 [.int .u64 (s 1).x0, .int .u64 (s 1).x1, .int .u64 (s 1).x2, .int .u64 (s 1).x3] ∧ x.rangeAt B1 8 [.int .u64 (s 2).x0, .int .u64 (s 2).x1, .int .u64 (s 2).x2, .int .u64 (s 2).x3] ∧ x.rangeAt B1 12 [.int .u64 (s 3).x0, .int .u64 (s 3).x1, .int .u64 (s 3).x2, .int .u64 (s 3).x3] ∧ x.rangeAt B1 16 [.int .u64 (s 4).x0, .int .u64 (s 4).x1, .int .u64 (s 4).x2, .int .u64 (s 4).x3] ∧ x.rangeAt B1 20 [.int .u64 (s 5).x0, .int .u64 (s 5).x1, .int .u64 (s 5).x2, .int .u64 (s 5).x3] ∧ x.rangeAt B1 24 [.int .u64 (s 6).x0, .int .u64 (s 6).x1, .int .u64 (s 6).x2, .int .u64 (s 6).x3] ∧ x.rangeAt B1 30 [.int .u64 (s 7).x0, .int .u64 (s 7).x1, .int .u64 (s 7).x2, .int .u64 (s 7).x3] ∧ x.rangeAt B1 34 [.int .u64 (s 8).x0, .int .u64 (s 8).x1, .int .u64 (s 8).x2, .int .u64 (s 8).x3]) := hidden (fun x h => pc_part s _ _ h)
  have H8 : Hid (∀ x : World, x.rangeAt B1 0 (pc s (.slice LP n cL) (.slice RP m cR)) → x.cell? ⟨B1, 28, none⟩ = some (.slice LP n cL) ∧ x.cell? ⟨B1, 29, none⟩ = some (.slice RP m cR)) := hidden (fun x h => by
    have a := h 28 _ rfl; have b := h 29 _ rfl
    simp only [Nat.zero_add] at a b
    exact ⟨a, b⟩)
  have TH := hidden h2
  have HB := hidden (And.intro hB (And.intro hlt (And.intro hbel h12)))
  have US : Hid (Tryd.prog.underlying 24 = _) := hidden Tryd.underlying24
  have OB : Hid (∀ x y : World, ∀ v k xs, x.ownsRow W.heap.size 32 4 v k xs → Below x.heap.size x y → y.ownsRow W.heap.size 32 4 v k xs) := hidden (fun x y v k xs h hb => Tr.own_stay h hb)
  clear h1 h2 hB hlt hbel h12 hbb
  generalize hP : pc s (.slice LP n cL) (.slice RP m cR) = P at SK PP H8
  refine wp_region_noPanic ?_
  refine wp_region_held_drew (S := fun x => x.rangeAt B1 0 P) (by kernel_rfl) (SK.out _ (Tr.drew_blW W)) (fun hHeld => ?_)
  change wpAnyH Tryd.prog .any ln1o _ _ 34 #[false, false, false, false, false, false, false, false, false, false, false, false, false, false, false, false, false, false, false, false, false, false, false, false, false, false, false, false, false, false, false, false, false, false] _ _
  clear hP
  refine wpAnyH_take (i := 0) (oi := { dst := some 3, op := Op.fieldAddr 28 (Operand.tmp 1) 0, type := 0, pos := "law.go:303", after := #[], guard := none }) (v := .pointer (some ⟨B1, 0, none⟩)) rfl (by kernel_rfl) (by kernel_rfl) (by kernel_rfl) (fun _ _ _ h => h) (Or.inl ⟨by rfl, fun w0 hSw => ?_⟩) hHeld ?_
  · (clear hSw; go_simp)
  simp only [Act.put, List.setIfInBounds_toArray, List.set_cons_zero, List.set_cons_succ]
  refine wpAnyH_take (i := 1) (oi := { dst := some 4, op := Op.indexAddr 25 (Operand.tmp 3) (Operand.const (Value.int IntKind.i64 0)), type := 0, pos := "law.go:303", after := #[{ on := 0, ground := Ground.data }], guard := none }) (v := .pointer (some ⟨B1, 0, none⟩)) rfl (by kernel_rfl) (by kernel_rfl) (by kernel_rfl) (fun _ _ _ h => h) (Or.inl ⟨by rfl, fun w0 hSw => ?_⟩) hHeld ?_
  · (clear hSw; go_simp)
  simp only [Act.put, List.setIfInBounds_toArray, List.set_cons_zero, List.set_cons_succ]
  refine wpAnyH_take (i := 2) (oi := { dst := some 5, op := Op.load 24 (Operand.tmp 4), type := 24, pos := "law.go:303", after := #[{ on := 1, ground := Ground.data }], guard := none }) (v := .agg (([.int .u64 (s 0).x0, .int .u64 (s 0).x1, .int .u64 (s 0).x2, .int .u64 (s 0).x3] : List Value)).toArray) rfl (by kernel_rfl) (by kernel_rfl) (by kernel_rfl) (fun _ _ _ h => h) (yieldsIf_load_mid (by rfl) 24 _ rfl (B1) (0) rfl (([.int .u64 (s 0).x0, .int .u64 (s 0).x1, .int .u64 (s 0).x2, .int .u64 (s 0).x3] : List Value)) _ (fun w0 hSw => (PP.out _ hSw).1) US.out rfl (hidden (i4S (s 0))).out) hHeld ?_
  simp only [Act.put, List.setIfInBounds_toArray, List.set_cons_zero, List.set_cons_succ]
  refine wpAnyH_take (i := 3) (oi := { dst := some 6, op := Op.build 32 #[(0, Operand.tmp 5)], type := 32, pos := "law.go:303", after := #[{ on := 2, ground := Ground.data }], guard := none }) (v := .agg #[.int .u64 (s 0).x0, .int .u64 (s 0).x1, .int .u64 (s 0).x2, .int .u64 (s 0).x3]) rfl (by kernel_rfl) (by kernel_rfl) (by kernel_rfl) (fun _ _ _ h => h) (Or.inl ⟨by rfl, fun w0 hSw => ?_⟩) hHeld ?_
  · (clear hSw; go_simp)
  simp only [Act.put, List.setIfInBounds_toArray, List.set_cons_zero, List.set_cons_succ]
  refine wpAnyH_take (i := 4) (oi := { dst := some 7, op := Op.fieldAddr 28 (Operand.tmp 1) 0, type := 0, pos := "law.go:303", after := #[], guard := none }) (v := .pointer (some ⟨B1, 0, none⟩)) rfl (by kernel_rfl) (by kernel_rfl) (by kernel_rfl) (fun _ _ _ h => h) (Or.inl ⟨by rfl, fun w0 hSw => ?_⟩) hHeld ?_
  · (clear hSw; go_simp)
  simp only [Act.put, List.setIfInBounds_toArray, List.set_cons_zero, List.set_cons_succ]
  refine wpAnyH_take (i := 5) (oi := { dst := some 8, op := Op.indexAddr 25 (Operand.tmp 7) (Operand.const (Value.int IntKind.i64 1)), type := 0, pos := "law.go:303", after := #[{ on := 4, ground := Ground.data }], guard := none }) (v := .pointer (some ⟨B1, 4, none⟩)) rfl (by kernel_rfl) (by kernel_rfl) (by kernel_rfl) (fun _ _ _ h => h) (Or.inl ⟨by rfl, fun w0 hSw => ?_⟩) hHeld ?_
  · (clear hSw; go_simp)
  simp only [Act.put, List.setIfInBounds_toArray, List.set_cons_zero, List.set_cons_succ]
  refine wpAnyH_take (i := 6) (oi := { dst := some 9, op := Op.load 24 (Operand.tmp 8), type := 24, pos := "law.go:303", after := #[{ on := 5, ground := Ground.data }], guard := none }) (v := .agg (([.int .u64 (s 1).x0, .int .u64 (s 1).x1, .int .u64 (s 1).x2, .int .u64 (s 1).x3] : List Value)).toArray) rfl (by kernel_rfl) (by kernel_rfl) (by kernel_rfl) (fun _ _ _ h => h) (yieldsIf_load_mid (by rfl) 24 _ rfl (B1) (4) rfl (([.int .u64 (s 1).x0, .int .u64 (s 1).x1, .int .u64 (s 1).x2, .int .u64 (s 1).x3] : List Value)) _ (fun w0 hSw => (PP.out _ hSw).2.1) US.out rfl (hidden (i4S (s 1))).out) hHeld ?_
  simp only [Act.put, List.setIfInBounds_toArray, List.set_cons_zero, List.set_cons_succ]
  refine wpAnyH_take (i := 7) (oi := { dst := some 10, op := Op.build 32 #[(0, Operand.tmp 9)], type := 32, pos := "law.go:303", after := #[{ on := 6, ground := Ground.data }], guard := none }) (v := .agg #[.int .u64 (s 1).x0, .int .u64 (s 1).x1, .int .u64 (s 1).x2, .int .u64 (s 1).x3]) rfl (by kernel_rfl) (by kernel_rfl) (by kernel_rfl) (fun _ _ _ h => h) (Or.inl ⟨by rfl, fun w0 hSw => ?_⟩) hHeld ?_
  · (clear hSw; go_simp)
  simp only [Act.put, List.setIfInBounds_toArray, List.set_cons_zero, List.set_cons_succ]
  refine wpAnyH_take (i := 8) (oi := { dst := some 11, op := Op.fieldAddr 28 (Operand.tmp 1) 0, type := 0, pos := "law.go:303", after := #[], guard := none }) (v := .pointer (some ⟨B1, 0, none⟩)) rfl (by kernel_rfl) (by kernel_rfl) (by kernel_rfl) (fun _ _ _ h => h) (Or.inl ⟨by rfl, fun w0 hSw => ?_⟩) hHeld ?_
  · (clear hSw; go_simp)
  simp only [Act.put, List.setIfInBounds_toArray, List.set_cons_zero, List.set_cons_succ]
  refine wpAnyH_take (i := 9) (oi := { dst := some 12, op := Op.indexAddr 25 (Operand.tmp 11) (Operand.const (Value.int IntKind.i64 2)), type := 0, pos := "law.go:303", after := #[{ on := 8, ground := Ground.data }], guard := none }) (v := .pointer (some ⟨B1, 8, none⟩)) rfl (by kernel_rfl) (by kernel_rfl) (by kernel_rfl) (fun _ _ _ h => h) (Or.inl ⟨by rfl, fun w0 hSw => ?_⟩) hHeld ?_
  · (clear hSw; go_simp)
  simp only [Act.put, List.setIfInBounds_toArray, List.set_cons_zero, List.set_cons_succ]
  refine wpAnyH_take (i := 10) (oi := { dst := some 13, op := Op.load 24 (Operand.tmp 12), type := 24, pos := "law.go:303", after := #[{ on := 9, ground := Ground.data }], guard := none }) (v := .agg (([.int .u64 (s 2).x0, .int .u64 (s 2).x1, .int .u64 (s 2).x2, .int .u64 (s 2).x3] : List Value)).toArray) rfl (by kernel_rfl) (by kernel_rfl) (by kernel_rfl) (fun _ _ _ h => h) (yieldsIf_load_mid (by rfl) 24 _ rfl (B1) (8) rfl (([.int .u64 (s 2).x0, .int .u64 (s 2).x1, .int .u64 (s 2).x2, .int .u64 (s 2).x3] : List Value)) _ (fun w0 hSw => (PP.out _ hSw).2.2.1) US.out rfl (hidden (i4S (s 2))).out) hHeld ?_
  simp only [Act.put, List.setIfInBounds_toArray, List.set_cons_zero, List.set_cons_succ]
  refine wpAnyH_take (i := 11) (oi := { dst := some 14, op := Op.build 32 #[(0, Operand.tmp 13)], type := 32, pos := "law.go:303", after := #[{ on := 10, ground := Ground.data }], guard := none }) (v := .agg #[.int .u64 (s 2).x0, .int .u64 (s 2).x1, .int .u64 (s 2).x2, .int .u64 (s 2).x3]) rfl (by kernel_rfl) (by kernel_rfl) (by kernel_rfl) (fun _ _ _ h => h) (Or.inl ⟨by rfl, fun w0 hSw => ?_⟩) hHeld ?_
  · (clear hSw; go_simp)
  simp only [Act.put, List.setIfInBounds_toArray, List.set_cons_zero, List.set_cons_succ]
  refine wpAnyH_take (i := 12) (oi := { dst := some 15, op := Op.fieldAddr 28 (Operand.tmp 1) 0, type := 0, pos := "law.go:303", after := #[], guard := none }) (v := .pointer (some ⟨B1, 0, none⟩)) rfl (by kernel_rfl) (by kernel_rfl) (by kernel_rfl) (fun _ _ _ h => h) (Or.inl ⟨by rfl, fun w0 hSw => ?_⟩) hHeld ?_
  · (clear hSw; go_simp)
  simp only [Act.put, List.setIfInBounds_toArray, List.set_cons_zero, List.set_cons_succ]
  refine wpAnyH_take (i := 13) (oi := { dst := some 16, op := Op.indexAddr 25 (Operand.tmp 15) (Operand.const (Value.int IntKind.i64 3)), type := 0, pos := "law.go:303", after := #[{ on := 12, ground := Ground.data }], guard := none }) (v := .pointer (some ⟨B1, 12, none⟩)) rfl (by kernel_rfl) (by kernel_rfl) (by kernel_rfl) (fun _ _ _ h => h) (Or.inl ⟨by rfl, fun w0 hSw => ?_⟩) hHeld ?_
  · (clear hSw; go_simp)
  simp only [Act.put, List.setIfInBounds_toArray, List.set_cons_zero, List.set_cons_succ]
  refine wpAnyH_take (i := 14) (oi := { dst := some 17, op := Op.load 24 (Operand.tmp 16), type := 24, pos := "law.go:303", after := #[{ on := 13, ground := Ground.data }], guard := none }) (v := .agg (([.int .u64 (s 3).x0, .int .u64 (s 3).x1, .int .u64 (s 3).x2, .int .u64 (s 3).x3] : List Value)).toArray) rfl (by kernel_rfl) (by kernel_rfl) (by kernel_rfl) (fun _ _ _ h => h) (yieldsIf_load_mid (by rfl) 24 _ rfl (B1) (12) rfl (([.int .u64 (s 3).x0, .int .u64 (s 3).x1, .int .u64 (s 3).x2, .int .u64 (s 3).x3] : List Value)) _ (fun w0 hSw => (PP.out _ hSw).2.2.2.1) US.out rfl (hidden (i4S (s 3))).out) hHeld ?_
  simp only [Act.put, List.setIfInBounds_toArray, List.set_cons_zero, List.set_cons_succ]
  refine wpAnyH_take (i := 15) (oi := { dst := some 18, op := Op.build 32 #[(0, Operand.tmp 17)], type := 32, pos := "law.go:303", after := #[{ on := 14, ground := Ground.data }], guard := none }) (v := .agg #[.int .u64 (s 3).x0, .int .u64 (s 3).x1, .int .u64 (s 3).x2, .int .u64 (s 3).x3]) rfl (by kernel_rfl) (by kernel_rfl) (by kernel_rfl) (fun _ _ _ h => h) (Or.inl ⟨by rfl, fun w0 hSw => ?_⟩) hHeld ?_
  · (clear hSw; go_simp)
  simp only [Act.put, List.setIfInBounds_toArray, List.set_cons_zero, List.set_cons_succ]
  refine wpAnyH_take (i := 16) (oi := { dst := some 19, op := Op.fieldAddr 28 (Operand.tmp 1) 1, type := 0, pos := "law.go:303", after := #[], guard := none }) (v := .pointer (some ⟨B1, 16, none⟩)) rfl (by kernel_rfl) (by kernel_rfl) (by kernel_rfl) (fun _ _ _ h => h) (Or.inl ⟨by rfl, fun w0 hSw => ?_⟩) hHeld ?_
  · (clear hSw; go_simp)
  simp only [Act.put, List.setIfInBounds_toArray, List.set_cons_zero, List.set_cons_succ]
  refine wpAnyH_take (i := 17) (oi := { dst := some 20, op := Op.load 24 (Operand.tmp 19), type := 24, pos := "law.go:303", after := #[{ on := 16, ground := Ground.data }], guard := none }) (v := .agg (([.int .u64 (s 4).x0, .int .u64 (s 4).x1, .int .u64 (s 4).x2, .int .u64 (s 4).x3] : List Value)).toArray) rfl (by kernel_rfl) (by kernel_rfl) (by kernel_rfl) (fun _ _ _ h => h) (yieldsIf_load_mid (by rfl) 24 _ rfl (B1) (16) rfl (([.int .u64 (s 4).x0, .int .u64 (s 4).x1, .int .u64 (s 4).x2, .int .u64 (s 4).x3] : List Value)) _ (fun w0 hSw => (PP.out _ hSw).2.2.2.2.1) US.out rfl (hidden (i4S (s 4))).out) hHeld ?_
  simp only [Act.put, List.setIfInBounds_toArray, List.set_cons_zero, List.set_cons_succ]
  refine wpAnyH_take (i := 18) (oi := { dst := some 21, op := Op.fieldAddr 28 (Operand.tmp 1) 2, type := 0, pos := "law.go:303", after := #[], guard := none }) (v := .pointer (some ⟨B1, 20, none⟩)) rfl (by kernel_rfl) (by kernel_rfl) (by kernel_rfl) (fun _ _ _ h => h) (Or.inl ⟨by rfl, fun w0 hSw => ?_⟩) hHeld ?_
  · (clear hSw; go_simp)
  simp only [Act.put, List.setIfInBounds_toArray, List.set_cons_zero, List.set_cons_succ]
  refine wpAnyH_take (i := 19) (oi := { dst := some 22, op := Op.load 24 (Operand.tmp 21), type := 24, pos := "law.go:303", after := #[{ on := 18, ground := Ground.data }], guard := none }) (v := .agg (([.int .u64 (s 5).x0, .int .u64 (s 5).x1, .int .u64 (s 5).x2, .int .u64 (s 5).x3] : List Value)).toArray) rfl (by kernel_rfl) (by kernel_rfl) (by kernel_rfl) (fun _ _ _ h => h) (yieldsIf_load_mid (by rfl) 24 _ rfl (B1) (20) rfl (([.int .u64 (s 5).x0, .int .u64 (s 5).x1, .int .u64 (s 5).x2, .int .u64 (s 5).x3] : List Value)) _ (fun w0 hSw => (PP.out _ hSw).2.2.2.2.2.1) US.out rfl (hidden (i4S (s 5))).out) hHeld ?_
  simp only [Act.put, List.setIfInBounds_toArray, List.set_cons_zero, List.set_cons_succ]
  refine wpAnyH_take (i := 20) (oi := { dst := some 23, op := Op.fieldAddr 28 (Operand.tmp 1) 3, type := 0, pos := "law.go:303", after := #[], guard := none }) (v := .pointer (some ⟨B1, 24, none⟩)) rfl (by kernel_rfl) (by kernel_rfl) (by kernel_rfl) (fun _ _ _ h => h) (Or.inl ⟨by rfl, fun w0 hSw => ?_⟩) hHeld ?_
  · (clear hSw; go_simp)
  simp only [Act.put, List.setIfInBounds_toArray, List.set_cons_zero, List.set_cons_succ]
  refine wpAnyH_take (i := 21) (oi := { dst := some 24, op := Op.load 24 (Operand.tmp 23), type := 24, pos := "law.go:303", after := #[{ on := 20, ground := Ground.data }], guard := none }) (v := .agg (([.int .u64 (s 6).x0, .int .u64 (s 6).x1, .int .u64 (s 6).x2, .int .u64 (s 6).x3] : List Value)).toArray) rfl (by kernel_rfl) (by kernel_rfl) (by kernel_rfl) (fun _ _ _ h => h) (yieldsIf_load_mid (by rfl) 24 _ rfl (B1) (24) rfl (([.int .u64 (s 6).x0, .int .u64 (s 6).x1, .int .u64 (s 6).x2, .int .u64 (s 6).x3] : List Value)) _ (fun w0 hSw => (PP.out _ hSw).2.2.2.2.2.2.1) US.out rfl (hidden (i4S (s 6))).out) hHeld ?_
  simp only [Act.put, List.setIfInBounds_toArray, List.set_cons_zero, List.set_cons_succ]
  refine wpAnyH_take (i := 22) (oi := { dst := some 25, op := Op.fieldAddr 28 (Operand.tmp 1) 4, type := 0, pos := "law.go:303", after := #[], guard := none }) (v := .pointer (some ⟨B1, 28, none⟩)) rfl (by kernel_rfl) (by kernel_rfl) (by kernel_rfl) (fun _ _ _ h => h) (Or.inl ⟨by rfl, fun w0 hSw => ?_⟩) hHeld ?_
  · (clear hSw; go_simp)
  simp only [Act.put, List.setIfInBounds_toArray, List.set_cons_zero, List.set_cons_succ]
  refine wpAnyH_take (i := 23) (oi := { dst := some 26, op := Op.load 26 (Operand.tmp 25), type := 26, pos := "law.go:303", after := #[{ on := 22, ground := Ground.data }], guard := none }) (v := .slice LP n cL) rfl (by kernel_rfl) (by kernel_rfl) (by kernel_rfl) (fun _ _ _ h => h) (Or.inl ⟨by rfl, fun w0 hSw => ?_⟩) hHeld ?_
  · (have q := H8.out _ hSw; obtain ⟨q1, q2⟩ := q; clear hSw; go_simp)
  simp only [Act.put, List.setIfInBounds_toArray, List.set_cons_zero, List.set_cons_succ]
  refine wpAnyH_take (i := 25) (oi := { dst := some 28, op := Op.fieldAddr 28 (Operand.tmp 1) 5, type := 0, pos := "law.go:303", after := #[], guard := none }) (v := .pointer (some ⟨B1, 29, none⟩)) rfl (by kernel_rfl) (by kernel_rfl) (by kernel_rfl) (fun _ _ _ h => h) (Or.inl ⟨by rfl, fun w0 hSw => ?_⟩) hHeld ?_
  · (clear hSw; go_simp)
  simp only [Act.put, List.setIfInBounds_toArray, List.set_cons_zero, List.set_cons_succ]
  refine wpAnyH_take (i := 26) (oi := { dst := some 29, op := Op.load 26 (Operand.tmp 28), type := 26, pos := "law.go:303", after := #[{ on := 25, ground := Ground.data }], guard := none }) (v := .slice RP m cR) rfl (by kernel_rfl) (by kernel_rfl) (by kernel_rfl) (fun _ _ _ h => h) (Or.inl ⟨by rfl, fun w0 hSw => ?_⟩) hHeld ?_
  · (have q := H8.out _ hSw; obtain ⟨q1, q2⟩ := q; clear hSw; go_simp)
  simp only [Act.put, List.setIfInBounds_toArray, List.set_cons_zero, List.set_cons_succ]
  refine wpAnyH_take (i := 28) (oi := { dst := some 31, op := Op.fieldAddr 28 (Operand.tmp 1) 6, type := 0, pos := "law.go:303", after := #[], guard := none }) (v := .pointer (some ⟨B1, 30, none⟩)) rfl (by kernel_rfl) (by kernel_rfl) (by kernel_rfl) (fun _ _ _ h => h) (Or.inl ⟨by rfl, fun w0 hSw => ?_⟩) hHeld ?_
  · (clear hSw; go_simp)
  simp only [Act.put, List.setIfInBounds_toArray, List.set_cons_zero, List.set_cons_succ]
  refine wpAnyH_take (i := 29) (oi := { dst := some 32, op := Op.load 24 (Operand.tmp 31), type := 24, pos := "law.go:303", after := #[{ on := 28, ground := Ground.data }], guard := none }) (v := .agg (([.int .u64 (s 7).x0, .int .u64 (s 7).x1, .int .u64 (s 7).x2, .int .u64 (s 7).x3] : List Value)).toArray) rfl (by kernel_rfl) (by kernel_rfl) (by kernel_rfl) (fun _ _ _ h => h) (yieldsIf_load_mid (by rfl) 24 _ rfl (B1) (30) rfl (([.int .u64 (s 7).x0, .int .u64 (s 7).x1, .int .u64 (s 7).x2, .int .u64 (s 7).x3] : List Value)) _ (fun w0 hSw => (PP.out _ hSw).2.2.2.2.2.2.2.1) US.out rfl (hidden (i4S (s 7))).out) hHeld ?_
  simp only [Act.put, List.setIfInBounds_toArray, List.set_cons_zero, List.set_cons_succ]
  refine wpAnyH_take (i := 30) (oi := { dst := some 33, op := Op.fieldAddr 28 (Operand.tmp 1) 7, type := 0, pos := "law.go:303", after := #[], guard := none }) (v := .pointer (some ⟨B1, 34, none⟩)) rfl (by kernel_rfl) (by kernel_rfl) (by kernel_rfl) (fun _ _ _ h => h) (Or.inl ⟨by rfl, fun w0 hSw => ?_⟩) hHeld ?_
  · (clear hSw; go_simp)
  simp only [Act.put, List.setIfInBounds_toArray, List.set_cons_zero, List.set_cons_succ]
  refine wpAnyH_take (i := 31) (oi := { dst := some 34, op := Op.load 24 (Operand.tmp 33), type := 24, pos := "law.go:303", after := #[{ on := 30, ground := Ground.data }], guard := none }) (v := .agg (([.int .u64 (s 8).x0, .int .u64 (s 8).x1, .int .u64 (s 8).x2, .int .u64 (s 8).x3] : List Value)).toArray) rfl (by kernel_rfl) (by kernel_rfl) (by kernel_rfl) (fun _ _ _ h => h) (yieldsIf_load_mid (by rfl) 24 _ rfl (B1) (34) rfl (([.int .u64 (s 8).x0, .int .u64 (s 8).x1, .int .u64 (s 8).x2, .int .u64 (s 8).x3] : List Value)) _ (fun w0 hSw => (PP.out _ hSw).2.2.2.2.2.2.2.2) US.out rfl (hidden (i4S (s 8))).out) hHeld ?_
  simp only [Act.put, List.setIfInBounds_toArray, List.set_cons_zero, List.set_cons_succ]
  refine wpAnyH_ready (rs := [24]) (by kernel_rfl) (by simp) ?_
  refine AllReadyH.cons (o := { dst := some 27, op := Op.call { callee := Callee.value (Operand.func 24), args := #[Operand.tmp 26], argTypes := #[26] }, type := 33, pos := "law.go:303", after := #[{ on := 23, ground := Ground.data }], guard := none }) rfl (fun K hK => ?_) AllReadyH.nil
  clear hHeld
  go_simp
  refine (C1.out _ BL.out).mono ?_
  rintro e wn0 ⟨v0, rfl, ho, hb⟩
  obtain ⟨P1, c1, rfl⟩ := own_shapeL ho
  have O1 := hidden (own_down ho BL.out.size)
  replace BL := hidden (bl_trans BL.out hb)
  have SN := hidden (SK.out _ BL.out)
  clear hb ho C1
  go_wp2_with fail
  refine hK.out _ _ SN.out (fun hH0 => ?_)
  clear hK K
  clear SN
  refine wpAnyH_ready (rs := [27]) (by kernel_rfl) (by simp) ?_
  refine AllReadyH.cons (o := { dst := some 30, op := Op.call { callee := Callee.value (Operand.func 24), args := #[Operand.tmp 29], argTypes := #[26] }, type := 33, pos := "law.go:303", after := #[{ on := 26, ground := Ground.data }, { on := 24, ground := Ground.chain }], guard := none }) rfl (fun K hK => ?_) AllReadyH.nil
  clear hH0
  go_simp
  refine (C2.out _ BL.out).mono ?_
  rintro e wn1 ⟨v1, rfl, ho, hb⟩
  obtain ⟨P2, c2, rfl⟩ := own_shapeL ho
  have NE : Hid (∀ a b : Nat, P1 = some ⟨a, 0, none⟩ → P2 = some ⟨b, 0, none⟩ → a ≠ b) := hidden (fun a b h1 h2 => by subst h1; subst h2; have q1 := (O1.out.lt a rfl).2; have q2 := (ho.lt b rfl).1; omega)
  have O2 := hidden (own_down ho BL.out.size)
  replace O1 := hidden (OB.out _ _ _ _ _ O1.out hb)
  replace BL := hidden (bl_trans BL.out hb)
  have SN := hidden (SK.out _ BL.out)
  clear hb ho C2
  go_wp2_with fail
  refine hK.out _ _ SN.out (fun hH1 => ?_)
  clear hK K
  refine wpAnyH_take (i := 32) (oi := { dst := some 35, op := Op.build 35 #[(0, Operand.tmp 6), (1, Operand.tmp 10), (2, Operand.tmp 14), (3, Operand.tmp 18), (4, Operand.tmp 20), (5, Operand.tmp 22), (6, Operand.tmp 24), (7, Operand.tmp 27), (8, Operand.tmp 30), (9, Operand.tmp 32), (10, Operand.tmp 34)], type := 35, pos := "law.go:303", after := #[{ on := 3, ground := Ground.data }, { on := 7, ground := Ground.data }, { on := 11, ground := Ground.data }, { on := 15, ground := Ground.data }, { on := 17, ground := Ground.data }, { on := 19, ground := Ground.data }, { on := 21, ground := Ground.data }, { on := 24, ground := Ground.data }, { on := 27, ground := Ground.data }, { on := 29, ground := Ground.data }, { on := 31, ground := Ground.data }], guard := none }) (v := .agg (pc s (.slice P1 n c1) (.slice P2 m c2)).toArray) rfl (by kernel_rfl) (by kernel_rfl) (by kernel_rfl) (fun _ _ _ h => h) (Or.inl ⟨by rfl, fun w0 hSw => by kernel_rfl⟩) hH1 ?_
  simp only [Act.put, List.setIfInBounds_toArray, List.set_cons_zero, List.set_cons_succ]
  refine wpAnyH_ready (rs := [33]) (by kernel_rfl) (by simp) ?_
  refine AllReadyH.cons (o := { dst := none, op := Op.store 35 (Operand.tmp 2) (Operand.tmp 35), type := 0, pos := "law.go:303", after := #[{ on := 32, ground := Ground.data }, { on := 27, ground := Ground.chain }, { on := 0, ground := Ground.phase }, { on := 1, ground := Ground.phase }, { on := 2, ground := Ground.phase }, { on := 3, ground := Ground.phase }, { on := 4, ground := Ground.phase }, { on := 5, ground := Ground.phase }, { on := 6, ground := Ground.phase }, { on := 7, ground := Ground.phase }, { on := 8, ground := Ground.phase }, { on := 9, ground := Ground.phase }, { on := 10, ground := Ground.phase }, { on := 11, ground := Ground.phase }, { on := 12, ground := Ground.phase }, { on := 13, ground := Ground.phase }, { on := 14, ground := Ground.phase }, { on := 15, ground := Ground.phase }, { on := 16, ground := Ground.phase }, { on := 17, ground := Ground.phase }, { on := 18, ground := Ground.phase }, { on := 19, ground := Ground.phase }, { on := 20, ground := Ground.phase }, { on := 21, ground := Ground.phase }, { on := 22, ground := Ground.phase }, { on := 23, ground := Ground.phase }, { on := 24, ground := Ground.phase }, { on := 25, ground := Ground.phase }, { on := 26, ground := Ground.phase }, { on := 27, ground := Ground.phase }, { on := 28, ground := Ground.phase }, { on := 29, ground := Ground.phase }, { on := 30, ground := Ground.phase }, { on := 31, ground := Ground.phase }, { on := 32, ground := Ground.phase }], guard := none }) rfl (fun K hK => ?_) AllReadyH.nil
  clear hH1
  have T2 := hidden (show World.there _ B2 0 (pc s (.slice P1 n c1) (.slice P2 m c2)).toArray.size from there_keepM TH.out BL.out)
  have I2 := hidden (pc_i2 s (.slice P1 n c1) (.slice P2 m c2))
  have O2q := hidden (pc_one s P1 P2 n c1 m c2)
  refine ready_store rfl 35 _ _ rfl rfl B2 0 (pc s (.slice P1 n c1) (.slice P2 m c2)) (by rfl) (by rfl) T2.out I2.out O2q.out ?_
  have KT := kp_setCells B2 (pc s (.slice P1 n c1) (.slice P2 m c2)) 0 wn1
  have hx := HB.out
  have RX : (wn1.setCells B2 0 (pc s (.slice P1 n c1) (.slice P2 m c2))).rangeAt B1 0 P := range_kp SN.out KT hx.2.2.2
  have WB : Below w.heap.size w (wn1.setCells B2 0 (pc s (.slice P1 n c1) (.slice P2 m c2))) := Tr.below_trans (bl_trans hx.2.2.1 BL.out) (KT.below hx.1 (Nat.le_trans hx.2.2.1.size BL.out.size))
  have RN : (wn1.setCells B2 0 (pc s (.slice P1 n c1) (.slice P2 m c2))).rangeAt B2 0 (pc s (.slice P1 n c1) (.slice P2 m c2)) := World.rangeAt_setCells_same _ B2 0 _ (by simpa using T2.out)
  have L1 := fun k hk => (O1.out.lt k hk).1
  have L2 := fun k hk => (O2.out.lt k hk).1
  have V1 := KT.own O1.out (fun e => by have := L1 B2 e; have := hx.2.1; omega)
  have V2 := KT.own O2.out (fun e => by have := L2 B2 e; have := hx.2.1; omega)
  refine hK.out _ _ RX (fun hz => ?_)
  refine wpAnyH_done (by kernel_rfl) ?_ _
  refine NoPanic.normal ?_
  exact HQ.out _ _ _ _ _ _ _ _ _ _ _ _ _ _ _ _ _ _ _ _ _ _ _ _ _ _ _ _ _ _ _ _ _ P1 c1 P2 c2 _ WB RN (own_down V1 hx.2.2.1.size) (own_down V2 hx.2.2.1.size) NE.out
set_option maxRecDepth 100000 in
set_option maxHeartbeats 8000000 in
theorem line_two (s l r : Nat → E4) (LP RP : Option Addr) (n m cL cR : Nat) (w : World) (hn : n * 32 ≤ 140737488355328) (hm : m * 32 ≤ 140737488355328) (hL : Lm w LP n l) (hR : Lm w RP m r) :
    Calls Tryd.prog 10 #[.agg (pc s (.slice LP n cL) (.slice RP m cR)).toArray] w fun e w' => ∃ P1 c1 P2 c2, e = .returned (.agg (pc s (.slice P1 n c1) (.slice P2 m c2)).toArray) ∧ w'.ownsRow w.heap.size 32 4 (.slice P1 n c1) n (svs n l) ∧ w'.ownsRow w.heap.size 32 4 (.slice P2 m c2) m (svs m r) ∧ (∀ a b : Nat, P1 = some ⟨a, 0, none⟩ → P2 = some ⟨b, 0, none⟩ → a ≠ b) ∧ Below w.heap.size w w' := by
  obtain ⟨Q1, hQ1⟩ : ∃ P, P = pc s (.slice LP n cL) (.slice RP m cR) := ⟨_, rfl⟩
  rw [← hQ1]
  have M0 := ((Mw.start w).new Q1 28).new (pcv zero4 zero4 zero4 zero4 zero4 zero4 zero4 zero4 zero4 (.slice none 0 0) (.slice none 0 0)) 35
  simp only [World.size_alloc] at M0
  have Y1 : ((w.alloc (.cells Q1.toArray 28)).alloc (.cells (pcv zero4 zero4 zero4 zero4 zero4 zero4 zero4 zero4 zero4 (.slice none 0 0) (.slice none 0 0)).toArray 35)).rangeAt w.heap.size 0 (pc s (.slice LP n cL) (.slice RP m cR)) := by rw [← hQ1]; exact (M0.r (w.heap.size, Q1) (by simp)).1
  have Y2 := (M0.r (w.heap.size + 1, pcv zero4 zero4 zero4 zero4 zero4 zero4 zero4 zero4 zero4 (.slice none 0 0) (.slice none 0 0)) (by simp)).2
  have C1 := hidden (fun x (h : Below ((w.alloc (.cells Q1.toArray 28)).alloc (.cells (pcv zero4 zero4 zero4 zero4 zero4 zero4 zero4 zero4 zero4 (.slice none 0 0) (.slice none 0 0)).toArray 35)).heap.size ((w.alloc (.cells Q1.toArray 28)).alloc (.cells (pcv zero4 zero4 zero4 zero4 zero4 zero4 zero4 zero4 zero4 (.slice none 0 0) (.slice none 0 0)).toArray 35)) x) => lines_any LP n cL l x hn (hL.keep (bl_trans M0.bel h)))
  have C2 := hidden (fun x (h : Below ((w.alloc (.cells Q1.toArray 28)).alloc (.cells (pcv zero4 zero4 zero4 zero4 zero4 zero4 zero4 zero4 zero4 (.slice none 0 0) (.slice none 0 0)).toArray 35)).heap.size ((w.alloc (.cells Q1.toArray 28)).alloc (.cells (pcv zero4 zero4 zero4 zero4 zero4 zero4 zero4 zero4 zero4 (.slice none 0 0) (.slice none 0 0)).toArray 35)) x) => lines_any RP m cR r x hm (hR.keep (bl_trans M0.bel h)))
  have HY := hidden (And.intro Y1 Y2)
  have MB := hidden M0.bel
  have I1 := hidden (fun P1 c1 P2 c2 => pc_i s (.slice P1 n c1) (.slice P2 m c2))
  have UP : Hid (Tryd.prog.underlying 35 = _) := hidden Tryd.underlying35
  generalize hW : (w.alloc (.cells Q1.toArray 28)).alloc (.cells (pcv zero4 zero4 zero4 zero4 zero4 zero4 zero4 zero4 zero4 (.slice none 0 0) (.slice none 0 0)).toArray 35) = W at C1 C2 HY MB
  clear hn hm hL hR M0 Y1 Y2 hQ1
  go_enter Tryd.func10, Tryd.ntmps10
  go_upto_region 1 with (first | refine wpList_allocP rfl rfl ?_)
  simp only [World.size_alloc, Act.put, List.setIfInBounds_toArray, List.set_cons_zero, List.set_cons_succ]
  rw [hW]
  clear hW
  refine ln1d _ w.heap.size (w.heap.size + 1) s l r LP RP n m cL cR _ _ _ _ _ _ _ _ _ _ _ _ _ _ _ _ _ _ _ _ _ _ _ _ _ _ _ _ _ _ _ _ _ _ w W HY.out.1 HY.out.2.1 (by omega) HY.out.2.2.2 MB.out (by omega) C1 C2 (hidden (fun _ _ _ _ _ _ _ _ _ _ _ _ _ _ _ _ _ _ _ _ _ _ _ _ _ _ _ _ _ _ _ _ _ P1 c1 P2 c2 wz hb hr o1 o2 ne => ?_))
  have OO := hidden (And.intro hb (And.intro o1 (And.intro o2 ne)))
  have LD := hidden (run_loadVar_mid wz (w.heap.size + 1) 0 35 (pc s (.slice P1 n c1) (.slice P2 m c2)) _ hr UP.out rfl (I1.out P1 c1 P2 c2))
  clear hb hr o1 o2 ne
  go_wp2_with fail
  refine bodyPost_ret (v := .agg (pc s (.slice P1 n c1) (.slice P2 m c2)).toArray) (results_cellM Tryd.results10 _ _ _ _ _ (by rfl) LD.out) rfl ⟨P1, c1, P2, c2, rfl, OO.out.2.1, OO.out.2.2.1, OO.out.2.2.2, OO.out.1⟩
set_option maxRecDepth 100000 in
set_option maxHeartbeats 16000000 in
theorem dec_two (P : Option Addr) (c k : Nat) (l : List UInt8) (w : World) (hT : Tb w) (hB : Tr.By w P c l) (hk : k ≤ 10) (hl : l.length = 32 * (9 + 2 * k)) :
    Calls Tryd.prog 5 #[.slice P l.length c] w fun e w' => ∃ v er, e = .returned (.tuple #[v, .int .i64 er]) ∧ Below w.heap.size w w' ∧
      ((er = 0 ∧ (∀ j, j < 9 + 2 * k → dn (ck l j) < Sm.L) ∧ ∃ bL bR : Nat, v = .agg (pcv (sv l 0) (sv l 1) (sv l 2) (sv l 3) (sv l 4) (sv l 5) (sv l 6) (sv l (7 + 2 * k)) (sv l (8 + 2 * k)) (.slice (some ⟨bL, 0, none⟩) k k) (.slice (some ⟨bR, 0, none⟩) k k)).toArray ∧ Mw w [(bL, svs k (fL l k)), (bR, svs k (fR l k))] w' ∧ bL ≠ bR) ∨
       (er = 3 ∧ (∃ j, j < 9 + 2 * k ∧ ¬ dn (ck l j) < Sm.L) ∧ v = .agg (pcv zero4 zero4 zero4 zero4 zero4 zero4 zero4 zero4 zero4 (.slice none 0 0) (.slice none 0 0)).toArray)) := by
  have M0 := hidden ((Mw.start w).new (pcv zero4 zero4 zero4 zero4 zero4 zero4 zero4 zero4 zero4 (.slice none 0 0) (.slice none 0 0)) 35)
  have RO : Hid (∀ x, Calls Tryd.prog 16 #[.int .i64 (l.length : Int)] x fun e w' => e = .returned (.tuple #[.int .i64 (k : Int), .bool true]) ∧ w' = x) := hidden (fun x => (roundsOf_any l.length x (by omega)).mono fun e w' ⟨h1, h2⟩ => by
    rcases h1 with ⟨k', h3, h4, h5⟩ | ⟨h4, _⟩
    · obtain rfl : k' = k := by omega
      exact ⟨h5, h2⟩
    · exact absurd hl (h4 k hk))
  have NR := hidden (Tr.newReader_any (hB.keep M0.out.bel) (by omega))
  have T0 : Hid (3 < w.heap.size) := hidden (World.block_lt_of_cell? w _ hT.1)
  have HT := hidden hT
  have HL := hidden hl
  have HK := hidden hk
  have UP : Hid (Tryd.prog.underlying 35 = _) := hidden Tryd.underlying35
  have I2 := hidden (pcv_i2 zero4 zero4 zero4 zero4 zero4 zero4 zero4 zero4 zero4 (.slice none 0 0) (.slice none 0 0))
  have I1 := hidden (pcv_i zero4 zero4 zero4 zero4 zero4 zero4 zero4 zero4 zero4 (.slice none 0 0) (.slice none 0 0))
  have O2 := hidden (pcv_one zero4 zero4 zero4 zero4 zero4 zero4 zero4 zero4 zero4 none none 0 0 0 0)
  have ZL : Hid ((pcv zero4 zero4 zero4 zero4 zero4 zero4 zero4 zero4 zero4 (.slice none 0 0) (.slice none 0 0)).length = 38) := hidden rfl
  generalize hZ : pcv zero4 zero4 zero4 zero4 zero4 zero4 zero4 zero4 zero4 (.slice none 0 0) (.slice none 0 0) = zp at M0 I2 I1 O2 NR ZL ⊢
  have HZ := hidden hZ
  clear hZ hT hB hk hl
  go_enter Tryd.func5, Tryd.ntmps5
  go_upto_region 5 with (first | (refine wpList_allocP rfl rfl ?_; rw [HZ.out]) | (go_at_call 16; refine (RO.out _).mono ?_; rintro e wq ⟨rfl, hq⟩; rw [hq]; clear RO hq wq) | (go_at_call 17; refine (NR.out).mono ?_; rintro e w1 ⟨g, Q, d, rfl, hr, hg, hb⟩; have RD := hidden hr; have GG := hidden hg; have B1 := hidden hb; clear NR hr hg hb))
  have SZ : Hid ((w.alloc (.cells zp.toArray 35)).heap.size = w.heap.size + 1) := hidden (by simp)
  obtain ⟨qb, qo, rfl⟩ := RD.out.by'.none' (by have := HL.out; omega)
  have MW1 := hidden (M0.out.keep B1.out)
  refine dp5 _ k _ _ _ _ _ _ _ _ _ _ _ _ _ _ _ _ _ _ _ _ _ _ _ _ _ _ _ _ _ _ _ _ _ _ _ _ _ _ _ _ _ _ _ _ _ _ _ _ _ _ _ _ _ _ _ _ _ _ _ _ _ _ _ _ _ _ _ _ _ _ _ _ _ _ _ _ w1 HK.out (hidden (fun bL bR B7 wz mz n1 n2 n3 => ?_))
  obtain ⟨q, hq⟩ : ∃ q, qb = q := ⟨_, rfl⟩
  have QL0 := hidden (RD.out.fr _ rfl)
  have HD : Hid (Dn w g q B7 bL bR w.heap.size) := hidden (by
    have a := SZ.out; have b := GG.out; have c := T0.out; have d := RD.out.glt; have e := QL0.out
    have f1 := (mz.r (B7, _) (List.Mem.head _)).2.2.1
    have f2 := (mz.r (bL, _) (List.Mem.tail _ (List.Mem.head _))).2.2.1
    have f3 := (mz.r (bR, _) (List.Mem.tail _ (List.Mem.tail _ (List.Mem.head _)))).2.2.1
    simp only at f1 f2 f3 e
    subst hq
    exact ⟨by omega, by omega, by omega, by omega, by omega, by omega, by omega, by omega, by omega, by omega, by omega, by omega, by omega, by omega, by omega, by omega, by omega, by omega⟩)
  have BZ := hidden (show Below w1.heap.size w1 wz from mz.bel)
  have DM : Hid (Dm w g q B7 bL bR w.heap.size k (pcv zero4 zero4 zero4 zero4 zero4 zero4 zero4 zero4 zero4 (.slice (some ⟨bL, 0, none⟩) k k) (.slice (some ⟨bR, 0, none⟩) k k)) zp (fun _ => zero4) (fun _ => zero4) (ts l (0)).1 (ts l (0)).2 wz) := hidden ⟨⟨(bl_trans M0.out.bel (bl_trans B1.out BZ.out)), fun p hp => by
      simp only [List.mem_cons, List.not_mem_nil, or_false] at hp
      have hD := HD.out
      rcases hp with rfl | rfl | rfl | rfl
      · have := mz.r (B7, _) (List.Mem.head _); exact ⟨this.1, this.2.1, hD.h7, this.2.2.2⟩
      · have := mz.r (bL, _) (List.Mem.tail _ (List.Mem.head _)); exact ⟨this.1, this.2.1, hD.hL, this.2.2.2⟩
      · have := mz.r (bR, _) (List.Mem.tail _ (List.Mem.tail _ (List.Mem.head _))); exact ⟨this.1, this.2.1, hD.hR, this.2.2.2⟩
      · exact (MW1.out.keep BZ.out).r _ (by simp)⟩, ⟨_, _, RD.out.keep BZ.out, fun a ha => by obtain rfl := Option.some.inj ha; exact hq⟩, (HT.out.keep (bl_trans M0.out.bel (bl_trans B1.out BZ.out)))⟩
  have QL : Hid (q < wz.heap.size) := hidden (Nat.lt_of_lt_of_le (hq ▸ QL0.out.2) BZ.out.size)
  clear mz n1 n2 n3 hq QL0 BZ MW1 M0 B1 RD GG SZ HT
  have NP : Hid (∀ i x, i < 9 + 2 * k → Rb x g q (ts l i).1 (ts l i).2 → Tb x → q < x.heap.size → Calls Tryd.prog 18 #[.pointer (some ⟨g, 0, none⟩)] x fun r w' => r = .returned (.agg #[.int .u64 (sv l i).x0, .int .u64 (sv l i).x1, .int .u64 (sv l i).x2, .int .u64 (sv l i).x3]) ∧ Rb w' g q (ts l (i + 1)).1 (ts l (i + 1)).2 ∧ Tr.Kp g x w') := hidden (fun i x hi h T hq => nextL T h (fun h0 => ts_room l _ HL.out i hi h0) hq)
  have NS : Hid (∀ i x, i < 9 + 2 * k → Rb x g q (ts l i).1 (ts l i).2 → Tb x → q < x.heap.size → Calls Tryd.prog 19 #[.pointer (some ⟨g, 0, none⟩)] x fun r w' => r = .returned (.agg #[.int .u64 (sv l i).x0, .int .u64 (sv l i).x1, .int .u64 (sv l i).x2, .int .u64 (sv l i).x3]) ∧ Rb w' g q (ts l (i + 1)).1 (ts l (i + 1)).2 ∧ Tr.Kp g x w') := hidden (fun i x hi h T hq => nextS T h (fun h0 => ts_room l _ HL.out i hi h0) hq)
  go_upto_region 7 with (first | (go_at_call 18; refine (NP.out _ _ (by omega) DM.out.rb DM.out.tb QL.out).mono ?_; rintro r wx ⟨rfl, hr, hk⟩; replace DM := hidden (DM.out.next HD.out hr hk); replace QL := hidden (Nat.lt_of_lt_of_le QL.out hk.size); clear hr hk) | (have PX := hidden (DM.out.slot0 HD.out (sv l 0)); refine wpList_storeL rfl 32 _ _ rfl rfl B7 0 [.int .u64 (sv l 0).x0, .int .u64 (sv l 0).x1, .int .u64 (sv l 0).x2, .int .u64 (sv l 0).x3] (by rfl) (by rfl) PX.out.2 (i4aL _) (c4_one _) ?_; replace DM := hidden PX.out.1; replace QL := hidden (Nat.lt_of_lt_of_le QL.out (Nat.le_of_eq (size_setCellsM B7 [.int .u64 (sv l 0).x0, .int .u64 (sv l 0).x1, .int .u64 (sv l 0).x2, .int .u64 (sv l 0).x3] 0 _).symm)); clear PX) | (have PX := hidden (DM.out.slot1 HD.out (sv l 1)); refine wpList_storeL rfl 32 _ _ rfl rfl B7 4 [.int .u64 (sv l 1).x0, .int .u64 (sv l 1).x1, .int .u64 (sv l 1).x2, .int .u64 (sv l 1).x3] (by rfl) (by rfl) PX.out.2 (i4aL _) (c4_one _) ?_; replace DM := hidden PX.out.1; replace QL := hidden (Nat.lt_of_lt_of_le QL.out (Nat.le_of_eq (size_setCellsM B7 [.int .u64 (sv l 1).x0, .int .u64 (sv l 1).x1, .int .u64 (sv l 1).x2, .int .u64 (sv l 1).x3] 4 _).symm)); clear PX) | (have PX := hidden (DM.out.slot2 HD.out (sv l 2)); refine wpList_storeL rfl 32 _ _ rfl rfl B7 8 [.int .u64 (sv l 2).x0, .int .u64 (sv l 2).x1, .int .u64 (sv l 2).x2, .int .u64 (sv l 2).x3] (by rfl) (by rfl) PX.out.2 (i4aL _) (c4_one _) ?_; replace DM := hidden PX.out.1; replace QL := hidden (Nat.lt_of_lt_of_le QL.out (Nat.le_of_eq (size_setCellsM B7 [.int .u64 (sv l 2).x0, .int .u64 (sv l 2).x1, .int .u64 (sv l 2).x2, .int .u64 (sv l 2).x3] 8 _).symm)); clear PX) | (have PX := hidden (DM.out.slot3 HD.out (sv l 3)); refine wpList_storeL rfl 32 _ _ rfl rfl B7 12 [.int .u64 (sv l 3).x0, .int .u64 (sv l 3).x1, .int .u64 (sv l 3).x2, .int .u64 (sv l 3).x3] (by rfl) (by rfl) PX.out.2 (i4aL _) (c4_one _) ?_; replace DM := hidden PX.out.1; replace QL := hidden (Nat.lt_of_lt_of_le QL.out (Nat.le_of_eq (size_setCellsM B7 [.int .u64 (sv l 3).x0, .int .u64 (sv l 3).x1, .int .u64 (sv l 3).x2, .int .u64 (sv l 3).x3] 12 _).symm)); clear PX))
  go_upto_region 9 with (first | (go_at_call 19; refine (NS.out _ _ (by omega) DM.out.rb DM.out.tb QL.out).mono ?_; rintro r wx ⟨rfl, hr, hk⟩; replace DM := hidden (DM.out.next HD.out hr hk); replace QL := hidden (Nat.lt_of_lt_of_le QL.out hk.size); clear hr hk) | (have PX := hidden (DM.out.slot4 HD.out (sv l 4)); refine wpList_storeL rfl 24 _ _ rfl rfl B7 16 [.int .u64 (sv l 4).x0, .int .u64 (sv l 4).x1, .int .u64 (sv l 4).x2, .int .u64 (sv l 4).x3] (by rfl) (by rfl) PX.out.2 (i4aS _) (c4_one _) ?_; replace DM := hidden PX.out.1; replace QL := hidden (Nat.lt_of_lt_of_le QL.out (Nat.le_of_eq (size_setCellsM B7 [.int .u64 (sv l 4).x0, .int .u64 (sv l 4).x1, .int .u64 (sv l 4).x2, .int .u64 (sv l 4).x3] 16 _).symm)); clear PX) | (have PX := hidden (DM.out.slot5 HD.out (sv l 5)); refine wpList_storeL rfl 24 _ _ rfl rfl B7 20 [.int .u64 (sv l 5).x0, .int .u64 (sv l 5).x1, .int .u64 (sv l 5).x2, .int .u64 (sv l 5).x3] (by rfl) (by rfl) PX.out.2 (i4aS _) (c4_one _) ?_; replace DM := hidden PX.out.1; replace QL := hidden (Nat.lt_of_lt_of_le QL.out (Nat.le_of_eq (size_setCellsM B7 [.int .u64 (sv l 5).x0, .int .u64 (sv l 5).x1, .int .u64 (sv l 5).x2, .int .u64 (sv l 5).x3] 20 _).symm)); clear PX) | (have PX := hidden (DM.out.slot6 HD.out (sv l 6)); refine wpList_storeL rfl 24 _ _ rfl rfl B7 24 [.int .u64 (sv l 6).x0, .int .u64 (sv l 6).x1, .int .u64 (sv l 6).x2, .int .u64 (sv l 6).x3] (by rfl) (by rfl) PX.out.2 (i4aS _) (c4_one _) ?_; replace DM := hidden PX.out.1; replace QL := hidden (Nat.lt_of_lt_of_le QL.out (Nat.le_of_eq (size_setCellsM B7 [.int .u64 (sv l 6).x0, .int .u64 (sv l 6).x1, .int .u64 (sv l 6).x2, .int .u64 (sv l 6).x3] 24 _).symm)); clear PX))
  go_loopw [48] (fun kv w' => ∃ i : Nat, i ≤ k ∧ kv = .int .i64 (i : Int) ∧ Hid (Dm w g q B7 bL bR w.heap.size k (pcv (sv l 0) (sv l 1) (sv l 2) (sv l 3) (sv l 4) (sv l 5) (sv l 6) zero4 zero4 (.slice (some ⟨bL, 0, none⟩) k k) (.slice (some ⟨bR, 0, none⟩) k k)) zp (fL l i) (fR l i) (ts l (7 + 2 * i)).1 (ts l (7 + 2 * i)).2 w' ∧ q < w'.heap.size)) (fun k' _ => k - (intOf k').toNat)
  case atStart => exact ⟨0, by omega, rfl, hidden ⟨DM.out, QL.out⟩⟩
  case round =>
    clear DM QL
    obtain ⟨i, hi, rfl, DW⟩ := hrel
    by_cases hin : i < k
    · have k0 : (0 : Int) ≤ (i : Int) := by omega
      have k1 : (i : Int) < (k : Int) := by omega
      have w9 : IntKind.i64.wrap ((i : Int) + 1) = (i : Int) + 1 := IntWalk.i64_in _ (by have := HK.out; omega)
      go_upto_region 11 with fail
      refine dp11 _ g q B7 bL bR w.heap.size k i (pcv (sv l 0) (sv l 1) (sv l 2) (sv l 3) (sv l 4) (sv l 5) (sv l 6) zero4 zero4 (.slice (some ⟨bL, 0, none⟩) k k) (.slice (some ⟨bR, 0, none⟩) k k)) zp (fL l i) (fR l i) (sv l (7 + 2 * i)) (sv l (8 + 2 * i)) (ts l (7 + 2 * i)).1 (ts l (8 + 2 * i)).1 (ts l (9 + 2 * i)).1 (ts l (7 + 2 * i)).2 (ts l (8 + 2 * i)).2 (ts l (9 + 2 * i)).2 _ _ _ _ _ _ _ _ _ _ _ _ _ _ _ _ _ _ _ _ _ _ _ _ _ _ _ _ _ _ _ _ _ _ _ _ _ _ _ _ _ _ _ _ _ _ _ _ _ _ _ _ _ _ _ _ _ _ _ _ _ _ _ _ _ _ _ _ _ _ _ _ _ _ w wr hin HD.out DW.out.2 rfl rfl DW.out.1 (hidden (fun x h1 h2 h3 => by have := NP.out (7 + 2 * i) x (by omega) h1 h2 h3; rwa [show 7 + 2 * i + 1 = 8 + 2 * i by omega] at this)) (hidden (fun x h1 h2 h3 => by have := NP.out (8 + 2 * i) x (by omega) h1 h2 h3; rwa [show 8 + 2 * i + 1 = 9 + 2 * i by omega] at this)) (hidden (fun wz hsz hm => ?_))
      rw [fL_up, fR_up, show 9 + 2 * i = 7 + 2 * (i + 1) by omega] at hm
      have HM := hidden hm
      have QZ := hidden (Nat.lt_of_lt_of_le DW.out.2 hsz)
      clear hm hsz DW
      go_wp2_with fail
      go_roundw
      case rel => exact ⟨i + 1, by omega, by go_num, hidden ⟨HM.out, QZ.out⟩⟩
      case measure => simp [intOf]; omega
    · obtain rfl : i = k := by omega
      have lq : ¬ (i : Int) < (i : Int) := by omega
      have DM := hidden DW.out.1
      have QL := hidden DW.out.2
      clear DW hi hin
      have MB := hidden (fun (x x' : World) (P : List Value) (fl fr : Nat → E4) (bs : List UInt8) (e : Int) (h : Dm w g q B7 bL bR w.heap.size i P zp fl fr bs e x) (hk : Tr.Kp g x x') => h.m.kp hk HD.out.g0 (fun p hp => by
        have D := HD.out
        simp only [List.mem_cons, List.not_mem_nil, or_false] at hp
        rcases hp with rfl | rfl | rfl | rfl
        · exact D.n1
        · exact D.n2
        · exact D.n3
        · exact D.n4))
      rcases ts_inv l (9 + 2 * i) HL.out (9 + 2 * i) (Nat.le_refl _) with ⟨e1, e2, e3, e4⟩ | ⟨e1, e3⟩
      · have EN : Hid (∀ x, Rb x g q (ts l (7 + 2 * i + 1 + 1)).1 (ts l (7 + 2 * i + 1 + 1)).2 → Calls Tryd.prog 20 #[.pointer (some ⟨g, 0, none⟩)] x fun r w' => r = .returned (.int .i64 0) ∧ Tr.Kp g x w') := hidden (fun x h => by
          have hh := rb_end h
          rw [show 7 + 2 * i + 1 + 1 = 9 + 2 * i by omega, e1, e2] at hh
          rwa [show Tr.en (l.drop (32 * (9 + 2 * i))) 0 = 0 by unfold Tr.en; rw [List.length_drop, HL.out]; simp] at hh)
        have GD := hidden e3
        clear e1 e2 e3 e4
        have J2 := hidden (pcv_i2 (sv l 0) (sv l 1) (sv l 2) (sv l 3) (sv l 4) (sv l 5) (sv l 6) (sv l (7 + 2 * i)) (sv l (7 + 2 * i + 1)) (.slice (some ⟨bL, 0, none⟩) i i) (.slice (some ⟨bR, 0, none⟩) i i))
        have J1 := hidden (pcv_i (sv l 0) (sv l 1) (sv l 2) (sv l 3) (sv l 4) (sv l 5) (sv l 6) (sv l (7 + 2 * i)) (sv l (7 + 2 * i + 1)) (.slice (some ⟨bL, 0, none⟩) i i) (.slice (some ⟨bR, 0, none⟩) i i))
        have K2 := hidden (pcv_one (sv l 0) (sv l 1) (sv l 2) (sv l 3) (sv l 4) (sv l 5) (sv l 6) (sv l (7 + 2 * i)) (sv l (7 + 2 * i + 1)) (some ⟨bL, 0, none⟩) (some ⟨bR, 0, none⟩) i i i i)
        go_wp2_with (first | (go_at_call 19; refine (NS.out _ _ (by omega) DM.out.rb DM.out.tb QL.out).mono ?_; rintro r wx ⟨rfl, hr, hk⟩; replace DM := hidden (DM.out.next HD.out hr hk); replace QL := hidden (Nat.lt_of_lt_of_le QL.out hk.size); clear hr hk) | (have PX := hidden (DM.out.slot7 HD.out (sv l (7 + 2 * i))); refine wpList_storeL rfl 24 _ _ rfl rfl B7 30 [.int .u64 (sv l (7 + 2 * i)).x0, .int .u64 (sv l (7 + 2 * i)).x1, .int .u64 (sv l (7 + 2 * i)).x2, .int .u64 (sv l (7 + 2 * i)).x3] (by rfl) (by rfl) PX.out.2 (i4aS _) (c4_one _) ?_; replace DM := hidden PX.out.1; replace QL := hidden (Nat.lt_of_lt_of_le QL.out (Nat.le_of_eq (size_setCellsM B7 [.int .u64 (sv l (7 + 2 * i)).x0, .int .u64 (sv l (7 + 2 * i)).x1, .int .u64 (sv l (7 + 2 * i)).x2, .int .u64 (sv l (7 + 2 * i)).x3] 30 _).symm)); clear PX) | (have PX := hidden (DM.out.slot8 HD.out (sv l (7 + 2 * i + 1))); refine wpList_storeL rfl 24 _ _ rfl rfl B7 34 [.int .u64 (sv l (7 + 2 * i + 1)).x0, .int .u64 (sv l (7 + 2 * i + 1)).x1, .int .u64 (sv l (7 + 2 * i + 1)).x2, .int .u64 (sv l (7 + 2 * i + 1)).x3] (by rfl) (by rfl) PX.out.2 (i4aS _) (c4_one _) ?_; replace DM := hidden PX.out.1; replace QL := hidden (Nat.lt_of_lt_of_le QL.out (Nat.le_of_eq (size_setCellsM B7 [.int .u64 (sv l (7 + 2 * i + 1)).x0, .int .u64 (sv l (7 + 2 * i + 1)).x1, .int .u64 (sv l (7 + 2 * i + 1)).x2, .int .u64 (sv l (7 + 2 * i + 1)).x3] 34 _).symm)); clear PX) | (go_at_call 20; refine (EN.out _ DM.out.rb).mono ?_; rintro r we ⟨rfl, hk⟩; have ME := hidden (MB.out _ _ _ _ _ _ _ DM.out hk); have RC := hidden (ME.out.r (B7, pcv (sv l 0) (sv l 1) (sv l 2) (sv l 3) (sv l 4) (sv l 5) (sv l 6) (sv l (7 + 2 * i)) (sv l (7 + 2 * i + 1)) (.slice (some ⟨bL, 0, none⟩) i i) (.slice (some ⟨bR, 0, none⟩) i i)) (by simp)).1; have TH := hidden (ME.out.ther (pcv (sv l 0) (sv l 1) (sv l 2) (sv l 3) (sv l 4) (sv l 5) (sv l 6) (sv l (7 + 2 * i)) (sv l (7 + 2 * i + 1)) (.slice (some ⟨bL, 0, none⟩) i i) (.slice (some ⟨bR, 0, none⟩) i i)) (c := w.heap.size) (o := zp) (by simp) (ZL.out.symm ▸ rfl)); have MF := hidden (ME.out.set (M := [(bL, svs i (fL l i)), (bR, svs i (fR l i))]) (pcv (sv l 0) (sv l 1) (sv l 2) (sv l 3) (sv l 4) (sv l 5) (sv l 6) (sv l (7 + 2 * i)) (sv l (7 + 2 * i + 1)) (.slice (some ⟨bL, 0, none⟩) i i) (.slice (some ⟨bR, 0, none⟩) i i)) (c := w.heap.size) (o := zp) (by simp) (ZL.out.symm ▸ rfl) (fun p hp => by (have D := HD.out; simp only [List.mem_cons, List.not_mem_nil, or_false] at hp; rcases hp with rfl | rfl; (· exact ⟨by simp, D.n9⟩); (· exact ⟨by simp, D.n10⟩)))); have LD := hidden (MF.out.var (c := w.heap.size) (ds := pcv (sv l 0) (sv l 1) (sv l 2) (sv l 3) (sv l 4) (sv l 5) (sv l 6) (sv l (7 + 2 * i)) (sv l (7 + 2 * i + 1)) (.slice (some ⟨bL, 0, none⟩) i i) (.slice (some ⟨bR, 0, none⟩) i i)) (by simp) UP.out rfl J1.out); clear hk DM EN MB) | refine wpList_load_mid rfl 35 _ rfl B7 0 (by rfl) (pcv (sv l 0) (sv l 1) (sv l 2) (sv l 3) (sv l 4) (sv l 5) (sv l 6) (sv l (7 + 2 * i)) (sv l (7 + 2 * i + 1)) (.slice (some ⟨bL, 0, none⟩) i i) (.slice (some ⟨bR, 0, none⟩) i i)) _ RC.out UP.out rfl J1.out ?_ | refine wpList_storeL rfl 35 _ _ rfl rfl w.heap.size 0 (pcv (sv l 0) (sv l 1) (sv l 2) (sv l 3) (sv l 4) (sv l 5) (sv l 6) (sv l (7 + 2 * i)) (sv l (7 + 2 * i + 1)) (.slice (some ⟨bL, 0, none⟩) i i) (.slice (some ⟨bR, 0, none⟩) i i)) (by rfl) (by rfl) TH.out J2.out K2.out ?_)
        have rl : ∀ b f, (b, svs i f) ∈ [(w.heap.size, pcv (sv l 0) (sv l 1) (sv l 2) (sv l 3) (sv l 4) (sv l 5) (sv l 6) (sv l (7 + 2 * i)) (sv l (7 + 2 * i + 1)) (.slice (some ⟨bL, 0, none⟩) i i) (.slice (some ⟨bR, 0, none⟩) i i)), (bL, svs i (fL l i)), (bR, svs i (fR l i))] → Rl _ b 0 i f := fun b f hm => rl_of (MF.out.r (b, svs i f) hm).1
        refine bodyPost_ret (v := .tuple #[.agg (pcv (sv l 0) (sv l 1) (sv l 2) (sv l 3) (sv l 4) (sv l 5) (sv l 6) (sv l (7 + 2 * i)) (sv l (7 + 2 * i + 1)) (.slice (some ⟨bL, 0, none⟩) i i) (.slice (some ⟨bR, 0, none⟩) i i)).toArray, .int .i64 0]) (results_pairM Tryd.results5 _ _ _ _ _ _ (by rfl) (by rfl) LD.out) rfl ⟨_, _, rfl, MF.out.bel, .inl ⟨rfl, GD.out, bL, bR, by rw [show 8 + 2 * i = 7 + 2 * i + 1 by omega], MF.out.sub (by simp), HD.out.n7⟩⟩
      · have EN : Hid (∀ x, Rb x g q (ts l (7 + 2 * i + 1 + 1)).1 (ts l (7 + 2 * i + 1 + 1)).2 → Calls Tryd.prog 20 #[.pointer (some ⟨g, 0, none⟩)] x fun r w' => r = .returned (.int .i64 3) ∧ Tr.Kp g x w') := hidden (fun x h => by
          have hh := rb_end h
          rw [show 7 + 2 * i + 1 + 1 = 9 + 2 * i by omega, e1] at hh
          rwa [show ∀ bs, Tr.en bs 3 = 3 from fun bs => by unfold Tr.en; simp] at hh)
        have GD := hidden e3
        clear e1 e3
        go_wp2_with (first | (go_at_call 19; refine (NS.out _ _ (by omega) DM.out.rb DM.out.tb QL.out).mono ?_; rintro r wx ⟨rfl, hr, hk⟩; replace DM := hidden (DM.out.next HD.out hr hk); replace QL := hidden (Nat.lt_of_lt_of_le QL.out hk.size); clear hr hk) | (have PX := hidden (DM.out.slot7 HD.out (sv l (7 + 2 * i))); refine wpList_storeL rfl 24 _ _ rfl rfl B7 30 [.int .u64 (sv l (7 + 2 * i)).x0, .int .u64 (sv l (7 + 2 * i)).x1, .int .u64 (sv l (7 + 2 * i)).x2, .int .u64 (sv l (7 + 2 * i)).x3] (by rfl) (by rfl) PX.out.2 (i4aS _) (c4_one _) ?_; replace DM := hidden PX.out.1; replace QL := hidden (Nat.lt_of_lt_of_le QL.out (Nat.le_of_eq (size_setCellsM B7 [.int .u64 (sv l (7 + 2 * i)).x0, .int .u64 (sv l (7 + 2 * i)).x1, .int .u64 (sv l (7 + 2 * i)).x2, .int .u64 (sv l (7 + 2 * i)).x3] 30 _).symm)); clear PX) | (have PX := hidden (DM.out.slot8 HD.out (sv l (7 + 2 * i + 1))); refine wpList_storeL rfl 24 _ _ rfl rfl B7 34 [.int .u64 (sv l (7 + 2 * i + 1)).x0, .int .u64 (sv l (7 + 2 * i + 1)).x1, .int .u64 (sv l (7 + 2 * i + 1)).x2, .int .u64 (sv l (7 + 2 * i + 1)).x3] (by rfl) (by rfl) PX.out.2 (i4aS _) (c4_one _) ?_; replace DM := hidden PX.out.1; replace QL := hidden (Nat.lt_of_lt_of_le QL.out (Nat.le_of_eq (size_setCellsM B7 [.int .u64 (sv l (7 + 2 * i + 1)).x0, .int .u64 (sv l (7 + 2 * i + 1)).x1, .int .u64 (sv l (7 + 2 * i + 1)).x2, .int .u64 (sv l (7 + 2 * i + 1)).x3] 34 _).symm)); clear PX) | (go_at_call 20; refine (EN.out _ DM.out.rb).mono ?_; rintro r we ⟨rfl, hk⟩; have ME := hidden (MB.out _ _ _ _ _ _ _ DM.out hk); have TH := hidden (ME.out.ther zp (c := w.heap.size) (o := zp) (by simp) rfl); have MF := hidden (ME.out.set (M := []) zp (c := w.heap.size) (o := zp) (by simp) rfl (by simp)); have LD := hidden (MF.out.var (c := w.heap.size) (ds := zp) (by simp) UP.out rfl I1.out); clear hk DM EN MB) | (refine wpList_buildP rfl rfl ?_; rw [HZ.out]) | refine wpList_storeL rfl 35 _ _ rfl rfl w.heap.size 0 zp (by rfl) (by rfl) TH.out I2.out O2.out ?_)
        refine bodyPost_ret (v := .tuple #[.agg zp.toArray, .int .i64 3]) (results_pairM Tryd.results5 _ _ _ _ _ _ (by rfl) (by rfl) LD.out) rfl ⟨_, _, rfl, MF.out.bel, .inr ⟨rfl, GD.out, rfl⟩⟩
end Go.Proofs.YthkfjggogcmdmaaDoor
namespace Go.Proofs.YthkfjggogcmdmaaDoor
open Go.RowKit
set_option linter.unusedVariables false
/-- what lies where, in blocks that are all unlike -/
structure Mv (w0 : World) (L : List (Nat × List Value)) (w : World) : Prop where
  m : Mw w0 L w
  nd : (L.map Prod.fst).Nodup
theorem Mv.start (w : World) : Mv w [] w := ⟨Mw.start w, by simp⟩
theorem Mv.keep {w0 w w' : World} {L : List (Nat × List Value)} (h : Mv w0 L w) (hb : Below w.heap.size w w') : Mv w0 L w' := ⟨h.m.keep hb, h.nd⟩
theorem Mv.app {w0 w w' : World} {L K : List (Nat × List Value)} (h : Mv w0 L w) (k : Mw w K w') (nd : (K.map Prod.fst).Nodup) : Mv w0 (K ++ L) w' := by
  have h' := h.m.keep k.bel
  refine ⟨⟨h'.bel, fun p hp => ?_⟩, ?_⟩
  · rcases List.mem_append.1 hp with hp | hp
    · obtain ⟨a, b, c, d⟩ := k.r p hp
      exact ⟨a, b, Nat.le_trans h.m.bel.size c, d⟩
    · exact h'.r p hp
  · rw [List.map_append, List.nodup_append]
    refine ⟨nd, h.nd, fun a ha b hb e => ?_⟩
    obtain ⟨p, hp, rfl⟩ := List.mem_map.1 ha
    obtain ⟨q, hq, rfl⟩ := List.mem_map.1 hb
    have h1 := (k.r p hp).2.2.1
    have h2 := (h.m.r q hq).2.2.2
    omega
theorem Mv.one {w0 w w' : World} {L : List (Nat × List Value)} {c : Nat} {cs : List Value} (h : Mv w0 L w) (k : Mw w [(c, cs)] w') : Mv w0 ((c, cs) :: L) w' := h.app k (by simp)
theorem Mv.two {w0 w w' : World} {L : List (Nat × List Value)} {c d : Nat} {cs ds : List Value} (h : Mv w0 L w) (k : Mw w [(c, cs), (d, ds)] w') (hne : c ≠ d) : Mv w0 ((c, cs) :: (d, ds) :: L) w' := h.app k (by simp [hne])
theorem Mw.newset {w0 w : World} {L : List (Nat × List Value)} (h : Mw w0 L w) (zs cs : List Value) (t : TypeId) (hl : cs.length = zs.length) : Mw w0 ((w.heap.size, cs) :: L) ((w.alloc (.cells zs.toArray t)).setCells w.heap.size 0 cs) := by
  have h1 := h.new zs t
  exact h1.set (M := L) cs (c := w.heap.size) (o := zs) (by simp) hl (fun p hp => ⟨List.mem_cons_of_mem _ hp, fun e => by have := (h.r p hp).2.2.2; omega⟩)
theorem Mv.newset {w0 w : World} {L : List (Nat × List Value)} (h : Mv w0 L w) (zs cs : List Value) (t : TypeId) (hl : cs.length = zs.length) : Mv w0 ((w.heap.size, cs) :: L) ((w.alloc (.cells zs.toArray t)).setCells w.heap.size 0 cs) :=
  h.one ((Mw.start w).newset zs cs t hl)
theorem Mv.new {w0 w : World} {L : List (Nat × List Value)} (h : Mv w0 L w) (cs : List Value) (t : TypeId) : Mv w0 ((w.heap.size, cs) :: L) (w.alloc (.cells cs.toArray t)) := h.one ((Mw.start w).new cs t)
theorem Mv.upd {w0 w w' : World} {L : List (Nat × List Value)} (h : Mv w0 L w) (i : Nat) {c : Nat} {cs ds : List Value} (hi : L[i]? = some (c, cs)) (hg : w.grownBy w' (some c)) (hr : w'.rangeAt c 0 ds) (ht : w'.there c 0 ds.length) : Mv w0 (L.set i (c, ds)) w' := by
  have hm := h.m.r (c, cs) (List.mem_of_getElem? hi)
  have e : (L.set i (c, ds)).map Prod.fst = L.map Prod.fst := by
    rw [List.map_set]
    refine List.ext_getElem? fun j => ?_
    rw [List.getElem?_set]
    by_cases hj : i = j
    · subst hj
      have hlt : i < L.length := (List.getElem?_eq_some_iff.1 hi).1
      simp [hi]
      exact hlt
    · rw [if_neg hj]
  refine ⟨⟨h.m.bel.grown hg h.m.bel.size (fun j hj => by obtain rfl := Option.some.inj hj; exact hm.2.2.1), fun p hp => ?_⟩, by rw [e]; exact h.nd⟩
  obtain ⟨j, hj⟩ := List.getElem?_of_mem hp
  rw [List.getElem?_set] at hj
  by_cases hij : i = j
  · rw [if_pos hij] at hj
    split at hj
    · cases hj; exact ⟨hr, ht, hm.2.2.1, Nat.lt_of_lt_of_le hm.2.2.2 hg.size⟩
    · cases hj
  · rw [if_neg hij] at hj
    have hp' := h.m.r p (List.mem_of_getElem? hj)
    have hne : c ≠ p.1 := fun ec => hij ((List.getElem?_inj (by rw [List.length_map]; exact (List.getElem?_eq_some_iff.1 hi).1) h.nd).1 (by rw [List.getElem?_map, List.getElem?_map, hi, hj]; simp [ec]))
    obtain ⟨a, b, c', d⟩ := hp'
    have hb := hg.block p.1 d (fun e => hne (Option.some.inj e).symm)
    exact ⟨fun k v hv => (World.cell?_of_block hb).trans (a k v hv), fun k hk => ⟨by rw [World.cell?_of_block hb]; exact (b k hk).1, by rw [World.frozen?_of_block hb]; exact (b k hk).2⟩, c', Nat.lt_of_lt_of_le d hg.size⟩
theorem own_mw {w w' : World} {e : TypeId} {s n k G : Nat} {xs : List Value} (hb : Below w.heap.size w w') (ho : w'.ownsRow w.heap.size e s (.slice (some ⟨G, 0, none⟩) n k) n xs) (hl : xs.length = n * s) : Mw w [(G, xs)] w' := by
  refine ⟨hb, fun p hp => ?_⟩
  obtain rfl : p = (G, xs) := by simpa using hp
  refine ⟨fun j v hv => ?_, fun j hj => ⟨?_, ho.frozenAt _⟩, (ho.lt G rfl).1, (ho.lt G rfl).2⟩
  · have hj : j < n * s := by have h9 := (List.getElem?_eq_some_iff.1 hv).1; simp only at h9; omega
    rw [Nat.zero_add, ho.cellAt j hj]; exact hv
  · have hj' : j < xs.length := hj
    rw [Nat.zero_add, ho.cellAt j (by omega)]; simp [hj']
theorem by_rangeX {w : World} {G c : Nat} {bs : List UInt8} (h : w.rangeAt G 0 (Tr.cb bs)) : Tr.By w (some ⟨G, 0, none⟩) c bs := by
  refine ⟨fun e => (by cases e), fun a ha j u hu => ?_⟩
  obtain rfl := Option.some.inj ha
  have h9 := h j u hu
  rwa [Addr.add_lit]
theorem gb_setCells (b : Nat) : ∀ (vs : List Value) (o : Nat) (w : World), w.grownBy (w.setCells b o vs) (some b)
  | [], _, w => World.grownBy.refl _ _
  | v :: vs, o, w => by
    rw [World.setCells]
    have h1 : w.grownBy (w.setCell ⟨b, o, none⟩ v) (some b) := ⟨rfl, rfl, rfl, by simp, fun k _ hk => heap_setCell_other w ⟨b, o, none⟩ k v (fun e => hk (by simp [e]))⟩
    exact h1.trans (gb_setCells b vs (o + 1) _)
/-- all is copied -/
theorem Mv.copy {w0 w : World} {L : List (Nat × List Value)} (h : Mv w0 L w) (i : Nat) {c : Nat} {cs : List Value} (ds : List Value) (hi : L[i]? = some (c, cs)) (hl : ds.length = cs.length) : Mv w0 (L.set i (c, ds)) (w.setCells c 0 ds) := by
  have ht := (h.m.r (c, cs) (List.mem_of_getElem? hi)).2.1
  have ht' : w.there c 0 ds.length := by rw [hl]; exact ht
  exact h.upd i hi (gb_setCells c ds 0 w) (World.rangeAt_setCells_same w c 0 ds ht') (there_setM ht' c ds)
theorem wpList_copyX {P : Program} (w : World) {ops : Array Oper} {rest : List Oper} {o : Oper} {a : Act} {Q : Exit → Act → World → Prop} (hgd : o.guard = none) (x y : Operand) (t u : TypeId)
    (ho : o.op = .call { callee := .builtin .copy, args := #[x, y], argTypes := #[t, u] }) (v1 v2 : Value) (h1 : a.eval x = v1) (h2 : a.eval y = v2) {v : Value} {w' : World}
    (hr : (Builtin.copy_ #[t, u] o.type #[v1, v2]).run P w = .ok v w') (h : wpList P ops Q rest (a.put o.dst v) w') : wpList P ops Q (o :: rest) a w := by
  refine wpList_plain hgd fun K hK => ?_
  unfold Oper.wp execOp
  simp only [ho, resolve, invoke, builtin, Sem.run_bind, Sem.run_pure, Result.andThen_ok, List.map_toArray, List.map_cons, List.map_nil, h1, h2, hr]
  exact hK _ _ h
theorem copy_bytes {w : World} {G1 G2 c1 c2 N ty : Nat} {Z : List UInt8} (hN : Z.length = N) (h2 : w.rangeAt G2 0 (Tr.cb Z)) (h1 : w.there G1 0 N) :
    (Builtin.copy_ #[29, 29] ty #[.slice (some ⟨G1, 0, none⟩) N c1, .slice (some ⟨G2, 0, none⟩) N c2]).run Tryd.prog w = .ok (goInt (Tr.cb Z).length) (w.setCells G1 0 (Tr.cb Z)) := by
  have hz : (Tr.cb Z).length = N := by rw [Tr.cb_len, hN]
  refine run_copy_cells w _ _ _ 5 G1 0 N c1 ⟨G2, 0, none⟩ N c2 (Tr.cb Z) (by kernel_rfl) (by kernel_rfl) (by rw [hz]; simp) (fun j v hv => ?_) (fun j hj => ?_) (fun j hj => ?_) (Tr.cb_one Z)
  · have := h2 j v hv; rwa [Addr.add_lit]
  · exact (h1 j (by omega)).1
  · exact (h1 j (by omega)).2
theorem run_copy_cellsN {P : Program} (w : World) (dT sT ty elem : TypeId) (size b o n dCap : Nat) (a : Addr) (sCap : Nat) (cs : List Value)
    (hu : P.underlying dT = some (.slice elem)) (hs : (P.info? elem).map (·.size) = some size) (hn : cs.length = n * size)
    (hsrc : ∀ j v, cs[j]? = some v → w.cell? (a.add j) = some v) (hc : ∀ j, j < cs.length → (w.cell? ⟨b, o + j, none⟩).isSome = true) (hf : ∀ j, j < cs.length → w.frozen? ⟨b, o + j, none⟩ = false) (h1 : ∀ v ∈ cs, v.oneCell' = true) :
    (Builtin.copy_ #[dT, sT] ty #[.slice (some ⟨b, o, none⟩) n dCap, .slice (some a) n sCap]).run P w = .ok (goInt n) (w.setCells b o cs) := by
  have hl := run_loadCells_list (P := P) w a cs hsrc
  have hst := run_storeCells_cells (P := P) b o cs 0 w (by simpa using hc) (by simpa using hf) h1
  cases hq : P.info? elem with
  | none => simp [hq] at hs
  | some i =>
    have hi : i.size = size := by simpa [hq] using hs
    rw [hn] at hl
    simp [Builtin.copy_, run_underlying hu, Builtin.lenOf, Builtin.firstCells, sizeOf, typeInfo, hq, hi, hl, hst]
theorem copy_lines {w : World} {b1 b2 c1 c2 n ty : Nat} {g : Nat → E4} (h2 : w.rangeAt b2 0 (svs n g)) (h1 : w.there b1 0 (svs n g).length) :
    (Builtin.copy_ #[33, 33] ty #[.slice (some ⟨b1, 0, none⟩) n c1, .slice (some ⟨b2, 0, none⟩) n c2]).run Tryd.prog w = .ok (goInt n) (w.setCells b1 0 (svs n g)) := by
  refine run_copy_cellsN w _ _ _ 32 4 b1 0 n c1 ⟨b2, 0, none⟩ c2 (svs n g) (by kernel_rfl) (by kernel_rfl) (svs_len n g) (fun j v hv => ?_) (fun j hj => ?_) (fun j hj => ?_) (svs_one g n)
  · have := h2 j v hv; rwa [Addr.add_lit]
  · exact (h1 j hj).1
  · exact (h1 j hj).2
theorem copy_zero {w : World} {P Q : Option Addr} {c1 c2 ty : Nat} :
    (Builtin.copy_ #[33, 33] ty #[.slice P 0 c1, .slice Q 0 c2]).run Tryd.prog w = .ok (goInt 0) w := by
  have hl : ∀ (x : Addr), (loadCells x 0).run Tryd.prog w = .ok #[] w := fun x => by simpa using run_loadCells_list (P := Tryd.prog) w x [] (by simp)
  have hu : Tryd.prog.underlying 33 = some (.slice 32) := by kernel_rfl
  cases hq : Tryd.prog.info? 32 with
  | none => exact absurd hq (by have : (Tryd.prog.info? 32).isSome = true := by kernel_rfl
                                intro h; rw [h] at this; cases this)
  | some i => cases P <;> cases Q <;> simp [Builtin.copy_, run_underlying hu, Builtin.lenOf, Builtin.firstCells, sizeOf, typeInfo, hq, storeCells, hl]
theorem pe_dok (k : Nat) (s l r : Nat → E4) (hk : k ≤ 10) : DOk (pe k s l r) k := ⟨hk, pe_len k s l r, fun j hj => (back_st k s l r j hj).1⟩
theorem dec_new (G c k : Nat) (l : List UInt8) (w : World) (hT : Tb w) (hr : w.rangeAt G 0 (Tr.cb l)) (hk : DOk l k) :
    Calls Tryd.prog 5 #[.slice (some ⟨G, 0, none⟩) (32 * (9 + 2 * k)) c] w fun e w' => ∃ bL bR : Nat, e = .returned (.tuple #[.agg (pc (gs l k) (.slice (some ⟨bL, 0, none⟩) k k) (.slice (some ⟨bR, 0, none⟩) k k)).toArray, .int .i64 0]) ∧ Mw w [(bL, svs k (gl l)), (bR, svs k (gr l))] w' ∧ bL ≠ bR := by
  have D := dec_two (some ⟨G, 0, none⟩) c k l w hT (by_rangeX hr) hk.1 hk.2.1
  rw [hk.2.1] at D
  refine D.mono fun e w' ⟨v, er, he, hb, hc⟩ => ?_
  have hlen := hk.2.1
  have hg := hk.2.2
  rcases hc with ⟨h0, _, bL, bR, hv, mm, hne⟩ | ⟨h3, ⟨j, hj, hbad⟩, hv⟩
  · have hs : ∀ j, j < 9 + 2 * k → sv l j = gv l j := by
      rcases ts_inv l _ hlen (9 + 2 * k) (Nat.le_refl _) with ⟨_, _, _, h4⟩ | ⟨_, j, hj, hbad⟩
      · exact h4
      · exact absurd (hg j hj) hbad
    have e1 : svs k (fL l k) = svs k (gl l) := svs_congr (fun j hj => by unfold fL gl; rw [if_pos hj, hs _ (by omega)])
    have e2 : svs k (fR l k) = svs k (gr l) := svs_congr (fun j hj => by unfold fR gr; rw [if_pos hj, hs _ (by omega)])
    rw [e1, e2] at mm
    refine ⟨bL, bR, ?_, mm, hne⟩
    rw [he, hv, h0, pcv_pc, hs 0 (by omega), hs 1 (by omega), hs 2 (by omega), hs 3 (by omega), hs 4 (by omega), hs 5 (by omega), hs 6 (by omega), hs (7 + 2 * k) (by omega), hs (8 + 2 * k) (by omega)]
    have g : ∀ j, j < 7 → gs l k j = gv l j := fun j hj => by unfold gs; rw [if_pos hj]
    have g7 : gs l k 7 = gv l (7 + 2 * k) := by unfold gs; rw [if_neg (by omega)]
    have g8 : gs l k 8 = gv l (8 + 2 * k) := by unfold gs; rw [if_neg (by omega)]
    rw [g 0 (by omega), g 1 (by omega), g 2 (by omega), g 3 (by omega), g 4 (by omega), g 5 (by omega), g 6 (by omega), g7, g8]
  · exact absurd (hg j hj) hbad
/-- bytes of a proof -/
theorem bytes_new (s l r : Nat → E4) (LP RP : Option Addr) (n cL cR : Nat) (w : World) (hn : n ≤ 10) (os : ∀ k, k < 9 → (s k).ok) (ol : ∀ k, k < n → (l k).ok) (or : ∀ k, k < n → (r k).ok) (hL : Lm w LP n l) (hR : Lm w RP n r) :
    Calls Tryd.prog 4 #[.agg (pc s (.slice LP n cL) (.slice RP n cR)).toArray] w fun e w' => ∃ G c : Nat, e = .returned (.slice (some ⟨G, 0, none⟩) (32 * (9 + 2 * n)) c) ∧ Mw w [(G, Tr.cb (pe n s l r))] w' :=
  (bytes_any s l r LP RP n cL cR w hn os ol or hL hR).mono fun e w' ⟨G, c, he, ho, hb⟩ => ⟨G, c, he, own_mw hb ho (by rw [Tr.cb_len, pe_len, Nat.mul_one])⟩
theorem enc_new (s l r : Nat → E4) (LP RP : Option Addr) (n cL cR : Nat) (w : World) (hT : Tb w) (hn : n ≤ 10) (os : ∀ k, k < 9 → (s k).ok) (ol : ∀ k, k < n → (l k).ok) (or : ∀ k, k < n → (r k).ok) (hL : Lm w LP n l) (hR : Lm w RP n r) (bL : ∀ a, LP = some a → a.block < w.heap.size) (bR : ∀ a, RP = some a → a.block < w.heap.size) :
    Calls Tryd.prog 8 #[.agg (pc s (.slice LP n cL) (.slice RP n cR)).toArray] w fun e w' => ∃ G : Nat, e = .returned (.tuple #[.slice (some ⟨G, 0, none⟩) (32 * (9 + 2 * n)) (32 * (9 + 2 * n)), .int .i64 0]) ∧ Mw w [(G, Tr.cb (pe n s l r))] w' := by
  have E := enc_ok s l r LP RP n cL cR w hT hn os ol or hL hR bL bR
  rw [pe_len] at E
  exact E.mono fun e w' ⟨G, he, ho, hb⟩ => ⟨G, he, own_mw hb ho (by rw [Tr.cb_len, pe_len, Nat.mul_one])⟩
theorem lm_range {w : World} {b n : Nat} {g : Nat → E4} (h : w.rangeAt b 0 (svs n g)) : Lm w (some ⟨b, 0, none⟩) n g := ⟨b, 0, fun _ => rfl, fun _ => rl_of h⟩
theorem line_new (s l r : Nat → E4) (LP RP : Option Addr) (n cL cR : Nat) (w : World) (h0 : 0 < n) (hn : n ≤ 10) (hL : Lm w LP n l) (hR : Lm w RP n r) :
    Calls Tryd.prog 10 #[.agg (pc s (.slice LP n cL) (.slice RP n cR)).toArray] w fun e w' => ∃ b1 c1 b2 c2 : Nat, e = .returned (.agg (pc s (.slice (some ⟨b1, 0, none⟩) n c1) (.slice (some ⟨b2, 0, none⟩) n c2)).toArray) ∧ Mw w [(b1, svs n l), (b2, svs n r)] w' ∧ b1 ≠ b2 := by
  refine (line_two s l r LP RP n n cL cR w (by omega) (by omega) hL hR).mono fun e w' ⟨P1, c1, P2, c2, he, o1, o2, ne, hb⟩ => ?_
  have sh : ∀ {P : Option Addr} {c : Nat} {g : Nat → E4}, w'.ownsRow w.heap.size 32 4 (.slice P n c) n (svs n g) → ∃ b, P = some ⟨b, 0, none⟩ := fun {P c g} h => by
    rcases h.2 with ⟨_, h1⟩ | ⟨g', cap, cur, h1, _⟩
    · omega
    · exact ⟨g', by simpa using (Value.slice.inj h1).1⟩
  obtain ⟨b1, rfl⟩ := sh o1
  obtain ⟨b2, rfl⟩ := sh o2
  have m1 := own_mw hb o1 (svs_len n l)
  have m2 := own_mw hb o2 (svs_len n r)
  exact ⟨b1, c1, b2, c2, he, ⟨hb, fun p hp => by
    rcases List.mem_cons.1 hp with rfl | hp
    · exact m1.r _ (by simp)
    · exact m2.r _ hp⟩, ne b1 b2 rfl rfl⟩
theorem line_zero (s l r : Nat → E4) (LP RP : Option Addr) (cL cR : Nat) (w : World) :
    Calls Tryd.prog 10 #[.agg (pc s (.slice LP 0 cL) (.slice RP 0 cR)).toArray] w fun e w' => ∃ P1 c1 P2 c2, e = .returned (.agg (pc s (.slice P1 0 c1) (.slice P2 0 c2)).toArray) ∧ (∀ a, P1 = some a → a.block < w'.heap.size) ∧ (∀ a, P2 = some a → a.block < w'.heap.size) ∧ Below w.heap.size w w' :=
  (line_any s l r LP RP 0 0 cL cR w (by omega) (by omega) ⟨0, 0, fun h => by omega, fun h => by omega⟩ ⟨0, 0, fun h => by omega, fun h => by omega⟩).mono fun e w' ⟨P1, c1, P2, c2, he, o1, o2, hb⟩ => ⟨P1, c1, P2, c2, he, (own_lm o1).2, (own_lm o2).2, hb⟩
end Go.Proofs.YthkfjggogcmdmaaDoor
namespace Go.Proofs.YthkfjggogcmdmaaDoor
open Go.RowKit
set_option linter.unusedVariables false
theorem gbX {w w' : World} (h : Below w.heap.size w w') (row : Option Nat) : w.grownBy w' row := ⟨h.os, h.tape, h.output, h.size, fun k hk _ => h.block k hk⟩
theorem ptOne {w0 w : World} {T : Nat} {D : List Value} (h : Mw w0 [(T, D)] w) (o : Nat) (vs : List Value) (hD : o + vs.length ≤ D.length) : Mw w0 [(T, pt D o vs)] (w.setCells T o vs) ∧ w.there T o vs.toArray.size :=
  h.patch o vs (D.take o) (D.drop (o + vs.length)) ⟨(D.drop o).take vs.length, by simp; omega, by
    conv => lhs; rw [← List.take_append_drop o D, ← List.take_append_drop vs.length (D.drop o), List.drop_drop]⟩ (by simp; omega) (fun p hp => by cases hp)
theorem wpinfo : (Tryd.prog.info? 28).map (·.size) = some 38 := by kernel_rfl
def wa3o : Array Oper := #[{ dst := some 53, op := Op.load 28 (Operand.tmp 3), type := 28, pos := "law.go:458", after := #[], guard := none },
  { dst := some 54, op := Op.call { callee := Callee.value (Operand.func 4), args := #[Operand.tmp 53], argTypes := #[28] }, type := 29, pos := "law.go:458", after := #[{ on := 0, ground := Ground.data }], guard := none },
  { dst := some 55, op := Op.load 28 (Operand.tmp 4), type := 28, pos := "law.go:458", after := #[], guard := none },
  { dst := some 56, op := Op.call { callee := Callee.value (Operand.func 4), args := #[Operand.tmp 55], argTypes := #[28] }, type := 29, pos := "law.go:458", after := #[{ on := 2, ground := Ground.data }, { on := 1, ground := Ground.chain }], guard := none },
  { dst := some 7, op := Op.assign (Operand.tmp 54), type := 29, pos := "law.go:458", after := #[{ on := 1, ground := Ground.data }, { on := 3, ground := Ground.chain }, { on := 0, ground := Ground.phase }, { on := 1, ground := Ground.phase }, { on := 2, ground := Ground.textOnly Departure.lateStores }, { on := 3, ground := Ground.textOnly Departure.lateStoresUnsure }], guard := none },
  { dst := some 8, op := Op.assign (Operand.tmp 56), type := 29, pos := "law.go:458", after := #[{ on := 3, ground := Ground.data }, { on := 4, ground := Ground.chain }, { on := 0, ground := Ground.phase }, { on := 1, ground := Ground.phase }, { on := 2, ground := Ground.phase }, { on := 3, ground := Ground.phase }, { on := 4, ground := Ground.phase }], guard := none }]
set_option maxRecDepth 100000 in
set_option maxHeartbeats 16000000 in
theorem wa3 (Q : Exit → Act → World → Prop) (T3 T4 N : Nat) (Q1 Q2 X Z : List Value) (w0 : World) (L : List (Nat × List Value)) (u0 u1 u2 u5 u6 u7 u8 u9 u10 u11 u12 u13 u14 u15 u16 u17 u18 u19 u20 u21 u22 u23 u24 u25 u26 u27 u28 u29 u30 u31 u32 u33 u34 u35 u36 u37 u38 u39 u40 u41 u42 u43 u44 u45 u46 u47 u48 u49 u50 u51 u52 u53 u54 u55 u56 u57 u58 u59 u60 u61 u62 u63 u64 u65 u66 u67 u68 u69 u70 u71 u72 u73 u74 u75 u76 u77 u78 u79 u80 u81 u82 u83 u84 u85 u86 u87 u88 u89 u90 u91 u92 u93 u94 u95 u96 u97 u98 u99 u100 u101 u102 u103 u104 u105 u106 u107 u108 u109 u110 u111 u112 u113 u114 u115 u116 u117 u118 u119 u120 u121 u122 u123 u124 u125 u126 u127 u128 u129 u130 u131 u132 u133 u134 u135 u136 u137 u138 u139 u140 u141 u142 u143 u144 u145 u146 u147 u148 u149 u150 u151 u152 u153 u154 u155 u156 u157 u158 u159 u160 u161 u162 u163 u164 u165 u166 u167 u168 u169 u170 u171 u172 u173 u174 u175 u176 u177 u178 u179 u180 u181 u182 u183 u184 u185 u186 u187 u188 u189 u190 u191 u192 u193 u194 u195 u196 u197 u198 u199 u200 u201 u202 u203 u204 u205 u206 u207 u208 u209 u210 u211 u212 u213 u214 u215 u216 u217 u218 u219 : Value) (W : World)
    (h1 : W.rangeAt T3 0 Q1) (h2 : W.rangeAt T4 0 Q2) (q1 : Q1.length = 38) (q2 : Q2.length = 38) (hM : Mv w0 L W)
    (C1 : Hid (∀ x, Below W.heap.size W x → Calls Tryd.prog 4 #[.agg Q1.toArray] x fun e w' => ∃ G c : Nat, e = .returned (.slice (some ⟨G, 0, none⟩) N c) ∧ Mw x [(G, X)] w')) (C3 : Hid (∀ x, Below W.heap.size W x → Calls Tryd.prog 4 #[.agg Q2.toArray] x fun e w' => ∃ G c : Nat, e = .returned (.slice (some ⟨G, 0, none⟩) N c) ∧ Mw x [(G, Z)] w'))
    (HQ : Hid (∀ G1 k1 G2 k2 wz, Mv w0 ((G2, Z) :: (G1, X) :: L) wz → Below W.heap.size W wz → Q .normal ⟨#[u0, u1, u2, .pointer (some ⟨T3, 0, none⟩), .pointer (some ⟨T4, 0, none⟩), u5, u6, .slice (some ⟨G1, 0, none⟩) N k1, .slice (some ⟨G2, 0, none⟩) N k2, u9, u10, u11, u12, u13, u14, u15, u16, u17, u18, u19, u20, u21, u22, u23, u24, u25, u26, u27, u28, u29, u30, u31, u32, u33, u34, u35, u36, u37, u38, u39, u40, u41, u42, u43, u44, u45, u46, u47, u48, u49, u50, u51, u52, .agg Q1.toArray, .slice (some ⟨G1, 0, none⟩) N k1, .agg Q2.toArray, .slice (some ⟨G2, 0, none⟩) N k2, u57, u58, u59, u60, u61, u62, u63, u64, u65, u66, u67, u68, u69, u70, u71, u72, u73, u74, u75, u76, u77, u78, u79, u80, u81, u82, u83, u84, u85, u86, u87, u88, u89, u90, u91, u92, u93, u94, u95, u96, u97, u98, u99, u100, u101, u102, u103, u104, u105, u106, u107, u108, u109, u110, u111, u112, u113, u114, u115, u116, u117, u118, u119, u120, u121, u122, u123, u124, u125, u126, u127, u128, u129, u130, u131, u132, u133, u134, u135, u136, u137, u138, u139, u140, u141, u142, u143, u144, u145, u146, u147, u148, u149, u150, u151, u152, u153, u154, u155, u156, u157, u158, u159, u160, u161, u162, u163, u164, u165, u166, u167, u168, u169, u170, u171, u172, u173, u174, u175, u176, u177, u178, u179, u180, u181, u182, u183, u184, u185, u186, u187, u188, u189, u190, u191, u192, u193, u194, u195, u196, u197, u198, u199, u200, u201, u202, u203, u204, u205, u206, u207, u208, u209, u210, u211, u212, u213, u214, u215, u216, u217, u218, u219], []⟩ wz)) : (Code.region 3 wa3o true).wp Tryd.prog Q ⟨#[u0, u1, u2, .pointer (some ⟨T3, 0, none⟩), .pointer (some ⟨T4, 0, none⟩), u5, u6, u7, u8, u9, u10, u11, u12, u13, u14, u15, u16, u17, u18, u19, u20, u21, u22, u23, u24, u25, u26, u27, u28, u29, u30, u31, u32, u33, u34, u35, u36, u37, u38, u39, u40, u41, u42, u43, u44, u45, u46, u47, u48, u49, u50, u51, u52, u53, u54, u55, u56, u57, u58, u59, u60, u61, u62, u63, u64, u65, u66, u67, u68, u69, u70, u71, u72, u73, u74, u75, u76, u77, u78, u79, u80, u81, u82, u83, u84, u85, u86, u87, u88, u89, u90, u91, u92, u93, u94, u95, u96, u97, u98, u99, u100, u101, u102, u103, u104, u105, u106, u107, u108, u109, u110, u111, u112, u113, u114, u115, u116, u117, u118, u119, u120, u121, u122, u123, u124, u125, u126, u127, u128, u129, u130, u131, u132, u133, u134, u135, u136, u137, u138, u139, u140, u141, u142, u143, u144, u145, u146, u147, u148, u149, u150, u151, u152, u153, u154, u155, u156, u157, u158, u159, u160, u161, u162, u163, u164, u165, u166, u167, u168, u169, u170, u171, u172, u173, u174, u175, u176, u177, u178, u179, u180, u181, u182, u183, u184, u185, u186, u187, u188, u189, u190, u191, u192, u193, u194, u195, u196, u197, u198, u199, u200, u201, u202, u203, u204, u205, u206, u207, u208, u209, u210, u211, u212, u213, u214, u215, u216, u217, u218, u219], []⟩ W := by
  have R1 := hidden h1
  have R2 := hidden h2
  have I1 : Hid ((Tryd.prog.info? 28).map (·.size) = some Q1.length) := hidden (by rw [q1]; exact wpinfo)
  have I2 : Hid ((Tryd.prog.info? 28).map (·.size) = some Q2.length) := hidden (by rw [q2]; exact wpinfo)
  have UW : Hid (Tryd.prog.underlying 28 = _) := hidden Tryd.underlying28
  have MV0 : Hid (∀ x : World, Below W.heap.size W x → Mv w0 L x) := hidden (fun x h => hM.keep h)
  clear h1 h2 q1 q2 hM
  unfold wa3o
  refine wp_region_noPanic ?_
  refine wp_region_held_drew (S := fun x => Below W.heap.size W x) (by kernel_rfl) (Tr.drew_blW W) (fun hH0 => ?_)
  refine wpAnyH_take (i := 0) (oi := { dst := some 53, op := Op.load 28 (Operand.tmp 3), type := 28, pos := "law.go:458", after := #[], guard := none }) (v := .agg (Q1).toArray) rfl (by kernel_rfl) (by kernel_rfl) (by kernel_rfl) (fun _ _ _ h => h) (yieldsIf_load_mid (by rfl) 28 _ rfl (T3) 0 rfl (Q1) _ (fun w0 hSw => range_keepM R1.out hSw) UW.out rfl I1.out) hH0 ?_
  simp only [Act.put, List.setIfInBounds_toArray, List.set_cons_zero, List.set_cons_succ]
  refine wpAnyH_take (i := 2) (oi := { dst := some 55, op := Op.load 28 (Operand.tmp 4), type := 28, pos := "law.go:458", after := #[], guard := none }) (v := .agg (Q2).toArray) rfl (by kernel_rfl) (by kernel_rfl) (by kernel_rfl) (fun _ _ _ h => h) (yieldsIf_load_mid (by rfl) 28 _ rfl (T4) 0 rfl (Q2) _ (fun w0 hSw => range_keepM R2.out hSw) UW.out rfl I2.out) hH0 ?_
  simp only [Act.put, List.setIfInBounds_toArray, List.set_cons_zero, List.set_cons_succ]
  refine wpAnyH_ready (rs := [1]) (by kernel_rfl) (by simp) ?_
  refine AllReadyH.cons (o := { dst := some 54, op := Op.call { callee := Callee.value (Operand.func 4), args := #[Operand.tmp 53], argTypes := #[28] }, type := 29, pos := "law.go:458", after := #[{ on := 0, ground := Ground.data }], guard := none }) rfl (fun K hK => ?_) AllReadyH.nil
  have HH := hidden hH0
  clear hH0
  go_simp
  refine (C1.out _ HH.out).mono ?_
  rintro e wn1 ⟨G1, k1, rfl, hm⟩
  have hb := hm.bel
  have MV := hidden ((MV0.out _ HH.out).one hm)
  have SN := hidden (bl_trans HH.out hb)
  clear HH hb C1 hm
  go_wp2_with fail
  refine hK.out _ _ SN.out (fun hH1 => ?_)
  clear hK K SN
  refine wpAnyH_ready (rs := [3]) (by kernel_rfl) (by simp) ?_
  refine AllReadyH.cons (o := { dst := some 56, op := Op.call { callee := Callee.value (Operand.func 4), args := #[Operand.tmp 55], argTypes := #[28] }, type := 29, pos := "law.go:458", after := #[{ on := 2, ground := Ground.data }, { on := 1, ground := Ground.chain }], guard := none }) rfl (fun K hK => ?_) AllReadyH.nil
  have HH := hidden hH1
  clear hH1
  go_simp
  refine (C3.out _ HH.out).mono ?_
  rintro e wn2 ⟨G2, k2, rfl, hm⟩
  have hb := hm.bel
  have MX := hidden (MV.out.one hm)
  have SN := hidden (bl_trans HH.out hb)
  clear HH hb C3 hm MV
  go_wp2_with fail
  refine hK.out _ _ SN.out (fun hH2 => ?_)
  clear hK K SN
  have HH := hidden hH2
  have FQ := hidden (HQ.out G1 k1 G2 k2 _ MX.out HH.out)
  refine wpAnyH_take (i := 4) (oi := { dst := some 7, op := Op.assign (Operand.tmp 54), type := 29, pos := "law.go:458", after := #[{ on := 1, ground := Ground.data }, { on := 3, ground := Ground.chain }, { on := 0, ground := Ground.phase }, { on := 1, ground := Ground.phase }, { on := 2, ground := Ground.textOnly Departure.lateStores }, { on := 3, ground := Ground.textOnly Departure.lateStoresUnsure }], guard := none }) (v := .slice (some ⟨G1, 0, none⟩) N k1) rfl (by kernel_rfl) (by kernel_rfl) (by kernel_rfl) (fun _ _ _ h => h) (Or.inl ⟨by rfl, fun w0 hSw => ?_⟩) hH2 ?_
  · (clear hSw; go_simp)
  simp only [Act.put, List.setIfInBounds_toArray, List.set_cons_zero, List.set_cons_succ]
  refine wpAnyH_take (i := 5) (oi := { dst := some 8, op := Op.assign (Operand.tmp 56), type := 29, pos := "law.go:458", after := #[{ on := 3, ground := Ground.data }, { on := 4, ground := Ground.chain }, { on := 0, ground := Ground.phase }, { on := 1, ground := Ground.phase }, { on := 2, ground := Ground.phase }, { on := 3, ground := Ground.phase }, { on := 4, ground := Ground.phase }], guard := none }) (v := .slice (some ⟨G2, 0, none⟩) N k2) rfl (by kernel_rfl) (by kernel_rfl) (by kernel_rfl) (fun _ _ _ h => h) (Or.inl ⟨by rfl, fun w0 hSw => ?_⟩) hH2 ?_
  · (clear hSw; go_simp)
  simp only [Act.put, List.setIfInBounds_toArray, List.set_cons_zero, List.set_cons_succ]
  refine wpAnyH_done (by kernel_rfl) ?_ _
  refine NoPanic.normal ?_
  exact FQ.out
def wa19o : Array Oper := #[{ dst := some 140, op := Op.fieldAddr 35 (Operand.tmp 16) 0, type := 0, pos := "law.go:476", after := #[], guard := none },
  { dst := some 141, op := Op.load 32 (Operand.tmp 140), type := 32, pos := "law.go:476", after := #[{ on := 0, ground := Ground.data }], guard := none },
  { dst := some 142, op := Op.fieldAddr 35 (Operand.tmp 16) 1, type := 0, pos := "law.go:476", after := #[{ on := 19, ground := Ground.gcOnly Departure.lateStores }], guard := none },
  { dst := some 143, op := Op.load 32 (Operand.tmp 142), type := 32, pos := "law.go:476", after := #[{ on := 2, ground := Ground.data }, { on := 19, ground := Ground.gcOnly Departure.lateStores }], guard := none },
  { dst := some 144, op := Op.fieldAddr 35 (Operand.tmp 16) 2, type := 0, pos := "law.go:476", after := #[{ on := 21, ground := Ground.gcOnly Departure.lateStores }], guard := none },
  { dst := some 145, op := Op.load 32 (Operand.tmp 144), type := 32, pos := "law.go:476", after := #[{ on := 4, ground := Ground.data }, { on := 21, ground := Ground.gcOnly Departure.lateStores }], guard := none },
  { dst := some 146, op := Op.fieldAddr 35 (Operand.tmp 16) 3, type := 0, pos := "law.go:476", after := #[{ on := 23, ground := Ground.gcOnly Departure.lateStores }], guard := none },
  { dst := some 147, op := Op.load 32 (Operand.tmp 146), type := 32, pos := "law.go:476", after := #[{ on := 6, ground := Ground.data }, { on := 23, ground := Ground.gcOnly Departure.lateStores }], guard := none },
  { dst := some 148, op := Op.fieldAddr 35 (Operand.tmp 16) 4, type := 0, pos := "law.go:476", after := #[{ on := 25, ground := Ground.gcOnly Departure.lateStores }], guard := none },
  { dst := some 149, op := Op.load 24 (Operand.tmp 148), type := 24, pos := "law.go:476", after := #[{ on := 8, ground := Ground.data }, { on := 25, ground := Ground.gcOnly Departure.lateStores }], guard := none },
  { dst := some 150, op := Op.fieldAddr 35 (Operand.tmp 16) 5, type := 0, pos := "law.go:476", after := #[{ on := 27, ground := Ground.gcOnly Departure.lateStores }], guard := none },
  { dst := some 151, op := Op.load 24 (Operand.tmp 150), type := 24, pos := "law.go:476", after := #[{ on := 10, ground := Ground.data }, { on := 27, ground := Ground.gcOnly Departure.lateStores }], guard := none },
  { dst := some 152, op := Op.fieldAddr 35 (Operand.tmp 16) 6, type := 0, pos := "law.go:476", after := #[{ on := 29, ground := Ground.gcOnly Departure.lateStores }], guard := none },
  { dst := some 153, op := Op.load 24 (Operand.tmp 152), type := 24, pos := "law.go:476", after := #[{ on := 12, ground := Ground.data }, { on := 29, ground := Ground.gcOnly Departure.lateStores }], guard := none },
  { dst := some 154, op := Op.fieldAddr 35 (Operand.tmp 16) 9, type := 0, pos := "law.go:476", after := #[{ on := 31, ground := Ground.gcOnly Departure.lateStores }], guard := none },
  { dst := some 155, op := Op.load 24 (Operand.tmp 154), type := 24, pos := "law.go:476", after := #[{ on := 14, ground := Ground.data }, { on := 31, ground := Ground.gcOnly Departure.lateStores }], guard := none },
  { dst := some 156, op := Op.fieldAddr 35 (Operand.tmp 16) 10, type := 0, pos := "law.go:476", after := #[{ on := 33, ground := Ground.gcOnly Departure.lateStores }], guard := none },
  { dst := some 157, op := Op.load 24 (Operand.tmp 156), type := 24, pos := "law.go:476", after := #[{ on := 16, ground := Ground.data }, { on := 33, ground := Ground.gcOnly Departure.lateStores }], guard := none },
  { dst := some 158, op := Op.fieldAddr 35 (Operand.tmp 17) 0, type := 0, pos := "law.go:476", after := #[{ on := 0, ground := Ground.phase }, { on := 1, ground := Ground.phase }, { on := 2, ground := Ground.textOnly Departure.lateStores }, { on := 3, ground := Ground.textOnly Departure.lateStores }, { on := 4, ground := Ground.textOnly Departure.lateStores }, { on := 5, ground := Ground.textOnly Departure.lateStores }, { on := 6, ground := Ground.textOnly Departure.lateStores }, { on := 7, ground := Ground.textOnly Departure.lateStores }, { on := 8, ground := Ground.textOnly Departure.lateStores }, { on := 9, ground := Ground.textOnly Departure.lateStores }, { on := 10, ground := Ground.textOnly Departure.lateStores }, { on := 11, ground := Ground.textOnly Departure.lateStores }, { on := 12, ground := Ground.textOnly Departure.lateStores }, { on := 13, ground := Ground.textOnly Departure.lateStores }, { on := 14, ground := Ground.textOnly Departure.lateStores }, { on := 15, ground := Ground.textOnly Departure.lateStores }, { on := 16, ground := Ground.textOnly Departure.lateStores }, { on := 17, ground := Ground.textOnly Departure.lateStores }], guard := none },
  { dst := none, op := Op.store 32 (Operand.tmp 158) (Operand.tmp 141), type := 0, pos := "law.go:476", after := #[{ on := 18, ground := Ground.data }, { on := 1, ground := Ground.data }, { on := 0, ground := Ground.phase }, { on := 1, ground := Ground.phase }, { on := 2, ground := Ground.textOnly Departure.lateStores }, { on := 3, ground := Ground.textOnly Departure.lateStores }, { on := 4, ground := Ground.textOnly Departure.lateStores }, { on := 5, ground := Ground.textOnly Departure.lateStores }, { on := 6, ground := Ground.textOnly Departure.lateStores }, { on := 7, ground := Ground.textOnly Departure.lateStores }, { on := 8, ground := Ground.textOnly Departure.lateStores }, { on := 9, ground := Ground.textOnly Departure.lateStores }, { on := 10, ground := Ground.textOnly Departure.lateStores }, { on := 11, ground := Ground.textOnly Departure.lateStores }, { on := 12, ground := Ground.textOnly Departure.lateStores }, { on := 13, ground := Ground.textOnly Departure.lateStores }, { on := 14, ground := Ground.textOnly Departure.lateStores }, { on := 15, ground := Ground.textOnly Departure.lateStores }, { on := 16, ground := Ground.textOnly Departure.lateStores }, { on := 17, ground := Ground.textOnly Departure.lateStores }], guard := none },
  { dst := some 159, op := Op.fieldAddr 35 (Operand.tmp 17) 1, type := 0, pos := "law.go:476", after := #[{ on := 0, ground := Ground.phase }, { on := 1, ground := Ground.phase }, { on := 2, ground := Ground.phase }, { on := 3, ground := Ground.phase }, { on := 4, ground := Ground.textOnly Departure.lateStores }, { on := 5, ground := Ground.textOnly Departure.lateStores }, { on := 6, ground := Ground.textOnly Departure.lateStores }, { on := 7, ground := Ground.textOnly Departure.lateStores }, { on := 8, ground := Ground.textOnly Departure.lateStores }, { on := 9, ground := Ground.textOnly Departure.lateStores }, { on := 10, ground := Ground.textOnly Departure.lateStores }, { on := 11, ground := Ground.textOnly Departure.lateStores }, { on := 12, ground := Ground.textOnly Departure.lateStores }, { on := 13, ground := Ground.textOnly Departure.lateStores }, { on := 14, ground := Ground.textOnly Departure.lateStores }, { on := 15, ground := Ground.textOnly Departure.lateStores }, { on := 16, ground := Ground.textOnly Departure.lateStores }, { on := 17, ground := Ground.textOnly Departure.lateStores }, { on := 18, ground := Ground.phase }, { on := 19, ground := Ground.phase }], guard := none },
  { dst := none, op := Op.store 32 (Operand.tmp 159) (Operand.tmp 143), type := 0, pos := "law.go:476", after := #[{ on := 20, ground := Ground.data }, { on := 3, ground := Ground.data }, { on := 19, ground := Ground.chain }, { on := 0, ground := Ground.phase }, { on := 1, ground := Ground.phase }, { on := 2, ground := Ground.phase }, { on := 3, ground := Ground.phase }, { on := 4, ground := Ground.textOnly Departure.lateStores }, { on := 5, ground := Ground.textOnly Departure.lateStores }, { on := 6, ground := Ground.textOnly Departure.lateStores }, { on := 7, ground := Ground.textOnly Departure.lateStores }, { on := 8, ground := Ground.textOnly Departure.lateStores }, { on := 9, ground := Ground.textOnly Departure.lateStores }, { on := 10, ground := Ground.textOnly Departure.lateStores }, { on := 11, ground := Ground.textOnly Departure.lateStores }, { on := 12, ground := Ground.textOnly Departure.lateStores }, { on := 13, ground := Ground.textOnly Departure.lateStores }, { on := 14, ground := Ground.textOnly Departure.lateStores }, { on := 15, ground := Ground.textOnly Departure.lateStores }, { on := 16, ground := Ground.textOnly Departure.lateStores }, { on := 17, ground := Ground.textOnly Departure.lateStores }, { on := 18, ground := Ground.phase }, { on := 19, ground := Ground.phase }], guard := none },
  { dst := some 160, op := Op.fieldAddr 35 (Operand.tmp 17) 2, type := 0, pos := "law.go:476", after := #[{ on := 0, ground := Ground.phase }, { on := 1, ground := Ground.phase }, { on := 2, ground := Ground.phase }, { on := 3, ground := Ground.phase }, { on := 4, ground := Ground.phase }, { on := 5, ground := Ground.phase }, { on := 6, ground := Ground.textOnly Departure.lateStores }, { on := 7, ground := Ground.textOnly Departure.lateStores }, { on := 8, ground := Ground.textOnly Departure.lateStores }, { on := 9, ground := Ground.textOnly Departure.lateStores }, { on := 10, ground := Ground.textOnly Departure.lateStores }, { on := 11, ground := Ground.textOnly Departure.lateStores }, { on := 12, ground := Ground.textOnly Departure.lateStores }, { on := 13, ground := Ground.textOnly Departure.lateStores }, { on := 14, ground := Ground.textOnly Departure.lateStores }, { on := 15, ground := Ground.textOnly Departure.lateStores }, { on := 16, ground := Ground.textOnly Departure.lateStores }, { on := 17, ground := Ground.textOnly Departure.lateStores }, { on := 18, ground := Ground.phase }, { on := 19, ground := Ground.phase }, { on := 20, ground := Ground.phase }, { on := 21, ground := Ground.phase }], guard := none },
  { dst := none, op := Op.store 32 (Operand.tmp 160) (Operand.tmp 145), type := 0, pos := "law.go:476", after := #[{ on := 22, ground := Ground.data }, { on := 5, ground := Ground.data }, { on := 21, ground := Ground.chain }, { on := 0, ground := Ground.phase }, { on := 1, ground := Ground.phase }, { on := 2, ground := Ground.phase }, { on := 3, ground := Ground.phase }, { on := 4, ground := Ground.phase }, { on := 5, ground := Ground.phase }, { on := 6, ground := Ground.textOnly Departure.lateStores }, { on := 7, ground := Ground.textOnly Departure.lateStores }, { on := 8, ground := Ground.textOnly Departure.lateStores }, { on := 9, ground := Ground.textOnly Departure.lateStores }, { on := 10, ground := Ground.textOnly Departure.lateStores }, { on := 11, ground := Ground.textOnly Departure.lateStores }, { on := 12, ground := Ground.textOnly Departure.lateStores }, { on := 13, ground := Ground.textOnly Departure.lateStores }, { on := 14, ground := Ground.textOnly Departure.lateStores }, { on := 15, ground := Ground.textOnly Departure.lateStores }, { on := 16, ground := Ground.textOnly Departure.lateStores }, { on := 17, ground := Ground.textOnly Departure.lateStores }, { on := 18, ground := Ground.phase }, { on := 19, ground := Ground.phase }, { on := 20, ground := Ground.phase }, { on := 21, ground := Ground.phase }], guard := none },
  { dst := some 161, op := Op.fieldAddr 35 (Operand.tmp 17) 3, type := 0, pos := "law.go:476", after := #[{ on := 0, ground := Ground.phase }, { on := 1, ground := Ground.phase }, { on := 2, ground := Ground.phase }, { on := 3, ground := Ground.phase }, { on := 4, ground := Ground.phase }, { on := 5, ground := Ground.phase }, { on := 6, ground := Ground.phase }, { on := 7, ground := Ground.phase }, { on := 8, ground := Ground.textOnly Departure.lateStores }, { on := 9, ground := Ground.textOnly Departure.lateStores }, { on := 10, ground := Ground.textOnly Departure.lateStores }, { on := 11, ground := Ground.textOnly Departure.lateStores }, { on := 12, ground := Ground.textOnly Departure.lateStores }, { on := 13, ground := Ground.textOnly Departure.lateStores }, { on := 14, ground := Ground.textOnly Departure.lateStores }, { on := 15, ground := Ground.textOnly Departure.lateStores }, { on := 16, ground := Ground.textOnly Departure.lateStores }, { on := 17, ground := Ground.textOnly Departure.lateStores }, { on := 18, ground := Ground.phase }, { on := 19, ground := Ground.phase }, { on := 20, ground := Ground.phase }, { on := 21, ground := Ground.phase }, { on := 22, ground := Ground.phase }, { on := 23, ground := Ground.phase }], guard := none },
  { dst := none, op := Op.store 32 (Operand.tmp 161) (Operand.tmp 147), type := 0, pos := "law.go:476", after := #[{ on := 24, ground := Ground.data }, { on := 7, ground := Ground.data }, { on := 23, ground := Ground.chain }, { on := 0, ground := Ground.phase }, { on := 1, ground := Ground.phase }, { on := 2, ground := Ground.phase }, { on := 3, ground := Ground.phase }, { on := 4, ground := Ground.phase }, { on := 5, ground := Ground.phase }, { on := 6, ground := Ground.phase }, { on := 7, ground := Ground.phase }, { on := 8, ground := Ground.textOnly Departure.lateStores }, { on := 9, ground := Ground.textOnly Departure.lateStores }, { on := 10, ground := Ground.textOnly Departure.lateStores }, { on := 11, ground := Ground.textOnly Departure.lateStores }, { on := 12, ground := Ground.textOnly Departure.lateStores }, { on := 13, ground := Ground.textOnly Departure.lateStores }, { on := 14, ground := Ground.textOnly Departure.lateStores }, { on := 15, ground := Ground.textOnly Departure.lateStores }, { on := 16, ground := Ground.textOnly Departure.lateStores }, { on := 17, ground := Ground.textOnly Departure.lateStores }, { on := 18, ground := Ground.phase }, { on := 19, ground := Ground.phase }, { on := 20, ground := Ground.phase }, { on := 21, ground := Ground.phase }, { on := 22, ground := Ground.phase }, { on := 23, ground := Ground.phase }], guard := none },
  { dst := some 162, op := Op.fieldAddr 35 (Operand.tmp 17) 4, type := 0, pos := "law.go:476", after := #[{ on := 0, ground := Ground.phase }, { on := 1, ground := Ground.phase }, { on := 2, ground := Ground.phase }, { on := 3, ground := Ground.phase }, { on := 4, ground := Ground.phase }, { on := 5, ground := Ground.phase }, { on := 6, ground := Ground.phase }, { on := 7, ground := Ground.phase }, { on := 8, ground := Ground.phase }, { on := 9, ground := Ground.phase }, { on := 10, ground := Ground.textOnly Departure.lateStores }, { on := 11, ground := Ground.textOnly Departure.lateStores }, { on := 12, ground := Ground.textOnly Departure.lateStores }, { on := 13, ground := Ground.textOnly Departure.lateStores }, { on := 14, ground := Ground.textOnly Departure.lateStores }, { on := 15, ground := Ground.textOnly Departure.lateStores }, { on := 16, ground := Ground.textOnly Departure.lateStores }, { on := 17, ground := Ground.textOnly Departure.lateStores }, { on := 18, ground := Ground.phase }, { on := 19, ground := Ground.phase }, { on := 20, ground := Ground.phase }, { on := 21, ground := Ground.phase }, { on := 22, ground := Ground.phase }, { on := 23, ground := Ground.phase }, { on := 24, ground := Ground.phase }, { on := 25, ground := Ground.phase }], guard := none },
  { dst := none, op := Op.store 24 (Operand.tmp 162) (Operand.tmp 149), type := 0, pos := "law.go:476", after := #[{ on := 26, ground := Ground.data }, { on := 9, ground := Ground.data }, { on := 25, ground := Ground.chain }, { on := 0, ground := Ground.phase }, { on := 1, ground := Ground.phase }, { on := 2, ground := Ground.phase }, { on := 3, ground := Ground.phase }, { on := 4, ground := Ground.phase }, { on := 5, ground := Ground.phase }, { on := 6, ground := Ground.phase }, { on := 7, ground := Ground.phase }, { on := 8, ground := Ground.phase }, { on := 9, ground := Ground.phase }, { on := 10, ground := Ground.textOnly Departure.lateStores }, { on := 11, ground := Ground.textOnly Departure.lateStores }, { on := 12, ground := Ground.textOnly Departure.lateStores }, { on := 13, ground := Ground.textOnly Departure.lateStores }, { on := 14, ground := Ground.textOnly Departure.lateStores }, { on := 15, ground := Ground.textOnly Departure.lateStores }, { on := 16, ground := Ground.textOnly Departure.lateStores }, { on := 17, ground := Ground.textOnly Departure.lateStores }, { on := 18, ground := Ground.phase }, { on := 19, ground := Ground.phase }, { on := 20, ground := Ground.phase }, { on := 21, ground := Ground.phase }, { on := 22, ground := Ground.phase }, { on := 23, ground := Ground.phase }, { on := 24, ground := Ground.phase }, { on := 25, ground := Ground.phase }], guard := none },
  { dst := some 163, op := Op.fieldAddr 35 (Operand.tmp 17) 5, type := 0, pos := "law.go:476", after := #[{ on := 0, ground := Ground.phase }, { on := 1, ground := Ground.phase }, { on := 2, ground := Ground.phase }, { on := 3, ground := Ground.phase }, { on := 4, ground := Ground.phase }, { on := 5, ground := Ground.phase }, { on := 6, ground := Ground.phase }, { on := 7, ground := Ground.phase }, { on := 8, ground := Ground.phase }, { on := 9, ground := Ground.phase }, { on := 10, ground := Ground.phase }, { on := 11, ground := Ground.phase }, { on := 12, ground := Ground.textOnly Departure.lateStores }, { on := 13, ground := Ground.textOnly Departure.lateStores }, { on := 14, ground := Ground.textOnly Departure.lateStores }, { on := 15, ground := Ground.textOnly Departure.lateStores }, { on := 16, ground := Ground.textOnly Departure.lateStores }, { on := 17, ground := Ground.textOnly Departure.lateStores }, { on := 18, ground := Ground.phase }, { on := 19, ground := Ground.phase }, { on := 20, ground := Ground.phase }, { on := 21, ground := Ground.phase }, { on := 22, ground := Ground.phase }, { on := 23, ground := Ground.phase }, { on := 24, ground := Ground.phase }, { on := 25, ground := Ground.phase }, { on := 26, ground := Ground.phase }, { on := 27, ground := Ground.phase }], guard := none },
  { dst := none, op := Op.store 24 (Operand.tmp 163) (Operand.tmp 151), type := 0, pos := "law.go:476", after := #[{ on := 28, ground := Ground.data }, { on := 11, ground := Ground.data }, { on := 27, ground := Ground.chain }, { on := 0, ground := Ground.phase }, { on := 1, ground := Ground.phase }, { on := 2, ground := Ground.phase }, { on := 3, ground := Ground.phase }, { on := 4, ground := Ground.phase }, { on := 5, ground := Ground.phase }, { on := 6, ground := Ground.phase }, { on := 7, ground := Ground.phase }, { on := 8, ground := Ground.phase }, { on := 9, ground := Ground.phase }, { on := 10, ground := Ground.phase }, { on := 11, ground := Ground.phase }, { on := 12, ground := Ground.textOnly Departure.lateStores }, { on := 13, ground := Ground.textOnly Departure.lateStores }, { on := 14, ground := Ground.textOnly Departure.lateStores }, { on := 15, ground := Ground.textOnly Departure.lateStores }, { on := 16, ground := Ground.textOnly Departure.lateStores }, { on := 17, ground := Ground.textOnly Departure.lateStores }, { on := 18, ground := Ground.phase }, { on := 19, ground := Ground.phase }, { on := 20, ground := Ground.phase }, { on := 21, ground := Ground.phase }, { on := 22, ground := Ground.phase }, { on := 23, ground := Ground.phase }, { on := 24, ground := Ground.phase }, { on := 25, ground := Ground.phase }, { on := 26, ground := Ground.phase }, { on := 27, ground := Ground.phase }], guard := none },
  { dst := some 164, op := Op.fieldAddr 35 (Operand.tmp 17) 6, type := 0, pos := "law.go:476", after := #[{ on := 0, ground := Ground.phase }, { on := 1, ground := Ground.phase }, { on := 2, ground := Ground.phase }, { on := 3, ground := Ground.phase }, { on := 4, ground := Ground.phase }, { on := 5, ground := Ground.phase }, { on := 6, ground := Ground.phase }, { on := 7, ground := Ground.phase }, { on := 8, ground := Ground.phase }, { on := 9, ground := Ground.phase }, { on := 10, ground := Ground.phase }, { on := 11, ground := Ground.phase }, { on := 12, ground := Ground.phase }, { on := 13, ground := Ground.phase }, { on := 14, ground := Ground.textOnly Departure.lateStores }, { on := 15, ground := Ground.textOnly Departure.lateStores }, { on := 16, ground := Ground.textOnly Departure.lateStores }, { on := 17, ground := Ground.textOnly Departure.lateStores }, { on := 18, ground := Ground.phase }, { on := 19, ground := Ground.phase }, { on := 20, ground := Ground.phase }, { on := 21, ground := Ground.phase }, { on := 22, ground := Ground.phase }, { on := 23, ground := Ground.phase }, { on := 24, ground := Ground.phase }, { on := 25, ground := Ground.phase }, { on := 26, ground := Ground.phase }, { on := 27, ground := Ground.phase }, { on := 28, ground := Ground.phase }, { on := 29, ground := Ground.phase }], guard := none },
  { dst := none, op := Op.store 24 (Operand.tmp 164) (Operand.tmp 153), type := 0, pos := "law.go:476", after := #[{ on := 30, ground := Ground.data }, { on := 13, ground := Ground.data }, { on := 29, ground := Ground.chain }, { on := 0, ground := Ground.phase }, { on := 1, ground := Ground.phase }, { on := 2, ground := Ground.phase }, { on := 3, ground := Ground.phase }, { on := 4, ground := Ground.phase }, { on := 5, ground := Ground.phase }, { on := 6, ground := Ground.phase }, { on := 7, ground := Ground.phase }, { on := 8, ground := Ground.phase }, { on := 9, ground := Ground.phase }, { on := 10, ground := Ground.phase }, { on := 11, ground := Ground.phase }, { on := 12, ground := Ground.phase }, { on := 13, ground := Ground.phase }, { on := 14, ground := Ground.textOnly Departure.lateStores }, { on := 15, ground := Ground.textOnly Departure.lateStores }, { on := 16, ground := Ground.textOnly Departure.lateStores }, { on := 17, ground := Ground.textOnly Departure.lateStores }, { on := 18, ground := Ground.phase }, { on := 19, ground := Ground.phase }, { on := 20, ground := Ground.phase }, { on := 21, ground := Ground.phase }, { on := 22, ground := Ground.phase }, { on := 23, ground := Ground.phase }, { on := 24, ground := Ground.phase }, { on := 25, ground := Ground.phase }, { on := 26, ground := Ground.phase }, { on := 27, ground := Ground.phase }, { on := 28, ground := Ground.phase }, { on := 29, ground := Ground.phase }], guard := none },
  { dst := some 165, op := Op.fieldAddr 35 (Operand.tmp 17) 9, type := 0, pos := "law.go:476", after := #[{ on := 0, ground := Ground.phase }, { on := 1, ground := Ground.phase }, { on := 2, ground := Ground.phase }, { on := 3, ground := Ground.phase }, { on := 4, ground := Ground.phase }, { on := 5, ground := Ground.phase }, { on := 6, ground := Ground.phase }, { on := 7, ground := Ground.phase }, { on := 8, ground := Ground.phase }, { on := 9, ground := Ground.phase }, { on := 10, ground := Ground.phase }, { on := 11, ground := Ground.phase }, { on := 12, ground := Ground.phase }, { on := 13, ground := Ground.phase }, { on := 14, ground := Ground.phase }, { on := 15, ground := Ground.phase }, { on := 16, ground := Ground.textOnly Departure.lateStores }, { on := 17, ground := Ground.textOnly Departure.lateStores }, { on := 18, ground := Ground.phase }, { on := 19, ground := Ground.phase }, { on := 20, ground := Ground.phase }, { on := 21, ground := Ground.phase }, { on := 22, ground := Ground.phase }, { on := 23, ground := Ground.phase }, { on := 24, ground := Ground.phase }, { on := 25, ground := Ground.phase }, { on := 26, ground := Ground.phase }, { on := 27, ground := Ground.phase }, { on := 28, ground := Ground.phase }, { on := 29, ground := Ground.phase }, { on := 30, ground := Ground.phase }, { on := 31, ground := Ground.phase }], guard := none },
  { dst := none, op := Op.store 24 (Operand.tmp 165) (Operand.tmp 155), type := 0, pos := "law.go:476", after := #[{ on := 32, ground := Ground.data }, { on := 15, ground := Ground.data }, { on := 31, ground := Ground.chain }, { on := 0, ground := Ground.phase }, { on := 1, ground := Ground.phase }, { on := 2, ground := Ground.phase }, { on := 3, ground := Ground.phase }, { on := 4, ground := Ground.phase }, { on := 5, ground := Ground.phase }, { on := 6, ground := Ground.phase }, { on := 7, ground := Ground.phase }, { on := 8, ground := Ground.phase }, { on := 9, ground := Ground.phase }, { on := 10, ground := Ground.phase }, { on := 11, ground := Ground.phase }, { on := 12, ground := Ground.phase }, { on := 13, ground := Ground.phase }, { on := 14, ground := Ground.phase }, { on := 15, ground := Ground.phase }, { on := 16, ground := Ground.textOnly Departure.lateStores }, { on := 17, ground := Ground.textOnly Departure.lateStores }, { on := 18, ground := Ground.phase }, { on := 19, ground := Ground.phase }, { on := 20, ground := Ground.phase }, { on := 21, ground := Ground.phase }, { on := 22, ground := Ground.phase }, { on := 23, ground := Ground.phase }, { on := 24, ground := Ground.phase }, { on := 25, ground := Ground.phase }, { on := 26, ground := Ground.phase }, { on := 27, ground := Ground.phase }, { on := 28, ground := Ground.phase }, { on := 29, ground := Ground.phase }, { on := 30, ground := Ground.phase }, { on := 31, ground := Ground.phase }], guard := none },
  { dst := some 166, op := Op.fieldAddr 35 (Operand.tmp 17) 10, type := 0, pos := "law.go:476", after := #[{ on := 0, ground := Ground.phase }, { on := 1, ground := Ground.phase }, { on := 2, ground := Ground.phase }, { on := 3, ground := Ground.phase }, { on := 4, ground := Ground.phase }, { on := 5, ground := Ground.phase }, { on := 6, ground := Ground.phase }, { on := 7, ground := Ground.phase }, { on := 8, ground := Ground.phase }, { on := 9, ground := Ground.phase }, { on := 10, ground := Ground.phase }, { on := 11, ground := Ground.phase }, { on := 12, ground := Ground.phase }, { on := 13, ground := Ground.phase }, { on := 14, ground := Ground.phase }, { on := 15, ground := Ground.phase }, { on := 16, ground := Ground.phase }, { on := 17, ground := Ground.phase }, { on := 18, ground := Ground.phase }, { on := 19, ground := Ground.phase }, { on := 20, ground := Ground.phase }, { on := 21, ground := Ground.phase }, { on := 22, ground := Ground.phase }, { on := 23, ground := Ground.phase }, { on := 24, ground := Ground.phase }, { on := 25, ground := Ground.phase }, { on := 26, ground := Ground.phase }, { on := 27, ground := Ground.phase }, { on := 28, ground := Ground.phase }, { on := 29, ground := Ground.phase }, { on := 30, ground := Ground.phase }, { on := 31, ground := Ground.phase }, { on := 32, ground := Ground.phase }, { on := 33, ground := Ground.phase }], guard := none },
  { dst := none, op := Op.store 24 (Operand.tmp 166) (Operand.tmp 157), type := 0, pos := "law.go:476", after := #[{ on := 34, ground := Ground.data }, { on := 17, ground := Ground.data }, { on := 33, ground := Ground.chain }, { on := 0, ground := Ground.phase }, { on := 1, ground := Ground.phase }, { on := 2, ground := Ground.phase }, { on := 3, ground := Ground.phase }, { on := 4, ground := Ground.phase }, { on := 5, ground := Ground.phase }, { on := 6, ground := Ground.phase }, { on := 7, ground := Ground.phase }, { on := 8, ground := Ground.phase }, { on := 9, ground := Ground.phase }, { on := 10, ground := Ground.phase }, { on := 11, ground := Ground.phase }, { on := 12, ground := Ground.phase }, { on := 13, ground := Ground.phase }, { on := 14, ground := Ground.phase }, { on := 15, ground := Ground.phase }, { on := 16, ground := Ground.phase }, { on := 17, ground := Ground.phase }, { on := 18, ground := Ground.phase }, { on := 19, ground := Ground.phase }, { on := 20, ground := Ground.phase }, { on := 21, ground := Ground.phase }, { on := 22, ground := Ground.phase }, { on := 23, ground := Ground.phase }, { on := 24, ground := Ground.phase }, { on := 25, ground := Ground.phase }, { on := 26, ground := Ground.phase }, { on := 27, ground := Ground.phase }, { on := 28, ground := Ground.phase }, { on := 29, ground := Ground.phase }, { on := 30, ground := Ground.phase }, { on := 31, ground := Ground.phase }, { on := 32, ground := Ground.phase }, { on := 33, ground := Ground.phase }], guard := none }]
set_option maxRecDepth 100000 in
set_option maxHeartbeats 16000000 in
theorem wa19 (Q : Exit → Act → World → Prop) (T16 T17 : Nat) (s s' : Nat → E4) (L1 R1 L2 R2 : Value) (u0 u1 u2 u3 u4 u5 u6 u7 u8 u9 u10 u11 u12 u13 u14 u15 u18 u19 u20 u21 u22 u23 u24 u25 u26 u27 u28 u29 u30 u31 u32 u33 u34 u35 u36 u37 u38 u39 u40 u41 u42 u43 u44 u45 u46 u47 u48 u49 u50 u51 u52 u53 u54 u55 u56 u57 u58 u59 u60 u61 u62 u63 u64 u65 u66 u67 u68 u69 u70 u71 u72 u73 u74 u75 u76 u77 u78 u79 u80 u81 u82 u83 u84 u85 u86 u87 u88 u89 u90 u91 u92 u93 u94 u95 u96 u97 u98 u99 u100 u101 u102 u103 u104 u105 u106 u107 u108 u109 u110 u111 u112 u113 u114 u115 u116 u117 u118 u119 u120 u121 u122 u123 u124 u125 u126 u127 u128 u129 u130 u131 u132 u133 u134 u135 u136 u137 u138 u139 u140 u141 u142 u143 u144 u145 u146 u147 u148 u149 u150 u151 u152 u153 u154 u155 u156 u157 u158 u159 u160 u161 u162 u163 u164 u165 u166 u167 u168 u169 u170 u171 u172 u173 u174 u175 u176 u177 u178 u179 u180 u181 u182 u183 u184 u185 u186 u187 u188 u189 u190 u191 u192 u193 u194 u195 u196 u197 u198 u199 u200 u201 u202 u203 u204 u205 u206 u207 u208 u209 u210 u211 u212 u213 u214 u215 u216 u217 u218 u219 : Value) (w0 W : World) (ne : T16 ≠ T17) (h1 : W.rangeAt T16 0 (pc s L1 R1)) (hM : Mw w0 [(T17, pc s' L2 R2)] W)
    (HQ : Hid (∀ wz, W.grownBy wz (some T17) → Mw w0 [(T17, pc s L2 R2)] wz → Q .normal ⟨#[u0, u1, u2, u3, u4, u5, u6, u7, u8, u9, u10, u11, u12, u13, u14, u15, .pointer (some ⟨T16, 0, none⟩), .pointer (some ⟨T17, 0, none⟩), u18, u19, u20, u21, u22, u23, u24, u25, u26, u27, u28, u29, u30, u31, u32, u33, u34, u35, u36, u37, u38, u39, u40, u41, u42, u43, u44, u45, u46, u47, u48, u49, u50, u51, u52, u53, u54, u55, u56, u57, u58, u59, u60, u61, u62, u63, u64, u65, u66, u67, u68, u69, u70, u71, u72, u73, u74, u75, u76, u77, u78, u79, u80, u81, u82, u83, u84, u85, u86, u87, u88, u89, u90, u91, u92, u93, u94, u95, u96, u97, u98, u99, u100, u101, u102, u103, u104, u105, u106, u107, u108, u109, u110, u111, u112, u113, u114, u115, u116, u117, u118, u119, u120, u121, u122, u123, u124, u125, u126, u127, u128, u129, u130, u131, u132, u133, u134, u135, u136, u137, u138, u139, .pointer (some ⟨T16, 0, none⟩), .agg #[.int .u64 (s 0).x0, .int .u64 (s 0).x1, .int .u64 (s 0).x2, .int .u64 (s 0).x3], .pointer (some ⟨T16, 4, none⟩), .agg #[.int .u64 (s 1).x0, .int .u64 (s 1).x1, .int .u64 (s 1).x2, .int .u64 (s 1).x3], .pointer (some ⟨T16, 8, none⟩), .agg #[.int .u64 (s 2).x0, .int .u64 (s 2).x1, .int .u64 (s 2).x2, .int .u64 (s 2).x3], .pointer (some ⟨T16, 12, none⟩), .agg #[.int .u64 (s 3).x0, .int .u64 (s 3).x1, .int .u64 (s 3).x2, .int .u64 (s 3).x3], .pointer (some ⟨T16, 16, none⟩), .agg #[.int .u64 (s 4).x0, .int .u64 (s 4).x1, .int .u64 (s 4).x2, .int .u64 (s 4).x3], .pointer (some ⟨T16, 20, none⟩), .agg #[.int .u64 (s 5).x0, .int .u64 (s 5).x1, .int .u64 (s 5).x2, .int .u64 (s 5).x3], .pointer (some ⟨T16, 24, none⟩), .agg #[.int .u64 (s 6).x0, .int .u64 (s 6).x1, .int .u64 (s 6).x2, .int .u64 (s 6).x3], .pointer (some ⟨T16, 30, none⟩), .agg #[.int .u64 (s 7).x0, .int .u64 (s 7).x1, .int .u64 (s 7).x2, .int .u64 (s 7).x3], .pointer (some ⟨T16, 34, none⟩), .agg #[.int .u64 (s 8).x0, .int .u64 (s 8).x1, .int .u64 (s 8).x2, .int .u64 (s 8).x3], .pointer (some ⟨T17, 0, none⟩), .pointer (some ⟨T17, 4, none⟩), .pointer (some ⟨T17, 8, none⟩), .pointer (some ⟨T17, 12, none⟩), .pointer (some ⟨T17, 16, none⟩), .pointer (some ⟨T17, 20, none⟩), .pointer (some ⟨T17, 24, none⟩), .pointer (some ⟨T17, 30, none⟩), .pointer (some ⟨T17, 34, none⟩), u167, u168, u169, u170, u171, u172, u173, u174, u175, u176, u177, u178, u179, u180, u181, u182, u183, u184, u185, u186, u187, u188, u189, u190, u191, u192, u193, u194, u195, u196, u197, u198, u199, u200, u201, u202, u203, u204, u205, u206, u207, u208, u209, u210, u211, u212, u213, u214, u215, u216, u217, u218, u219], []⟩ wz)) : (Code.region 19 wa19o true).wp Tryd.prog Q ⟨#[u0, u1, u2, u3, u4, u5, u6, u7, u8, u9, u10, u11, u12, u13, u14, u15, .pointer (some ⟨T16, 0, none⟩), .pointer (some ⟨T17, 0, none⟩), u18, u19, u20, u21, u22, u23, u24, u25, u26, u27, u28, u29, u30, u31, u32, u33, u34, u35, u36, u37, u38, u39, u40, u41, u42, u43, u44, u45, u46, u47, u48, u49, u50, u51, u52, u53, u54, u55, u56, u57, u58, u59, u60, u61, u62, u63, u64, u65, u66, u67, u68, u69, u70, u71, u72, u73, u74, u75, u76, u77, u78, u79, u80, u81, u82, u83, u84, u85, u86, u87, u88, u89, u90, u91, u92, u93, u94, u95, u96, u97, u98, u99, u100, u101, u102, u103, u104, u105, u106, u107, u108, u109, u110, u111, u112, u113, u114, u115, u116, u117, u118, u119, u120, u121, u122, u123, u124, u125, u126, u127, u128, u129, u130, u131, u132, u133, u134, u135, u136, u137, u138, u139, u140, u141, u142, u143, u144, u145, u146, u147, u148, u149, u150, u151, u152, u153, u154, u155, u156, u157, u158, u159, u160, u161, u162, u163, u164, u165, u166, u167, u168, u169, u170, u171, u172, u173, u174, u175, u176, u177, u178, u179, u180, u181, u182, u183, u184, u185, u186, u187, u188, u189, u190, u191, u192, u193, u194, u195, u196, u197, u198, u199, u200, u201, u202, u203, u204, u205, u206, u207, u208, u209, u210, u211, u212, u213, u214, u215, u216, u217, u218, u219], []⟩ W := by
  have MT := hidden (hM.keep (Tr.drew_blW W))
  have c00 := h1 0 _ rfl
  have c01 := h1 1 _ rfl
  have c02 := h1 2 _ rfl
  have c03 := h1 3 _ rfl
  have c10 := h1 4 _ rfl
  have c11 := h1 5 _ rfl
  have c12 := h1 6 _ rfl
  have c13 := h1 7 _ rfl
  have c20 := h1 8 _ rfl
  have c21 := h1 9 _ rfl
  have c22 := h1 10 _ rfl
  have c23 := h1 11 _ rfl
  have c30 := h1 12 _ rfl
  have c31 := h1 13 _ rfl
  have c32 := h1 14 _ rfl
  have c33 := h1 15 _ rfl
  have c40 := h1 16 _ rfl
  have c41 := h1 17 _ rfl
  have c42 := h1 18 _ rfl
  have c43 := h1 19 _ rfl
  have c50 := h1 20 _ rfl
  have c51 := h1 21 _ rfl
  have c52 := h1 22 _ rfl
  have c53 := h1 23 _ rfl
  have c60 := h1 24 _ rfl
  have c61 := h1 25 _ rfl
  have c62 := h1 26 _ rfl
  have c63 := h1 27 _ rfl
  have c70 := h1 30 _ rfl
  have c71 := h1 31 _ rfl
  have c72 := h1 32 _ rfl
  have c73 := h1 33 _ rfl
  have c80 := h1 34 _ rfl
  have c81 := h1 35 _ rfl
  have c82 := h1 36 _ rfl
  have c83 := h1 37 _ rfl
  simp only [Nat.zero_add] at c00 c01 c02 c03 c10 c11 c12 c13 c20 c21 c22 c23 c30 c31 c32 c33 c40 c41 c42 c43 c50 c51 c52 c53 c60 c61 c62 c63 c70 c71 c72 c73 c80 c81 c82 c83
  clear hM h1
  unfold wa19o
  refine wp_region_noPanic ?_
  refine wp_region_held_drew (S := fun x => W.grownBy x (some T17)) (by kernel_rfl) (gbX (Tr.drew_blW W) _) (fun hHeld => ?_)
  refine wpAnyH_take (i := 0) (oi := { dst := some 140, op := Op.fieldAddr 35 (Operand.tmp 16) 0, type := 0, pos := "law.go:476", after := #[], guard := none }) (v := .pointer (some ⟨T16, 0, none⟩)) rfl (by kernel_rfl) (by kernel_rfl) (by kernel_rfl) (fun _ _ _ h => h) (Or.inl ⟨by rfl, fun w0 hSw => ?_⟩) hHeld ?_
  · (clear hSw; go_simp)
  simp only [Act.put, List.setIfInBounds_toArray, List.set_cons_zero, List.set_cons_succ]
  refine wpAnyH_take (i := 1) (oi := { dst := some 141, op := Op.load 32 (Operand.tmp 140), type := 32, pos := "law.go:476", after := #[{ on := 0, ground := Ground.data }], guard := none }) (v := .agg #[.int .u64 (s 0).x0, .int .u64 (s 0).x1, .int .u64 (s 0).x2, .int .u64 (s 0).x3]) rfl (by kernel_rfl) (by kernel_rfl) (by kernel_rfl) (fun _ _ _ h => h) (Or.inl ⟨by rfl, fun w0 hSw => ?_⟩) hHeld ?_
  · (have hS : W.grownBy w0 (some T17) := hSw; have a0 := hS.cell c00 (fun e => ne (Option.some.inj e)); have a1 := hS.cell c01 (fun e => ne (Option.some.inj e)); have a2 := hS.cell c02 (fun e => ne (Option.some.inj e)); have a3 := hS.cell c03 (fun e => ne (Option.some.inj e)); clear hS hSw; go_simp)
  simp only [Act.put, List.setIfInBounds_toArray, List.set_cons_zero, List.set_cons_succ]
  refine wpAnyH_take (i := 2) (oi := { dst := some 142, op := Op.fieldAddr 35 (Operand.tmp 16) 1, type := 0, pos := "law.go:476", after := #[{ on := 19, ground := Ground.gcOnly Departure.lateStores }], guard := none }) (v := .pointer (some ⟨T16, 4, none⟩)) rfl (by kernel_rfl) (by kernel_rfl) (by kernel_rfl) (fun _ _ _ h => h) (Or.inl ⟨by rfl, fun w0 hSw => ?_⟩) hHeld ?_
  · (clear hSw; go_simp)
  simp only [Act.put, List.setIfInBounds_toArray, List.set_cons_zero, List.set_cons_succ]
  refine wpAnyH_take (i := 3) (oi := { dst := some 143, op := Op.load 32 (Operand.tmp 142), type := 32, pos := "law.go:476", after := #[{ on := 2, ground := Ground.data }, { on := 19, ground := Ground.gcOnly Departure.lateStores }], guard := none }) (v := .agg #[.int .u64 (s 1).x0, .int .u64 (s 1).x1, .int .u64 (s 1).x2, .int .u64 (s 1).x3]) rfl (by kernel_rfl) (by kernel_rfl) (by kernel_rfl) (fun _ _ _ h => h) (Or.inl ⟨by rfl, fun w0 hSw => ?_⟩) hHeld ?_
  · (have hS : W.grownBy w0 (some T17) := hSw; have a0 := hS.cell c10 (fun e => ne (Option.some.inj e)); have a1 := hS.cell c11 (fun e => ne (Option.some.inj e)); have a2 := hS.cell c12 (fun e => ne (Option.some.inj e)); have a3 := hS.cell c13 (fun e => ne (Option.some.inj e)); clear hS hSw; go_simp)
  simp only [Act.put, List.setIfInBounds_toArray, List.set_cons_zero, List.set_cons_succ]
  refine wpAnyH_take (i := 4) (oi := { dst := some 144, op := Op.fieldAddr 35 (Operand.tmp 16) 2, type := 0, pos := "law.go:476", after := #[{ on := 21, ground := Ground.gcOnly Departure.lateStores }], guard := none }) (v := .pointer (some ⟨T16, 8, none⟩)) rfl (by kernel_rfl) (by kernel_rfl) (by kernel_rfl) (fun _ _ _ h => h) (Or.inl ⟨by rfl, fun w0 hSw => ?_⟩) hHeld ?_
  · (clear hSw; go_simp)
  simp only [Act.put, List.setIfInBounds_toArray, List.set_cons_zero, List.set_cons_succ]
  refine wpAnyH_take (i := 5) (oi := { dst := some 145, op := Op.load 32 (Operand.tmp 144), type := 32, pos := "law.go:476", after := #[{ on := 4, ground := Ground.data }, { on := 21, ground := Ground.gcOnly Departure.lateStores }], guard := none }) (v := .agg #[.int .u64 (s 2).x0, .int .u64 (s 2).x1, .int .u64 (s 2).x2, .int .u64 (s 2).x3]) rfl (by kernel_rfl) (by kernel_rfl) (by kernel_rfl) (fun _ _ _ h => h) (Or.inl ⟨by rfl, fun w0 hSw => ?_⟩) hHeld ?_
  · (have hS : W.grownBy w0 (some T17) := hSw; have a0 := hS.cell c20 (fun e => ne (Option.some.inj e)); have a1 := hS.cell c21 (fun e => ne (Option.some.inj e)); have a2 := hS.cell c22 (fun e => ne (Option.some.inj e)); have a3 := hS.cell c23 (fun e => ne (Option.some.inj e)); clear hS hSw; go_simp)
  simp only [Act.put, List.setIfInBounds_toArray, List.set_cons_zero, List.set_cons_succ]
  refine wpAnyH_take (i := 6) (oi := { dst := some 146, op := Op.fieldAddr 35 (Operand.tmp 16) 3, type := 0, pos := "law.go:476", after := #[{ on := 23, ground := Ground.gcOnly Departure.lateStores }], guard := none }) (v := .pointer (some ⟨T16, 12, none⟩)) rfl (by kernel_rfl) (by kernel_rfl) (by kernel_rfl) (fun _ _ _ h => h) (Or.inl ⟨by rfl, fun w0 hSw => ?_⟩) hHeld ?_
  · (clear hSw; go_simp)
  simp only [Act.put, List.setIfInBounds_toArray, List.set_cons_zero, List.set_cons_succ]
  refine wpAnyH_take (i := 7) (oi := { dst := some 147, op := Op.load 32 (Operand.tmp 146), type := 32, pos := "law.go:476", after := #[{ on := 6, ground := Ground.data }, { on := 23, ground := Ground.gcOnly Departure.lateStores }], guard := none }) (v := .agg #[.int .u64 (s 3).x0, .int .u64 (s 3).x1, .int .u64 (s 3).x2, .int .u64 (s 3).x3]) rfl (by kernel_rfl) (by kernel_rfl) (by kernel_rfl) (fun _ _ _ h => h) (Or.inl ⟨by rfl, fun w0 hSw => ?_⟩) hHeld ?_
  · (have hS : W.grownBy w0 (some T17) := hSw; have a0 := hS.cell c30 (fun e => ne (Option.some.inj e)); have a1 := hS.cell c31 (fun e => ne (Option.some.inj e)); have a2 := hS.cell c32 (fun e => ne (Option.some.inj e)); have a3 := hS.cell c33 (fun e => ne (Option.some.inj e)); clear hS hSw; go_simp)
  simp only [Act.put, List.setIfInBounds_toArray, List.set_cons_zero, List.set_cons_succ]
  refine wpAnyH_take (i := 8) (oi := { dst := some 148, op := Op.fieldAddr 35 (Operand.tmp 16) 4, type := 0, pos := "law.go:476", after := #[{ on := 25, ground := Ground.gcOnly Departure.lateStores }], guard := none }) (v := .pointer (some ⟨T16, 16, none⟩)) rfl (by kernel_rfl) (by kernel_rfl) (by kernel_rfl) (fun _ _ _ h => h) (Or.inl ⟨by rfl, fun w0 hSw => ?_⟩) hHeld ?_
  · (clear hSw; go_simp)
  simp only [Act.put, List.setIfInBounds_toArray, List.set_cons_zero, List.set_cons_succ]
  refine wpAnyH_take (i := 9) (oi := { dst := some 149, op := Op.load 24 (Operand.tmp 148), type := 24, pos := "law.go:476", after := #[{ on := 8, ground := Ground.data }, { on := 25, ground := Ground.gcOnly Departure.lateStores }], guard := none }) (v := .agg #[.int .u64 (s 4).x0, .int .u64 (s 4).x1, .int .u64 (s 4).x2, .int .u64 (s 4).x3]) rfl (by kernel_rfl) (by kernel_rfl) (by kernel_rfl) (fun _ _ _ h => h) (Or.inl ⟨by rfl, fun w0 hSw => ?_⟩) hHeld ?_
  · (have hS : W.grownBy w0 (some T17) := hSw; have a0 := hS.cell c40 (fun e => ne (Option.some.inj e)); have a1 := hS.cell c41 (fun e => ne (Option.some.inj e)); have a2 := hS.cell c42 (fun e => ne (Option.some.inj e)); have a3 := hS.cell c43 (fun e => ne (Option.some.inj e)); clear hS hSw; go_simp)
  simp only [Act.put, List.setIfInBounds_toArray, List.set_cons_zero, List.set_cons_succ]
  refine wpAnyH_take (i := 10) (oi := { dst := some 150, op := Op.fieldAddr 35 (Operand.tmp 16) 5, type := 0, pos := "law.go:476", after := #[{ on := 27, ground := Ground.gcOnly Departure.lateStores }], guard := none }) (v := .pointer (some ⟨T16, 20, none⟩)) rfl (by kernel_rfl) (by kernel_rfl) (by kernel_rfl) (fun _ _ _ h => h) (Or.inl ⟨by rfl, fun w0 hSw => ?_⟩) hHeld ?_
  · (clear hSw; go_simp)
  simp only [Act.put, List.setIfInBounds_toArray, List.set_cons_zero, List.set_cons_succ]
  refine wpAnyH_take (i := 11) (oi := { dst := some 151, op := Op.load 24 (Operand.tmp 150), type := 24, pos := "law.go:476", after := #[{ on := 10, ground := Ground.data }, { on := 27, ground := Ground.gcOnly Departure.lateStores }], guard := none }) (v := .agg #[.int .u64 (s 5).x0, .int .u64 (s 5).x1, .int .u64 (s 5).x2, .int .u64 (s 5).x3]) rfl (by kernel_rfl) (by kernel_rfl) (by kernel_rfl) (fun _ _ _ h => h) (Or.inl ⟨by rfl, fun w0 hSw => ?_⟩) hHeld ?_
  · (have hS : W.grownBy w0 (some T17) := hSw; have a0 := hS.cell c50 (fun e => ne (Option.some.inj e)); have a1 := hS.cell c51 (fun e => ne (Option.some.inj e)); have a2 := hS.cell c52 (fun e => ne (Option.some.inj e)); have a3 := hS.cell c53 (fun e => ne (Option.some.inj e)); clear hS hSw; go_simp)
  simp only [Act.put, List.setIfInBounds_toArray, List.set_cons_zero, List.set_cons_succ]
  refine wpAnyH_take (i := 12) (oi := { dst := some 152, op := Op.fieldAddr 35 (Operand.tmp 16) 6, type := 0, pos := "law.go:476", after := #[{ on := 29, ground := Ground.gcOnly Departure.lateStores }], guard := none }) (v := .pointer (some ⟨T16, 24, none⟩)) rfl (by kernel_rfl) (by kernel_rfl) (by kernel_rfl) (fun _ _ _ h => h) (Or.inl ⟨by rfl, fun w0 hSw => ?_⟩) hHeld ?_
  · (clear hSw; go_simp)
  simp only [Act.put, List.setIfInBounds_toArray, List.set_cons_zero, List.set_cons_succ]
  refine wpAnyH_take (i := 13) (oi := { dst := some 153, op := Op.load 24 (Operand.tmp 152), type := 24, pos := "law.go:476", after := #[{ on := 12, ground := Ground.data }, { on := 29, ground := Ground.gcOnly Departure.lateStores }], guard := none }) (v := .agg #[.int .u64 (s 6).x0, .int .u64 (s 6).x1, .int .u64 (s 6).x2, .int .u64 (s 6).x3]) rfl (by kernel_rfl) (by kernel_rfl) (by kernel_rfl) (fun _ _ _ h => h) (Or.inl ⟨by rfl, fun w0 hSw => ?_⟩) hHeld ?_
  · (have hS : W.grownBy w0 (some T17) := hSw; have a0 := hS.cell c60 (fun e => ne (Option.some.inj e)); have a1 := hS.cell c61 (fun e => ne (Option.some.inj e)); have a2 := hS.cell c62 (fun e => ne (Option.some.inj e)); have a3 := hS.cell c63 (fun e => ne (Option.some.inj e)); clear hS hSw; go_simp)
  simp only [Act.put, List.setIfInBounds_toArray, List.set_cons_zero, List.set_cons_succ]
  refine wpAnyH_take (i := 14) (oi := { dst := some 154, op := Op.fieldAddr 35 (Operand.tmp 16) 9, type := 0, pos := "law.go:476", after := #[{ on := 31, ground := Ground.gcOnly Departure.lateStores }], guard := none }) (v := .pointer (some ⟨T16, 30, none⟩)) rfl (by kernel_rfl) (by kernel_rfl) (by kernel_rfl) (fun _ _ _ h => h) (Or.inl ⟨by rfl, fun w0 hSw => ?_⟩) hHeld ?_
  · (clear hSw; go_simp)
  simp only [Act.put, List.setIfInBounds_toArray, List.set_cons_zero, List.set_cons_succ]
  refine wpAnyH_take (i := 15) (oi := { dst := some 155, op := Op.load 24 (Operand.tmp 154), type := 24, pos := "law.go:476", after := #[{ on := 14, ground := Ground.data }, { on := 31, ground := Ground.gcOnly Departure.lateStores }], guard := none }) (v := .agg #[.int .u64 (s 7).x0, .int .u64 (s 7).x1, .int .u64 (s 7).x2, .int .u64 (s 7).x3]) rfl (by kernel_rfl) (by kernel_rfl) (by kernel_rfl) (fun _ _ _ h => h) (Or.inl ⟨by rfl, fun w0 hSw => ?_⟩) hHeld ?_
  · (have hS : W.grownBy w0 (some T17) := hSw; have a0 := hS.cell c70 (fun e => ne (Option.some.inj e)); have a1 := hS.cell c71 (fun e => ne (Option.some.inj e)); have a2 := hS.cell c72 (fun e => ne (Option.some.inj e)); have a3 := hS.cell c73 (fun e => ne (Option.some.inj e)); clear hS hSw; go_simp)
  simp only [Act.put, List.setIfInBounds_toArray, List.set_cons_zero, List.set_cons_succ]
  refine wpAnyH_take (i := 16) (oi := { dst := some 156, op := Op.fieldAddr 35 (Operand.tmp 16) 10, type := 0, pos := "law.go:476", after := #[{ on := 33, ground := Ground.gcOnly Departure.lateStores }], guard := none }) (v := .pointer (some ⟨T16, 34, none⟩)) rfl (by kernel_rfl) (by kernel_rfl) (by kernel_rfl) (fun _ _ _ h => h) (Or.inl ⟨by rfl, fun w0 hSw => ?_⟩) hHeld ?_
  · (clear hSw; go_simp)
  simp only [Act.put, List.setIfInBounds_toArray, List.set_cons_zero, List.set_cons_succ]
  refine wpAnyH_take (i := 17) (oi := { dst := some 157, op := Op.load 24 (Operand.tmp 156), type := 24, pos := "law.go:476", after := #[{ on := 16, ground := Ground.data }, { on := 33, ground := Ground.gcOnly Departure.lateStores }], guard := none }) (v := .agg #[.int .u64 (s 8).x0, .int .u64 (s 8).x1, .int .u64 (s 8).x2, .int .u64 (s 8).x3]) rfl (by kernel_rfl) (by kernel_rfl) (by kernel_rfl) (fun _ _ _ h => h) (Or.inl ⟨by rfl, fun w0 hSw => ?_⟩) hHeld ?_
  · (have hS : W.grownBy w0 (some T17) := hSw; have a0 := hS.cell c80 (fun e => ne (Option.some.inj e)); have a1 := hS.cell c81 (fun e => ne (Option.some.inj e)); have a2 := hS.cell c82 (fun e => ne (Option.some.inj e)); have a3 := hS.cell c83 (fun e => ne (Option.some.inj e)); clear hS hSw; go_simp)
  simp only [Act.put, List.setIfInBounds_toArray, List.set_cons_zero, List.set_cons_succ]
  clear c00 c01 c02 c03 c10 c11 c12 c13 c20 c21 c22 c23 c30 c31 c32 c33 c40 c41 c42 c43 c50 c51 c52 c53 c60 c61 c62 c63 c70 c71 c72 c73 c80 c81 c82 c83
  refine wpAnyH_take (i := 18) (oi := { dst := some 158, op := Op.fieldAddr 35 (Operand.tmp 17) 0, type := 0, pos := "law.go:476", after := #[{ on := 0, ground := Ground.phase }, { on := 1, ground := Ground.phase }, { on := 2, ground := Ground.textOnly Departure.lateStores }, { on := 3, ground := Ground.textOnly Departure.lateStores }, { on := 4, ground := Ground.textOnly Departure.lateStores }, { on := 5, ground := Ground.textOnly Departure.lateStores }, { on := 6, ground := Ground.textOnly Departure.lateStores }, { on := 7, ground := Ground.textOnly Departure.lateStores }, { on := 8, ground := Ground.textOnly Departure.lateStores }, { on := 9, ground := Ground.textOnly Departure.lateStores }, { on := 10, ground := Ground.textOnly Departure.lateStores }, { on := 11, ground := Ground.textOnly Departure.lateStores }, { on := 12, ground := Ground.textOnly Departure.lateStores }, { on := 13, ground := Ground.textOnly Departure.lateStores }, { on := 14, ground := Ground.textOnly Departure.lateStores }, { on := 15, ground := Ground.textOnly Departure.lateStores }, { on := 16, ground := Ground.textOnly Departure.lateStores }, { on := 17, ground := Ground.textOnly Departure.lateStores }], guard := none }) (v := .pointer (some ⟨T17, 0, none⟩)) rfl (by kernel_rfl) (by kernel_rfl) (by kernel_rfl) (fun _ _ _ h => h) (Or.inl ⟨by rfl, fun w0 hSw => ?_⟩) hHeld ?_
  · (clear hSw; go_simp)
  simp only [Act.put, List.setIfInBounds_toArray, List.set_cons_zero, List.set_cons_succ]
  refine wpAnyH_ready (rs := [19]) (by kernel_rfl) (by simp) ?_
  refine AllReadyH.cons (o := { dst := none, op := Op.store 32 (Operand.tmp 158) (Operand.tmp 141), type := 0, pos := "law.go:476", after := #[{ on := 18, ground := Ground.data }, { on := 1, ground := Ground.data }, { on := 0, ground := Ground.phase }, { on := 1, ground := Ground.phase }, { on := 2, ground := Ground.textOnly Departure.lateStores }, { on := 3, ground := Ground.textOnly Departure.lateStores }, { on := 4, ground := Ground.textOnly Departure.lateStores }, { on := 5, ground := Ground.textOnly Departure.lateStores }, { on := 6, ground := Ground.textOnly Departure.lateStores }, { on := 7, ground := Ground.textOnly Departure.lateStores }, { on := 8, ground := Ground.textOnly Departure.lateStores }, { on := 9, ground := Ground.textOnly Departure.lateStores }, { on := 10, ground := Ground.textOnly Departure.lateStores }, { on := 11, ground := Ground.textOnly Departure.lateStores }, { on := 12, ground := Ground.textOnly Departure.lateStores }, { on := 13, ground := Ground.textOnly Departure.lateStores }, { on := 14, ground := Ground.textOnly Departure.lateStores }, { on := 15, ground := Ground.textOnly Departure.lateStores }, { on := 16, ground := Ground.textOnly Departure.lateStores }, { on := 17, ground := Ground.textOnly Departure.lateStores }], guard := none }) rfl (fun K hK => ?_) AllReadyH.nil
  have HH := hidden hHeld
  clear hHeld
  have PT := ptOne MT.out 0 [.int .u64 (s 0).x0, .int .u64 (s 0).x1, .int .u64 (s 0).x2, .int .u64 (s 0).x3] (by simp [pc_len])
  refine ready_store rfl 32 _ _ rfl rfl T17 0 [.int .u64 (s 0).x0, .int .u64 (s 0).x1, .int .u64 (s 0).x2, .int .u64 (s 0).x3] (by rfl) (by rfl) PT.2 (by kernel_rfl) (by simp [Value.oneCell']) ?_
  have MN := hidden PT.1
  clear PT MT
  have SN := hidden (HH.out.trans (gb_setCells T17 [.int .u64 (s 0).x0, .int .u64 (s 0).x1, .int .u64 (s 0).x2, .int .u64 (s 0).x3] 0 _))
  clear HH
  generalize World.setCells _ T17 0 [.int .u64 (s 0).x0, .int .u64 (s 0).x1, .int .u64 (s 0).x2, .int .u64 (s 0).x3] = wk0 at *
  refine hK.out _ _ SN.out (fun hS0 => ?_)
  clear hK K SN
  have MT := MN
  clear MN
  skip
  refine wpAnyH_take (i := 20) (oi := { dst := some 159, op := Op.fieldAddr 35 (Operand.tmp 17) 1, type := 0, pos := "law.go:476", after := #[{ on := 0, ground := Ground.phase }, { on := 1, ground := Ground.phase }, { on := 2, ground := Ground.phase }, { on := 3, ground := Ground.phase }, { on := 4, ground := Ground.textOnly Departure.lateStores }, { on := 5, ground := Ground.textOnly Departure.lateStores }, { on := 6, ground := Ground.textOnly Departure.lateStores }, { on := 7, ground := Ground.textOnly Departure.lateStores }, { on := 8, ground := Ground.textOnly Departure.lateStores }, { on := 9, ground := Ground.textOnly Departure.lateStores }, { on := 10, ground := Ground.textOnly Departure.lateStores }, { on := 11, ground := Ground.textOnly Departure.lateStores }, { on := 12, ground := Ground.textOnly Departure.lateStores }, { on := 13, ground := Ground.textOnly Departure.lateStores }, { on := 14, ground := Ground.textOnly Departure.lateStores }, { on := 15, ground := Ground.textOnly Departure.lateStores }, { on := 16, ground := Ground.textOnly Departure.lateStores }, { on := 17, ground := Ground.textOnly Departure.lateStores }, { on := 18, ground := Ground.phase }, { on := 19, ground := Ground.phase }], guard := none }) (v := .pointer (some ⟨T17, 4, none⟩)) rfl (by kernel_rfl) (by kernel_rfl) (by kernel_rfl) (fun _ _ _ h => h) (Or.inl ⟨by rfl, fun w0 hSw => ?_⟩) hS0 ?_
  · (clear hSw; go_simp)
  simp only [Act.put, List.setIfInBounds_toArray, List.set_cons_zero, List.set_cons_succ]
  refine wpAnyH_ready (rs := [21]) (by kernel_rfl) (by simp) ?_
  refine AllReadyH.cons (o := { dst := none, op := Op.store 32 (Operand.tmp 159) (Operand.tmp 143), type := 0, pos := "law.go:476", after := #[{ on := 20, ground := Ground.data }, { on := 3, ground := Ground.data }, { on := 19, ground := Ground.chain }, { on := 0, ground := Ground.phase }, { on := 1, ground := Ground.phase }, { on := 2, ground := Ground.phase }, { on := 3, ground := Ground.phase }, { on := 4, ground := Ground.textOnly Departure.lateStores }, { on := 5, ground := Ground.textOnly Departure.lateStores }, { on := 6, ground := Ground.textOnly Departure.lateStores }, { on := 7, ground := Ground.textOnly Departure.lateStores }, { on := 8, ground := Ground.textOnly Departure.lateStores }, { on := 9, ground := Ground.textOnly Departure.lateStores }, { on := 10, ground := Ground.textOnly Departure.lateStores }, { on := 11, ground := Ground.textOnly Departure.lateStores }, { on := 12, ground := Ground.textOnly Departure.lateStores }, { on := 13, ground := Ground.textOnly Departure.lateStores }, { on := 14, ground := Ground.textOnly Departure.lateStores }, { on := 15, ground := Ground.textOnly Departure.lateStores }, { on := 16, ground := Ground.textOnly Departure.lateStores }, { on := 17, ground := Ground.textOnly Departure.lateStores }, { on := 18, ground := Ground.phase }, { on := 19, ground := Ground.phase }], guard := none }) rfl (fun K hK => ?_) AllReadyH.nil
  have HH := hidden hS0
  clear hS0
  have PT := ptOne MT.out 4 [.int .u64 (s 1).x0, .int .u64 (s 1).x1, .int .u64 (s 1).x2, .int .u64 (s 1).x3] (by simp [pc, pt])
  refine ready_store rfl 32 _ _ rfl rfl T17 4 [.int .u64 (s 1).x0, .int .u64 (s 1).x1, .int .u64 (s 1).x2, .int .u64 (s 1).x3] (by rfl) (by rfl) PT.2 (by kernel_rfl) (by simp [Value.oneCell']) ?_
  have MN := hidden PT.1
  clear PT MT
  have SN := hidden (HH.out.trans (gb_setCells T17 [.int .u64 (s 1).x0, .int .u64 (s 1).x1, .int .u64 (s 1).x2, .int .u64 (s 1).x3] 4 _))
  clear HH
  generalize World.setCells _ T17 4 [.int .u64 (s 1).x0, .int .u64 (s 1).x1, .int .u64 (s 1).x2, .int .u64 (s 1).x3] = wk1 at *
  refine hK.out _ _ SN.out (fun hS1 => ?_)
  clear hK K SN
  have MT := MN
  clear MN
  skip
  refine wpAnyH_take (i := 22) (oi := { dst := some 160, op := Op.fieldAddr 35 (Operand.tmp 17) 2, type := 0, pos := "law.go:476", after := #[{ on := 0, ground := Ground.phase }, { on := 1, ground := Ground.phase }, { on := 2, ground := Ground.phase }, { on := 3, ground := Ground.phase }, { on := 4, ground := Ground.phase }, { on := 5, ground := Ground.phase }, { on := 6, ground := Ground.textOnly Departure.lateStores }, { on := 7, ground := Ground.textOnly Departure.lateStores }, { on := 8, ground := Ground.textOnly Departure.lateStores }, { on := 9, ground := Ground.textOnly Departure.lateStores }, { on := 10, ground := Ground.textOnly Departure.lateStores }, { on := 11, ground := Ground.textOnly Departure.lateStores }, { on := 12, ground := Ground.textOnly Departure.lateStores }, { on := 13, ground := Ground.textOnly Departure.lateStores }, { on := 14, ground := Ground.textOnly Departure.lateStores }, { on := 15, ground := Ground.textOnly Departure.lateStores }, { on := 16, ground := Ground.textOnly Departure.lateStores }, { on := 17, ground := Ground.textOnly Departure.lateStores }, { on := 18, ground := Ground.phase }, { on := 19, ground := Ground.phase }, { on := 20, ground := Ground.phase }, { on := 21, ground := Ground.phase }], guard := none }) (v := .pointer (some ⟨T17, 8, none⟩)) rfl (by kernel_rfl) (by kernel_rfl) (by kernel_rfl) (fun _ _ _ h => h) (Or.inl ⟨by rfl, fun w0 hSw => ?_⟩) hS1 ?_
  · (clear hSw; go_simp)
  simp only [Act.put, List.setIfInBounds_toArray, List.set_cons_zero, List.set_cons_succ]
  refine wpAnyH_ready (rs := [23]) (by kernel_rfl) (by simp) ?_
  refine AllReadyH.cons (o := { dst := none, op := Op.store 32 (Operand.tmp 160) (Operand.tmp 145), type := 0, pos := "law.go:476", after := #[{ on := 22, ground := Ground.data }, { on := 5, ground := Ground.data }, { on := 21, ground := Ground.chain }, { on := 0, ground := Ground.phase }, { on := 1, ground := Ground.phase }, { on := 2, ground := Ground.phase }, { on := 3, ground := Ground.phase }, { on := 4, ground := Ground.phase }, { on := 5, ground := Ground.phase }, { on := 6, ground := Ground.textOnly Departure.lateStores }, { on := 7, ground := Ground.textOnly Departure.lateStores }, { on := 8, ground := Ground.textOnly Departure.lateStores }, { on := 9, ground := Ground.textOnly Departure.lateStores }, { on := 10, ground := Ground.textOnly Departure.lateStores }, { on := 11, ground := Ground.textOnly Departure.lateStores }, { on := 12, ground := Ground.textOnly Departure.lateStores }, { on := 13, ground := Ground.textOnly Departure.lateStores }, { on := 14, ground := Ground.textOnly Departure.lateStores }, { on := 15, ground := Ground.textOnly Departure.lateStores }, { on := 16, ground := Ground.textOnly Departure.lateStores }, { on := 17, ground := Ground.textOnly Departure.lateStores }, { on := 18, ground := Ground.phase }, { on := 19, ground := Ground.phase }, { on := 20, ground := Ground.phase }, { on := 21, ground := Ground.phase }], guard := none }) rfl (fun K hK => ?_) AllReadyH.nil
  have HH := hidden hS1
  clear hS1
  have PT := ptOne MT.out 8 [.int .u64 (s 2).x0, .int .u64 (s 2).x1, .int .u64 (s 2).x2, .int .u64 (s 2).x3] (by simp [pc, pt])
  refine ready_store rfl 32 _ _ rfl rfl T17 8 [.int .u64 (s 2).x0, .int .u64 (s 2).x1, .int .u64 (s 2).x2, .int .u64 (s 2).x3] (by rfl) (by rfl) PT.2 (by kernel_rfl) (by simp [Value.oneCell']) ?_
  have MN := hidden PT.1
  clear PT MT
  have SN := hidden (HH.out.trans (gb_setCells T17 [.int .u64 (s 2).x0, .int .u64 (s 2).x1, .int .u64 (s 2).x2, .int .u64 (s 2).x3] 8 _))
  clear HH
  generalize World.setCells _ T17 8 [.int .u64 (s 2).x0, .int .u64 (s 2).x1, .int .u64 (s 2).x2, .int .u64 (s 2).x3] = wk2 at *
  refine hK.out _ _ SN.out (fun hS2 => ?_)
  clear hK K SN
  have MT := MN
  clear MN
  skip
  refine wpAnyH_take (i := 24) (oi := { dst := some 161, op := Op.fieldAddr 35 (Operand.tmp 17) 3, type := 0, pos := "law.go:476", after := #[{ on := 0, ground := Ground.phase }, { on := 1, ground := Ground.phase }, { on := 2, ground := Ground.phase }, { on := 3, ground := Ground.phase }, { on := 4, ground := Ground.phase }, { on := 5, ground := Ground.phase }, { on := 6, ground := Ground.phase }, { on := 7, ground := Ground.phase }, { on := 8, ground := Ground.textOnly Departure.lateStores }, { on := 9, ground := Ground.textOnly Departure.lateStores }, { on := 10, ground := Ground.textOnly Departure.lateStores }, { on := 11, ground := Ground.textOnly Departure.lateStores }, { on := 12, ground := Ground.textOnly Departure.lateStores }, { on := 13, ground := Ground.textOnly Departure.lateStores }, { on := 14, ground := Ground.textOnly Departure.lateStores }, { on := 15, ground := Ground.textOnly Departure.lateStores }, { on := 16, ground := Ground.textOnly Departure.lateStores }, { on := 17, ground := Ground.textOnly Departure.lateStores }, { on := 18, ground := Ground.phase }, { on := 19, ground := Ground.phase }, { on := 20, ground := Ground.phase }, { on := 21, ground := Ground.phase }, { on := 22, ground := Ground.phase }, { on := 23, ground := Ground.phase }], guard := none }) (v := .pointer (some ⟨T17, 12, none⟩)) rfl (by kernel_rfl) (by kernel_rfl) (by kernel_rfl) (fun _ _ _ h => h) (Or.inl ⟨by rfl, fun w0 hSw => ?_⟩) hS2 ?_
  · (clear hSw; go_simp)
  simp only [Act.put, List.setIfInBounds_toArray, List.set_cons_zero, List.set_cons_succ]
  refine wpAnyH_ready (rs := [25]) (by kernel_rfl) (by simp) ?_
  refine AllReadyH.cons (o := { dst := none, op := Op.store 32 (Operand.tmp 161) (Operand.tmp 147), type := 0, pos := "law.go:476", after := #[{ on := 24, ground := Ground.data }, { on := 7, ground := Ground.data }, { on := 23, ground := Ground.chain }, { on := 0, ground := Ground.phase }, { on := 1, ground := Ground.phase }, { on := 2, ground := Ground.phase }, { on := 3, ground := Ground.phase }, { on := 4, ground := Ground.phase }, { on := 5, ground := Ground.phase }, { on := 6, ground := Ground.phase }, { on := 7, ground := Ground.phase }, { on := 8, ground := Ground.textOnly Departure.lateStores }, { on := 9, ground := Ground.textOnly Departure.lateStores }, { on := 10, ground := Ground.textOnly Departure.lateStores }, { on := 11, ground := Ground.textOnly Departure.lateStores }, { on := 12, ground := Ground.textOnly Departure.lateStores }, { on := 13, ground := Ground.textOnly Departure.lateStores }, { on := 14, ground := Ground.textOnly Departure.lateStores }, { on := 15, ground := Ground.textOnly Departure.lateStores }, { on := 16, ground := Ground.textOnly Departure.lateStores }, { on := 17, ground := Ground.textOnly Departure.lateStores }, { on := 18, ground := Ground.phase }, { on := 19, ground := Ground.phase }, { on := 20, ground := Ground.phase }, { on := 21, ground := Ground.phase }, { on := 22, ground := Ground.phase }, { on := 23, ground := Ground.phase }], guard := none }) rfl (fun K hK => ?_) AllReadyH.nil
  have HH := hidden hS2
  clear hS2
  have PT := ptOne MT.out 12 [.int .u64 (s 3).x0, .int .u64 (s 3).x1, .int .u64 (s 3).x2, .int .u64 (s 3).x3] (by simp [pc, pt])
  refine ready_store rfl 32 _ _ rfl rfl T17 12 [.int .u64 (s 3).x0, .int .u64 (s 3).x1, .int .u64 (s 3).x2, .int .u64 (s 3).x3] (by rfl) (by rfl) PT.2 (by kernel_rfl) (by simp [Value.oneCell']) ?_
  have MN := hidden PT.1
  clear PT MT
  have SN := hidden (HH.out.trans (gb_setCells T17 [.int .u64 (s 3).x0, .int .u64 (s 3).x1, .int .u64 (s 3).x2, .int .u64 (s 3).x3] 12 _))
  clear HH
  generalize World.setCells _ T17 12 [.int .u64 (s 3).x0, .int .u64 (s 3).x1, .int .u64 (s 3).x2, .int .u64 (s 3).x3] = wk3 at *
  refine hK.out _ _ SN.out (fun hS3 => ?_)
  clear hK K SN
  have MT := MN
  clear MN
  skip
  refine wpAnyH_take (i := 26) (oi := { dst := some 162, op := Op.fieldAddr 35 (Operand.tmp 17) 4, type := 0, pos := "law.go:476", after := #[{ on := 0, ground := Ground.phase }, { on := 1, ground := Ground.phase }, { on := 2, ground := Ground.phase }, { on := 3, ground := Ground.phase }, { on := 4, ground := Ground.phase }, { on := 5, ground := Ground.phase }, { on := 6, ground := Ground.phase }, { on := 7, ground := Ground.phase }, { on := 8, ground := Ground.phase }, { on := 9, ground := Ground.phase }, { on := 10, ground := Ground.textOnly Departure.lateStores }, { on := 11, ground := Ground.textOnly Departure.lateStores }, { on := 12, ground := Ground.textOnly Departure.lateStores }, { on := 13, ground := Ground.textOnly Departure.lateStores }, { on := 14, ground := Ground.textOnly Departure.lateStores }, { on := 15, ground := Ground.textOnly Departure.lateStores }, { on := 16, ground := Ground.textOnly Departure.lateStores }, { on := 17, ground := Ground.textOnly Departure.lateStores }, { on := 18, ground := Ground.phase }, { on := 19, ground := Ground.phase }, { on := 20, ground := Ground.phase }, { on := 21, ground := Ground.phase }, { on := 22, ground := Ground.phase }, { on := 23, ground := Ground.phase }, { on := 24, ground := Ground.phase }, { on := 25, ground := Ground.phase }], guard := none }) (v := .pointer (some ⟨T17, 16, none⟩)) rfl (by kernel_rfl) (by kernel_rfl) (by kernel_rfl) (fun _ _ _ h => h) (Or.inl ⟨by rfl, fun w0 hSw => ?_⟩) hS3 ?_
  · (clear hSw; go_simp)
  simp only [Act.put, List.setIfInBounds_toArray, List.set_cons_zero, List.set_cons_succ]
  refine wpAnyH_ready (rs := [27]) (by kernel_rfl) (by simp) ?_
  refine AllReadyH.cons (o := { dst := none, op := Op.store 24 (Operand.tmp 162) (Operand.tmp 149), type := 0, pos := "law.go:476", after := #[{ on := 26, ground := Ground.data }, { on := 9, ground := Ground.data }, { on := 25, ground := Ground.chain }, { on := 0, ground := Ground.phase }, { on := 1, ground := Ground.phase }, { on := 2, ground := Ground.phase }, { on := 3, ground := Ground.phase }, { on := 4, ground := Ground.phase }, { on := 5, ground := Ground.phase }, { on := 6, ground := Ground.phase }, { on := 7, ground := Ground.phase }, { on := 8, ground := Ground.phase }, { on := 9, ground := Ground.phase }, { on := 10, ground := Ground.textOnly Departure.lateStores }, { on := 11, ground := Ground.textOnly Departure.lateStores }, { on := 12, ground := Ground.textOnly Departure.lateStores }, { on := 13, ground := Ground.textOnly Departure.lateStores }, { on := 14, ground := Ground.textOnly Departure.lateStores }, { on := 15, ground := Ground.textOnly Departure.lateStores }, { on := 16, ground := Ground.textOnly Departure.lateStores }, { on := 17, ground := Ground.textOnly Departure.lateStores }, { on := 18, ground := Ground.phase }, { on := 19, ground := Ground.phase }, { on := 20, ground := Ground.phase }, { on := 21, ground := Ground.phase }, { on := 22, ground := Ground.phase }, { on := 23, ground := Ground.phase }, { on := 24, ground := Ground.phase }, { on := 25, ground := Ground.phase }], guard := none }) rfl (fun K hK => ?_) AllReadyH.nil
  have HH := hidden hS3
  clear hS3
  have PT := ptOne MT.out 16 [.int .u64 (s 4).x0, .int .u64 (s 4).x1, .int .u64 (s 4).x2, .int .u64 (s 4).x3] (by simp [pc, pt])
  refine ready_store rfl 24 _ _ rfl rfl T17 16 [.int .u64 (s 4).x0, .int .u64 (s 4).x1, .int .u64 (s 4).x2, .int .u64 (s 4).x3] (by rfl) (by rfl) PT.2 (by kernel_rfl) (by simp [Value.oneCell']) ?_
  have MN := hidden PT.1
  clear PT MT
  have SN := hidden (HH.out.trans (gb_setCells T17 [.int .u64 (s 4).x0, .int .u64 (s 4).x1, .int .u64 (s 4).x2, .int .u64 (s 4).x3] 16 _))
  clear HH
  generalize World.setCells _ T17 16 [.int .u64 (s 4).x0, .int .u64 (s 4).x1, .int .u64 (s 4).x2, .int .u64 (s 4).x3] = wk4 at *
  refine hK.out _ _ SN.out (fun hS4 => ?_)
  clear hK K SN
  have MT := MN
  clear MN
  skip
  refine wpAnyH_take (i := 28) (oi := { dst := some 163, op := Op.fieldAddr 35 (Operand.tmp 17) 5, type := 0, pos := "law.go:476", after := #[{ on := 0, ground := Ground.phase }, { on := 1, ground := Ground.phase }, { on := 2, ground := Ground.phase }, { on := 3, ground := Ground.phase }, { on := 4, ground := Ground.phase }, { on := 5, ground := Ground.phase }, { on := 6, ground := Ground.phase }, { on := 7, ground := Ground.phase }, { on := 8, ground := Ground.phase }, { on := 9, ground := Ground.phase }, { on := 10, ground := Ground.phase }, { on := 11, ground := Ground.phase }, { on := 12, ground := Ground.textOnly Departure.lateStores }, { on := 13, ground := Ground.textOnly Departure.lateStores }, { on := 14, ground := Ground.textOnly Departure.lateStores }, { on := 15, ground := Ground.textOnly Departure.lateStores }, { on := 16, ground := Ground.textOnly Departure.lateStores }, { on := 17, ground := Ground.textOnly Departure.lateStores }, { on := 18, ground := Ground.phase }, { on := 19, ground := Ground.phase }, { on := 20, ground := Ground.phase }, { on := 21, ground := Ground.phase }, { on := 22, ground := Ground.phase }, { on := 23, ground := Ground.phase }, { on := 24, ground := Ground.phase }, { on := 25, ground := Ground.phase }, { on := 26, ground := Ground.phase }, { on := 27, ground := Ground.phase }], guard := none }) (v := .pointer (some ⟨T17, 20, none⟩)) rfl (by kernel_rfl) (by kernel_rfl) (by kernel_rfl) (fun _ _ _ h => h) (Or.inl ⟨by rfl, fun w0 hSw => ?_⟩) hS4 ?_
  · (clear hSw; go_simp)
  simp only [Act.put, List.setIfInBounds_toArray, List.set_cons_zero, List.set_cons_succ]
  refine wpAnyH_ready (rs := [29]) (by kernel_rfl) (by simp) ?_
  refine AllReadyH.cons (o := { dst := none, op := Op.store 24 (Operand.tmp 163) (Operand.tmp 151), type := 0, pos := "law.go:476", after := #[{ on := 28, ground := Ground.data }, { on := 11, ground := Ground.data }, { on := 27, ground := Ground.chain }, { on := 0, ground := Ground.phase }, { on := 1, ground := Ground.phase }, { on := 2, ground := Ground.phase }, { on := 3, ground := Ground.phase }, { on := 4, ground := Ground.phase }, { on := 5, ground := Ground.phase }, { on := 6, ground := Ground.phase }, { on := 7, ground := Ground.phase }, { on := 8, ground := Ground.phase }, { on := 9, ground := Ground.phase }, { on := 10, ground := Ground.phase }, { on := 11, ground := Ground.phase }, { on := 12, ground := Ground.textOnly Departure.lateStores }, { on := 13, ground := Ground.textOnly Departure.lateStores }, { on := 14, ground := Ground.textOnly Departure.lateStores }, { on := 15, ground := Ground.textOnly Departure.lateStores }, { on := 16, ground := Ground.textOnly Departure.lateStores }, { on := 17, ground := Ground.textOnly Departure.lateStores }, { on := 18, ground := Ground.phase }, { on := 19, ground := Ground.phase }, { on := 20, ground := Ground.phase }, { on := 21, ground := Ground.phase }, { on := 22, ground := Ground.phase }, { on := 23, ground := Ground.phase }, { on := 24, ground := Ground.phase }, { on := 25, ground := Ground.phase }, { on := 26, ground := Ground.phase }, { on := 27, ground := Ground.phase }], guard := none }) rfl (fun K hK => ?_) AllReadyH.nil
  have HH := hidden hS4
  clear hS4
  have PT := ptOne MT.out 20 [.int .u64 (s 5).x0, .int .u64 (s 5).x1, .int .u64 (s 5).x2, .int .u64 (s 5).x3] (by simp [pc, pt])
  refine ready_store rfl 24 _ _ rfl rfl T17 20 [.int .u64 (s 5).x0, .int .u64 (s 5).x1, .int .u64 (s 5).x2, .int .u64 (s 5).x3] (by rfl) (by rfl) PT.2 (by kernel_rfl) (by simp [Value.oneCell']) ?_
  have MN := hidden PT.1
  clear PT MT
  have SN := hidden (HH.out.trans (gb_setCells T17 [.int .u64 (s 5).x0, .int .u64 (s 5).x1, .int .u64 (s 5).x2, .int .u64 (s 5).x3] 20 _))
  clear HH
  generalize World.setCells _ T17 20 [.int .u64 (s 5).x0, .int .u64 (s 5).x1, .int .u64 (s 5).x2, .int .u64 (s 5).x3] = wk5 at *
  refine hK.out _ _ SN.out (fun hS5 => ?_)
  clear hK K SN
  have MT := MN
  clear MN
  skip
  refine wpAnyH_take (i := 30) (oi := { dst := some 164, op := Op.fieldAddr 35 (Operand.tmp 17) 6, type := 0, pos := "law.go:476", after := #[{ on := 0, ground := Ground.phase }, { on := 1, ground := Ground.phase }, { on := 2, ground := Ground.phase }, { on := 3, ground := Ground.phase }, { on := 4, ground := Ground.phase }, { on := 5, ground := Ground.phase }, { on := 6, ground := Ground.phase }, { on := 7, ground := Ground.phase }, { on := 8, ground := Ground.phase }, { on := 9, ground := Ground.phase }, { on := 10, ground := Ground.phase }, { on := 11, ground := Ground.phase }, { on := 12, ground := Ground.phase }, { on := 13, ground := Ground.phase }, { on := 14, ground := Ground.textOnly Departure.lateStores }, { on := 15, ground := Ground.textOnly Departure.lateStores }, { on := 16, ground := Ground.textOnly Departure.lateStores }, { on := 17, ground := Ground.textOnly Departure.lateStores }, { on := 18, ground := Ground.phase }, { on := 19, ground := Ground.phase }, { on := 20, ground := Ground.phase }, { on := 21, ground := Ground.phase }, { on := 22, ground := Ground.phase }, { on := 23, ground := Ground.phase }, { on := 24, ground := Ground.phase }, { on := 25, ground := Ground.phase }, { on := 26, ground := Ground.phase }, { on := 27, ground := Ground.phase }, { on := 28, ground := Ground.phase }, { on := 29, ground := Ground.phase }], guard := none }) (v := .pointer (some ⟨T17, 24, none⟩)) rfl (by kernel_rfl) (by kernel_rfl) (by kernel_rfl) (fun _ _ _ h => h) (Or.inl ⟨by rfl, fun w0 hSw => ?_⟩) hS5 ?_
  · (clear hSw; go_simp)
  simp only [Act.put, List.setIfInBounds_toArray, List.set_cons_zero, List.set_cons_succ]
  refine wpAnyH_ready (rs := [31]) (by kernel_rfl) (by simp) ?_
  refine AllReadyH.cons (o := { dst := none, op := Op.store 24 (Operand.tmp 164) (Operand.tmp 153), type := 0, pos := "law.go:476", after := #[{ on := 30, ground := Ground.data }, { on := 13, ground := Ground.data }, { on := 29, ground := Ground.chain }, { on := 0, ground := Ground.phase }, { on := 1, ground := Ground.phase }, { on := 2, ground := Ground.phase }, { on := 3, ground := Ground.phase }, { on := 4, ground := Ground.phase }, { on := 5, ground := Ground.phase }, { on := 6, ground := Ground.phase }, { on := 7, ground := Ground.phase }, { on := 8, ground := Ground.phase }, { on := 9, ground := Ground.phase }, { on := 10, ground := Ground.phase }, { on := 11, ground := Ground.phase }, { on := 12, ground := Ground.phase }, { on := 13, ground := Ground.phase }, { on := 14, ground := Ground.textOnly Departure.lateStores }, { on := 15, ground := Ground.textOnly Departure.lateStores }, { on := 16, ground := Ground.textOnly Departure.lateStores }, { on := 17, ground := Ground.textOnly Departure.lateStores }, { on := 18, ground := Ground.phase }, { on := 19, ground := Ground.phase }, { on := 20, ground := Ground.phase }, { on := 21, ground := Ground.phase }, { on := 22, ground := Ground.phase }, { on := 23, ground := Ground.phase }, { on := 24, ground := Ground.phase }, { on := 25, ground := Ground.phase }, { on := 26, ground := Ground.phase }, { on := 27, ground := Ground.phase }, { on := 28, ground := Ground.phase }, { on := 29, ground := Ground.phase }], guard := none }) rfl (fun K hK => ?_) AllReadyH.nil
  have HH := hidden hS5
  clear hS5
  have PT := ptOne MT.out 24 [.int .u64 (s 6).x0, .int .u64 (s 6).x1, .int .u64 (s 6).x2, .int .u64 (s 6).x3] (by simp [pc, pt])
  refine ready_store rfl 24 _ _ rfl rfl T17 24 [.int .u64 (s 6).x0, .int .u64 (s 6).x1, .int .u64 (s 6).x2, .int .u64 (s 6).x3] (by rfl) (by rfl) PT.2 (by kernel_rfl) (by simp [Value.oneCell']) ?_
  have MN := hidden PT.1
  clear PT MT
  have SN := hidden (HH.out.trans (gb_setCells T17 [.int .u64 (s 6).x0, .int .u64 (s 6).x1, .int .u64 (s 6).x2, .int .u64 (s 6).x3] 24 _))
  clear HH
  generalize World.setCells _ T17 24 [.int .u64 (s 6).x0, .int .u64 (s 6).x1, .int .u64 (s 6).x2, .int .u64 (s 6).x3] = wk6 at *
  refine hK.out _ _ SN.out (fun hS6 => ?_)
  clear hK K SN
  have MT := MN
  clear MN
  skip
  refine wpAnyH_take (i := 32) (oi := { dst := some 165, op := Op.fieldAddr 35 (Operand.tmp 17) 9, type := 0, pos := "law.go:476", after := #[{ on := 0, ground := Ground.phase }, { on := 1, ground := Ground.phase }, { on := 2, ground := Ground.phase }, { on := 3, ground := Ground.phase }, { on := 4, ground := Ground.phase }, { on := 5, ground := Ground.phase }, { on := 6, ground := Ground.phase }, { on := 7, ground := Ground.phase }, { on := 8, ground := Ground.phase }, { on := 9, ground := Ground.phase }, { on := 10, ground := Ground.phase }, { on := 11, ground := Ground.phase }, { on := 12, ground := Ground.phase }, { on := 13, ground := Ground.phase }, { on := 14, ground := Ground.phase }, { on := 15, ground := Ground.phase }, { on := 16, ground := Ground.textOnly Departure.lateStores }, { on := 17, ground := Ground.textOnly Departure.lateStores }, { on := 18, ground := Ground.phase }, { on := 19, ground := Ground.phase }, { on := 20, ground := Ground.phase }, { on := 21, ground := Ground.phase }, { on := 22, ground := Ground.phase }, { on := 23, ground := Ground.phase }, { on := 24, ground := Ground.phase }, { on := 25, ground := Ground.phase }, { on := 26, ground := Ground.phase }, { on := 27, ground := Ground.phase }, { on := 28, ground := Ground.phase }, { on := 29, ground := Ground.phase }, { on := 30, ground := Ground.phase }, { on := 31, ground := Ground.phase }], guard := none }) (v := .pointer (some ⟨T17, 30, none⟩)) rfl (by kernel_rfl) (by kernel_rfl) (by kernel_rfl) (fun _ _ _ h => h) (Or.inl ⟨by rfl, fun w0 hSw => ?_⟩) hS6 ?_
  · (clear hSw; go_simp)
  simp only [Act.put, List.setIfInBounds_toArray, List.set_cons_zero, List.set_cons_succ]
  refine wpAnyH_ready (rs := [33]) (by kernel_rfl) (by simp) ?_
  refine AllReadyH.cons (o := { dst := none, op := Op.store 24 (Operand.tmp 165) (Operand.tmp 155), type := 0, pos := "law.go:476", after := #[{ on := 32, ground := Ground.data }, { on := 15, ground := Ground.data }, { on := 31, ground := Ground.chain }, { on := 0, ground := Ground.phase }, { on := 1, ground := Ground.phase }, { on := 2, ground := Ground.phase }, { on := 3, ground := Ground.phase }, { on := 4, ground := Ground.phase }, { on := 5, ground := Ground.phase }, { on := 6, ground := Ground.phase }, { on := 7, ground := Ground.phase }, { on := 8, ground := Ground.phase }, { on := 9, ground := Ground.phase }, { on := 10, ground := Ground.phase }, { on := 11, ground := Ground.phase }, { on := 12, ground := Ground.phase }, { on := 13, ground := Ground.phase }, { on := 14, ground := Ground.phase }, { on := 15, ground := Ground.phase }, { on := 16, ground := Ground.textOnly Departure.lateStores }, { on := 17, ground := Ground.textOnly Departure.lateStores }, { on := 18, ground := Ground.phase }, { on := 19, ground := Ground.phase }, { on := 20, ground := Ground.phase }, { on := 21, ground := Ground.phase }, { on := 22, ground := Ground.phase }, { on := 23, ground := Ground.phase }, { on := 24, ground := Ground.phase }, { on := 25, ground := Ground.phase }, { on := 26, ground := Ground.phase }, { on := 27, ground := Ground.phase }, { on := 28, ground := Ground.phase }, { on := 29, ground := Ground.phase }, { on := 30, ground := Ground.phase }, { on := 31, ground := Ground.phase }], guard := none }) rfl (fun K hK => ?_) AllReadyH.nil
  have HH := hidden hS6
  clear hS6
  have PT := ptOne MT.out 30 [.int .u64 (s 7).x0, .int .u64 (s 7).x1, .int .u64 (s 7).x2, .int .u64 (s 7).x3] (by simp [pc, pt])
  refine ready_store rfl 24 _ _ rfl rfl T17 30 [.int .u64 (s 7).x0, .int .u64 (s 7).x1, .int .u64 (s 7).x2, .int .u64 (s 7).x3] (by rfl) (by rfl) PT.2 (by kernel_rfl) (by simp [Value.oneCell']) ?_
  have MN := hidden PT.1
  clear PT MT
  have SN := hidden (HH.out.trans (gb_setCells T17 [.int .u64 (s 7).x0, .int .u64 (s 7).x1, .int .u64 (s 7).x2, .int .u64 (s 7).x3] 30 _))
  clear HH
  generalize World.setCells _ T17 30 [.int .u64 (s 7).x0, .int .u64 (s 7).x1, .int .u64 (s 7).x2, .int .u64 (s 7).x3] = wk7 at *
  refine hK.out _ _ SN.out (fun hS7 => ?_)
  clear hK K SN
  have MT := MN
  clear MN
  skip
  refine wpAnyH_take (i := 34) (oi := { dst := some 166, op := Op.fieldAddr 35 (Operand.tmp 17) 10, type := 0, pos := "law.go:476", after := #[{ on := 0, ground := Ground.phase }, { on := 1, ground := Ground.phase }, { on := 2, ground := Ground.phase }, { on := 3, ground := Ground.phase }, { on := 4, ground := Ground.phase }, { on := 5, ground := Ground.phase }, { on := 6, ground := Ground.phase }, { on := 7, ground := Ground.phase }, { on := 8, ground := Ground.phase }, { on := 9, ground := Ground.phase }, { on := 10, ground := Ground.phase }, { on := 11, ground := Ground.phase }, { on := 12, ground := Ground.phase }, { on := 13, ground := Ground.phase }, { on := 14, ground := Ground.phase }, { on := 15, ground := Ground.phase }, { on := 16, ground := Ground.phase }, { on := 17, ground := Ground.phase }, { on := 18, ground := Ground.phase }, { on := 19, ground := Ground.phase }, { on := 20, ground := Ground.phase }, { on := 21, ground := Ground.phase }, { on := 22, ground := Ground.phase }, { on := 23, ground := Ground.phase }, { on := 24, ground := Ground.phase }, { on := 25, ground := Ground.phase }, { on := 26, ground := Ground.phase }, { on := 27, ground := Ground.phase }, { on := 28, ground := Ground.phase }, { on := 29, ground := Ground.phase }, { on := 30, ground := Ground.phase }, { on := 31, ground := Ground.phase }, { on := 32, ground := Ground.phase }, { on := 33, ground := Ground.phase }], guard := none }) (v := .pointer (some ⟨T17, 34, none⟩)) rfl (by kernel_rfl) (by kernel_rfl) (by kernel_rfl) (fun _ _ _ h => h) (Or.inl ⟨by rfl, fun w0 hSw => ?_⟩) hS7 ?_
  · (clear hSw; go_simp)
  simp only [Act.put, List.setIfInBounds_toArray, List.set_cons_zero, List.set_cons_succ]
  refine wpAnyH_ready (rs := [35]) (by kernel_rfl) (by simp) ?_
  refine AllReadyH.cons (o := { dst := none, op := Op.store 24 (Operand.tmp 166) (Operand.tmp 157), type := 0, pos := "law.go:476", after := #[{ on := 34, ground := Ground.data }, { on := 17, ground := Ground.data }, { on := 33, ground := Ground.chain }, { on := 0, ground := Ground.phase }, { on := 1, ground := Ground.phase }, { on := 2, ground := Ground.phase }, { on := 3, ground := Ground.phase }, { on := 4, ground := Ground.phase }, { on := 5, ground := Ground.phase }, { on := 6, ground := Ground.phase }, { on := 7, ground := Ground.phase }, { on := 8, ground := Ground.phase }, { on := 9, ground := Ground.phase }, { on := 10, ground := Ground.phase }, { on := 11, ground := Ground.phase }, { on := 12, ground := Ground.phase }, { on := 13, ground := Ground.phase }, { on := 14, ground := Ground.phase }, { on := 15, ground := Ground.phase }, { on := 16, ground := Ground.phase }, { on := 17, ground := Ground.phase }, { on := 18, ground := Ground.phase }, { on := 19, ground := Ground.phase }, { on := 20, ground := Ground.phase }, { on := 21, ground := Ground.phase }, { on := 22, ground := Ground.phase }, { on := 23, ground := Ground.phase }, { on := 24, ground := Ground.phase }, { on := 25, ground := Ground.phase }, { on := 26, ground := Ground.phase }, { on := 27, ground := Ground.phase }, { on := 28, ground := Ground.phase }, { on := 29, ground := Ground.phase }, { on := 30, ground := Ground.phase }, { on := 31, ground := Ground.phase }, { on := 32, ground := Ground.phase }, { on := 33, ground := Ground.phase }], guard := none }) rfl (fun K hK => ?_) AllReadyH.nil
  have HH := hidden hS7
  clear hS7
  have PT := ptOne MT.out 34 [.int .u64 (s 8).x0, .int .u64 (s 8).x1, .int .u64 (s 8).x2, .int .u64 (s 8).x3] (by simp [pc, pt])
  refine ready_store rfl 24 _ _ rfl rfl T17 34 [.int .u64 (s 8).x0, .int .u64 (s 8).x1, .int .u64 (s 8).x2, .int .u64 (s 8).x3] (by rfl) (by rfl) PT.2 (by kernel_rfl) (by simp [Value.oneCell']) ?_
  have MN := hidden PT.1
  clear PT MT
  have SN := hidden (HH.out.trans (gb_setCells T17 [.int .u64 (s 8).x0, .int .u64 (s 8).x1, .int .u64 (s 8).x2, .int .u64 (s 8).x3] 34 _))
  clear HH
  generalize World.setCells _ T17 34 [.int .u64 (s 8).x0, .int .u64 (s 8).x1, .int .u64 (s 8).x2, .int .u64 (s 8).x3] = wk8 at *
  refine hK.out _ _ SN.out (fun hS8 => ?_)
  clear hK K SN
  have MT := MN
  clear MN
  have FQ := hidden (HQ.out _ hS8 MT.out)
  refine wpAnyH_done (by kernel_rfl) ?_ _
  refine NoPanic.normal ?_
  exact FQ.out
end Go.Proofs.YthkfjggogcmdmaaDoor
namespace Go.Proofs.YthkfjggogcmdmaaDoor
open Go.RowKit
set_option linter.unusedVariables false
theorem cell_set_in {w : World} {c i : Nat} {cs : List Value} {v : Value} (hr : w.rangeAt c 0 cs) (hi : i < cs.length) : (w.setCell ⟨c, i, none⟩ v).rangeAt c 0 (cs.set i v) := fun j u hu => by
  rw [Nat.zero_add]
  rw [List.getElem?_set] at hu
  by_cases hj : i = j
  · subst hj
    rw [if_pos rfl, if_pos hi] at hu
    obtain rfl := Option.some.inj hu
    have h9 := hr i _ (List.getElem?_eq_getElem hi)
    rw [Nat.zero_add] at h9
    exact World.cell?_setCell_same _ _ _ h9
  · rw [if_neg hj] at hu
    rw [World.cell?_setCell_other _ _ _ _ (fun e => hj (by simpa using congrArg Addr.off e))]
    have h9 := hr j u hu
    rwa [Nat.zero_add] at h9
theorem Mv.cell {w0 w : World} {L : List (Nat × List Value)} (h : Mv w0 L w) (k : Nat) {c i : Nat} {cs : List Value} (v : Value) (hk : L[k]? = some (c, cs)) (hi : i < cs.length) : Mv w0 (L.set k (c, cs.set i v)) (w.setCell ⟨c, i, none⟩ v) := by
  have hm := h.m.r (c, cs) (List.mem_of_getElem? hk)
  refine h.upd k hk ⟨rfl, rfl, rfl, by simp, fun b _ hb => heap_setCell_other w ⟨c, i, none⟩ b v (fun e => hb (by simp [e]))⟩ (cell_set_in hm.1 hi) (fun j hj => ?_)
  have h2 := hm.2.1 j (by simpa using hj)
  refine ⟨?_, by rw [World.frozen?_setCell]; exact h2.2⟩
  have h3 := cell_set_in (v := v) hm.1 hi j _ (List.getElem?_eq_getElem hj)
  rw [h3]; rfl
theorem cb_set (ys : List UInt8) (i : Nat) (y : UInt8) : Tr.cb (ys.set i y) = (Tr.cb ys).set i (.int .u8 (y.toNat : Int)) := by simp [Tr.cb, List.map_set]
theorem th_new (w : World) (cs : List Value) (hl : cs.length = 38) : (w.alloc (.cells (pcv zero4 zero4 zero4 zero4 zero4 zero4 zero4 zero4 zero4 (.slice none 0 0) (.slice none 0 0)).toArray 35)).there w.heap.size 0 cs.toArray.size := by
  have h9 := there_newM w (pcv zero4 zero4 zero4 zero4 zero4 zero4 zero4 zero4 zero4 (.slice none 0 0) (.slice none 0 0)) 35
  have e : cs.toArray.size = (pcv zero4 zero4 zero4 zero4 zero4 zero4 zero4 zero4 zero4 (.slice none 0 0) (.slice none 0 0)).length := by simp only [List.size_toArray, hl]; rfl
  rw [e]; exact h9
theorem same_new {x : World} {G H c d N : Nat} (Y : List UInt8) (hN : Y.length = N) (h1 : x.rangeAt G 0 (Tr.cb Y)) (h2 : x.rangeAt H 0 (Tr.cb Y)) :
    Calls Tryd.prog 9 #[.slice (some ⟨G, 0, none⟩) N c, .slice (some ⟨H, 0, none⟩) N d] x fun e w' => e = .returned (.bool true) ∧ w' = x := by
  have h9 := Tr.same_any (some ⟨G, 0, none⟩) (some ⟨H, 0, none⟩) c d Y Y x (by_rangeX h1) (by_rangeX h2)
  rw [hN, show (Y == Y) = true by simp] at h9
  exact h9
theorem same_own {x : World} {v1 v2 : Value} {b1 b2 : Nat} (Y : List UInt8) (h1 : x.ownsRow b1 5 1 v1 Y.length (Tr.cb Y)) (h2 : x.ownsRow b2 5 1 v2 Y.length (Tr.cb Y)) :
    Calls Tryd.prog 9 #[v1, v2] x fun e w' => e = .returned (.bool true) ∧ w' = x := by
  obtain ⟨P, c, rfl, hp⟩ := Tr.own_by h1
  obtain ⟨Q, d, rfl, hq⟩ := Tr.own_by h2
  have h9 := Tr.same_any P Q c d Y Y x hp hq
  rw [show (Y == Y) = true by simp] at h9
  exact h9
theorem hex_new {x : World} {G c N : Nat} (Y : List UInt8) (hN : Y.length = N) (hl : N ≤ 928) (h1 : x.rangeAt G 0 (Tr.cb Y)) : Calls Tryd.prog 6 #[.slice (some ⟨G, 0, none⟩) N c] x fun e w' => e = .returned (.string (Tr.sb (Tr.hx Y))) ∧ Below x.heap.size x w' := by
  have h9 := Tr.hex_any (some ⟨G, 0, none⟩) c Y x (by_rangeX h1) (by omega)
  rw [hN] at h9; exact h9
theorem rhex_new {x : World} {G c N : Nat} (Y : List UInt8) (hN : Y.length = N) (hl : N ≤ 928) (h1 : x.rangeAt G 0 (Tr.cb Y)) : Calls Tryd.prog 7 #[.slice (some ⟨G, 0, none⟩) N c] x fun e w' => e = .returned (.string (Tr.sb (Tr.hx Y))) ∧ Below x.heap.size x w' := by
  have h9 := Tr.rhex_any (some ⟨G, 0, none⟩) c Y x (by_rangeX h1) (by omega)
  rw [hN] at h9; exact h9
theorem Mv.drop {w0 w : World} {L : List (Nat × List Value)} (h : Mv w0 L w) (k : Nat) : Mv w0 (L.drop k) w := ⟨h.m.sub (fun p hp => List.mem_of_mem_drop hp), by rw [List.map_drop]; exact h.nd.sublist (List.drop_sublist _ _)⟩
theorem Mv.take {w0 w : World} {L : List (Nat × List Value)} (h : Mv w0 L w) (k : Nat) : Mv w0 (L.take k) w := ⟨h.m.sub (fun p hp => List.mem_of_mem_take hp), by rw [List.map_take]; exact h.nd.sublist (List.take_sublist _ _)⟩
theorem Mv.ne {w0 w : World} {L : List (Nat × List Value)} (h : Mv w0 L w) (i j : Nat) {c d : Nat} {cs ds : List Value} (hi : L[i]? = some (c, cs)) (hj : L[j]? = some (d, ds)) (hij : i ≠ j) : c ≠ d := fun e =>
  hij ((List.getElem?_inj (by rw [List.length_map]; exact (List.getElem?_eq_some_iff.1 hi).1) h.nd).1 (by rw [List.getElem?_map, List.getElem?_map, hi, hj]; simp [e]))
theorem u8_some (z : Int) : ∃ y : UInt8, IntKind.u8.wrap z = (y.toNat : Int) := by
  refine ⟨UInt8.ofNat (z % 256).toNat, ?_⟩
  have h : IntKind.u8.wrap z = z % 256 := by simp [IntKind.wrap, IntKind.bits, IntKind.signed]
  rw [h, UInt8.toNat_ofNat']
  omega
theorem own_byK {x : World} {b K : Nat} {v : Value} {bs : List UInt8} (h : x.ownsRow b 5 1 v K (Tr.cb bs)) (hK : bs.length = K) : ∃ (P : Option Addr) (c : Nat), v = .slice P K c ∧ Tr.By x P c bs := by
  subst hK; exact Tr.own_by h
theorem wpList_app_new {w : World} {ops : Array Oper} {rest : List Oper} {o : Oper} {a : Act} {Q : Exit → Act → World → Prop} (hgd : o.guard = none) (sl x : Operand)
    (ho : o.op = .call { callee := .builtin .append, args := #[sl, x], argTypes := #[29, 29] }) (hs : a.eval sl = .slice none 0 0) (bs : List UInt8) (P : Option Addr) (c K : Nat) (hK : bs.length = K) (hx : a.eval x = .slice P K c) (hB : Tr.By w P c bs) (hl : K ≤ 2 ^ 47)
    (h : ∀ v' w', w'.ownsRow w.heap.size 5 1 v' K (Tr.cb bs) → Below w.heap.size w w' → wpList Tryd.prog ops Q rest (a.put o.dst v') w') : wpList Tryd.prog ops Q (o :: rest) a w := by
  subst hK
  refine Tr.wpList_app_by hgd sl x ho w.heap.size (.slice none 0 0) [] bs P c hs hx (World.ownsRow_nil _ _ _ _) hB (by simp only [List.length_nil]; omega) (Nat.le_refl _) (fun v' w' h1 h2 => h v' w' (by simpa using h1) (Tr.below_grown h2 (Nat.le_refl _) (fun k hk => by cases hk)))
theorem ap_new (Q : Option Addr) (d K : Nat) (ys : List UInt8) (x : World) (hB : Tr.By x Q d ys) (hK : ys.length = K) (hl : K ≤ 140737488351232) (M : Nat) (hM : (Tr.vn K ++ ys).length = M) : Calls Tryd.prog 11 #[.slice none 0 0, .slice Q K d] x fun e w' => ∃ G k : Nat, e = .returned (.slice (some ⟨G, 0, none⟩) M k) ∧ Mw x [(G, Tr.cb (Tr.vn K ++ ys))] w' := by
  have h9 := Tr.appBytes_any none Q 0 d [] ys x (Tr.by_none x) hB (by simp only [List.length_nil]; omega)
  simp only [List.length_nil, List.nil_append, hK] at h9
  refine h9.mono fun e w' ⟨v, he, ho, hb⟩ => ?_
  obtain ⟨G, k, rfl, -, -, -, -⟩ := Tr.own_some ho (by have := (Tr.vn_len K).1; simp only [List.length_append]; omega)
  rw [hM] at he
  exact ⟨G, k, he, own_mw hb ho (by rw [Tr.cb_len, Nat.mul_one])⟩
theorem li_new (Q : Option Addr) (d K : Nat) (ys : List UInt8) (x : World) (hB : Tr.By x Q d ys) (hK : ys.length = K) (hl : K ≤ 140737488351232) (M : Nat) (hM : (Tr.vn K ++ ys).length = M) : Calls Tryd.prog 12 #[.slice Q K d] x fun e w' => ∃ G k : Nat, e = .returned (.slice (some ⟨G, 0, none⟩) M k) ∧ Mw x [(G, Tr.cb (Tr.vn K ++ ys))] w' := by
  have h9 := Tr.rList_any Q d ys x hB (by omega)
  simp only [hK] at h9
  refine h9.mono fun e w' ⟨v, he, ho, hb⟩ => ?_
  obtain ⟨G, k, rfl, -, -, -, -⟩ := Tr.own_some ho (by have := (Tr.vn_len K).1; simp only [List.length_append]; omega)
  rw [hM] at he
  exact ⟨G, k, he, own_mw hb ho (by rw [Tr.cb_len, Nat.mul_one])⟩
end Go.Proofs.YthkfjggogcmdmaaDoor
namespace Go.Proofs.YthkfjggogcmdmaaDoor
open Go.RowKit
set_option linter.unusedVariables false
set_option maxRecDepth 100000 in
set_option maxHeartbeats 8000000 in
theorem again_no (s l r s' l' r' : Nat → E4) (LP RP LP' RP' : Option Addr) (n m n' m' cL cR cL' cR' : Nat) (BP : Option Addr) (bl cB : Nat) (w : World) (h : n ≠ m ∨ n' ≠ m' ∨ n ≠ n' ∨ 10 < n) :
    Calls Tryd.prog 3 #[.agg (pc s (.slice LP n cL) (.slice RP m cR)).toArray, .agg (pc s' (.slice LP' n' cL') (.slice RP' m' cR')).toArray, .slice BP bl cB] w fun e w' => e = .returned (.bool true) ∧ Below w.heap.size w w' := by
  obtain ⟨Q1, hQ1⟩ : ∃ P, P = pc s (.slice LP n cL) (.slice RP m cR) := ⟨_, rfl⟩
  obtain ⟨Q2, hQ2⟩ : ∃ P, P = pc s' (.slice LP' n' cL') (.slice RP' m' cR') := ⟨_, rfl⟩
  have a28 : Hid (Q1[28]? = some (.slice LP n cL) ∧ Q1[29]? = some (.slice RP m cR) ∧ Q2[28]? = some (.slice LP' n' cL') ∧ Q2[29]? = some (.slice RP' m' cR')) := hidden (by rw [hQ1, hQ2]; exact ⟨rfl, rfl, rfl, rfl⟩)
  rw [← hQ1, ← hQ2]
  have MM := hidden (((Mv.start w).new Q1 28).new Q2 28)
  rw [World.size_alloc] at MM
  clear hQ1 hQ2
  by_cases h1 : n = m
  · subst h1
    by_cases h2 : n' = m'
    · subst h2
      by_cases h3 : n = n'
      · subst h3
        have h4 : (10 : Int) < (n : Int) := by omega
        clear h
        go_enter Tryd.func3, Tryd.ntmps3
        go_upto_region 1 with fail
        generalize (w.alloc (.cells Q1.toArray 28)).alloc (.cells Q2.toArray 28) = W at *
        have x1 := (MM.out.m.r (w.heap.size, Q1) (by simp)).1 28 _ a28.out.1
        have x2 := (MM.out.m.r (w.heap.size, Q1) (by simp)).1 29 _ a28.out.2.1
        have x3 := (MM.out.m.r (w.heap.size + 1, Q2) (by simp)).1 28 _ a28.out.2.2.1
        have x4 := (MM.out.m.r (w.heap.size + 1, Q2) (by simp)).1 29 _ a28.out.2.2.2
        simp only [Nat.zero_add] at x1 x2 x3 x4
        go_wp2_with fail
        refine bodyPost_ret (v := .bool true) (by simp [results, Tryd.results3, go_sem]) rfl ⟨rfl, MM.out.m.bel⟩
      · have h4 : ¬ (n : Int) = (n' : Int) := by omega
        clear h
        go_enter Tryd.func3, Tryd.ntmps3
        go_upto_region 1 with fail
        generalize (w.alloc (.cells Q1.toArray 28)).alloc (.cells Q2.toArray 28) = W at *
        have x1 := (MM.out.m.r (w.heap.size, Q1) (by simp)).1 28 _ a28.out.1
        have x2 := (MM.out.m.r (w.heap.size, Q1) (by simp)).1 29 _ a28.out.2.1
        have x3 := (MM.out.m.r (w.heap.size + 1, Q2) (by simp)).1 28 _ a28.out.2.2.1
        have x4 := (MM.out.m.r (w.heap.size + 1, Q2) (by simp)).1 29 _ a28.out.2.2.2
        simp only [Nat.zero_add] at x1 x2 x3 x4
        go_wp2_with fail
        refine bodyPost_ret (v := .bool true) (by simp [results, Tryd.results3, go_sem]) rfl ⟨rfl, MM.out.m.bel⟩
    · have h4 : ¬ (n' : Int) = (m' : Int) := by omega
      clear h
      go_enter Tryd.func3, Tryd.ntmps3
      go_upto_region 1 with fail
      generalize (w.alloc (.cells Q1.toArray 28)).alloc (.cells Q2.toArray 28) = W at *
      have x1 := (MM.out.m.r (w.heap.size, Q1) (by simp)).1 28 _ a28.out.1
      have x2 := (MM.out.m.r (w.heap.size, Q1) (by simp)).1 29 _ a28.out.2.1
      have x3 := (MM.out.m.r (w.heap.size + 1, Q2) (by simp)).1 28 _ a28.out.2.2.1
      have x4 := (MM.out.m.r (w.heap.size + 1, Q2) (by simp)).1 29 _ a28.out.2.2.2
      simp only [Nat.zero_add] at x1 x2 x3 x4
      go_wp2_with fail
      refine bodyPost_ret (v := .bool true) (by simp [results, Tryd.results3, go_sem]) rfl ⟨rfl, MM.out.m.bel⟩
  · have h4 : ¬ (n : Int) = (m : Int) := by omega
    clear h
    go_enter Tryd.func3, Tryd.ntmps3
    go_upto_region 1 with fail
    generalize (w.alloc (.cells Q1.toArray 28)).alloc (.cells Q2.toArray 28) = W at *
    have x1 := (MM.out.m.r (w.heap.size, Q1) (by simp)).1 28 _ a28.out.1
    have x2 := (MM.out.m.r (w.heap.size, Q1) (by simp)).1 29 _ a28.out.2.1
    have x3 := (MM.out.m.r (w.heap.size + 1, Q2) (by simp)).1 28 _ a28.out.2.2.1
    have x4 := (MM.out.m.r (w.heap.size + 1, Q2) (by simp)).1 29 _ a28.out.2.2.2
    simp only [Nat.zero_add] at x1 x2 x3 x4
    go_wp2_with fail
    refine bodyPost_ret (v := .bool true) (by simp [results, Tryd.results3, go_sem]) rfl ⟨rfl, MM.out.m.bel⟩
end Go.Proofs.YthkfjggogcmdmaaDoor
namespace Go.Proofs.YthkfjggogcmdmaaDoor
open Go.RowKit
set_option linter.unusedVariables false

set_option maxRecDepth 100000 in
set_option maxHeartbeats 64000000 in
theorem again_n (s l r s' l' r' : Nat → E4) (LP RP LP' RP' : Option Addr) (n cL cR cL' cR' : Nat) (bs : List UInt8) (BP : Option Addr) (cB : Nat) (w : World) (hT : Tb w) (h0 : 0 < n) (hn : n ≤ 10) (os : ∀ k, k < 9 → (s k).ok) (os' : ∀ k, k < 9 → (s' k).ok) (ol : ∀ k, k < n → (l k).ok) (or : ∀ k, k < n → (r k).ok) (ol' : ∀ k, k < n → (l' k).ok) (or' : ∀ k, k < n → (r' k).ok) (hL : Lm w LP n l) (hR : Lm w RP n r) (hL' : Lm w LP' n l') (hR' : Lm w RP' n r') (hb : Tr.By w BP cB bs) (lb : bs.length ≤ 140737488351232) :
    Calls Tryd.prog 3 #[.agg (pc s (.slice LP n cL) (.slice RP n cR)).toArray, .agg (pc s' (.slice LP' n cL') (.slice RP' n cR')).toArray, .slice BP bs.length cB] w fun e w' => e = .returned (.bool true) ∧ Below w.heap.size w w' := by
  obtain ⟨Q1, hQ1⟩ : ∃ P, P = pc s (.slice LP n cL) (.slice RP n cR) := ⟨_, rfl⟩
  obtain ⟨Q2, hQ2⟩ : ∃ P, P = pc s' (.slice LP' n cL') (.slice RP' n cR') := ⟨_, rfl⟩
  have a28 : Hid (Q1[28]? = some (.slice LP n cL) ∧ Q1[29]? = some (.slice RP n cR) ∧ Q2[28]? = some (.slice LP' n cL') ∧ Q2[29]? = some (.slice RP' n cR')) := hidden (by rw [hQ1, hQ2]; exact ⟨rfl, rfl, rfl, rfl⟩)
  have QL : Hid (Q1.length = 38 ∧ Q2.length = 38) := hidden (by rw [hQ1, hQ2]; exact ⟨rfl, rfl⟩)
  obtain ⟨N, hN⟩ : ∃ N, 32 * (9 + 2 * n) = N := ⟨_, rfl⟩
  have NL : Hid (N ≤ 928) := hidden (by omega)
  obtain ⟨X, hX⟩ : ∃ X, pe n s l r = X := ⟨_, rfl⟩
  have LX : Hid (X.length = N) := hidden (by rw [← hX, pe_len, hN])
  obtain ⟨Z, hZ⟩ : ∃ X, pe n s' l' r' = X := ⟨_, rfl⟩
  have LZ : Hid (Z.length = N) := hidden (by rw [← hZ, pe_len, hN])
  obtain ⟨Y, hY⟩ : ∃ X, pe n s l' r' = X := ⟨_, rfl⟩
  have LY : Hid (Y.length = N) := hidden (by rw [← hY, pe_len, hN])
  have BX := hidden (fun x (h : Below w.heap.size w x) => bytes_new s l r LP RP n cL cR x hn os ol or (hL.keep h) (hR.keep h))
  rw [hX, hN, ← hQ1] at BX
  have WX := hidden (fun x (h : Below w.heap.size w x) => line_new s l r LP RP n cL cR x h0 hn (hL.keep h) (hR.keep h))
  rw [← hQ1] at WX
  have okX : DOk X n := by rw [← hX]; exact pe_dok n s l r hn
  have DX := hidden (fun x (G c : Nat) (h : Below w.heap.size w x) (hr : x.rangeAt G 0 (Tr.cb X)) => dec_new G c n X x (hT.keep h) hr okX)
  rw [hN] at DX
  have EX := hidden (fun x (bL bR : Nat) (h : Below w.heap.size w x) (h1 : x.rangeAt bL 0 (svs n (gl X))) (h2 : x.rangeAt bR 0 (svs n (gr X))) (l1 : bL < x.heap.size) (l2 : bR < x.heap.size) => enc_new (gs X n) (gl X) (gr X) (some ⟨bL, 0, none⟩) (some ⟨bR, 0, none⟩) n n n x (hT.keep h) hn (fun k _ => gs_ok _ _ _) (fun k _ => gv_ok _ _) (fun k _ => gv_ok _ _) (lm_range h1) (lm_range h2) (fun a ha => by obtain rfl := Option.some.inj ha; exact l1) (fun a ha => by obtain rfl := Option.some.inj ha; exact l2))
  rw [pe_g X n okX.2.1 okX.2.2, hN] at EX
  obtain ⟨sX, hsX⟩ : ∃ t, gs X n = t := ⟨_, rfl⟩
  rw [hsX] at DX EX
  have CX := hidden (fun (x : World) (G c : Nat) (h : x.rangeAt G 0 (Tr.cb X)) => rhex_new (c := c) X LX.out NL.out h)
  have SX := hidden (fun (x : World) (G H c d : Nat) (h1 : x.rangeAt G 0 (Tr.cb X)) (h2 : x.rangeAt H 0 (Tr.cb X)) => same_new (c := c) (d := d) X LX.out h1 h2)
  have HX := hidden (fun (x : World) (G c : Nat) (h : x.rangeAt G 0 (Tr.cb X)) => hex_new (c := c) X LX.out NL.out h)
  have BZ := hidden (fun x (h : Below w.heap.size w x) => bytes_new s' l' r' LP' RP' n cL' cR' x hn os' ol' or' (hL'.keep h) (hR'.keep h))
  rw [hZ, hN, ← hQ2] at BZ
  have WZ := hidden (fun x (h : Below w.heap.size w x) => line_new s' l' r' LP' RP' n cL' cR' x h0 hn (hL'.keep h) (hR'.keep h))
  rw [← hQ2] at WZ
  have okZ : DOk Z n := by rw [← hZ]; exact pe_dok n s' l' r' hn
  have DZ := hidden (fun x (G c : Nat) (h : Below w.heap.size w x) (hr : x.rangeAt G 0 (Tr.cb Z)) => dec_new G c n Z x (hT.keep h) hr okZ)
  rw [hN] at DZ
  have EZ := hidden (fun x (bL bR : Nat) (h : Below w.heap.size w x) (h1 : x.rangeAt bL 0 (svs n (gl Z))) (h2 : x.rangeAt bR 0 (svs n (gr Z))) (l1 : bL < x.heap.size) (l2 : bR < x.heap.size) => enc_new (gs Z n) (gl Z) (gr Z) (some ⟨bL, 0, none⟩) (some ⟨bR, 0, none⟩) n n n x (hT.keep h) hn (fun k _ => gs_ok _ _ _) (fun k _ => gv_ok _ _) (fun k _ => gv_ok _ _) (lm_range h1) (lm_range h2) (fun a ha => by obtain rfl := Option.some.inj ha; exact l1) (fun a ha => by obtain rfl := Option.some.inj ha; exact l2))
  rw [pe_g Z n okZ.2.1 okZ.2.2, hN] at EZ
  obtain ⟨sZ, hsZ⟩ : ∃ t, gs Z n = t := ⟨_, rfl⟩
  rw [hsZ] at DZ EZ
  have CZ := hidden (fun (x : World) (G c : Nat) (h : x.rangeAt G 0 (Tr.cb Z)) => rhex_new (c := c) Z LZ.out NL.out h)
  have SZ := hidden (fun (x : World) (G H c d : Nat) (h1 : x.rangeAt G 0 (Tr.cb Z)) (h2 : x.rangeAt H 0 (Tr.cb Z)) => same_new (c := c) (d := d) Z LZ.out h1 h2)
  have HZ := hidden (fun (x : World) (G c : Nat) (h : x.rangeAt G 0 (Tr.cb Z)) => hex_new (c := c) Z LZ.out NL.out h)
  have SY := hidden (fun (x : World) (G H c d : Nat) (h1 : x.rangeAt G 0 (Tr.cb Y)) (h2 : x.rangeAt H 0 (Tr.cb Y)) => same_new (c := c) (d := d) Y LY.out h1 h2)
  have K1 := hidden (fun x (h : Below w.heap.size w x) (b1 b2 c1 c2 : Nat) (h1 : x.rangeAt b1 0 (svs n l)) (h2 : x.rangeAt b2 0 (svs n r)) (l1 : b1 < x.heap.size) (l2 : b2 < x.heap.size) => enc_new s l r (some ⟨b1, 0, none⟩) (some ⟨b2, 0, none⟩) n c1 c2 x (hT.keep h) hn os ol or (lm_range h1) (lm_range h2) (fun a ha => by obtain rfl := Option.some.inj ha; exact l1) (fun a ha => by obtain rfl := Option.some.inj ha; exact l2))
  rw [hX, hN] at K1
  have K2 := hidden (fun x (h : Below w.heap.size w x) (b1 b2 c1 c2 : Nat) (h1 : x.rangeAt b1 0 (svs n l')) (h2 : x.rangeAt b2 0 (svs n r')) (l1 : b1 < x.heap.size) (l2 : b2 < x.heap.size) => enc_new s l' r' (some ⟨b1, 0, none⟩) (some ⟨b2, 0, none⟩) n c1 c2 x (hT.keep h) hn os ol' or' (lm_range h1) (lm_range h2) (fun a ha => by obtain rfl := Option.some.inj ha; exact l1) (fun a ha => by obtain rfl := Option.some.inj ha; exact l2))
  rw [hY, hN] at K2
  have HBY := hidden (fun x (h : Below w.heap.size w x) => hb.keep h)
  have LB := hidden lb
  obtain ⟨K, hK⟩ : ∃ K, bs.length = K := ⟨_, rfl⟩
  have HK := hidden hK
  rw [hK]
  clear hK
  have UW : Hid (Tryd.prog.underlying 28 = _) := hidden Tryd.underlying28
  have UP : Hid (Tryd.prog.underlying 35 = _) := hidden Tryd.underlying35
  have I1 : Hid ((Tryd.prog.info? 28).map (·.size) = some Q1.length) := hidden (by rw [QL.out.1]; exact wpinfo)
  have I2 : Hid ((Tryd.prog.info? 28).map (·.size) = some Q2.length) := hidden (by rw [QL.out.2]; exact wpinfo)
  have n10 : ¬ (10 : Int) < (n : Int) := by omega
  rw [← hQ1, ← hQ2]
  have MM := hidden (((Mv.start w).new Q1 28).new Q2 28)
  rw [World.size_alloc] at MM
  clear hQ1 hQ2 hT hn os os' ol or ol' or' hL hR hL' hR' hb lb hX hZ hY okX okZ hsX hsZ h0
  go_enter Tryd.func3, Tryd.ntmps3
  go_upto_region 1 with fail
  generalize (w.alloc (.cells Q1.toArray 28)).alloc (.cells Q2.toArray 28) = W at *
  have x0 := (MM.out.m.r (w.heap.size, Q1) (by simp)).1 28 _ a28.out.1
  have x1 := (MM.out.m.r (w.heap.size, Q1) (by simp)).1 29 _ a28.out.2.1
  have x2 := (MM.out.m.r (w.heap.size + 1, Q2) (by simp)).1 28 _ a28.out.2.2.1
  have x3 := (MM.out.m.r (w.heap.size + 1, Q2) (by simp)).1 29 _ a28.out.2.2.2
  simp only [Nat.zero_add] at x0 x1 x2 x3
  go_upto_region 3 with fail
  clear x0 x1 x2 x3
  refine wa3 _ (w.heap.size) (w.heap.size + 1) N Q1 Q2 (Tr.cb X) (Tr.cb Z) w _ _ _ _ _ _ _ _ _ _ _ _ _ _ _ _ _ _ _ _ _ _ _ _ _ _ _ _ _ _ _ _ _ _ _ _ _ _ _ _ _ _ _ _ _ _ _ _ _ _ _ _ _ _ _ _ _ _ _ _ _ _ _ _ _ _ _ _ _ _ _ _ _ _ _ _ _ _ _ _ _ _ _ _ _ _ _ _ _ _ _ _ _ _ _ _ _ _ _ _ _ _ _ _ _ _ _ _ _ _ _ _ _ _ _ _ _ _ _ _ _ _ _ _ _ _ _ _ _ _ _ _ _ _ _ _ _ _ _ _ _ _ _ _ _ _ _ _ _ _ _ _ _ _ _ _ _ _ _ _ _ _ _ _ _ _ _ _ _ _ _ _ _ _ _ _ _ _ _ _ _ _ _ _ _ _ _ _ _ _ _ _ _ _ _ _ _ _ _ _ _ _ _ _ _ _ _ _ _ _ _ _ _ _ _ _ _ _ _ W (MM.out.m.r (w.heap.size, Q1) (by simp)).1 (MM.out.m.r (w.heap.size + 1, Q2) (by simp)).1 QL.out.1 QL.out.2 MM.out (hidden (fun x hx => BX.out x (bl_trans MM.out.m.bel hx))) (hidden (fun x hx => BZ.out x (bl_trans MM.out.m.bel hx))) (hidden ?_)
  intro G1 k1 G2 k2 w3 hM hb3
  replace MM := hidden hM
  clear hM hb3
  go_upto_region 5 with (first | (go_at_call 5; refine (DX.out _ G1 k1 MM.out.m.bel (MM.out.m.r (G1, Tr.cb X) (by simp)).1).mono ?_; rintro e w4 ⟨bL, bR, rfl, hm, hne⟩; replace MM := hidden (MM.out.two hm hne); clear hm hne DX) | refine wpList_allocP rfl rfl ?_ | (refine wpList_storeL rfl 35 _ _ rfl rfl w4.heap.size 0 (pc sX (.slice (some ⟨bL, 0, none⟩) n n) (.slice (some ⟨bR, 0, none⟩) n n)) (by rfl) (by rfl) (th_new w4 (pc sX (.slice (some ⟨bL, 0, none⟩) n n) (.slice (some ⟨bR, 0, none⟩) n n)) rfl) (pc_i2 _ _ _) (pc_one _ _ _ _ _ _ _) ?_; replace MM := hidden (MM.out.newset (pcv zero4 zero4 zero4 zero4 zero4 zero4 zero4 zero4 zero4 (.slice none 0 0) (.slice none 0 0)) (pc sX (.slice (some ⟨bL, 0, none⟩) n n) (.slice (some ⟨bR, 0, none⟩) n n)) 35 rfl); generalize World.setCells _ w4.heap.size 0 (pc sX (.slice (some ⟨bL, 0, none⟩) n n) (.slice (some ⟨bR, 0, none⟩) n n)) = w5 at *; generalize w4.heap.size = Tx at *))
  go_upto_region 6 with (first | (go_at_call 6; refine (HX.out _ G1 k1 (MM.out.m.r (G1, Tr.cb X) (by simp)).1).mono ?_; rintro e w6 ⟨rfl, hb⟩; replace MM := hidden (MM.out.keep hb); clear hb HX))
  have t1 : Hid (w6.there G1 0 N) := hidden (by have h9 := (MM.out.m.r (G1, Tr.cb X) (by simp)).2.1; rw [Tr.cb_len, LX.out] at h9; exact h9)
  have cl : Hid ((Tr.cb Z).length = (Tr.cb X).length) := hidden (by rw [Tr.cb_len, Tr.cb_len, LX.out, LZ.out])
  have hcp := copy_bytes (ty := 3) (c1 := k1) (c2 := k2) LZ.out (MM.out.m.r (G2, Tr.cb Z) (by simp)).1 t1.out
  have MN := hidden (MM.out.copy 4 (Tr.cb Z) rfl cl.out)
  go_upto_region 7 with fail
  clear hcp MM
  generalize World.setCells _ G1 0 (Tr.cb Z) = w7 at *
  have MM := MN
  clear MN
  have h9 := MM.out
  simp only [List.set_cons_succ, List.set_cons_zero] at h9
  replace MM := hidden h9
  clear h9
  clear t1 cl
  go_upto_region 8 with (first | (go_at_call 5; refine (DZ.out _ G1 k1 MM.out.m.bel (MM.out.m.r (G1, Tr.cb Z) (by simp)).1).mono ?_; rintro e w8 ⟨bL2, bR2, rfl, hm, hne⟩; replace MM := hidden (MM.out.two hm hne); clear hm hne DZ) | refine wpList_allocP rfl rfl ?_ | (refine wpList_storeL rfl 35 _ _ rfl rfl w8.heap.size 0 (pc sZ (.slice (some ⟨bL2, 0, none⟩) n n) (.slice (some ⟨bR2, 0, none⟩) n n)) (by rfl) (by rfl) (th_new w8 (pc sZ (.slice (some ⟨bL2, 0, none⟩) n n) (.slice (some ⟨bR2, 0, none⟩) n n)) rfl) (pc_i2 _ _ _) (pc_one _ _ _ _ _ _ _) ?_; replace MM := hidden (MM.out.newset (pcv zero4 zero4 zero4 zero4 zero4 zero4 zero4 zero4 zero4 (.slice none 0 0) (.slice none 0 0)) (pc sZ (.slice (some ⟨bL2, 0, none⟩) n n) (.slice (some ⟨bR2, 0, none⟩) n n)) 35 rfl); generalize World.setCells _ w8.heap.size 0 (pc sZ (.slice (some ⟨bL2, 0, none⟩) n n) (.slice (some ⟨bR2, 0, none⟩) n n)) = w9 at *; generalize w8.heap.size = Ty at *))
  go_upto_region 10 with (first | (refine wpList_loadG (by rfl) 28 _ rfl (w.heap.size) 0 (by rfl) Q1 _ (MM.out.m.r (w.heap.size, Q1) (by simp)).1 UW.out rfl I1.out ?_) | (go_at_call 4; refine (BX.out _ MM.out.m.bel).mono ?_; rintro e w10 ⟨G3, k3, rfl, hm⟩; replace MM := hidden (MM.out.one hm); clear hm) | (go_at_call 7; refine (CX.out _ G3 k3 (MM.out.m.r (G3, Tr.cb X) (by simp)).1).mono ?_; rintro e w11 ⟨rfl, hb⟩; replace MM := hidden (MM.out.keep hb); clear hb CX) | (go_at_call 6; refine (HZ.out _ G1 k1 (MM.out.m.r (G1, Tr.cb Z) (by simp)).1).mono ?_; rintro e w12 ⟨rfl, hb⟩; replace MM := hidden (MM.out.keep hb); clear hb HZ) | (go_at_call 7; refine (CZ.out _ G2 k2 (MM.out.m.r (G2, Tr.cb Z) (by simp)).1).mono ?_; rintro e w13 ⟨rfl, hb⟩; replace MM := hidden (MM.out.keep hb); clear hb CZ))
  go_upto_region 11 with (first | (refine wpList_load_mid rfl 35 _ rfl Tx 0 (by rfl) (pc sX (.slice (some ⟨bL, 0, none⟩) n n) (.slice (some ⟨bR, 0, none⟩) n n)) _ (MM.out.m.r (Tx, pc sX (.slice (some ⟨bL, 0, none⟩) n n) (.slice (some ⟨bR, 0, none⟩) n n)) (by simp)).1 UP.out rfl (pc_i _ _ _) ?_) | (go_at_call 8; refine (EX.out _ bL bR MM.out.m.bel (MM.out.m.r (bL, svs n (gl X)) (by simp)).1 (MM.out.m.r (bR, svs n (gr X)) (by simp)).1 (MM.out.m.r (bL, svs n (gl X)) (by simp)).2.2.2 (MM.out.m.r (bR, svs n (gr X)) (by simp)).2.2.2).mono ?_; rintro e w14 ⟨Gp, rfl, hm⟩; replace MM := hidden (MM.out.one hm); clear hm EX))
  go_upto_region 12 with (first | (refine wpList_load_mid rfl 35 _ rfl Ty 0 (by rfl) (pc sZ (.slice (some ⟨bL2, 0, none⟩) n n) (.slice (some ⟨bR2, 0, none⟩) n n)) _ (MM.out.m.r (Ty, pc sZ (.slice (some ⟨bL2, 0, none⟩) n n) (.slice (some ⟨bR2, 0, none⟩) n n)) (by simp)).1 UP.out rfl (pc_i _ _ _) ?_) | (go_at_call 8; refine (EZ.out _ bL2 bR2 MM.out.m.bel (MM.out.m.r (bL2, svs n (gl Z)) (by simp)).1 (MM.out.m.r (bR2, svs n (gr Z)) (by simp)).1 (MM.out.m.r (bL2, svs n (gl Z)) (by simp)).2.2.2 (MM.out.m.r (bR2, svs n (gr Z)) (by simp)).2.2.2).mono ?_; rintro e w15 ⟨Gq, rfl, hm⟩; replace MM := hidden (MM.out.one hm); clear hm EZ))
  go_upto_region 14 with (first | (refine wpList_loadG (by rfl) 28 _ rfl (w.heap.size) 0 (by rfl) Q1 _ (MM.out.m.r (w.heap.size, Q1) (by simp)).1 UW.out rfl I1.out ?_) | (go_at_call 4; refine (BX.out _ MM.out.m.bel).mono ?_; rintro e w16 ⟨G4, k4, rfl, hm⟩; replace MM := hidden (MM.out.one hm); clear hm) | (go_at_call 9; refine (SX.out _ Gp G4 N k4 (MM.out.m.r (Gp, Tr.cb X) (by simp)).1 (MM.out.m.r (G4, Tr.cb X) (by simp)).1).mono ?_; rintro e w17 ⟨rfl, hw⟩; subst hw; clear SX) | (go_at_call 9; refine (SZ.out _ Gq G2 N k2 (MM.out.m.r (Gq, Tr.cb Z) (by simp)).1 (MM.out.m.r (G2, Tr.cb Z) (by simp)).1).mono ?_; rintro e w18 ⟨rfl, hw⟩; subst hw; clear SZ))
  have h9 := MM.out.drop 12
  simp only [List.drop_succ_cons, List.drop_zero] at h9
  replace MM := hidden h9
  clear h9
  go_upto_region 15 with (first | (refine wpList_load_mid rfl 28 _ rfl (w.heap.size) 0 (by rfl) Q1 _ (MM.out.m.r (w.heap.size, Q1) (by simp)).1 UW.out rfl I1.out ?_) | (go_at_call 10; refine (WX.out _ MM.out.m.bel).mono ?_; rintro e w20 ⟨b1, c1, b2, c2, rfl, hm, hne⟩; replace MM := hidden (MM.out.two hm hne); clear hm hne WX) | refine wpList_allocP rfl rfl ?_ | (refine wpList_storeL rfl 35 _ _ rfl rfl w20.heap.size 0 (pc s (.slice (some ⟨b1, 0, none⟩) n c1) (.slice (some ⟨b2, 0, none⟩) n c2)) (by rfl) (by rfl) (th_new w20 (pc s (.slice (some ⟨b1, 0, none⟩) n c1) (.slice (some ⟨b2, 0, none⟩) n c2)) rfl) (pc_i2 _ _ _) (pc_one _ _ _ _ _ _ _) ?_; replace MM := hidden (MM.out.newset (pcv zero4 zero4 zero4 zero4 zero4 zero4 zero4 zero4 zero4 (.slice none 0 0) (.slice none 0 0)) (pc s (.slice (some ⟨b1, 0, none⟩) n c1) (.slice (some ⟨b2, 0, none⟩) n c2)) 35 rfl); generalize World.setCells _ w20.heap.size 0 (pc s (.slice (some ⟨b1, 0, none⟩) n c1) (.slice (some ⟨b2, 0, none⟩) n c2)) = w21 at *; generalize w20.heap.size = Tl at *))
  go_upto_region 16 with (first | (refine wpList_load_mid rfl 28 _ rfl (w.heap.size + 1) 0 (by rfl) Q2 _ (MM.out.m.r (w.heap.size + 1, Q2) (by simp)).1 UW.out rfl I2.out ?_) | (go_at_call 10; refine (WZ.out _ MM.out.m.bel).mono ?_; rintro e w22 ⟨b3, c3, b4, c4, rfl, hm, hne⟩; replace MM := hidden (MM.out.two hm hne); clear hm hne WZ) | refine wpList_allocP rfl rfl ?_ | (refine wpList_storeL rfl 35 _ _ rfl rfl w22.heap.size 0 (pc s' (.slice (some ⟨b3, 0, none⟩) n c3) (.slice (some ⟨b4, 0, none⟩) n c4)) (by rfl) (by rfl) (th_new w22 (pc s' (.slice (some ⟨b3, 0, none⟩) n c3) (.slice (some ⟨b4, 0, none⟩) n c4)) rfl) (pc_i2 _ _ _) (pc_one _ _ _ _ _ _ _) ?_; replace MM := hidden (MM.out.newset (pcv zero4 zero4 zero4 zero4 zero4 zero4 zero4 zero4 zero4 (.slice none 0 0) (.slice none 0 0)) (pc s' (.slice (some ⟨b3, 0, none⟩) n c3) (.slice (some ⟨b4, 0, none⟩) n c4)) 35 rfl); generalize World.setCells _ w22.heap.size 0 (pc s' (.slice (some ⟨b3, 0, none⟩) n c3) (.slice (some ⟨b4, 0, none⟩) n c4)) = w23 at *; generalize w22.heap.size = Tm at *))
  go_upto_region 17 with (first | (refine wpList_load_mid rfl 35 _ rfl Tl 0 (by rfl) (pc s (.slice (some ⟨b1, 0, none⟩) n c1) (.slice (some ⟨b2, 0, none⟩) n c2)) _ (MM.out.m.r (Tl, pc s (.slice (some ⟨b1, 0, none⟩) n c1) (.slice (some ⟨b2, 0, none⟩) n c2)) (by simp)).1 UP.out rfl (pc_i _ _ _) ?_) | (go_at_call 8; refine (K1.out _ MM.out.m.bel b1 b2 c1 c2 (MM.out.m.r (b1, svs n l) (by simp)).1 (MM.out.m.r (b2, svs n r) (by simp)).1 (MM.out.m.r (b1, svs n l) (by simp)).2.2.2 (MM.out.m.r (b2, svs n r) (by simp)).2.2.2).mono ?_; rintro e w24 ⟨Ge, rfl, hm⟩; replace MM := hidden (MM.out.one hm); clear hm K1))
  have y1 := (MM.out.m.r (Tl, pc s (.slice (some ⟨b1, 0, none⟩) n c1) (.slice (some ⟨b2, 0, none⟩) n c2)) (by simp)).1 28 _ rfl
  have y2 := (MM.out.m.r (Tm, pc s' (.slice (some ⟨b3, 0, none⟩) n c3) (.slice (some ⟨b4, 0, none⟩) n c4)) (by simp)).1 28 _ rfl
  simp only [Nat.zero_add] at y1 y2
  have th : w24.there b1 0 (svs n l').length := by have h9 := (MM.out.m.r (b1, svs n l) (by simp)).2.1; rw [svs_len] at h9 ⊢; exact h9
  have hcp := copy_lines (ty := 3) (c1 := c1) (c2 := c3) (MM.out.m.r (b3, svs n l') (by simp)).1 th
  have MN := hidden (MM.out.copy 5 (svs n l') rfl (by rw [svs_len, svs_len]))
  go_upto_region 18 with fail
  clear hcp y1 y2 th MM
  generalize World.setCells _ b1 0 (svs n l') = w25 at *
  have MM := MN
  clear MN
  have h9 := MM.out
  simp only [List.set_cons_succ, List.set_cons_zero] at h9
  replace MM := hidden h9
  clear h9
  have y1 := (MM.out.m.r (Tl, pc s (.slice (some ⟨b1, 0, none⟩) n c1) (.slice (some ⟨b2, 0, none⟩) n c2)) (by simp)).1 29 _ rfl
  have y2 := (MM.out.m.r (Tm, pc s' (.slice (some ⟨b3, 0, none⟩) n c3) (.slice (some ⟨b4, 0, none⟩) n c4)) (by simp)).1 29 _ rfl
  simp only [Nat.zero_add] at y1 y2
  have th : w25.there b2 0 (svs n r').length := by have h9 := (MM.out.m.r (b2, svs n r) (by simp)).2.1; rw [svs_len] at h9 ⊢; exact h9
  have hcp := copy_lines (ty := 3) (c1 := c2) (c2 := c4) (MM.out.m.r (b4, svs n r') (by simp)).1 th
  have MN := hidden (MM.out.copy 6 (svs n r') rfl (by rw [svs_len, svs_len]))
  go_upto_region 19 with fail
  clear hcp y1 y2 th MM
  generalize World.setCells _ b2 0 (svs n r') = w26 at *
  have MM := MN
  clear MN
  have h9 := MM.out
  simp only [List.set_cons_succ, List.set_cons_zero] at h9
  replace MM := hidden h9
  clear h9
  refine wa19 _ Tl Tm s s' (.slice (some ⟨b1, 0, none⟩) n c1) (.slice (some ⟨b2, 0, none⟩) n c2) (.slice (some ⟨b3, 0, none⟩) n c3) (.slice (some ⟨b4, 0, none⟩) n c4) _ _ _ _ _ _ _ _ _ _ _ _ _ _ _ _ _ _ _ _ _ _ _ _ _ _ _ _ _ _ _ _ _ _ _ _ _ _ _ _ _ _ _ _ _ _ _ _ _ _ _ _ _ _ _ _ _ _ _ _ _ _ _ _ _ _ _ _ _ _ _ _ _ _ _ _ _ _ _ _ _ _ _ _ _ _ _ _ _ _ _ _ _ _ _ _ _ _ _ _ _ _ _ _ _ _ _ _ _ _ _ _ _ _ _ _ _ _ _ _ _ _ _ _ _ _ _ _ _ _ _ _ _ _ _ _ _ _ _ _ _ _ _ _ _ _ _ _ _ _ _ _ _ _ _ _ _ _ _ _ _ _ _ _ _ _ _ _ _ _ _ _ _ _ _ _ _ _ _ _ _ _ _ _ _ _ _ _ _ _ _ _ _ _ _ _ _ _ _ _ _ _ _ _ _ _ _ _ _ _ _ _ _ _ _ _ _ _ w _ (MM.out.ne 4 1 rfl rfl (by decide)) (MM.out.m.r (Tl, pc s (.slice (some ⟨b1, 0, none⟩) n c1) (.slice (some ⟨b2, 0, none⟩) n c2)) (by simp)).1 (MM.out.m.sub (by simp)) (hidden ?_)
  intro w27 hg hm
  have MN := MM.out.upd 1 rfl hg (hm.r (Tm, pc s (.slice (some ⟨b3, 0, none⟩) n c3) (.slice (some ⟨b4, 0, none⟩) n c4)) (by simp)).1 (hm.r (Tm, pc s (.slice (some ⟨b3, 0, none⟩) n c3) (.slice (some ⟨b4, 0, none⟩) n c4)) (by simp)).2.1
  simp only [List.set_cons_succ, List.set_cons_zero] at MN
  replace MM := hidden MN
  clear MN hg hm
  go_upto_region 21 with (first | (refine wpList_load_mid rfl 35 _ rfl Tl 0 (by rfl) (pc s (.slice (some ⟨b1, 0, none⟩) n c1) (.slice (some ⟨b2, 0, none⟩) n c2)) _ (MM.out.m.r (Tl, pc s (.slice (some ⟨b1, 0, none⟩) n c1) (.slice (some ⟨b2, 0, none⟩) n c2)) (by simp)).1 UP.out rfl (pc_i _ _ _) ?_) | (go_at_call 8; refine (K2.out _ MM.out.m.bel b1 b2 c1 c2 (MM.out.m.r (b1, svs n l') (by simp)).1 (MM.out.m.r (b2, svs n r') (by simp)).1 (MM.out.m.r (b1, svs n l') (by simp)).2.2.2 (MM.out.m.r (b2, svs n r') (by simp)).2.2.2).mono ?_; rintro e w28 ⟨Gp2, rfl, hm⟩; replace MM := hidden (MM.out.one hm); clear hm))
  go_upto_region 22 with (first | (refine wpList_load_mid rfl 35 _ rfl Tm 0 (by rfl) (pc s (.slice (some ⟨b3, 0, none⟩) n c3) (.slice (some ⟨b4, 0, none⟩) n c4)) _ (MM.out.m.r (Tm, pc s (.slice (some ⟨b3, 0, none⟩) n c3) (.slice (some ⟨b4, 0, none⟩) n c4)) (by simp)).1 UP.out rfl (pc_i _ _ _) ?_) | (go_at_call 8; refine (K2.out _ MM.out.m.bel b3 b4 c3 c4 (MM.out.m.r (b3, svs n l') (by simp)).1 (MM.out.m.r (b4, svs n r') (by simp)).1 (MM.out.m.r (b3, svs n l') (by simp)).2.2.2 (MM.out.m.r (b4, svs n r') (by simp)).2.2.2).mono ?_; rintro e w29 ⟨Gq2, rfl, hm⟩; replace MM := hidden (MM.out.one hm); clear hm K2))
  have h9 := MM.out.take 2
  simp only [List.take_succ_cons, List.take_zero] at h9
  replace MM := hidden h9
  clear h9
  have BB := hidden MM.out.m.bel
  go_upto_region 23 with (first | (refine wpList_app_new rfl _ _ rfl rfl bs BP cB K HK.out rfl (HBY.out _ MM.out.m.bel) (by have := LB.out; have := HK.out; omega) ?_; intro v5 w30 ho5 hb5))
  by_cases hK0 : K = 0
  · obtain ⟨P5, c5, rfl, hB5⟩ := own_byK ho5 HK.out
    subst hK0
    have GB := hidden hB5
    replace MM := hidden (MM.out.keep hb5)
    clear ho5 hb5 hB5
    obtain ⟨M6, hM6⟩ : ∃ M, (Tr.vn 0 ++ bs).length = M := ⟨_, rfl⟩
    have HM6 := hidden hM6
    clear hM6
    go_upto_region 24 with (first | (go_at_call 11; refine (ap_new P5 c5 0 bs _ GB.out HK.out (by have := LB.out; have := HK.out; omega) M6 HM6.out).mono ?_; rintro e w31 ⟨G6, k6, rfl, hm⟩; replace MM := hidden (MM.out.one hm); replace GB := hidden (GB.out.keep hm.bel); clear hm))
    go_wp2_with fail
    refine wp_loop_rounds 1 ?_
    rw [rounds_succ]
    obtain ⟨M7, hM7⟩ : ∃ M, (Tr.vn 0 ++ bs).length = M := ⟨_, rfl⟩
    have HM7 := hidden hM7
    clear hM7
    have J1 := hidden (fun x (h : Below w.heap.size w x) => li_new BP cB 0 bs x (HBY.out x h) HK.out (by have := LB.out; have := HK.out; omega) M6 HM6.out)
    have J2 := hidden (fun x (h : Tr.By x P5 c5 bs) => li_new P5 c5 0 bs x h HK.out (by have := LB.out; have := HK.out; omega) M7 HM7.out)
    have S6 := hidden (fun (x : World) (G H c d : Nat) (h1 : x.rangeAt G 0 (Tr.cb (Tr.vn 0 ++ bs))) (h2 : x.rangeAt H 0 (Tr.cb (Tr.vn 0 ++ bs))) => same_new (c := c) (d := d) (Tr.vn 0 ++ bs) HM6.out h1 h2)
    have S7 := hidden (fun (x : World) (G H c d : Nat) (h1 : x.rangeAt G 0 (Tr.cb (Tr.vn 0 ++ bs))) (h2 : x.rangeAt H 0 (Tr.cb (Tr.vn 0 ++ bs))) => same_new (c := c) (d := d) (Tr.vn 0 ++ bs) HM7.out h1 h2)
    go_upto_region 29 with (first | (go_at_call 11; refine (ap_new P5 c5 0 bs _ GB.out HK.out (by have := LB.out; have := HK.out; omega) M7 HM7.out).mono ?_; rintro e w40 ⟨G7, k7, rfl, hm⟩; replace MM := hidden (MM.out.one hm); replace GB := hidden (GB.out.keep hm.bel); clear hm))
    go_wp2_with (first | (go_at_call 9; refine (SY.out _ Gp2 Gq2 N N (MM.out.m.r (Gp2, Tr.cb Y) (by simp)).1 (MM.out.m.r (Gq2, Tr.cb Y) (by simp)).1).mono ?_; rintro e w41 ⟨rfl, hw⟩; subst hw; clear SY) | (go_at_call 12; refine (J1.out _ MM.out.m.bel).mono ?_; rintro e w42 ⟨G8, k8, rfl, hm⟩; replace MM := hidden (MM.out.one hm); replace GB := hidden (GB.out.keep hm.bel); clear hm J1) | (go_at_call 9; refine (S6.out _ G6 G8 k6 k8 (MM.out.m.r (G6, Tr.cb (Tr.vn 0 ++ bs)) (by simp)).1 (MM.out.m.r (G8, Tr.cb (Tr.vn 0 ++ bs)) (by simp)).1).mono ?_; rintro e w43 ⟨rfl, hw⟩; subst hw; clear S6) | (go_at_call 12; refine (J2.out _ GB.out).mono ?_; rintro e w44 ⟨G9, k9, rfl, hm⟩; replace MM := hidden (MM.out.one hm); clear hm J2) | (go_at_call 9; refine (S7.out _ G7 G9 k7 k9 (MM.out.m.r (G7, Tr.cb (Tr.vn 0 ++ bs)) (by simp)).1 (MM.out.m.r (G9, Tr.cb (Tr.vn 0 ++ bs)) (by simp)).1).mono ?_; rintro e w45 ⟨rfl, hw⟩; subst hw; clear S7))
    refine bodyPost_ret (v := .bool true) (by simp [results, Tryd.results3, go_sem]) rfl ⟨rfl, MM.out.m.bel⟩
  · obtain ⟨Gg, kg, rfl, -, -, -, -⟩ := Tr.own_some ho5 (by omega)
    replace MM := hidden (MM.out.one (own_mw hb5 ho5 (by rw [Tr.cb_len, HK.out, Nat.mul_one])))
    clear ho5 hb5
    obtain ⟨M6, hM6⟩ : ∃ M, (Tr.vn K ++ bs).length = M := ⟨_, rfl⟩
    have HM6 := hidden hM6
    clear hM6
    go_upto_region 24 with (first | (go_at_call 11; refine (ap_new (some ⟨Gg, 0, none⟩) kg K bs _ (by_rangeX (MM.out.m.r (Gg, Tr.cb bs) (by simp)).1) HK.out (by have := LB.out; have := HK.out; omega) M6 HM6.out).mono ?_; rintro e w31 ⟨G6, k6, rfl, hm⟩; replace MM := hidden (MM.out.one hm); clear hm))
    go_wp2_with fail
    go_loopw [20] (fun iv w' => ∃ (i : Nat) (ys : List UInt8), i ≤ K ∧ iv = .int .i64 (i : Int) ∧ Hid (ys.length = K) ∧ Hid (Mv w [(G6, Tr.cb (Tr.vn K ++ bs)), (Gg, Tr.cb ys), (Gq2, Tr.cb Y), (Gp2, Tr.cb Y)] w')) (fun i _ => K - (intOf i).toNat)
    case atStart => exact ⟨0, bs, by omega, rfl, HK, MM⟩
    case round =>
      clear MM
      obtain ⟨i, ys, hi, rfl, hy, MM⟩ := hrel
      by_cases hin : i < K
      · have i0 : (0 : Int) ≤ (i : Int) := by omega
        have i1 : (i : Int) < (K : Int) := by omega
        have w9 : IntKind.i64.wrap ((i : Int) + 1) = (i : Int) + 1 := IntWalk.i64_in _ (by have := LB.out; have := HK.out; omega)
        have hiy : i < ys.length := by rw [hy.out]; exact hin
        have c0 := (MM.out.m.r (Gg, Tr.cb ys) (by simp)).1 i _ (Tr.cb_at ys i hiy)
        have f0 := ((MM.out.m.r (Gg, Tr.cb ys) (by simp)).2.1 i (by rw [Tr.cb_len]; exact hiy)).2
        rw [Nat.zero_add] at c0 f0
        obtain ⟨y, hyy⟩ := u8_some ((ys[i].toNat : Int) + 1)
        generalize (ys[i].toNat : Int) = z at c0 hyy
        have NM := MM.out.cell 1 (i := i) (.int .u8 (y.toNat : Int)) rfl (by rw [Tr.cb_len]; exact hiy)
        simp only [List.set_cons_succ, List.set_cons_zero, ← cb_set] at NM
        have NN := hidden NM
        have NY : Hid ((ys.set i y).length = K) := hidden (by rw [List.length_set]; exact hy.out)
        clear NM hiy MM hy
        go_wp2_with fail
        go_roundw
        case rel => exact ⟨i + 1, ys.set i y, by omega, by simp, NY, NN⟩
        case measure => simp [intOf]; omega
      · have hii : i = K := by omega
        have lq : ¬ (i : Int) < (K : Int) := by omega
        clear hin hi hii
        obtain ⟨M7, hM7⟩ : ∃ M, (Tr.vn K ++ ys).length = M := ⟨_, rfl⟩
        have HM7 := hidden hM7
        clear hM7
        have J1 := hidden (fun x (h : Below w.heap.size w x) => li_new BP cB K bs x (HBY.out x h) HK.out (by have := LB.out; have := HK.out; omega) M6 HM6.out)
        have J2 := hidden (fun x (h : Tr.By x (some ⟨Gg, 0, none⟩) kg ys) => li_new (some ⟨Gg, 0, none⟩) kg K ys x h hy.out (by have := LB.out; have := HK.out; omega) M7 HM7.out)
        have S6 := hidden (fun (x : World) (G H c d : Nat) (h1 : x.rangeAt G 0 (Tr.cb (Tr.vn K ++ bs))) (h2 : x.rangeAt H 0 (Tr.cb (Tr.vn K ++ bs))) => same_new (c := c) (d := d) (Tr.vn K ++ bs) HM6.out h1 h2)
        have S7 := hidden (fun (x : World) (G H c d : Nat) (h1 : x.rangeAt G 0 (Tr.cb (Tr.vn K ++ ys))) (h2 : x.rangeAt H 0 (Tr.cb (Tr.vn K ++ ys))) => same_new (c := c) (d := d) (Tr.vn K ++ ys) HM7.out h1 h2)
        go_upto_region 29 with (first | (go_at_call 11; refine (ap_new (some ⟨Gg, 0, none⟩) kg K ys _ (by_rangeX (MM.out.m.r (Gg, Tr.cb ys) (by simp)).1) hy.out (by have := LB.out; have := HK.out; omega) M7 HM7.out).mono ?_; rintro e w40 ⟨G7, k7, rfl, hm⟩; replace MM := hidden (MM.out.one hm); clear hm))
        go_wp2_with (first | (go_at_call 9; refine (SY.out _ Gp2 Gq2 N N (MM.out.m.r (Gp2, Tr.cb Y) (by simp)).1 (MM.out.m.r (Gq2, Tr.cb Y) (by simp)).1).mono ?_; rintro e w41 ⟨rfl, hw⟩; subst hw; clear SY) | (go_at_call 12; refine (J1.out _ MM.out.m.bel).mono ?_; rintro e w42 ⟨G8, k8, rfl, hm⟩; replace MM := hidden (MM.out.one hm); clear hm J1) | (go_at_call 9; refine (S6.out _ G6 G8 k6 k8 (MM.out.m.r (G6, Tr.cb (Tr.vn K ++ bs)) (by simp)).1 (MM.out.m.r (G8, Tr.cb (Tr.vn K ++ bs)) (by simp)).1).mono ?_; rintro e w43 ⟨rfl, hw⟩; subst hw; clear S6) | (go_at_call 12; refine (J2.out _ (by_rangeX (MM.out.m.r (Gg, Tr.cb ys) (by simp)).1)).mono ?_; rintro e w44 ⟨G9, k9, rfl, hm⟩; replace MM := hidden (MM.out.one hm); clear hm J2) | (go_at_call 9; refine (S7.out _ G7 G9 k7 k9 (MM.out.m.r (G7, Tr.cb (Tr.vn K ++ ys)) (by simp)).1 (MM.out.m.r (G9, Tr.cb (Tr.vn K ++ ys)) (by simp)).1).mono ?_; rintro e w45 ⟨rfl, hw⟩; subst hw; clear S7))
        refine bodyPost_ret (v := .bool true) (by simp [results, Tryd.results3, go_sem]) rfl ⟨rfl, MM.out.m.bel⟩
end Go.Proofs.YthkfjggogcmdmaaDoor
namespace Go.Proofs.YthkfjggogcmdmaaDoor
open Go.RowKit
set_option linter.unusedVariables false

set_option maxRecDepth 100000 in
set_option maxHeartbeats 64000000 in
theorem again_0 (s l r s' l' r' : Nat → E4) (LP RP LP' RP' : Option Addr) (cL cR cL' cR' : Nat) (bs : List UInt8) (BP : Option Addr) (cB : Nat) (w : World) (hT : Tb w) (os : ∀ k, k < 9 → (s k).ok) (os' : ∀ k, k < 9 → (s' k).ok) (hb : Tr.By w BP cB bs) (lb : bs.length ≤ 140737488351232) :
    Calls Tryd.prog 3 #[.agg (pc s (.slice LP 0 cL) (.slice RP 0 cR)).toArray, .agg (pc s' (.slice LP' 0 cL') (.slice RP' 0 cR')).toArray, .slice BP bs.length cB] w fun e w' => e = .returned (.bool true) ∧ Below w.heap.size w w' := by
  have hn : 0 ≤ 10 := by omega
  have ol : ∀ k, k < 0 → (l k).ok := fun k hk => absurd hk (by omega)
  have or : ∀ k, k < 0 → (r k).ok := fun k hk => absurd hk (by omega)
  have ol' : ∀ k, k < 0 → (l' k).ok := fun k hk => absurd hk (by omega)
  have or' : ∀ k, k < 0 → (r' k).ok := fun k hk => absurd hk (by omega)
  have hL : Lm w LP 0 l := ⟨0, 0, fun h => absurd h (by omega), fun h => absurd h (by omega)⟩
  have hR : Lm w RP 0 r := ⟨0, 0, fun h => absurd h (by omega), fun h => absurd h (by omega)⟩
  have hL' : Lm w LP' 0 l' := ⟨0, 0, fun h => absurd h (by omega), fun h => absurd h (by omega)⟩
  have hR' : Lm w RP' 0 r' := ⟨0, 0, fun h => absurd h (by omega), fun h => absurd h (by omega)⟩
  obtain ⟨Q1, hQ1⟩ : ∃ P, P = pc s (.slice LP 0 cL) (.slice RP 0 cR) := ⟨_, rfl⟩
  obtain ⟨Q2, hQ2⟩ : ∃ P, P = pc s' (.slice LP' 0 cL') (.slice RP' 0 cR') := ⟨_, rfl⟩
  have a28 : Hid (Q1[28]? = some (.slice LP 0 cL) ∧ Q1[29]? = some (.slice RP 0 cR) ∧ Q2[28]? = some (.slice LP' 0 cL') ∧ Q2[29]? = some (.slice RP' 0 cR')) := hidden (by rw [hQ1, hQ2]; exact ⟨rfl, rfl, rfl, rfl⟩)
  have QL : Hid (Q1.length = 38 ∧ Q2.length = 38) := hidden (by rw [hQ1, hQ2]; exact ⟨rfl, rfl⟩)
  obtain ⟨N, hN⟩ : ∃ N, 32 * (9 + 2 * 0) = N := ⟨_, rfl⟩
  have NL : Hid (N ≤ 928) := hidden (by omega)
  obtain ⟨X, hX⟩ : ∃ X, pe 0 s l r = X := ⟨_, rfl⟩
  have LX : Hid (X.length = N) := hidden (by rw [← hX, pe_len, hN])
  obtain ⟨Z, hZ⟩ : ∃ X, pe 0 s' l' r' = X := ⟨_, rfl⟩
  have LZ : Hid (Z.length = N) := hidden (by rw [← hZ, pe_len, hN])
  obtain ⟨Y, hY⟩ : ∃ X, pe 0 s l' r' = X := ⟨_, rfl⟩
  have LY : Hid (Y.length = N) := hidden (by rw [← hY, pe_len, hN])
  have BX := hidden (fun x (h : Below w.heap.size w x) => bytes_new s l r LP RP 0 cL cR x hn os ol or (hL.keep h) (hR.keep h))
  rw [hX, hN, ← hQ1] at BX
  have WX := hidden (fun x => line_zero s l r LP RP cL cR x)
  rw [← hQ1] at WX
  have okX : DOk X 0 := by rw [← hX]; exact pe_dok 0 s l r hn
  have DX := hidden (fun x (G c : Nat) (h : Below w.heap.size w x) (hr : x.rangeAt G 0 (Tr.cb X)) => dec_new G c 0 X x (hT.keep h) hr okX)
  rw [hN] at DX
  have EX := hidden (fun x (bL bR : Nat) (h : Below w.heap.size w x) (h1 : x.rangeAt bL 0 (svs 0 (gl X))) (h2 : x.rangeAt bR 0 (svs 0 (gr X))) (l1 : bL < x.heap.size) (l2 : bR < x.heap.size) => enc_new (gs X 0) (gl X) (gr X) (some ⟨bL, 0, none⟩) (some ⟨bR, 0, none⟩) 0 0 0 x (hT.keep h) hn (fun k _ => gs_ok _ _ _) (fun k _ => gv_ok _ _) (fun k _ => gv_ok _ _) (lm_range h1) (lm_range h2) (fun a ha => by obtain rfl := Option.some.inj ha; exact l1) (fun a ha => by obtain rfl := Option.some.inj ha; exact l2))
  rw [pe_g X 0 okX.2.1 okX.2.2, hN] at EX
  obtain ⟨sX, hsX⟩ : ∃ t, gs X 0 = t := ⟨_, rfl⟩
  rw [hsX] at DX EX
  have CX := hidden (fun (x : World) (G c : Nat) (h : x.rangeAt G 0 (Tr.cb X)) => rhex_new (c := c) X LX.out NL.out h)
  have SX := hidden (fun (x : World) (G H c d : Nat) (h1 : x.rangeAt G 0 (Tr.cb X)) (h2 : x.rangeAt H 0 (Tr.cb X)) => same_new (c := c) (d := d) X LX.out h1 h2)
  have HX := hidden (fun (x : World) (G c : Nat) (h : x.rangeAt G 0 (Tr.cb X)) => hex_new (c := c) X LX.out NL.out h)
  have BZ := hidden (fun x (h : Below w.heap.size w x) => bytes_new s' l' r' LP' RP' 0 cL' cR' x hn os' ol' or' (hL'.keep h) (hR'.keep h))
  rw [hZ, hN, ← hQ2] at BZ
  have WZ := hidden (fun x => line_zero s' l' r' LP' RP' cL' cR' x)
  rw [← hQ2] at WZ
  have okZ : DOk Z 0 := by rw [← hZ]; exact pe_dok 0 s' l' r' hn
  have DZ := hidden (fun x (G c : Nat) (h : Below w.heap.size w x) (hr : x.rangeAt G 0 (Tr.cb Z)) => dec_new G c 0 Z x (hT.keep h) hr okZ)
  rw [hN] at DZ
  have EZ := hidden (fun x (bL bR : Nat) (h : Below w.heap.size w x) (h1 : x.rangeAt bL 0 (svs 0 (gl Z))) (h2 : x.rangeAt bR 0 (svs 0 (gr Z))) (l1 : bL < x.heap.size) (l2 : bR < x.heap.size) => enc_new (gs Z 0) (gl Z) (gr Z) (some ⟨bL, 0, none⟩) (some ⟨bR, 0, none⟩) 0 0 0 x (hT.keep h) hn (fun k _ => gs_ok _ _ _) (fun k _ => gv_ok _ _) (fun k _ => gv_ok _ _) (lm_range h1) (lm_range h2) (fun a ha => by obtain rfl := Option.some.inj ha; exact l1) (fun a ha => by obtain rfl := Option.some.inj ha; exact l2))
  rw [pe_g Z 0 okZ.2.1 okZ.2.2, hN] at EZ
  obtain ⟨sZ, hsZ⟩ : ∃ t, gs Z 0 = t := ⟨_, rfl⟩
  rw [hsZ] at DZ EZ
  have CZ := hidden (fun (x : World) (G c : Nat) (h : x.rangeAt G 0 (Tr.cb Z)) => rhex_new (c := c) Z LZ.out NL.out h)
  have SZ := hidden (fun (x : World) (G H c d : Nat) (h1 : x.rangeAt G 0 (Tr.cb Z)) (h2 : x.rangeAt H 0 (Tr.cb Z)) => same_new (c := c) (d := d) Z LZ.out h1 h2)
  have HZ := hidden (fun (x : World) (G c : Nat) (h : x.rangeAt G 0 (Tr.cb Z)) => hex_new (c := c) Z LZ.out NL.out h)
  have SY := hidden (fun (x : World) (G H c d : Nat) (h1 : x.rangeAt G 0 (Tr.cb Y)) (h2 : x.rangeAt H 0 (Tr.cb Y)) => same_new (c := c) (d := d) Y LY.out h1 h2)
  have K1 := hidden (fun x (h : Below w.heap.size w x) P1 P2 c1 c2 (l1 : ∀ a, P1 = some a → a.block < x.heap.size) (l2 : ∀ a, P2 = some a → a.block < x.heap.size) => enc_new s l r P1 P2 0 c1 c2 x (hT.keep h) hn os ol or ⟨0, 0, fun h => absurd h (by omega), fun h => absurd h (by omega)⟩ ⟨0, 0, fun h => absurd h (by omega), fun h => absurd h (by omega)⟩ l1 l2)
  rw [hX, hN] at K1
  have K2 := hidden (fun x (h : Below w.heap.size w x) P1 P2 c1 c2 (l1 : ∀ a, P1 = some a → a.block < x.heap.size) (l2 : ∀ a, P2 = some a → a.block < x.heap.size) => enc_new s l' r' P1 P2 0 c1 c2 x (hT.keep h) hn os ol' or' ⟨0, 0, fun h => absurd h (by omega), fun h => absurd h (by omega)⟩ ⟨0, 0, fun h => absurd h (by omega), fun h => absurd h (by omega)⟩ l1 l2)
  rw [hY, hN] at K2
  have HBY := hidden (fun x (h : Below w.heap.size w x) => hb.keep h)
  have LB := hidden lb
  obtain ⟨K, hK⟩ : ∃ K, bs.length = K := ⟨_, rfl⟩
  have HK := hidden hK
  rw [hK]
  clear hK
  have UW : Hid (Tryd.prog.underlying 28 = _) := hidden Tryd.underlying28
  have UP : Hid (Tryd.prog.underlying 35 = _) := hidden Tryd.underlying35
  have I1 : Hid ((Tryd.prog.info? 28).map (·.size) = some Q1.length) := hidden (by rw [QL.out.1]; exact wpinfo)
  have I2 : Hid ((Tryd.prog.info? 28).map (·.size) = some Q2.length) := hidden (by rw [QL.out.2]; exact wpinfo)
  rw [← hQ1, ← hQ2]
  have MM := hidden (((Mv.start w).new Q1 28).new Q2 28)
  rw [World.size_alloc] at MM
  clear hQ1 hQ2 hT hn os os' ol or ol' or' hL hR hL' hR' hb lb hX hZ hY okX okZ hsX hsZ
  go_enter Tryd.func3, Tryd.ntmps3
  go_upto_region 1 with fail
  generalize (w.alloc (.cells Q1.toArray 28)).alloc (.cells Q2.toArray 28) = W at *
  have x0 := (MM.out.m.r (w.heap.size, Q1) (by simp)).1 28 _ a28.out.1
  have x1 := (MM.out.m.r (w.heap.size, Q1) (by simp)).1 29 _ a28.out.2.1
  have x2 := (MM.out.m.r (w.heap.size + 1, Q2) (by simp)).1 28 _ a28.out.2.2.1
  have x3 := (MM.out.m.r (w.heap.size + 1, Q2) (by simp)).1 29 _ a28.out.2.2.2
  simp only [Nat.zero_add] at x0 x1 x2 x3
  go_upto_region 3 with fail
  clear x0 x1 x2 x3
  refine wa3 _ (w.heap.size) (w.heap.size + 1) N Q1 Q2 (Tr.cb X) (Tr.cb Z) w _ _ _ _ _ _ _ _ _ _ _ _ _ _ _ _ _ _ _ _ _ _ _ _ _ _ _ _ _ _ _ _ _ _ _ _ _ _ _ _ _ _ _ _ _ _ _ _ _ _ _ _ _ _ _ _ _ _ _ _ _ _ _ _ _ _ _ _ _ _ _ _ _ _ _ _ _ _ _ _ _ _ _ _ _ _ _ _ _ _ _ _ _ _ _ _ _ _ _ _ _ _ _ _ _ _ _ _ _ _ _ _ _ _ _ _ _ _ _ _ _ _ _ _ _ _ _ _ _ _ _ _ _ _ _ _ _ _ _ _ _ _ _ _ _ _ _ _ _ _ _ _ _ _ _ _ _ _ _ _ _ _ _ _ _ _ _ _ _ _ _ _ _ _ _ _ _ _ _ _ _ _ _ _ _ _ _ _ _ _ _ _ _ _ _ _ _ _ _ _ _ _ _ _ _ _ _ _ _ _ _ _ _ _ _ _ _ _ _ W (MM.out.m.r (w.heap.size, Q1) (by simp)).1 (MM.out.m.r (w.heap.size + 1, Q2) (by simp)).1 QL.out.1 QL.out.2 MM.out (hidden (fun x hx => BX.out x (bl_trans MM.out.m.bel hx))) (hidden (fun x hx => BZ.out x (bl_trans MM.out.m.bel hx))) (hidden ?_)
  intro G1 k1 G2 k2 w3 hM hb3
  replace MM := hidden hM
  clear hM hb3
  go_upto_region 5 with (first | (go_at_call 5; refine (DX.out _ G1 k1 MM.out.m.bel (MM.out.m.r (G1, Tr.cb X) (by simp)).1).mono ?_; rintro e w4 ⟨bL, bR, rfl, hm, hne⟩; replace MM := hidden (MM.out.two hm hne); clear hm hne DX) | refine wpList_allocP rfl rfl ?_ | (refine wpList_storeL rfl 35 _ _ rfl rfl w4.heap.size 0 (pc sX (.slice (some ⟨bL, 0, none⟩) 0 0) (.slice (some ⟨bR, 0, none⟩) 0 0)) (by rfl) (by rfl) (th_new w4 (pc sX (.slice (some ⟨bL, 0, none⟩) 0 0) (.slice (some ⟨bR, 0, none⟩) 0 0)) rfl) (pc_i2 _ _ _) (pc_one _ _ _ _ _ _ _) ?_; replace MM := hidden (MM.out.newset (pcv zero4 zero4 zero4 zero4 zero4 zero4 zero4 zero4 zero4 (.slice none 0 0) (.slice none 0 0)) (pc sX (.slice (some ⟨bL, 0, none⟩) 0 0) (.slice (some ⟨bR, 0, none⟩) 0 0)) 35 rfl); generalize World.setCells _ w4.heap.size 0 (pc sX (.slice (some ⟨bL, 0, none⟩) 0 0) (.slice (some ⟨bR, 0, none⟩) 0 0)) = w5 at *; generalize w4.heap.size = Tx at *))
  go_upto_region 6 with (first | (go_at_call 6; refine (HX.out _ G1 k1 (MM.out.m.r (G1, Tr.cb X) (by simp)).1).mono ?_; rintro e w6 ⟨rfl, hb⟩; replace MM := hidden (MM.out.keep hb); clear hb HX))
  have t1 : Hid (w6.there G1 0 N) := hidden (by have h9 := (MM.out.m.r (G1, Tr.cb X) (by simp)).2.1; rw [Tr.cb_len, LX.out] at h9; exact h9)
  have cl : Hid ((Tr.cb Z).length = (Tr.cb X).length) := hidden (by rw [Tr.cb_len, Tr.cb_len, LX.out, LZ.out])
  have hcp := copy_bytes (ty := 3) (c1 := k1) (c2 := k2) LZ.out (MM.out.m.r (G2, Tr.cb Z) (by simp)).1 t1.out
  have MN := hidden (MM.out.copy 4 (Tr.cb Z) rfl cl.out)
  go_upto_region 7 with fail
  clear hcp MM
  generalize World.setCells _ G1 0 (Tr.cb Z) = w7 at *
  have MM := MN
  clear MN
  have h9 := MM.out
  simp only [List.set_cons_succ, List.set_cons_zero] at h9
  replace MM := hidden h9
  clear h9
  clear t1 cl
  go_upto_region 8 with (first | (go_at_call 5; refine (DZ.out _ G1 k1 MM.out.m.bel (MM.out.m.r (G1, Tr.cb Z) (by simp)).1).mono ?_; rintro e w8 ⟨bL2, bR2, rfl, hm, hne⟩; replace MM := hidden (MM.out.two hm hne); clear hm hne DZ) | refine wpList_allocP rfl rfl ?_ | (refine wpList_storeL rfl 35 _ _ rfl rfl w8.heap.size 0 (pc sZ (.slice (some ⟨bL2, 0, none⟩) 0 0) (.slice (some ⟨bR2, 0, none⟩) 0 0)) (by rfl) (by rfl) (th_new w8 (pc sZ (.slice (some ⟨bL2, 0, none⟩) 0 0) (.slice (some ⟨bR2, 0, none⟩) 0 0)) rfl) (pc_i2 _ _ _) (pc_one _ _ _ _ _ _ _) ?_; replace MM := hidden (MM.out.newset (pcv zero4 zero4 zero4 zero4 zero4 zero4 zero4 zero4 zero4 (.slice none 0 0) (.slice none 0 0)) (pc sZ (.slice (some ⟨bL2, 0, none⟩) 0 0) (.slice (some ⟨bR2, 0, none⟩) 0 0)) 35 rfl); generalize World.setCells _ w8.heap.size 0 (pc sZ (.slice (some ⟨bL2, 0, none⟩) 0 0) (.slice (some ⟨bR2, 0, none⟩) 0 0)) = w9 at *; generalize w8.heap.size = Ty at *))
  go_upto_region 10 with (first | (refine wpList_loadG (by rfl) 28 _ rfl (w.heap.size) 0 (by rfl) Q1 _ (MM.out.m.r (w.heap.size, Q1) (by simp)).1 UW.out rfl I1.out ?_) | (go_at_call 4; refine (BX.out _ MM.out.m.bel).mono ?_; rintro e w10 ⟨G3, k3, rfl, hm⟩; replace MM := hidden (MM.out.one hm); clear hm) | (go_at_call 7; refine (CX.out _ G3 k3 (MM.out.m.r (G3, Tr.cb X) (by simp)).1).mono ?_; rintro e w11 ⟨rfl, hb⟩; replace MM := hidden (MM.out.keep hb); clear hb CX) | (go_at_call 6; refine (HZ.out _ G1 k1 (MM.out.m.r (G1, Tr.cb Z) (by simp)).1).mono ?_; rintro e w12 ⟨rfl, hb⟩; replace MM := hidden (MM.out.keep hb); clear hb HZ) | (go_at_call 7; refine (CZ.out _ G2 k2 (MM.out.m.r (G2, Tr.cb Z) (by simp)).1).mono ?_; rintro e w13 ⟨rfl, hb⟩; replace MM := hidden (MM.out.keep hb); clear hb CZ))
  go_upto_region 11 with (first | (refine wpList_load_mid rfl 35 _ rfl Tx 0 (by rfl) (pc sX (.slice (some ⟨bL, 0, none⟩) 0 0) (.slice (some ⟨bR, 0, none⟩) 0 0)) _ (MM.out.m.r (Tx, pc sX (.slice (some ⟨bL, 0, none⟩) 0 0) (.slice (some ⟨bR, 0, none⟩) 0 0)) (by simp)).1 UP.out rfl (pc_i _ _ _) ?_) | (go_at_call 8; refine (EX.out _ bL bR MM.out.m.bel (MM.out.m.r (bL, svs 0 (gl X)) (by simp)).1 (MM.out.m.r (bR, svs 0 (gr X)) (by simp)).1 (MM.out.m.r (bL, svs 0 (gl X)) (by simp)).2.2.2 (MM.out.m.r (bR, svs 0 (gr X)) (by simp)).2.2.2).mono ?_; rintro e w14 ⟨Gp, rfl, hm⟩; replace MM := hidden (MM.out.one hm); clear hm EX))
  go_upto_region 12 with (first | (refine wpList_load_mid rfl 35 _ rfl Ty 0 (by rfl) (pc sZ (.slice (some ⟨bL2, 0, none⟩) 0 0) (.slice (some ⟨bR2, 0, none⟩) 0 0)) _ (MM.out.m.r (Ty, pc sZ (.slice (some ⟨bL2, 0, none⟩) 0 0) (.slice (some ⟨bR2, 0, none⟩) 0 0)) (by simp)).1 UP.out rfl (pc_i _ _ _) ?_) | (go_at_call 8; refine (EZ.out _ bL2 bR2 MM.out.m.bel (MM.out.m.r (bL2, svs 0 (gl Z)) (by simp)).1 (MM.out.m.r (bR2, svs 0 (gr Z)) (by simp)).1 (MM.out.m.r (bL2, svs 0 (gl Z)) (by simp)).2.2.2 (MM.out.m.r (bR2, svs 0 (gr Z)) (by simp)).2.2.2).mono ?_; rintro e w15 ⟨Gq, rfl, hm⟩; replace MM := hidden (MM.out.one hm); clear hm EZ))
  go_upto_region 14 with (first | (refine wpList_loadG (by rfl) 28 _ rfl (w.heap.size) 0 (by rfl) Q1 _ (MM.out.m.r (w.heap.size, Q1) (by simp)).1 UW.out rfl I1.out ?_) | (go_at_call 4; refine (BX.out _ MM.out.m.bel).mono ?_; rintro e w16 ⟨G4, k4, rfl, hm⟩; replace MM := hidden (MM.out.one hm); clear hm) | (go_at_call 9; refine (SX.out _ Gp G4 N k4 (MM.out.m.r (Gp, Tr.cb X) (by simp)).1 (MM.out.m.r (G4, Tr.cb X) (by simp)).1).mono ?_; rintro e w17 ⟨rfl, hw⟩; subst hw; clear SX) | (go_at_call 9; refine (SZ.out _ Gq G2 N k2 (MM.out.m.r (Gq, Tr.cb Z) (by simp)).1 (MM.out.m.r (G2, Tr.cb Z) (by simp)).1).mono ?_; rintro e w18 ⟨rfl, hw⟩; subst hw; clear SZ))
  have h9 := MM.out.drop 12
  simp only [List.drop_succ_cons, List.drop_zero] at h9
  replace MM := hidden h9
  clear h9
  go_upto_region 15 with (first | (refine wpList_load_mid rfl 28 _ rfl (w.heap.size) 0 (by rfl) Q1 _ (MM.out.m.r (w.heap.size, Q1) (by simp)).1 UW.out rfl I1.out ?_) | (go_at_call 10; refine (WX.out _).mono ?_; rintro e w20 ⟨P1, c1, P2, c2, rfl, q1, q2, hb⟩; replace MM := hidden (MM.out.keep hb); have A1 := hidden q1; have A2 := hidden q2; clear q1 q2 hb WX) | refine wpList_allocP rfl rfl ?_ | (refine wpList_storeL rfl 35 _ _ rfl rfl w20.heap.size 0 (pc s (.slice P1 0 c1) (.slice P2 0 c2)) (by rfl) (by rfl) (th_new w20 (pc s (.slice P1 0 c1) (.slice P2 0 c2)) rfl) (pc_i2 _ _ _) (pc_one _ _ _ _ _ _ _) ?_; replace MM := hidden (MM.out.newset (pcv zero4 zero4 zero4 zero4 zero4 zero4 zero4 zero4 zero4 (.slice none 0 0) (.slice none 0 0)) (pc s (.slice P1 0 c1) (.slice P2 0 c2)) 35 rfl); generalize World.setCells _ w20.heap.size 0 (pc s (.slice P1 0 c1) (.slice P2 0 c2)) = w21 at *; generalize w20.heap.size = Tl at *))
  go_upto_region 16 with (first | (refine wpList_load_mid rfl 28 _ rfl (w.heap.size + 1) 0 (by rfl) Q2 _ (MM.out.m.r (w.heap.size + 1, Q2) (by simp)).1 UW.out rfl I2.out ?_) | (go_at_call 10; refine (WZ.out _).mono ?_; rintro e w22 ⟨P3, c3, P4, c4, rfl, q1, q2, hb⟩; replace MM := hidden (MM.out.keep hb); have A3 := hidden q1; have A4 := hidden q2; clear q1 q2 hb WZ) | refine wpList_allocP rfl rfl ?_ | (refine wpList_storeL rfl 35 _ _ rfl rfl w22.heap.size 0 (pc s' (.slice P3 0 c3) (.slice P4 0 c4)) (by rfl) (by rfl) (th_new w22 (pc s' (.slice P3 0 c3) (.slice P4 0 c4)) rfl) (pc_i2 _ _ _) (pc_one _ _ _ _ _ _ _) ?_; replace MM := hidden (MM.out.newset (pcv zero4 zero4 zero4 zero4 zero4 zero4 zero4 zero4 zero4 (.slice none 0 0) (.slice none 0 0)) (pc s' (.slice P3 0 c3) (.slice P4 0 c4)) 35 rfl); generalize World.setCells _ w22.heap.size 0 (pc s' (.slice P3 0 c3) (.slice P4 0 c4)) = w23 at *; generalize w22.heap.size = Tm at *))
  go_upto_region 17 with (first | (refine wpList_load_mid rfl 35 _ rfl Tl 0 (by rfl) (pc s (.slice P1 0 c1) (.slice P2 0 c2)) _ (MM.out.m.r (Tl, pc s (.slice P1 0 c1) (.slice P2 0 c2)) (by simp)).1 UP.out rfl (pc_i _ _ _) ?_) | (go_at_call 8; refine (K1.out _ MM.out.m.bel P1 P2 c1 c2 (fun a ha => Nat.lt_trans (A1.out a ha) (MM.out.m.r (Tl, pc s (.slice P1 0 c1) (.slice P2 0 c2)) (by simp)).2.2.2) (fun a ha => Nat.lt_trans (A2.out a ha) (MM.out.m.r (Tl, pc s (.slice P1 0 c1) (.slice P2 0 c2)) (by simp)).2.2.2)).mono ?_; rintro e w24 ⟨Ge, rfl, hm⟩; replace MM := hidden (MM.out.one hm); clear hm K1))
  have y1 := (MM.out.m.r (Tl, pc s (.slice P1 0 c1) (.slice P2 0 c2)) (by simp)).1 28 _ rfl
  have y2 := (MM.out.m.r (Tm, pc s' (.slice P3 0 c3) (.slice P4 0 c4)) (by simp)).1 28 _ rfl
  simp only [Nat.zero_add] at y1 y2
  have hcp := fun (x : World) => copy_zero (w := x) (P := P1) (Q := P3) (c1 := c1) (c2 := c3) (ty := 3)
  go_upto_region 18 with fail
  clear hcp y1 y2
  have y1 := (MM.out.m.r (Tl, pc s (.slice P1 0 c1) (.slice P2 0 c2)) (by simp)).1 29 _ rfl
  have y2 := (MM.out.m.r (Tm, pc s' (.slice P3 0 c3) (.slice P4 0 c4)) (by simp)).1 29 _ rfl
  simp only [Nat.zero_add] at y1 y2
  have hcp := fun (x : World) => copy_zero (w := x) (P := P2) (Q := P4) (c1 := c2) (c2 := c4) (ty := 3)
  go_upto_region 19 with fail
  clear hcp y1 y2
  refine wa19 _ Tl Tm s s' (.slice P1 0 c1) (.slice P2 0 c2) (.slice P3 0 c3) (.slice P4 0 c4) _ _ _ _ _ _ _ _ _ _ _ _ _ _ _ _ _ _ _ _ _ _ _ _ _ _ _ _ _ _ _ _ _ _ _ _ _ _ _ _ _ _ _ _ _ _ _ _ _ _ _ _ _ _ _ _ _ _ _ _ _ _ _ _ _ _ _ _ _ _ _ _ _ _ _ _ _ _ _ _ _ _ _ _ _ _ _ _ _ _ _ _ _ _ _ _ _ _ _ _ _ _ _ _ _ _ _ _ _ _ _ _ _ _ _ _ _ _ _ _ _ _ _ _ _ _ _ _ _ _ _ _ _ _ _ _ _ _ _ _ _ _ _ _ _ _ _ _ _ _ _ _ _ _ _ _ _ _ _ _ _ _ _ _ _ _ _ _ _ _ _ _ _ _ _ _ _ _ _ _ _ _ _ _ _ _ _ _ _ _ _ _ _ _ _ _ _ _ _ _ _ _ _ _ _ _ _ _ _ _ _ _ _ _ _ _ _ _ w _ (MM.out.ne 2 1 rfl rfl (by decide)) (MM.out.m.r (Tl, pc s (.slice P1 0 c1) (.slice P2 0 c2)) (by simp)).1 (MM.out.m.sub (by simp)) (hidden ?_)
  intro w27 hg hm
  have MN := MM.out.upd 1 rfl hg (hm.r (Tm, pc s (.slice P3 0 c3) (.slice P4 0 c4)) (by simp)).1 (hm.r (Tm, pc s (.slice P3 0 c3) (.slice P4 0 c4)) (by simp)).2.1
  simp only [List.set_cons_succ, List.set_cons_zero] at MN
  replace MM := hidden MN
  clear MN hg hm
  go_upto_region 21 with (first | (refine wpList_load_mid rfl 35 _ rfl Tl 0 (by rfl) (pc s (.slice P1 0 c1) (.slice P2 0 c2)) _ (MM.out.m.r (Tl, pc s (.slice P1 0 c1) (.slice P2 0 c2)) (by simp)).1 UP.out rfl (pc_i _ _ _) ?_) | (go_at_call 8; refine (K2.out _ MM.out.m.bel P1 P2 c1 c2 (fun a ha => Nat.lt_trans (A1.out a ha) (MM.out.m.r (Tl, pc s (.slice P1 0 c1) (.slice P2 0 c2)) (by simp)).2.2.2) (fun a ha => Nat.lt_trans (A2.out a ha) (MM.out.m.r (Tl, pc s (.slice P1 0 c1) (.slice P2 0 c2)) (by simp)).2.2.2)).mono ?_; rintro e w28 ⟨Gp2, rfl, hm⟩; replace MM := hidden (MM.out.one hm); clear hm))
  go_upto_region 22 with (first | (refine wpList_load_mid rfl 35 _ rfl Tm 0 (by rfl) (pc s (.slice P3 0 c3) (.slice P4 0 c4)) _ (MM.out.m.r (Tm, pc s (.slice P3 0 c3) (.slice P4 0 c4)) (by simp)).1 UP.out rfl (pc_i _ _ _) ?_) | (go_at_call 8; refine (K2.out _ MM.out.m.bel P3 P4 c3 c4 (fun a ha => Nat.lt_trans (A3.out a ha) (MM.out.m.r (Tm, pc s (.slice P3 0 c3) (.slice P4 0 c4)) (by simp)).2.2.2) (fun a ha => Nat.lt_trans (A4.out a ha) (MM.out.m.r (Tm, pc s (.slice P3 0 c3) (.slice P4 0 c4)) (by simp)).2.2.2)).mono ?_; rintro e w29 ⟨Gq2, rfl, hm⟩; replace MM := hidden (MM.out.one hm); clear hm K2))
  have h9 := MM.out.take 2
  simp only [List.take_succ_cons, List.take_zero] at h9
  replace MM := hidden h9
  clear h9
  have BB := hidden MM.out.m.bel
  go_upto_region 23 with (first | (refine wpList_app_new rfl _ _ rfl rfl bs BP cB K HK.out rfl (HBY.out _ MM.out.m.bel) (by have := LB.out; have := HK.out; omega) ?_; intro v5 w30 ho5 hb5))
  by_cases hK0 : K = 0
  · obtain ⟨P5, c5, rfl, hB5⟩ := own_byK ho5 HK.out
    subst hK0
    have GB := hidden hB5
    replace MM := hidden (MM.out.keep hb5)
    clear ho5 hb5 hB5
    obtain ⟨M6, hM6⟩ : ∃ M, (Tr.vn 0 ++ bs).length = M := ⟨_, rfl⟩
    have HM6 := hidden hM6
    clear hM6
    go_upto_region 24 with (first | (go_at_call 11; refine (ap_new P5 c5 0 bs _ GB.out HK.out (by have := LB.out; have := HK.out; omega) M6 HM6.out).mono ?_; rintro e w31 ⟨G6, k6, rfl, hm⟩; replace MM := hidden (MM.out.one hm); replace GB := hidden (GB.out.keep hm.bel); clear hm))
    go_wp2_with fail
    refine wp_loop_rounds 1 ?_
    rw [rounds_succ]
    obtain ⟨M7, hM7⟩ : ∃ M, (Tr.vn 0 ++ bs).length = M := ⟨_, rfl⟩
    have HM7 := hidden hM7
    clear hM7
    have J1 := hidden (fun x (h : Below w.heap.size w x) => li_new BP cB 0 bs x (HBY.out x h) HK.out (by have := LB.out; have := HK.out; omega) M6 HM6.out)
    have J2 := hidden (fun x (h : Tr.By x P5 c5 bs) => li_new P5 c5 0 bs x h HK.out (by have := LB.out; have := HK.out; omega) M7 HM7.out)
    have S6 := hidden (fun (x : World) (G H c d : Nat) (h1 : x.rangeAt G 0 (Tr.cb (Tr.vn 0 ++ bs))) (h2 : x.rangeAt H 0 (Tr.cb (Tr.vn 0 ++ bs))) => same_new (c := c) (d := d) (Tr.vn 0 ++ bs) HM6.out h1 h2)
    have S7 := hidden (fun (x : World) (G H c d : Nat) (h1 : x.rangeAt G 0 (Tr.cb (Tr.vn 0 ++ bs))) (h2 : x.rangeAt H 0 (Tr.cb (Tr.vn 0 ++ bs))) => same_new (c := c) (d := d) (Tr.vn 0 ++ bs) HM7.out h1 h2)
    go_upto_region 29 with (first | (go_at_call 11; refine (ap_new P5 c5 0 bs _ GB.out HK.out (by have := LB.out; have := HK.out; omega) M7 HM7.out).mono ?_; rintro e w40 ⟨G7, k7, rfl, hm⟩; replace MM := hidden (MM.out.one hm); replace GB := hidden (GB.out.keep hm.bel); clear hm))
    go_wp2_with (first | (go_at_call 9; refine (SY.out _ Gp2 Gq2 N N (MM.out.m.r (Gp2, Tr.cb Y) (by simp)).1 (MM.out.m.r (Gq2, Tr.cb Y) (by simp)).1).mono ?_; rintro e w41 ⟨rfl, hw⟩; subst hw; clear SY) | (go_at_call 12; refine (J1.out _ MM.out.m.bel).mono ?_; rintro e w42 ⟨G8, k8, rfl, hm⟩; replace MM := hidden (MM.out.one hm); replace GB := hidden (GB.out.keep hm.bel); clear hm J1) | (go_at_call 9; refine (S6.out _ G6 G8 k6 k8 (MM.out.m.r (G6, Tr.cb (Tr.vn 0 ++ bs)) (by simp)).1 (MM.out.m.r (G8, Tr.cb (Tr.vn 0 ++ bs)) (by simp)).1).mono ?_; rintro e w43 ⟨rfl, hw⟩; subst hw; clear S6) | (go_at_call 12; refine (J2.out _ GB.out).mono ?_; rintro e w44 ⟨G9, k9, rfl, hm⟩; replace MM := hidden (MM.out.one hm); clear hm J2) | (go_at_call 9; refine (S7.out _ G7 G9 k7 k9 (MM.out.m.r (G7, Tr.cb (Tr.vn 0 ++ bs)) (by simp)).1 (MM.out.m.r (G9, Tr.cb (Tr.vn 0 ++ bs)) (by simp)).1).mono ?_; rintro e w45 ⟨rfl, hw⟩; subst hw; clear S7))
    refine bodyPost_ret (v := .bool true) (by simp [results, Tryd.results3, go_sem]) rfl ⟨rfl, MM.out.m.bel⟩
  · obtain ⟨Gg, kg, rfl, -, -, -, -⟩ := Tr.own_some ho5 (by omega)
    replace MM := hidden (MM.out.one (own_mw hb5 ho5 (by rw [Tr.cb_len, HK.out, Nat.mul_one])))
    clear ho5 hb5
    obtain ⟨M6, hM6⟩ : ∃ M, (Tr.vn K ++ bs).length = M := ⟨_, rfl⟩
    have HM6 := hidden hM6
    clear hM6
    go_upto_region 24 with (first | (go_at_call 11; refine (ap_new (some ⟨Gg, 0, none⟩) kg K bs _ (by_rangeX (MM.out.m.r (Gg, Tr.cb bs) (by simp)).1) HK.out (by have := LB.out; have := HK.out; omega) M6 HM6.out).mono ?_; rintro e w31 ⟨G6, k6, rfl, hm⟩; replace MM := hidden (MM.out.one hm); clear hm))
    go_wp2_with fail
    go_loopw [20] (fun iv w' => ∃ (i : Nat) (ys : List UInt8), i ≤ K ∧ iv = .int .i64 (i : Int) ∧ Hid (ys.length = K) ∧ Hid (Mv w [(G6, Tr.cb (Tr.vn K ++ bs)), (Gg, Tr.cb ys), (Gq2, Tr.cb Y), (Gp2, Tr.cb Y)] w')) (fun i _ => K - (intOf i).toNat)
    case atStart => exact ⟨0, bs, by omega, rfl, HK, MM⟩
    case round =>
      clear MM
      obtain ⟨i, ys, hi, rfl, hy, MM⟩ := hrel
      by_cases hin : i < K
      · have i0 : (0 : Int) ≤ (i : Int) := by omega
        have i1 : (i : Int) < (K : Int) := by omega
        have w9 : IntKind.i64.wrap ((i : Int) + 1) = (i : Int) + 1 := IntWalk.i64_in _ (by have := LB.out; have := HK.out; omega)
        have hiy : i < ys.length := by rw [hy.out]; exact hin
        have c0 := (MM.out.m.r (Gg, Tr.cb ys) (by simp)).1 i _ (Tr.cb_at ys i hiy)
        have f0 := ((MM.out.m.r (Gg, Tr.cb ys) (by simp)).2.1 i (by rw [Tr.cb_len]; exact hiy)).2
        rw [Nat.zero_add] at c0 f0
        obtain ⟨y, hyy⟩ := u8_some ((ys[i].toNat : Int) + 1)
        generalize (ys[i].toNat : Int) = z at c0 hyy
        have NM := MM.out.cell 1 (i := i) (.int .u8 (y.toNat : Int)) rfl (by rw [Tr.cb_len]; exact hiy)
        simp only [List.set_cons_succ, List.set_cons_zero, ← cb_set] at NM
        have NN := hidden NM
        have NY : Hid ((ys.set i y).length = K) := hidden (by rw [List.length_set]; exact hy.out)
        clear NM hiy MM hy
        go_wp2_with fail
        go_roundw
        case rel => exact ⟨i + 1, ys.set i y, by omega, by simp, NY, NN⟩
        case measure => simp [intOf]; omega
      · have hii : i = K := by omega
        have lq : ¬ (i : Int) < (K : Int) := by omega
        clear hin hi hii
        obtain ⟨M7, hM7⟩ : ∃ M, (Tr.vn K ++ ys).length = M := ⟨_, rfl⟩
        have HM7 := hidden hM7
        clear hM7
        have J1 := hidden (fun x (h : Below w.heap.size w x) => li_new BP cB K bs x (HBY.out x h) HK.out (by have := LB.out; have := HK.out; omega) M6 HM6.out)
        have J2 := hidden (fun x (h : Tr.By x (some ⟨Gg, 0, none⟩) kg ys) => li_new (some ⟨Gg, 0, none⟩) kg K ys x h hy.out (by have := LB.out; have := HK.out; omega) M7 HM7.out)
        have S6 := hidden (fun (x : World) (G H c d : Nat) (h1 : x.rangeAt G 0 (Tr.cb (Tr.vn K ++ bs))) (h2 : x.rangeAt H 0 (Tr.cb (Tr.vn K ++ bs))) => same_new (c := c) (d := d) (Tr.vn K ++ bs) HM6.out h1 h2)
        have S7 := hidden (fun (x : World) (G H c d : Nat) (h1 : x.rangeAt G 0 (Tr.cb (Tr.vn K ++ ys))) (h2 : x.rangeAt H 0 (Tr.cb (Tr.vn K ++ ys))) => same_new (c := c) (d := d) (Tr.vn K ++ ys) HM7.out h1 h2)
        go_upto_region 29 with (first | (go_at_call 11; refine (ap_new (some ⟨Gg, 0, none⟩) kg K ys _ (by_rangeX (MM.out.m.r (Gg, Tr.cb ys) (by simp)).1) hy.out (by have := LB.out; have := HK.out; omega) M7 HM7.out).mono ?_; rintro e w40 ⟨G7, k7, rfl, hm⟩; replace MM := hidden (MM.out.one hm); clear hm))
        go_wp2_with (first | (go_at_call 9; refine (SY.out _ Gp2 Gq2 N N (MM.out.m.r (Gp2, Tr.cb Y) (by simp)).1 (MM.out.m.r (Gq2, Tr.cb Y) (by simp)).1).mono ?_; rintro e w41 ⟨rfl, hw⟩; subst hw; clear SY) | (go_at_call 12; refine (J1.out _ MM.out.m.bel).mono ?_; rintro e w42 ⟨G8, k8, rfl, hm⟩; replace MM := hidden (MM.out.one hm); clear hm J1) | (go_at_call 9; refine (S6.out _ G6 G8 k6 k8 (MM.out.m.r (G6, Tr.cb (Tr.vn K ++ bs)) (by simp)).1 (MM.out.m.r (G8, Tr.cb (Tr.vn K ++ bs)) (by simp)).1).mono ?_; rintro e w43 ⟨rfl, hw⟩; subst hw; clear S6) | (go_at_call 12; refine (J2.out _ (by_rangeX (MM.out.m.r (Gg, Tr.cb ys) (by simp)).1)).mono ?_; rintro e w44 ⟨G9, k9, rfl, hm⟩; replace MM := hidden (MM.out.one hm); clear hm J2) | (go_at_call 9; refine (S7.out _ G7 G9 k7 k9 (MM.out.m.r (G7, Tr.cb (Tr.vn K ++ ys)) (by simp)).1 (MM.out.m.r (G9, Tr.cb (Tr.vn K ++ ys)) (by simp)).1).mono ?_; rintro e w45 ⟨rfl, hw⟩; subst hw; clear S7))
        refine bodyPost_ret (v := .bool true) (by simp [results, Tryd.results3, go_sem]) rfl ⟨rfl, MM.out.m.bel⟩
end Go.Proofs.YthkfjggogcmdmaaDoor
namespace Go.Proofs.YthkfjggogcmdmaaDoor
open Go.RowKit
set_option linter.unusedVariables false
theorem again_any (s l r s' l' r' : Nat → E4) (LP RP LP' RP' : Option Addr) (n m n' m' cL cR cL' cR' : Nat) (bs : List UInt8) (BP : Option Addr) (cB : Nat) (w : World) (hT : Tb w) (os : ∀ k, k < 9 → (s k).ok) (os' : ∀ k, k < 9 → (s' k).ok) (ol : ∀ k, k < n → (l k).ok) (or : ∀ k, k < m → (r k).ok) (ol' : ∀ k, k < n' → (l' k).ok) (or' : ∀ k, k < m' → (r' k).ok) (hL : Lm w LP n l) (hR : Lm w RP m r) (hL' : Lm w LP' n' l') (hR' : Lm w RP' m' r') (hb : Tr.By w BP cB bs) (lb : bs.length ≤ 140737488351232) :
    Calls Tryd.prog 3 #[.agg (pc s (.slice LP n cL) (.slice RP m cR)).toArray, .agg (pc s' (.slice LP' n' cL') (.slice RP' m' cR')).toArray, .slice BP bs.length cB] w fun e w' => e = .returned (.bool true) ∧ Below w.heap.size w w' := by
  by_cases h : n ≠ m ∨ n' ≠ m' ∨ n ≠ n' ∨ 10 < n
  · exact again_no s l r s' l' r' LP RP LP' RP' n m n' m' cL cR cL' cR' BP bs.length cB w h
  · obtain rfl : n = m := by omega
    obtain rfl : n' = m' := by omega
    obtain rfl : n = n' := by omega
    have hn : n ≤ 10 := by omega
    by_cases h0 : n = 0
    · subst h0
      exact again_0 s l r s' l' r' LP RP LP' RP' cL cR cL' cR' bs BP cB w hT os os' hb lb
    · exact again_n s l r s' l' r' LP RP LP' RP' n cL cR cL' cR' bs BP cB w hT (by omega) hn os os' ol or ol' or' hL hR hL' hR' hb lb
end Go.Proofs.YthkfjggogcmdmaaDoor
