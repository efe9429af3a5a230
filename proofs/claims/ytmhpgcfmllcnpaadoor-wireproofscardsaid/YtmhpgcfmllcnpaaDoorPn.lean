import Derived.Test.YtmhpgcfmllcnpaaDoorPm
namespace Go.Proofs.YtmhpgcfmllcnpaaDoor
open Go.RowKit
set_option linter.unusedVariables false
set_option maxRecDepth 100000 in
set_option maxHeartbeats 4000000 in
theorem alikeK (a b : E4) (ha : a.ok) (hb : b.ok) (w : World) (hT : Tb w) :
    Calls Tryd.prog 22 #[a.v, b.v] w fun e w' => e = .returned (.bool ((lst a.n).same (lst b.n))) ∧ Below w.heap.size w w' := by
  have HT := hidden hT
  have RA := hidden (fun w T => Same_any a b w T ha hb)
  have M0 := ((Mw.start w).new [.int .u64 a.x0, .int .u64 a.x1, .int .u64 a.x2, .int .u64 a.x3] 24).new [.int .u64 b.x0, .int .u64 b.x1, .int .u64 b.x2, .int .u64 b.x3] 24
  have MM := hidden M0.bel
  clear M0 hT
  unfold E4.v at RA ⊢
  generalize (lst a.n).same (lst b.n) = B at *
  go_enter Tryd.func22, Tryd.ntmps22
  go_wp2_with (first | (go_at_call 23; refine (RA.out _ (HT.out.keep MM.out)).mono ?_; rintro e wa ⟨rfl, ha⟩; replace MM := hidden (bl_trans MM.out ha); clear ha))
  refine bodyPost_ret (v := .bool B) (by simp [results, Tryd.results22, go_sem]) rfl ⟨rfl, MM.out⟩
def al6o : Array Oper := #[{ dst := some 30, op := Op.fieldAddr 35 (Operand.tmp 2) 7, type := 0, pos := "outright.go:159", after := #[], guard := none },
  { dst := some 31, op := Op.load 33 (Operand.tmp 30), type := 33, pos := "outright.go:159", after := #[{ on := 0, ground := Ground.data }], guard := none },
  { dst := some 32, op := Op.move (Operand.tmp 5), type := 3, pos := "outright.go:159", after := #[], guard := none },
  { dst := some 33, op := Op.indexAddr 33 (Operand.tmp 31) (Operand.tmp 32), type := 0, pos := "outright.go:159", after := #[{ on := 1, ground := Ground.data }, { on := 2, ground := Ground.data }], guard := none },
  { dst := some 34, op := Op.load 32 (Operand.tmp 33), type := 32, pos := "outright.go:159", after := #[{ on := 3, ground := Ground.data }], guard := none },
  { dst := some 35, op := Op.fieldAddr 35 (Operand.tmp 3) 7, type := 0, pos := "outright.go:159", after := #[], guard := none },
  { dst := some 36, op := Op.load 33 (Operand.tmp 35), type := 33, pos := "outright.go:159", after := #[{ on := 5, ground := Ground.data }], guard := none },
  { dst := some 37, op := Op.move (Operand.tmp 5), type := 3, pos := "outright.go:159", after := #[], guard := none },
  { dst := some 38, op := Op.indexAddr 33 (Operand.tmp 36) (Operand.tmp 37), type := 0, pos := "outright.go:159", after := #[{ on := 6, ground := Ground.data }, { on := 7, ground := Ground.data }], guard := none },
  { dst := some 39, op := Op.load 32 (Operand.tmp 38), type := 32, pos := "outright.go:159", after := #[{ on := 8, ground := Ground.data }], guard := none },
  { dst := some 40, op := Op.call { callee := Callee.value (Operand.func 21), args := #[Operand.tmp 34, Operand.tmp 39], argTypes := #[32, 32] }, type := 4, pos := "outright.go:159", after := #[{ on := 4, ground := Ground.data }, { on := 9, ground := Ground.data }], guard := none },
  { dst := some 41, op := Op.unOp UnOp.not 4 (Operand.tmp 40), type := 4, pos := "outright.go:159", after := #[{ on := 10, ground := Ground.data }], guard := none },
  { dst := some 42, op := Op.move (Operand.tmp 41), type := 4, pos := "outright.go:159", after := #[{ on := 11, ground := Ground.data }, { on := 10, ground := Ground.chain }], guard := none },
  { dst := some 43, op := Op.fieldAddr 35 (Operand.tmp 2) 8, type := 0, pos := "outright.go:159", after := #[{ on := 12, ground := Ground.guard }], guard := some (12, false) },
  { dst := some 44, op := Op.load 33 (Operand.tmp 43), type := 33, pos := "outright.go:159", after := #[{ on := 13, ground := Ground.data }, { on := 12, ground := Ground.guard }], guard := some (12, false) },
  { dst := some 45, op := Op.move (Operand.tmp 5), type := 3, pos := "outright.go:159", after := #[{ on := 12, ground := Ground.guard }], guard := some (12, false) },
  { dst := some 46, op := Op.indexAddr 33 (Operand.tmp 44) (Operand.tmp 45), type := 0, pos := "outright.go:159", after := #[{ on := 14, ground := Ground.data }, { on := 15, ground := Ground.data }, { on := 12, ground := Ground.guard }], guard := some (12, false) },
  { dst := some 47, op := Op.load 32 (Operand.tmp 46), type := 32, pos := "outright.go:159", after := #[{ on := 16, ground := Ground.data }, { on := 12, ground := Ground.guard }], guard := some (12, false) },
  { dst := some 48, op := Op.fieldAddr 35 (Operand.tmp 3) 8, type := 0, pos := "outright.go:159", after := #[{ on := 12, ground := Ground.guard }], guard := some (12, false) },
  { dst := some 49, op := Op.load 33 (Operand.tmp 48), type := 33, pos := "outright.go:159", after := #[{ on := 18, ground := Ground.data }, { on := 12, ground := Ground.guard }], guard := some (12, false) },
  { dst := some 50, op := Op.move (Operand.tmp 5), type := 3, pos := "outright.go:159", after := #[{ on := 12, ground := Ground.guard }], guard := some (12, false) },
  { dst := some 51, op := Op.indexAddr 33 (Operand.tmp 49) (Operand.tmp 50), type := 0, pos := "outright.go:159", after := #[{ on := 19, ground := Ground.data }, { on := 20, ground := Ground.data }, { on := 12, ground := Ground.guard }], guard := some (12, false) },
  { dst := some 52, op := Op.load 32 (Operand.tmp 51), type := 32, pos := "outright.go:159", after := #[{ on := 21, ground := Ground.data }, { on := 12, ground := Ground.guard }], guard := some (12, false) },
  { dst := some 53, op := Op.call { callee := Callee.value (Operand.func 21), args := #[Operand.tmp 47, Operand.tmp 52], argTypes := #[32, 32] }, type := 4, pos := "outright.go:159", after := #[{ on := 17, ground := Ground.data }, { on := 22, ground := Ground.data }, { on := 12, ground := Ground.chain }, { on := 12, ground := Ground.guard }], guard := some (12, false) },
  { dst := some 54, op := Op.unOp UnOp.not 4 (Operand.tmp 53), type := 4, pos := "outright.go:159", after := #[{ on := 23, ground := Ground.data }, { on := 12, ground := Ground.guard }], guard := some (12, false) },
  { dst := some 55, op := Op.pick (Operand.tmp 42) (Operand.const (Value.bool true)) (Operand.tmp 54), type := 4, pos := "outright.go:159", after := #[{ on := 12, ground := Ground.data }, { on := 24, ground := Ground.data }], guard := none }]
set_option maxRecDepth 100000 in
set_option maxHeartbeats 16000000 in
theorem al6_ne (Q : Exit → Act → World → Prop) (B2 B3 p1 q1 c1 p2 q2 c2 p3 q3 c3 p4 q4 c4 n k : Nat) (a b c d : E4) (u0 u1 u4 u6 u7 u8 u9 u10 u11 u12 u13 u14 u15 u16 u17 u18 u19 u20 u21 u22 u23 u24 u25 u26 u27 u28 u29 u30 u31 u32 u33 u34 u35 u36 u37 u38 u39 u40 u41 u42 u43 u44 u45 u46 u47 u48 u49 u50 u51 u52 u53 u54 u55 u56 u57 u58 u59 u60 u61 u62 u63 u64 u65 u66 u67 u68 u69 u70 u71 u72 u73 u74 u75 u76 u77 u78 u79 u80 u81 u82 u83 u84 u85 u86 u87 u88 u89 u90 u91 u92 u93 u94 u95 u96 u97 u98 u99 u100 u101 u102 u103 u104 u105 u106 u107 u108 u109 u110 u111 u112 u113 u114 u115 u116 u117 u118 u119 u120 u121 : Value) (W : World) (hk : k < n)
    (SK : Hid (∀ x, Below W.heap.size W x → Below W.heap.size W x ∧ x.cell? ⟨B2, 28, none⟩ = some (.slice (some ⟨p1, q1, none⟩) n c1) ∧ x.cell? ⟨B2, 29, none⟩ = some (.slice (some ⟨p2, q2, none⟩) n c2) ∧ x.cell? ⟨B3, 28, none⟩ = some (.slice (some ⟨p3, q3, none⟩) n c3) ∧ x.cell? ⟨B3, 29, none⟩ = some (.slice (some ⟨p4, q4, none⟩) n c4) ∧ x.cell? ⟨p1, q1 + k * 4, none⟩ = some (.int .u64 a.x0) ∧ x.cell? ⟨p1, q1 + k * 4 + 1, none⟩ = some (.int .u64 a.x1) ∧ x.cell? ⟨p1, q1 + k * 4 + 2, none⟩ = some (.int .u64 a.x2) ∧ x.cell? ⟨p1, q1 + k * 4 + 3, none⟩ = some (.int .u64 a.x3) ∧ x.cell? ⟨p2, q2 + k * 4, none⟩ = some (.int .u64 b.x0) ∧ x.cell? ⟨p2, q2 + k * 4 + 1, none⟩ = some (.int .u64 b.x1) ∧ x.cell? ⟨p2, q2 + k * 4 + 2, none⟩ = some (.int .u64 b.x2) ∧ x.cell? ⟨p2, q2 + k * 4 + 3, none⟩ = some (.int .u64 b.x3) ∧ x.cell? ⟨p3, q3 + k * 4, none⟩ = some (.int .u64 c.x0) ∧ x.cell? ⟨p3, q3 + k * 4 + 1, none⟩ = some (.int .u64 c.x1) ∧ x.cell? ⟨p3, q3 + k * 4 + 2, none⟩ = some (.int .u64 c.x2) ∧ x.cell? ⟨p3, q3 + k * 4 + 3, none⟩ = some (.int .u64 c.x3) ∧ x.cell? ⟨p4, q4 + k * 4, none⟩ = some (.int .u64 d.x0) ∧ x.cell? ⟨p4, q4 + k * 4 + 1, none⟩ = some (.int .u64 d.x1) ∧ x.cell? ⟨p4, q4 + k * 4 + 2, none⟩ = some (.int .u64 d.x2) ∧ x.cell? ⟨p4, q4 + k * 4 + 3, none⟩ = some (.int .u64 d.x3)))
    (C1 : Hid (∀ x, Below W.heap.size W x → Calls Tryd.prog 21 #[.agg #[.int .u64 a.x0, .int .u64 a.x1, .int .u64 a.x2, .int .u64 a.x3], .agg #[.int .u64 c.x0, .int .u64 c.x1, .int .u64 c.x2, .int .u64 c.x3]] x fun e w' => e = .returned (.bool false) ∧ Below x.heap.size x w'))
    (HQ : Hid (∀ wz, Below W.heap.size W wz → Q .normal ⟨#[u0, u1, .pointer (some ⟨B2, 0, none⟩), .pointer (some ⟨B3, 0, none⟩), u4, .int .i64 (k : Int), u6, u7, u8, u9, u10, u11, u12, u13, u14, u15, u16, u17, u18, u19, u20, u21, u22, u23, u24, u25, u26, u27, u28, u29, .pointer (some ⟨B2, 28, none⟩), .slice (some ⟨p1, q1, none⟩) n c1, .int .i64 (k : Int), .pointer (some ⟨p1, q1 + k * 4, none⟩), .agg #[.int .u64 a.x0, .int .u64 a.x1, .int .u64 a.x2, .int .u64 a.x3], .pointer (some ⟨B3, 28, none⟩), .slice (some ⟨p3, q3, none⟩) n c3, .int .i64 (k : Int), .pointer (some ⟨p3, q3 + k * 4, none⟩), .agg #[.int .u64 c.x0, .int .u64 c.x1, .int .u64 c.x2, .int .u64 c.x3], .bool false, .bool true, .bool true, undef, undef, undef, undef, undef, undef, undef, undef, undef, undef, undef, undef, .bool true, u56, u57, u58, u59, u60, u61, u62, u63, u64, u65, u66, u67, u68, u69, u70, u71, u72, u73, u74, u75, u76, u77, u78, u79, u80, u81, u82, u83, u84, u85, u86, u87, u88, u89, u90, u91, u92, u93, u94, u95, u96, u97, u98, u99, u100, u101, u102, u103, u104, u105, u106, u107, u108, u109, u110, u111, u112, u113, u114, u115, u116, u117, u118, u119, u120, u121], []⟩ wz)) : (Code.region 6 al6o true).wp Tryd.prog Q ⟨#[u0, u1, .pointer (some ⟨B2, 0, none⟩), .pointer (some ⟨B3, 0, none⟩), u4, .int .i64 (k : Int), u6, u7, u8, u9, u10, u11, u12, u13, u14, u15, u16, u17, u18, u19, u20, u21, u22, u23, u24, u25, u26, u27, u28, u29, u30, u31, u32, u33, u34, u35, u36, u37, u38, u39, u40, u41, u42, u43, u44, u45, u46, u47, u48, u49, u50, u51, u52, u53, u54, u55, u56, u57, u58, u59, u60, u61, u62, u63, u64, u65, u66, u67, u68, u69, u70, u71, u72, u73, u74, u75, u76, u77, u78, u79, u80, u81, u82, u83, u84, u85, u86, u87, u88, u89, u90, u91, u92, u93, u94, u95, u96, u97, u98, u99, u100, u101, u102, u103, u104, u105, u106, u107, u108, u109, u110, u111, u112, u113, u114, u115, u116, u117, u118, u119, u120, u121], []⟩ W := by
  have k0 : (0 : Int) ≤ (k : Int) := by omega
  have k1 : (k : Int) < (n : Int) := by omega
  clear hk
  refine wp_region_noPanic ?_
  refine wp_region_held_drew (S := fun x => Below W.heap.size W x ∧ x.cell? ⟨B2, 28, none⟩ = some (.slice (some ⟨p1, q1, none⟩) n c1) ∧ x.cell? ⟨B2, 29, none⟩ = some (.slice (some ⟨p2, q2, none⟩) n c2) ∧ x.cell? ⟨B3, 28, none⟩ = some (.slice (some ⟨p3, q3, none⟩) n c3) ∧ x.cell? ⟨B3, 29, none⟩ = some (.slice (some ⟨p4, q4, none⟩) n c4) ∧ x.cell? ⟨p1, q1 + k * 4, none⟩ = some (.int .u64 a.x0) ∧ x.cell? ⟨p1, q1 + k * 4 + 1, none⟩ = some (.int .u64 a.x1) ∧ x.cell? ⟨p1, q1 + k * 4 + 2, none⟩ = some (.int .u64 a.x2) ∧ x.cell? ⟨p1, q1 + k * 4 + 3, none⟩ = some (.int .u64 a.x3) ∧ x.cell? ⟨p2, q2 + k * 4, none⟩ = some (.int .u64 b.x0) ∧ x.cell? ⟨p2, q2 + k * 4 + 1, none⟩ = some (.int .u64 b.x1) ∧ x.cell? ⟨p2, q2 + k * 4 + 2, none⟩ = some (.int .u64 b.x2) ∧ x.cell? ⟨p2, q2 + k * 4 + 3, none⟩ = some (.int .u64 b.x3) ∧ x.cell? ⟨p3, q3 + k * 4, none⟩ = some (.int .u64 c.x0) ∧ x.cell? ⟨p3, q3 + k * 4 + 1, none⟩ = some (.int .u64 c.x1) ∧ x.cell? ⟨p3, q3 + k * 4 + 2, none⟩ = some (.int .u64 c.x2) ∧ x.cell? ⟨p3, q3 + k * 4 + 3, none⟩ = some (.int .u64 c.x3) ∧ x.cell? ⟨p4, q4 + k * 4, none⟩ = some (.int .u64 d.x0) ∧ x.cell? ⟨p4, q4 + k * 4 + 1, none⟩ = some (.int .u64 d.x1) ∧ x.cell? ⟨p4, q4 + k * 4 + 2, none⟩ = some (.int .u64 d.x2) ∧ x.cell? ⟨p4, q4 + k * 4 + 3, none⟩ = some (.int .u64 d.x3)) (by kernel_rfl) (SK.out _ (Tr.drew_blW W)) (fun hHeld => ?_)
  change wpAnyH Tryd.prog .any al6o _ _ 26 #[false, false, false, false, false, false, false, false, false, false, false, false, false, false, false, false, false, false, false, false, false, false, false, false, false, false] _ _
  refine wpAnyH_take (i := 0) (oi := { dst := some 30, op := Op.fieldAddr 35 (Operand.tmp 2) 7, type := 0, pos := "outright.go:159", after := #[], guard := none }) (v := .pointer (some ⟨B2, 28, none⟩)) rfl (by kernel_rfl) (by kernel_rfl) (by kernel_rfl) (fun _ _ _ h => h) (Or.inl ⟨by rfl, fun w0 hSw => ?_⟩) hHeld ?_
  · (obtain ⟨s0, s1, s2, s3, s4, s5, s6, s7, s8, s9, s10, s11, s12, s13, s14, s15, s16, s17, s18, s19, s20⟩ := hSw; clear s0; go_simp)
  simp only [Act.put, List.setIfInBounds_toArray, List.set_cons_zero, List.set_cons_succ]
  refine wpAnyH_take (i := 1) (oi := { dst := some 31, op := Op.load 33 (Operand.tmp 30), type := 33, pos := "outright.go:159", after := #[{ on := 0, ground := Ground.data }], guard := none }) (v := .slice (some ⟨p1, q1, none⟩) n c1) rfl (by kernel_rfl) (by kernel_rfl) (by kernel_rfl) (fun _ _ _ h => h) (Or.inl ⟨by rfl, fun w0 hSw => ?_⟩) hHeld ?_
  · (obtain ⟨s0, s1, s2, s3, s4, s5, s6, s7, s8, s9, s10, s11, s12, s13, s14, s15, s16, s17, s18, s19, s20⟩ := hSw; clear s0; go_simp)
  simp only [Act.put, List.setIfInBounds_toArray, List.set_cons_zero, List.set_cons_succ]
  refine wpAnyH_take (i := 2) (oi := { dst := some 32, op := Op.move (Operand.tmp 5), type := 3, pos := "outright.go:159", after := #[], guard := none }) (v := .int .i64 (k : Int)) rfl (by kernel_rfl) (by kernel_rfl) (by kernel_rfl) (fun _ _ _ h => h) (Or.inl ⟨by rfl, fun w0 hSw => ?_⟩) hHeld ?_
  · (obtain ⟨s0, s1, s2, s3, s4, s5, s6, s7, s8, s9, s10, s11, s12, s13, s14, s15, s16, s17, s18, s19, s20⟩ := hSw; clear s0; go_simp)
  simp only [Act.put, List.setIfInBounds_toArray, List.set_cons_zero, List.set_cons_succ]
  refine wpAnyH_take (i := 3) (oi := { dst := some 33, op := Op.indexAddr 33 (Operand.tmp 31) (Operand.tmp 32), type := 0, pos := "outright.go:159", after := #[{ on := 1, ground := Ground.data }, { on := 2, ground := Ground.data }], guard := none }) (v := .pointer (some ⟨p1, q1 + k * 4, none⟩)) rfl (by kernel_rfl) (by kernel_rfl) (by kernel_rfl) (fun _ _ _ h => h) (Or.inl ⟨by rfl, fun w0 hSw => ?_⟩) hHeld ?_
  · (obtain ⟨s0, s1, s2, s3, s4, s5, s6, s7, s8, s9, s10, s11, s12, s13, s14, s15, s16, s17, s18, s19, s20⟩ := hSw; clear s0; go_simp)
  simp only [Act.put, List.setIfInBounds_toArray, List.set_cons_zero, List.set_cons_succ]
  refine wpAnyH_take (i := 4) (oi := { dst := some 34, op := Op.load 32 (Operand.tmp 33), type := 32, pos := "outright.go:159", after := #[{ on := 3, ground := Ground.data }], guard := none }) (v := .agg #[.int .u64 a.x0, .int .u64 a.x1, .int .u64 a.x2, .int .u64 a.x3]) rfl (by kernel_rfl) (by kernel_rfl) (by kernel_rfl) (fun _ _ _ h => h) (Or.inl ⟨by rfl, fun w0 hSw => ?_⟩) hHeld ?_
  · (obtain ⟨s0, s1, s2, s3, s4, s5, s6, s7, s8, s9, s10, s11, s12, s13, s14, s15, s16, s17, s18, s19, s20⟩ := hSw; clear s0; go_simp)
  simp only [Act.put, List.setIfInBounds_toArray, List.set_cons_zero, List.set_cons_succ]
  refine wpAnyH_take (i := 5) (oi := { dst := some 35, op := Op.fieldAddr 35 (Operand.tmp 3) 7, type := 0, pos := "outright.go:159", after := #[], guard := none }) (v := .pointer (some ⟨B3, 28, none⟩)) rfl (by kernel_rfl) (by kernel_rfl) (by kernel_rfl) (fun _ _ _ h => h) (Or.inl ⟨by rfl, fun w0 hSw => ?_⟩) hHeld ?_
  · (obtain ⟨s0, s1, s2, s3, s4, s5, s6, s7, s8, s9, s10, s11, s12, s13, s14, s15, s16, s17, s18, s19, s20⟩ := hSw; clear s0; go_simp)
  simp only [Act.put, List.setIfInBounds_toArray, List.set_cons_zero, List.set_cons_succ]
  refine wpAnyH_take (i := 6) (oi := { dst := some 36, op := Op.load 33 (Operand.tmp 35), type := 33, pos := "outright.go:159", after := #[{ on := 5, ground := Ground.data }], guard := none }) (v := .slice (some ⟨p3, q3, none⟩) n c3) rfl (by kernel_rfl) (by kernel_rfl) (by kernel_rfl) (fun _ _ _ h => h) (Or.inl ⟨by rfl, fun w0 hSw => ?_⟩) hHeld ?_
  · (obtain ⟨s0, s1, s2, s3, s4, s5, s6, s7, s8, s9, s10, s11, s12, s13, s14, s15, s16, s17, s18, s19, s20⟩ := hSw; clear s0; go_simp)
  simp only [Act.put, List.setIfInBounds_toArray, List.set_cons_zero, List.set_cons_succ]
  refine wpAnyH_take (i := 7) (oi := { dst := some 37, op := Op.move (Operand.tmp 5), type := 3, pos := "outright.go:159", after := #[], guard := none }) (v := .int .i64 (k : Int)) rfl (by kernel_rfl) (by kernel_rfl) (by kernel_rfl) (fun _ _ _ h => h) (Or.inl ⟨by rfl, fun w0 hSw => ?_⟩) hHeld ?_
  · (obtain ⟨s0, s1, s2, s3, s4, s5, s6, s7, s8, s9, s10, s11, s12, s13, s14, s15, s16, s17, s18, s19, s20⟩ := hSw; clear s0; go_simp)
  simp only [Act.put, List.setIfInBounds_toArray, List.set_cons_zero, List.set_cons_succ]
  refine wpAnyH_take (i := 8) (oi := { dst := some 38, op := Op.indexAddr 33 (Operand.tmp 36) (Operand.tmp 37), type := 0, pos := "outright.go:159", after := #[{ on := 6, ground := Ground.data }, { on := 7, ground := Ground.data }], guard := none }) (v := .pointer (some ⟨p3, q3 + k * 4, none⟩)) rfl (by kernel_rfl) (by kernel_rfl) (by kernel_rfl) (fun _ _ _ h => h) (Or.inl ⟨by rfl, fun w0 hSw => ?_⟩) hHeld ?_
  · (obtain ⟨s0, s1, s2, s3, s4, s5, s6, s7, s8, s9, s10, s11, s12, s13, s14, s15, s16, s17, s18, s19, s20⟩ := hSw; clear s0; go_simp)
  simp only [Act.put, List.setIfInBounds_toArray, List.set_cons_zero, List.set_cons_succ]
  refine wpAnyH_take (i := 9) (oi := { dst := some 39, op := Op.load 32 (Operand.tmp 38), type := 32, pos := "outright.go:159", after := #[{ on := 8, ground := Ground.data }], guard := none }) (v := .agg #[.int .u64 c.x0, .int .u64 c.x1, .int .u64 c.x2, .int .u64 c.x3]) rfl (by kernel_rfl) (by kernel_rfl) (by kernel_rfl) (fun _ _ _ h => h) (Or.inl ⟨by rfl, fun w0 hSw => ?_⟩) hHeld ?_
  · (obtain ⟨s0, s1, s2, s3, s4, s5, s6, s7, s8, s9, s10, s11, s12, s13, s14, s15, s16, s17, s18, s19, s20⟩ := hSw; clear s0; go_simp)
  simp only [Act.put, List.setIfInBounds_toArray, List.set_cons_zero, List.set_cons_succ]
  refine wpAnyH_ready (rs := [10]) (by kernel_rfl) (by simp) ?_
  refine AllReadyH.cons (o := { dst := some 40, op := Op.call { callee := Callee.value (Operand.func 21), args := #[Operand.tmp 34, Operand.tmp 39], argTypes := #[32, 32] }, type := 4, pos := "outright.go:159", after := #[{ on := 4, ground := Ground.data }, { on := 9, ground := Ground.data }], guard := none }) rfl (fun K hK => ?_) AllReadyH.nil
  have HH := hidden hHeld
  clear hHeld
  go_simp
  refine (C1.out _ HH.out.1).mono ?_
  rintro e wn1 ⟨rfl, hb⟩
  have SN := hidden (SK.out _ (bl_trans HH.out.1 hb))
  clear HH hb C1
  go_wp2_with fail
  refine hK.out _ _ SN.out (fun hH1 => ?_)
  clear hK K SN
  refine wpAnyH_take (i := 11) (oi := { dst := some 41, op := Op.unOp UnOp.not 4 (Operand.tmp 40), type := 4, pos := "outright.go:159", after := #[{ on := 10, ground := Ground.data }], guard := none }) (v := .bool true) rfl (by kernel_rfl) (by kernel_rfl) (by kernel_rfl) (fun _ _ _ h => h) (Or.inl ⟨by rfl, fun w0 hSw => ?_⟩) hH1 ?_
  · (clear hSw; go_simp)
  simp only [Act.put, List.setIfInBounds_toArray, List.set_cons_zero, List.set_cons_succ]
  refine wpAnyH_take (i := 12) (oi := { dst := some 42, op := Op.move (Operand.tmp 41), type := 4, pos := "outright.go:159", after := #[{ on := 11, ground := Ground.data }, { on := 10, ground := Ground.chain }], guard := none }) (v := .bool true) rfl (by kernel_rfl) (by kernel_rfl) (by kernel_rfl) (fun _ _ _ h => h) (Or.inl ⟨by rfl, fun w0 hSw => ?_⟩) hH1 ?_
  · (clear hSw; go_simp)
  simp only [Act.put, List.setIfInBounds_toArray, List.set_cons_zero, List.set_cons_succ]
  refine wpAnyH_take (i := 13) (oi := { dst := some 43, op := Op.fieldAddr 35 (Operand.tmp 2) 8, type := 0, pos := "outright.go:159", after := #[{ on := 12, ground := Ground.guard }], guard := some (12, false) }) (v := undef) rfl (by kernel_rfl) (by kernel_rfl) (by kernel_rfl) (fun _ _ _ h => h) (Or.inr ⟨by rfl, rfl⟩) hH1 ?_
  simp only [Act.put, List.setIfInBounds_toArray, List.set_cons_zero, List.set_cons_succ]
  refine wpAnyH_take (i := 14) (oi := { dst := some 44, op := Op.load 33 (Operand.tmp 43), type := 33, pos := "outright.go:159", after := #[{ on := 13, ground := Ground.data }, { on := 12, ground := Ground.guard }], guard := some (12, false) }) (v := undef) rfl (by kernel_rfl) (by kernel_rfl) (by kernel_rfl) (fun _ _ _ h => h) (Or.inr ⟨by rfl, rfl⟩) hH1 ?_
  simp only [Act.put, List.setIfInBounds_toArray, List.set_cons_zero, List.set_cons_succ]
  refine wpAnyH_take (i := 15) (oi := { dst := some 45, op := Op.move (Operand.tmp 5), type := 3, pos := "outright.go:159", after := #[{ on := 12, ground := Ground.guard }], guard := some (12, false) }) (v := undef) rfl (by kernel_rfl) (by kernel_rfl) (by kernel_rfl) (fun _ _ _ h => h) (Or.inr ⟨by rfl, rfl⟩) hH1 ?_
  simp only [Act.put, List.setIfInBounds_toArray, List.set_cons_zero, List.set_cons_succ]
  refine wpAnyH_take (i := 16) (oi := { dst := some 46, op := Op.indexAddr 33 (Operand.tmp 44) (Operand.tmp 45), type := 0, pos := "outright.go:159", after := #[{ on := 14, ground := Ground.data }, { on := 15, ground := Ground.data }, { on := 12, ground := Ground.guard }], guard := some (12, false) }) (v := undef) rfl (by kernel_rfl) (by kernel_rfl) (by kernel_rfl) (fun _ _ _ h => h) (Or.inr ⟨by rfl, rfl⟩) hH1 ?_
  simp only [Act.put, List.setIfInBounds_toArray, List.set_cons_zero, List.set_cons_succ]
  refine wpAnyH_take (i := 17) (oi := { dst := some 47, op := Op.load 32 (Operand.tmp 46), type := 32, pos := "outright.go:159", after := #[{ on := 16, ground := Ground.data }, { on := 12, ground := Ground.guard }], guard := some (12, false) }) (v := undef) rfl (by kernel_rfl) (by kernel_rfl) (by kernel_rfl) (fun _ _ _ h => h) (Or.inr ⟨by rfl, rfl⟩) hH1 ?_
  simp only [Act.put, List.setIfInBounds_toArray, List.set_cons_zero, List.set_cons_succ]
  refine wpAnyH_take (i := 18) (oi := { dst := some 48, op := Op.fieldAddr 35 (Operand.tmp 3) 8, type := 0, pos := "outright.go:159", after := #[{ on := 12, ground := Ground.guard }], guard := some (12, false) }) (v := undef) rfl (by kernel_rfl) (by kernel_rfl) (by kernel_rfl) (fun _ _ _ h => h) (Or.inr ⟨by rfl, rfl⟩) hH1 ?_
  simp only [Act.put, List.setIfInBounds_toArray, List.set_cons_zero, List.set_cons_succ]
  refine wpAnyH_take (i := 19) (oi := { dst := some 49, op := Op.load 33 (Operand.tmp 48), type := 33, pos := "outright.go:159", after := #[{ on := 18, ground := Ground.data }, { on := 12, ground := Ground.guard }], guard := some (12, false) }) (v := undef) rfl (by kernel_rfl) (by kernel_rfl) (by kernel_rfl) (fun _ _ _ h => h) (Or.inr ⟨by rfl, rfl⟩) hH1 ?_
  simp only [Act.put, List.setIfInBounds_toArray, List.set_cons_zero, List.set_cons_succ]
  refine wpAnyH_take (i := 20) (oi := { dst := some 50, op := Op.move (Operand.tmp 5), type := 3, pos := "outright.go:159", after := #[{ on := 12, ground := Ground.guard }], guard := some (12, false) }) (v := undef) rfl (by kernel_rfl) (by kernel_rfl) (by kernel_rfl) (fun _ _ _ h => h) (Or.inr ⟨by rfl, rfl⟩) hH1 ?_
  simp only [Act.put, List.setIfInBounds_toArray, List.set_cons_zero, List.set_cons_succ]
  refine wpAnyH_take (i := 21) (oi := { dst := some 51, op := Op.indexAddr 33 (Operand.tmp 49) (Operand.tmp 50), type := 0, pos := "outright.go:159", after := #[{ on := 19, ground := Ground.data }, { on := 20, ground := Ground.data }, { on := 12, ground := Ground.guard }], guard := some (12, false) }) (v := undef) rfl (by kernel_rfl) (by kernel_rfl) (by kernel_rfl) (fun _ _ _ h => h) (Or.inr ⟨by rfl, rfl⟩) hH1 ?_
  simp only [Act.put, List.setIfInBounds_toArray, List.set_cons_zero, List.set_cons_succ]
  refine wpAnyH_take (i := 22) (oi := { dst := some 52, op := Op.load 32 (Operand.tmp 51), type := 32, pos := "outright.go:159", after := #[{ on := 21, ground := Ground.data }, { on := 12, ground := Ground.guard }], guard := some (12, false) }) (v := undef) rfl (by kernel_rfl) (by kernel_rfl) (by kernel_rfl) (fun _ _ _ h => h) (Or.inr ⟨by rfl, rfl⟩) hH1 ?_
  simp only [Act.put, List.setIfInBounds_toArray, List.set_cons_zero, List.set_cons_succ]
  refine wpAnyH_ready (rs := [23]) (by kernel_rfl) (by simp) ?_
  refine AllReadyH.cons (o := { dst := some 53, op := Op.call { callee := Callee.value (Operand.func 21), args := #[Operand.tmp 47, Operand.tmp 52], argTypes := #[32, 32] }, type := 4, pos := "outright.go:159", after := #[{ on := 17, ground := Ground.data }, { on := 22, ground := Ground.data }, { on := 12, ground := Ground.chain }, { on := 12, ground := Ground.guard }], guard := some (12, false) }) rfl (fun K hK => ?_) AllReadyH.nil
  refine Eq.mpr (if_neg (by exact fun h => Bool.false_ne_true h)) ?_
  refine hK.out _ _ hH1 (fun hzz => ?_)
  clear hK K hzz
  simp only [Act.put, List.setIfInBounds_toArray, List.set_cons_zero, List.set_cons_succ]
  refine wpAnyH_take (i := 24) (oi := { dst := some 54, op := Op.unOp UnOp.not 4 (Operand.tmp 53), type := 4, pos := "outright.go:159", after := #[{ on := 23, ground := Ground.data }, { on := 12, ground := Ground.guard }], guard := some (12, false) }) (v := undef) rfl (by kernel_rfl) (by kernel_rfl) (by kernel_rfl) (fun _ _ _ h => h) (Or.inr ⟨by rfl, rfl⟩) hH1 ?_
  simp only [Act.put, List.setIfInBounds_toArray, List.set_cons_zero, List.set_cons_succ]
  refine wpAnyH_take (i := 25) (oi := { dst := some 55, op := Op.pick (Operand.tmp 42) (Operand.const (Value.bool true)) (Operand.tmp 54), type := 4, pos := "outright.go:159", after := #[{ on := 12, ground := Ground.data }, { on := 24, ground := Ground.data }], guard := none }) (v := .bool true) rfl (by kernel_rfl) (by kernel_rfl) (by kernel_rfl) (fun _ _ _ h => h) (Or.inl ⟨by rfl, fun w0 hSw => ?_⟩) hH1 ?_
  · (clear hSw; go_simp)
  simp only [Act.put, List.setIfInBounds_toArray, List.set_cons_zero, List.set_cons_succ]
  refine wpAnyH_done (by kernel_rfl) ?_ _
  refine NoPanic.normal ?_
  exact HQ.out _ hH1.1
set_option maxRecDepth 100000 in
set_option maxHeartbeats 16000000 in
theorem al6_er (Q : Exit → Act → World → Prop) (B2 B3 p1 q1 c1 p2 q2 c2 p3 q3 c3 p4 q4 c4 n k : Nat) (a b c d : E4) (u0 u1 u4 u6 u7 u8 u9 u10 u11 u12 u13 u14 u15 u16 u17 u18 u19 u20 u21 u22 u23 u24 u25 u26 u27 u28 u29 u30 u31 u32 u33 u34 u35 u36 u37 u38 u39 u40 u41 u42 u43 u44 u45 u46 u47 u48 u49 u50 u51 u52 u53 u54 u55 u56 u57 u58 u59 u60 u61 u62 u63 u64 u65 u66 u67 u68 u69 u70 u71 u72 u73 u74 u75 u76 u77 u78 u79 u80 u81 u82 u83 u84 u85 u86 u87 u88 u89 u90 u91 u92 u93 u94 u95 u96 u97 u98 u99 u100 u101 u102 u103 u104 u105 u106 u107 u108 u109 u110 u111 u112 u113 u114 u115 u116 u117 u118 u119 u120 u121 : Value) (W : World) (hk : k < n)
    (SK : Hid (∀ x, Below W.heap.size W x → Below W.heap.size W x ∧ x.cell? ⟨B2, 28, none⟩ = some (.slice (some ⟨p1, q1, none⟩) n c1) ∧ x.cell? ⟨B2, 29, none⟩ = some (.slice (some ⟨p2, q2, none⟩) n c2) ∧ x.cell? ⟨B3, 28, none⟩ = some (.slice (some ⟨p3, q3, none⟩) n c3) ∧ x.cell? ⟨B3, 29, none⟩ = some (.slice (some ⟨p4, q4, none⟩) n c4) ∧ x.cell? ⟨p1, q1 + k * 4, none⟩ = some (.int .u64 a.x0) ∧ x.cell? ⟨p1, q1 + k * 4 + 1, none⟩ = some (.int .u64 a.x1) ∧ x.cell? ⟨p1, q1 + k * 4 + 2, none⟩ = some (.int .u64 a.x2) ∧ x.cell? ⟨p1, q1 + k * 4 + 3, none⟩ = some (.int .u64 a.x3) ∧ x.cell? ⟨p2, q2 + k * 4, none⟩ = some (.int .u64 b.x0) ∧ x.cell? ⟨p2, q2 + k * 4 + 1, none⟩ = some (.int .u64 b.x1) ∧ x.cell? ⟨p2, q2 + k * 4 + 2, none⟩ = some (.int .u64 b.x2) ∧ x.cell? ⟨p2, q2 + k * 4 + 3, none⟩ = some (.int .u64 b.x3) ∧ x.cell? ⟨p3, q3 + k * 4, none⟩ = some (.int .u64 c.x0) ∧ x.cell? ⟨p3, q3 + k * 4 + 1, none⟩ = some (.int .u64 c.x1) ∧ x.cell? ⟨p3, q3 + k * 4 + 2, none⟩ = some (.int .u64 c.x2) ∧ x.cell? ⟨p3, q3 + k * 4 + 3, none⟩ = some (.int .u64 c.x3) ∧ x.cell? ⟨p4, q4 + k * 4, none⟩ = some (.int .u64 d.x0) ∧ x.cell? ⟨p4, q4 + k * 4 + 1, none⟩ = some (.int .u64 d.x1) ∧ x.cell? ⟨p4, q4 + k * 4 + 2, none⟩ = some (.int .u64 d.x2) ∧ x.cell? ⟨p4, q4 + k * 4 + 3, none⟩ = some (.int .u64 d.x3)))
    (C1 : Hid (∀ x, Below W.heap.size W x → Calls Tryd.prog 21 #[.agg #[.int .u64 a.x0, .int .u64 a.x1, .int .u64 a.x2, .int .u64 a.x3], .agg #[.int .u64 c.x0, .int .u64 c.x1, .int .u64 c.x2, .int .u64 c.x3]] x fun e w' => e = .returned (.bool true) ∧ Below x.heap.size x w')) (C2 : Hid (∀ x, Below W.heap.size W x → Calls Tryd.prog 21 #[.agg #[.int .u64 b.x0, .int .u64 b.x1, .int .u64 b.x2, .int .u64 b.x3], .agg #[.int .u64 d.x0, .int .u64 d.x1, .int .u64 d.x2, .int .u64 d.x3]] x fun e w' => e = .returned (.bool false) ∧ Below x.heap.size x w'))
    (HQ : Hid (∀ wz, Below W.heap.size W wz → Q .normal ⟨#[u0, u1, .pointer (some ⟨B2, 0, none⟩), .pointer (some ⟨B3, 0, none⟩), u4, .int .i64 (k : Int), u6, u7, u8, u9, u10, u11, u12, u13, u14, u15, u16, u17, u18, u19, u20, u21, u22, u23, u24, u25, u26, u27, u28, u29, .pointer (some ⟨B2, 28, none⟩), .slice (some ⟨p1, q1, none⟩) n c1, .int .i64 (k : Int), .pointer (some ⟨p1, q1 + k * 4, none⟩), .agg #[.int .u64 a.x0, .int .u64 a.x1, .int .u64 a.x2, .int .u64 a.x3], .pointer (some ⟨B3, 28, none⟩), .slice (some ⟨p3, q3, none⟩) n c3, .int .i64 (k : Int), .pointer (some ⟨p3, q3 + k * 4, none⟩), .agg #[.int .u64 c.x0, .int .u64 c.x1, .int .u64 c.x2, .int .u64 c.x3], .bool true, .bool false, .bool false, .pointer (some ⟨B2, 29, none⟩), .slice (some ⟨p2, q2, none⟩) n c2, .int .i64 (k : Int), .pointer (some ⟨p2, q2 + k * 4, none⟩), .agg #[.int .u64 b.x0, .int .u64 b.x1, .int .u64 b.x2, .int .u64 b.x3], .pointer (some ⟨B3, 29, none⟩), .slice (some ⟨p4, q4, none⟩) n c4, .int .i64 (k : Int), .pointer (some ⟨p4, q4 + k * 4, none⟩), .agg #[.int .u64 d.x0, .int .u64 d.x1, .int .u64 d.x2, .int .u64 d.x3], .bool false, .bool true, .bool true, u56, u57, u58, u59, u60, u61, u62, u63, u64, u65, u66, u67, u68, u69, u70, u71, u72, u73, u74, u75, u76, u77, u78, u79, u80, u81, u82, u83, u84, u85, u86, u87, u88, u89, u90, u91, u92, u93, u94, u95, u96, u97, u98, u99, u100, u101, u102, u103, u104, u105, u106, u107, u108, u109, u110, u111, u112, u113, u114, u115, u116, u117, u118, u119, u120, u121], []⟩ wz)) : (Code.region 6 al6o true).wp Tryd.prog Q ⟨#[u0, u1, .pointer (some ⟨B2, 0, none⟩), .pointer (some ⟨B3, 0, none⟩), u4, .int .i64 (k : Int), u6, u7, u8, u9, u10, u11, u12, u13, u14, u15, u16, u17, u18, u19, u20, u21, u22, u23, u24, u25, u26, u27, u28, u29, u30, u31, u32, u33, u34, u35, u36, u37, u38, u39, u40, u41, u42, u43, u44, u45, u46, u47, u48, u49, u50, u51, u52, u53, u54, u55, u56, u57, u58, u59, u60, u61, u62, u63, u64, u65, u66, u67, u68, u69, u70, u71, u72, u73, u74, u75, u76, u77, u78, u79, u80, u81, u82, u83, u84, u85, u86, u87, u88, u89, u90, u91, u92, u93, u94, u95, u96, u97, u98, u99, u100, u101, u102, u103, u104, u105, u106, u107, u108, u109, u110, u111, u112, u113, u114, u115, u116, u117, u118, u119, u120, u121], []⟩ W := by
  have k0 : (0 : Int) ≤ (k : Int) := by omega
  have k1 : (k : Int) < (n : Int) := by omega
  clear hk
  refine wp_region_noPanic ?_
  refine wp_region_held_drew (S := fun x => Below W.heap.size W x ∧ x.cell? ⟨B2, 28, none⟩ = some (.slice (some ⟨p1, q1, none⟩) n c1) ∧ x.cell? ⟨B2, 29, none⟩ = some (.slice (some ⟨p2, q2, none⟩) n c2) ∧ x.cell? ⟨B3, 28, none⟩ = some (.slice (some ⟨p3, q3, none⟩) n c3) ∧ x.cell? ⟨B3, 29, none⟩ = some (.slice (some ⟨p4, q4, none⟩) n c4) ∧ x.cell? ⟨p1, q1 + k * 4, none⟩ = some (.int .u64 a.x0) ∧ x.cell? ⟨p1, q1 + k * 4 + 1, none⟩ = some (.int .u64 a.x1) ∧ x.cell? ⟨p1, q1 + k * 4 + 2, none⟩ = some (.int .u64 a.x2) ∧ x.cell? ⟨p1, q1 + k * 4 + 3, none⟩ = some (.int .u64 a.x3) ∧ x.cell? ⟨p2, q2 + k * 4, none⟩ = some (.int .u64 b.x0) ∧ x.cell? ⟨p2, q2 + k * 4 + 1, none⟩ = some (.int .u64 b.x1) ∧ x.cell? ⟨p2, q2 + k * 4 + 2, none⟩ = some (.int .u64 b.x2) ∧ x.cell? ⟨p2, q2 + k * 4 + 3, none⟩ = some (.int .u64 b.x3) ∧ x.cell? ⟨p3, q3 + k * 4, none⟩ = some (.int .u64 c.x0) ∧ x.cell? ⟨p3, q3 + k * 4 + 1, none⟩ = some (.int .u64 c.x1) ∧ x.cell? ⟨p3, q3 + k * 4 + 2, none⟩ = some (.int .u64 c.x2) ∧ x.cell? ⟨p3, q3 + k * 4 + 3, none⟩ = some (.int .u64 c.x3) ∧ x.cell? ⟨p4, q4 + k * 4, none⟩ = some (.int .u64 d.x0) ∧ x.cell? ⟨p4, q4 + k * 4 + 1, none⟩ = some (.int .u64 d.x1) ∧ x.cell? ⟨p4, q4 + k * 4 + 2, none⟩ = some (.int .u64 d.x2) ∧ x.cell? ⟨p4, q4 + k * 4 + 3, none⟩ = some (.int .u64 d.x3)) (by kernel_rfl) (SK.out _ (Tr.drew_blW W)) (fun hHeld => ?_)
  change wpAnyH Tryd.prog .any al6o _ _ 26 #[false, false, false, false, false, false, false, false, false, false, false, false, false, false, false, false, false, false, false, false, false, false, false, false, false, false] _ _
  refine wpAnyH_take (i := 0) (oi := { dst := some 30, op := Op.fieldAddr 35 (Operand.tmp 2) 7, type := 0, pos := "outright.go:159", after := #[], guard := none }) (v := .pointer (some ⟨B2, 28, none⟩)) rfl (by kernel_rfl) (by kernel_rfl) (by kernel_rfl) (fun _ _ _ h => h) (Or.inl ⟨by rfl, fun w0 hSw => ?_⟩) hHeld ?_
  · (obtain ⟨s0, s1, s2, s3, s4, s5, s6, s7, s8, s9, s10, s11, s12, s13, s14, s15, s16, s17, s18, s19, s20⟩ := hSw; clear s0; go_simp)
  simp only [Act.put, List.setIfInBounds_toArray, List.set_cons_zero, List.set_cons_succ]
  refine wpAnyH_take (i := 1) (oi := { dst := some 31, op := Op.load 33 (Operand.tmp 30), type := 33, pos := "outright.go:159", after := #[{ on := 0, ground := Ground.data }], guard := none }) (v := .slice (some ⟨p1, q1, none⟩) n c1) rfl (by kernel_rfl) (by kernel_rfl) (by kernel_rfl) (fun _ _ _ h => h) (Or.inl ⟨by rfl, fun w0 hSw => ?_⟩) hHeld ?_
  · (obtain ⟨s0, s1, s2, s3, s4, s5, s6, s7, s8, s9, s10, s11, s12, s13, s14, s15, s16, s17, s18, s19, s20⟩ := hSw; clear s0; go_simp)
  simp only [Act.put, List.setIfInBounds_toArray, List.set_cons_zero, List.set_cons_succ]
  refine wpAnyH_take (i := 2) (oi := { dst := some 32, op := Op.move (Operand.tmp 5), type := 3, pos := "outright.go:159", after := #[], guard := none }) (v := .int .i64 (k : Int)) rfl (by kernel_rfl) (by kernel_rfl) (by kernel_rfl) (fun _ _ _ h => h) (Or.inl ⟨by rfl, fun w0 hSw => ?_⟩) hHeld ?_
  · (obtain ⟨s0, s1, s2, s3, s4, s5, s6, s7, s8, s9, s10, s11, s12, s13, s14, s15, s16, s17, s18, s19, s20⟩ := hSw; clear s0; go_simp)
  simp only [Act.put, List.setIfInBounds_toArray, List.set_cons_zero, List.set_cons_succ]
  refine wpAnyH_take (i := 3) (oi := { dst := some 33, op := Op.indexAddr 33 (Operand.tmp 31) (Operand.tmp 32), type := 0, pos := "outright.go:159", after := #[{ on := 1, ground := Ground.data }, { on := 2, ground := Ground.data }], guard := none }) (v := .pointer (some ⟨p1, q1 + k * 4, none⟩)) rfl (by kernel_rfl) (by kernel_rfl) (by kernel_rfl) (fun _ _ _ h => h) (Or.inl ⟨by rfl, fun w0 hSw => ?_⟩) hHeld ?_
  · (obtain ⟨s0, s1, s2, s3, s4, s5, s6, s7, s8, s9, s10, s11, s12, s13, s14, s15, s16, s17, s18, s19, s20⟩ := hSw; clear s0; go_simp)
  simp only [Act.put, List.setIfInBounds_toArray, List.set_cons_zero, List.set_cons_succ]
  refine wpAnyH_take (i := 4) (oi := { dst := some 34, op := Op.load 32 (Operand.tmp 33), type := 32, pos := "outright.go:159", after := #[{ on := 3, ground := Ground.data }], guard := none }) (v := .agg #[.int .u64 a.x0, .int .u64 a.x1, .int .u64 a.x2, .int .u64 a.x3]) rfl (by kernel_rfl) (by kernel_rfl) (by kernel_rfl) (fun _ _ _ h => h) (Or.inl ⟨by rfl, fun w0 hSw => ?_⟩) hHeld ?_
  · (obtain ⟨s0, s1, s2, s3, s4, s5, s6, s7, s8, s9, s10, s11, s12, s13, s14, s15, s16, s17, s18, s19, s20⟩ := hSw; clear s0; go_simp)
  simp only [Act.put, List.setIfInBounds_toArray, List.set_cons_zero, List.set_cons_succ]
  refine wpAnyH_take (i := 5) (oi := { dst := some 35, op := Op.fieldAddr 35 (Operand.tmp 3) 7, type := 0, pos := "outright.go:159", after := #[], guard := none }) (v := .pointer (some ⟨B3, 28, none⟩)) rfl (by kernel_rfl) (by kernel_rfl) (by kernel_rfl) (fun _ _ _ h => h) (Or.inl ⟨by rfl, fun w0 hSw => ?_⟩) hHeld ?_
  · (obtain ⟨s0, s1, s2, s3, s4, s5, s6, s7, s8, s9, s10, s11, s12, s13, s14, s15, s16, s17, s18, s19, s20⟩ := hSw; clear s0; go_simp)
  simp only [Act.put, List.setIfInBounds_toArray, List.set_cons_zero, List.set_cons_succ]
  refine wpAnyH_take (i := 6) (oi := { dst := some 36, op := Op.load 33 (Operand.tmp 35), type := 33, pos := "outright.go:159", after := #[{ on := 5, ground := Ground.data }], guard := none }) (v := .slice (some ⟨p3, q3, none⟩) n c3) rfl (by kernel_rfl) (by kernel_rfl) (by kernel_rfl) (fun _ _ _ h => h) (Or.inl ⟨by rfl, fun w0 hSw => ?_⟩) hHeld ?_
  · (obtain ⟨s0, s1, s2, s3, s4, s5, s6, s7, s8, s9, s10, s11, s12, s13, s14, s15, s16, s17, s18, s19, s20⟩ := hSw; clear s0; go_simp)
  simp only [Act.put, List.setIfInBounds_toArray, List.set_cons_zero, List.set_cons_succ]
  refine wpAnyH_take (i := 7) (oi := { dst := some 37, op := Op.move (Operand.tmp 5), type := 3, pos := "outright.go:159", after := #[], guard := none }) (v := .int .i64 (k : Int)) rfl (by kernel_rfl) (by kernel_rfl) (by kernel_rfl) (fun _ _ _ h => h) (Or.inl ⟨by rfl, fun w0 hSw => ?_⟩) hHeld ?_
  · (obtain ⟨s0, s1, s2, s3, s4, s5, s6, s7, s8, s9, s10, s11, s12, s13, s14, s15, s16, s17, s18, s19, s20⟩ := hSw; clear s0; go_simp)
  simp only [Act.put, List.setIfInBounds_toArray, List.set_cons_zero, List.set_cons_succ]
  refine wpAnyH_take (i := 8) (oi := { dst := some 38, op := Op.indexAddr 33 (Operand.tmp 36) (Operand.tmp 37), type := 0, pos := "outright.go:159", after := #[{ on := 6, ground := Ground.data }, { on := 7, ground := Ground.data }], guard := none }) (v := .pointer (some ⟨p3, q3 + k * 4, none⟩)) rfl (by kernel_rfl) (by kernel_rfl) (by kernel_rfl) (fun _ _ _ h => h) (Or.inl ⟨by rfl, fun w0 hSw => ?_⟩) hHeld ?_
  · (obtain ⟨s0, s1, s2, s3, s4, s5, s6, s7, s8, s9, s10, s11, s12, s13, s14, s15, s16, s17, s18, s19, s20⟩ := hSw; clear s0; go_simp)
  simp only [Act.put, List.setIfInBounds_toArray, List.set_cons_zero, List.set_cons_succ]
  refine wpAnyH_take (i := 9) (oi := { dst := some 39, op := Op.load 32 (Operand.tmp 38), type := 32, pos := "outright.go:159", after := #[{ on := 8, ground := Ground.data }], guard := none }) (v := .agg #[.int .u64 c.x0, .int .u64 c.x1, .int .u64 c.x2, .int .u64 c.x3]) rfl (by kernel_rfl) (by kernel_rfl) (by kernel_rfl) (fun _ _ _ h => h) (Or.inl ⟨by rfl, fun w0 hSw => ?_⟩) hHeld ?_
  · (obtain ⟨s0, s1, s2, s3, s4, s5, s6, s7, s8, s9, s10, s11, s12, s13, s14, s15, s16, s17, s18, s19, s20⟩ := hSw; clear s0; go_simp)
  simp only [Act.put, List.setIfInBounds_toArray, List.set_cons_zero, List.set_cons_succ]
  refine wpAnyH_ready (rs := [10]) (by kernel_rfl) (by simp) ?_
  refine AllReadyH.cons (o := { dst := some 40, op := Op.call { callee := Callee.value (Operand.func 21), args := #[Operand.tmp 34, Operand.tmp 39], argTypes := #[32, 32] }, type := 4, pos := "outright.go:159", after := #[{ on := 4, ground := Ground.data }, { on := 9, ground := Ground.data }], guard := none }) rfl (fun K hK => ?_) AllReadyH.nil
  have HH := hidden hHeld
  clear hHeld
  go_simp
  refine (C1.out _ HH.out.1).mono ?_
  rintro e wn1 ⟨rfl, hb⟩
  have SN := hidden (SK.out _ (bl_trans HH.out.1 hb))
  clear HH hb C1
  go_wp2_with fail
  refine hK.out _ _ SN.out (fun hH1 => ?_)
  clear hK K SN
  refine wpAnyH_take (i := 11) (oi := { dst := some 41, op := Op.unOp UnOp.not 4 (Operand.tmp 40), type := 4, pos := "outright.go:159", after := #[{ on := 10, ground := Ground.data }], guard := none }) (v := .bool false) rfl (by kernel_rfl) (by kernel_rfl) (by kernel_rfl) (fun _ _ _ h => h) (Or.inl ⟨by rfl, fun w0 hSw => ?_⟩) hH1 ?_
  · (clear hSw; go_simp)
  simp only [Act.put, List.setIfInBounds_toArray, List.set_cons_zero, List.set_cons_succ]
  refine wpAnyH_take (i := 12) (oi := { dst := some 42, op := Op.move (Operand.tmp 41), type := 4, pos := "outright.go:159", after := #[{ on := 11, ground := Ground.data }, { on := 10, ground := Ground.chain }], guard := none }) (v := .bool false) rfl (by kernel_rfl) (by kernel_rfl) (by kernel_rfl) (fun _ _ _ h => h) (Or.inl ⟨by rfl, fun w0 hSw => ?_⟩) hH1 ?_
  · (clear hSw; go_simp)
  simp only [Act.put, List.setIfInBounds_toArray, List.set_cons_zero, List.set_cons_succ]
  refine wpAnyH_take (i := 13) (oi := { dst := some 43, op := Op.fieldAddr 35 (Operand.tmp 2) 8, type := 0, pos := "outright.go:159", after := #[{ on := 12, ground := Ground.guard }], guard := some (12, false) }) (v := .pointer (some ⟨B2, 29, none⟩)) rfl (by kernel_rfl) (by kernel_rfl) (by kernel_rfl) (fun _ _ _ h => h) (Or.inl ⟨by rfl, fun w0 hSw => ?_⟩) hH1 ?_
  · (obtain ⟨s0, s1, s2, s3, s4, s5, s6, s7, s8, s9, s10, s11, s12, s13, s14, s15, s16, s17, s18, s19, s20⟩ := hSw; clear s0; go_simp)
  simp only [Act.put, List.setIfInBounds_toArray, List.set_cons_zero, List.set_cons_succ]
  refine wpAnyH_take (i := 14) (oi := { dst := some 44, op := Op.load 33 (Operand.tmp 43), type := 33, pos := "outright.go:159", after := #[{ on := 13, ground := Ground.data }, { on := 12, ground := Ground.guard }], guard := some (12, false) }) (v := .slice (some ⟨p2, q2, none⟩) n c2) rfl (by kernel_rfl) (by kernel_rfl) (by kernel_rfl) (fun _ _ _ h => h) (Or.inl ⟨by rfl, fun w0 hSw => ?_⟩) hH1 ?_
  · (obtain ⟨s0, s1, s2, s3, s4, s5, s6, s7, s8, s9, s10, s11, s12, s13, s14, s15, s16, s17, s18, s19, s20⟩ := hSw; clear s0; go_simp)
  simp only [Act.put, List.setIfInBounds_toArray, List.set_cons_zero, List.set_cons_succ]
  refine wpAnyH_take (i := 15) (oi := { dst := some 45, op := Op.move (Operand.tmp 5), type := 3, pos := "outright.go:159", after := #[{ on := 12, ground := Ground.guard }], guard := some (12, false) }) (v := .int .i64 (k : Int)) rfl (by kernel_rfl) (by kernel_rfl) (by kernel_rfl) (fun _ _ _ h => h) (Or.inl ⟨by rfl, fun w0 hSw => ?_⟩) hH1 ?_
  · (obtain ⟨s0, s1, s2, s3, s4, s5, s6, s7, s8, s9, s10, s11, s12, s13, s14, s15, s16, s17, s18, s19, s20⟩ := hSw; clear s0; go_simp)
  simp only [Act.put, List.setIfInBounds_toArray, List.set_cons_zero, List.set_cons_succ]
  refine wpAnyH_take (i := 16) (oi := { dst := some 46, op := Op.indexAddr 33 (Operand.tmp 44) (Operand.tmp 45), type := 0, pos := "outright.go:159", after := #[{ on := 14, ground := Ground.data }, { on := 15, ground := Ground.data }, { on := 12, ground := Ground.guard }], guard := some (12, false) }) (v := .pointer (some ⟨p2, q2 + k * 4, none⟩)) rfl (by kernel_rfl) (by kernel_rfl) (by kernel_rfl) (fun _ _ _ h => h) (Or.inl ⟨by rfl, fun w0 hSw => ?_⟩) hH1 ?_
  · (obtain ⟨s0, s1, s2, s3, s4, s5, s6, s7, s8, s9, s10, s11, s12, s13, s14, s15, s16, s17, s18, s19, s20⟩ := hSw; clear s0; go_simp)
  simp only [Act.put, List.setIfInBounds_toArray, List.set_cons_zero, List.set_cons_succ]
  refine wpAnyH_take (i := 17) (oi := { dst := some 47, op := Op.load 32 (Operand.tmp 46), type := 32, pos := "outright.go:159", after := #[{ on := 16, ground := Ground.data }, { on := 12, ground := Ground.guard }], guard := some (12, false) }) (v := .agg #[.int .u64 b.x0, .int .u64 b.x1, .int .u64 b.x2, .int .u64 b.x3]) rfl (by kernel_rfl) (by kernel_rfl) (by kernel_rfl) (fun _ _ _ h => h) (Or.inl ⟨by rfl, fun w0 hSw => ?_⟩) hH1 ?_
  · (obtain ⟨s0, s1, s2, s3, s4, s5, s6, s7, s8, s9, s10, s11, s12, s13, s14, s15, s16, s17, s18, s19, s20⟩ := hSw; clear s0; go_simp)
  simp only [Act.put, List.setIfInBounds_toArray, List.set_cons_zero, List.set_cons_succ]
  refine wpAnyH_take (i := 18) (oi := { dst := some 48, op := Op.fieldAddr 35 (Operand.tmp 3) 8, type := 0, pos := "outright.go:159", after := #[{ on := 12, ground := Ground.guard }], guard := some (12, false) }) (v := .pointer (some ⟨B3, 29, none⟩)) rfl (by kernel_rfl) (by kernel_rfl) (by kernel_rfl) (fun _ _ _ h => h) (Or.inl ⟨by rfl, fun w0 hSw => ?_⟩) hH1 ?_
  · (obtain ⟨s0, s1, s2, s3, s4, s5, s6, s7, s8, s9, s10, s11, s12, s13, s14, s15, s16, s17, s18, s19, s20⟩ := hSw; clear s0; go_simp)
  simp only [Act.put, List.setIfInBounds_toArray, List.set_cons_zero, List.set_cons_succ]
  refine wpAnyH_take (i := 19) (oi := { dst := some 49, op := Op.load 33 (Operand.tmp 48), type := 33, pos := "outright.go:159", after := #[{ on := 18, ground := Ground.data }, { on := 12, ground := Ground.guard }], guard := some (12, false) }) (v := .slice (some ⟨p4, q4, none⟩) n c4) rfl (by kernel_rfl) (by kernel_rfl) (by kernel_rfl) (fun _ _ _ h => h) (Or.inl ⟨by rfl, fun w0 hSw => ?_⟩) hH1 ?_
  · (obtain ⟨s0, s1, s2, s3, s4, s5, s6, s7, s8, s9, s10, s11, s12, s13, s14, s15, s16, s17, s18, s19, s20⟩ := hSw; clear s0; go_simp)
  simp only [Act.put, List.setIfInBounds_toArray, List.set_cons_zero, List.set_cons_succ]
  refine wpAnyH_take (i := 20) (oi := { dst := some 50, op := Op.move (Operand.tmp 5), type := 3, pos := "outright.go:159", after := #[{ on := 12, ground := Ground.guard }], guard := some (12, false) }) (v := .int .i64 (k : Int)) rfl (by kernel_rfl) (by kernel_rfl) (by kernel_rfl) (fun _ _ _ h => h) (Or.inl ⟨by rfl, fun w0 hSw => ?_⟩) hH1 ?_
  · (obtain ⟨s0, s1, s2, s3, s4, s5, s6, s7, s8, s9, s10, s11, s12, s13, s14, s15, s16, s17, s18, s19, s20⟩ := hSw; clear s0; go_simp)
  simp only [Act.put, List.setIfInBounds_toArray, List.set_cons_zero, List.set_cons_succ]
  refine wpAnyH_take (i := 21) (oi := { dst := some 51, op := Op.indexAddr 33 (Operand.tmp 49) (Operand.tmp 50), type := 0, pos := "outright.go:159", after := #[{ on := 19, ground := Ground.data }, { on := 20, ground := Ground.data }, { on := 12, ground := Ground.guard }], guard := some (12, false) }) (v := .pointer (some ⟨p4, q4 + k * 4, none⟩)) rfl (by kernel_rfl) (by kernel_rfl) (by kernel_rfl) (fun _ _ _ h => h) (Or.inl ⟨by rfl, fun w0 hSw => ?_⟩) hH1 ?_
  · (obtain ⟨s0, s1, s2, s3, s4, s5, s6, s7, s8, s9, s10, s11, s12, s13, s14, s15, s16, s17, s18, s19, s20⟩ := hSw; clear s0; go_simp)
  simp only [Act.put, List.setIfInBounds_toArray, List.set_cons_zero, List.set_cons_succ]
  refine wpAnyH_take (i := 22) (oi := { dst := some 52, op := Op.load 32 (Operand.tmp 51), type := 32, pos := "outright.go:159", after := #[{ on := 21, ground := Ground.data }, { on := 12, ground := Ground.guard }], guard := some (12, false) }) (v := .agg #[.int .u64 d.x0, .int .u64 d.x1, .int .u64 d.x2, .int .u64 d.x3]) rfl (by kernel_rfl) (by kernel_rfl) (by kernel_rfl) (fun _ _ _ h => h) (Or.inl ⟨by rfl, fun w0 hSw => ?_⟩) hH1 ?_
  · (obtain ⟨s0, s1, s2, s3, s4, s5, s6, s7, s8, s9, s10, s11, s12, s13, s14, s15, s16, s17, s18, s19, s20⟩ := hSw; clear s0; go_simp)
  simp only [Act.put, List.setIfInBounds_toArray, List.set_cons_zero, List.set_cons_succ]
  refine wpAnyH_ready (rs := [23]) (by kernel_rfl) (by simp) ?_
  refine AllReadyH.cons (o := { dst := some 53, op := Op.call { callee := Callee.value (Operand.func 21), args := #[Operand.tmp 47, Operand.tmp 52], argTypes := #[32, 32] }, type := 4, pos := "outright.go:159", after := #[{ on := 17, ground := Ground.data }, { on := 22, ground := Ground.data }, { on := 12, ground := Ground.chain }, { on := 12, ground := Ground.guard }], guard := some (12, false) }) rfl (fun K hK => ?_) AllReadyH.nil
  have HH := hidden hH1
  clear hH1
  go_simp
  refine (C2.out _ HH.out.1).mono ?_
  rintro e wn2 ⟨rfl, hb⟩
  have SN := hidden (SK.out _ (bl_trans HH.out.1 hb))
  clear HH hb C2
  go_wp2_with fail
  refine hK.out _ _ SN.out (fun hH2 => ?_)
  clear hK K SN
  refine wpAnyH_take (i := 24) (oi := { dst := some 54, op := Op.unOp UnOp.not 4 (Operand.tmp 53), type := 4, pos := "outright.go:159", after := #[{ on := 23, ground := Ground.data }, { on := 12, ground := Ground.guard }], guard := some (12, false) }) (v := .bool true) rfl (by kernel_rfl) (by kernel_rfl) (by kernel_rfl) (fun _ _ _ h => h) (Or.inl ⟨by rfl, fun w0 hSw => ?_⟩) hH2 ?_
  · (clear hSw; go_simp)
  simp only [Act.put, List.setIfInBounds_toArray, List.set_cons_zero, List.set_cons_succ]
  refine wpAnyH_take (i := 25) (oi := { dst := some 55, op := Op.pick (Operand.tmp 42) (Operand.const (Value.bool true)) (Operand.tmp 54), type := 4, pos := "outright.go:159", after := #[{ on := 12, ground := Ground.data }, { on := 24, ground := Ground.data }], guard := none }) (v := .bool true) rfl (by kernel_rfl) (by kernel_rfl) (by kernel_rfl) (fun _ _ _ h => h) (Or.inl ⟨by rfl, fun w0 hSw => ?_⟩) hH2 ?_
  · (clear hSw; go_simp)
  simp only [Act.put, List.setIfInBounds_toArray, List.set_cons_zero, List.set_cons_succ]
  refine wpAnyH_done (by kernel_rfl) ?_ _
  refine NoPanic.normal ?_
  exact HQ.out _ hH2.1
set_option maxRecDepth 100000 in
set_option maxHeartbeats 16000000 in
theorem al6_ok (Q : Exit → Act → World → Prop) (B2 B3 p1 q1 c1 p2 q2 c2 p3 q3 c3 p4 q4 c4 n k : Nat) (a b c d : E4) (u0 u1 u4 u6 u7 u8 u9 u10 u11 u12 u13 u14 u15 u16 u17 u18 u19 u20 u21 u22 u23 u24 u25 u26 u27 u28 u29 u30 u31 u32 u33 u34 u35 u36 u37 u38 u39 u40 u41 u42 u43 u44 u45 u46 u47 u48 u49 u50 u51 u52 u53 u54 u55 u56 u57 u58 u59 u60 u61 u62 u63 u64 u65 u66 u67 u68 u69 u70 u71 u72 u73 u74 u75 u76 u77 u78 u79 u80 u81 u82 u83 u84 u85 u86 u87 u88 u89 u90 u91 u92 u93 u94 u95 u96 u97 u98 u99 u100 u101 u102 u103 u104 u105 u106 u107 u108 u109 u110 u111 u112 u113 u114 u115 u116 u117 u118 u119 u120 u121 : Value) (W : World) (hk : k < n)
    (SK : Hid (∀ x, Below W.heap.size W x → Below W.heap.size W x ∧ x.cell? ⟨B2, 28, none⟩ = some (.slice (some ⟨p1, q1, none⟩) n c1) ∧ x.cell? ⟨B2, 29, none⟩ = some (.slice (some ⟨p2, q2, none⟩) n c2) ∧ x.cell? ⟨B3, 28, none⟩ = some (.slice (some ⟨p3, q3, none⟩) n c3) ∧ x.cell? ⟨B3, 29, none⟩ = some (.slice (some ⟨p4, q4, none⟩) n c4) ∧ x.cell? ⟨p1, q1 + k * 4, none⟩ = some (.int .u64 a.x0) ∧ x.cell? ⟨p1, q1 + k * 4 + 1, none⟩ = some (.int .u64 a.x1) ∧ x.cell? ⟨p1, q1 + k * 4 + 2, none⟩ = some (.int .u64 a.x2) ∧ x.cell? ⟨p1, q1 + k * 4 + 3, none⟩ = some (.int .u64 a.x3) ∧ x.cell? ⟨p2, q2 + k * 4, none⟩ = some (.int .u64 b.x0) ∧ x.cell? ⟨p2, q2 + k * 4 + 1, none⟩ = some (.int .u64 b.x1) ∧ x.cell? ⟨p2, q2 + k * 4 + 2, none⟩ = some (.int .u64 b.x2) ∧ x.cell? ⟨p2, q2 + k * 4 + 3, none⟩ = some (.int .u64 b.x3) ∧ x.cell? ⟨p3, q3 + k * 4, none⟩ = some (.int .u64 c.x0) ∧ x.cell? ⟨p3, q3 + k * 4 + 1, none⟩ = some (.int .u64 c.x1) ∧ x.cell? ⟨p3, q3 + k * 4 + 2, none⟩ = some (.int .u64 c.x2) ∧ x.cell? ⟨p3, q3 + k * 4 + 3, none⟩ = some (.int .u64 c.x3) ∧ x.cell? ⟨p4, q4 + k * 4, none⟩ = some (.int .u64 d.x0) ∧ x.cell? ⟨p4, q4 + k * 4 + 1, none⟩ = some (.int .u64 d.x1) ∧ x.cell? ⟨p4, q4 + k * 4 + 2, none⟩ = some (.int .u64 d.x2) ∧ x.cell? ⟨p4, q4 + k * 4 + 3, none⟩ = some (.int .u64 d.x3)))
    (C1 : Hid (∀ x, Below W.heap.size W x → Calls Tryd.prog 21 #[.agg #[.int .u64 a.x0, .int .u64 a.x1, .int .u64 a.x2, .int .u64 a.x3], .agg #[.int .u64 c.x0, .int .u64 c.x1, .int .u64 c.x2, .int .u64 c.x3]] x fun e w' => e = .returned (.bool true) ∧ Below x.heap.size x w')) (C2 : Hid (∀ x, Below W.heap.size W x → Calls Tryd.prog 21 #[.agg #[.int .u64 b.x0, .int .u64 b.x1, .int .u64 b.x2, .int .u64 b.x3], .agg #[.int .u64 d.x0, .int .u64 d.x1, .int .u64 d.x2, .int .u64 d.x3]] x fun e w' => e = .returned (.bool true) ∧ Below x.heap.size x w'))
    (HQ : Hid (∀ wz, Below W.heap.size W wz → Q .normal ⟨#[u0, u1, .pointer (some ⟨B2, 0, none⟩), .pointer (some ⟨B3, 0, none⟩), u4, .int .i64 (k : Int), u6, u7, u8, u9, u10, u11, u12, u13, u14, u15, u16, u17, u18, u19, u20, u21, u22, u23, u24, u25, u26, u27, u28, u29, .pointer (some ⟨B2, 28, none⟩), .slice (some ⟨p1, q1, none⟩) n c1, .int .i64 (k : Int), .pointer (some ⟨p1, q1 + k * 4, none⟩), .agg #[.int .u64 a.x0, .int .u64 a.x1, .int .u64 a.x2, .int .u64 a.x3], .pointer (some ⟨B3, 28, none⟩), .slice (some ⟨p3, q3, none⟩) n c3, .int .i64 (k : Int), .pointer (some ⟨p3, q3 + k * 4, none⟩), .agg #[.int .u64 c.x0, .int .u64 c.x1, .int .u64 c.x2, .int .u64 c.x3], .bool true, .bool false, .bool false, .pointer (some ⟨B2, 29, none⟩), .slice (some ⟨p2, q2, none⟩) n c2, .int .i64 (k : Int), .pointer (some ⟨p2, q2 + k * 4, none⟩), .agg #[.int .u64 b.x0, .int .u64 b.x1, .int .u64 b.x2, .int .u64 b.x3], .pointer (some ⟨B3, 29, none⟩), .slice (some ⟨p4, q4, none⟩) n c4, .int .i64 (k : Int), .pointer (some ⟨p4, q4 + k * 4, none⟩), .agg #[.int .u64 d.x0, .int .u64 d.x1, .int .u64 d.x2, .int .u64 d.x3], .bool true, .bool false, .bool false, u56, u57, u58, u59, u60, u61, u62, u63, u64, u65, u66, u67, u68, u69, u70, u71, u72, u73, u74, u75, u76, u77, u78, u79, u80, u81, u82, u83, u84, u85, u86, u87, u88, u89, u90, u91, u92, u93, u94, u95, u96, u97, u98, u99, u100, u101, u102, u103, u104, u105, u106, u107, u108, u109, u110, u111, u112, u113, u114, u115, u116, u117, u118, u119, u120, u121], []⟩ wz)) : (Code.region 6 al6o true).wp Tryd.prog Q ⟨#[u0, u1, .pointer (some ⟨B2, 0, none⟩), .pointer (some ⟨B3, 0, none⟩), u4, .int .i64 (k : Int), u6, u7, u8, u9, u10, u11, u12, u13, u14, u15, u16, u17, u18, u19, u20, u21, u22, u23, u24, u25, u26, u27, u28, u29, u30, u31, u32, u33, u34, u35, u36, u37, u38, u39, u40, u41, u42, u43, u44, u45, u46, u47, u48, u49, u50, u51, u52, u53, u54, u55, u56, u57, u58, u59, u60, u61, u62, u63, u64, u65, u66, u67, u68, u69, u70, u71, u72, u73, u74, u75, u76, u77, u78, u79, u80, u81, u82, u83, u84, u85, u86, u87, u88, u89, u90, u91, u92, u93, u94, u95, u96, u97, u98, u99, u100, u101, u102, u103, u104, u105, u106, u107, u108, u109, u110, u111, u112, u113, u114, u115, u116, u117, u118, u119, u120, u121], []⟩ W := by
  have k0 : (0 : Int) ≤ (k : Int) := by omega
  have k1 : (k : Int) < (n : Int) := by omega
  clear hk
  refine wp_region_noPanic ?_
  refine wp_region_held_drew (S := fun x => Below W.heap.size W x ∧ x.cell? ⟨B2, 28, none⟩ = some (.slice (some ⟨p1, q1, none⟩) n c1) ∧ x.cell? ⟨B2, 29, none⟩ = some (.slice (some ⟨p2, q2, none⟩) n c2) ∧ x.cell? ⟨B3, 28, none⟩ = some (.slice (some ⟨p3, q3, none⟩) n c3) ∧ x.cell? ⟨B3, 29, none⟩ = some (.slice (some ⟨p4, q4, none⟩) n c4) ∧ x.cell? ⟨p1, q1 + k * 4, none⟩ = some (.int .u64 a.x0) ∧ x.cell? ⟨p1, q1 + k * 4 + 1, none⟩ = some (.int .u64 a.x1) ∧ x.cell? ⟨p1, q1 + k * 4 + 2, none⟩ = some (.int .u64 a.x2) ∧ x.cell? ⟨p1, q1 + k * 4 + 3, none⟩ = some (.int .u64 a.x3) ∧ x.cell? ⟨p2, q2 + k * 4, none⟩ = some (.int .u64 b.x0) ∧ x.cell? ⟨p2, q2 + k * 4 + 1, none⟩ = some (.int .u64 b.x1) ∧ x.cell? ⟨p2, q2 + k * 4 + 2, none⟩ = some (.int .u64 b.x2) ∧ x.cell? ⟨p2, q2 + k * 4 + 3, none⟩ = some (.int .u64 b.x3) ∧ x.cell? ⟨p3, q3 + k * 4, none⟩ = some (.int .u64 c.x0) ∧ x.cell? ⟨p3, q3 + k * 4 + 1, none⟩ = some (.int .u64 c.x1) ∧ x.cell? ⟨p3, q3 + k * 4 + 2, none⟩ = some (.int .u64 c.x2) ∧ x.cell? ⟨p3, q3 + k * 4 + 3, none⟩ = some (.int .u64 c.x3) ∧ x.cell? ⟨p4, q4 + k * 4, none⟩ = some (.int .u64 d.x0) ∧ x.cell? ⟨p4, q4 + k * 4 + 1, none⟩ = some (.int .u64 d.x1) ∧ x.cell? ⟨p4, q4 + k * 4 + 2, none⟩ = some (.int .u64 d.x2) ∧ x.cell? ⟨p4, q4 + k * 4 + 3, none⟩ = some (.int .u64 d.x3)) (by kernel_rfl) (SK.out _ (Tr.drew_blW W)) (fun hHeld => ?_)
  change wpAnyH Tryd.prog .any al6o _ _ 26 #[false, false, false, false, false, false, false, false, false, false, false, false, false, false, false, false, false, false, false, false, false, false, false, false, false, false] _ _
  refine wpAnyH_take (i := 0) (oi := { dst := some 30, op := Op.fieldAddr 35 (Operand.tmp 2) 7, type := 0, pos := "outright.go:159", after := #[], guard := none }) (v := .pointer (some ⟨B2, 28, none⟩)) rfl (by kernel_rfl) (by kernel_rfl) (by kernel_rfl) (fun _ _ _ h => h) (Or.inl ⟨by rfl, fun w0 hSw => ?_⟩) hHeld ?_
  · (obtain ⟨s0, s1, s2, s3, s4, s5, s6, s7, s8, s9, s10, s11, s12, s13, s14, s15, s16, s17, s18, s19, s20⟩ := hSw; clear s0; go_simp)
  simp only [Act.put, List.setIfInBounds_toArray, List.set_cons_zero, List.set_cons_succ]
  refine wpAnyH_take (i := 1) (oi := { dst := some 31, op := Op.load 33 (Operand.tmp 30), type := 33, pos := "outright.go:159", after := #[{ on := 0, ground := Ground.data }], guard := none }) (v := .slice (some ⟨p1, q1, none⟩) n c1) rfl (by kernel_rfl) (by kernel_rfl) (by kernel_rfl) (fun _ _ _ h => h) (Or.inl ⟨by rfl, fun w0 hSw => ?_⟩) hHeld ?_
  · (obtain ⟨s0, s1, s2, s3, s4, s5, s6, s7, s8, s9, s10, s11, s12, s13, s14, s15, s16, s17, s18, s19, s20⟩ := hSw; clear s0; go_simp)
  simp only [Act.put, List.setIfInBounds_toArray, List.set_cons_zero, List.set_cons_succ]
  refine wpAnyH_take (i := 2) (oi := { dst := some 32, op := Op.move (Operand.tmp 5), type := 3, pos := "outright.go:159", after := #[], guard := none }) (v := .int .i64 (k : Int)) rfl (by kernel_rfl) (by kernel_rfl) (by kernel_rfl) (fun _ _ _ h => h) (Or.inl ⟨by rfl, fun w0 hSw => ?_⟩) hHeld ?_
  · (obtain ⟨s0, s1, s2, s3, s4, s5, s6, s7, s8, s9, s10, s11, s12, s13, s14, s15, s16, s17, s18, s19, s20⟩ := hSw; clear s0; go_simp)
  simp only [Act.put, List.setIfInBounds_toArray, List.set_cons_zero, List.set_cons_succ]
  refine wpAnyH_take (i := 3) (oi := { dst := some 33, op := Op.indexAddr 33 (Operand.tmp 31) (Operand.tmp 32), type := 0, pos := "outright.go:159", after := #[{ on := 1, ground := Ground.data }, { on := 2, ground := Ground.data }], guard := none }) (v := .pointer (some ⟨p1, q1 + k * 4, none⟩)) rfl (by kernel_rfl) (by kernel_rfl) (by kernel_rfl) (fun _ _ _ h => h) (Or.inl ⟨by rfl, fun w0 hSw => ?_⟩) hHeld ?_
  · (obtain ⟨s0, s1, s2, s3, s4, s5, s6, s7, s8, s9, s10, s11, s12, s13, s14, s15, s16, s17, s18, s19, s20⟩ := hSw; clear s0; go_simp)
  simp only [Act.put, List.setIfInBounds_toArray, List.set_cons_zero, List.set_cons_succ]
  refine wpAnyH_take (i := 4) (oi := { dst := some 34, op := Op.load 32 (Operand.tmp 33), type := 32, pos := "outright.go:159", after := #[{ on := 3, ground := Ground.data }], guard := none }) (v := .agg #[.int .u64 a.x0, .int .u64 a.x1, .int .u64 a.x2, .int .u64 a.x3]) rfl (by kernel_rfl) (by kernel_rfl) (by kernel_rfl) (fun _ _ _ h => h) (Or.inl ⟨by rfl, fun w0 hSw => ?_⟩) hHeld ?_
  · (obtain ⟨s0, s1, s2, s3, s4, s5, s6, s7, s8, s9, s10, s11, s12, s13, s14, s15, s16, s17, s18, s19, s20⟩ := hSw; clear s0; go_simp)
  simp only [Act.put, List.setIfInBounds_toArray, List.set_cons_zero, List.set_cons_succ]
  refine wpAnyH_take (i := 5) (oi := { dst := some 35, op := Op.fieldAddr 35 (Operand.tmp 3) 7, type := 0, pos := "outright.go:159", after := #[], guard := none }) (v := .pointer (some ⟨B3, 28, none⟩)) rfl (by kernel_rfl) (by kernel_rfl) (by kernel_rfl) (fun _ _ _ h => h) (Or.inl ⟨by rfl, fun w0 hSw => ?_⟩) hHeld ?_
  · (obtain ⟨s0, s1, s2, s3, s4, s5, s6, s7, s8, s9, s10, s11, s12, s13, s14, s15, s16, s17, s18, s19, s20⟩ := hSw; clear s0; go_simp)
  simp only [Act.put, List.setIfInBounds_toArray, List.set_cons_zero, List.set_cons_succ]
  refine wpAnyH_take (i := 6) (oi := { dst := some 36, op := Op.load 33 (Operand.tmp 35), type := 33, pos := "outright.go:159", after := #[{ on := 5, ground := Ground.data }], guard := none }) (v := .slice (some ⟨p3, q3, none⟩) n c3) rfl (by kernel_rfl) (by kernel_rfl) (by kernel_rfl) (fun _ _ _ h => h) (Or.inl ⟨by rfl, fun w0 hSw => ?_⟩) hHeld ?_
  · (obtain ⟨s0, s1, s2, s3, s4, s5, s6, s7, s8, s9, s10, s11, s12, s13, s14, s15, s16, s17, s18, s19, s20⟩ := hSw; clear s0; go_simp)
  simp only [Act.put, List.setIfInBounds_toArray, List.set_cons_zero, List.set_cons_succ]
  refine wpAnyH_take (i := 7) (oi := { dst := some 37, op := Op.move (Operand.tmp 5), type := 3, pos := "outright.go:159", after := #[], guard := none }) (v := .int .i64 (k : Int)) rfl (by kernel_rfl) (by kernel_rfl) (by kernel_rfl) (fun _ _ _ h => h) (Or.inl ⟨by rfl, fun w0 hSw => ?_⟩) hHeld ?_
  · (obtain ⟨s0, s1, s2, s3, s4, s5, s6, s7, s8, s9, s10, s11, s12, s13, s14, s15, s16, s17, s18, s19, s20⟩ := hSw; clear s0; go_simp)
  simp only [Act.put, List.setIfInBounds_toArray, List.set_cons_zero, List.set_cons_succ]
  refine wpAnyH_take (i := 8) (oi := { dst := some 38, op := Op.indexAddr 33 (Operand.tmp 36) (Operand.tmp 37), type := 0, pos := "outright.go:159", after := #[{ on := 6, ground := Ground.data }, { on := 7, ground := Ground.data }], guard := none }) (v := .pointer (some ⟨p3, q3 + k * 4, none⟩)) rfl (by kernel_rfl) (by kernel_rfl) (by kernel_rfl) (fun _ _ _ h => h) (Or.inl ⟨by rfl, fun w0 hSw => ?_⟩) hHeld ?_
  · (obtain ⟨s0, s1, s2, s3, s4, s5, s6, s7, s8, s9, s10, s11, s12, s13, s14, s15, s16, s17, s18, s19, s20⟩ := hSw; clear s0; go_simp)
  simp only [Act.put, List.setIfInBounds_toArray, List.set_cons_zero, List.set_cons_succ]
  refine wpAnyH_take (i := 9) (oi := { dst := some 39, op := Op.load 32 (Operand.tmp 38), type := 32, pos := "outright.go:159", after := #[{ on := 8, ground := Ground.data }], guard := none }) (v := .agg #[.int .u64 c.x0, .int .u64 c.x1, .int .u64 c.x2, .int .u64 c.x3]) rfl (by kernel_rfl) (by kernel_rfl) (by kernel_rfl) (fun _ _ _ h => h) (Or.inl ⟨by rfl, fun w0 hSw => ?_⟩) hHeld ?_
  · (obtain ⟨s0, s1, s2, s3, s4, s5, s6, s7, s8, s9, s10, s11, s12, s13, s14, s15, s16, s17, s18, s19, s20⟩ := hSw; clear s0; go_simp)
  simp only [Act.put, List.setIfInBounds_toArray, List.set_cons_zero, List.set_cons_succ]
  refine wpAnyH_ready (rs := [10]) (by kernel_rfl) (by simp) ?_
  refine AllReadyH.cons (o := { dst := some 40, op := Op.call { callee := Callee.value (Operand.func 21), args := #[Operand.tmp 34, Operand.tmp 39], argTypes := #[32, 32] }, type := 4, pos := "outright.go:159", after := #[{ on := 4, ground := Ground.data }, { on := 9, ground := Ground.data }], guard := none }) rfl (fun K hK => ?_) AllReadyH.nil
  have HH := hidden hHeld
  clear hHeld
  go_simp
  refine (C1.out _ HH.out.1).mono ?_
  rintro e wn1 ⟨rfl, hb⟩
  have SN := hidden (SK.out _ (bl_trans HH.out.1 hb))
  clear HH hb C1
  go_wp2_with fail
  refine hK.out _ _ SN.out (fun hH1 => ?_)
  clear hK K SN
  refine wpAnyH_take (i := 11) (oi := { dst := some 41, op := Op.unOp UnOp.not 4 (Operand.tmp 40), type := 4, pos := "outright.go:159", after := #[{ on := 10, ground := Ground.data }], guard := none }) (v := .bool false) rfl (by kernel_rfl) (by kernel_rfl) (by kernel_rfl) (fun _ _ _ h => h) (Or.inl ⟨by rfl, fun w0 hSw => ?_⟩) hH1 ?_
  · (clear hSw; go_simp)
  simp only [Act.put, List.setIfInBounds_toArray, List.set_cons_zero, List.set_cons_succ]
  refine wpAnyH_take (i := 12) (oi := { dst := some 42, op := Op.move (Operand.tmp 41), type := 4, pos := "outright.go:159", after := #[{ on := 11, ground := Ground.data }, { on := 10, ground := Ground.chain }], guard := none }) (v := .bool false) rfl (by kernel_rfl) (by kernel_rfl) (by kernel_rfl) (fun _ _ _ h => h) (Or.inl ⟨by rfl, fun w0 hSw => ?_⟩) hH1 ?_
  · (clear hSw; go_simp)
  simp only [Act.put, List.setIfInBounds_toArray, List.set_cons_zero, List.set_cons_succ]
  refine wpAnyH_take (i := 13) (oi := { dst := some 43, op := Op.fieldAddr 35 (Operand.tmp 2) 8, type := 0, pos := "outright.go:159", after := #[{ on := 12, ground := Ground.guard }], guard := some (12, false) }) (v := .pointer (some ⟨B2, 29, none⟩)) rfl (by kernel_rfl) (by kernel_rfl) (by kernel_rfl) (fun _ _ _ h => h) (Or.inl ⟨by rfl, fun w0 hSw => ?_⟩) hH1 ?_
  · (obtain ⟨s0, s1, s2, s3, s4, s5, s6, s7, s8, s9, s10, s11, s12, s13, s14, s15, s16, s17, s18, s19, s20⟩ := hSw; clear s0; go_simp)
  simp only [Act.put, List.setIfInBounds_toArray, List.set_cons_zero, List.set_cons_succ]
  refine wpAnyH_take (i := 14) (oi := { dst := some 44, op := Op.load 33 (Operand.tmp 43), type := 33, pos := "outright.go:159", after := #[{ on := 13, ground := Ground.data }, { on := 12, ground := Ground.guard }], guard := some (12, false) }) (v := .slice (some ⟨p2, q2, none⟩) n c2) rfl (by kernel_rfl) (by kernel_rfl) (by kernel_rfl) (fun _ _ _ h => h) (Or.inl ⟨by rfl, fun w0 hSw => ?_⟩) hH1 ?_
  · (obtain ⟨s0, s1, s2, s3, s4, s5, s6, s7, s8, s9, s10, s11, s12, s13, s14, s15, s16, s17, s18, s19, s20⟩ := hSw; clear s0; go_simp)
  simp only [Act.put, List.setIfInBounds_toArray, List.set_cons_zero, List.set_cons_succ]
  refine wpAnyH_take (i := 15) (oi := { dst := some 45, op := Op.move (Operand.tmp 5), type := 3, pos := "outright.go:159", after := #[{ on := 12, ground := Ground.guard }], guard := some (12, false) }) (v := .int .i64 (k : Int)) rfl (by kernel_rfl) (by kernel_rfl) (by kernel_rfl) (fun _ _ _ h => h) (Or.inl ⟨by rfl, fun w0 hSw => ?_⟩) hH1 ?_
  · (obtain ⟨s0, s1, s2, s3, s4, s5, s6, s7, s8, s9, s10, s11, s12, s13, s14, s15, s16, s17, s18, s19, s20⟩ := hSw; clear s0; go_simp)
  simp only [Act.put, List.setIfInBounds_toArray, List.set_cons_zero, List.set_cons_succ]
  refine wpAnyH_take (i := 16) (oi := { dst := some 46, op := Op.indexAddr 33 (Operand.tmp 44) (Operand.tmp 45), type := 0, pos := "outright.go:159", after := #[{ on := 14, ground := Ground.data }, { on := 15, ground := Ground.data }, { on := 12, ground := Ground.guard }], guard := some (12, false) }) (v := .pointer (some ⟨p2, q2 + k * 4, none⟩)) rfl (by kernel_rfl) (by kernel_rfl) (by kernel_rfl) (fun _ _ _ h => h) (Or.inl ⟨by rfl, fun w0 hSw => ?_⟩) hH1 ?_
  · (obtain ⟨s0, s1, s2, s3, s4, s5, s6, s7, s8, s9, s10, s11, s12, s13, s14, s15, s16, s17, s18, s19, s20⟩ := hSw; clear s0; go_simp)
  simp only [Act.put, List.setIfInBounds_toArray, List.set_cons_zero, List.set_cons_succ]
  refine wpAnyH_take (i := 17) (oi := { dst := some 47, op := Op.load 32 (Operand.tmp 46), type := 32, pos := "outright.go:159", after := #[{ on := 16, ground := Ground.data }, { on := 12, ground := Ground.guard }], guard := some (12, false) }) (v := .agg #[.int .u64 b.x0, .int .u64 b.x1, .int .u64 b.x2, .int .u64 b.x3]) rfl (by kernel_rfl) (by kernel_rfl) (by kernel_rfl) (fun _ _ _ h => h) (Or.inl ⟨by rfl, fun w0 hSw => ?_⟩) hH1 ?_
  · (obtain ⟨s0, s1, s2, s3, s4, s5, s6, s7, s8, s9, s10, s11, s12, s13, s14, s15, s16, s17, s18, s19, s20⟩ := hSw; clear s0; go_simp)
  simp only [Act.put, List.setIfInBounds_toArray, List.set_cons_zero, List.set_cons_succ]
  refine wpAnyH_take (i := 18) (oi := { dst := some 48, op := Op.fieldAddr 35 (Operand.tmp 3) 8, type := 0, pos := "outright.go:159", after := #[{ on := 12, ground := Ground.guard }], guard := some (12, false) }) (v := .pointer (some ⟨B3, 29, none⟩)) rfl (by kernel_rfl) (by kernel_rfl) (by kernel_rfl) (fun _ _ _ h => h) (Or.inl ⟨by rfl, fun w0 hSw => ?_⟩) hH1 ?_
  · (obtain ⟨s0, s1, s2, s3, s4, s5, s6, s7, s8, s9, s10, s11, s12, s13, s14, s15, s16, s17, s18, s19, s20⟩ := hSw; clear s0; go_simp)
  simp only [Act.put, List.setIfInBounds_toArray, List.set_cons_zero, List.set_cons_succ]
  refine wpAnyH_take (i := 19) (oi := { dst := some 49, op := Op.load 33 (Operand.tmp 48), type := 33, pos := "outright.go:159", after := #[{ on := 18, ground := Ground.data }, { on := 12, ground := Ground.guard }], guard := some (12, false) }) (v := .slice (some ⟨p4, q4, none⟩) n c4) rfl (by kernel_rfl) (by kernel_rfl) (by kernel_rfl) (fun _ _ _ h => h) (Or.inl ⟨by rfl, fun w0 hSw => ?_⟩) hH1 ?_
  · (obtain ⟨s0, s1, s2, s3, s4, s5, s6, s7, s8, s9, s10, s11, s12, s13, s14, s15, s16, s17, s18, s19, s20⟩ := hSw; clear s0; go_simp)
  simp only [Act.put, List.setIfInBounds_toArray, List.set_cons_zero, List.set_cons_succ]
  refine wpAnyH_take (i := 20) (oi := { dst := some 50, op := Op.move (Operand.tmp 5), type := 3, pos := "outright.go:159", after := #[{ on := 12, ground := Ground.guard }], guard := some (12, false) }) (v := .int .i64 (k : Int)) rfl (by kernel_rfl) (by kernel_rfl) (by kernel_rfl) (fun _ _ _ h => h) (Or.inl ⟨by rfl, fun w0 hSw => ?_⟩) hH1 ?_
  · (obtain ⟨s0, s1, s2, s3, s4, s5, s6, s7, s8, s9, s10, s11, s12, s13, s14, s15, s16, s17, s18, s19, s20⟩ := hSw; clear s0; go_simp)
  simp only [Act.put, List.setIfInBounds_toArray, List.set_cons_zero, List.set_cons_succ]
  refine wpAnyH_take (i := 21) (oi := { dst := some 51, op := Op.indexAddr 33 (Operand.tmp 49) (Operand.tmp 50), type := 0, pos := "outright.go:159", after := #[{ on := 19, ground := Ground.data }, { on := 20, ground := Ground.data }, { on := 12, ground := Ground.guard }], guard := some (12, false) }) (v := .pointer (some ⟨p4, q4 + k * 4, none⟩)) rfl (by kernel_rfl) (by kernel_rfl) (by kernel_rfl) (fun _ _ _ h => h) (Or.inl ⟨by rfl, fun w0 hSw => ?_⟩) hH1 ?_
  · (obtain ⟨s0, s1, s2, s3, s4, s5, s6, s7, s8, s9, s10, s11, s12, s13, s14, s15, s16, s17, s18, s19, s20⟩ := hSw; clear s0; go_simp)
  simp only [Act.put, List.setIfInBounds_toArray, List.set_cons_zero, List.set_cons_succ]
  refine wpAnyH_take (i := 22) (oi := { dst := some 52, op := Op.load 32 (Operand.tmp 51), type := 32, pos := "outright.go:159", after := #[{ on := 21, ground := Ground.data }, { on := 12, ground := Ground.guard }], guard := some (12, false) }) (v := .agg #[.int .u64 d.x0, .int .u64 d.x1, .int .u64 d.x2, .int .u64 d.x3]) rfl (by kernel_rfl) (by kernel_rfl) (by kernel_rfl) (fun _ _ _ h => h) (Or.inl ⟨by rfl, fun w0 hSw => ?_⟩) hH1 ?_
  · (obtain ⟨s0, s1, s2, s3, s4, s5, s6, s7, s8, s9, s10, s11, s12, s13, s14, s15, s16, s17, s18, s19, s20⟩ := hSw; clear s0; go_simp)
  simp only [Act.put, List.setIfInBounds_toArray, List.set_cons_zero, List.set_cons_succ]
  refine wpAnyH_ready (rs := [23]) (by kernel_rfl) (by simp) ?_
  refine AllReadyH.cons (o := { dst := some 53, op := Op.call { callee := Callee.value (Operand.func 21), args := #[Operand.tmp 47, Operand.tmp 52], argTypes := #[32, 32] }, type := 4, pos := "outright.go:159", after := #[{ on := 17, ground := Ground.data }, { on := 22, ground := Ground.data }, { on := 12, ground := Ground.chain }, { on := 12, ground := Ground.guard }], guard := some (12, false) }) rfl (fun K hK => ?_) AllReadyH.nil
  have HH := hidden hH1
  clear hH1
  go_simp
  refine (C2.out _ HH.out.1).mono ?_
  rintro e wn2 ⟨rfl, hb⟩
  have SN := hidden (SK.out _ (bl_trans HH.out.1 hb))
  clear HH hb C2
  go_wp2_with fail
  refine hK.out _ _ SN.out (fun hH2 => ?_)
  clear hK K SN
  refine wpAnyH_take (i := 24) (oi := { dst := some 54, op := Op.unOp UnOp.not 4 (Operand.tmp 53), type := 4, pos := "outright.go:159", after := #[{ on := 23, ground := Ground.data }, { on := 12, ground := Ground.guard }], guard := some (12, false) }) (v := .bool false) rfl (by kernel_rfl) (by kernel_rfl) (by kernel_rfl) (fun _ _ _ h => h) (Or.inl ⟨by rfl, fun w0 hSw => ?_⟩) hH2 ?_
  · (clear hSw; go_simp)
  simp only [Act.put, List.setIfInBounds_toArray, List.set_cons_zero, List.set_cons_succ]
  refine wpAnyH_take (i := 25) (oi := { dst := some 55, op := Op.pick (Operand.tmp 42) (Operand.const (Value.bool true)) (Operand.tmp 54), type := 4, pos := "outright.go:159", after := #[{ on := 12, ground := Ground.data }, { on := 24, ground := Ground.data }], guard := none }) (v := .bool false) rfl (by kernel_rfl) (by kernel_rfl) (by kernel_rfl) (fun _ _ _ h => h) (Or.inl ⟨by rfl, fun w0 hSw => ?_⟩) hH2 ?_
  · (clear hSw; go_simp)
  simp only [Act.put, List.setIfInBounds_toArray, List.set_cons_zero, List.set_cons_succ]
  refine wpAnyH_done (by kernel_rfl) ?_ _
  refine NoPanic.normal ?_
  exact HQ.out _ hH2.1
end Go.Proofs.YtmhpgcfmllcnpaaDoor
