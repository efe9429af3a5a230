import Derived.Test.YtebmaneogekhjaaGreatDoorTk
import Derived.Test.YtebmaneogekhjaaGreatDoorDme
namespace Go.Proofs.YtebmaneogekhjaaGreatDoor
open Go.RowKit
set_option linter.unusedVariables false
set_option linter.unusedSimpArgs false
open Cm (Wr Tm co bf Ls lf ins Eqm)
namespace Ci
set_option maxRecDepth 100000
set_option maxHeartbeats 16000000
theorem tk {P : Program} {md : Region.Mode} {ops : Array Oper} {Q : Exit → Act → World → Prop} {S : World → Prop} {fuel : Nat} {listed : Array Bool} {a : Act} {w : World} (i : Nat) (oi : Oper) (v : Value) (hi : ops[i]? = some oi) (hk : (Region.noSelect ops && Region.free md ops listed i && (Region.ready md ops listed).contains i) = true) (hS : S w) (hg : Region.wanted oi (yielded ops a.tmps) = true) (hy : ∀ w, S w → (execOp a.eval oi).run P w = .ok (.value v) w) (h : wpAnyH P md ops (NoPanic Q) S fuel (listed.setIfInBounds i true) (a.put oi.dst v) w) : wpAnyH P md ops (NoPanic Q) S (fuel + 1) listed a w := by
 simp only [Bool.and_eq_true] at hk
 exact wpAnyH_take hi hk.1.1 hk.1.2 hk.2 (fun _ _ _ h => h) (Or.inl ⟨hg, hy⟩) hS h
theorem mk1_run (w : World) : (Instr.makeSlice 64 (.int .i64 1) (.int .i64 1)).run Tryz.prog w = .ok (.slice (some ⟨w.heap.size, 0, none⟩) 1 1) (w.alloc (.cells #[.slice none 0 0] 49)) := by kernel_rfl
theorem wp_mk1 {w : World} {o : Oper} {a : Act} {K : Act → World → Prop} {Q : Exit → Act → World → Prop} (ho : o.op = .makeSlice 64 (.const (.int .i64 1)) (.const (.int .i64 1))) (h : ∀ (mb : Nat) (wq : World), Below w.heap.size w wq → K (a.put o.dst (.slice (some ⟨mb, 0, none⟩) 1 1)) wq) : o.wp Tryz.prog a w K Q := by
 have hr := mk1_run w
 have hk := h w.heap.size _ (bl_alloc w (.cells #[.slice none 0 0] 49))
 unfold Oper.wp execOp
 simp only [ho, Act.eval, Sem.run_bind, Sem.run_pure, Result.andThen_ok, hr]
 exact hk
theorem bs14_run (w : World) : (Instr.buildSlice 73 14 #[(0, .int .i64 1), (1, .int .i64 1), (2, .int .i64 1), (3, .int .i64 1), (4, .int .i64 1), (5, .int .i64 1), (6, .int .i64 1), (7, .int .i64 1), (8, .int .i64 1), (9, .int .i64 1), (10, .int .i64 1), (11, .int .i64 1), (12, .int .i64 1), (13, .int .i64 1)]).run Tryz.prog w = .ok (.slice (some ⟨w.heap.size, 0, none⟩) 14 14) (w.alloc (.cells (List.replicate 14 (.int .i64 1)).toArray 32)) := by kernel_rfl
theorem wp_bs14 {w : World} {o : Oper} {a : Act} {K : Act → World → Prop} {Q : Exit → Act → World → Prop} (x0 x1 x2 x3 x4 x5 x6 x7 x8 x9 x10 x11 x12 x13 : Operand) (ho : o.op = .buildSlice 73 14 #[(0, x0), (1, x1), (2, x2), (3, x3), (4, x4), (5, x5), (6, x6), (7, x7), (8, x8), (9, x9), (10, x10), (11, x11), (12, x12), (13, x13)]) (h0 : a.eval x0 = .int .i64 1) (h1 : a.eval x1 = .int .i64 1) (h2 : a.eval x2 = .int .i64 1) (h3 : a.eval x3 = .int .i64 1) (h4 : a.eval x4 = .int .i64 1) (h5 : a.eval x5 = .int .i64 1) (h6 : a.eval x6 = .int .i64 1) (h7 : a.eval x7 = .int .i64 1) (h8 : a.eval x8 = .int .i64 1) (h9 : a.eval x9 = .int .i64 1) (h10 : a.eval x10 = .int .i64 1) (h11 : a.eval x11 = .int .i64 1) (h12 : a.eval x12 = .int .i64 1) (h13 : a.eval x13 = .int .i64 1) (h : ∀ (tb : Nat) (wq : World), Below w.heap.size w wq → wq.rangeAt tb 0 (List.replicate 14 (.int .i64 1)) → K (a.put o.dst (.slice (some ⟨tb, 0, none⟩) 14 14)) wq) : o.wp Tryz.prog a w K Q := by
 have hr := bs14_run w
 have hk := h w.heap.size _ (bl_alloc w (.cells (List.replicate 14 (.int .i64 1)).toArray 32)) (range_newM w (List.replicate 14 (.int .i64 1)) 32)
 unfold Oper.wp execOp
 simp only [ho, Sem.run_bind, Sem.run_pure, Result.andThen_ok, List.map_toArray, List.map_cons, List.map_nil, h0, h1, h2, h3, h4, h5, h6, h7, h8, h9, h10, h11, h12, h13, hr]
 exact hk
def no110 : Oper := { dst := some 103, op := Op.move (Operand.tmp 4), type := 32, pos := "outright.go:348", after := #[], guard := none }
def no111 : Oper := { dst := some 104, op := Op.move (Operand.tmp 8), type := 32, pos := "outright.go:348", after := #[], guard := none }
def no112 : Oper := { dst := some 105, op := Op.move (Operand.tmp 10), type := 32, pos := "outright.go:348", after := #[], guard := none }
def no113 : Oper := { dst := some 106, op := Op.move (Operand.tmp 12), type := 32, pos := "outright.go:348", after := #[], guard := none }
def no114 : Oper := { dst := some 107, op := Op.move (Operand.tmp 14), type := 32, pos := "outright.go:348", after := #[], guard := none }
def no115 : Oper := { dst := some 108, op := Op.move (Operand.tmp 16), type := 32, pos := "outright.go:348", after := #[], guard := none }
def no116 : Oper := { dst := some 109, op := Op.move (Operand.tmp 0), type := 23, pos := "outright.go:348", after := #[], guard := none }
def no117 : Oper := { dst := some 110, op := Op.call { callee := Callee.value (Operand.func 24), args := #[Operand.tmp 109, Operand.const (Value.slice none 0 0)], argTypes := #[23, 49] }, type := 32, pos := "outright.go:348", after := #[{ on := 6, ground := Ground.data }], guard := none }
def no118 : Oper := { dst := some 111, op := Op.move (Operand.tmp 0), type := 23, pos := "outright.go:348", after := #[], guard := none }
def no119 : Oper := { dst := some 112, op := Op.call { callee := Callee.value (Operand.func 25), args := #[Operand.tmp 111, Operand.const (Value.slice none 0 0), Operand.const (Value.slice none 0 0)], argTypes := #[23, 49, 49] }, type := 32, pos := "outright.go:348", after := #[{ on := 8, ground := Ground.data }, { on := 7, ground := Ground.chain }], guard := none }
def no1110 : Oper := { dst := some 113, op := Op.move (Operand.tmp 0), type := 23, pos := "outright.go:348", after := #[], guard := none }
def no1111 : Oper := { dst := some 114, op := Op.call { callee := Callee.value (Operand.func 26), args := #[Operand.tmp 113, Operand.const (Value.slice none 0 0)], argTypes := #[23, 49] }, type := 32, pos := "outright.go:348", after := #[{ on := 10, ground := Ground.data }, { on := 9, ground := Ground.chain }], guard := none }
def no1112 : Oper := { dst := some 115, op := Op.move (Operand.tmp 0), type := 23, pos := "outright.go:348", after := #[], guard := none }
def no1113 : Oper := { dst := some 116, op := Op.call { callee := Callee.value (Operand.func 27), args := #[Operand.tmp 115, Operand.const (Value.slice none 0 0)], argTypes := #[23, 49] }, type := 32, pos := "outright.go:348", after := #[{ on := 12, ground := Ground.data }, { on := 11, ground := Ground.chain }], guard := none }
def no1114 : Oper := { dst := some 117, op := Op.move (Operand.tmp 0), type := 23, pos := "outright.go:348", after := #[], guard := none }
def no1115 : Oper := { dst := some 118, op := Op.call { callee := Callee.value (Operand.func 28), args := #[Operand.tmp 117, Operand.const (Value.slice none 0 0), Operand.const (Value.slice none 0 0)], argTypes := #[23, 49, 57] }, type := 32, pos := "outright.go:348", after := #[{ on := 14, ground := Ground.data }, { on := 13, ground := Ground.chain }], guard := none }
def no1116 : Oper := { dst := some 119, op := Op.move (Operand.tmp 0), type := 23, pos := "outright.go:348", after := #[], guard := none }
def no1117 : Oper := { dst := some 120, op := Op.call { callee := Callee.value (Operand.func 15), args := #[Operand.tmp 119, Operand.const (Value.slice none 0 0), Operand.const (Value.slice none 0 0), Operand.const (Value.int IntKind.i64 1)], argTypes := #[23, 49, 49, 3] }, type := 32, pos := "outright.go:348", after := #[{ on := 16, ground := Ground.data }, { on := 15, ground := Ground.chain }], guard := none }
def no1118 : Oper := { dst := some 121, op := Op.move (Operand.tmp 0), type := 23, pos := "outright.go:348", after := #[], guard := none }
def no1119 : Oper := { dst := some 122, op := Op.build 47 #[], type := 47, pos := "outright.go:348", after := #[], guard := none }
def no1120 : Oper := { dst := some 123, op := Op.call { callee := Callee.value (Operand.func 29), args := #[Operand.tmp 121, Operand.const (Value.slice none 0 0), Operand.const (Value.slice none 0 0), Operand.tmp 122], argTypes := #[23, 64, 64, 47] }, type := 32, pos := "outright.go:348", after := #[{ on := 18, ground := Ground.data }, { on := 19, ground := Ground.data }, { on := 17, ground := Ground.chain }], guard := none }
def no1121 : Oper := { dst := some 124, op := Op.move (Operand.tmp 0), type := 23, pos := "outright.go:348", after := #[], guard := none }
def no1122 : Oper := { dst := some 125, op := Op.makeSlice 64 (Operand.const (Value.int IntKind.i64 1)) (Operand.const (Value.int IntKind.i64 1)), type := 64, pos := "outright.go:348", after := #[], guard := none }
def no1123 : Oper := { dst := some 126, op := Op.build 47 #[], type := 47, pos := "outright.go:348", after := #[], guard := none }
def no1124 : Oper := { dst := some 127, op := Op.call { callee := Callee.value (Operand.func 29), args := #[Operand.tmp 124, Operand.tmp 125, Operand.const (Value.slice none 0 0), Operand.tmp 126], argTypes := #[23, 64, 64, 47] }, type := 32, pos := "outright.go:348", after := #[{ on := 21, ground := Ground.data }, { on := 22, ground := Ground.data }, { on := 23, ground := Ground.data }, { on := 20, ground := Ground.chain }], guard := none }
def no1125 : Oper := { dst := some 128, op := Op.buildSlice 73 14 #[(0, Operand.tmp 103), (1, Operand.tmp 104), (2, Operand.tmp 105), (3, Operand.tmp 106), (4, Operand.tmp 107), (5, Operand.tmp 108), (6, Operand.tmp 110), (7, Operand.tmp 112), (8, Operand.tmp 114), (9, Operand.tmp 116), (10, Operand.tmp 118), (11, Operand.tmp 120), (12, Operand.tmp 123), (13, Operand.tmp 127)], type := 73, pos := "outright.go:348", after := #[{ on := 0, ground := Ground.data }, { on := 1, ground := Ground.data }, { on := 2, ground := Ground.data }, { on := 3, ground := Ground.data }, { on := 4, ground := Ground.data }, { on := 5, ground := Ground.data }, { on := 7, ground := Ground.data }, { on := 9, ground := Ground.data }, { on := 11, ground := Ground.data }, { on := 13, ground := Ground.data }, { on := 15, ground := Ground.data }, { on := 17, ground := Ground.data }, { on := 20, ground := Ground.data }, { on := 24, ground := Ground.data }], guard := none }
def no1126 : Oper := { dst := some 19, op := Op.assign (Operand.tmp 128), type := 73, pos := "outright.go:348", after := #[{ on := 25, ground := Ground.data }, { on := 24, ground := Ground.chain }, { on := 0, ground := Ground.phase }, { on := 1, ground := Ground.phase }, { on := 2, ground := Ground.phase }, { on := 3, ground := Ground.phase }, { on := 4, ground := Ground.phase }, { on := 5, ground := Ground.phase }, { on := 6, ground := Ground.phase }, { on := 7, ground := Ground.phase }, { on := 8, ground := Ground.phase }, { on := 9, ground := Ground.phase }, { on := 10, ground := Ground.phase }, { on := 11, ground := Ground.phase }, { on := 12, ground := Ground.phase }, { on := 13, ground := Ground.phase }, { on := 14, ground := Ground.phase }, { on := 15, ground := Ground.phase }, { on := 16, ground := Ground.phase }, { on := 17, ground := Ground.phase }, { on := 18, ground := Ground.phase }, { on := 19, ground := Ground.phase }, { on := 20, ground := Ground.phase }, { on := 21, ground := Ground.phase }, { on := 22, ground := Ground.phase }, { on := 23, ground := Ground.phase }, { on := 24, ground := Ground.phase }, { on := 25, ground := Ground.phase }], guard := none }
def no11o : Array Oper := #[no110, no111, no112, no113, no114, no115, no116, no117, no118, no119, no1110, no1111, no1112, no1113, no1114, no1115, no1116, no1117, no1118, no1119, no1120, no1121, no1122, no1123, no1124, no1125, no1126]
structure no11h (dv : Value) (W : World) : Prop where
 CZero : Hid (∀ y, Below W.heap.size W y → Calls Tryz.prog 24 #[dv, .slice none 0 0] y fun e w' => e = .returned (.int .i64 1) ∧ Below y.heap.size y w')
 CEqual : Hid (∀ y, Below W.heap.size W y → Calls Tryz.prog 25 #[dv, .slice none 0 0, .slice none 0 0] y fun e w' => e = .returned (.int .i64 1) ∧ Below y.heap.size y w')
 CNotZero : Hid (∀ y, Below W.heap.size W y → Calls Tryz.prog 26 #[dv, .slice none 0 0] y fun e w' => e = .returned (.int .i64 1) ∧ Below y.heap.size y w')
 CBit : Hid (∀ y, Below W.heap.size W y → Calls Tryz.prog 27 #[dv, .slice none 0 0] y fun e w' => e = .returned (.int .i64 1) ∧ Below y.heap.size y w')
 CMember : Hid (∀ y, Below W.heap.size W y → Calls Tryz.prog 28 #[dv, .slice none 0 0, .slice none 0 0] y fun e w' => e = .returned (.int .i64 1) ∧ Below y.heap.size y w')
 CLess : Hid (∀ y, Below W.heap.size W y → Calls Tryz.prog 15 #[dv, .slice none 0 0, .slice none 0 0, .int .i64 1] y fun e w' => e = .returned (.int .i64 1) ∧ Below y.heap.size y w')
 CShuffle : Hid (∀ u v y, Below W.heap.size W y → Calls Tryz.prog 29 #[dv, u, v, .agg #[.int .u64 0, .int .u64 0, .int .u64 0, .int .u64 0]] y fun e w' => e = .returned (.int .i64 1) ∧ Below y.heap.size y w')
def no11S (U : Nat → Value) (dv : Value) (mb : Nat) (tb : Nat) (f7 f9 f11 f13 f15 f17 f20 f22 f24 f25 f26 : Bool) : Array Value := #[dv, U 1, U 2, U 3, .int .i64 1, U 5, U 6, U 7, .int .i64 1, U 9, .int .i64 1, U 11, .int .i64 1, U 13, .int .i64 1, U 15, .int .i64 1, U 17, U 18, bif f26 then .slice (some ⟨tb, 0, none⟩) 14 14 else U 19, U 20, U 21, U 22, U 23, U 24, U 25, U 26, U 27, U 28, U 29, U 30, U 31, U 32, U 33, U 34, U 35, U 36, U 37, U 38, U 39, U 40, U 41, U 42, U 43, U 44, U 45, U 46, U 47, U 48, U 49, U 50, U 51, U 52, U 53, U 54, U 55, U 56, U 57, U 58, U 59, U 60, U 61, U 62, U 63, U 64, U 65, U 66, U 67, U 68, U 69, U 70, U 71, U 72, U 73, U 74, U 75, U 76, U 77, U 78, U 79, U 80, U 81, U 82, U 83, U 84, U 85, U 86, U 87, U 88, U 89, U 90, U 91, U 92, U 93, U 94, U 95, U 96, U 97, U 98, U 99, U 100, U 101, U 102, .int .i64 1, .int .i64 1, .int .i64 1, .int .i64 1, .int .i64 1, .int .i64 1, dv, bif f7 then .int .i64 1 else U 110, dv, bif f9 then .int .i64 1 else U 112, dv, bif f11 then .int .i64 1 else U 114, dv, bif f13 then .int .i64 1 else U 116, dv, bif f15 then .int .i64 1 else U 118, dv, bif f17 then .int .i64 1 else U 120, dv, .agg #[.int .u64 0, .int .u64 0, .int .u64 0, .int .u64 0], bif f20 then .int .i64 1 else U 123, dv, bif f22 then .slice (some ⟨mb, 0, none⟩) 1 1 else U 125, .agg #[.int .u64 0, .int .u64 0, .int .u64 0, .int .u64 0], bif f24 then .int .i64 1 else U 127, bif f25 then .slice (some ⟨tb, 0, none⟩) 14 14 else U 128, U 129, U 130, U 131, U 132, U 133, U 134, U 135, U 136, U 137, U 138, U 139]
def no11G (Q : Exit → Act → World → Prop) (dv : Value) (W : World) (fuel : Nat) (listed : Array Bool) (a : Array Value) (w : World) : Prop := wpAnyH Tryz.prog Region.Mode.any no11o (NoPanic Q) (fun x => Below W.heap.size W x) fuel listed ⟨a, []⟩ w
def no11f (Q : Exit → Act → World → Prop) (dv : Value) (U : Nat → Value) (W : World) : Prop := ∀ (wz : World) (mb tb : Nat), Below W.heap.size W wz → wz.rangeAt tb 0 (List.replicate 14 (.int .i64 1)) → Q .normal ⟨no11S U dv mb tb true true true true true true true true true true true, []⟩ wz
section
variable {Q : Exit → Act → World → Prop} {dv : Value} {U : Nat → Value} {W : World}
theorem no11_7ffffff (H : no11h dv W) (mb : Nat) (tb : Nat) (w : World) (listed : Array Bool) (hl : listed = #[true, true, true, true, true, true, true, true, true, true, true, true, true, true, true, true, true, true, true, true, true, true, true, true, true, true, true]) (FE : Hid (w.rangeAt tb 0 (List.replicate 14 (.int .i64 1)))) (HH : Hid (Below W.heap.size W w)) (HQ : Hid (no11f Q dv U W)) : no11G Q dv W 0 listed (no11S U dv mb tb true true true true true true true true true true true) w := by
 subst hl
 have H0 := H
 obtain ⟨CZero, CEqual, CNotZero, CBit, CMember, CLess, CShuffle⟩ := H
 simp only [no11G, no11S, cond_true, cond_false]
 refine wpAnyH_done (by kernel_rfl) ?_ _
 refine NoPanic.normal ?_
 exact HQ.out _ mb tb HH.out FE.out
theorem no11_1ffffff (H : no11h dv W) (mb : Nat) (w : World) (listed : Array Bool) (hl : listed = #[true, true, true, true, true, true, true, true, true, true, true, true, true, true, true, true, true, true, true, true, true, true, true, true, true, false, false])  (HH : Hid (Below W.heap.size W w)) (HQ : Hid (no11f Q dv U W)) : no11G Q dv W 2 listed (no11S U dv mb 0 true true true true true true true true true false false) w := by
 subst hl
 have H0 := H
 obtain ⟨CZero, CEqual, CNotZero, CBit, CMember, CLess, CShuffle⟩ := H
 simp only [no11G, no11S, cond_true, cond_false]
 refine wpAnyH_ready (rs := [25]) (by kernel_rfl) (by simp) ?_
 refine AllReadyH.cons (o := no1125) rfl (fun K hK => ?_) AllReadyH.nil
 refine wp_bs14 _ _ _ _ _ _ _ _ _ _ _ _ _ _ rfl rfl rfl rfl rfl rfl rfl rfl rfl rfl rfl rfl rfl rfl rfl (fun tb w2 hb hrg => ?_)
 have hbb : Below w.heap.size w w2 := hb
 have SN := hidden (bl_trans HH.out hbb : Below W.heap.size W w2)
 have FE := hidden (hrg : w2.rangeAt tb 0 (List.replicate 14 (.int .i64 1)))
 replace HH := SN
 clear SN hbb  hb hrg
 unfold no1125
 simp only [Act.put, sA, sB, sC]
 refine hK.out _ _ HH.out (fun hH => ?_); clear hK K
 refine tk 26 no1126 (.slice (some ⟨tb, 0, none⟩) 14 14) rfl (by kernel_rfl) hH rfl (fun w0 hSw => ?_) ?_
 ·(unfold no1126; clear hSw; go_simp)
 unfold no1126
 simp only [Act.put, sA, sB, sC]
 exact no11_7ffffff H0 mb tb w2 _ (by kernel_rfl) FE HH HQ
theorem no11_ffffff (H : no11h dv W) (mb : Nat) (w : World) (listed : Array Bool) (hl : listed = #[true, true, true, true, true, true, true, true, true, true, true, true, true, true, true, true, true, true, true, true, true, true, true, true, false, false, false])  (HH : Hid (Below W.heap.size W w)) (HQ : Hid (no11f Q dv U W)) : no11G Q dv W 3 listed (no11S U dv mb 0 true true true true true true true true false false false) w := by
 subst hl
 have H0 := H
 obtain ⟨CZero, CEqual, CNotZero, CBit, CMember, CLess, CShuffle⟩ := H
 simp only [no11G, no11S, cond_true, cond_false]
 refine wpAnyH_ready (rs := [24]) (by kernel_rfl) (by simp) ?_
 refine AllReadyH.cons (o := no1124) rfl (fun K hK => ?_) AllReadyH.nil
 unfold no1124
 go_simp
 refine (CShuffle.out _ _ _ HH.out).mono ?_
 rintro e w2 ⟨rfl, hb⟩
 have SN := hidden (bl_trans HH.out hb : Below W.heap.size W w2)
 replace HH := SN
 clear SN  hb
 go_wp2_with fail
 refine hK.out _ _ HH.out (fun hH => ?_); clear hK K
 exact no11_1ffffff H0 mb w2 _ (by kernel_rfl)  HH HQ
theorem no11_efffff (H : no11h dv W) (mb : Nat) (w : World) (listed : Array Bool) (hl : listed = #[true, true, true, true, true, true, true, true, true, true, true, true, true, true, true, true, true, true, true, true, false, true, true, true, false, false, false])  (HH : Hid (Below W.heap.size W w)) (HQ : Hid (no11f Q dv U W)) : no11G Q dv W 4 listed (no11S U dv mb 0 true true true true true true false true false false false) w := by
 subst hl
 have H0 := H
 obtain ⟨CZero, CEqual, CNotZero, CBit, CMember, CLess, CShuffle⟩ := H
 simp only [no11G, no11S, cond_true, cond_false]
 refine wpAnyH_ready (rs := [20]) (by kernel_rfl) (by simp) ?_
 refine AllReadyH.cons (o := no1120) rfl (fun K hK => ?_) AllReadyH.nil
 unfold no1120
 go_simp
 refine (CShuffle.out _ _ _ HH.out).mono ?_
 rintro e w2 ⟨rfl, hb⟩
 have SN := hidden (bl_trans HH.out hb : Below W.heap.size W w2)
 replace HH := SN
 clear SN  hb
 go_wp2_with fail
 refine hK.out _ _ HH.out (fun hH => ?_); clear hK K
 exact no11_ffffff H0 mb w2 _ (by kernel_rfl)  HH HQ
theorem no11_bfffff (H : no11h dv W)  (w : World) (listed : Array Bool) (hl : listed = #[true, true, true, true, true, true, true, true, true, true, true, true, true, true, true, true, true, true, true, true, true, true, false, true, false, false, false])  (HH : Hid (Below W.heap.size W w)) (HQ : Hid (no11f Q dv U W)) : no11G Q dv W 4 listed (no11S U dv 0 0 true true true true true true true false false false false) w := by
 subst hl
 have H0 := H
 obtain ⟨CZero, CEqual, CNotZero, CBit, CMember, CLess, CShuffle⟩ := H
 simp only [no11G, no11S, cond_true, cond_false]
 refine wpAnyH_ready (rs := [22]) (by kernel_rfl) (by simp) ?_
 refine AllReadyH.cons (o := no1122) rfl (fun K hK => ?_) AllReadyH.nil
 refine wp_mk1 rfl (fun mb w2 hb => ?_)
 have hbb : Below w.heap.size w w2 := hb
 have SN := hidden (bl_trans HH.out hbb : Below W.heap.size W w2)
 replace HH := SN
 clear SN hbb  hb
 unfold no1122
 simp only [Act.put, sA, sB, sC]
 refine hK.out _ _ HH.out (fun hH => ?_); clear hK K
 exact no11_ffffff H0 mb w2 _ (by kernel_rfl)  HH HQ
theorem no11_edffff (H : no11h dv W) (mb : Nat) (w : World) (listed : Array Bool) (hl : listed = #[true, true, true, true, true, true, true, true, true, true, true, true, true, true, true, true, true, false, true, true, false, true, true, true, false, false, false])  (HH : Hid (Below W.heap.size W w)) (HQ : Hid (no11f Q dv U W)) : no11G Q dv W 5 listed (no11S U dv mb 0 true true true true true false false true false false false) w := by
 subst hl
 have H0 := H
 obtain ⟨CZero, CEqual, CNotZero, CBit, CMember, CLess, CShuffle⟩ := H
 simp only [no11G, no11S, cond_true, cond_false]
 refine wpAnyH_ready (rs := [17]) (by kernel_rfl) (by simp) ?_
 refine AllReadyH.cons (o := no1117) rfl (fun K hK => ?_) AllReadyH.nil
 unfold no1117
 go_simp
 refine (CLess.out _ HH.out).mono ?_
 rintro e w2 ⟨rfl, hb⟩
 have SN := hidden (bl_trans HH.out hb : Below W.heap.size W w2)
 replace HH := SN
 clear SN  hb
 go_wp2_with fail
 refine hK.out _ _ HH.out (fun hH => ?_); clear hK K
 exact no11_efffff H0 mb w2 _ (by kernel_rfl)  HH HQ
theorem no11_afffff (H : no11h dv W)  (w : World) (listed : Array Bool) (hl : listed = #[true, true, true, true, true, true, true, true, true, true, true, true, true, true, true, true, true, true, true, true, false, true, false, true, false, false, false])  (HH : Hid (Below W.heap.size W w)) (HQ : Hid (no11f Q dv U W)) : no11G Q dv W 5 listed (no11S U dv 0 0 true true true true true true false false false false false) w := by
 subst hl
 have H0 := H
 obtain ⟨CZero, CEqual, CNotZero, CBit, CMember, CLess, CShuffle⟩ := H
 simp only [no11G, no11S, cond_true, cond_false]
 refine wpAnyH_ready (rs := [20, 22]) (by kernel_rfl) (by simp) ?_
 refine AllReadyH.cons (o := no1120) rfl (fun K hK => ?_) (AllReadyH.cons (o := no1122) rfl (fun K hK => ?_) AllReadyH.nil)
 ·unfold no1120
  go_simp
  refine (CShuffle.out _ _ _ HH.out).mono ?_
  rintro e w2 ⟨rfl, hb⟩
  have SN := hidden (bl_trans HH.out hb : Below W.heap.size W w2)
  replace HH := SN
  clear SN  hb
  go_wp2_with fail
  refine hK.out _ _ HH.out (fun hH => ?_); clear hK K
  exact no11_bfffff H0  w2 _ (by kernel_rfl)  HH HQ
 ·refine wp_mk1 rfl (fun mb w2 hb => ?_)
  have hbb : Below w.heap.size w w2 := hb
  have SN := hidden (bl_trans HH.out hbb : Below W.heap.size W w2)
  replace HH := SN
  clear SN hbb  hb
  unfold no1122
  simp only [Act.put, sA, sB, sC]
  refine hK.out _ _ HH.out (fun hH => ?_); clear hK K
  exact no11_efffff H0 mb w2 _ (by kernel_rfl)  HH HQ
theorem no11_ed7fff (H : no11h dv W) (mb : Nat) (w : World) (listed : Array Bool) (hl : listed = #[true, true, true, true, true, true, true, true, true, true, true, true, true, true, true, false, true, false, true, true, false, true, true, true, false, false, false])  (HH : Hid (Below W.heap.size W w)) (HQ : Hid (no11f Q dv U W)) : no11G Q dv W 6 listed (no11S U dv mb 0 true true true true false false false true false false false) w := by
 subst hl
 have H0 := H
 obtain ⟨CZero, CEqual, CNotZero, CBit, CMember, CLess, CShuffle⟩ := H
 simp only [no11G, no11S, cond_true, cond_false]
 refine wpAnyH_ready (rs := [15]) (by kernel_rfl) (by simp) ?_
 refine AllReadyH.cons (o := no1115) rfl (fun K hK => ?_) AllReadyH.nil
 unfold no1115
 go_simp
 refine (CMember.out _ HH.out).mono ?_
 rintro e w2 ⟨rfl, hb⟩
 have SN := hidden (bl_trans HH.out hb : Below W.heap.size W w2)
 replace HH := SN
 clear SN  hb
 go_wp2_with fail
 refine hK.out _ _ HH.out (fun hH => ?_); clear hK K
 exact no11_edffff H0 mb w2 _ (by kernel_rfl)  HH HQ
theorem no11_adffff (H : no11h dv W)  (w : World) (listed : Array Bool) (hl : listed = #[true, true, true, true, true, true, true, true, true, true, true, true, true, true, true, true, true, false, true, true, false, true, false, true, false, false, false])  (HH : Hid (Below W.heap.size W w)) (HQ : Hid (no11f Q dv U W)) : no11G Q dv W 6 listed (no11S U dv 0 0 true true true true true false false false false false false) w := by
 subst hl
 have H0 := H
 obtain ⟨CZero, CEqual, CNotZero, CBit, CMember, CLess, CShuffle⟩ := H
 simp only [no11G, no11S, cond_true, cond_false]
 refine wpAnyH_ready (rs := [17, 22]) (by kernel_rfl) (by simp) ?_
 refine AllReadyH.cons (o := no1117) rfl (fun K hK => ?_) (AllReadyH.cons (o := no1122) rfl (fun K hK => ?_) AllReadyH.nil)
 ·unfold no1117
  go_simp
  refine (CLess.out _ HH.out).mono ?_
  rintro e w2 ⟨rfl, hb⟩
  have SN := hidden (bl_trans HH.out hb : Below W.heap.size W w2)
  replace HH := SN
  clear SN  hb
  go_wp2_with fail
  refine hK.out _ _ HH.out (fun hH => ?_); clear hK K
  exact no11_afffff H0  w2 _ (by kernel_rfl)  HH HQ
 ·refine wp_mk1 rfl (fun mb w2 hb => ?_)
  have hbb : Below w.heap.size w w2 := hb
  have SN := hidden (bl_trans HH.out hbb : Below W.heap.size W w2)
  replace HH := SN
  clear SN hbb  hb
  unfold no1122
  simp only [Act.put, sA, sB, sC]
  refine hK.out _ _ HH.out (fun hH => ?_); clear hK K
  exact no11_edffff H0 mb w2 _ (by kernel_rfl)  HH HQ
theorem no11_ed5fff (H : no11h dv W) (mb : Nat) (w : World) (listed : Array Bool) (hl : listed = #[true, true, true, true, true, true, true, true, true, true, true, true, true, false, true, false, true, false, true, true, false, true, true, true, false, false, false])  (HH : Hid (Below W.heap.size W w)) (HQ : Hid (no11f Q dv U W)) : no11G Q dv W 7 listed (no11S U dv mb 0 true true true false false false false true false false false) w := by
 subst hl
 have H0 := H
 obtain ⟨CZero, CEqual, CNotZero, CBit, CMember, CLess, CShuffle⟩ := H
 simp only [no11G, no11S, cond_true, cond_false]
 refine wpAnyH_ready (rs := [13]) (by kernel_rfl) (by simp) ?_
 refine AllReadyH.cons (o := no1113) rfl (fun K hK => ?_) AllReadyH.nil
 unfold no1113
 go_simp
 refine (CBit.out _ HH.out).mono ?_
 rintro e w2 ⟨rfl, hb⟩
 have SN := hidden (bl_trans HH.out hb : Below W.heap.size W w2)
 replace HH := SN
 clear SN  hb
 go_wp2_with fail
 refine hK.out _ _ HH.out (fun hH => ?_); clear hK K
 exact no11_ed7fff H0 mb w2 _ (by kernel_rfl)  HH HQ
theorem no11_ad7fff (H : no11h dv W)  (w : World) (listed : Array Bool) (hl : listed = #[true, true, true, true, true, true, true, true, true, true, true, true, true, true, true, false, true, false, true, true, false, true, false, true, false, false, false])  (HH : Hid (Below W.heap.size W w)) (HQ : Hid (no11f Q dv U W)) : no11G Q dv W 7 listed (no11S U dv 0 0 true true true true false false false false false false false) w := by
 subst hl
 have H0 := H
 obtain ⟨CZero, CEqual, CNotZero, CBit, CMember, CLess, CShuffle⟩ := H
 simp only [no11G, no11S, cond_true, cond_false]
 refine wpAnyH_ready (rs := [15, 22]) (by kernel_rfl) (by simp) ?_
 refine AllReadyH.cons (o := no1115) rfl (fun K hK => ?_) (AllReadyH.cons (o := no1122) rfl (fun K hK => ?_) AllReadyH.nil)
 ·unfold no1115
  go_simp
  refine (CMember.out _ HH.out).mono ?_
  rintro e w2 ⟨rfl, hb⟩
  have SN := hidden (bl_trans HH.out hb : Below W.heap.size W w2)
  replace HH := SN
  clear SN  hb
  go_wp2_with fail
  refine hK.out _ _ HH.out (fun hH => ?_); clear hK K
  exact no11_adffff H0  w2 _ (by kernel_rfl)  HH HQ
 ·refine wp_mk1 rfl (fun mb w2 hb => ?_)
  have hbb : Below w.heap.size w w2 := hb
  have SN := hidden (bl_trans HH.out hbb : Below W.heap.size W w2)
  replace HH := SN
  clear SN hbb  hb
  unfold no1122
  simp only [Act.put, sA, sB, sC]
  refine hK.out _ _ HH.out (fun hH => ?_); clear hK K
  exact no11_ed7fff H0 mb w2 _ (by kernel_rfl)  HH HQ
theorem no11_ed57ff (H : no11h dv W) (mb : Nat) (w : World) (listed : Array Bool) (hl : listed = #[true, true, true, true, true, true, true, true, true, true, true, false, true, false, true, false, true, false, true, true, false, true, true, true, false, false, false])  (HH : Hid (Below W.heap.size W w)) (HQ : Hid (no11f Q dv U W)) : no11G Q dv W 8 listed (no11S U dv mb 0 true true false false false false false true false false false) w := by
 subst hl
 have H0 := H
 obtain ⟨CZero, CEqual, CNotZero, CBit, CMember, CLess, CShuffle⟩ := H
 simp only [no11G, no11S, cond_true, cond_false]
 refine wpAnyH_ready (rs := [11]) (by kernel_rfl) (by simp) ?_
 refine AllReadyH.cons (o := no1111) rfl (fun K hK => ?_) AllReadyH.nil
 unfold no1111
 go_simp
 refine (CNotZero.out _ HH.out).mono ?_
 rintro e w2 ⟨rfl, hb⟩
 have SN := hidden (bl_trans HH.out hb : Below W.heap.size W w2)
 replace HH := SN
 clear SN  hb
 go_wp2_with fail
 refine hK.out _ _ HH.out (fun hH => ?_); clear hK K
 exact no11_ed5fff H0 mb w2 _ (by kernel_rfl)  HH HQ
theorem no11_ad5fff (H : no11h dv W)  (w : World) (listed : Array Bool) (hl : listed = #[true, true, true, true, true, true, true, true, true, true, true, true, true, false, true, false, true, false, true, true, false, true, false, true, false, false, false])  (HH : Hid (Below W.heap.size W w)) (HQ : Hid (no11f Q dv U W)) : no11G Q dv W 8 listed (no11S U dv 0 0 true true true false false false false false false false false) w := by
 subst hl
 have H0 := H
 obtain ⟨CZero, CEqual, CNotZero, CBit, CMember, CLess, CShuffle⟩ := H
 simp only [no11G, no11S, cond_true, cond_false]
 refine wpAnyH_ready (rs := [13, 22]) (by kernel_rfl) (by simp) ?_
 refine AllReadyH.cons (o := no1113) rfl (fun K hK => ?_) (AllReadyH.cons (o := no1122) rfl (fun K hK => ?_) AllReadyH.nil)
 ·unfold no1113
  go_simp
  refine (CBit.out _ HH.out).mono ?_
  rintro e w2 ⟨rfl, hb⟩
  have SN := hidden (bl_trans HH.out hb : Below W.heap.size W w2)
  replace HH := SN
  clear SN  hb
  go_wp2_with fail
  refine hK.out _ _ HH.out (fun hH => ?_); clear hK K
  exact no11_ad7fff H0  w2 _ (by kernel_rfl)  HH HQ
 ·refine wp_mk1 rfl (fun mb w2 hb => ?_)
  have hbb : Below w.heap.size w w2 := hb
  have SN := hidden (bl_trans HH.out hbb : Below W.heap.size W w2)
  replace HH := SN
  clear SN hbb  hb
  unfold no1122
  simp only [Act.put, sA, sB, sC]
  refine hK.out _ _ HH.out (fun hH => ?_); clear hK K
  exact no11_ed5fff H0 mb w2 _ (by kernel_rfl)  HH HQ
theorem no11_ed55ff (H : no11h dv W) (mb : Nat) (w : World) (listed : Array Bool) (hl : listed = #[true, true, true, true, true, true, true, true, true, false, true, false, true, false, true, false, true, false, true, true, false, true, true, true, false, false, false])  (HH : Hid (Below W.heap.size W w)) (HQ : Hid (no11f Q dv U W)) : no11G Q dv W 9 listed (no11S U dv mb 0 true false false false false false false true false false false) w := by
 subst hl
 have H0 := H
 obtain ⟨CZero, CEqual, CNotZero, CBit, CMember, CLess, CShuffle⟩ := H
 simp only [no11G, no11S, cond_true, cond_false]
 refine wpAnyH_ready (rs := [9]) (by kernel_rfl) (by simp) ?_
 refine AllReadyH.cons (o := no119) rfl (fun K hK => ?_) AllReadyH.nil
 unfold no119
 go_simp
 refine (CEqual.out _ HH.out).mono ?_
 rintro e w2 ⟨rfl, hb⟩
 have SN := hidden (bl_trans HH.out hb : Below W.heap.size W w2)
 replace HH := SN
 clear SN  hb
 go_wp2_with fail
 refine hK.out _ _ HH.out (fun hH => ?_); clear hK K
 exact no11_ed57ff H0 mb w2 _ (by kernel_rfl)  HH HQ
theorem no11_ad57ff (H : no11h dv W)  (w : World) (listed : Array Bool) (hl : listed = #[true, true, true, true, true, true, true, true, true, true, true, false, true, false, true, false, true, false, true, true, false, true, false, true, false, false, false])  (HH : Hid (Below W.heap.size W w)) (HQ : Hid (no11f Q dv U W)) : no11G Q dv W 9 listed (no11S U dv 0 0 true true false false false false false false false false false) w := by
 subst hl
 have H0 := H
 obtain ⟨CZero, CEqual, CNotZero, CBit, CMember, CLess, CShuffle⟩ := H
 simp only [no11G, no11S, cond_true, cond_false]
 refine wpAnyH_ready (rs := [11, 22]) (by kernel_rfl) (by simp) ?_
 refine AllReadyH.cons (o := no1111) rfl (fun K hK => ?_) (AllReadyH.cons (o := no1122) rfl (fun K hK => ?_) AllReadyH.nil)
 ·unfold no1111
  go_simp
  refine (CNotZero.out _ HH.out).mono ?_
  rintro e w2 ⟨rfl, hb⟩
  have SN := hidden (bl_trans HH.out hb : Below W.heap.size W w2)
  replace HH := SN
  clear SN  hb
  go_wp2_with fail
  refine hK.out _ _ HH.out (fun hH => ?_); clear hK K
  exact no11_ad5fff H0  w2 _ (by kernel_rfl)  HH HQ
 ·refine wp_mk1 rfl (fun mb w2 hb => ?_)
  have hbb : Below w.heap.size w w2 := hb
  have SN := hidden (bl_trans HH.out hbb : Below W.heap.size W w2)
  replace HH := SN
  clear SN hbb  hb
  unfold no1122
  simp only [Act.put, sA, sB, sC]
  refine hK.out _ _ HH.out (fun hH => ?_); clear hK K
  exact no11_ed57ff H0 mb w2 _ (by kernel_rfl)  HH HQ
theorem no11_ed557f (H : no11h dv W) (mb : Nat) (w : World) (listed : Array Bool) (hl : listed = #[true, true, true, true, true, true, true, false, true, false, true, false, true, false, true, false, true, false, true, true, false, true, true, true, false, false, false])  (HH : Hid (Below W.heap.size W w)) (HQ : Hid (no11f Q dv U W)) : no11G Q dv W 10 listed (no11S U dv mb 0 false false false false false false false true false false false) w := by
 subst hl
 have H0 := H
 obtain ⟨CZero, CEqual, CNotZero, CBit, CMember, CLess, CShuffle⟩ := H
 simp only [no11G, no11S, cond_true, cond_false]
 refine wpAnyH_ready (rs := [7]) (by kernel_rfl) (by simp) ?_
 refine AllReadyH.cons (o := no117) rfl (fun K hK => ?_) AllReadyH.nil
 unfold no117
 go_simp
 refine (CZero.out _ HH.out).mono ?_
 rintro e w2 ⟨rfl, hb⟩
 have SN := hidden (bl_trans HH.out hb : Below W.heap.size W w2)
 replace HH := SN
 clear SN  hb
 go_wp2_with fail
 refine hK.out _ _ HH.out (fun hH => ?_); clear hK K
 exact no11_ed55ff H0 mb w2 _ (by kernel_rfl)  HH HQ
theorem no11_ad55ff (H : no11h dv W)  (w : World) (listed : Array Bool) (hl : listed = #[true, true, true, true, true, true, true, true, true, false, true, false, true, false, true, false, true, false, true, true, false, true, false, true, false, false, false])  (HH : Hid (Below W.heap.size W w)) (HQ : Hid (no11f Q dv U W)) : no11G Q dv W 10 listed (no11S U dv 0 0 true false false false false false false false false false false) w := by
 subst hl
 have H0 := H
 obtain ⟨CZero, CEqual, CNotZero, CBit, CMember, CLess, CShuffle⟩ := H
 simp only [no11G, no11S, cond_true, cond_false]
 refine wpAnyH_ready (rs := [9, 22]) (by kernel_rfl) (by simp) ?_
 refine AllReadyH.cons (o := no119) rfl (fun K hK => ?_) (AllReadyH.cons (o := no1122) rfl (fun K hK => ?_) AllReadyH.nil)
 ·unfold no119
  go_simp
  refine (CEqual.out _ HH.out).mono ?_
  rintro e w2 ⟨rfl, hb⟩
  have SN := hidden (bl_trans HH.out hb : Below W.heap.size W w2)
  replace HH := SN
  clear SN  hb
  go_wp2_with fail
  refine hK.out _ _ HH.out (fun hH => ?_); clear hK K
  exact no11_ad57ff H0  w2 _ (by kernel_rfl)  HH HQ
 ·refine wp_mk1 rfl (fun mb w2 hb => ?_)
  have hbb : Below w.heap.size w w2 := hb
  have SN := hidden (bl_trans HH.out hbb : Below W.heap.size W w2)
  replace HH := SN
  clear SN hbb  hb
  unfold no1122
  simp only [Act.put, sA, sB, sC]
  refine hK.out _ _ HH.out (fun hH => ?_); clear hK K
  exact no11_ed55ff H0 mb w2 _ (by kernel_rfl)  HH HQ
theorem no11_ad557f (H : no11h dv W)  (w : World) (listed : Array Bool) (hl : listed = #[true, true, true, true, true, true, true, false, true, false, true, false, true, false, true, false, true, false, true, true, false, true, false, true, false, false, false])  (HH : Hid (Below W.heap.size W w)) (HQ : Hid (no11f Q dv U W)) : no11G Q dv W 11 listed (no11S U dv 0 0 false false false false false false false false false false false) w := by
 subst hl
 have H0 := H
 obtain ⟨CZero, CEqual, CNotZero, CBit, CMember, CLess, CShuffle⟩ := H
 simp only [no11G, no11S, cond_true, cond_false]
 refine wpAnyH_ready (rs := [7, 22]) (by kernel_rfl) (by simp) ?_
 refine AllReadyH.cons (o := no117) rfl (fun K hK => ?_) (AllReadyH.cons (o := no1122) rfl (fun K hK => ?_) AllReadyH.nil)
 ·unfold no117
  go_simp
  refine (CZero.out _ HH.out).mono ?_
  rintro e w2 ⟨rfl, hb⟩
  have SN := hidden (bl_trans HH.out hb : Below W.heap.size W w2)
  replace HH := SN
  clear SN  hb
  go_wp2_with fail
  refine hK.out _ _ HH.out (fun hH => ?_); clear hK K
  exact no11_ad55ff H0  w2 _ (by kernel_rfl)  HH HQ
 ·refine wp_mk1 rfl (fun mb w2 hb => ?_)
  have hbb : Below w.heap.size w w2 := hb
  have SN := hidden (bl_trans HH.out hbb : Below W.heap.size W w2)
  replace HH := SN
  clear SN hbb  hb
  unfold no1122
  simp only [Act.put, sA, sB, sC]
  refine hK.out _ _ HH.out (fun hH => ?_); clear hK K
  exact no11_ed557f H0 mb w2 _ (by kernel_rfl)  HH HQ
end
theorem no11 (Q : Exit → Act → World → Prop) (dv : Value) (u1 u2 u3 u5 u6 u7 u9 u11 u13 u15 u17 u18 u19 u20 u21 u22 u23 u24 u25 u26 u27 u28 u29 u30 u31 u32 u33 u34 u35 u36 u37 u38 u39 u40 u41 u42 u43 u44 u45 u46 u47 u48 u49 u50 u51 u52 u53 u54 u55 u56 u57 u58 u59 u60 u61 u62 u63 u64 u65 u66 u67 u68 u69 u70 u71 u72 u73 u74 u75 u76 u77 u78 u79 u80 u81 u82 u83 u84 u85 u86 u87 u88 u89 u90 u91 u92 u93 u94 u95 u96 u97 u98 u99 u100 u101 u102 u103 u104 u105 u106 u107 u108 u109 u110 u111 u112 u113 u114 u115 u116 u117 u118 u119 u120 u121 u122 u123 u124 u125 u126 u127 u128 u129 u130 u131 u132 u133 u134 u135 u136 u137 u138 u139 : Value) (W : World) (H : no11h dv W)
  (HQ : Hid (∀ (wz : World) (mb tb : Nat), Below W.heap.size W wz → wz.rangeAt tb 0 (List.replicate 14 (.int .i64 1)) → Q .normal ⟨#[dv, u1, u2, u3, .int .i64 1, u5, u6, u7, .int .i64 1, u9, .int .i64 1, u11, .int .i64 1, u13, .int .i64 1, u15, .int .i64 1, u17, u18, .slice (some ⟨tb, 0, none⟩) 14 14, u20, u21, u22, u23, u24, u25, u26, u27, u28, u29, u30, u31, u32, u33, u34, u35, u36, u37, u38, u39, u40, u41, u42, u43, u44, u45, u46, u47, u48, u49, u50, u51, u52, u53, u54, u55, u56, u57, u58, u59, u60, u61, u62, u63, u64, u65, u66, u67, u68, u69, u70, u71, u72, u73, u74, u75, u76, u77, u78, u79, u80, u81, u82, u83, u84, u85, u86, u87, u88, u89, u90, u91, u92, u93, u94, u95, u96, u97, u98, u99, u100, u101, u102, .int .i64 1, .int .i64 1, .int .i64 1, .int .i64 1, .int .i64 1, .int .i64 1, dv, .int .i64 1, dv, .int .i64 1, dv, .int .i64 1, dv, .int .i64 1, dv, .int .i64 1, dv, .int .i64 1, dv, .agg #[.int .u64 0, .int .u64 0, .int .u64 0, .int .u64 0], .int .i64 1, dv, .slice (some ⟨mb, 0, none⟩) 1 1, .agg #[.int .u64 0, .int .u64 0, .int .u64 0, .int .u64 0], .int .i64 1, .slice (some ⟨tb, 0, none⟩) 14 14, u129, u130, u131, u132, u133, u134, u135, u136, u137, u138, u139], []⟩ wz)) : (Code.region 11 no11o true).wp Tryz.prog Q ⟨#[dv, u1, u2, u3, .int .i64 1, u5, u6, u7, .int .i64 1, u9, .int .i64 1, u11, .int .i64 1, u13, .int .i64 1, u15, .int .i64 1, u17, u18, u19, u20, u21, u22, u23, u24, u25, u26, u27, u28, u29, u30, u31, u32, u33, u34, u35, u36, u37, u38, u39, u40, u41, u42, u43, u44, u45, u46, u47, u48, u49, u50, u51, u52, u53, u54, u55, u56, u57, u58, u59, u60, u61, u62, u63, u64, u65, u66, u67, u68, u69, u70, u71, u72, u73, u74, u75, u76, u77, u78, u79, u80, u81, u82, u83, u84, u85, u86, u87, u88, u89, u90, u91, u92, u93, u94, u95, u96, u97, u98, u99, u100, u101, u102, u103, u104, u105, u106, u107, u108, u109, u110, u111, u112, u113, u114, u115, u116, u117, u118, u119, u120, u121, u122, u123, u124, u125, u126, u127, u128, u129, u130, u131, u132, u133, u134, u135, u136, u137, u138, u139], []⟩ W := by
 have H0 := H
 obtain ⟨CZero, CEqual, CNotZero, CBit, CMember, CLess, CShuffle⟩ := H
 replace HQ : Hid (no11f Q dv (nth [undef, u1, u2, u3, undef, u5, u6, u7, undef, u9, undef, u11, undef, u13, undef, u15, undef, u17, u18, u19, u20, u21, u22, u23, u24, u25, u26, u27, u28, u29, u30, u31, u32, u33, u34, u35, u36, u37, u38, u39, u40, u41, u42, u43, u44, u45, u46, u47, u48, u49, u50, u51, u52, u53, u54, u55, u56, u57, u58, u59, u60, u61, u62, u63, u64, u65, u66, u67, u68, u69, u70, u71, u72, u73, u74, u75, u76, u77, u78, u79, u80, u81, u82, u83, u84, u85, u86, u87, u88, u89, u90, u91, u92, u93, u94, u95, u96, u97, u98, u99, u100, u101, u102, u103, u104, u105, u106, u107, u108, u109, u110, u111, u112, u113, u114, u115, u116, u117, u118, u119, u120, u121, u122, u123, u124, u125, u126, u127, u128, u129, u130, u131, u132, u133, u134, u135, u136, u137, u138, u139]) W) := HQ
 refine wp_region_noPanic ?_
 refine wp_region_held_drew (S := fun x => Below W.heap.size W x) (by kernel_rfl) (bl_drew W) (fun hH => ?_)
 have HH := hidden hH
 refine tk 0 no110 (.int .i64 1) rfl (by kernel_rfl) hH rfl (fun w0 hSw => ?_) ?_
 ·(unfold no110; clear hSw; go_simp)
 unfold no110
 simp only [Act.put, sA, sB, sC]
 refine tk 1 no111 (.int .i64 1) rfl (by kernel_rfl) hH rfl (fun w0 hSw => ?_) ?_
 ·(unfold no111; clear hSw; go_simp)
 unfold no111
 simp only [Act.put, sA, sB, sC]
 refine tk 2 no112 (.int .i64 1) rfl (by kernel_rfl) hH rfl (fun w0 hSw => ?_) ?_
 ·(unfold no112; clear hSw; go_simp)
 unfold no112
 simp only [Act.put, sA, sB, sC]
 refine tk 3 no113 (.int .i64 1) rfl (by kernel_rfl) hH rfl (fun w0 hSw => ?_) ?_
 ·(unfold no113; clear hSw; go_simp)
 unfold no113
 simp only [Act.put, sA, sB, sC]
 refine tk 4 no114 (.int .i64 1) rfl (by kernel_rfl) hH rfl (fun w0 hSw => ?_) ?_
 ·(unfold no114; clear hSw; go_simp)
 unfold no114
 simp only [Act.put, sA, sB, sC]
 refine tk 5 no115 (.int .i64 1) rfl (by kernel_rfl) hH rfl (fun w0 hSw => ?_) ?_
 ·(unfold no115; clear hSw; go_simp)
 unfold no115
 simp only [Act.put, sA, sB, sC]
 refine tk 6 no116 (dv) rfl (by kernel_rfl) hH rfl (fun w0 hSw => ?_) ?_
 ·(unfold no116; clear hSw; go_simp)
 unfold no116
 simp only [Act.put, sA, sB, sC]
 refine tk 8 no118 (dv) rfl (by kernel_rfl) hH rfl (fun w0 hSw => ?_) ?_
 ·(unfold no118; clear hSw; go_simp)
 unfold no118
 simp only [Act.put, sA, sB, sC]
 refine tk 10 no1110 (dv) rfl (by kernel_rfl) hH rfl (fun w0 hSw => ?_) ?_
 ·(unfold no1110; clear hSw; go_simp)
 unfold no1110
 simp only [Act.put, sA, sB, sC]
 refine tk 12 no1112 (dv) rfl (by kernel_rfl) hH rfl (fun w0 hSw => ?_) ?_
 ·(unfold no1112; clear hSw; go_simp)
 unfold no1112
 simp only [Act.put, sA, sB, sC]
 refine tk 14 no1114 (dv) rfl (by kernel_rfl) hH rfl (fun w0 hSw => ?_) ?_
 ·(unfold no1114; clear hSw; go_simp)
 unfold no1114
 simp only [Act.put, sA, sB, sC]
 refine tk 16 no1116 (dv) rfl (by kernel_rfl) hH rfl (fun w0 hSw => ?_) ?_
 ·(unfold no1116; clear hSw; go_simp)
 unfold no1116
 simp only [Act.put, sA, sB, sC]
 refine tk 18 no1118 (dv) rfl (by kernel_rfl) hH rfl (fun w0 hSw => ?_) ?_
 ·(unfold no1118; clear hSw; go_simp)
 unfold no1118
 simp only [Act.put, sA, sB, sC]
 refine tk 19 no1119 (.agg #[.int .u64 0, .int .u64 0, .int .u64 0, .int .u64 0]) rfl (by kernel_rfl) hH rfl (fun w0 hSw => ?_) ?_
 ·(unfold no1119; clear hSw; go_simp)
 unfold no1119
 simp only [Act.put, sA, sB, sC]
 refine tk 21 no1121 (dv) rfl (by kernel_rfl) hH rfl (fun w0 hSw => ?_) ?_
 ·(unfold no1121; clear hSw; go_simp)
 unfold no1121
 simp only [Act.put, sA, sB, sC]
 refine tk 23 no1123 (.agg #[.int .u64 0, .int .u64 0, .int .u64 0, .int .u64 0]) rfl (by kernel_rfl) hH rfl (fun w0 hSw => ?_) ?_
 ·(unfold no1123; clear hSw; go_simp)
 unfold no1123
 simp only [Act.put, sA, sB, sC]
 exact no11_ad557f H0  W.drew _ (by kernel_rfl)  HH HQ
end Ci
end Go.Proofs.YtebmaneogekhjaaGreatDoor
