import Derived.Test.YtclihahohhhhiaaDoorTk
import Derived.Test.YtclihahohhhhiaaDoorCjp
import Derived.Test.YtclihahohhhhiaaDoorCep
import Derived.Test.YtclihahohhhhiaaDoorCjq
import Derived.Laws.AppendOwnNone
namespace Go.Proofs.YtclihahohhhhiaaDoor
open Go.RowKit
set_option linter.unusedVariables false
set_option linter.unusedSimpArgs false
open Cm (Wr Tm co bf Ls lf ins Eqm)
namespace Ci
set_option maxRecDepth 100000
set_option maxHeartbeats 16000000
theorem zvS (w : World) : (zeroValue 41).run Tryd.prog w = .ok (.agg #[.int .u64 0, .int .u64 0, .int .u64 0, .int .u64 0]) w := by kernel_rfl
theorem wp_allocS {w : World} {o : Oper} {a : Act} {K : Act → World → Prop} {Q : Exit → Act → World → Prop} (ho : o.op = .alloc 41) (h : ∀ (A : Nat) (wq : World), A = w.heap.size → wq = w.alloc (.cells #[.int .u64 0, .int .u64 0, .int .u64 0, .int .u64 0] 41) → K (a.put o.dst (.pointer (some ⟨A, 0, none⟩))) wq) : o.wp Tryd.prog a w K Q := by
 have hk := h _ _ rfl rfl
 have hz := zvS w
 unfold Oper.wp execOp
 simp [ho, Instr.alloc, hz]
 exact hk
def lg130 : Oper := { dst := some 91, op := Op.move (Operand.tmp 11), type := 27, pos := "outright.go:155", after := #[], guard := none }
def lg131 : Oper := { dst := some 92, op := Op.load 37 (Operand.tmp 17), type := 37, pos := "outright.go:155", after := #[], guard := none }
def lg132 : Oper := { dst := some 93, op := Op.load 32 (Operand.tmp 15), type := 32, pos := "outright.go:155", after := #[], guard := none }
def lg133 : Oper := { dst := some 94, op := Op.call { callee := Callee.value (Operand.func 10), args := #[Operand.tmp 93], argTypes := #[32] }, type := 24, pos := "outright.go:155", after := #[{ on := 2, ground := Ground.data }], guard := none }
def lg134 : Oper := { dst := some 95, op := Op.call { callee := Callee.value (Operand.func 9), args := #[Operand.tmp 91, Operand.tmp 92, Operand.tmp 94], argTypes := #[27, 37, 24] }, type := 42, pos := "outright.go:155", after := #[{ on := 0, ground := Ground.data }, { on := 1, ground := Ground.data }, { on := 3, ground := Ground.data }, { on := 3, ground := Ground.chain }], guard := none }
def lg135 : Oper := { dst := some 90, op := Op.move (Operand.tmp 95), type := 42, pos := "outright.go:155", after := #[{ on := 4, ground := Ground.data }], guard := none }
def lg136 : Oper := { dst := some 96, op := Op.extract (Operand.tmp 90) 0, type := 41, pos := "outright.go:155", after := #[{ on := 5, ground := Ground.data }], guard := none }
def lg137 : Oper := { dst := some 97, op := Op.extract (Operand.tmp 90) 1, type := 33, pos := "outright.go:155", after := #[{ on := 5, ground := Ground.data }, { on := 9, ground := Ground.gcOnly Departure.lateStores }], guard := none }
def lg138 : Oper := { dst := some 22, op := Op.alloc 41, type := 0, pos := "outright.go:155", after := #[], guard := none }
def lg139 : Oper := { dst := none, op := Op.store 41 (Operand.tmp 22) (Operand.tmp 96), type := 0, pos := "outright.go:155", after := #[{ on := 8, ground := Ground.data }, { on := 6, ground := Ground.data }, { on := 4, ground := Ground.chain }, { on := 0, ground := Ground.phase }, { on := 1, ground := Ground.phase }, { on := 2, ground := Ground.phase }, { on := 3, ground := Ground.phase }, { on := 4, ground := Ground.phase }, { on := 5, ground := Ground.phase }, { on := 6, ground := Ground.phase }, { on := 7, ground := Ground.textOnly Departure.lateStores }, { on := 8, ground := Ground.phase }], guard := none }
def lg1310 : Oper := { dst := some 23, op := Op.assign (Operand.tmp 97), type := 33, pos := "outright.go:155", after := #[{ on := 7, ground := Ground.data }, { on := 9, ground := Ground.chain }, { on := 0, ground := Ground.phase }, { on := 1, ground := Ground.phase }, { on := 2, ground := Ground.phase }, { on := 3, ground := Ground.phase }, { on := 4, ground := Ground.phase }, { on := 5, ground := Ground.phase }, { on := 6, ground := Ground.phase }, { on := 7, ground := Ground.phase }, { on := 8, ground := Ground.phase }, { on := 9, ground := Ground.phase }], guard := none }
def lg13o : Array Oper := #[lg130, lg131, lg132, lg133, lg134, lg135, lg136, lg137, lg138, lg139, lg1310]
structure lg13h (sb ab ob k : Nat) (l r o v : Sl) (z : E4) (W : World) : Prop where
 a0 : W.cell? ⟨ab, 0, none⟩ = some (.slice l.p l.n l.c)
 a1 : W.cell? ⟨ab, 1, none⟩ = some (.slice r.p r.n r.c)
 a2 : W.cell? ⟨ab, 2, none⟩ = some (.slice o.p o.n o.c)
 a3 : W.cell? ⟨ab, 3, none⟩ = some (.slice v.p v.n v.c)
 o0 : W.cell? ⟨ob, 0, none⟩ = some (.int .i64 4)
 o1 : W.cell? ⟨ob, 1, none⟩ = some (.int .i64 (k : Int))
 C1 : Hid (∀ y, Below W.heap.size W y → Calls Tryd.prog 10 #[.agg #[.int .i64 4, .int .i64 (k : Int)]] y fun e w' => ∃ p1 c1, e = .returned (.slice p1 1 c1) ∧ Lt w' p1 1 (ft [((4, (k : Int)), 1)]) ∧ Below y.heap.size y w')
 E1 : Hid (∀ (p1 : Option Addr) (c1 : Nat) (y : World), Below W.heap.size W y → Lt y p1 1 (ft [((4, (k : Int)), 1)]) → Calls Tryd.prog 9 #[.pointer (some ⟨sb, 0, none⟩), .agg #[.slice l.p l.n l.c, .slice r.p r.n r.c, .slice o.p o.n o.c, .slice v.p v.n v.c], .slice p1 1 c1] y fun e w' => e = .returned (.tuple #[.agg #[.int .u64 z.x0, .int .u64 z.x1, .int .u64 z.x2, .int .u64 z.x3], .int .i64 0]) ∧ Below y.heap.size y w')
def lg13S (U : Nat → Value) (sb ab ob k : Nat) (l r o v : Sl) (z : E4) (p1 : Option Addr) (c1 : Nat) (rb : Nat) (f3 f4 f5 f6 f7 f8 f10 : Bool) : Array Value := #[U 0, U 1, U 2, U 3, U 4, U 5, U 6, U 7, U 8, U 9, U 10, .pointer (some ⟨sb, 0, none⟩), U 12, U 13, U 14, .pointer (some ⟨ob, 0, none⟩), U 16, .pointer (some ⟨ab, 0, none⟩), U 18, U 19, U 20, U 21, bif f8 then .pointer (some ⟨rb, 0, none⟩) else U 22, bif f10 then .int .i64 0 else U 23, U 24, U 25, U 26, U 27, U 28, U 29, U 30, U 31, U 32, U 33, U 34, U 35, U 36, U 37, U 38, U 39, U 40, U 41, U 42, U 43, U 44, U 45, U 46, U 47, U 48, U 49, U 50, U 51, U 52, U 53, U 54, U 55, U 56, U 57, U 58, U 59, U 60, U 61, U 62, U 63, U 64, U 65, U 66, U 67, U 68, U 69, U 70, U 71, U 72, U 73, U 74, U 75, U 76, U 77, U 78, U 79, U 80, U 81, U 82, U 83, U 84, U 85, U 86, U 87, U 88, U 89, bif f5 then .tuple #[.agg #[.int .u64 z.x0, .int .u64 z.x1, .int .u64 z.x2, .int .u64 z.x3], .int .i64 0] else U 90, .pointer (some ⟨sb, 0, none⟩), .agg #[.slice l.p l.n l.c, .slice r.p r.n r.c, .slice o.p o.n o.c, .slice v.p v.n v.c], .agg #[.int .i64 4, .int .i64 (k : Int)], bif f3 then .slice p1 1 c1 else U 94, bif f4 then .tuple #[.agg #[.int .u64 z.x0, .int .u64 z.x1, .int .u64 z.x2, .int .u64 z.x3], .int .i64 0] else U 95, bif f6 then .agg #[.int .u64 z.x0, .int .u64 z.x1, .int .u64 z.x2, .int .u64 z.x3] else U 96, bif f7 then .int .i64 0 else U 97, U 98, U 99, U 100, U 101, U 102, U 103, U 104, U 105, U 106, U 107, U 108, U 109, U 110, U 111, U 112, U 113, U 114, U 115, U 116, U 117, U 118, U 119, U 120, U 121, U 122, U 123, U 124, U 125, U 126, U 127, U 128, U 129, U 130, U 131, U 132, U 133, U 134, U 135, U 136, U 137, U 138, U 139, U 140, U 141, U 142, U 143, U 144, U 145, U 146, U 147, U 148, U 149, U 150, U 151, U 152, U 153, U 154, U 155, U 156, U 157, U 158, U 159, U 160, U 161, U 162, U 163, U 164, U 165, U 166, U 167, U 168, U 169, U 170, U 171, U 172, U 173, U 174, U 175, U 176, U 177, U 178, U 179, U 180, U 181, U 182, U 183, U 184, U 185, U 186, U 187, U 188, U 189, U 190, U 191, U 192, U 193, U 194, U 195, U 196, U 197, U 198, U 199, U 200, U 201, U 202, U 203, U 204, U 205, U 206, U 207, U 208, U 209, U 210, U 211, U 212, U 213, U 214, U 215, U 216, U 217, U 218, U 219, U 220, U 221, U 222, U 223, U 224, U 225, U 226, U 227, U 228, U 229, U 230, U 231, U 232, U 233, U 234, U 235, U 236, U 237, U 238, U 239, U 240, U 241, U 242, U 243, U 244, U 245, U 246, U 247, U 248, U 249, U 250, U 251, U 252, U 253, U 254, U 255, U 256, U 257, U 258, U 259, U 260, U 261, U 262, U 263, U 264, U 265, U 266, U 267, U 268, U 269]
def lg13G (Q : Exit → Act → World → Prop) (sb ab ob k : Nat) (l r o v : Sl) (z : E4) (W : World) (fuel : Nat) (listed : Array Bool) (a : Array Value) (w : World) : Prop := wpAnyH Tryd.prog Region.Mode.any lg13o (NoPanic Q) (fun x => Below W.heap.size W x) fuel listed ⟨a, []⟩ w
def lg13f (Q : Exit → Act → World → Prop) (sb ab ob k : Nat) (l r o v : Sl) (z : E4) (U : Nat → Value) (W : World) : Prop := ∀ (wz : World) (p1 : Option Addr) (c1 : Nat) (rb : Nat), Below W.heap.size W wz → W.heap.size ≤ rb → wz.rangeAt rb 0 [.int .u64 z.x0, .int .u64 z.x1, .int .u64 z.x2, .int .u64 z.x3] ∧ wz.there rb 0 4 → Q .normal ⟨lg13S U sb ab ob k l r o v z p1 c1 rb true true true true true true true, []⟩ wz
section
variable {Q : Exit → Act → World → Prop} {sb ab ob k : Nat} {l r o v : Sl} {z : E4} {U : Nat → Value} {W : World}
theorem lg13_7ff (H : lg13h sb ab ob k l r o v z W) (p1 : Option Addr) (c1 : Nat) (rb : Nat) (w : World) (listed : Array Bool) (hl : listed = #[true, true, true, true, true, true, true, true, true, true, true]) (RB : Hid (W.heap.size ≤ rb)) (FR : Hid (w.rangeAt rb 0 [.int .u64 z.x0, .int .u64 z.x1, .int .u64 z.x2, .int .u64 z.x3] ∧ w.there rb 0 4)) (HH : Hid (Below W.heap.size W w)) (HQ : Hid (lg13f Q sb ab ob k l r o v z U W)) : lg13G Q sb ab ob k l r o v z W 0 listed (lg13S U sb ab ob k l r o v z p1 c1 rb true true true true true true true) w := by
 subst hl
 have H0 := H
 obtain ⟨a0, a1, a2, a3, o0, o1, C1, E1⟩ := H
 simp only [lg13G, lg13S, cond_true, cond_false]
 refine wpAnyH_done (by kernel_rfl) ?_ _
 refine NoPanic.normal ?_
 exact HQ.out _ p1 c1 rb HH.out RB.out FR.out
theorem lg13_1ff (H : lg13h sb ab ob k l r o v z W) (p1 : Option Addr) (c1 : Nat) (rb : Nat) (w : World) (listed : Array Bool) (hl : listed = #[true, true, true, true, true, true, true, true, true, false, false]) (TH : Hid (w.there rb 0 4)) (RB : Hid (W.heap.size ≤ rb)) (HH : Hid (Below W.heap.size W w)) (HQ : Hid (lg13f Q sb ab ob k l r o v z U W)) : lg13G Q sb ab ob k l r o v z W 2 listed (lg13S U sb ab ob k l r o v z p1 c1 rb true true true true true true false) w := by
 subst hl
 have H0 := H
 obtain ⟨a0, a1, a2, a3, o0, o1, C1, E1⟩ := H
 simp only [lg13G, lg13S, cond_true, cond_false]
 refine wpAnyH_ready (rs := [9]) (by kernel_rfl) (by simp) ?_
 refine AllReadyH.cons (o := lg139) rfl (fun K hK => ?_) AllReadyH.nil
 refine wp_storeE 41 _ _ rfl rb 0 ([.int .u64 z.x0, .int .u64 z.x1, .int .u64 z.x2, .int .u64 z.x3]) (by rfl) (by rfl) TH.out i4_s (by simp [Value.oneCell']) rfl (fun w2 hw => ?_)
 have SN := hidden (by rw [hw]; exact HH.out.grown (gb_setCells rb [.int .u64 z.x0, .int .u64 z.x1, .int .u64 z.x2, .int .u64 z.x3] 0 _) HH.out.size (fun k hk => by obtain rfl := Option.some.inj hk; exact RB.out) : Below W.heap.size W w2)
 have FR := hidden (by rw [hw]; exact ⟨World.rangeAt_setCells_same _ rb 0 _ TH.out, there_set TH.out _ 0 _⟩ : w2.rangeAt rb 0 [.int .u64 z.x0, .int .u64 z.x1, .int .u64 z.x2, .int .u64 z.x3] ∧ w2.there rb 0 4)
 replace HH := SN
 clear SN TH hw
 refine hK.out _ _ HH.out (fun hH => ?_); clear hK K
 refine tk 10 lg1310 (.int .i64 0) rfl (by kernel_rfl) hH rfl (fun w0 hSw => ?_) ?_
 ·(unfold lg1310; clear hSw; go_simp)
 unfold lg1310
 simp only [Act.put, sA, sB, sC]
 exact lg13_7ff H0 p1 c1 rb w2 _ (by kernel_rfl) RB FR HH HQ
theorem lg13_ff (H : lg13h sb ab ob k l r o v z W) (p1 : Option Addr) (c1 : Nat) (w : World) (listed : Array Bool) (hl : listed = #[true, true, true, true, true, true, true, true, false, false, false])  (HH : Hid (Below W.heap.size W w)) (HQ : Hid (lg13f Q sb ab ob k l r o v z U W)) : lg13G Q sb ab ob k l r o v z W 3 listed (lg13S U sb ab ob k l r o v z p1 c1 0 true true true true true false false) w := by
 subst hl
 have H0 := H
 obtain ⟨a0, a1, a2, a3, o0, o1, C1, E1⟩ := H
 simp only [lg13G, lg13S, cond_true, cond_false]
 refine wpAnyH_ready (rs := [8]) (by kernel_rfl) (by simp) ?_
 refine AllReadyH.cons (o := lg138) rfl (fun K hK => ?_) AllReadyH.nil
 refine wp_allocS rfl (fun rb w2 htb hwq => ?_)
 have hbb : Below w.heap.size w w2 := (by rw [hwq]; exact bl_alloc _ _)
 have SN := hidden (by rw [hwq]; exact bl_trans HH.out (bl_alloc _ _) : Below W.heap.size W w2)
 have TH := hidden (by rw [htb, hwq]; exact there_newM _ [.int .u64 0, .int .u64 0, .int .u64 0, .int .u64 0] _ : w2.there rb 0 4)
 have RB := hidden (by rw [htb]; exact HH.out.size : W.heap.size ≤ rb)
 replace HH := SN
 clear SN hbb  htb hwq
 unfold lg138
 simp only [Act.put, sA, sB, sC]
 refine hK.out _ _ HH.out (fun hH => ?_); clear hK K
 exact lg13_1ff H0 p1 c1 rb w2 _ (by kernel_rfl) TH RB HH HQ
theorem lg13_10f (H : lg13h sb ab ob k l r o v z W) (p1 : Option Addr) (c1 : Nat) (rb : Nat) (w : World) (listed : Array Bool) (hl : listed = #[true, true, true, true, false, false, false, false, true, false, false]) (L1 : Hid (Lt w p1 1 (ft [((4, (k : Int)), 1)]))) (TH : Hid (w.there rb 0 4)) (RB : Hid (W.heap.size ≤ rb)) (HH : Hid (Below W.heap.size W w)) (HQ : Hid (lg13f Q sb ab ob k l r o v z U W)) : lg13G Q sb ab ob k l r o v z W 6 listed (lg13S U sb ab ob k l r o v z p1 c1 rb true false false false false true false) w := by
 subst hl
 have H0 := H
 obtain ⟨a0, a1, a2, a3, o0, o1, C1, E1⟩ := H
 simp only [lg13G, lg13S, cond_true, cond_false]
 refine wpAnyH_ready (rs := [4]) (by kernel_rfl) (by simp) ?_
 refine AllReadyH.cons (o := lg134) rfl (fun K hK => ?_) AllReadyH.nil
 unfold lg134
 go_simp
 refine (E1.out _ _ _ HH.out L1.out).mono ?_
 rintro e w2 ⟨rfl, hb⟩
 have SN := hidden (bl_trans HH.out hb : Below W.heap.size W w2)
 replace TH := hidden (there_bl TH.out hb)
 replace HH := SN
 clear SN L1 hb
 go_wp2_with fail
 refine hK.out _ _ HH.out (fun hH => ?_); clear hK K
 refine tk 5 lg135 (.tuple #[.agg #[.int .u64 z.x0, .int .u64 z.x1, .int .u64 z.x2, .int .u64 z.x3], .int .i64 0]) rfl (by kernel_rfl) hH rfl (fun w0 hSw => ?_) ?_
 ·(unfold lg135; clear hSw; go_simp)
 unfold lg135
 simp only [Act.put, sA, sB, sC]
 refine tk 6 lg136 (.agg #[.int .u64 z.x0, .int .u64 z.x1, .int .u64 z.x2, .int .u64 z.x3]) rfl (by kernel_rfl) hH rfl (fun w0 hSw => ?_) ?_
 ·(unfold lg136; clear hSw; go_simp)
 unfold lg136
 simp only [Act.put, sA, sB, sC]
 refine tk 7 lg137 (.int .i64 0) rfl (by kernel_rfl) hH rfl (fun w0 hSw => ?_) ?_
 ·(unfold lg137; clear hSw; go_simp)
 unfold lg137
 simp only [Act.put, sA, sB, sC]
 exact lg13_1ff H0 p1 c1 rb w2 _ (by kernel_rfl) TH RB HH HQ
theorem lg13_107 (H : lg13h sb ab ob k l r o v z W) (rb : Nat) (w : World) (listed : Array Bool) (hl : listed = #[true, true, true, false, false, false, false, false, true, false, false]) (TH : Hid (w.there rb 0 4)) (RB : Hid (W.heap.size ≤ rb)) (HH : Hid (Below W.heap.size W w)) (HQ : Hid (lg13f Q sb ab ob k l r o v z U W)) : lg13G Q sb ab ob k l r o v z W 7 listed (lg13S U sb ab ob k l r o v z none 0 rb false false false false false true false) w := by
 subst hl
 have H0 := H
 obtain ⟨a0, a1, a2, a3, o0, o1, C1, E1⟩ := H
 simp only [lg13G, lg13S, cond_true, cond_false]
 refine wpAnyH_ready (rs := [3]) (by kernel_rfl) (by simp) ?_
 refine AllReadyH.cons (o := lg133) rfl (fun K hK => ?_) AllReadyH.nil
 unfold lg133
 go_simp
 refine (C1.out _ HH.out).mono ?_
 rintro e w2 ⟨p1, c1, rfl, hl, hb⟩
 have SN := hidden (bl_trans HH.out hb : Below W.heap.size W w2)
 have L1 := hidden (hl : Lt w2 p1 1 (ft [((4, (k : Int)), 1)]))
 replace TH := hidden (there_bl TH.out hb)
 replace HH := SN
 clear SN  hl hb
 go_wp2_with fail
 refine hK.out _ _ HH.out (fun hH => ?_); clear hK K
 exact lg13_10f H0 p1 c1 rb w2 _ (by kernel_rfl) L1 TH RB HH HQ
theorem lg13_f (H : lg13h sb ab ob k l r o v z W) (p1 : Option Addr) (c1 : Nat) (w : World) (listed : Array Bool) (hl : listed = #[true, true, true, true, false, false, false, false, false, false, false]) (L1 : Hid (Lt w p1 1 (ft [((4, (k : Int)), 1)]))) (HH : Hid (Below W.heap.size W w)) (HQ : Hid (lg13f Q sb ab ob k l r o v z U W)) : lg13G Q sb ab ob k l r o v z W 7 listed (lg13S U sb ab ob k l r o v z p1 c1 0 true false false false false false false) w := by
 subst hl
 have H0 := H
 obtain ⟨a0, a1, a2, a3, o0, o1, C1, E1⟩ := H
 simp only [lg13G, lg13S, cond_true, cond_false]
 refine wpAnyH_ready (rs := [4, 8]) (by kernel_rfl) (by simp) ?_
 refine AllReadyH.cons (o := lg134) rfl (fun K hK => ?_) (AllReadyH.cons (o := lg138) rfl (fun K hK => ?_) AllReadyH.nil)
 ·unfold lg134
  go_simp
  refine (E1.out _ _ _ HH.out L1.out).mono ?_
  rintro e w2 ⟨rfl, hb⟩
  have SN := hidden (bl_trans HH.out hb : Below W.heap.size W w2)
  replace HH := SN
  clear SN L1 hb
  go_wp2_with fail
  refine hK.out _ _ HH.out (fun hH => ?_); clear hK K
  refine tk 5 lg135 (.tuple #[.agg #[.int .u64 z.x0, .int .u64 z.x1, .int .u64 z.x2, .int .u64 z.x3], .int .i64 0]) rfl (by kernel_rfl) hH rfl (fun w0 hSw => ?_) ?_
  ·(unfold lg135; clear hSw; go_simp)
  unfold lg135
  simp only [Act.put, sA, sB, sC]
  refine tk 6 lg136 (.agg #[.int .u64 z.x0, .int .u64 z.x1, .int .u64 z.x2, .int .u64 z.x3]) rfl (by kernel_rfl) hH rfl (fun w0 hSw => ?_) ?_
  ·(unfold lg136; clear hSw; go_simp)
  unfold lg136
  simp only [Act.put, sA, sB, sC]
  refine tk 7 lg137 (.int .i64 0) rfl (by kernel_rfl) hH rfl (fun w0 hSw => ?_) ?_
  ·(unfold lg137; clear hSw; go_simp)
  unfold lg137
  simp only [Act.put, sA, sB, sC]
  exact lg13_ff H0 p1 c1 w2 _ (by kernel_rfl)  HH HQ
 ·refine wp_allocS rfl (fun rb w2 htb hwq => ?_)
  have hbb : Below w.heap.size w w2 := (by rw [hwq]; exact bl_alloc _ _)
  have SN := hidden (by rw [hwq]; exact bl_trans HH.out (bl_alloc _ _) : Below W.heap.size W w2)
  have TH := hidden (by rw [htb, hwq]; exact there_newM _ [.int .u64 0, .int .u64 0, .int .u64 0, .int .u64 0] _ : w2.there rb 0 4)
  have RB := hidden (by rw [htb]; exact HH.out.size : W.heap.size ≤ rb)
  replace L1 := hidden (L1.out.keep hbb)
  replace HH := SN
  clear SN hbb  htb hwq
  unfold lg138
  simp only [Act.put, sA, sB, sC]
  refine hK.out _ _ HH.out (fun hH => ?_); clear hK K
  exact lg13_10f H0 p1 c1 rb w2 _ (by kernel_rfl) L1 TH RB HH HQ
theorem lg13_7 (H : lg13h sb ab ob k l r o v z W)  (w : World) (listed : Array Bool) (hl : listed = #[true, true, true, false, false, false, false, false, false, false, false])  (HH : Hid (Below W.heap.size W w)) (HQ : Hid (lg13f Q sb ab ob k l r o v z U W)) : lg13G Q sb ab ob k l r o v z W 8 listed (lg13S U sb ab ob k l r o v z none 0 0 false false false false false false false) w := by
 subst hl
 have H0 := H
 obtain ⟨a0, a1, a2, a3, o0, o1, C1, E1⟩ := H
 simp only [lg13G, lg13S, cond_true, cond_false]
 refine wpAnyH_ready (rs := [3, 8]) (by kernel_rfl) (by simp) ?_
 refine AllReadyH.cons (o := lg133) rfl (fun K hK => ?_) (AllReadyH.cons (o := lg138) rfl (fun K hK => ?_) AllReadyH.nil)
 ·unfold lg133
  go_simp
  refine (C1.out _ HH.out).mono ?_
  rintro e w2 ⟨p1, c1, rfl, hl, hb⟩
  have SN := hidden (bl_trans HH.out hb : Below W.heap.size W w2)
  have L1 := hidden (hl : Lt w2 p1 1 (ft [((4, (k : Int)), 1)]))
  replace HH := SN
  clear SN  hl hb
  go_wp2_with fail
  refine hK.out _ _ HH.out (fun hH => ?_); clear hK K
  exact lg13_f H0 p1 c1 w2 _ (by kernel_rfl) L1 HH HQ
 ·refine wp_allocS rfl (fun rb w2 htb hwq => ?_)
  have hbb : Below w.heap.size w w2 := (by rw [hwq]; exact bl_alloc _ _)
  have SN := hidden (by rw [hwq]; exact bl_trans HH.out (bl_alloc _ _) : Below W.heap.size W w2)
  have TH := hidden (by rw [htb, hwq]; exact there_newM _ [.int .u64 0, .int .u64 0, .int .u64 0, .int .u64 0] _ : w2.there rb 0 4)
  have RB := hidden (by rw [htb]; exact HH.out.size : W.heap.size ≤ rb)
  replace HH := SN
  clear SN hbb  htb hwq
  unfold lg138
  simp only [Act.put, sA, sB, sC]
  refine hK.out _ _ HH.out (fun hH => ?_); clear hK K
  exact lg13_107 H0 rb w2 _ (by kernel_rfl) TH RB HH HQ
end
theorem lg13 (Q : Exit → Act → World → Prop) (sb ab ob k : Nat) (l r o v : Sl) (z : E4) (u0 u1 u2 u3 u4 u5 u6 u7 u8 u9 uA uC uD uE uG uI uJ uK uL uM uN uO uP uQ uR uS uT uU uV uW uX uY uZ ua ub uc ud ue uf ug uh ui uj uk ul um un uo up uq ur us ut uu uv uw ux uy uz u0A u0B u0C u0D u0E u0F u0G u0H u0I u0J u0K u0L u0M u0N u0O u0P u0Q u0R u0S u0T u0U u0V u0W u0X u0Y u0Z u0a u0b u0c u0d u0e u0f u0g u0h u0i u0j u0k u0l u0m u0n u0o u0p u0q u0r u0s u0t u0u u0v u0w u0x u0y u0z u1A u1B u1C u1D u1E u1F u1G u1H u1I u1J u1K u1L u1M u1N u1O u1P u1Q u1R u1S u1T u1U u1V u1W u1X u1Y u1Z u1a u1b u1c u1d u1e u1f u1g u1h u1i u1j u1k u1l u1m u1n u1o u1p u1q u1r u1s u1t u1u u1v u1w u1x u1y u1z u2A u2B u2C u2D u2E u2F u2G u2H u2I u2J u2K u2L u2M u2N u2O u2P u2Q u2R u2S u2T u2U u2V u2W u2X u2Y u2Z u2a u2b u2c u2d u2e u2f u2g u2h u2i u2j u2k u2l u2m u2n u2o u2p u2q u2r u2s u2t u2u u2v u2w u2x u2y u2z u3A u3B u3C u3D u3E u3F u3G u3H u3I u3J u3K u3L u3M u3N u3O u3P u3Q u3R u3S u3T u3U u3V u3W u3X u3Y u3Z u3a u3b u3c u3d u3e u3f u3g u3h u3i u3j u3k u3l u3m u3n u3o u3p u3q u3r u3s u3t u3u u3v u3w u3x u3y u3z : Value) (W : World) (H : lg13h sb ab ob k l r o v z W)
  (HQ : Hid (∀ (wz : World) (p1 : Option Addr) (c1 : Nat) (rb : Nat), Below W.heap.size W wz → W.heap.size ≤ rb → wz.rangeAt rb 0 [.int .u64 z.x0, .int .u64 z.x1, .int .u64 z.x2, .int .u64 z.x3] ∧ wz.there rb 0 4 → Q .normal ⟨#[u0, u1, u2, u3, u4, u5, u6, u7, u8, u9, uA, .pointer (some ⟨sb, 0, none⟩), uC, uD, uE, .pointer (some ⟨ob, 0, none⟩), uG, .pointer (some ⟨ab, 0, none⟩), uI, uJ, uK, uL, .pointer (some ⟨rb, 0, none⟩), .int .i64 0, uO, uP, uQ, uR, uS, uT, uU, uV, uW, uX, uY, uZ, ua, ub, uc, ud, ue, uf, ug, uh, ui, uj, uk, ul, um, un, uo, up, uq, ur, us, ut, uu, uv, uw, ux, uy, uz, u0A, u0B, u0C, u0D, u0E, u0F, u0G, u0H, u0I, u0J, u0K, u0L, u0M, u0N, u0O, u0P, u0Q, u0R, u0S, u0T, u0U, u0V, u0W, u0X, u0Y, u0Z, u0a, u0b, .tuple #[.agg #[.int .u64 z.x0, .int .u64 z.x1, .int .u64 z.x2, .int .u64 z.x3], .int .i64 0], .pointer (some ⟨sb, 0, none⟩), .agg #[.slice l.p l.n l.c, .slice r.p r.n r.c, .slice o.p o.n o.c, .slice v.p v.n v.c], .agg #[.int .i64 4, .int .i64 (k : Int)], .slice p1 1 c1, .tuple #[.agg #[.int .u64 z.x0, .int .u64 z.x1, .int .u64 z.x2, .int .u64 z.x3], .int .i64 0], .agg #[.int .u64 z.x0, .int .u64 z.x1, .int .u64 z.x2, .int .u64 z.x3], .int .i64 0, u0k, u0l, u0m, u0n, u0o, u0p, u0q, u0r, u0s, u0t, u0u, u0v, u0w, u0x, u0y, u0z, u1A, u1B, u1C, u1D, u1E, u1F, u1G, u1H, u1I, u1J, u1K, u1L, u1M, u1N, u1O, u1P, u1Q, u1R, u1S, u1T, u1U, u1V, u1W, u1X, u1Y, u1Z, u1a, u1b, u1c, u1d, u1e, u1f, u1g, u1h, u1i, u1j, u1k, u1l, u1m, u1n, u1o, u1p, u1q, u1r, u1s, u1t, u1u, u1v, u1w, u1x, u1y, u1z, u2A, u2B, u2C, u2D, u2E, u2F, u2G, u2H, u2I, u2J, u2K, u2L, u2M, u2N, u2O, u2P, u2Q, u2R, u2S, u2T, u2U, u2V, u2W, u2X, u2Y, u2Z, u2a, u2b, u2c, u2d, u2e, u2f, u2g, u2h, u2i, u2j, u2k, u2l, u2m, u2n, u2o, u2p, u2q, u2r, u2s, u2t, u2u, u2v, u2w, u2x, u2y, u2z, u3A, u3B, u3C, u3D, u3E, u3F, u3G, u3H, u3I, u3J, u3K, u3L, u3M, u3N, u3O, u3P, u3Q, u3R, u3S, u3T, u3U, u3V, u3W, u3X, u3Y, u3Z, u3a, u3b, u3c, u3d, u3e, u3f, u3g, u3h, u3i, u3j, u3k, u3l, u3m, u3n, u3o, u3p, u3q, u3r, u3s, u3t, u3u, u3v, u3w, u3x, u3y, u3z], []⟩ wz)) : (Code.region 13 lg13o true).wp Tryd.prog Q ⟨#[u0, u1, u2, u3, u4, u5, u6, u7, u8, u9, uA, .pointer (some ⟨sb, 0, none⟩), uC, uD, uE, .pointer (some ⟨ob, 0, none⟩), uG, .pointer (some ⟨ab, 0, none⟩), uI, uJ, uK, uL, uM, uN, uO, uP, uQ, uR, uS, uT, uU, uV, uW, uX, uY, uZ, ua, ub, uc, ud, ue, uf, ug, uh, ui, uj, uk, ul, um, un, uo, up, uq, ur, us, ut, uu, uv, uw, ux, uy, uz, u0A, u0B, u0C, u0D, u0E, u0F, u0G, u0H, u0I, u0J, u0K, u0L, u0M, u0N, u0O, u0P, u0Q, u0R, u0S, u0T, u0U, u0V, u0W, u0X, u0Y, u0Z, u0a, u0b, u0c, u0d, u0e, u0f, u0g, u0h, u0i, u0j, u0k, u0l, u0m, u0n, u0o, u0p, u0q, u0r, u0s, u0t, u0u, u0v, u0w, u0x, u0y, u0z, u1A, u1B, u1C, u1D, u1E, u1F, u1G, u1H, u1I, u1J, u1K, u1L, u1M, u1N, u1O, u1P, u1Q, u1R, u1S, u1T, u1U, u1V, u1W, u1X, u1Y, u1Z, u1a, u1b, u1c, u1d, u1e, u1f, u1g, u1h, u1i, u1j, u1k, u1l, u1m, u1n, u1o, u1p, u1q, u1r, u1s, u1t, u1u, u1v, u1w, u1x, u1y, u1z, u2A, u2B, u2C, u2D, u2E, u2F, u2G, u2H, u2I, u2J, u2K, u2L, u2M, u2N, u2O, u2P, u2Q, u2R, u2S, u2T, u2U, u2V, u2W, u2X, u2Y, u2Z, u2a, u2b, u2c, u2d, u2e, u2f, u2g, u2h, u2i, u2j, u2k, u2l, u2m, u2n, u2o, u2p, u2q, u2r, u2s, u2t, u2u, u2v, u2w, u2x, u2y, u2z, u3A, u3B, u3C, u3D, u3E, u3F, u3G, u3H, u3I, u3J, u3K, u3L, u3M, u3N, u3O, u3P, u3Q, u3R, u3S, u3T, u3U, u3V, u3W, u3X, u3Y, u3Z, u3a, u3b, u3c, u3d, u3e, u3f, u3g, u3h, u3i, u3j, u3k, u3l, u3m, u3n, u3o, u3p, u3q, u3r, u3s, u3t, u3u, u3v, u3w, u3x, u3y, u3z], []⟩ W := by
 have H0 := H
 obtain ⟨a0, a1, a2, a3, o0, o1, C1, E1⟩ := H
 replace HQ : Hid (lg13f Q sb ab ob k l r o v z (nth [u0, u1, u2, u3, u4, u5, u6, u7, u8, u9, uA, undef, uC, uD, uE, undef, uG, undef, uI, uJ, uK, uL, uM, uN, uO, uP, uQ, uR, uS, uT, uU, uV, uW, uX, uY, uZ, ua, ub, uc, ud, ue, uf, ug, uh, ui, uj, uk, ul, um, un, uo, up, uq, ur, us, ut, uu, uv, uw, ux, uy, uz, u0A, u0B, u0C, u0D, u0E, u0F, u0G, u0H, u0I, u0J, u0K, u0L, u0M, u0N, u0O, u0P, u0Q, u0R, u0S, u0T, u0U, u0V, u0W, u0X, u0Y, u0Z, u0a, u0b, u0c, u0d, u0e, u0f, u0g, u0h, u0i, u0j, u0k, u0l, u0m, u0n, u0o, u0p, u0q, u0r, u0s, u0t, u0u, u0v, u0w, u0x, u0y, u0z, u1A, u1B, u1C, u1D, u1E, u1F, u1G, u1H, u1I, u1J, u1K, u1L, u1M, u1N, u1O, u1P, u1Q, u1R, u1S, u1T, u1U, u1V, u1W, u1X, u1Y, u1Z, u1a, u1b, u1c, u1d, u1e, u1f, u1g, u1h, u1i, u1j, u1k, u1l, u1m, u1n, u1o, u1p, u1q, u1r, u1s, u1t, u1u, u1v, u1w, u1x, u1y, u1z, u2A, u2B, u2C, u2D, u2E, u2F, u2G, u2H, u2I, u2J, u2K, u2L, u2M, u2N, u2O, u2P, u2Q, u2R, u2S, u2T, u2U, u2V, u2W, u2X, u2Y, u2Z, u2a, u2b, u2c, u2d, u2e, u2f, u2g, u2h, u2i, u2j, u2k, u2l, u2m, u2n, u2o, u2p, u2q, u2r, u2s, u2t, u2u, u2v, u2w, u2x, u2y, u2z, u3A, u3B, u3C, u3D, u3E, u3F, u3G, u3H, u3I, u3J, u3K, u3L, u3M, u3N, u3O, u3P, u3Q, u3R, u3S, u3T, u3U, u3V, u3W, u3X, u3Y, u3Z, u3a, u3b, u3c, u3d, u3e, u3f, u3g, u3h, u3i, u3j, u3k, u3l, u3m, u3n, u3o, u3p, u3q, u3r, u3s, u3t, u3u, u3v, u3w, u3x, u3y, u3z]) W) := HQ
 refine wp_region_noPanic ?_
 refine wp_region_held_drew (S := fun x => Below W.heap.size W x) (by kernel_rfl) (bl_drew W) (fun hH => ?_)
 have HH := hidden hH
 refine tk 0 lg130 (.pointer (some ⟨sb, 0, none⟩)) rfl (by kernel_rfl) hH rfl (fun w0 hSw => ?_) ?_
 ·(unfold lg130; clear hSw; go_simp)
 unfold lg130
 simp only [Act.put, sA, sB, sC]
 refine tk 1 lg131 (.agg #[.slice l.p l.n l.c, .slice r.p r.n r.c, .slice o.p o.n o.c, .slice v.p v.n v.c]) rfl (by kernel_rfl) hH rfl (fun w0 hSw => ?_) ?_
 ·(unfold lg131; have hS : Below W.heap.size W w0 := hSw; have a0 := cell_keep a0 hS; have a1 := cell_keep a1 hS; have a2 := cell_keep a2 hS; have a3 := cell_keep a3 hS; clear hS hSw; go_simp)
 unfold lg131
 simp only [Act.put, sA, sB, sC]
 refine tk 2 lg132 (.agg #[.int .i64 4, .int .i64 (k : Int)]) rfl (by kernel_rfl) hH rfl (fun w0 hSw => ?_) ?_
 ·(unfold lg132; have hS : Below W.heap.size W w0 := hSw; have a0 := cell_keep o0 hS; have a1 := cell_keep o1 hS; clear hS hSw; go_simp)
 unfold lg132
 simp only [Act.put, sA, sB, sC]
 exact lg13_7 H0  W.drew _ (by kernel_rfl)  HH HQ
end Ci
end Go.Proofs.YtclihahohhhhiaaDoor
namespace Go.Proofs.YtclihahohhhhiaaDoor
open Go.RowKit
set_option linter.unusedVariables false
set_option linter.unusedSimpArgs false
open Cm (Wr Tm co bf Ls lf ins Eqm)
open Tr (By cb vn vn_len)
namespace Ci
set_option maxRecDepth 100000
set_option maxHeartbeats 8000000
theorem enB_pos (m K : Nat) (Q : List (List Tm)) : 1 ≤ (enB m K Q).length := by
 have := (vn_len m).1
 unfold enB
 rw [List.length_append, List.length_append, List.length_append]
 omega
theorem tsBy {w9 y : World} {t m K : Nat} {Q : List (List Tm)} (h : Ts w9 t m K Q y) (hT : Tb y) (hm : m ≤ 16) : Calls Tryd.prog 6 #[.pointer (some ⟨t, 0, none⟩)] y fun e w' => ∃ p1 c1, e = .returned (.slice p1 (enB m K Q).length c1) ∧ By w' p1 c1 (enB m K Q) ∧ Below y.heap.size y w' :=
 (tsEncode h hT hm).mono fun e w' ⟨v, he, ho, hb⟩ => by
  obtain ⟨g, c, hv, hc⟩ := own_bytes ho (enB_pos m K Q)
  subst hv
  exact ⟨some ⟨g, 0, none⟩, c, he, ⟨(fun h => by cases h), (fun a ha => by obtain rfl := Option.some.inj ha; exact hc)⟩, hb⟩
section
variable {w : World} {t m K : Nat} {Q : List (List Tm)} {x : World}
def mulOk (m K : Nat) (Q : List (List Tm)) (a b : Lf) : Prop := nm m K (lf Sm.L (glL a.n a.f)).length (ft (lf Sm.L (glL a.n a.f))) = true ∧ nm m K (lf Sm.L (glL b.n b.f)).length (ft (lf Sm.L (glL b.n b.f))) = true ∧ Q.length ≤ 4094 ∧ K < 1024
theorem tsMulOk (hT : Tb w) (h : Ts w t m K Q x) (a b : Lf) (ha : a.at x) (hb2 : b.at x) (ok : mulOk m K Q a b) : Calls Tryd.prog 7 #[.pointer (some ⟨t, 0, none⟩), .slice a.p a.n a.c, .slice b.p b.n b.c] x fun e w' => e = .returned (tup 2 K 3 K 4 K 0) ∧ Ts w t m (K + 1) (Q ++ [mulA K a.n a.f 2, mulA K b.n b.f 3]) w' := by
 obtain ⟨hw, hv, hq, hK⟩ := ok
 obtain ⟨base, v, vs, sy, hb, bl, wk⟩ := h
 have hn := ha.n
 have hn2 := hb2.n
 exact (Multiply_ok sy (hT.keep bl) a.p b.p a.n a.c b.n b.c a.f b.f (by omega) (by omega) ha.ok hb2.ok ha.lt hb2.lt hw hv (by omega) hK).mono fun e w' ⟨he, v', vs', h1, h2⟩ => ⟨he, ⟨base, v', vs', h1, hb, ts_fz sy hb bl h2, wk.mul hK (by omega) (by omega) (by omega) hw hv⟩⟩
theorem tsMulNo (hT : Tb w) (h : Ts w t m K Q x) (a b : Lf) (ha : a.at x) (hb2 : b.at x) (no : ¬ mulOk m K Q a b) : ∃ r : Int, (r = 200 ∨ r = 201) ∧ Calls Tryd.prog 7 #[.pointer (some ⟨t, 0, none⟩), .slice a.p a.n a.c, .slice b.p b.n b.c] x fun e w' => e = .returned (tup 0 0 0 0 0 0 r) ∧ Below x.heap.size x w' := by
 unfold mulOk at no
 obtain ⟨base, v, vs, sy, hb, bl, wk⟩ := h
 have hn := ha.n
 have hn2 := hb2.n
 cases hw : nm m K (lf Sm.L (glL a.n a.f)).length (ft (lf Sm.L (glL a.n a.f))) with
 | false => exact ⟨200, Or.inl rfl, Multiply_wireA sy (hT.keep bl) a.p b.p a.n a.c b.n b.c a.f b.f (by omega) (by omega) ha.ok hb2.ok ha.lt hb2.lt hw⟩
 | true =>
  cases hv : nm m K (lf Sm.L (glL b.n b.f)).length (ft (lf Sm.L (glL b.n b.f))) with
  | false => exact ⟨200, Or.inl rfl, Multiply_wireB sy (hT.keep bl) a.p b.p a.n a.c b.n b.c a.f b.f (by omega) (by omega) ha.ok hb2.ok ha.lt hb2.lt hw hv⟩
  | true =>
   by_cases hq : 4094 < Q.length
   ·exact ⟨201, Or.inr rfl, Multiply_full2 sy (hT.keep bl) a.p b.p a.n a.c b.n b.c a.f b.f (by omega) (by omega) ha.ok hb2.ok ha.lt hb2.lt hw hv hq⟩
   ·by_cases hK : K < 1024
    ·exact absurd ⟨hw, hv, by omega, hK⟩ no
    ·exact ⟨201, Or.inr rfl, Multiply_full1 sy (hT.keep bl) a.p b.p a.n a.c b.n b.c a.f b.f (by omega) (by omega) ha.ok hb2.ok ha.lt hb2.lt hw hv (by omega) (by omega)⟩
end
def Sl.upd (a : Sl) (k : Nat) (z : E4) : Sl := ⟨a.p, a.n, a.c, fun j => if j = k then z else a.g j⟩
section
variable {b0 m K : Nat} {a b c d : Sl} {x y : World}
theorem own_at {n : Nat} {s : Sl} (h : x.ownsRow b0 41 4 s.v n (s4s n s.g) ∧ ∀ k, k < n → (s.g k).ok) (hn : s.n = n) : s.at x := by
 obtain ⟨ho, hg⟩ := h
 obtain ⟨P, n', cc, g⟩ := s
 obtain rfl : n' = n := hn
 rcases ho.2 with ⟨h1, h2⟩ | ⟨gb, c', cur, h1, hle, _⟩
 ·subst h2
  exact ⟨⟨0, 0, fun h => absurd h (Nat.lt_irrefl 0), fun h => absurd h (Nat.lt_irrefl 0)⟩, hg⟩
 ·have hp : P = some ⟨gb, 0, none⟩ := by
   have h1' : Value.slice P n' cc = .slice (some ⟨gb, 0, none⟩) n' c' := h1
   simp only [Value.slice.injEq] at h1'
   exact h1'.1
  have key : ∀ k j u, k < n' → ([.int .u64 (g k).x0, .int .u64 (g k).x1, .int .u64 (g k).x2, .int .u64 (g k).x3] : List Value)[j]? = some u → x.cell? ⟨gb, 0 + k * 4 + j, none⟩ = some u := fun k j u hk hu => by
   have hj : j < 4 := by have := (List.getElem?_eq_some_iff.1 hu).1; simpa using this
   have := ho.cells (g := gb) (by rw [h1]; rfl) (k * 4 + j) u (by rw [s4s_get n' g k j hk hj]; exact hu)
   rw [Addr.add_mid] at this
   rw [Nat.add_assoc]
   exact this
  exact ⟨⟨gb, 0, fun _ => hp, fun _ => ⟨fun k hk => key k 0 _ hk rfl, fun k hk => key k 1 _ hk rfl, fun k hk => key k 2 _ hk rfl, fun k hk => key k 3 _ hk rfl⟩⟩, hg⟩
theorem Fw.at (h : Fw b0 m K a b c d x) : a.at x ∧ b.at x ∧ c.at x ∧ d.at x := ⟨own_at h.ra h.na, own_at h.rb h.nb, own_at h.rc h.nc, own_at h.rd h.nd⟩
theorem Fw.keep (h : Fw b0 m K a b c d x) (hb : Below x.heap.size x y) : Fw b0 m K a b c d y := ⟨⟨own_keepT h.ra.1 hb, h.ra.2⟩, ⟨own_keepT h.rb.1 hb, h.rb.2⟩, ⟨own_keepT h.rc.1 hb, h.rc.2⟩, ⟨own_keepT h.rd.1 hb, h.rd.2⟩, h.ab, h.ac, h.ad, h.bc, h.bd, h.cd, h.na, h.nb, h.nc, h.nd⟩
theorem own_set {n k gb : Nat} {s : Sl} {z : E4} (h : x.ownsRow b0 41 4 s.v n (s4s n s.g) ∧ ∀ k, k < n → (s.g k).ok) (hn : s.n = n) (hp : s.p = some ⟨gb, 0, none⟩) (hk : k < n) (hz : z.ok) : (x.setCells gb (k * 4) [.int .u64 z.x0, .int .u64 z.x1, .int .u64 z.x2, .int .u64 z.x3]).ownsRow b0 41 4 (s.upd k z).v n (s4s n (s.upd k z).g) ∧ ∀ j, j < n → ((s.upd k z).g j).ok := by
 obtain ⟨ho, hg⟩ := h
 obtain ⟨P, n', cc, g⟩ := s
 obtain rfl : n' = n := hn
 obtain rfl : P = some ⟨gb, 0, none⟩ := hp
 refine ⟨?_, fun j hj => ?_⟩
 ·show World.ownsRow _ b0 _ 4 (.slice (some ⟨gb, 0, none⟩) n' cc) n' (s4s n' (fun j => if j = k then z else g j))
  rw [← s4s_set hk]
  have ho' : x.ownsRow b0 41 4 (.slice (some ⟨gb, 0, none⟩) n' cc) n' (s4s n' g) := ho
  exact ((((ho'.stored (k * 4) (.int .u64 z.x0)).1.stored (k * 4 + 1) (.int .u64 z.x1)).1.stored (k * 4 + 2) (.int .u64 z.x2)).1.stored (k * 4 + 3) (.int .u64 z.x3)).1
 ·show (if j = k then z else g j).ok
  by_cases e : j = k
  ·rw [if_pos e]; exact hz
  ·rw [if_neg e]; exact hg j hj
theorem own_oth {n gb : Nat} {s u : Sl} {k : Nat} {cs : List Value} (h : x.ownsRow b0 41 4 s.v n (s4s n s.g) ∧ ∀ k, k < n → (s.g k).ok) (hp : u.p = some ⟨gb, 0, none⟩) (hd : Dj u.v s.v) : (x.setCells gb k cs).ownsRow b0 41 4 s.v n (s4s n s.g) ∧ ∀ k, k < n → (s.g k).ok := by
 refine ⟨h.1.kept (gb_setCells gb cs k x) ?_, h.2⟩
 cases hv : s.v.ownBlock with
 | none => exact .inl rfl
 | some q => exact .inr (fun e => hd q (by show Value.ownBlock (.slice u.p u.n u.c) = _; rw [hp]; exact (by rw [← hv] at e; exact congrArg some (Option.some.inj (e.symm.trans hv).symm).symm ▸ rfl)) hv)
end
end Ci
end Go.Proofs.YtclihahohhhhiaaDoor
namespace Go.Proofs.YtclihahohhhhiaaDoor
open Go.RowKit
set_option linter.unusedVariables false
set_option linter.unusedSimpArgs false
open Cm (Wr Tm co bf Ls lf ins Eqm)
namespace Ci
set_option maxRecDepth 100000
set_option maxHeartbeats 8000000
def Pb (P : Option Addr) (n lo hi : Nat) : Prop := ∀ a, P = some a → 0 < n → lo ≤ a.block ∧ a.block < hi
theorem Pb.mono {P : Option Addr} {n lo hi lo' hi' : Nat} (h : Pb P n lo hi) (h1 : lo' ≤ lo) (h2 : hi ≤ hi') : Pb P n lo' hi' := fun a ha hn => ⟨Nat.le_trans h1 (h a ha hn).1, Nat.lt_of_lt_of_le (h a ha hn).2 h2⟩
theorem own_pb {w : World} {base n c m : Nat} {t : TypeId} {P : Option Addr} {xs : List Value} (h : w.ownsRow base t 6 (.slice P n c) m xs) : Pb P n base w.heap.size := fun a ha hn => by
 subst ha
 rcases h.2 with ⟨h1, h2⟩ | ⟨g, c', cur, h1, hle, hc, _⟩
 ·simp at h1
 ·simp only [Value.slice.injEq, Option.some.injEq] at h1
  rw [h1.1]
  exact ⟨hle, (Array.getElem?_eq_some_iff.1 hc).1⟩
theorem Lt.far {x : World} {P : Option Addr} {n lo hi r k : Nat} {f : Nat → Trm} {cs : List Value} (h : Lt x P n f) (hp : Pb P n lo hi) (hr : r < lo ∨ hi ≤ r) : Lt (x.setCells r k cs) P n f := by
 obtain ⟨sb, so, h1, h2⟩ := h
 refine ⟨sb, so, h1, fun hn => ?_⟩
 have hb := hp _ (h1 hn) hn
 have hg := gb_setCells r cs k x
 have hR := h2 hn
 have key : ∀ i u, x.cell? ⟨sb, i, none⟩ = some u → (x.setCells r k cs).cell? ⟨sb, i, none⟩ = some u := fun i u hu => hg.cell hu (fun e => by have := Option.some.inj e; simp only at this hb; omega)
 exact ⟨fun k hk => key _ _ (hR.c0 k hk), fun k hk => key _ _ (hR.c1 k hk), fun k hk => key _ _ (hR.c2 k hk), fun k hk => key _ _ (hR.c3 k hk), fun k hk => key _ _ (hR.c4 k hk), fun k hk => key _ _ (hR.c5 k hk)⟩
theorem Clone0_any (P : Option Addr) (c : Nat) (w : World) : Calls Tryd.prog 43 #[.slice P 0 c] w fun e w' => ∃ P' c', e = .returned (.slice P' 0 c') ∧ Below w.heap.size w w' := by
 have eqn := fun (a : Option Addr) (l c : Nat) (w : World) => Lib.run_eql_slice_nil (P := Tryd.prog) w 24 69 a l c 0 0 (by kernel_rfl)
 have HI := hidden tinfo
 have T1 : Hid (Tryd.prog.underlying 24 = some (.slice 69)) := hidden (by kernel_rfl)
 have O0 := hidden (World.ownsRow_made (base := w.heap.size) (e := 69) (size := 6) w #[] 0 (Nat.le_refl _) (by unfold maxLen; omega) rfl)
 have B0 := hidden (bl_alloc w (.cells #[] 69))
 cases P with
 | none =>
  go_enter Tryd.func43, Tryd.ntmps43
  go_wp2_with fail
  exact bodyPost_ret (v := .slice none 0 0) (by simp [results, Tryd.results43, go_sem]) rfl ⟨none, 0, rfl, Below.refl _ _⟩
 | some a =>
  go_enter Tryd.func43, Tryd.ntmps43
  go_wp2_with (first | (at_builtin; refine wpList_append_own_none rfl _ _ 24 rfl w.heap.size 69 _ 6 T1.out HI.out _ 0 [] rfl O0.out rfl ?_))
  exact bodyPost_ret (v := .slice (some ⟨w.heap.size, 0, none⟩) 0 0) (by simp [results, Tryd.results43, go_sem]) rfl ⟨_, _, rfl, B0.out⟩
theorem Copy_any (P : Option Addr) (c : Nat) (X : List Tm) (w : World) (hn : X.length ≤ 2932031007402) (hL : Lt w P X.length (ft X)) : Calls Tryd.prog 43 #[.slice P X.length c] w fun e w' => ∃ P' c', e = .returned (.slice P' X.length c') ∧ (Lt w' P' X.length (ft X) ∧ Pb P' X.length w.heap.size w'.heap.size) ∧ Below w.heap.size w w' := by
 by_cases h0 : X.length = 0
 ·rw [h0]
  exact (Clone0_any P c w).mono fun e w' ⟨P', c', he, hb⟩ => ⟨P', c', he, ⟨⟨0, 0, fun h => by omega, fun h => by omega⟩, fun _ _ h => absurd h (Nat.lt_irrefl 0)⟩, hb⟩
 ·refine (Clone_any P X.length c (ft X) w (by omega) hn hL).mono fun e w' ⟨v, he, ho, hb⟩ => ?_
  obtain ⟨R, c2, e2, _, _⟩ := own_shT ho
  subst e2
  exact ⟨R, c2, he, ⟨own_lts ho, own_pb ho⟩, hb⟩
theorem Req_any {base : Nat} {w : World} {s m Kg : Nat} {v : Value} {vs : List Value} {Q : List (List Tm)} (h : Sy base w s m Kg v vs Q) (i : Nat) (X : List Tm) (hX : Q[i]? = some X) (hl : X.length ≤ 2932031007402) : Calls Tryd.prog 13 #[.pointer (some ⟨s, 0, none⟩), .int .i64 (i : Int)] w fun e w' => ∃ P c, e = .returned (.tuple #[.slice P X.length c, .int .i64 0]) ∧ (Lt w' P X.length (ft X) ∧ Pb P X.length w.heap.size w'.heap.size) ∧ Below w.heap.size w w' := by
 have hi := (List.getElem?_eq_some_iff.1 hX).1
 obtain ⟨u, hu, ho⟩ := h.ls i X hX
 obtain ⟨R, e, hR, _, _⟩ := own_shT ho
 subst hR
 have C := hidden (Copy_any R e X w hl (own_lts ho))
 have C0 := hidden (Requires_any h)
 have k2 := h.c2
 obtain ⟨Pv, cv, hv, hc, hp⟩ := h.shape
 subst hv
 obtain ⟨g, rfl⟩ := hp (by omega)
 have cu : w.cell? ⟨g, i, none⟩ = some (.slice R X.length e) := by
  have := h.row.cells (g := g) rfl i _ hu
  rwa [Addr.add_mid, Nat.zero_add] at this
 have l0 : ¬ (i : Int) < 0 := by omega
 have l1 : ¬ (Q.length : Int) ≤ (i : Int) := by omega
 have l2 : (0 : Int) ≤ (i : Int) := by omega
 have l3 : (i : Int) < (Q.length : Int) := by omega
 have FT : ∃ F, F = ft X := ⟨_, rfl⟩
 obtain ⟨F, hF⟩ := FT
 rw [← hF] at C ⊢
 clear h hX hu ho hl hi hc hp hF
 generalize Q.length = nq at *
 generalize X.length = xl at *
 go_enter Tryd.func13, Tryd.ntmps13
 go_wp2_with (first | (go_at_call 12; refine C0.out.mono ?_; rintro e w1 ⟨rfl, rfl⟩) | (go_at_call 43; refine C.out.mono ?_; rintro e w2 ⟨P2, c2, rfl, ho, hb⟩; have O2 := hidden ho; have B2 := hidden hb; clear ho hb))
 refine bodyPost_ret (v := .tuple #[.slice P2 xl c2, .int .i64 0]) (by simp [results, Tryd.results13, go_sem]) rfl ⟨P2, c2, rfl, O2.out, B2.out⟩
theorem tsReq {w9 y : World} {t m K : Nat} {Q : List (List Tm)} (h : Ts w9 t m K Q y) (i : Nat) (X : List Tm) (hX : Q[i]? = some X) : Calls Tryd.prog 13 #[.pointer (some ⟨t, 0, none⟩), .int .i64 (i : Int)] y fun e w' => ∃ P c, e = .returned (.tuple #[.slice P X.length c, .int .i64 0]) ∧ (Lt w' P X.length (ft X) ∧ Pb P X.length y.heap.size w'.heap.size) ∧ Below y.heap.size y w' := by
 obtain ⟨base, v, vs, sy, hb, bl, wk⟩ := h
 exact Req_any sy i X hX (wk.ln X (List.mem_of_getElem? hX))
theorem tsReqs {w9 y : World} {t m K : Nat} {Q : List (List Tm)} (h : Ts w9 t m K Q y) : Calls Tryd.prog 12 #[.pointer (some ⟨t, 0, none⟩)] y fun e w' => e = .returned (.int .i64 (Q.length : Int)) ∧ w' = y := by
 obtain ⟨base, v, vs, sy, hb, bl, wk⟩ := h
 exact Requires_any sy
theorem tsLs {w9 y : World} {t m K : Nat} {Q : List (List Tm)} (h : Ts w9 t m K Q y) : ∀ X ∈ Q, Ls Sm.L X := by
 obtain ⟨base, v, vs, sy, hb, bl, wk⟩ := h
 exact sy.sm
theorem lf_self {X : List Tm} (h : Ls Sm.L X) : lf Sm.L X = X := (Cm.lf_only L0 h (fun _ => rfl)).symm
theorem fit_B2 {a b c d : Sl} {m K : Nat} (h : a.n = K ∧ b.n = K ∧ c.n = K ∧ d.n = m) : ftB (nms 0 a b c d) m K = true := by
 rw [ftB_iff]
 intro k hk
 obtain ⟨h1, h2, h3, h4⟩ := h
 match k, hk with
 | 0, _ => rfl
 | 1, _ => rfl
 | 2, _ => exact h1
 | 3, _ => exact h2
 | 4, _ => exact h3
 | 5, _ => exact h4
theorem nm_req {m K : Nat} {X : List Tm} (hL : Ls Sm.L X) (hw : ∀ x ∈ X, hs m K x.1 = true) : nm m K X.length (ft X) = true := by
 have h := (nm_iff (m := m) (K := K) (Y := X)).2 (fun q hq => by
  by_cases e : ∃ x ∈ X, x.1 = q
  ·obtain ⟨x, hx, rfl⟩ := e
   exact hw x hx
  ·exact absurd (by rw [Cm.co_out (fun x hx e2 => e ⟨x, hx, e2⟩)]; rfl) hq)
 rwa [lf_self hL] at h
theorem es_req {N : Nat → Sl} {X : List Tm} (hL : Ls Sm.L X) : es N (ft X) X.length = lst (vl N X) := by
 have := es_lf N X
 rwa [lf_self hL] at this
theorem tsEvalQ {w9 y : World} {t m K : Nat} {Q : List (List Tm)} (h : Ts w9 t m K Q y) (hT : Tb y) {l r o v : Sl} (hA : l.at y ∧ r.at y ∧ o.at y ∧ v.at y) (hN : l.n = K ∧ r.n = K ∧ o.n = K ∧ v.n = m) {X : List Tm} (hX : X ∈ Q) {P : Option Addr} {e0 : Nat} (hL : Lt y P X.length (ft X)) :
  Calls Tryd.prog 9 #[.pointer (some ⟨t, 0, none⟩), .agg #[.slice l.p l.n l.c, .slice r.p r.n r.c, .slice o.p o.n o.c, .slice v.p v.n v.c], .slice P X.length e0] y fun e w' => e = .returned (.tuple #[.agg #[.int .u64 (lst (vl (nms 0 l r o v) X)).x0, .int .u64 (lst (vl (nms 0 l r o v) X)).x1, .int .u64 (lst (vl (nms 0 l r o v) X)).x2, .int .u64 (lst (vl (nms 0 l r o v) X)).x3], .int .i64 0]) ∧ Below y.heap.size y w' := by
 have hls := tsLs h X hX
 obtain ⟨base, v', vs, sy, hb, bl, wk⟩ := h
 have hE := Eval_any sy hT l r o v hA.1 hA.2.1 hA.2.2.1 hA.2.2.2 P X.length e0 (ft X) (wk.ln X hX) (fun k hk => lst_ok _) hL
 have e1 : lf Sm.L (glL X.length (ft X)) = X := by rw [glft_ls hls, lf_self hls]
 rw [e1] at hE
 have e2 : evE (nms 0 l r o v) m K X = 0 := by
  unfold evE
  rw [if_pos (fit_B2 hN), if_pos (nm_req hls (wk.wr X hX))]
 have e3 : evS (nms 0 l r o v) m K X = lst (vl (nms 0 l r o v) X) := by
  unfold evS
  rw [if_pos (fit_B2 hN), if_pos (nm_req hls (wk.wr X hX)), es_req hls]
 rw [e2, e3] at hE
 exact hE
theorem same_C2 {p q : E4} {y : World} (hT : Tb y) (hp : p.ok) (hq : q.ok) (h : p.n % Sm.L = q.n % Sm.L) :
  Calls Tryd.prog 15 #[.agg #[.int .u64 p.x0, .int .u64 p.x1, .int .u64 p.x2, .int .u64 p.x3], .agg #[.int .u64 q.x0, .int .u64 q.x1, .int .u64 q.x2, .int .u64 q.x3]] y fun e w' => e = .returned (.bool true) ∧ Below y.heap.size y w' := by
 have := Same_any p q y hT hp hq
 rw [same_dec, decide_eq_true h] at this
 exact this
theorem tsEvalR {w9 y : World} {t m K : Nat} {Q : List (List Tm)} (h : Ts w9 t m K Q y) (hT : Tb y) {l r o v : Sl} (hA : l.at y ∧ r.at y ∧ o.at y ∧ v.at y) (hN : l.n = K ∧ r.n = K ∧ o.n = K ∧ v.n = m) {P : Option Addr} {n e0 : Nat} {f : Nat → Trm} (hn : n ≤ 2932031007402) (hf : ∀ k, k < n → (f k).a.ok) (hL : Lt y P n f) (hm : nm m K (lf Sm.L (glL n f)).length (ft (lf Sm.L (glL n f))) = true) :
  Calls Tryd.prog 9 #[.pointer (some ⟨t, 0, none⟩), .agg #[.slice l.p l.n l.c, .slice r.p r.n r.c, .slice o.p o.n o.c, .slice v.p v.n v.c], .slice P n e0] y fun e w' => e = .returned (.tuple #[.agg #[.int .u64 (lst (vl (nms 0 l r o v) (glL n f))).x0, .int .u64 (lst (vl (nms 0 l r o v) (glL n f))).x1, .int .u64 (lst (vl (nms 0 l r o v) (glL n f))).x2, .int .u64 (lst (vl (nms 0 l r o v) (glL n f))).x3], .int .i64 0]) ∧ Below y.heap.size y w' := by
 obtain ⟨base, v', vs, sy, hb, bl, wk⟩ := h
 have hE := Eval_any sy hT l r o v hA.1 hA.2.1 hA.2.2.1 hA.2.2.2 P n e0 f hn hf hL
 have e2 : evE (nms 0 l r o v) m K (lf Sm.L (glL n f)) = 0 := by
  unfold evE
  rw [if_pos (fit_B2 hN), if_pos hm]
 have e3 : evS (nms 0 l r o v) m K (lf Sm.L (glL n f)) = lst (vl (nms 0 l r o v) (glL n f)) := by
  unfold evS
  rw [if_pos (fit_B2 hN), if_pos hm, es_lf]
 rw [e2, e3] at hE
 exact hE
theorem nm_up {m K : Nat} {Y : List Tm} (h : nm m K (lf Sm.L Y).length (ft (lf Sm.L Y)) = true) : nm m (K + 1) (lf Sm.L Y).length (ft (lf Sm.L Y)) = true := nm_iff.2 fun q hq => hs_mono (nm_iff.1 h q hq)
theorem tsOf (q : Wr) (y : World) : Calls Tryd.prog 10 #[.agg #[.int .i64 q.1, .int .i64 q.2]] y fun e w' => ∃ p1 c1, e = .returned (.slice p1 1 c1) ∧ Lt w' p1 1 (ft [(q, 1)]) ∧ Below y.heap.size y w' :=
 (Of_any q y).mono fun e w' ⟨v, he, ho, hb, _⟩ => by
  obtain ⟨P, c, rfl, _⟩ := own_shT ho
  exact ⟨P, c, he, own_lts ho, hb⟩
theorem hs_out {m K : Nat} {kd : Int} (h : kd = 2 ∨ kd = 3 ∨ kd = 4) : hs m (K + 1) (kd, (K : Int)) = true := by
 unfold hs
 rcases h with rfl | rfl | rfl <;> (simp; show (K : Int) < ((K + 1 : Nat) : Int); omega)
theorem lst1_n : (lst 1).n = 1 := lst_small (by omega) (by omega)
theorem tsEvalO {w9 y : World} {t m K : Nat} {Q : List (List Tm)} (h : Ts w9 t m (K + 1) Q y) (hT : Tb y) {l r o v : Sl} (hA : l.at y ∧ r.at y ∧ o.at y ∧ v.at y) (hN : l.n = K + 1 ∧ r.n = K + 1 ∧ o.n = K + 1 ∧ v.n = m) {P : Option Addr} {e0 : Nat} (hL : Lt y P 1 (ft [((4, (K : Int)), 1)])) :
  Calls Tryd.prog 9 #[.pointer (some ⟨t, 0, none⟩), .agg #[.slice l.p l.n l.c, .slice r.p r.n r.c, .slice o.p o.n o.c, .slice v.p v.n v.c], .slice P 1 e0] y fun e w' => e = .returned (.tuple #[.agg #[.int .u64 (lst (nw (nms 0 l r o v) (4, (K : Int))).n).x0, .int .u64 (lst (nw (nms 0 l r o v) (4, (K : Int))).n).x1, .int .u64 (lst (nw (nms 0 l r o v) (4, (K : Int))).n).x2, .int .u64 (lst (nw (nms 0 l r o v) (4, (K : Int))).n).x3], .int .i64 0]) ∧ Below y.heap.size y w' := by
 have hg : glL 1 (ft [((4, (K : Int)), 1)]) = [((4, (K : Int)), 1)] := glft_ls (X := [((4, (K : Int)), 1)]) (ls_of (4, (K : Int)))
 have hE := tsEvalR h hT hA hN (e0 := e0) (by omega) (fun k hk => lst_ok _) hL (by
  rw [hg]
  exact nm_iff.2 fun q hq => by
   by_cases e : q = (4, (K : Int))
   ·rw [e]; exact hs_out (Or.inr (Or.inr rfl))
   ·exact absurd (by rw [Cm.co_out (fun x hx e2 => by simp at hx; subst hx; exact e e2.symm)]; rfl) hq)
 have e1 : vl (nms 0 l r o v) (glL 1 (ft [((4, (K : Int)), 1)])) = (nw (nms 0 l r o v) (4, (K : Int))).n := by
  rw [hg]
  show 1 * (nw (nms 0 l r o v) (4, (K : Int))).n + 0 = _
  omega
 rw [e1] at hE
 exact hE
end Ci
end Go.Proofs.YtclihahohhhhiaaDoor
