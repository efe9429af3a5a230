import Derived.Test.YtaendjjelpmokaaDoorTk
import Derived.Test.YtaendjjelpmokaaDoorCev
namespace Go.Proofs.YtaendjjelpmokaaDoor
open Go.RowKit
set_option linter.unusedVariables false
set_option linter.unusedSimpArgs false
open Cm (Wr Tm co bf Ls lf ins Eqm)
namespace Ci
set_option maxRecDepth 100000
set_option maxHeartbeats 16000000
theorem i4s : (Tryd.prog.info? 27).map (·.size) = some 4 := by kernel_rfl
theorem zvS (w : World) : (zeroValue 27).run Tryd.prog w = .ok (.agg #[.int .u64 0, .int .u64 0, .int .u64 0, .int .u64 0]) w := by kernel_rfl
theorem wp_allocS {w : World} {o : Oper} {a : Act} {K : Act → World → Prop} {Q : Exit → Act → World → Prop} (ho : o.op = .alloc 27) (h : ∀ (A : Nat) (wq : World), A = w.heap.size → wq = w.alloc (.cells #[.int .u64 0, .int .u64 0, .int .u64 0, .int .u64 0] 27) → K (a.put o.dst (.pointer (some ⟨A, 0, none⟩))) wq) : o.wp Tryd.prog a w K Q := by
 have hk := h _ _ rfl rfl
 have hz := zvS w
 unfold Oper.wp execOp
 simp [ho, Instr.alloc, hz]
 exact hk
def le140 : Oper := { dst := some 132, op := Op.move (Operand.tmp 13), type := 30, pos := "outright.go:206", after := #[], guard := none }
def le141 : Oper := { dst := some 133, op := Op.load 33 (Operand.tmp 14), type := 33, pos := "outright.go:206", after := #[], guard := none }
def le142 : Oper := { dst := some 134, op := Op.move (Operand.tmp 2), type := 24, pos := "outright.go:206", after := #[], guard := none }
def le143 : Oper := { dst := some 135, op := Op.move (Operand.tmp 3), type := 24, pos := "outright.go:206", after := #[], guard := none }
def le144 : Oper := { dst := some 136, op := Op.call { callee := Callee.value (Operand.func 10), args := #[Operand.tmp 134, Operand.tmp 135], argTypes := #[24, 24] }, type := 24, pos := "outright.go:206", after := #[{ on := 2, ground := Ground.data }, { on := 3, ground := Ground.data }], guard := none }
def le145 : Oper := { dst := some 137, op := Op.call { callee := Callee.value (Operand.func 12), args := #[Operand.tmp 132, Operand.tmp 133, Operand.tmp 136], argTypes := #[30, 33, 24] }, type := 40, pos := "outright.go:206", after := #[{ on := 0, ground := Ground.data }, { on := 1, ground := Ground.data }, { on := 4, ground := Ground.data }, { on := 4, ground := Ground.chain }], guard := none }
def le146 : Oper := { dst := some 131, op := Op.move (Operand.tmp 137), type := 40, pos := "outright.go:206", after := #[{ on := 5, ground := Ground.data }], guard := none }
def le147 : Oper := { dst := some 138, op := Op.extract (Operand.tmp 131) 0, type := 27, pos := "outright.go:206", after := #[{ on := 6, ground := Ground.data }], guard := none }
def le148 : Oper := { dst := some 139, op := Op.extract (Operand.tmp 131) 1, type := 39, pos := "outright.go:206", after := #[{ on := 6, ground := Ground.data }, { on := 10, ground := Ground.gcOnly Departure.lateStores }], guard := none }
def le149 : Oper := { dst := some 20, op := Op.alloc 27, type := 0, pos := "outright.go:206", after := #[], guard := none }
def le1410 : Oper := { dst := none, op := Op.store 27 (Operand.tmp 20) (Operand.tmp 138), type := 0, pos := "outright.go:206", after := #[{ on := 9, ground := Ground.data }, { on := 7, ground := Ground.data }, { on := 5, ground := Ground.chain }, { on := 0, ground := Ground.phase }, { on := 1, ground := Ground.phase }, { on := 2, ground := Ground.phase }, { on := 3, ground := Ground.phase }, { on := 4, ground := Ground.phase }, { on := 5, ground := Ground.phase }, { on := 6, ground := Ground.phase }, { on := 7, ground := Ground.phase }, { on := 8, ground := Ground.textOnly Departure.lateStores }, { on := 9, ground := Ground.phase }], guard := none }
def le1411 : Oper := { dst := some 21, op := Op.assign (Operand.tmp 139), type := 39, pos := "outright.go:206", after := #[{ on := 8, ground := Ground.data }, { on := 10, ground := Ground.chain }, { on := 0, ground := Ground.phase }, { on := 1, ground := Ground.phase }, { on := 2, ground := Ground.phase }, { on := 3, ground := Ground.phase }, { on := 4, ground := Ground.phase }, { on := 5, ground := Ground.phase }, { on := 6, ground := Ground.phase }, { on := 7, ground := Ground.phase }, { on := 8, ground := Ground.phase }, { on := 9, ground := Ground.phase }, { on := 10, ground := Ground.phase }], guard := none }
def le14o : Array Oper := #[le140, le141, le142, le143, le144, le145, le146, le147, le148, le149, le1410, le1411]
structure le14h (sb ab : Nat) (l r o v : Sl) (z : E4) (ez : Int) (vx vy : Value) (X : List Tm) (W : World) : Prop where
 a0 : W.cell? ⟨ab, 0, none⟩ = some (.slice l.p l.n l.c)
 a1 : W.cell? ⟨ab, 1, none⟩ = some (.slice r.p r.n r.c)
 a2 : W.cell? ⟨ab, 2, none⟩ = some (.slice o.p o.n o.c)
 a3 : W.cell? ⟨ab, 3, none⟩ = some (.slice v.p v.n v.c)
 C1 : Hid (∀ y, Below W.heap.size W y → Calls Tryd.prog 10 #[vx, vy] y fun e w' => Lw y X e w')
 E1 : Hid (∀ (P : Option Addr) (c : Nat) (y : World), Below W.heap.size W y → Lt y P X.length (ft X) → Calls Tryd.prog 12 #[.pointer (some ⟨sb, 0, none⟩), .agg #[.slice l.p l.n l.c, .slice r.p r.n r.c, .slice o.p o.n o.c, .slice v.p v.n v.c], .slice P X.length c] y fun e w' => e = .returned (.tuple #[.agg #[.int .u64 z.x0, .int .u64 z.x1, .int .u64 z.x2, .int .u64 z.x3], .int .i64 ez]) ∧ Below y.heap.size y w')
def le14S (U : Nat → Value) (sb ab : Nat) (l r o v : Sl) (z : E4) (ez : Int) (vx vy : Value) (X : List Tm) (p1 : Option Addr) (c1 : Nat) (rb : Nat) (f4 f5 f6 f7 f8 f9 f11 : Bool) : Array Value := #[U 0, U 1, vx, vy, U 4, U 5, U 6, U 7, U 8, U 9, U 10, U 11, U 12, .pointer (some ⟨sb, 0, none⟩), .pointer (some ⟨ab, 0, none⟩), U 15, U 16, U 17, U 18, U 19, bif f9 then .pointer (some ⟨rb, 0, none⟩) else U 20, bif f11 then .int .i64 ez else U 21, U 22, U 23, U 24, U 25, U 26, U 27, U 28, U 29, U 30, U 31, U 32, U 33, U 34, U 35, U 36, U 37, U 38, U 39, U 40, U 41, U 42, U 43, U 44, U 45, U 46, U 47, U 48, U 49, U 50, U 51, U 52, U 53, U 54, U 55, U 56, U 57, U 58, U 59, U 60, U 61, U 62, U 63, U 64, U 65, U 66, U 67, U 68, U 69, U 70, U 71, U 72, U 73, U 74, U 75, U 76, U 77, U 78, U 79, U 80, U 81, U 82, U 83, U 84, U 85, U 86, U 87, U 88, U 89, U 90, U 91, U 92, U 93, U 94, U 95, U 96, U 97, U 98, U 99, U 100, U 101, U 102, U 103, U 104, U 105, U 106, U 107, U 108, U 109, U 110, U 111, U 112, U 113, U 114, U 115, U 116, U 117, U 118, U 119, U 120, U 121, U 122, U 123, U 124, U 125, U 126, U 127, U 128, U 129, U 130, bif f6 then .tuple #[.agg #[.int .u64 z.x0, .int .u64 z.x1, .int .u64 z.x2, .int .u64 z.x3], .int .i64 ez] else U 131, .pointer (some ⟨sb, 0, none⟩), .agg #[.slice l.p l.n l.c, .slice r.p r.n r.c, .slice o.p o.n o.c, .slice v.p v.n v.c], vx, vy, bif f4 then .slice p1 X.length c1 else U 136, bif f5 then .tuple #[.agg #[.int .u64 z.x0, .int .u64 z.x1, .int .u64 z.x2, .int .u64 z.x3], .int .i64 ez] else U 137, bif f7 then .agg #[.int .u64 z.x0, .int .u64 z.x1, .int .u64 z.x2, .int .u64 z.x3] else U 138, bif f8 then .int .i64 ez else U 139, U 140, U 141, U 142, U 143, U 144, U 145, U 146, U 147, U 148, U 149, U 150, U 151, U 152, U 153, U 154, U 155, U 156, U 157, U 158, U 159, U 160, U 161, U 162, U 163, U 164, U 165, U 166, U 167, U 168, U 169, U 170, U 171, U 172, U 173, U 174, U 175, U 176, U 177, U 178, U 179, U 180, U 181, U 182, U 183, U 184, U 185, U 186, U 187, U 188, U 189, U 190, U 191, U 192, U 193, U 194, U 195, U 196, U 197, U 198, U 199, U 200, U 201, U 202, U 203, U 204, U 205, U 206, U 207, U 208, U 209, U 210, U 211, U 212, U 213, U 214, U 215, U 216, U 217, U 218, U 219, U 220, U 221, U 222, U 223, U 224, U 225, U 226, U 227, U 228, U 229, U 230, U 231, U 232, U 233, U 234, U 235, U 236, U 237, U 238, U 239, U 240, U 241, U 242, U 243, U 244, U 245, U 246, U 247, U 248, U 249, U 250, U 251, U 252, U 253, U 254, U 255, U 256, U 257, U 258, U 259, U 260, U 261, U 262, U 263, U 264, U 265, U 266]
def le14G (Q : Exit → Act → World → Prop) (sb ab : Nat) (l r o v : Sl) (z : E4) (ez : Int) (vx vy : Value) (X : List Tm) (W : World) (fuel : Nat) (listed : Array Bool) (a : Array Value) (w : World) : Prop := wpAnyH Tryd.prog Region.Mode.any le14o (NoPanic Q) (fun x => Below W.heap.size W x) fuel listed ⟨a, []⟩ w
def le14f (Q : Exit → Act → World → Prop) (sb ab : Nat) (l r o v : Sl) (z : E4) (ez : Int) (vx vy : Value) (X : List Tm) (U : Nat → Value) (W : World) : Prop := ∀ (wz : World) (p1 : Option Addr) (c1 : Nat) (rb : Nat), Below W.heap.size W wz → W.heap.size ≤ rb → wz.rangeAt rb 0 [.int .u64 z.x0, .int .u64 z.x1, .int .u64 z.x2, .int .u64 z.x3] → Q .normal ⟨le14S U sb ab l r o v z ez vx vy X p1 c1 rb true true true true true true true, []⟩ wz
section
variable {Q : Exit → Act → World → Prop} {sb ab : Nat} {l r o v : Sl} {z : E4} {ez : Int} {vx vy : Value} {X : List Tm} {U : Nat → Value} {W : World}
theorem le14_fff (H : le14h sb ab l r o v z ez vx vy X W) (p1 : Option Addr) (c1 : Nat) (rb : Nat) (w : World) (listed : Array Bool) (hl : listed = #[true, true, true, true, true, true, true, true, true, true, true, true]) (RB : Hid (W.heap.size ≤ rb)) (FR : Hid (w.rangeAt rb 0 [.int .u64 z.x0, .int .u64 z.x1, .int .u64 z.x2, .int .u64 z.x3])) (HH : Hid (Below W.heap.size W w)) (HQ : Hid (le14f Q sb ab l r o v z ez vx vy X U W)) : le14G Q sb ab l r o v z ez vx vy X W 0 listed (le14S U sb ab l r o v z ez vx vy X p1 c1 rb true true true true true true true) w := by
 subst hl
 have H0 := H
 obtain ⟨a0, a1, a2, a3, C1, E1⟩ := H
 simp only [le14G, le14S, cond_true, cond_false]
 refine wpAnyH_done (by kernel_rfl) ?_ _
 refine NoPanic.normal ?_
 exact HQ.out _ p1 c1 rb HH.out RB.out FR.out
theorem le14_3ff (H : le14h sb ab l r o v z ez vx vy X W) (p1 : Option Addr) (c1 : Nat) (rb : Nat) (w : World) (listed : Array Bool) (hl : listed = #[true, true, true, true, true, true, true, true, true, true, false, false]) (TH : Hid (w.there rb 0 4)) (RB : Hid (W.heap.size ≤ rb)) (HH : Hid (Below W.heap.size W w)) (HQ : Hid (le14f Q sb ab l r o v z ez vx vy X U W)) : le14G Q sb ab l r o v z ez vx vy X W 2 listed (le14S U sb ab l r o v z ez vx vy X p1 c1 rb true true true true true true false) w := by
 subst hl
 have H0 := H
 obtain ⟨a0, a1, a2, a3, C1, E1⟩ := H
 simp only [le14G, le14S, cond_true, cond_false]
 refine wpAnyH_ready (rs := [10]) (by kernel_rfl) (by simp) ?_
 refine AllReadyH.cons (o := le1410) rfl (fun K hK => ?_) AllReadyH.nil
 refine wp_storeE 27 _ _ rfl rb 0 ([.int .u64 z.x0, .int .u64 z.x1, .int .u64 z.x2, .int .u64 z.x3]) (by rfl) (by rfl) TH.out i4s (by simp [Value.oneCell']) rfl (fun w2 hw => ?_)
 have SN := hidden (by rw [hw]; exact HH.out.grown (gb_setCells rb [.int .u64 z.x0, .int .u64 z.x1, .int .u64 z.x2, .int .u64 z.x3] 0 _) HH.out.size (fun k hk => by obtain rfl := Option.some.inj hk; exact RB.out) : Below W.heap.size W w2)
 have FR := hidden (by rw [hw]; exact World.rangeAt_setCells_same _ rb 0 _ TH.out : w2.rangeAt rb 0 [.int .u64 z.x0, .int .u64 z.x1, .int .u64 z.x2, .int .u64 z.x3])
 replace HH := SN
 clear SN TH hw
 refine hK.out _ _ HH.out (fun hH => ?_); clear hK K
 refine tk 11 le1411 (.int .i64 ez) rfl (by kernel_rfl) hH rfl (fun w0 hSw => ?_) ?_
 ·(unfold le1411; clear hSw; go_simp)
 unfold le1411
 simp only [Act.put, sA, sB, sC]
 exact le14_fff H0 p1 c1 rb w2 _ (by kernel_rfl) RB FR HH HQ
theorem le14_1ff (H : le14h sb ab l r o v z ez vx vy X W) (p1 : Option Addr) (c1 : Nat) (w : World) (listed : Array Bool) (hl : listed = #[true, true, true, true, true, true, true, true, true, false, false, false])  (HH : Hid (Below W.heap.size W w)) (HQ : Hid (le14f Q sb ab l r o v z ez vx vy X U W)) : le14G Q sb ab l r o v z ez vx vy X W 3 listed (le14S U sb ab l r o v z ez vx vy X p1 c1 0 true true true true true false false) w := by
 subst hl
 have H0 := H
 obtain ⟨a0, a1, a2, a3, C1, E1⟩ := H
 simp only [le14G, le14S, cond_true, cond_false]
 refine wpAnyH_ready (rs := [9]) (by kernel_rfl) (by simp) ?_
 refine AllReadyH.cons (o := le149) rfl (fun K hK => ?_) AllReadyH.nil
 refine wp_allocS rfl (fun rb w2 htb hwq => ?_)
 have hbb : Below w.heap.size w w2 := (by rw [hwq]; exact bl_alloc _ _)
 have SN := hidden (by rw [hwq]; exact bl_trans HH.out (bl_alloc _ _) : Below W.heap.size W w2)
 have TH := hidden (by rw [htb, hwq]; exact there_newM _ [.int .u64 0, .int .u64 0, .int .u64 0, .int .u64 0] _ : w2.there rb 0 4)
 have RB := hidden (by rw [htb]; exact HH.out.size : W.heap.size ≤ rb)
 replace HH := SN
 clear SN hbb  htb hwq
 unfold le149
 simp only [Act.put, sA, sB, sC]
 refine hK.out _ _ HH.out (fun hH => ?_); clear hK K
 exact le14_3ff H0 p1 c1 rb w2 _ (by kernel_rfl) TH RB HH HQ
theorem le14_21f (H : le14h sb ab l r o v z ez vx vy X W) (p1 : Option Addr) (c1 : Nat) (rb : Nat) (w : World) (listed : Array Bool) (hl : listed = #[true, true, true, true, true, false, false, false, false, true, false, false]) (L1 : Hid (Lt w p1 X.length (ft X))) (TH : Hid (w.there rb 0 4)) (RB : Hid (W.heap.size ≤ rb)) (HH : Hid (Below W.heap.size W w)) (HQ : Hid (le14f Q sb ab l r o v z ez vx vy X U W)) : le14G Q sb ab l r o v z ez vx vy X W 6 listed (le14S U sb ab l r o v z ez vx vy X p1 c1 rb true false false false false true false) w := by
 subst hl
 have H0 := H
 obtain ⟨a0, a1, a2, a3, C1, E1⟩ := H
 simp only [le14G, le14S, cond_true, cond_false]
 refine wpAnyH_ready (rs := [5]) (by kernel_rfl) (by simp) ?_
 refine AllReadyH.cons (o := le145) rfl (fun K hK => ?_) AllReadyH.nil
 unfold le145
 go_simp
 refine (E1.out _ _ _ HH.out L1.out).mono ?_
 rintro e w2 ⟨rfl, hb⟩
 have SN := hidden (bl_trans HH.out hb : Below W.heap.size W w2)
 replace TH := hidden (there_bl TH.out hb)
 replace HH := SN
 clear SN L1 hb
 go_wp2_with fail
 refine hK.out _ _ HH.out (fun hH => ?_); clear hK K
 refine tk 6 le146 (.tuple #[.agg #[.int .u64 z.x0, .int .u64 z.x1, .int .u64 z.x2, .int .u64 z.x3], .int .i64 ez]) rfl (by kernel_rfl) hH rfl (fun w0 hSw => ?_) ?_
 ·(unfold le146; clear hSw; go_simp)
 unfold le146
 simp only [Act.put, sA, sB, sC]
 refine tk 7 le147 (.agg #[.int .u64 z.x0, .int .u64 z.x1, .int .u64 z.x2, .int .u64 z.x3]) rfl (by kernel_rfl) hH rfl (fun w0 hSw => ?_) ?_
 ·(unfold le147; clear hSw; go_simp)
 unfold le147
 simp only [Act.put, sA, sB, sC]
 refine tk 8 le148 (.int .i64 ez) rfl (by kernel_rfl) hH rfl (fun w0 hSw => ?_) ?_
 ·(unfold le148; clear hSw; go_simp)
 unfold le148
 simp only [Act.put, sA, sB, sC]
 exact le14_3ff H0 p1 c1 rb w2 _ (by kernel_rfl) TH RB HH HQ
theorem le14_20f (H : le14h sb ab l r o v z ez vx vy X W) (rb : Nat) (w : World) (listed : Array Bool) (hl : listed = #[true, true, true, true, false, false, false, false, false, true, false, false]) (TH : Hid (w.there rb 0 4)) (RB : Hid (W.heap.size ≤ rb)) (HH : Hid (Below W.heap.size W w)) (HQ : Hid (le14f Q sb ab l r o v z ez vx vy X U W)) : le14G Q sb ab l r o v z ez vx vy X W 7 listed (le14S U sb ab l r o v z ez vx vy X none 0 rb false false false false false true false) w := by
 subst hl
 have H0 := H
 obtain ⟨a0, a1, a2, a3, C1, E1⟩ := H
 simp only [le14G, le14S, cond_true, cond_false]
 refine wpAnyH_ready (rs := [4]) (by kernel_rfl) (by simp) ?_
 refine AllReadyH.cons (o := le144) rfl (fun K hK => ?_) AllReadyH.nil
 unfold le144
 go_simp
 refine (C1.out _ HH.out).mono ?_
 rintro e w2 ⟨p1, c1, rfl, hl, hb⟩
 have SN := hidden (bl_trans HH.out hb : Below W.heap.size W w2)
 have L1 := hidden (hl : Lt w2 p1 X.length (ft X))
 replace TH := hidden (there_bl TH.out hb)
 replace HH := SN
 clear SN  hl hb
 go_wp2_with fail
 refine hK.out _ _ HH.out (fun hH => ?_); clear hK K
 exact le14_21f H0 p1 c1 rb w2 _ (by kernel_rfl) L1 TH RB HH HQ
theorem le14_1f (H : le14h sb ab l r o v z ez vx vy X W) (p1 : Option Addr) (c1 : Nat) (w : World) (listed : Array Bool) (hl : listed = #[true, true, true, true, true, false, false, false, false, false, false, false]) (L1 : Hid (Lt w p1 X.length (ft X))) (HH : Hid (Below W.heap.size W w)) (HQ : Hid (le14f Q sb ab l r o v z ez vx vy X U W)) : le14G Q sb ab l r o v z ez vx vy X W 7 listed (le14S U sb ab l r o v z ez vx vy X p1 c1 0 true false false false false false false) w := by
 subst hl
 have H0 := H
 obtain ⟨a0, a1, a2, a3, C1, E1⟩ := H
 simp only [le14G, le14S, cond_true, cond_false]
 refine wpAnyH_ready (rs := [5, 9]) (by kernel_rfl) (by simp) ?_
 refine AllReadyH.cons (o := le145) rfl (fun K hK => ?_) (AllReadyH.cons (o := le149) rfl (fun K hK => ?_) AllReadyH.nil)
 ·unfold le145
  go_simp
  refine (E1.out _ _ _ HH.out L1.out).mono ?_
  rintro e w2 ⟨rfl, hb⟩
  have SN := hidden (bl_trans HH.out hb : Below W.heap.size W w2)
  replace HH := SN
  clear SN L1 hb
  go_wp2_with fail
  refine hK.out _ _ HH.out (fun hH => ?_); clear hK K
  refine tk 6 le146 (.tuple #[.agg #[.int .u64 z.x0, .int .u64 z.x1, .int .u64 z.x2, .int .u64 z.x3], .int .i64 ez]) rfl (by kernel_rfl) hH rfl (fun w0 hSw => ?_) ?_
  ·(unfold le146; clear hSw; go_simp)
  unfold le146
  simp only [Act.put, sA, sB, sC]
  refine tk 7 le147 (.agg #[.int .u64 z.x0, .int .u64 z.x1, .int .u64 z.x2, .int .u64 z.x3]) rfl (by kernel_rfl) hH rfl (fun w0 hSw => ?_) ?_
  ·(unfold le147; clear hSw; go_simp)
  unfold le147
  simp only [Act.put, sA, sB, sC]
  refine tk 8 le148 (.int .i64 ez) rfl (by kernel_rfl) hH rfl (fun w0 hSw => ?_) ?_
  ·(unfold le148; clear hSw; go_simp)
  unfold le148
  simp only [Act.put, sA, sB, sC]
  exact le14_1ff H0 p1 c1 w2 _ (by kernel_rfl)  HH HQ
 ·refine wp_allocS rfl (fun rb w2 htb hwq => ?_)
  have hbb : Below w.heap.size w w2 := (by rw [hwq]; exact bl_alloc _ _)
  have SN := hidden (by rw [hwq]; exact bl_trans HH.out (bl_alloc _ _) : Below W.heap.size W w2)
  have TH := hidden (by rw [htb, hwq]; exact there_newM _ [.int .u64 0, .int .u64 0, .int .u64 0, .int .u64 0] _ : w2.there rb 0 4)
  have RB := hidden (by rw [htb]; exact HH.out.size : W.heap.size ≤ rb)
  replace L1 := hidden (L1.out.keep hbb)
  replace HH := SN
  clear SN hbb  htb hwq
  unfold le149
  simp only [Act.put, sA, sB, sC]
  refine hK.out _ _ HH.out (fun hH => ?_); clear hK K
  exact le14_21f H0 p1 c1 rb w2 _ (by kernel_rfl) L1 TH RB HH HQ
theorem le14_f (H : le14h sb ab l r o v z ez vx vy X W)  (w : World) (listed : Array Bool) (hl : listed = #[true, true, true, true, false, false, false, false, false, false, false, false])  (HH : Hid (Below W.heap.size W w)) (HQ : Hid (le14f Q sb ab l r o v z ez vx vy X U W)) : le14G Q sb ab l r o v z ez vx vy X W 8 listed (le14S U sb ab l r o v z ez vx vy X none 0 0 false false false false false false false) w := by
 subst hl
 have H0 := H
 obtain ⟨a0, a1, a2, a3, C1, E1⟩ := H
 simp only [le14G, le14S, cond_true, cond_false]
 refine wpAnyH_ready (rs := [4, 9]) (by kernel_rfl) (by simp) ?_
 refine AllReadyH.cons (o := le144) rfl (fun K hK => ?_) (AllReadyH.cons (o := le149) rfl (fun K hK => ?_) AllReadyH.nil)
 ·unfold le144
  go_simp
  refine (C1.out _ HH.out).mono ?_
  rintro e w2 ⟨p1, c1, rfl, hl, hb⟩
  have SN := hidden (bl_trans HH.out hb : Below W.heap.size W w2)
  have L1 := hidden (hl : Lt w2 p1 X.length (ft X))
  replace HH := SN
  clear SN  hl hb
  go_wp2_with fail
  refine hK.out _ _ HH.out (fun hH => ?_); clear hK K
  exact le14_1f H0 p1 c1 w2 _ (by kernel_rfl) L1 HH HQ
 ·refine wp_allocS rfl (fun rb w2 htb hwq => ?_)
  have hbb : Below w.heap.size w w2 := (by rw [hwq]; exact bl_alloc _ _)
  have SN := hidden (by rw [hwq]; exact bl_trans HH.out (bl_alloc _ _) : Below W.heap.size W w2)
  have TH := hidden (by rw [htb, hwq]; exact there_newM _ [.int .u64 0, .int .u64 0, .int .u64 0, .int .u64 0] _ : w2.there rb 0 4)
  have RB := hidden (by rw [htb]; exact HH.out.size : W.heap.size ≤ rb)
  replace HH := SN
  clear SN hbb  htb hwq
  unfold le149
  simp only [Act.put, sA, sB, sC]
  refine hK.out _ _ HH.out (fun hH => ?_); clear hK K
  exact le14_20f H0 rb w2 _ (by kernel_rfl) TH RB HH HQ
end
theorem le14 (Q : Exit → Act → World → Prop) (sb ab : Nat) (l r o v : Sl) (z : E4) (ez : Int) (vx vy : Value) (X : List Tm) (u0 u1 u4 u5 u6 u7 u8 u9 u10 u11 u12 u15 u16 u17 u18 u19 u20 u21 u22 u23 u24 u25 u26 u27 u28 u29 u30 u31 u32 u33 u34 u35 u36 u37 u38 u39 u40 u41 u42 u43 u44 u45 u46 u47 u48 u49 u50 u51 u52 u53 u54 u55 u56 u57 u58 u59 u60 u61 u62 u63 u64 u65 u66 u67 u68 u69 u70 u71 u72 u73 u74 u75 u76 u77 u78 u79 u80 u81 u82 u83 u84 u85 u86 u87 u88 u89 u90 u91 u92 u93 u94 u95 u96 u97 u98 u99 u100 u101 u102 u103 u104 u105 u106 u107 u108 u109 u110 u111 u112 u113 u114 u115 u116 u117 u118 u119 u120 u121 u122 u123 u124 u125 u126 u127 u128 u129 u130 u131 u132 u133 u134 u135 u136 u137 u138 u139 u140 u141 u142 u143 u144 u145 u146 u147 u148 u149 u150 u151 u152 u153 u154 u155 u156 u157 u158 u159 u160 u161 u162 u163 u164 u165 u166 u167 u168 u169 u170 u171 u172 u173 u174 u175 u176 u177 u178 u179 u180 u181 u182 u183 u184 u185 u186 u187 u188 u189 u190 u191 u192 u193 u194 u195 u196 u197 u198 u199 u200 u201 u202 u203 u204 u205 u206 u207 u208 u209 u210 u211 u212 u213 u214 u215 u216 u217 u218 u219 u220 u221 u222 u223 u224 u225 u226 u227 u228 u229 u230 u231 u232 u233 u234 u235 u236 u237 u238 u239 u240 u241 u242 u243 u244 u245 u246 u247 u248 u249 u250 u251 u252 u253 u254 u255 u256 u257 u258 u259 u260 u261 u262 u263 u264 u265 u266 : Value) (W : World) (H : le14h sb ab l r o v z ez vx vy X W)
  (HQ : Hid (∀ (wz : World) (p1 : Option Addr) (c1 : Nat) (rb : Nat), Below W.heap.size W wz → W.heap.size ≤ rb → wz.rangeAt rb 0 [.int .u64 z.x0, .int .u64 z.x1, .int .u64 z.x2, .int .u64 z.x3] → Q .normal ⟨#[u0, u1, vx, vy, u4, u5, u6, u7, u8, u9, u10, u11, u12, .pointer (some ⟨sb, 0, none⟩), .pointer (some ⟨ab, 0, none⟩), u15, u16, u17, u18, u19, .pointer (some ⟨rb, 0, none⟩), .int .i64 ez, u22, u23, u24, u25, u26, u27, u28, u29, u30, u31, u32, u33, u34, u35, u36, u37, u38, u39, u40, u41, u42, u43, u44, u45, u46, u47, u48, u49, u50, u51, u52, u53, u54, u55, u56, u57, u58, u59, u60, u61, u62, u63, u64, u65, u66, u67, u68, u69, u70, u71, u72, u73, u74, u75, u76, u77, u78, u79, u80, u81, u82, u83, u84, u85, u86, u87, u88, u89, u90, u91, u92, u93, u94, u95, u96, u97, u98, u99, u100, u101, u102, u103, u104, u105, u106, u107, u108, u109, u110, u111, u112, u113, u114, u115, u116, u117, u118, u119, u120, u121, u122, u123, u124, u125, u126, u127, u128, u129, u130, .tuple #[.agg #[.int .u64 z.x0, .int .u64 z.x1, .int .u64 z.x2, .int .u64 z.x3], .int .i64 ez], .pointer (some ⟨sb, 0, none⟩), .agg #[.slice l.p l.n l.c, .slice r.p r.n r.c, .slice o.p o.n o.c, .slice v.p v.n v.c], vx, vy, .slice p1 X.length c1, .tuple #[.agg #[.int .u64 z.x0, .int .u64 z.x1, .int .u64 z.x2, .int .u64 z.x3], .int .i64 ez], .agg #[.int .u64 z.x0, .int .u64 z.x1, .int .u64 z.x2, .int .u64 z.x3], .int .i64 ez, u140, u141, u142, u143, u144, u145, u146, u147, u148, u149, u150, u151, u152, u153, u154, u155, u156, u157, u158, u159, u160, u161, u162, u163, u164, u165, u166, u167, u168, u169, u170, u171, u172, u173, u174, u175, u176, u177, u178, u179, u180, u181, u182, u183, u184, u185, u186, u187, u188, u189, u190, u191, u192, u193, u194, u195, u196, u197, u198, u199, u200, u201, u202, u203, u204, u205, u206, u207, u208, u209, u210, u211, u212, u213, u214, u215, u216, u217, u218, u219, u220, u221, u222, u223, u224, u225, u226, u227, u228, u229, u230, u231, u232, u233, u234, u235, u236, u237, u238, u239, u240, u241, u242, u243, u244, u245, u246, u247, u248, u249, u250, u251, u252, u253, u254, u255, u256, u257, u258, u259, u260, u261, u262, u263, u264, u265, u266], []⟩ wz)) : (Code.region 14 le14o true).wp Tryd.prog Q ⟨#[u0, u1, vx, vy, u4, u5, u6, u7, u8, u9, u10, u11, u12, .pointer (some ⟨sb, 0, none⟩), .pointer (some ⟨ab, 0, none⟩), u15, u16, u17, u18, u19, u20, u21, u22, u23, u24, u25, u26, u27, u28, u29, u30, u31, u32, u33, u34, u35, u36, u37, u38, u39, u40, u41, u42, u43, u44, u45, u46, u47, u48, u49, u50, u51, u52, u53, u54, u55, u56, u57, u58, u59, u60, u61, u62, u63, u64, u65, u66, u67, u68, u69, u70, u71, u72, u73, u74, u75, u76, u77, u78, u79, u80, u81, u82, u83, u84, u85, u86, u87, u88, u89, u90, u91, u92, u93, u94, u95, u96, u97, u98, u99, u100, u101, u102, u103, u104, u105, u106, u107, u108, u109, u110, u111, u112, u113, u114, u115, u116, u117, u118, u119, u120, u121, u122, u123, u124, u125, u126, u127, u128, u129, u130, u131, u132, u133, u134, u135, u136, u137, u138, u139, u140, u141, u142, u143, u144, u145, u146, u147, u148, u149, u150, u151, u152, u153, u154, u155, u156, u157, u158, u159, u160, u161, u162, u163, u164, u165, u166, u167, u168, u169, u170, u171, u172, u173, u174, u175, u176, u177, u178, u179, u180, u181, u182, u183, u184, u185, u186, u187, u188, u189, u190, u191, u192, u193, u194, u195, u196, u197, u198, u199, u200, u201, u202, u203, u204, u205, u206, u207, u208, u209, u210, u211, u212, u213, u214, u215, u216, u217, u218, u219, u220, u221, u222, u223, u224, u225, u226, u227, u228, u229, u230, u231, u232, u233, u234, u235, u236, u237, u238, u239, u240, u241, u242, u243, u244, u245, u246, u247, u248, u249, u250, u251, u252, u253, u254, u255, u256, u257, u258, u259, u260, u261, u262, u263, u264, u265, u266], []⟩ W := by
 have H0 := H
 obtain ⟨a0, a1, a2, a3, C1, E1⟩ := H
 replace HQ : Hid (le14f Q sb ab l r o v z ez vx vy X (nth [u0, u1, undef, undef, u4, u5, u6, u7, u8, u9, u10, u11, u12, undef, undef, u15, u16, u17, u18, u19, u20, u21, u22, u23, u24, u25, u26, u27, u28, u29, u30, u31, u32, u33, u34, u35, u36, u37, u38, u39, u40, u41, u42, u43, u44, u45, u46, u47, u48, u49, u50, u51, u52, u53, u54, u55, u56, u57, u58, u59, u60, u61, u62, u63, u64, u65, u66, u67, u68, u69, u70, u71, u72, u73, u74, u75, u76, u77, u78, u79, u80, u81, u82, u83, u84, u85, u86, u87, u88, u89, u90, u91, u92, u93, u94, u95, u96, u97, u98, u99, u100, u101, u102, u103, u104, u105, u106, u107, u108, u109, u110, u111, u112, u113, u114, u115, u116, u117, u118, u119, u120, u121, u122, u123, u124, u125, u126, u127, u128, u129, u130, u131, u132, u133, u134, u135, u136, u137, u138, u139, u140, u141, u142, u143, u144, u145, u146, u147, u148, u149, u150, u151, u152, u153, u154, u155, u156, u157, u158, u159, u160, u161, u162, u163, u164, u165, u166, u167, u168, u169, u170, u171, u172, u173, u174, u175, u176, u177, u178, u179, u180, u181, u182, u183, u184, u185, u186, u187, u188, u189, u190, u191, u192, u193, u194, u195, u196, u197, u198, u199, u200, u201, u202, u203, u204, u205, u206, u207, u208, u209, u210, u211, u212, u213, u214, u215, u216, u217, u218, u219, u220, u221, u222, u223, u224, u225, u226, u227, u228, u229, u230, u231, u232, u233, u234, u235, u236, u237, u238, u239, u240, u241, u242, u243, u244, u245, u246, u247, u248, u249, u250, u251, u252, u253, u254, u255, u256, u257, u258, u259, u260, u261, u262, u263, u264, u265, u266]) W) := HQ
 refine wp_region_noPanic ?_
 refine wp_region_held_drew (S := fun x => Below W.heap.size W x) (by kernel_rfl) (bl_drew W) (fun hH => ?_)
 have HH := hidden hH
 refine tk 0 le140 (.pointer (some ⟨sb, 0, none⟩)) rfl (by kernel_rfl) hH rfl (fun w0 hSw => ?_) ?_
 ·(unfold le140; clear hSw; go_simp)
 unfold le140
 simp only [Act.put, sA, sB, sC]
 refine tk 1 le141 (.agg #[.slice l.p l.n l.c, .slice r.p r.n r.c, .slice o.p o.n o.c, .slice v.p v.n v.c]) rfl (by kernel_rfl) hH rfl (fun w0 hSw => ?_) ?_
 ·(unfold le141; have hS : Below W.heap.size W w0 := hSw; have a0 := cell_keep a0 hS; have a1 := cell_keep a1 hS; have a2 := cell_keep a2 hS; have a3 := cell_keep a3 hS; clear hS hSw; go_simp)
 unfold le141
 simp only [Act.put, sA, sB, sC]
 refine tk 2 le142 (vx) rfl (by kernel_rfl) hH rfl (fun w0 hSw => ?_) ?_
 ·(unfold le142; clear hSw; go_simp)
 unfold le142
 simp only [Act.put, sA, sB, sC]
 refine tk 3 le143 (vy) rfl (by kernel_rfl) hH rfl (fun w0 hSw => ?_) ?_
 ·(unfold le143; clear hSw; go_simp)
 unfold le143
 simp only [Act.put, sA, sB, sC]
 exact le14_f H0  W.drew _ (by kernel_rfl)  HH HQ
def le160 : Oper := { dst := some 148, op := Op.move (Operand.tmp 13), type := 30, pos := "outright.go:208", after := #[], guard := none }
def le161 : Oper := { dst := some 149, op := Op.load 33 (Operand.tmp 14), type := 33, pos := "outright.go:208", after := #[], guard := none }
def le162 : Oper := { dst := some 150, op := Op.move (Operand.tmp 2), type := 24, pos := "outright.go:208", after := #[], guard := none }
def le163 : Oper := { dst := some 151, op := Op.load 27 (Operand.tmp 10), type := 27, pos := "outright.go:208", after := #[], guard := none }
def le164 : Oper := { dst := some 152, op := Op.call { callee := Callee.value (Operand.func 11), args := #[Operand.tmp 150, Operand.tmp 151], argTypes := #[24, 27] }, type := 24, pos := "outright.go:208", after := #[{ on := 2, ground := Ground.data }, { on := 3, ground := Ground.data }], guard := none }
def le165 : Oper := { dst := some 153, op := Op.call { callee := Callee.value (Operand.func 12), args := #[Operand.tmp 148, Operand.tmp 149, Operand.tmp 152], argTypes := #[30, 33, 24] }, type := 40, pos := "outright.go:208", after := #[{ on := 0, ground := Ground.data }, { on := 1, ground := Ground.data }, { on := 4, ground := Ground.data }, { on := 4, ground := Ground.chain }], guard := none }
def le166 : Oper := { dst := some 147, op := Op.move (Operand.tmp 153), type := 40, pos := "outright.go:208", after := #[{ on := 5, ground := Ground.data }], guard := none }
def le167 : Oper := { dst := some 154, op := Op.extract (Operand.tmp 147) 0, type := 27, pos := "outright.go:208", after := #[{ on := 6, ground := Ground.data }], guard := none }
def le168 : Oper := { dst := some 155, op := Op.extract (Operand.tmp 147) 1, type := 39, pos := "outright.go:208", after := #[{ on := 6, ground := Ground.data }, { on := 10, ground := Ground.gcOnly Departure.lateStores }], guard := none }
def le169 : Oper := { dst := some 24, op := Op.alloc 27, type := 0, pos := "outright.go:208", after := #[], guard := none }
def le1610 : Oper := { dst := none, op := Op.store 27 (Operand.tmp 24) (Operand.tmp 154), type := 0, pos := "outright.go:208", after := #[{ on := 9, ground := Ground.data }, { on := 7, ground := Ground.data }, { on := 5, ground := Ground.chain }, { on := 0, ground := Ground.phase }, { on := 1, ground := Ground.phase }, { on := 2, ground := Ground.phase }, { on := 3, ground := Ground.phase }, { on := 4, ground := Ground.phase }, { on := 5, ground := Ground.phase }, { on := 6, ground := Ground.phase }, { on := 7, ground := Ground.phase }, { on := 8, ground := Ground.textOnly Departure.lateStores }, { on := 9, ground := Ground.phase }], guard := none }
def le1611 : Oper := { dst := some 25, op := Op.assign (Operand.tmp 155), type := 39, pos := "outright.go:208", after := #[{ on := 8, ground := Ground.data }, { on := 10, ground := Ground.chain }, { on := 0, ground := Ground.phase }, { on := 1, ground := Ground.phase }, { on := 2, ground := Ground.phase }, { on := 3, ground := Ground.phase }, { on := 4, ground := Ground.phase }, { on := 5, ground := Ground.phase }, { on := 6, ground := Ground.phase }, { on := 7, ground := Ground.phase }, { on := 8, ground := Ground.phase }, { on := 9, ground := Ground.phase }, { on := 10, ground := Ground.phase }], guard := none }
def le16o : Array Oper := #[le160, le161, le162, le163, le164, le165, le166, le167, le168, le169, le1610, le1611]
structure le16h (sb ab : Nat) (l r o v : Sl) (z : E4) (ez : Int) (vx : Value) (kb : Nat) (k : E4) (X : List Tm) (W : World) : Prop where
 a0 : W.cell? ⟨ab, 0, none⟩ = some (.slice l.p l.n l.c)
 a1 : W.cell? ⟨ab, 1, none⟩ = some (.slice r.p r.n r.c)
 a2 : W.cell? ⟨ab, 2, none⟩ = some (.slice o.p o.n o.c)
 a3 : W.cell? ⟨ab, 3, none⟩ = some (.slice v.p v.n v.c)
 k0 : W.cell? ⟨kb, 0, none⟩ = some (.int .u64 k.x0)
 k1 : W.cell? ⟨kb, 1, none⟩ = some (.int .u64 k.x1)
 k2 : W.cell? ⟨kb, 2, none⟩ = some (.int .u64 k.x2)
 k3 : W.cell? ⟨kb, 3, none⟩ = some (.int .u64 k.x3)
 C1 : Hid (∀ y, Below W.heap.size W y → Calls Tryd.prog 11 #[vx, .agg #[.int .u64 k.x0, .int .u64 k.x1, .int .u64 k.x2, .int .u64 k.x3]] y fun e w' => Lw y X e w')
 E1 : Hid (∀ (P : Option Addr) (c : Nat) (y : World), Below W.heap.size W y → Lt y P X.length (ft X) → Calls Tryd.prog 12 #[.pointer (some ⟨sb, 0, none⟩), .agg #[.slice l.p l.n l.c, .slice r.p r.n r.c, .slice o.p o.n o.c, .slice v.p v.n v.c], .slice P X.length c] y fun e w' => e = .returned (.tuple #[.agg #[.int .u64 z.x0, .int .u64 z.x1, .int .u64 z.x2, .int .u64 z.x3], .int .i64 ez]) ∧ Below y.heap.size y w')
def le16S (U : Nat → Value) (sb ab : Nat) (l r o v : Sl) (z : E4) (ez : Int) (vx : Value) (kb : Nat) (k : E4) (X : List Tm) (p1 : Option Addr) (c1 : Nat) (rb : Nat) (f4 f5 f6 f7 f8 f9 f11 : Bool) : Array Value := #[U 0, U 1, vx, U 3, U 4, U 5, U 6, U 7, U 8, U 9, .pointer (some ⟨kb, 0, none⟩), U 11, U 12, .pointer (some ⟨sb, 0, none⟩), .pointer (some ⟨ab, 0, none⟩), U 15, U 16, U 17, U 18, U 19, U 20, U 21, U 22, U 23, bif f9 then .pointer (some ⟨rb, 0, none⟩) else U 24, bif f11 then .int .i64 ez else U 25, U 26, U 27, U 28, U 29, U 30, U 31, U 32, U 33, U 34, U 35, U 36, U 37, U 38, U 39, U 40, U 41, U 42, U 43, U 44, U 45, U 46, U 47, U 48, U 49, U 50, U 51, U 52, U 53, U 54, U 55, U 56, U 57, U 58, U 59, U 60, U 61, U 62, U 63, U 64, U 65, U 66, U 67, U 68, U 69, U 70, U 71, U 72, U 73, U 74, U 75, U 76, U 77, U 78, U 79, U 80, U 81, U 82, U 83, U 84, U 85, U 86, U 87, U 88, U 89, U 90, U 91, U 92, U 93, U 94, U 95, U 96, U 97, U 98, U 99, U 100, U 101, U 102, U 103, U 104, U 105, U 106, U 107, U 108, U 109, U 110, U 111, U 112, U 113, U 114, U 115, U 116, U 117, U 118, U 119, U 120, U 121, U 122, U 123, U 124, U 125, U 126, U 127, U 128, U 129, U 130, U 131, U 132, U 133, U 134, U 135, U 136, U 137, U 138, U 139, U 140, U 141, U 142, U 143, U 144, U 145, U 146, bif f6 then .tuple #[.agg #[.int .u64 z.x0, .int .u64 z.x1, .int .u64 z.x2, .int .u64 z.x3], .int .i64 ez] else U 147, .pointer (some ⟨sb, 0, none⟩), .agg #[.slice l.p l.n l.c, .slice r.p r.n r.c, .slice o.p o.n o.c, .slice v.p v.n v.c], vx, .agg #[.int .u64 k.x0, .int .u64 k.x1, .int .u64 k.x2, .int .u64 k.x3], bif f4 then .slice p1 X.length c1 else U 152, bif f5 then .tuple #[.agg #[.int .u64 z.x0, .int .u64 z.x1, .int .u64 z.x2, .int .u64 z.x3], .int .i64 ez] else U 153, bif f7 then .agg #[.int .u64 z.x0, .int .u64 z.x1, .int .u64 z.x2, .int .u64 z.x3] else U 154, bif f8 then .int .i64 ez else U 155, U 156, U 157, U 158, U 159, U 160, U 161, U 162, U 163, U 164, U 165, U 166, U 167, U 168, U 169, U 170, U 171, U 172, U 173, U 174, U 175, U 176, U 177, U 178, U 179, U 180, U 181, U 182, U 183, U 184, U 185, U 186, U 187, U 188, U 189, U 190, U 191, U 192, U 193, U 194, U 195, U 196, U 197, U 198, U 199, U 200, U 201, U 202, U 203, U 204, U 205, U 206, U 207, U 208, U 209, U 210, U 211, U 212, U 213, U 214, U 215, U 216, U 217, U 218, U 219, U 220, U 221, U 222, U 223, U 224, U 225, U 226, U 227, U 228, U 229, U 230, U 231, U 232, U 233, U 234, U 235, U 236, U 237, U 238, U 239, U 240, U 241, U 242, U 243, U 244, U 245, U 246, U 247, U 248, U 249, U 250, U 251, U 252, U 253, U 254, U 255, U 256, U 257, U 258, U 259, U 260, U 261, U 262, U 263, U 264, U 265, U 266]
def le16G (Q : Exit → Act → World → Prop) (sb ab : Nat) (l r o v : Sl) (z : E4) (ez : Int) (vx : Value) (kb : Nat) (k : E4) (X : List Tm) (W : World) (fuel : Nat) (listed : Array Bool) (a : Array Value) (w : World) : Prop := wpAnyH Tryd.prog Region.Mode.any le16o (NoPanic Q) (fun x => Below W.heap.size W x) fuel listed ⟨a, []⟩ w
def le16f (Q : Exit → Act → World → Prop) (sb ab : Nat) (l r o v : Sl) (z : E4) (ez : Int) (vx : Value) (kb : Nat) (k : E4) (X : List Tm) (U : Nat → Value) (W : World) : Prop := ∀ (wz : World) (p1 : Option Addr) (c1 : Nat) (rb : Nat), Below W.heap.size W wz → W.heap.size ≤ rb → wz.rangeAt rb 0 [.int .u64 z.x0, .int .u64 z.x1, .int .u64 z.x2, .int .u64 z.x3] → Q .normal ⟨le16S U sb ab l r o v z ez vx kb k X p1 c1 rb true true true true true true true, []⟩ wz
section
variable {Q : Exit → Act → World → Prop} {sb ab : Nat} {l r o v : Sl} {z : E4} {ez : Int} {vx : Value} {kb : Nat} {k : E4} {X : List Tm} {U : Nat → Value} {W : World}
theorem le16_fff (H : le16h sb ab l r o v z ez vx kb k X W) (p1 : Option Addr) (c1 : Nat) (rb : Nat) (w : World) (listed : Array Bool) (hl : listed = #[true, true, true, true, true, true, true, true, true, true, true, true]) (RB : Hid (W.heap.size ≤ rb)) (FR : Hid (w.rangeAt rb 0 [.int .u64 z.x0, .int .u64 z.x1, .int .u64 z.x2, .int .u64 z.x3])) (HH : Hid (Below W.heap.size W w)) (HQ : Hid (le16f Q sb ab l r o v z ez vx kb k X U W)) : le16G Q sb ab l r o v z ez vx kb k X W 0 listed (le16S U sb ab l r o v z ez vx kb k X p1 c1 rb true true true true true true true) w := by
 subst hl
 have H0 := H
 obtain ⟨a0, a1, a2, a3, k0, k1, k2, k3, C1, E1⟩ := H
 simp only [le16G, le16S, cond_true, cond_false]
 refine wpAnyH_done (by kernel_rfl) ?_ _
 refine NoPanic.normal ?_
 exact HQ.out _ p1 c1 rb HH.out RB.out FR.out
theorem le16_3ff (H : le16h sb ab l r o v z ez vx kb k X W) (p1 : Option Addr) (c1 : Nat) (rb : Nat) (w : World) (listed : Array Bool) (hl : listed = #[true, true, true, true, true, true, true, true, true, true, false, false]) (TH : Hid (w.there rb 0 4)) (RB : Hid (W.heap.size ≤ rb)) (HH : Hid (Below W.heap.size W w)) (HQ : Hid (le16f Q sb ab l r o v z ez vx kb k X U W)) : le16G Q sb ab l r o v z ez vx kb k X W 2 listed (le16S U sb ab l r o v z ez vx kb k X p1 c1 rb true true true true true true false) w := by
 subst hl
 have H0 := H
 obtain ⟨a0, a1, a2, a3, k0, k1, k2, k3, C1, E1⟩ := H
 simp only [le16G, le16S, cond_true, cond_false]
 refine wpAnyH_ready (rs := [10]) (by kernel_rfl) (by simp) ?_
 refine AllReadyH.cons (o := le1610) rfl (fun K hK => ?_) AllReadyH.nil
 refine wp_storeE 27 _ _ rfl rb 0 ([.int .u64 z.x0, .int .u64 z.x1, .int .u64 z.x2, .int .u64 z.x3]) (by rfl) (by rfl) TH.out i4s (by simp [Value.oneCell']) rfl (fun w2 hw => ?_)
 have SN := hidden (by rw [hw]; exact HH.out.grown (gb_setCells rb [.int .u64 z.x0, .int .u64 z.x1, .int .u64 z.x2, .int .u64 z.x3] 0 _) HH.out.size (fun k hk => by obtain rfl := Option.some.inj hk; exact RB.out) : Below W.heap.size W w2)
 have FR := hidden (by rw [hw]; exact World.rangeAt_setCells_same _ rb 0 _ TH.out : w2.rangeAt rb 0 [.int .u64 z.x0, .int .u64 z.x1, .int .u64 z.x2, .int .u64 z.x3])
 replace HH := SN
 clear SN TH hw
 refine hK.out _ _ HH.out (fun hH => ?_); clear hK K
 refine tk 11 le1611 (.int .i64 ez) rfl (by kernel_rfl) hH rfl (fun w0 hSw => ?_) ?_
 ·(unfold le1611; clear hSw; go_simp)
 unfold le1611
 simp only [Act.put, sA, sB, sC]
 exact le16_fff H0 p1 c1 rb w2 _ (by kernel_rfl) RB FR HH HQ
theorem le16_1ff (H : le16h sb ab l r o v z ez vx kb k X W) (p1 : Option Addr) (c1 : Nat) (w : World) (listed : Array Bool) (hl : listed = #[true, true, true, true, true, true, true, true, true, false, false, false])  (HH : Hid (Below W.heap.size W w)) (HQ : Hid (le16f Q sb ab l r o v z ez vx kb k X U W)) : le16G Q sb ab l r o v z ez vx kb k X W 3 listed (le16S U sb ab l r o v z ez vx kb k X p1 c1 0 true true true true true false false) w := by
 subst hl
 have H0 := H
 obtain ⟨a0, a1, a2, a3, k0, k1, k2, k3, C1, E1⟩ := H
 simp only [le16G, le16S, cond_true, cond_false]
 refine wpAnyH_ready (rs := [9]) (by kernel_rfl) (by simp) ?_
 refine AllReadyH.cons (o := le169) rfl (fun K hK => ?_) AllReadyH.nil
 refine wp_allocS rfl (fun rb w2 htb hwq => ?_)
 have hbb : Below w.heap.size w w2 := (by rw [hwq]; exact bl_alloc _ _)
 have SN := hidden (by rw [hwq]; exact bl_trans HH.out (bl_alloc _ _) : Below W.heap.size W w2)
 have TH := hidden (by rw [htb, hwq]; exact there_newM _ [.int .u64 0, .int .u64 0, .int .u64 0, .int .u64 0] _ : w2.there rb 0 4)
 have RB := hidden (by rw [htb]; exact HH.out.size : W.heap.size ≤ rb)
 replace HH := SN
 clear SN hbb  htb hwq
 unfold le169
 simp only [Act.put, sA, sB, sC]
 refine hK.out _ _ HH.out (fun hH => ?_); clear hK K
 exact le16_3ff H0 p1 c1 rb w2 _ (by kernel_rfl) TH RB HH HQ
theorem le16_21f (H : le16h sb ab l r o v z ez vx kb k X W) (p1 : Option Addr) (c1 : Nat) (rb : Nat) (w : World) (listed : Array Bool) (hl : listed = #[true, true, true, true, true, false, false, false, false, true, false, false]) (L1 : Hid (Lt w p1 X.length (ft X))) (TH : Hid (w.there rb 0 4)) (RB : Hid (W.heap.size ≤ rb)) (HH : Hid (Below W.heap.size W w)) (HQ : Hid (le16f Q sb ab l r o v z ez vx kb k X U W)) : le16G Q sb ab l r o v z ez vx kb k X W 6 listed (le16S U sb ab l r o v z ez vx kb k X p1 c1 rb true false false false false true false) w := by
 subst hl
 have H0 := H
 obtain ⟨a0, a1, a2, a3, k0, k1, k2, k3, C1, E1⟩ := H
 simp only [le16G, le16S, cond_true, cond_false]
 refine wpAnyH_ready (rs := [5]) (by kernel_rfl) (by simp) ?_
 refine AllReadyH.cons (o := le165) rfl (fun K hK => ?_) AllReadyH.nil
 unfold le165
 go_simp
 refine (E1.out _ _ _ HH.out L1.out).mono ?_
 rintro e w2 ⟨rfl, hb⟩
 have SN := hidden (bl_trans HH.out hb : Below W.heap.size W w2)
 replace TH := hidden (there_bl TH.out hb)
 replace HH := SN
 clear SN L1 hb
 go_wp2_with fail
 refine hK.out _ _ HH.out (fun hH => ?_); clear hK K
 refine tk 6 le166 (.tuple #[.agg #[.int .u64 z.x0, .int .u64 z.x1, .int .u64 z.x2, .int .u64 z.x3], .int .i64 ez]) rfl (by kernel_rfl) hH rfl (fun w0 hSw => ?_) ?_
 ·(unfold le166; clear hSw; go_simp)
 unfold le166
 simp only [Act.put, sA, sB, sC]
 refine tk 7 le167 (.agg #[.int .u64 z.x0, .int .u64 z.x1, .int .u64 z.x2, .int .u64 z.x3]) rfl (by kernel_rfl) hH rfl (fun w0 hSw => ?_) ?_
 ·(unfold le167; clear hSw; go_simp)
 unfold le167
 simp only [Act.put, sA, sB, sC]
 refine tk 8 le168 (.int .i64 ez) rfl (by kernel_rfl) hH rfl (fun w0 hSw => ?_) ?_
 ·(unfold le168; clear hSw; go_simp)
 unfold le168
 simp only [Act.put, sA, sB, sC]
 exact le16_3ff H0 p1 c1 rb w2 _ (by kernel_rfl) TH RB HH HQ
theorem le16_20f (H : le16h sb ab l r o v z ez vx kb k X W) (rb : Nat) (w : World) (listed : Array Bool) (hl : listed = #[true, true, true, true, false, false, false, false, false, true, false, false]) (TH : Hid (w.there rb 0 4)) (RB : Hid (W.heap.size ≤ rb)) (HH : Hid (Below W.heap.size W w)) (HQ : Hid (le16f Q sb ab l r o v z ez vx kb k X U W)) : le16G Q sb ab l r o v z ez vx kb k X W 7 listed (le16S U sb ab l r o v z ez vx kb k X none 0 rb false false false false false true false) w := by
 subst hl
 have H0 := H
 obtain ⟨a0, a1, a2, a3, k0, k1, k2, k3, C1, E1⟩ := H
 simp only [le16G, le16S, cond_true, cond_false]
 refine wpAnyH_ready (rs := [4]) (by kernel_rfl) (by simp) ?_
 refine AllReadyH.cons (o := le164) rfl (fun K hK => ?_) AllReadyH.nil
 unfold le164
 go_simp
 refine (C1.out _ HH.out).mono ?_
 rintro e w2 ⟨p1, c1, rfl, hl, hb⟩
 have SN := hidden (bl_trans HH.out hb : Below W.heap.size W w2)
 have L1 := hidden (hl : Lt w2 p1 X.length (ft X))
 replace TH := hidden (there_bl TH.out hb)
 replace HH := SN
 clear SN  hl hb
 go_wp2_with fail
 refine hK.out _ _ HH.out (fun hH => ?_); clear hK K
 exact le16_21f H0 p1 c1 rb w2 _ (by kernel_rfl) L1 TH RB HH HQ
theorem le16_1f (H : le16h sb ab l r o v z ez vx kb k X W) (p1 : Option Addr) (c1 : Nat) (w : World) (listed : Array Bool) (hl : listed = #[true, true, true, true, true, false, false, false, false, false, false, false]) (L1 : Hid (Lt w p1 X.length (ft X))) (HH : Hid (Below W.heap.size W w)) (HQ : Hid (le16f Q sb ab l r o v z ez vx kb k X U W)) : le16G Q sb ab l r o v z ez vx kb k X W 7 listed (le16S U sb ab l r o v z ez vx kb k X p1 c1 0 true false false false false false false) w := by
 subst hl
 have H0 := H
 obtain ⟨a0, a1, a2, a3, k0, k1, k2, k3, C1, E1⟩ := H
 simp only [le16G, le16S, cond_true, cond_false]
 refine wpAnyH_ready (rs := [5, 9]) (by kernel_rfl) (by simp) ?_
 refine AllReadyH.cons (o := le165) rfl (fun K hK => ?_) (AllReadyH.cons (o := le169) rfl (fun K hK => ?_) AllReadyH.nil)
 ·unfold le165
  go_simp
  refine (E1.out _ _ _ HH.out L1.out).mono ?_
  rintro e w2 ⟨rfl, hb⟩
  have SN := hidden (bl_trans HH.out hb : Below W.heap.size W w2)
  replace HH := SN
  clear SN L1 hb
  go_wp2_with fail
  refine hK.out _ _ HH.out (fun hH => ?_); clear hK K
  refine tk 6 le166 (.tuple #[.agg #[.int .u64 z.x0, .int .u64 z.x1, .int .u64 z.x2, .int .u64 z.x3], .int .i64 ez]) rfl (by kernel_rfl) hH rfl (fun w0 hSw => ?_) ?_
  ·(unfold le166; clear hSw; go_simp)
  unfold le166
  simp only [Act.put, sA, sB, sC]
  refine tk 7 le167 (.agg #[.int .u64 z.x0, .int .u64 z.x1, .int .u64 z.x2, .int .u64 z.x3]) rfl (by kernel_rfl) hH rfl (fun w0 hSw => ?_) ?_
  ·(unfold le167; clear hSw; go_simp)
  unfold le167
  simp only [Act.put, sA, sB, sC]
  refine tk 8 le168 (.int .i64 ez) rfl (by kernel_rfl) hH rfl (fun w0 hSw => ?_) ?_
  ·(unfold le168; clear hSw; go_simp)
  unfold le168
  simp only [Act.put, sA, sB, sC]
  exact le16_1ff H0 p1 c1 w2 _ (by kernel_rfl)  HH HQ
 ·refine wp_allocS rfl (fun rb w2 htb hwq => ?_)
  have hbb : Below w.heap.size w w2 := (by rw [hwq]; exact bl_alloc _ _)
  have SN := hidden (by rw [hwq]; exact bl_trans HH.out (bl_alloc _ _) : Below W.heap.size W w2)
  have TH := hidden (by rw [htb, hwq]; exact there_newM _ [.int .u64 0, .int .u64 0, .int .u64 0, .int .u64 0] _ : w2.there rb 0 4)
  have RB := hidden (by rw [htb]; exact HH.out.size : W.heap.size ≤ rb)
  replace L1 := hidden (L1.out.keep hbb)
  replace HH := SN
  clear SN hbb  htb hwq
  unfold le169
  simp only [Act.put, sA, sB, sC]
  refine hK.out _ _ HH.out (fun hH => ?_); clear hK K
  exact le16_21f H0 p1 c1 rb w2 _ (by kernel_rfl) L1 TH RB HH HQ
theorem le16_f (H : le16h sb ab l r o v z ez vx kb k X W)  (w : World) (listed : Array Bool) (hl : listed = #[true, true, true, true, false, false, false, false, false, false, false, false])  (HH : Hid (Below W.heap.size W w)) (HQ : Hid (le16f Q sb ab l r o v z ez vx kb k X U W)) : le16G Q sb ab l r o v z ez vx kb k X W 8 listed (le16S U sb ab l r o v z ez vx kb k X none 0 0 false false false false false false false) w := by
 subst hl
 have H0 := H
 obtain ⟨a0, a1, a2, a3, k0, k1, k2, k3, C1, E1⟩ := H
 simp only [le16G, le16S, cond_true, cond_false]
 refine wpAnyH_ready (rs := [4, 9]) (by kernel_rfl) (by simp) ?_
 refine AllReadyH.cons (o := le164) rfl (fun K hK => ?_) (AllReadyH.cons (o := le169) rfl (fun K hK => ?_) AllReadyH.nil)
 ·unfold le164
  go_simp
  refine (C1.out _ HH.out).mono ?_
  rintro e w2 ⟨p1, c1, rfl, hl, hb⟩
  have SN := hidden (bl_trans HH.out hb : Below W.heap.size W w2)
  have L1 := hidden (hl : Lt w2 p1 X.length (ft X))
  replace HH := SN
  clear SN  hl hb
  go_wp2_with fail
  refine hK.out _ _ HH.out (fun hH => ?_); clear hK K
  exact le16_1f H0 p1 c1 w2 _ (by kernel_rfl) L1 HH HQ
 ·refine wp_allocS rfl (fun rb w2 htb hwq => ?_)
  have hbb : Below w.heap.size w w2 := (by rw [hwq]; exact bl_alloc _ _)
  have SN := hidden (by rw [hwq]; exact bl_trans HH.out (bl_alloc _ _) : Below W.heap.size W w2)
  have TH := hidden (by rw [htb, hwq]; exact there_newM _ [.int .u64 0, .int .u64 0, .int .u64 0, .int .u64 0] _ : w2.there rb 0 4)
  have RB := hidden (by rw [htb]; exact HH.out.size : W.heap.size ≤ rb)
  replace HH := SN
  clear SN hbb  htb hwq
  unfold le169
  simp only [Act.put, sA, sB, sC]
  refine hK.out _ _ HH.out (fun hH => ?_); clear hK K
  exact le16_20f H0 rb w2 _ (by kernel_rfl) TH RB HH HQ
end
theorem le16 (Q : Exit → Act → World → Prop) (sb ab : Nat) (l r o v : Sl) (z : E4) (ez : Int) (vx : Value) (kb : Nat) (k : E4) (X : List Tm) (u0 u1 u3 u4 u5 u6 u7 u8 u9 u11 u12 u15 u16 u17 u18 u19 u20 u21 u22 u23 u24 u25 u26 u27 u28 u29 u30 u31 u32 u33 u34 u35 u36 u37 u38 u39 u40 u41 u42 u43 u44 u45 u46 u47 u48 u49 u50 u51 u52 u53 u54 u55 u56 u57 u58 u59 u60 u61 u62 u63 u64 u65 u66 u67 u68 u69 u70 u71 u72 u73 u74 u75 u76 u77 u78 u79 u80 u81 u82 u83 u84 u85 u86 u87 u88 u89 u90 u91 u92 u93 u94 u95 u96 u97 u98 u99 u100 u101 u102 u103 u104 u105 u106 u107 u108 u109 u110 u111 u112 u113 u114 u115 u116 u117 u118 u119 u120 u121 u122 u123 u124 u125 u126 u127 u128 u129 u130 u131 u132 u133 u134 u135 u136 u137 u138 u139 u140 u141 u142 u143 u144 u145 u146 u147 u148 u149 u150 u151 u152 u153 u154 u155 u156 u157 u158 u159 u160 u161 u162 u163 u164 u165 u166 u167 u168 u169 u170 u171 u172 u173 u174 u175 u176 u177 u178 u179 u180 u181 u182 u183 u184 u185 u186 u187 u188 u189 u190 u191 u192 u193 u194 u195 u196 u197 u198 u199 u200 u201 u202 u203 u204 u205 u206 u207 u208 u209 u210 u211 u212 u213 u214 u215 u216 u217 u218 u219 u220 u221 u222 u223 u224 u225 u226 u227 u228 u229 u230 u231 u232 u233 u234 u235 u236 u237 u238 u239 u240 u241 u242 u243 u244 u245 u246 u247 u248 u249 u250 u251 u252 u253 u254 u255 u256 u257 u258 u259 u260 u261 u262 u263 u264 u265 u266 : Value) (W : World) (H : le16h sb ab l r o v z ez vx kb k X W)
  (HQ : Hid (∀ (wz : World) (p1 : Option Addr) (c1 : Nat) (rb : Nat), Below W.heap.size W wz → W.heap.size ≤ rb → wz.rangeAt rb 0 [.int .u64 z.x0, .int .u64 z.x1, .int .u64 z.x2, .int .u64 z.x3] → Q .normal ⟨#[u0, u1, vx, u3, u4, u5, u6, u7, u8, u9, .pointer (some ⟨kb, 0, none⟩), u11, u12, .pointer (some ⟨sb, 0, none⟩), .pointer (some ⟨ab, 0, none⟩), u15, u16, u17, u18, u19, u20, u21, u22, u23, .pointer (some ⟨rb, 0, none⟩), .int .i64 ez, u26, u27, u28, u29, u30, u31, u32, u33, u34, u35, u36, u37, u38, u39, u40, u41, u42, u43, u44, u45, u46, u47, u48, u49, u50, u51, u52, u53, u54, u55, u56, u57, u58, u59, u60, u61, u62, u63, u64, u65, u66, u67, u68, u69, u70, u71, u72, u73, u74, u75, u76, u77, u78, u79, u80, u81, u82, u83, u84, u85, u86, u87, u88, u89, u90, u91, u92, u93, u94, u95, u96, u97, u98, u99, u100, u101, u102, u103, u104, u105, u106, u107, u108, u109, u110, u111, u112, u113, u114, u115, u116, u117, u118, u119, u120, u121, u122, u123, u124, u125, u126, u127, u128, u129, u130, u131, u132, u133, u134, u135, u136, u137, u138, u139, u140, u141, u142, u143, u144, u145, u146, .tuple #[.agg #[.int .u64 z.x0, .int .u64 z.x1, .int .u64 z.x2, .int .u64 z.x3], .int .i64 ez], .pointer (some ⟨sb, 0, none⟩), .agg #[.slice l.p l.n l.c, .slice r.p r.n r.c, .slice o.p o.n o.c, .slice v.p v.n v.c], vx, .agg #[.int .u64 k.x0, .int .u64 k.x1, .int .u64 k.x2, .int .u64 k.x3], .slice p1 X.length c1, .tuple #[.agg #[.int .u64 z.x0, .int .u64 z.x1, .int .u64 z.x2, .int .u64 z.x3], .int .i64 ez], .agg #[.int .u64 z.x0, .int .u64 z.x1, .int .u64 z.x2, .int .u64 z.x3], .int .i64 ez, u156, u157, u158, u159, u160, u161, u162, u163, u164, u165, u166, u167, u168, u169, u170, u171, u172, u173, u174, u175, u176, u177, u178, u179, u180, u181, u182, u183, u184, u185, u186, u187, u188, u189, u190, u191, u192, u193, u194, u195, u196, u197, u198, u199, u200, u201, u202, u203, u204, u205, u206, u207, u208, u209, u210, u211, u212, u213, u214, u215, u216, u217, u218, u219, u220, u221, u222, u223, u224, u225, u226, u227, u228, u229, u230, u231, u232, u233, u234, u235, u236, u237, u238, u239, u240, u241, u242, u243, u244, u245, u246, u247, u248, u249, u250, u251, u252, u253, u254, u255, u256, u257, u258, u259, u260, u261, u262, u263, u264, u265, u266], []⟩ wz)) : (Code.region 16 le16o true).wp Tryd.prog Q ⟨#[u0, u1, vx, u3, u4, u5, u6, u7, u8, u9, .pointer (some ⟨kb, 0, none⟩), u11, u12, .pointer (some ⟨sb, 0, none⟩), .pointer (some ⟨ab, 0, none⟩), u15, u16, u17, u18, u19, u20, u21, u22, u23, u24, u25, u26, u27, u28, u29, u30, u31, u32, u33, u34, u35, u36, u37, u38, u39, u40, u41, u42, u43, u44, u45, u46, u47, u48, u49, u50, u51, u52, u53, u54, u55, u56, u57, u58, u59, u60, u61, u62, u63, u64, u65, u66, u67, u68, u69, u70, u71, u72, u73, u74, u75, u76, u77, u78, u79, u80, u81, u82, u83, u84, u85, u86, u87, u88, u89, u90, u91, u92, u93, u94, u95, u96, u97, u98, u99, u100, u101, u102, u103, u104, u105, u106, u107, u108, u109, u110, u111, u112, u113, u114, u115, u116, u117, u118, u119, u120, u121, u122, u123, u124, u125, u126, u127, u128, u129, u130, u131, u132, u133, u134, u135, u136, u137, u138, u139, u140, u141, u142, u143, u144, u145, u146, u147, u148, u149, u150, u151, u152, u153, u154, u155, u156, u157, u158, u159, u160, u161, u162, u163, u164, u165, u166, u167, u168, u169, u170, u171, u172, u173, u174, u175, u176, u177, u178, u179, u180, u181, u182, u183, u184, u185, u186, u187, u188, u189, u190, u191, u192, u193, u194, u195, u196, u197, u198, u199, u200, u201, u202, u203, u204, u205, u206, u207, u208, u209, u210, u211, u212, u213, u214, u215, u216, u217, u218, u219, u220, u221, u222, u223, u224, u225, u226, u227, u228, u229, u230, u231, u232, u233, u234, u235, u236, u237, u238, u239, u240, u241, u242, u243, u244, u245, u246, u247, u248, u249, u250, u251, u252, u253, u254, u255, u256, u257, u258, u259, u260, u261, u262, u263, u264, u265, u266], []⟩ W := by
 have H0 := H
 obtain ⟨a0, a1, a2, a3, k0, k1, k2, k3, C1, E1⟩ := H
 replace HQ : Hid (le16f Q sb ab l r o v z ez vx kb k X (nth [u0, u1, undef, u3, u4, u5, u6, u7, u8, u9, undef, u11, u12, undef, undef, u15, u16, u17, u18, u19, u20, u21, u22, u23, u24, u25, u26, u27, u28, u29, u30, u31, u32, u33, u34, u35, u36, u37, u38, u39, u40, u41, u42, u43, u44, u45, u46, u47, u48, u49, u50, u51, u52, u53, u54, u55, u56, u57, u58, u59, u60, u61, u62, u63, u64, u65, u66, u67, u68, u69, u70, u71, u72, u73, u74, u75, u76, u77, u78, u79, u80, u81, u82, u83, u84, u85, u86, u87, u88, u89, u90, u91, u92, u93, u94, u95, u96, u97, u98, u99, u100, u101, u102, u103, u104, u105, u106, u107, u108, u109, u110, u111, u112, u113, u114, u115, u116, u117, u118, u119, u120, u121, u122, u123, u124, u125, u126, u127, u128, u129, u130, u131, u132, u133, u134, u135, u136, u137, u138, u139, u140, u141, u142, u143, u144, u145, u146, u147, u148, u149, u150, u151, u152, u153, u154, u155, u156, u157, u158, u159, u160, u161, u162, u163, u164, u165, u166, u167, u168, u169, u170, u171, u172, u173, u174, u175, u176, u177, u178, u179, u180, u181, u182, u183, u184, u185, u186, u187, u188, u189, u190, u191, u192, u193, u194, u195, u196, u197, u198, u199, u200, u201, u202, u203, u204, u205, u206, u207, u208, u209, u210, u211, u212, u213, u214, u215, u216, u217, u218, u219, u220, u221, u222, u223, u224, u225, u226, u227, u228, u229, u230, u231, u232, u233, u234, u235, u236, u237, u238, u239, u240, u241, u242, u243, u244, u245, u246, u247, u248, u249, u250, u251, u252, u253, u254, u255, u256, u257, u258, u259, u260, u261, u262, u263, u264, u265, u266]) W) := HQ
 refine wp_region_noPanic ?_
 refine wp_region_held_drew (S := fun x => Below W.heap.size W x) (by kernel_rfl) (bl_drew W) (fun hH => ?_)
 have HH := hidden hH
 refine tk 0 le160 (.pointer (some ⟨sb, 0, none⟩)) rfl (by kernel_rfl) hH rfl (fun w0 hSw => ?_) ?_
 ·(unfold le160; clear hSw; go_simp)
 unfold le160
 simp only [Act.put, sA, sB, sC]
 refine tk 1 le161 (.agg #[.slice l.p l.n l.c, .slice r.p r.n r.c, .slice o.p o.n o.c, .slice v.p v.n v.c]) rfl (by kernel_rfl) hH rfl (fun w0 hSw => ?_) ?_
 ·(unfold le161; have hS : Below W.heap.size W w0 := hSw; have a0 := cell_keep a0 hS; have a1 := cell_keep a1 hS; have a2 := cell_keep a2 hS; have a3 := cell_keep a3 hS; clear hS hSw; go_simp)
 unfold le161
 simp only [Act.put, sA, sB, sC]
 refine tk 2 le162 (vx) rfl (by kernel_rfl) hH rfl (fun w0 hSw => ?_) ?_
 ·(unfold le162; clear hSw; go_simp)
 unfold le162
 simp only [Act.put, sA, sB, sC]
 refine tk 3 le163 (.agg #[.int .u64 k.x0, .int .u64 k.x1, .int .u64 k.x2, .int .u64 k.x3]) rfl (by kernel_rfl) hH rfl (fun w0 hSw => ?_) ?_
 ·(unfold le163; have hS : Below W.heap.size W w0 := hSw; have a0 := cell_keep k0 hS; have a1 := cell_keep k1 hS; have a2 := cell_keep k2 hS; have a3 := cell_keep k3 hS; clear hS hSw; go_simp)
 unfold le163
 simp only [Act.put, sA, sB, sC]
 exact le16_f H0  W.drew _ (by kernel_rfl)  HH HQ
end Ci
end Go.Proofs.YtaendjjelpmokaaDoor
