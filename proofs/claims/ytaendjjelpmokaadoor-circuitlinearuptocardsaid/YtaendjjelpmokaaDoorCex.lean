import Derived.Test.YtaendjjelpmokaaDoorTk
import Derived.Test.YtaendjjelpmokaaDoorCew
namespace Go.Proofs.YtaendjjelpmokaaDoor
open Go.RowKit
set_option linter.unusedVariables false
set_option linter.unusedSimpArgs false
open Cm (Wr Tm co bf Ls lf ins Eqm)
namespace Ci
set_option maxRecDepth 100000
set_option maxHeartbeats 16000000
def le170 : Oper := { dst := some 157, op := Op.move (Operand.tmp 13), type := 30, pos := "outright.go:209", after := #[], guard := none }
def le171 : Oper := { dst := some 158, op := Op.load 33 (Operand.tmp 14), type := 33, pos := "outright.go:209", after := #[], guard := none }
def le172 : Oper := { dst := some 159, op := Op.move (Operand.tmp 2), type := 24, pos := "outright.go:209", after := #[], guard := none }
def le173 : Oper := { dst := some 160, op := Op.call { callee := Callee.value (Operand.func 9), args := #[Operand.tmp 159], argTypes := #[24] }, type := 24, pos := "outright.go:209", after := #[{ on := 2, ground := Ground.data }], guard := none }
def le174 : Oper := { dst := some 161, op := Op.call { callee := Callee.value (Operand.func 12), args := #[Operand.tmp 157, Operand.tmp 158, Operand.tmp 160], argTypes := #[30, 33, 24] }, type := 40, pos := "outright.go:209", after := #[{ on := 0, ground := Ground.data }, { on := 1, ground := Ground.data }, { on := 3, ground := Ground.data }, { on := 3, ground := Ground.chain }], guard := none }
def le175 : Oper := { dst := some 156, op := Op.move (Operand.tmp 161), type := 40, pos := "outright.go:209", after := #[{ on := 4, ground := Ground.data }], guard := none }
def le176 : Oper := { dst := some 162, op := Op.extract (Operand.tmp 156) 0, type := 27, pos := "outright.go:209", after := #[{ on := 5, ground := Ground.data }], guard := none }
def le177 : Oper := { dst := some 163, op := Op.extract (Operand.tmp 156) 1, type := 39, pos := "outright.go:209", after := #[{ on := 5, ground := Ground.data }, { on := 9, ground := Ground.gcOnly Departure.lateStores }], guard := none }
def le178 : Oper := { dst := some 26, op := Op.alloc 27, type := 0, pos := "outright.go:209", after := #[], guard := none }
def le179 : Oper := { dst := none, op := Op.store 27 (Operand.tmp 26) (Operand.tmp 162), type := 0, pos := "outright.go:209", after := #[{ on := 8, ground := Ground.data }, { on := 6, ground := Ground.data }, { on := 4, ground := Ground.chain }, { on := 0, ground := Ground.phase }, { on := 1, ground := Ground.phase }, { on := 2, ground := Ground.phase }, { on := 3, ground := Ground.phase }, { on := 4, ground := Ground.phase }, { on := 5, ground := Ground.phase }, { on := 6, ground := Ground.phase }, { on := 7, ground := Ground.textOnly Departure.lateStores }, { on := 8, ground := Ground.phase }], guard := none }
def le1710 : Oper := { dst := some 27, op := Op.assign (Operand.tmp 163), type := 39, pos := "outright.go:209", after := #[{ on := 7, ground := Ground.data }, { on := 9, ground := Ground.chain }, { on := 0, ground := Ground.phase }, { on := 1, ground := Ground.phase }, { on := 2, ground := Ground.phase }, { on := 3, ground := Ground.phase }, { on := 4, ground := Ground.phase }, { on := 5, ground := Ground.phase }, { on := 6, ground := Ground.phase }, { on := 7, ground := Ground.phase }, { on := 8, ground := Ground.phase }, { on := 9, ground := Ground.phase }], guard := none }
def le17o : Array Oper := #[le170, le171, le172, le173, le174, le175, le176, le177, le178, le179, le1710]
structure le17h (sb ab : Nat) (l r o v : Sl) (z : E4) (ez : Int) (vx : Value) (X : List Tm) (W : World) : Prop where
 a0 : W.cell? ⟨ab, 0, none⟩ = some (.slice l.p l.n l.c)
 a1 : W.cell? ⟨ab, 1, none⟩ = some (.slice r.p r.n r.c)
 a2 : W.cell? ⟨ab, 2, none⟩ = some (.slice o.p o.n o.c)
 a3 : W.cell? ⟨ab, 3, none⟩ = some (.slice v.p v.n v.c)
 C1 : Hid (∀ y, Below W.heap.size W y → Calls Tryd.prog 9 #[vx] y fun e w' => Lw y X e w')
 E1 : Hid (∀ (P : Option Addr) (c : Nat) (y : World), Below W.heap.size W y → Lt y P X.length (ft X) → Calls Tryd.prog 12 #[.pointer (some ⟨sb, 0, none⟩), .agg #[.slice l.p l.n l.c, .slice r.p r.n r.c, .slice o.p o.n o.c, .slice v.p v.n v.c], .slice P X.length c] y fun e w' => e = .returned (.tuple #[.agg #[.int .u64 z.x0, .int .u64 z.x1, .int .u64 z.x2, .int .u64 z.x3], .int .i64 ez]) ∧ Below y.heap.size y w')
def le17S (U : Nat → Value) (sb ab : Nat) (l r o v : Sl) (z : E4) (ez : Int) (vx : Value) (X : List Tm) (p1 : Option Addr) (c1 : Nat) (rb : Nat) (f3 f4 f5 f6 f7 f8 f10 : Bool) : Array Value := #[U 0, U 1, vx, U 3, U 4, U 5, U 6, U 7, U 8, U 9, U 10, U 11, U 12, .pointer (some ⟨sb, 0, none⟩), .pointer (some ⟨ab, 0, none⟩), U 15, U 16, U 17, U 18, U 19, U 20, U 21, U 22, U 23, U 24, U 25, bif f8 then .pointer (some ⟨rb, 0, none⟩) else U 26, bif f10 then .int .i64 ez else U 27, U 28, U 29, U 30, U 31, U 32, U 33, U 34, U 35, U 36, U 37, U 38, U 39, U 40, U 41, U 42, U 43, U 44, U 45, U 46, U 47, U 48, U 49, U 50, U 51, U 52, U 53, U 54, U 55, U 56, U 57, U 58, U 59, U 60, U 61, U 62, U 63, U 64, U 65, U 66, U 67, U 68, U 69, U 70, U 71, U 72, U 73, U 74, U 75, U 76, U 77, U 78, U 79, U 80, U 81, U 82, U 83, U 84, U 85, U 86, U 87, U 88, U 89, U 90, U 91, U 92, U 93, U 94, U 95, U 96, U 97, U 98, U 99, U 100, U 101, U 102, U 103, U 104, U 105, U 106, U 107, U 108, U 109, U 110, U 111, U 112, U 113, U 114, U 115, U 116, U 117, U 118, U 119, U 120, U 121, U 122, U 123, U 124, U 125, U 126, U 127, U 128, U 129, U 130, U 131, U 132, U 133, U 134, U 135, U 136, U 137, U 138, U 139, U 140, U 141, U 142, U 143, U 144, U 145, U 146, U 147, U 148, U 149, U 150, U 151, U 152, U 153, U 154, U 155, bif f5 then .tuple #[.agg #[.int .u64 z.x0, .int .u64 z.x1, .int .u64 z.x2, .int .u64 z.x3], .int .i64 ez] else U 156, .pointer (some ⟨sb, 0, none⟩), .agg #[.slice l.p l.n l.c, .slice r.p r.n r.c, .slice o.p o.n o.c, .slice v.p v.n v.c], vx, bif f3 then .slice p1 X.length c1 else U 160, bif f4 then .tuple #[.agg #[.int .u64 z.x0, .int .u64 z.x1, .int .u64 z.x2, .int .u64 z.x3], .int .i64 ez] else U 161, bif f6 then .agg #[.int .u64 z.x0, .int .u64 z.x1, .int .u64 z.x2, .int .u64 z.x3] else U 162, bif f7 then .int .i64 ez else U 163, U 164, U 165, U 166, U 167, U 168, U 169, U 170, U 171, U 172, U 173, U 174, U 175, U 176, U 177, U 178, U 179, U 180, U 181, U 182, U 183, U 184, U 185, U 186, U 187, U 188, U 189, U 190, U 191, U 192, U 193, U 194, U 195, U 196, U 197, U 198, U 199, U 200, U 201, U 202, U 203, U 204, U 205, U 206, U 207, U 208, U 209, U 210, U 211, U 212, U 213, U 214, U 215, U 216, U 217, U 218, U 219, U 220, U 221, U 222, U 223, U 224, U 225, U 226, U 227, U 228, U 229, U 230, U 231, U 232, U 233, U 234, U 235, U 236, U 237, U 238, U 239, U 240, U 241, U 242, U 243, U 244, U 245, U 246, U 247, U 248, U 249, U 250, U 251, U 252, U 253, U 254, U 255, U 256, U 257, U 258, U 259, U 260, U 261, U 262, U 263, U 264, U 265, U 266]
def le17G (Q : Exit → Act → World → Prop) (sb ab : Nat) (l r o v : Sl) (z : E4) (ez : Int) (vx : Value) (X : List Tm) (W : World) (fuel : Nat) (listed : Array Bool) (a : Array Value) (w : World) : Prop := wpAnyH Tryd.prog Region.Mode.any le17o (NoPanic Q) (fun x => Below W.heap.size W x) fuel listed ⟨a, []⟩ w
def le17f (Q : Exit → Act → World → Prop) (sb ab : Nat) (l r o v : Sl) (z : E4) (ez : Int) (vx : Value) (X : List Tm) (U : Nat → Value) (W : World) : Prop := ∀ (wz : World) (p1 : Option Addr) (c1 : Nat) (rb : Nat), Below W.heap.size W wz → W.heap.size ≤ rb → wz.rangeAt rb 0 [.int .u64 z.x0, .int .u64 z.x1, .int .u64 z.x2, .int .u64 z.x3] → Q .normal ⟨le17S U sb ab l r o v z ez vx X p1 c1 rb true true true true true true true, []⟩ wz
section
variable {Q : Exit → Act → World → Prop} {sb ab : Nat} {l r o v : Sl} {z : E4} {ez : Int} {vx : Value} {X : List Tm} {U : Nat → Value} {W : World}
theorem le17_7ff (H : le17h sb ab l r o v z ez vx X W) (p1 : Option Addr) (c1 : Nat) (rb : Nat) (w : World) (listed : Array Bool) (hl : listed = #[true, true, true, true, true, true, true, true, true, true, true]) (RB : Hid (W.heap.size ≤ rb)) (FR : Hid (w.rangeAt rb 0 [.int .u64 z.x0, .int .u64 z.x1, .int .u64 z.x2, .int .u64 z.x3])) (HH : Hid (Below W.heap.size W w)) (HQ : Hid (le17f Q sb ab l r o v z ez vx X U W)) : le17G Q sb ab l r o v z ez vx X W 0 listed (le17S U sb ab l r o v z ez vx X p1 c1 rb true true true true true true true) w := by
 subst hl
 have H0 := H
 obtain ⟨a0, a1, a2, a3, C1, E1⟩ := H
 simp only [le17G, le17S, cond_true, cond_false]
 refine wpAnyH_done (by kernel_rfl) ?_ _
 refine NoPanic.normal ?_
 exact HQ.out _ p1 c1 rb HH.out RB.out FR.out
theorem le17_1ff (H : le17h sb ab l r o v z ez vx X W) (p1 : Option Addr) (c1 : Nat) (rb : Nat) (w : World) (listed : Array Bool) (hl : listed = #[true, true, true, true, true, true, true, true, true, false, false]) (TH : Hid (w.there rb 0 4)) (RB : Hid (W.heap.size ≤ rb)) (HH : Hid (Below W.heap.size W w)) (HQ : Hid (le17f Q sb ab l r o v z ez vx X U W)) : le17G Q sb ab l r o v z ez vx X W 2 listed (le17S U sb ab l r o v z ez vx X p1 c1 rb true true true true true true false) w := by
 subst hl
 have H0 := H
 obtain ⟨a0, a1, a2, a3, C1, E1⟩ := H
 simp only [le17G, le17S, cond_true, cond_false]
 refine wpAnyH_ready (rs := [9]) (by kernel_rfl) (by simp) ?_
 refine AllReadyH.cons (o := le179) rfl (fun K hK => ?_) AllReadyH.nil
 refine wp_storeE 27 _ _ rfl rb 0 ([.int .u64 z.x0, .int .u64 z.x1, .int .u64 z.x2, .int .u64 z.x3]) (by rfl) (by rfl) TH.out i4s (by simp [Value.oneCell']) rfl (fun w2 hw => ?_)
 have SN := hidden (by rw [hw]; exact HH.out.grown (gb_setCells rb [.int .u64 z.x0, .int .u64 z.x1, .int .u64 z.x2, .int .u64 z.x3] 0 _) HH.out.size (fun k hk => by obtain rfl := Option.some.inj hk; exact RB.out) : Below W.heap.size W w2)
 have FR := hidden (by rw [hw]; exact World.rangeAt_setCells_same _ rb 0 _ TH.out : w2.rangeAt rb 0 [.int .u64 z.x0, .int .u64 z.x1, .int .u64 z.x2, .int .u64 z.x3])
 replace HH := SN
 clear SN TH hw
 refine hK.out _ _ HH.out (fun hH => ?_); clear hK K
 refine tk 10 le1710 (.int .i64 ez) rfl (by kernel_rfl) hH rfl (fun w0 hSw => ?_) ?_
 ·(unfold le1710; clear hSw; go_simp)
 unfold le1710
 simp only [Act.put, sA, sB, sC]
 exact le17_7ff H0 p1 c1 rb w2 _ (by kernel_rfl) RB FR HH HQ
theorem le17_ff (H : le17h sb ab l r o v z ez vx X W) (p1 : Option Addr) (c1 : Nat) (w : World) (listed : Array Bool) (hl : listed = #[true, true, true, true, true, true, true, true, false, false, false])  (HH : Hid (Below W.heap.size W w)) (HQ : Hid (le17f Q sb ab l r o v z ez vx X U W)) : le17G Q sb ab l r o v z ez vx X W 3 listed (le17S U sb ab l r o v z ez vx X p1 c1 0 true true true true true false false) w := by
 subst hl
 have H0 := H
 obtain ⟨a0, a1, a2, a3, C1, E1⟩ := H
 simp only [le17G, le17S, cond_true, cond_false]
 refine wpAnyH_ready (rs := [8]) (by kernel_rfl) (by simp) ?_
 refine AllReadyH.cons (o := le178) rfl (fun K hK => ?_) AllReadyH.nil
 refine wp_allocS rfl (fun rb w2 htb hwq => ?_)
 have hbb : Below w.heap.size w w2 := (by rw [hwq]; exact bl_alloc _ _)
 have SN := hidden (by rw [hwq]; exact bl_trans HH.out (bl_alloc _ _) : Below W.heap.size W w2)
 have TH := hidden (by rw [htb, hwq]; exact there_newM _ [.int .u64 0, .int .u64 0, .int .u64 0, .int .u64 0] _ : w2.there rb 0 4)
 have RB := hidden (by rw [htb]; exact HH.out.size : W.heap.size ≤ rb)
 replace HH := SN
 clear SN hbb  htb hwq
 unfold le178
 simp only [Act.put, sA, sB, sC]
 refine hK.out _ _ HH.out (fun hH => ?_); clear hK K
 exact le17_1ff H0 p1 c1 rb w2 _ (by kernel_rfl) TH RB HH HQ
theorem le17_10f (H : le17h sb ab l r o v z ez vx X W) (p1 : Option Addr) (c1 : Nat) (rb : Nat) (w : World) (listed : Array Bool) (hl : listed = #[true, true, true, true, false, false, false, false, true, false, false]) (L1 : Hid (Lt w p1 X.length (ft X))) (TH : Hid (w.there rb 0 4)) (RB : Hid (W.heap.size ≤ rb)) (HH : Hid (Below W.heap.size W w)) (HQ : Hid (le17f Q sb ab l r o v z ez vx X U W)) : le17G Q sb ab l r o v z ez vx X W 6 listed (le17S U sb ab l r o v z ez vx X p1 c1 rb true false false false false true false) w := by
 subst hl
 have H0 := H
 obtain ⟨a0, a1, a2, a3, C1, E1⟩ := H
 simp only [le17G, le17S, cond_true, cond_false]
 refine wpAnyH_ready (rs := [4]) (by kernel_rfl) (by simp) ?_
 refine AllReadyH.cons (o := le174) rfl (fun K hK => ?_) AllReadyH.nil
 unfold le174
 go_simp
 refine (E1.out _ _ _ HH.out L1.out).mono ?_
 rintro e w2 ⟨rfl, hb⟩
 have SN := hidden (bl_trans HH.out hb : Below W.heap.size W w2)
 replace TH := hidden (there_bl TH.out hb)
 replace HH := SN
 clear SN L1 hb
 go_wp2_with fail
 refine hK.out _ _ HH.out (fun hH => ?_); clear hK K
 refine tk 5 le175 (.tuple #[.agg #[.int .u64 z.x0, .int .u64 z.x1, .int .u64 z.x2, .int .u64 z.x3], .int .i64 ez]) rfl (by kernel_rfl) hH rfl (fun w0 hSw => ?_) ?_
 ·(unfold le175; clear hSw; go_simp)
 unfold le175
 simp only [Act.put, sA, sB, sC]
 refine tk 6 le176 (.agg #[.int .u64 z.x0, .int .u64 z.x1, .int .u64 z.x2, .int .u64 z.x3]) rfl (by kernel_rfl) hH rfl (fun w0 hSw => ?_) ?_
 ·(unfold le176; clear hSw; go_simp)
 unfold le176
 simp only [Act.put, sA, sB, sC]
 refine tk 7 le177 (.int .i64 ez) rfl (by kernel_rfl) hH rfl (fun w0 hSw => ?_) ?_
 ·(unfold le177; clear hSw; go_simp)
 unfold le177
 simp only [Act.put, sA, sB, sC]
 exact le17_1ff H0 p1 c1 rb w2 _ (by kernel_rfl) TH RB HH HQ
theorem le17_107 (H : le17h sb ab l r o v z ez vx X W) (rb : Nat) (w : World) (listed : Array Bool) (hl : listed = #[true, true, true, false, false, false, false, false, true, false, false]) (TH : Hid (w.there rb 0 4)) (RB : Hid (W.heap.size ≤ rb)) (HH : Hid (Below W.heap.size W w)) (HQ : Hid (le17f Q sb ab l r o v z ez vx X U W)) : le17G Q sb ab l r o v z ez vx X W 7 listed (le17S U sb ab l r o v z ez vx X none 0 rb false false false false false true false) w := by
 subst hl
 have H0 := H
 obtain ⟨a0, a1, a2, a3, C1, E1⟩ := H
 simp only [le17G, le17S, cond_true, cond_false]
 refine wpAnyH_ready (rs := [3]) (by kernel_rfl) (by simp) ?_
 refine AllReadyH.cons (o := le173) rfl (fun K hK => ?_) AllReadyH.nil
 unfold le173
 go_simp
 refine (C1.out _ HH.out).mono ?_
 rintro e w2 ⟨p1, c1, rfl, hl, hb⟩
 have SN := hidden (bl_trans HH.out hb : Below W.heap.size W w2)
 have L1 := hidden (hl : Lt w2 p1 X.length (ft X))
 replace TH := hidden (there_bl TH.out hb)
 replace HH := SN
 clear SN  hl hb
 go_wp2_with fail
 refine hK.out _ _ HH.out (fun hH => ?_); clear hK K
 exact le17_10f H0 p1 c1 rb w2 _ (by kernel_rfl) L1 TH RB HH HQ
theorem le17_f (H : le17h sb ab l r o v z ez vx X W) (p1 : Option Addr) (c1 : Nat) (w : World) (listed : Array Bool) (hl : listed = #[true, true, true, true, false, false, false, false, false, false, false]) (L1 : Hid (Lt w p1 X.length (ft X))) (HH : Hid (Below W.heap.size W w)) (HQ : Hid (le17f Q sb ab l r o v z ez vx X U W)) : le17G Q sb ab l r o v z ez vx X W 7 listed (le17S U sb ab l r o v z ez vx X p1 c1 0 true false false false false false false) w := by
 subst hl
 have H0 := H
 obtain ⟨a0, a1, a2, a3, C1, E1⟩ := H
 simp only [le17G, le17S, cond_true, cond_false]
 refine wpAnyH_ready (rs := [4, 8]) (by kernel_rfl) (by simp) ?_
 refine AllReadyH.cons (o := le174) rfl (fun K hK => ?_) (AllReadyH.cons (o := le178) rfl (fun K hK => ?_) AllReadyH.nil)
 ·unfold le174
  go_simp
  refine (E1.out _ _ _ HH.out L1.out).mono ?_
  rintro e w2 ⟨rfl, hb⟩
  have SN := hidden (bl_trans HH.out hb : Below W.heap.size W w2)
  replace HH := SN
  clear SN L1 hb
  go_wp2_with fail
  refine hK.out _ _ HH.out (fun hH => ?_); clear hK K
  refine tk 5 le175 (.tuple #[.agg #[.int .u64 z.x0, .int .u64 z.x1, .int .u64 z.x2, .int .u64 z.x3], .int .i64 ez]) rfl (by kernel_rfl) hH rfl (fun w0 hSw => ?_) ?_
  ·(unfold le175; clear hSw; go_simp)
  unfold le175
  simp only [Act.put, sA, sB, sC]
  refine tk 6 le176 (.agg #[.int .u64 z.x0, .int .u64 z.x1, .int .u64 z.x2, .int .u64 z.x3]) rfl (by kernel_rfl) hH rfl (fun w0 hSw => ?_) ?_
  ·(unfold le176; clear hSw; go_simp)
  unfold le176
  simp only [Act.put, sA, sB, sC]
  refine tk 7 le177 (.int .i64 ez) rfl (by kernel_rfl) hH rfl (fun w0 hSw => ?_) ?_
  ·(unfold le177; clear hSw; go_simp)
  unfold le177
  simp only [Act.put, sA, sB, sC]
  exact le17_ff H0 p1 c1 w2 _ (by kernel_rfl)  HH HQ
 ·refine wp_allocS rfl (fun rb w2 htb hwq => ?_)
  have hbb : Below w.heap.size w w2 := (by rw [hwq]; exact bl_alloc _ _)
  have SN := hidden (by rw [hwq]; exact bl_trans HH.out (bl_alloc _ _) : Below W.heap.size W w2)
  have TH := hidden (by rw [htb, hwq]; exact there_newM _ [.int .u64 0, .int .u64 0, .int .u64 0, .int .u64 0] _ : w2.there rb 0 4)
  have RB := hidden (by rw [htb]; exact HH.out.size : W.heap.size ≤ rb)
  replace L1 := hidden (L1.out.keep hbb)
  replace HH := SN
  clear SN hbb  htb hwq
  unfold le178
  simp only [Act.put, sA, sB, sC]
  refine hK.out _ _ HH.out (fun hH => ?_); clear hK K
  exact le17_10f H0 p1 c1 rb w2 _ (by kernel_rfl) L1 TH RB HH HQ
theorem le17_7 (H : le17h sb ab l r o v z ez vx X W)  (w : World) (listed : Array Bool) (hl : listed = #[true, true, true, false, false, false, false, false, false, false, false])  (HH : Hid (Below W.heap.size W w)) (HQ : Hid (le17f Q sb ab l r o v z ez vx X U W)) : le17G Q sb ab l r o v z ez vx X W 8 listed (le17S U sb ab l r o v z ez vx X none 0 0 false false false false false false false) w := by
 subst hl
 have H0 := H
 obtain ⟨a0, a1, a2, a3, C1, E1⟩ := H
 simp only [le17G, le17S, cond_true, cond_false]
 refine wpAnyH_ready (rs := [3, 8]) (by kernel_rfl) (by simp) ?_
 refine AllReadyH.cons (o := le173) rfl (fun K hK => ?_) (AllReadyH.cons (o := le178) rfl (fun K hK => ?_) AllReadyH.nil)
 ·unfold le173
  go_simp
  refine (C1.out _ HH.out).mono ?_
  rintro e w2 ⟨p1, c1, rfl, hl, hb⟩
  have SN := hidden (bl_trans HH.out hb : Below W.heap.size W w2)
  have L1 := hidden (hl : Lt w2 p1 X.length (ft X))
  replace HH := SN
  clear SN  hl hb
  go_wp2_with fail
  refine hK.out _ _ HH.out (fun hH => ?_); clear hK K
  exact le17_f H0 p1 c1 w2 _ (by kernel_rfl) L1 HH HQ
 ·refine wp_allocS rfl (fun rb w2 htb hwq => ?_)
  have hbb : Below w.heap.size w w2 := (by rw [hwq]; exact bl_alloc _ _)
  have SN := hidden (by rw [hwq]; exact bl_trans HH.out (bl_alloc _ _) : Below W.heap.size W w2)
  have TH := hidden (by rw [htb, hwq]; exact there_newM _ [.int .u64 0, .int .u64 0, .int .u64 0, .int .u64 0] _ : w2.there rb 0 4)
  have RB := hidden (by rw [htb]; exact HH.out.size : W.heap.size ≤ rb)
  replace HH := SN
  clear SN hbb  htb hwq
  unfold le178
  simp only [Act.put, sA, sB, sC]
  refine hK.out _ _ HH.out (fun hH => ?_); clear hK K
  exact le17_107 H0 rb w2 _ (by kernel_rfl) TH RB HH HQ
end
theorem le17 (Q : Exit → Act → World → Prop) (sb ab : Nat) (l r o v : Sl) (z : E4) (ez : Int) (vx : Value) (X : List Tm) (u0 u1 u3 u4 u5 u6 u7 u8 u9 u10 u11 u12 u15 u16 u17 u18 u19 u20 u21 u22 u23 u24 u25 u26 u27 u28 u29 u30 u31 u32 u33 u34 u35 u36 u37 u38 u39 u40 u41 u42 u43 u44 u45 u46 u47 u48 u49 u50 u51 u52 u53 u54 u55 u56 u57 u58 u59 u60 u61 u62 u63 u64 u65 u66 u67 u68 u69 u70 u71 u72 u73 u74 u75 u76 u77 u78 u79 u80 u81 u82 u83 u84 u85 u86 u87 u88 u89 u90 u91 u92 u93 u94 u95 u96 u97 u98 u99 u100 u101 u102 u103 u104 u105 u106 u107 u108 u109 u110 u111 u112 u113 u114 u115 u116 u117 u118 u119 u120 u121 u122 u123 u124 u125 u126 u127 u128 u129 u130 u131 u132 u133 u134 u135 u136 u137 u138 u139 u140 u141 u142 u143 u144 u145 u146 u147 u148 u149 u150 u151 u152 u153 u154 u155 u156 u157 u158 u159 u160 u161 u162 u163 u164 u165 u166 u167 u168 u169 u170 u171 u172 u173 u174 u175 u176 u177 u178 u179 u180 u181 u182 u183 u184 u185 u186 u187 u188 u189 u190 u191 u192 u193 u194 u195 u196 u197 u198 u199 u200 u201 u202 u203 u204 u205 u206 u207 u208 u209 u210 u211 u212 u213 u214 u215 u216 u217 u218 u219 u220 u221 u222 u223 u224 u225 u226 u227 u228 u229 u230 u231 u232 u233 u234 u235 u236 u237 u238 u239 u240 u241 u242 u243 u244 u245 u246 u247 u248 u249 u250 u251 u252 u253 u254 u255 u256 u257 u258 u259 u260 u261 u262 u263 u264 u265 u266 : Value) (W : World) (H : le17h sb ab l r o v z ez vx X W)
  (HQ : Hid (∀ (wz : World) (p1 : Option Addr) (c1 : Nat) (rb : Nat), Below W.heap.size W wz → W.heap.size ≤ rb → wz.rangeAt rb 0 [.int .u64 z.x0, .int .u64 z.x1, .int .u64 z.x2, .int .u64 z.x3] → Q .normal ⟨#[u0, u1, vx, u3, u4, u5, u6, u7, u8, u9, u10, u11, u12, .pointer (some ⟨sb, 0, none⟩), .pointer (some ⟨ab, 0, none⟩), u15, u16, u17, u18, u19, u20, u21, u22, u23, u24, u25, .pointer (some ⟨rb, 0, none⟩), .int .i64 ez, u28, u29, u30, u31, u32, u33, u34, u35, u36, u37, u38, u39, u40, u41, u42, u43, u44, u45, u46, u47, u48, u49, u50, u51, u52, u53, u54, u55, u56, u57, u58, u59, u60, u61, u62, u63, u64, u65, u66, u67, u68, u69, u70, u71, u72, u73, u74, u75, u76, u77, u78, u79, u80, u81, u82, u83, u84, u85, u86, u87, u88, u89, u90, u91, u92, u93, u94, u95, u96, u97, u98, u99, u100, u101, u102, u103, u104, u105, u106, u107, u108, u109, u110, u111, u112, u113, u114, u115, u116, u117, u118, u119, u120, u121, u122, u123, u124, u125, u126, u127, u128, u129, u130, u131, u132, u133, u134, u135, u136, u137, u138, u139, u140, u141, u142, u143, u144, u145, u146, u147, u148, u149, u150, u151, u152, u153, u154, u155, .tuple #[.agg #[.int .u64 z.x0, .int .u64 z.x1, .int .u64 z.x2, .int .u64 z.x3], .int .i64 ez], .pointer (some ⟨sb, 0, none⟩), .agg #[.slice l.p l.n l.c, .slice r.p r.n r.c, .slice o.p o.n o.c, .slice v.p v.n v.c], vx, .slice p1 X.length c1, .tuple #[.agg #[.int .u64 z.x0, .int .u64 z.x1, .int .u64 z.x2, .int .u64 z.x3], .int .i64 ez], .agg #[.int .u64 z.x0, .int .u64 z.x1, .int .u64 z.x2, .int .u64 z.x3], .int .i64 ez, u164, u165, u166, u167, u168, u169, u170, u171, u172, u173, u174, u175, u176, u177, u178, u179, u180, u181, u182, u183, u184, u185, u186, u187, u188, u189, u190, u191, u192, u193, u194, u195, u196, u197, u198, u199, u200, u201, u202, u203, u204, u205, u206, u207, u208, u209, u210, u211, u212, u213, u214, u215, u216, u217, u218, u219, u220, u221, u222, u223, u224, u225, u226, u227, u228, u229, u230, u231, u232, u233, u234, u235, u236, u237, u238, u239, u240, u241, u242, u243, u244, u245, u246, u247, u248, u249, u250, u251, u252, u253, u254, u255, u256, u257, u258, u259, u260, u261, u262, u263, u264, u265, u266], []⟩ wz)) : (Code.region 17 le17o true).wp Tryd.prog Q ⟨#[u0, u1, vx, u3, u4, u5, u6, u7, u8, u9, u10, u11, u12, .pointer (some ⟨sb, 0, none⟩), .pointer (some ⟨ab, 0, none⟩), u15, u16, u17, u18, u19, u20, u21, u22, u23, u24, u25, u26, u27, u28, u29, u30, u31, u32, u33, u34, u35, u36, u37, u38, u39, u40, u41, u42, u43, u44, u45, u46, u47, u48, u49, u50, u51, u52, u53, u54, u55, u56, u57, u58, u59, u60, u61, u62, u63, u64, u65, u66, u67, u68, u69, u70, u71, u72, u73, u74, u75, u76, u77, u78, u79, u80, u81, u82, u83, u84, u85, u86, u87, u88, u89, u90, u91, u92, u93, u94, u95, u96, u97, u98, u99, u100, u101, u102, u103, u104, u105, u106, u107, u108, u109, u110, u111, u112, u113, u114, u115, u116, u117, u118, u119, u120, u121, u122, u123, u124, u125, u126, u127, u128, u129, u130, u131, u132, u133, u134, u135, u136, u137, u138, u139, u140, u141, u142, u143, u144, u145, u146, u147, u148, u149, u150, u151, u152, u153, u154, u155, u156, u157, u158, u159, u160, u161, u162, u163, u164, u165, u166, u167, u168, u169, u170, u171, u172, u173, u174, u175, u176, u177, u178, u179, u180, u181, u182, u183, u184, u185, u186, u187, u188, u189, u190, u191, u192, u193, u194, u195, u196, u197, u198, u199, u200, u201, u202, u203, u204, u205, u206, u207, u208, u209, u210, u211, u212, u213, u214, u215, u216, u217, u218, u219, u220, u221, u222, u223, u224, u225, u226, u227, u228, u229, u230, u231, u232, u233, u234, u235, u236, u237, u238, u239, u240, u241, u242, u243, u244, u245, u246, u247, u248, u249, u250, u251, u252, u253, u254, u255, u256, u257, u258, u259, u260, u261, u262, u263, u264, u265, u266], []⟩ W := by
 have H0 := H
 obtain ⟨a0, a1, a2, a3, C1, E1⟩ := H
 replace HQ : Hid (le17f Q sb ab l r o v z ez vx X (nth [u0, u1, undef, u3, u4, u5, u6, u7, u8, u9, u10, u11, u12, undef, undef, u15, u16, u17, u18, u19, u20, u21, u22, u23, u24, u25, u26, u27, u28, u29, u30, u31, u32, u33, u34, u35, u36, u37, u38, u39, u40, u41, u42, u43, u44, u45, u46, u47, u48, u49, u50, u51, u52, u53, u54, u55, u56, u57, u58, u59, u60, u61, u62, u63, u64, u65, u66, u67, u68, u69, u70, u71, u72, u73, u74, u75, u76, u77, u78, u79, u80, u81, u82, u83, u84, u85, u86, u87, u88, u89, u90, u91, u92, u93, u94, u95, u96, u97, u98, u99, u100, u101, u102, u103, u104, u105, u106, u107, u108, u109, u110, u111, u112, u113, u114, u115, u116, u117, u118, u119, u120, u121, u122, u123, u124, u125, u126, u127, u128, u129, u130, u131, u132, u133, u134, u135, u136, u137, u138, u139, u140, u141, u142, u143, u144, u145, u146, u147, u148, u149, u150, u151, u152, u153, u154, u155, u156, u157, u158, u159, u160, u161, u162, u163, u164, u165, u166, u167, u168, u169, u170, u171, u172, u173, u174, u175, u176, u177, u178, u179, u180, u181, u182, u183, u184, u185, u186, u187, u188, u189, u190, u191, u192, u193, u194, u195, u196, u197, u198, u199, u200, u201, u202, u203, u204, u205, u206, u207, u208, u209, u210, u211, u212, u213, u214, u215, u216, u217, u218, u219, u220, u221, u222, u223, u224, u225, u226, u227, u228, u229, u230, u231, u232, u233, u234, u235, u236, u237, u238, u239, u240, u241, u242, u243, u244, u245, u246, u247, u248, u249, u250, u251, u252, u253, u254, u255, u256, u257, u258, u259, u260, u261, u262, u263, u264, u265, u266]) W) := HQ
 refine wp_region_noPanic ?_
 refine wp_region_held_drew (S := fun x => Below W.heap.size W x) (by kernel_rfl) (bl_drew W) (fun hH => ?_)
 have HH := hidden hH
 refine tk 0 le170 (.pointer (some ⟨sb, 0, none⟩)) rfl (by kernel_rfl) hH rfl (fun w0 hSw => ?_) ?_
 ·(unfold le170; clear hSw; go_simp)
 unfold le170
 simp only [Act.put, sA, sB, sC]
 refine tk 1 le171 (.agg #[.slice l.p l.n l.c, .slice r.p r.n r.c, .slice o.p o.n o.c, .slice v.p v.n v.c]) rfl (by kernel_rfl) hH rfl (fun w0 hSw => ?_) ?_
 ·(unfold le171; have hS : Below W.heap.size W w0 := hSw; have a0 := cell_keep a0 hS; have a1 := cell_keep a1 hS; have a2 := cell_keep a2 hS; have a3 := cell_keep a3 hS; clear hS hSw; go_simp)
 unfold le171
 simp only [Act.put, sA, sB, sC]
 refine tk 2 le172 (vx) rfl (by kernel_rfl) hH rfl (fun w0 hSw => ?_) ?_
 ·(unfold le172; clear hSw; go_simp)
 unfold le172
 simp only [Act.put, sA, sB, sC]
 exact le17_7 H0  W.drew _ (by kernel_rfl)  HH HQ
def le180 : Oper := { dst := some 165, op := Op.move (Operand.tmp 13), type := 30, pos := "outright.go:210", after := #[], guard := none }
def le181 : Oper := { dst := some 166, op := Op.load 33 (Operand.tmp 14), type := 33, pos := "outright.go:210", after := #[], guard := none }
def le182 : Oper := { dst := some 167, op := Op.load 27 (Operand.tmp 10), type := 27, pos := "outright.go:210", after := #[], guard := none }
def le183 : Oper := { dst := some 168, op := Op.call { callee := Callee.value (Operand.func 13), args := #[Operand.tmp 167], argTypes := #[27] }, type := 24, pos := "outright.go:210", after := #[{ on := 2, ground := Ground.data }], guard := none }
def le184 : Oper := { dst := some 169, op := Op.call { callee := Callee.value (Operand.func 12), args := #[Operand.tmp 165, Operand.tmp 166, Operand.tmp 168], argTypes := #[30, 33, 24] }, type := 40, pos := "outright.go:210", after := #[{ on := 0, ground := Ground.data }, { on := 1, ground := Ground.data }, { on := 3, ground := Ground.data }, { on := 3, ground := Ground.chain }], guard := none }
def le185 : Oper := { dst := some 164, op := Op.move (Operand.tmp 169), type := 40, pos := "outright.go:210", after := #[{ on := 4, ground := Ground.data }], guard := none }
def le186 : Oper := { dst := some 170, op := Op.extract (Operand.tmp 164) 0, type := 27, pos := "outright.go:210", after := #[{ on := 5, ground := Ground.data }], guard := none }
def le187 : Oper := { dst := some 171, op := Op.extract (Operand.tmp 164) 1, type := 39, pos := "outright.go:210", after := #[{ on := 5, ground := Ground.data }, { on := 9, ground := Ground.gcOnly Departure.lateStores }], guard := none }
def le188 : Oper := { dst := some 28, op := Op.alloc 27, type := 0, pos := "outright.go:210", after := #[], guard := none }
def le189 : Oper := { dst := none, op := Op.store 27 (Operand.tmp 28) (Operand.tmp 170), type := 0, pos := "outright.go:210", after := #[{ on := 8, ground := Ground.data }, { on := 6, ground := Ground.data }, { on := 4, ground := Ground.chain }, { on := 0, ground := Ground.phase }, { on := 1, ground := Ground.phase }, { on := 2, ground := Ground.phase }, { on := 3, ground := Ground.phase }, { on := 4, ground := Ground.phase }, { on := 5, ground := Ground.phase }, { on := 6, ground := Ground.phase }, { on := 7, ground := Ground.textOnly Departure.lateStores }, { on := 8, ground := Ground.phase }], guard := none }
def le1810 : Oper := { dst := some 29, op := Op.assign (Operand.tmp 171), type := 39, pos := "outright.go:210", after := #[{ on := 7, ground := Ground.data }, { on := 9, ground := Ground.chain }, { on := 0, ground := Ground.phase }, { on := 1, ground := Ground.phase }, { on := 2, ground := Ground.phase }, { on := 3, ground := Ground.phase }, { on := 4, ground := Ground.phase }, { on := 5, ground := Ground.phase }, { on := 6, ground := Ground.phase }, { on := 7, ground := Ground.phase }, { on := 8, ground := Ground.phase }, { on := 9, ground := Ground.phase }], guard := none }
def le18o : Array Oper := #[le180, le181, le182, le183, le184, le185, le186, le187, le188, le189, le1810]
structure le18h (sb ab : Nat) (l r o v : Sl) (z : E4) (ez : Int) (kb : Nat) (k : E4) (X : List Tm) (W : World) : Prop where
 a0 : W.cell? ⟨ab, 0, none⟩ = some (.slice l.p l.n l.c)
 a1 : W.cell? ⟨ab, 1, none⟩ = some (.slice r.p r.n r.c)
 a2 : W.cell? ⟨ab, 2, none⟩ = some (.slice o.p o.n o.c)
 a3 : W.cell? ⟨ab, 3, none⟩ = some (.slice v.p v.n v.c)
 k0 : W.cell? ⟨kb, 0, none⟩ = some (.int .u64 k.x0)
 k1 : W.cell? ⟨kb, 1, none⟩ = some (.int .u64 k.x1)
 k2 : W.cell? ⟨kb, 2, none⟩ = some (.int .u64 k.x2)
 k3 : W.cell? ⟨kb, 3, none⟩ = some (.int .u64 k.x3)
 C1 : Hid (∀ y, Below W.heap.size W y → Calls Tryd.prog 13 #[.agg #[.int .u64 k.x0, .int .u64 k.x1, .int .u64 k.x2, .int .u64 k.x3]] y fun e w' => Lw y X e w')
 E1 : Hid (∀ (P : Option Addr) (c : Nat) (y : World), Below W.heap.size W y → Lt y P X.length (ft X) → Calls Tryd.prog 12 #[.pointer (some ⟨sb, 0, none⟩), .agg #[.slice l.p l.n l.c, .slice r.p r.n r.c, .slice o.p o.n o.c, .slice v.p v.n v.c], .slice P X.length c] y fun e w' => e = .returned (.tuple #[.agg #[.int .u64 z.x0, .int .u64 z.x1, .int .u64 z.x2, .int .u64 z.x3], .int .i64 ez]) ∧ Below y.heap.size y w')
def le18S (U : Nat → Value) (sb ab : Nat) (l r o v : Sl) (z : E4) (ez : Int) (kb : Nat) (k : E4) (X : List Tm) (p1 : Option Addr) (c1 : Nat) (rb : Nat) (f3 f4 f5 f6 f7 f8 f10 : Bool) : Array Value := #[U 0, U 1, U 2, U 3, U 4, U 5, U 6, U 7, U 8, U 9, .pointer (some ⟨kb, 0, none⟩), U 11, U 12, .pointer (some ⟨sb, 0, none⟩), .pointer (some ⟨ab, 0, none⟩), U 15, U 16, U 17, U 18, U 19, U 20, U 21, U 22, U 23, U 24, U 25, U 26, U 27, bif f8 then .pointer (some ⟨rb, 0, none⟩) else U 28, bif f10 then .int .i64 ez else U 29, U 30, U 31, U 32, U 33, U 34, U 35, U 36, U 37, U 38, U 39, U 40, U 41, U 42, U 43, U 44, U 45, U 46, U 47, U 48, U 49, U 50, U 51, U 52, U 53, U 54, U 55, U 56, U 57, U 58, U 59, U 60, U 61, U 62, U 63, U 64, U 65, U 66, U 67, U 68, U 69, U 70, U 71, U 72, U 73, U 74, U 75, U 76, U 77, U 78, U 79, U 80, U 81, U 82, U 83, U 84, U 85, U 86, U 87, U 88, U 89, U 90, U 91, U 92, U 93, U 94, U 95, U 96, U 97, U 98, U 99, U 100, U 101, U 102, U 103, U 104, U 105, U 106, U 107, U 108, U 109, U 110, U 111, U 112, U 113, U 114, U 115, U 116, U 117, U 118, U 119, U 120, U 121, U 122, U 123, U 124, U 125, U 126, U 127, U 128, U 129, U 130, U 131, U 132, U 133, U 134, U 135, U 136, U 137, U 138, U 139, U 140, U 141, U 142, U 143, U 144, U 145, U 146, U 147, U 148, U 149, U 150, U 151, U 152, U 153, U 154, U 155, U 156, U 157, U 158, U 159, U 160, U 161, U 162, U 163, bif f5 then .tuple #[.agg #[.int .u64 z.x0, .int .u64 z.x1, .int .u64 z.x2, .int .u64 z.x3], .int .i64 ez] else U 164, .pointer (some ⟨sb, 0, none⟩), .agg #[.slice l.p l.n l.c, .slice r.p r.n r.c, .slice o.p o.n o.c, .slice v.p v.n v.c], .agg #[.int .u64 k.x0, .int .u64 k.x1, .int .u64 k.x2, .int .u64 k.x3], bif f3 then .slice p1 X.length c1 else U 168, bif f4 then .tuple #[.agg #[.int .u64 z.x0, .int .u64 z.x1, .int .u64 z.x2, .int .u64 z.x3], .int .i64 ez] else U 169, bif f6 then .agg #[.int .u64 z.x0, .int .u64 z.x1, .int .u64 z.x2, .int .u64 z.x3] else U 170, bif f7 then .int .i64 ez else U 171, U 172, U 173, U 174, U 175, U 176, U 177, U 178, U 179, U 180, U 181, U 182, U 183, U 184, U 185, U 186, U 187, U 188, U 189, U 190, U 191, U 192, U 193, U 194, U 195, U 196, U 197, U 198, U 199, U 200, U 201, U 202, U 203, U 204, U 205, U 206, U 207, U 208, U 209, U 210, U 211, U 212, U 213, U 214, U 215, U 216, U 217, U 218, U 219, U 220, U 221, U 222, U 223, U 224, U 225, U 226, U 227, U 228, U 229, U 230, U 231, U 232, U 233, U 234, U 235, U 236, U 237, U 238, U 239, U 240, U 241, U 242, U 243, U 244, U 245, U 246, U 247, U 248, U 249, U 250, U 251, U 252, U 253, U 254, U 255, U 256, U 257, U 258, U 259, U 260, U 261, U 262, U 263, U 264, U 265, U 266]
def le18G (Q : Exit → Act → World → Prop) (sb ab : Nat) (l r o v : Sl) (z : E4) (ez : Int) (kb : Nat) (k : E4) (X : List Tm) (W : World) (fuel : Nat) (listed : Array Bool) (a : Array Value) (w : World) : Prop := wpAnyH Tryd.prog Region.Mode.any le18o (NoPanic Q) (fun x => Below W.heap.size W x) fuel listed ⟨a, []⟩ w
def le18f (Q : Exit → Act → World → Prop) (sb ab : Nat) (l r o v : Sl) (z : E4) (ez : Int) (kb : Nat) (k : E4) (X : List Tm) (U : Nat → Value) (W : World) : Prop := ∀ (wz : World) (p1 : Option Addr) (c1 : Nat) (rb : Nat), Below W.heap.size W wz → W.heap.size ≤ rb → wz.rangeAt rb 0 [.int .u64 z.x0, .int .u64 z.x1, .int .u64 z.x2, .int .u64 z.x3] → Q .normal ⟨le18S U sb ab l r o v z ez kb k X p1 c1 rb true true true true true true true, []⟩ wz
section
variable {Q : Exit → Act → World → Prop} {sb ab : Nat} {l r o v : Sl} {z : E4} {ez : Int} {kb : Nat} {k : E4} {X : List Tm} {U : Nat → Value} {W : World}
theorem le18_7ff (H : le18h sb ab l r o v z ez kb k X W) (p1 : Option Addr) (c1 : Nat) (rb : Nat) (w : World) (listed : Array Bool) (hl : listed = #[true, true, true, true, true, true, true, true, true, true, true]) (RB : Hid (W.heap.size ≤ rb)) (FR : Hid (w.rangeAt rb 0 [.int .u64 z.x0, .int .u64 z.x1, .int .u64 z.x2, .int .u64 z.x3])) (HH : Hid (Below W.heap.size W w)) (HQ : Hid (le18f Q sb ab l r o v z ez kb k X U W)) : le18G Q sb ab l r o v z ez kb k X W 0 listed (le18S U sb ab l r o v z ez kb k X p1 c1 rb true true true true true true true) w := by
 subst hl
 have H0 := H
 obtain ⟨a0, a1, a2, a3, k0, k1, k2, k3, C1, E1⟩ := H
 simp only [le18G, le18S, cond_true, cond_false]
 refine wpAnyH_done (by kernel_rfl) ?_ _
 refine NoPanic.normal ?_
 exact HQ.out _ p1 c1 rb HH.out RB.out FR.out
theorem le18_1ff (H : le18h sb ab l r o v z ez kb k X W) (p1 : Option Addr) (c1 : Nat) (rb : Nat) (w : World) (listed : Array Bool) (hl : listed = #[true, true, true, true, true, true, true, true, true, false, false]) (TH : Hid (w.there rb 0 4)) (RB : Hid (W.heap.size ≤ rb)) (HH : Hid (Below W.heap.size W w)) (HQ : Hid (le18f Q sb ab l r o v z ez kb k X U W)) : le18G Q sb ab l r o v z ez kb k X W 2 listed (le18S U sb ab l r o v z ez kb k X p1 c1 rb true true true true true true false) w := by
 subst hl
 have H0 := H
 obtain ⟨a0, a1, a2, a3, k0, k1, k2, k3, C1, E1⟩ := H
 simp only [le18G, le18S, cond_true, cond_false]
 refine wpAnyH_ready (rs := [9]) (by kernel_rfl) (by simp) ?_
 refine AllReadyH.cons (o := le189) rfl (fun K hK => ?_) AllReadyH.nil
 refine wp_storeE 27 _ _ rfl rb 0 ([.int .u64 z.x0, .int .u64 z.x1, .int .u64 z.x2, .int .u64 z.x3]) (by rfl) (by rfl) TH.out i4s (by simp [Value.oneCell']) rfl (fun w2 hw => ?_)
 have SN := hidden (by rw [hw]; exact HH.out.grown (gb_setCells rb [.int .u64 z.x0, .int .u64 z.x1, .int .u64 z.x2, .int .u64 z.x3] 0 _) HH.out.size (fun k hk => by obtain rfl := Option.some.inj hk; exact RB.out) : Below W.heap.size W w2)
 have FR := hidden (by rw [hw]; exact World.rangeAt_setCells_same _ rb 0 _ TH.out : w2.rangeAt rb 0 [.int .u64 z.x0, .int .u64 z.x1, .int .u64 z.x2, .int .u64 z.x3])
 replace HH := SN
 clear SN TH hw
 refine hK.out _ _ HH.out (fun hH => ?_); clear hK K
 refine tk 10 le1810 (.int .i64 ez) rfl (by kernel_rfl) hH rfl (fun w0 hSw => ?_) ?_
 ·(unfold le1810; clear hSw; go_simp)
 unfold le1810
 simp only [Act.put, sA, sB, sC]
 exact le18_7ff H0 p1 c1 rb w2 _ (by kernel_rfl) RB FR HH HQ
theorem le18_ff (H : le18h sb ab l r o v z ez kb k X W) (p1 : Option Addr) (c1 : Nat) (w : World) (listed : Array Bool) (hl : listed = #[true, true, true, true, true, true, true, true, false, false, false])  (HH : Hid (Below W.heap.size W w)) (HQ : Hid (le18f Q sb ab l r o v z ez kb k X U W)) : le18G Q sb ab l r o v z ez kb k X W 3 listed (le18S U sb ab l r o v z ez kb k X p1 c1 0 true true true true true false false) w := by
 subst hl
 have H0 := H
 obtain ⟨a0, a1, a2, a3, k0, k1, k2, k3, C1, E1⟩ := H
 simp only [le18G, le18S, cond_true, cond_false]
 refine wpAnyH_ready (rs := [8]) (by kernel_rfl) (by simp) ?_
 refine AllReadyH.cons (o := le188) rfl (fun K hK => ?_) AllReadyH.nil
 refine wp_allocS rfl (fun rb w2 htb hwq => ?_)
 have hbb : Below w.heap.size w w2 := (by rw [hwq]; exact bl_alloc _ _)
 have SN := hidden (by rw [hwq]; exact bl_trans HH.out (bl_alloc _ _) : Below W.heap.size W w2)
 have TH := hidden (by rw [htb, hwq]; exact there_newM _ [.int .u64 0, .int .u64 0, .int .u64 0, .int .u64 0] _ : w2.there rb 0 4)
 have RB := hidden (by rw [htb]; exact HH.out.size : W.heap.size ≤ rb)
 replace HH := SN
 clear SN hbb  htb hwq
 unfold le188
 simp only [Act.put, sA, sB, sC]
 refine hK.out _ _ HH.out (fun hH => ?_); clear hK K
 exact le18_1ff H0 p1 c1 rb w2 _ (by kernel_rfl) TH RB HH HQ
theorem le18_10f (H : le18h sb ab l r o v z ez kb k X W) (p1 : Option Addr) (c1 : Nat) (rb : Nat) (w : World) (listed : Array Bool) (hl : listed = #[true, true, true, true, false, false, false, false, true, false, false]) (L1 : Hid (Lt w p1 X.length (ft X))) (TH : Hid (w.there rb 0 4)) (RB : Hid (W.heap.size ≤ rb)) (HH : Hid (Below W.heap.size W w)) (HQ : Hid (le18f Q sb ab l r o v z ez kb k X U W)) : le18G Q sb ab l r o v z ez kb k X W 6 listed (le18S U sb ab l r o v z ez kb k X p1 c1 rb true false false false false true false) w := by
 subst hl
 have H0 := H
 obtain ⟨a0, a1, a2, a3, k0, k1, k2, k3, C1, E1⟩ := H
 simp only [le18G, le18S, cond_true, cond_false]
 refine wpAnyH_ready (rs := [4]) (by kernel_rfl) (by simp) ?_
 refine AllReadyH.cons (o := le184) rfl (fun K hK => ?_) AllReadyH.nil
 unfold le184
 go_simp
 refine (E1.out _ _ _ HH.out L1.out).mono ?_
 rintro e w2 ⟨rfl, hb⟩
 have SN := hidden (bl_trans HH.out hb : Below W.heap.size W w2)
 replace TH := hidden (there_bl TH.out hb)
 replace HH := SN
 clear SN L1 hb
 go_wp2_with fail
 refine hK.out _ _ HH.out (fun hH => ?_); clear hK K
 refine tk 5 le185 (.tuple #[.agg #[.int .u64 z.x0, .int .u64 z.x1, .int .u64 z.x2, .int .u64 z.x3], .int .i64 ez]) rfl (by kernel_rfl) hH rfl (fun w0 hSw => ?_) ?_
 ·(unfold le185; clear hSw; go_simp)
 unfold le185
 simp only [Act.put, sA, sB, sC]
 refine tk 6 le186 (.agg #[.int .u64 z.x0, .int .u64 z.x1, .int .u64 z.x2, .int .u64 z.x3]) rfl (by kernel_rfl) hH rfl (fun w0 hSw => ?_) ?_
 ·(unfold le186; clear hSw; go_simp)
 unfold le186
 simp only [Act.put, sA, sB, sC]
 refine tk 7 le187 (.int .i64 ez) rfl (by kernel_rfl) hH rfl (fun w0 hSw => ?_) ?_
 ·(unfold le187; clear hSw; go_simp)
 unfold le187
 simp only [Act.put, sA, sB, sC]
 exact le18_1ff H0 p1 c1 rb w2 _ (by kernel_rfl) TH RB HH HQ
theorem le18_107 (H : le18h sb ab l r o v z ez kb k X W) (rb : Nat) (w : World) (listed : Array Bool) (hl : listed = #[true, true, true, false, false, false, false, false, true, false, false]) (TH : Hid (w.there rb 0 4)) (RB : Hid (W.heap.size ≤ rb)) (HH : Hid (Below W.heap.size W w)) (HQ : Hid (le18f Q sb ab l r o v z ez kb k X U W)) : le18G Q sb ab l r o v z ez kb k X W 7 listed (le18S U sb ab l r o v z ez kb k X none 0 rb false false false false false true false) w := by
 subst hl
 have H0 := H
 obtain ⟨a0, a1, a2, a3, k0, k1, k2, k3, C1, E1⟩ := H
 simp only [le18G, le18S, cond_true, cond_false]
 refine wpAnyH_ready (rs := [3]) (by kernel_rfl) (by simp) ?_
 refine AllReadyH.cons (o := le183) rfl (fun K hK => ?_) AllReadyH.nil
 unfold le183
 go_simp
 refine (C1.out _ HH.out).mono ?_
 rintro e w2 ⟨p1, c1, rfl, hl, hb⟩
 have SN := hidden (bl_trans HH.out hb : Below W.heap.size W w2)
 have L1 := hidden (hl : Lt w2 p1 X.length (ft X))
 replace TH := hidden (there_bl TH.out hb)
 replace HH := SN
 clear SN  hl hb
 go_wp2_with fail
 refine hK.out _ _ HH.out (fun hH => ?_); clear hK K
 exact le18_10f H0 p1 c1 rb w2 _ (by kernel_rfl) L1 TH RB HH HQ
theorem le18_f (H : le18h sb ab l r o v z ez kb k X W) (p1 : Option Addr) (c1 : Nat) (w : World) (listed : Array Bool) (hl : listed = #[true, true, true, true, false, false, false, false, false, false, false]) (L1 : Hid (Lt w p1 X.length (ft X))) (HH : Hid (Below W.heap.size W w)) (HQ : Hid (le18f Q sb ab l r o v z ez kb k X U W)) : le18G Q sb ab l r o v z ez kb k X W 7 listed (le18S U sb ab l r o v z ez kb k X p1 c1 0 true false false false false false false) w := by
 subst hl
 have H0 := H
 obtain ⟨a0, a1, a2, a3, k0, k1, k2, k3, C1, E1⟩ := H
 simp only [le18G, le18S, cond_true, cond_false]
 refine wpAnyH_ready (rs := [4, 8]) (by kernel_rfl) (by simp) ?_
 refine AllReadyH.cons (o := le184) rfl (fun K hK => ?_) (AllReadyH.cons (o := le188) rfl (fun K hK => ?_) AllReadyH.nil)
 ·unfold le184
  go_simp
  refine (E1.out _ _ _ HH.out L1.out).mono ?_
  rintro e w2 ⟨rfl, hb⟩
  have SN := hidden (bl_trans HH.out hb : Below W.heap.size W w2)
  replace HH := SN
  clear SN L1 hb
  go_wp2_with fail
  refine hK.out _ _ HH.out (fun hH => ?_); clear hK K
  refine tk 5 le185 (.tuple #[.agg #[.int .u64 z.x0, .int .u64 z.x1, .int .u64 z.x2, .int .u64 z.x3], .int .i64 ez]) rfl (by kernel_rfl) hH rfl (fun w0 hSw => ?_) ?_
  ·(unfold le185; clear hSw; go_simp)
  unfold le185
  simp only [Act.put, sA, sB, sC]
  refine tk 6 le186 (.agg #[.int .u64 z.x0, .int .u64 z.x1, .int .u64 z.x2, .int .u64 z.x3]) rfl (by kernel_rfl) hH rfl (fun w0 hSw => ?_) ?_
  ·(unfold le186; clear hSw; go_simp)
  unfold le186
  simp only [Act.put, sA, sB, sC]
  refine tk 7 le187 (.int .i64 ez) rfl (by kernel_rfl) hH rfl (fun w0 hSw => ?_) ?_
  ·(unfold le187; clear hSw; go_simp)
  unfold le187
  simp only [Act.put, sA, sB, sC]
  exact le18_ff H0 p1 c1 w2 _ (by kernel_rfl)  HH HQ
 ·refine wp_allocS rfl (fun rb w2 htb hwq => ?_)
  have hbb : Below w.heap.size w w2 := (by rw [hwq]; exact bl_alloc _ _)
  have SN := hidden (by rw [hwq]; exact bl_trans HH.out (bl_alloc _ _) : Below W.heap.size W w2)
  have TH := hidden (by rw [htb, hwq]; exact there_newM _ [.int .u64 0, .int .u64 0, .int .u64 0, .int .u64 0] _ : w2.there rb 0 4)
  have RB := hidden (by rw [htb]; exact HH.out.size : W.heap.size ≤ rb)
  replace L1 := hidden (L1.out.keep hbb)
  replace HH := SN
  clear SN hbb  htb hwq
  unfold le188
  simp only [Act.put, sA, sB, sC]
  refine hK.out _ _ HH.out (fun hH => ?_); clear hK K
  exact le18_10f H0 p1 c1 rb w2 _ (by kernel_rfl) L1 TH RB HH HQ
theorem le18_7 (H : le18h sb ab l r o v z ez kb k X W)  (w : World) (listed : Array Bool) (hl : listed = #[true, true, true, false, false, false, false, false, false, false, false])  (HH : Hid (Below W.heap.size W w)) (HQ : Hid (le18f Q sb ab l r o v z ez kb k X U W)) : le18G Q sb ab l r o v z ez kb k X W 8 listed (le18S U sb ab l r o v z ez kb k X none 0 0 false false false false false false false) w := by
 subst hl
 have H0 := H
 obtain ⟨a0, a1, a2, a3, k0, k1, k2, k3, C1, E1⟩ := H
 simp only [le18G, le18S, cond_true, cond_false]
 refine wpAnyH_ready (rs := [3, 8]) (by kernel_rfl) (by simp) ?_
 refine AllReadyH.cons (o := le183) rfl (fun K hK => ?_) (AllReadyH.cons (o := le188) rfl (fun K hK => ?_) AllReadyH.nil)
 ·unfold le183
  go_simp
  refine (C1.out _ HH.out).mono ?_
  rintro e w2 ⟨p1, c1, rfl, hl, hb⟩
  have SN := hidden (bl_trans HH.out hb : Below W.heap.size W w2)
  have L1 := hidden (hl : Lt w2 p1 X.length (ft X))
  replace HH := SN
  clear SN  hl hb
  go_wp2_with fail
  refine hK.out _ _ HH.out (fun hH => ?_); clear hK K
  exact le18_f H0 p1 c1 w2 _ (by kernel_rfl) L1 HH HQ
 ·refine wp_allocS rfl (fun rb w2 htb hwq => ?_)
  have hbb : Below w.heap.size w w2 := (by rw [hwq]; exact bl_alloc _ _)
  have SN := hidden (by rw [hwq]; exact bl_trans HH.out (bl_alloc _ _) : Below W.heap.size W w2)
  have TH := hidden (by rw [htb, hwq]; exact there_newM _ [.int .u64 0, .int .u64 0, .int .u64 0, .int .u64 0] _ : w2.there rb 0 4)
  have RB := hidden (by rw [htb]; exact HH.out.size : W.heap.size ≤ rb)
  replace HH := SN
  clear SN hbb  htb hwq
  unfold le188
  simp only [Act.put, sA, sB, sC]
  refine hK.out _ _ HH.out (fun hH => ?_); clear hK K
  exact le18_107 H0 rb w2 _ (by kernel_rfl) TH RB HH HQ
end
theorem le18 (Q : Exit → Act → World → Prop) (sb ab : Nat) (l r o v : Sl) (z : E4) (ez : Int) (kb : Nat) (k : E4) (X : List Tm) (u0 u1 u2 u3 u4 u5 u6 u7 u8 u9 u11 u12 u15 u16 u17 u18 u19 u20 u21 u22 u23 u24 u25 u26 u27 u28 u29 u30 u31 u32 u33 u34 u35 u36 u37 u38 u39 u40 u41 u42 u43 u44 u45 u46 u47 u48 u49 u50 u51 u52 u53 u54 u55 u56 u57 u58 u59 u60 u61 u62 u63 u64 u65 u66 u67 u68 u69 u70 u71 u72 u73 u74 u75 u76 u77 u78 u79 u80 u81 u82 u83 u84 u85 u86 u87 u88 u89 u90 u91 u92 u93 u94 u95 u96 u97 u98 u99 u100 u101 u102 u103 u104 u105 u106 u107 u108 u109 u110 u111 u112 u113 u114 u115 u116 u117 u118 u119 u120 u121 u122 u123 u124 u125 u126 u127 u128 u129 u130 u131 u132 u133 u134 u135 u136 u137 u138 u139 u140 u141 u142 u143 u144 u145 u146 u147 u148 u149 u150 u151 u152 u153 u154 u155 u156 u157 u158 u159 u160 u161 u162 u163 u164 u165 u166 u167 u168 u169 u170 u171 u172 u173 u174 u175 u176 u177 u178 u179 u180 u181 u182 u183 u184 u185 u186 u187 u188 u189 u190 u191 u192 u193 u194 u195 u196 u197 u198 u199 u200 u201 u202 u203 u204 u205 u206 u207 u208 u209 u210 u211 u212 u213 u214 u215 u216 u217 u218 u219 u220 u221 u222 u223 u224 u225 u226 u227 u228 u229 u230 u231 u232 u233 u234 u235 u236 u237 u238 u239 u240 u241 u242 u243 u244 u245 u246 u247 u248 u249 u250 u251 u252 u253 u254 u255 u256 u257 u258 u259 u260 u261 u262 u263 u264 u265 u266 : Value) (W : World) (H : le18h sb ab l r o v z ez kb k X W)
  (HQ : Hid (∀ (wz : World) (p1 : Option Addr) (c1 : Nat) (rb : Nat), Below W.heap.size W wz → W.heap.size ≤ rb → wz.rangeAt rb 0 [.int .u64 z.x0, .int .u64 z.x1, .int .u64 z.x2, .int .u64 z.x3] → Q .normal ⟨#[u0, u1, u2, u3, u4, u5, u6, u7, u8, u9, .pointer (some ⟨kb, 0, none⟩), u11, u12, .pointer (some ⟨sb, 0, none⟩), .pointer (some ⟨ab, 0, none⟩), u15, u16, u17, u18, u19, u20, u21, u22, u23, u24, u25, u26, u27, .pointer (some ⟨rb, 0, none⟩), .int .i64 ez, u30, u31, u32, u33, u34, u35, u36, u37, u38, u39, u40, u41, u42, u43, u44, u45, u46, u47, u48, u49, u50, u51, u52, u53, u54, u55, u56, u57, u58, u59, u60, u61, u62, u63, u64, u65, u66, u67, u68, u69, u70, u71, u72, u73, u74, u75, u76, u77, u78, u79, u80, u81, u82, u83, u84, u85, u86, u87, u88, u89, u90, u91, u92, u93, u94, u95, u96, u97, u98, u99, u100, u101, u102, u103, u104, u105, u106, u107, u108, u109, u110, u111, u112, u113, u114, u115, u116, u117, u118, u119, u120, u121, u122, u123, u124, u125, u126, u127, u128, u129, u130, u131, u132, u133, u134, u135, u136, u137, u138, u139, u140, u141, u142, u143, u144, u145, u146, u147, u148, u149, u150, u151, u152, u153, u154, u155, u156, u157, u158, u159, u160, u161, u162, u163, .tuple #[.agg #[.int .u64 z.x0, .int .u64 z.x1, .int .u64 z.x2, .int .u64 z.x3], .int .i64 ez], .pointer (some ⟨sb, 0, none⟩), .agg #[.slice l.p l.n l.c, .slice r.p r.n r.c, .slice o.p o.n o.c, .slice v.p v.n v.c], .agg #[.int .u64 k.x0, .int .u64 k.x1, .int .u64 k.x2, .int .u64 k.x3], .slice p1 X.length c1, .tuple #[.agg #[.int .u64 z.x0, .int .u64 z.x1, .int .u64 z.x2, .int .u64 z.x3], .int .i64 ez], .agg #[.int .u64 z.x0, .int .u64 z.x1, .int .u64 z.x2, .int .u64 z.x3], .int .i64 ez, u172, u173, u174, u175, u176, u177, u178, u179, u180, u181, u182, u183, u184, u185, u186, u187, u188, u189, u190, u191, u192, u193, u194, u195, u196, u197, u198, u199, u200, u201, u202, u203, u204, u205, u206, u207, u208, u209, u210, u211, u212, u213, u214, u215, u216, u217, u218, u219, u220, u221, u222, u223, u224, u225, u226, u227, u228, u229, u230, u231, u232, u233, u234, u235, u236, u237, u238, u239, u240, u241, u242, u243, u244, u245, u246, u247, u248, u249, u250, u251, u252, u253, u254, u255, u256, u257, u258, u259, u260, u261, u262, u263, u264, u265, u266], []⟩ wz)) : (Code.region 18 le18o true).wp Tryd.prog Q ⟨#[u0, u1, u2, u3, u4, u5, u6, u7, u8, u9, .pointer (some ⟨kb, 0, none⟩), u11, u12, .pointer (some ⟨sb, 0, none⟩), .pointer (some ⟨ab, 0, none⟩), u15, u16, u17, u18, u19, u20, u21, u22, u23, u24, u25, u26, u27, u28, u29, u30, u31, u32, u33, u34, u35, u36, u37, u38, u39, u40, u41, u42, u43, u44, u45, u46, u47, u48, u49, u50, u51, u52, u53, u54, u55, u56, u57, u58, u59, u60, u61, u62, u63, u64, u65, u66, u67, u68, u69, u70, u71, u72, u73, u74, u75, u76, u77, u78, u79, u80, u81, u82, u83, u84, u85, u86, u87, u88, u89, u90, u91, u92, u93, u94, u95, u96, u97, u98, u99, u100, u101, u102, u103, u104, u105, u106, u107, u108, u109, u110, u111, u112, u113, u114, u115, u116, u117, u118, u119, u120, u121, u122, u123, u124, u125, u126, u127, u128, u129, u130, u131, u132, u133, u134, u135, u136, u137, u138, u139, u140, u141, u142, u143, u144, u145, u146, u147, u148, u149, u150, u151, u152, u153, u154, u155, u156, u157, u158, u159, u160, u161, u162, u163, u164, u165, u166, u167, u168, u169, u170, u171, u172, u173, u174, u175, u176, u177, u178, u179, u180, u181, u182, u183, u184, u185, u186, u187, u188, u189, u190, u191, u192, u193, u194, u195, u196, u197, u198, u199, u200, u201, u202, u203, u204, u205, u206, u207, u208, u209, u210, u211, u212, u213, u214, u215, u216, u217, u218, u219, u220, u221, u222, u223, u224, u225, u226, u227, u228, u229, u230, u231, u232, u233, u234, u235, u236, u237, u238, u239, u240, u241, u242, u243, u244, u245, u246, u247, u248, u249, u250, u251, u252, u253, u254, u255, u256, u257, u258, u259, u260, u261, u262, u263, u264, u265, u266], []⟩ W := by
 have H0 := H
 obtain ⟨a0, a1, a2, a3, k0, k1, k2, k3, C1, E1⟩ := H
 replace HQ : Hid (le18f Q sb ab l r o v z ez kb k X (nth [u0, u1, u2, u3, u4, u5, u6, u7, u8, u9, undef, u11, u12, undef, undef, u15, u16, u17, u18, u19, u20, u21, u22, u23, u24, u25, u26, u27, u28, u29, u30, u31, u32, u33, u34, u35, u36, u37, u38, u39, u40, u41, u42, u43, u44, u45, u46, u47, u48, u49, u50, u51, u52, u53, u54, u55, u56, u57, u58, u59, u60, u61, u62, u63, u64, u65, u66, u67, u68, u69, u70, u71, u72, u73, u74, u75, u76, u77, u78, u79, u80, u81, u82, u83, u84, u85, u86, u87, u88, u89, u90, u91, u92, u93, u94, u95, u96, u97, u98, u99, u100, u101, u102, u103, u104, u105, u106, u107, u108, u109, u110, u111, u112, u113, u114, u115, u116, u117, u118, u119, u120, u121, u122, u123, u124, u125, u126, u127, u128, u129, u130, u131, u132, u133, u134, u135, u136, u137, u138, u139, u140, u141, u142, u143, u144, u145, u146, u147, u148, u149, u150, u151, u152, u153, u154, u155, u156, u157, u158, u159, u160, u161, u162, u163, u164, u165, u166, u167, u168, u169, u170, u171, u172, u173, u174, u175, u176, u177, u178, u179, u180, u181, u182, u183, u184, u185, u186, u187, u188, u189, u190, u191, u192, u193, u194, u195, u196, u197, u198, u199, u200, u201, u202, u203, u204, u205, u206, u207, u208, u209, u210, u211, u212, u213, u214, u215, u216, u217, u218, u219, u220, u221, u222, u223, u224, u225, u226, u227, u228, u229, u230, u231, u232, u233, u234, u235, u236, u237, u238, u239, u240, u241, u242, u243, u244, u245, u246, u247, u248, u249, u250, u251, u252, u253, u254, u255, u256, u257, u258, u259, u260, u261, u262, u263, u264, u265, u266]) W) := HQ
 refine wp_region_noPanic ?_
 refine wp_region_held_drew (S := fun x => Below W.heap.size W x) (by kernel_rfl) (bl_drew W) (fun hH => ?_)
 have HH := hidden hH
 refine tk 0 le180 (.pointer (some ⟨sb, 0, none⟩)) rfl (by kernel_rfl) hH rfl (fun w0 hSw => ?_) ?_
 ·(unfold le180; clear hSw; go_simp)
 unfold le180
 simp only [Act.put, sA, sB, sC]
 refine tk 1 le181 (.agg #[.slice l.p l.n l.c, .slice r.p r.n r.c, .slice o.p o.n o.c, .slice v.p v.n v.c]) rfl (by kernel_rfl) hH rfl (fun w0 hSw => ?_) ?_
 ·(unfold le181; have hS : Below W.heap.size W w0 := hSw; have a0 := cell_keep a0 hS; have a1 := cell_keep a1 hS; have a2 := cell_keep a2 hS; have a3 := cell_keep a3 hS; clear hS hSw; go_simp)
 unfold le181
 simp only [Act.put, sA, sB, sC]
 refine tk 2 le182 (.agg #[.int .u64 k.x0, .int .u64 k.x1, .int .u64 k.x2, .int .u64 k.x3]) rfl (by kernel_rfl) hH rfl (fun w0 hSw => ?_) ?_
 ·(unfold le182; have hS : Below W.heap.size W w0 := hSw; have a0 := cell_keep k0 hS; have a1 := cell_keep k1 hS; have a2 := cell_keep k2 hS; have a3 := cell_keep k3 hS; clear hS hSw; go_simp)
 unfold le182
 simp only [Act.put, sA, sB, sC]
 exact le18_7 H0  W.drew _ (by kernel_rfl)  HH HQ
def le240 : Oper := { dst := some 213, op := Op.move (Operand.tmp 13), type := 30, pos := "outright.go:215", after := #[], guard := none }
def le241 : Oper := { dst := some 214, op := Op.load 33 (Operand.tmp 14), type := 33, pos := "outright.go:215", after := #[], guard := none }
def le242 : Oper := { dst := some 215, op := Op.move (Operand.tmp 30), type := 3, pos := "outright.go:215", after := #[], guard := none }
def le243 : Oper := { dst := some 216, op := Op.build 47 #[(0, Operand.const (Value.int IntKind.i64 2)), (1, Operand.tmp 215)], type := 47, pos := "outright.go:215", after := #[{ on := 2, ground := Ground.data }], guard := none }
def le244 : Oper := { dst := some 217, op := Op.call { callee := Callee.value (Operand.func 19), args := #[Operand.tmp 216], argTypes := #[47] }, type := 24, pos := "outright.go:215", after := #[{ on := 3, ground := Ground.data }], guard := none }
def le245 : Oper := { dst := some 218, op := Op.call { callee := Callee.value (Operand.func 12), args := #[Operand.tmp 213, Operand.tmp 214, Operand.tmp 217], argTypes := #[30, 33, 24] }, type := 40, pos := "outright.go:215", after := #[{ on := 0, ground := Ground.data }, { on := 1, ground := Ground.data }, { on := 4, ground := Ground.data }, { on := 4, ground := Ground.chain }], guard := none }
def le246 : Oper := { dst := some 212, op := Op.move (Operand.tmp 218), type := 40, pos := "outright.go:215", after := #[{ on := 5, ground := Ground.data }], guard := none }
def le247 : Oper := { dst := some 219, op := Op.extract (Operand.tmp 212) 0, type := 27, pos := "outright.go:215", after := #[{ on := 6, ground := Ground.data }], guard := none }
def le248 : Oper := { dst := some 220, op := Op.extract (Operand.tmp 212) 1, type := 39, pos := "outright.go:215", after := #[{ on := 6, ground := Ground.data }, { on := 10, ground := Ground.gcOnly Departure.lateStores }], guard := none }
def le249 : Oper := { dst := some 31, op := Op.alloc 27, type := 0, pos := "outright.go:215", after := #[], guard := none }
def le2410 : Oper := { dst := none, op := Op.store 27 (Operand.tmp 31) (Operand.tmp 219), type := 0, pos := "outright.go:215", after := #[{ on := 9, ground := Ground.data }, { on := 7, ground := Ground.data }, { on := 5, ground := Ground.chain }, { on := 0, ground := Ground.phase }, { on := 1, ground := Ground.phase }, { on := 2, ground := Ground.phase }, { on := 3, ground := Ground.phase }, { on := 4, ground := Ground.phase }, { on := 5, ground := Ground.phase }, { on := 6, ground := Ground.phase }, { on := 7, ground := Ground.phase }, { on := 8, ground := Ground.textOnly Departure.lateStores }, { on := 9, ground := Ground.phase }], guard := none }
def le2411 : Oper := { dst := some 32, op := Op.assign (Operand.tmp 220), type := 39, pos := "outright.go:215", after := #[{ on := 8, ground := Ground.data }, { on := 10, ground := Ground.chain }, { on := 0, ground := Ground.phase }, { on := 1, ground := Ground.phase }, { on := 2, ground := Ground.phase }, { on := 3, ground := Ground.phase }, { on := 4, ground := Ground.phase }, { on := 5, ground := Ground.phase }, { on := 6, ground := Ground.phase }, { on := 7, ground := Ground.phase }, { on := 8, ground := Ground.phase }, { on := 9, ground := Ground.phase }, { on := 10, ground := Ground.phase }], guard := none }
def le24o : Array Oper := #[le240, le241, le242, le243, le244, le245, le246, le247, le248, le249, le2410, le2411]
structure le24h (sb ab : Nat) (l r o v : Sl) (z : E4) (ez : Int) (j : Int) (X : List Tm) (W : World) : Prop where
 a0 : W.cell? ⟨ab, 0, none⟩ = some (.slice l.p l.n l.c)
 a1 : W.cell? ⟨ab, 1, none⟩ = some (.slice r.p r.n r.c)
 a2 : W.cell? ⟨ab, 2, none⟩ = some (.slice o.p o.n o.c)
 a3 : W.cell? ⟨ab, 3, none⟩ = some (.slice v.p v.n v.c)
 C1 : Hid (∀ y, Below W.heap.size W y → Calls Tryd.prog 19 #[.agg #[.int .i64 2, .int .i64 j]] y fun e w' => Lw y X e w')
 E1 : Hid (∀ (P : Option Addr) (c : Nat) (y : World), Below W.heap.size W y → Lt y P X.length (ft X) → Calls Tryd.prog 12 #[.pointer (some ⟨sb, 0, none⟩), .agg #[.slice l.p l.n l.c, .slice r.p r.n r.c, .slice o.p o.n o.c, .slice v.p v.n v.c], .slice P X.length c] y fun e w' => e = .returned (.tuple #[.agg #[.int .u64 z.x0, .int .u64 z.x1, .int .u64 z.x2, .int .u64 z.x3], .int .i64 ez]) ∧ Below y.heap.size y w')
def le24S (U : Nat → Value) (sb ab : Nat) (l r o v : Sl) (z : E4) (ez : Int) (j : Int) (X : List Tm) (p1 : Option Addr) (c1 : Nat) (rb : Nat) (f4 f5 f6 f7 f8 f9 f11 : Bool) : Array Value := #[U 0, U 1, U 2, U 3, U 4, U 5, U 6, U 7, U 8, U 9, U 10, U 11, U 12, .pointer (some ⟨sb, 0, none⟩), .pointer (some ⟨ab, 0, none⟩), U 15, U 16, U 17, U 18, U 19, U 20, U 21, U 22, U 23, U 24, U 25, U 26, U 27, U 28, U 29, .int .i64 j, bif f9 then .pointer (some ⟨rb, 0, none⟩) else U 31, bif f11 then .int .i64 ez else U 32, U 33, U 34, U 35, U 36, U 37, U 38, U 39, U 40, U 41, U 42, U 43, U 44, U 45, U 46, U 47, U 48, U 49, U 50, U 51, U 52, U 53, U 54, U 55, U 56, U 57, U 58, U 59, U 60, U 61, U 62, U 63, U 64, U 65, U 66, U 67, U 68, U 69, U 70, U 71, U 72, U 73, U 74, U 75, U 76, U 77, U 78, U 79, U 80, U 81, U 82, U 83, U 84, U 85, U 86, U 87, U 88, U 89, U 90, U 91, U 92, U 93, U 94, U 95, U 96, U 97, U 98, U 99, U 100, U 101, U 102, U 103, U 104, U 105, U 106, U 107, U 108, U 109, U 110, U 111, U 112, U 113, U 114, U 115, U 116, U 117, U 118, U 119, U 120, U 121, U 122, U 123, U 124, U 125, U 126, U 127, U 128, U 129, U 130, U 131, U 132, U 133, U 134, U 135, U 136, U 137, U 138, U 139, U 140, U 141, U 142, U 143, U 144, U 145, U 146, U 147, U 148, U 149, U 150, U 151, U 152, U 153, U 154, U 155, U 156, U 157, U 158, U 159, U 160, U 161, U 162, U 163, U 164, U 165, U 166, U 167, U 168, U 169, U 170, U 171, U 172, U 173, U 174, U 175, U 176, U 177, U 178, U 179, U 180, U 181, U 182, U 183, U 184, U 185, U 186, U 187, U 188, U 189, U 190, U 191, U 192, U 193, U 194, U 195, U 196, U 197, U 198, U 199, U 200, U 201, U 202, U 203, U 204, U 205, U 206, U 207, U 208, U 209, U 210, U 211, bif f6 then .tuple #[.agg #[.int .u64 z.x0, .int .u64 z.x1, .int .u64 z.x2, .int .u64 z.x3], .int .i64 ez] else U 212, .pointer (some ⟨sb, 0, none⟩), .agg #[.slice l.p l.n l.c, .slice r.p r.n r.c, .slice o.p o.n o.c, .slice v.p v.n v.c], .int .i64 j, .agg #[.int .i64 2, .int .i64 j], bif f4 then .slice p1 X.length c1 else U 217, bif f5 then .tuple #[.agg #[.int .u64 z.x0, .int .u64 z.x1, .int .u64 z.x2, .int .u64 z.x3], .int .i64 ez] else U 218, bif f7 then .agg #[.int .u64 z.x0, .int .u64 z.x1, .int .u64 z.x2, .int .u64 z.x3] else U 219, bif f8 then .int .i64 ez else U 220, U 221, U 222, U 223, U 224, U 225, U 226, U 227, U 228, U 229, U 230, U 231, U 232, U 233, U 234, U 235, U 236, U 237, U 238, U 239, U 240, U 241, U 242, U 243, U 244, U 245, U 246, U 247, U 248, U 249, U 250, U 251, U 252, U 253, U 254, U 255, U 256, U 257, U 258, U 259, U 260, U 261, U 262, U 263, U 264, U 265, U 266]
def le24G (Q : Exit → Act → World → Prop) (sb ab : Nat) (l r o v : Sl) (z : E4) (ez : Int) (j : Int) (X : List Tm) (W : World) (fuel : Nat) (listed : Array Bool) (a : Array Value) (w : World) : Prop := wpAnyH Tryd.prog Region.Mode.any le24o (NoPanic Q) (fun x => Below W.heap.size W x) fuel listed ⟨a, []⟩ w
def le24f (Q : Exit → Act → World → Prop) (sb ab : Nat) (l r o v : Sl) (z : E4) (ez : Int) (j : Int) (X : List Tm) (U : Nat → Value) (W : World) : Prop := ∀ (wz : World) (p1 : Option Addr) (c1 : Nat) (rb : Nat), Below W.heap.size W wz → W.heap.size ≤ rb → wz.rangeAt rb 0 [.int .u64 z.x0, .int .u64 z.x1, .int .u64 z.x2, .int .u64 z.x3] → Q .normal ⟨le24S U sb ab l r o v z ez j X p1 c1 rb true true true true true true true, []⟩ wz
section
variable {Q : Exit → Act → World → Prop} {sb ab : Nat} {l r o v : Sl} {z : E4} {ez : Int} {j : Int} {X : List Tm} {U : Nat → Value} {W : World}
theorem le24_fff (H : le24h sb ab l r o v z ez j X W) (p1 : Option Addr) (c1 : Nat) (rb : Nat) (w : World) (listed : Array Bool) (hl : listed = #[true, true, true, true, true, true, true, true, true, true, true, true]) (RB : Hid (W.heap.size ≤ rb)) (FR : Hid (w.rangeAt rb 0 [.int .u64 z.x0, .int .u64 z.x1, .int .u64 z.x2, .int .u64 z.x3])) (HH : Hid (Below W.heap.size W w)) (HQ : Hid (le24f Q sb ab l r o v z ez j X U W)) : le24G Q sb ab l r o v z ez j X W 0 listed (le24S U sb ab l r o v z ez j X p1 c1 rb true true true true true true true) w := by
 subst hl
 have H0 := H
 obtain ⟨a0, a1, a2, a3, C1, E1⟩ := H
 simp only [le24G, le24S, cond_true, cond_false]
 refine wpAnyH_done (by kernel_rfl) ?_ _
 refine NoPanic.normal ?_
 exact HQ.out _ p1 c1 rb HH.out RB.out FR.out
theorem le24_3ff (H : le24h sb ab l r o v z ez j X W) (p1 : Option Addr) (c1 : Nat) (rb : Nat) (w : World) (listed : Array Bool) (hl : listed = #[true, true, true, true, true, true, true, true, true, true, false, false]) (TH : Hid (w.there rb 0 4)) (RB : Hid (W.heap.size ≤ rb)) (HH : Hid (Below W.heap.size W w)) (HQ : Hid (le24f Q sb ab l r o v z ez j X U W)) : le24G Q sb ab l r o v z ez j X W 2 listed (le24S U sb ab l r o v z ez j X p1 c1 rb true true true true true true false) w := by
 subst hl
 have H0 := H
 obtain ⟨a0, a1, a2, a3, C1, E1⟩ := H
 simp only [le24G, le24S, cond_true, cond_false]
 refine wpAnyH_ready (rs := [10]) (by kernel_rfl) (by simp) ?_
 refine AllReadyH.cons (o := le2410) rfl (fun K hK => ?_) AllReadyH.nil
 refine wp_storeE 27 _ _ rfl rb 0 ([.int .u64 z.x0, .int .u64 z.x1, .int .u64 z.x2, .int .u64 z.x3]) (by rfl) (by rfl) TH.out i4s (by simp [Value.oneCell']) rfl (fun w2 hw => ?_)
 have SN := hidden (by rw [hw]; exact HH.out.grown (gb_setCells rb [.int .u64 z.x0, .int .u64 z.x1, .int .u64 z.x2, .int .u64 z.x3] 0 _) HH.out.size (fun k hk => by obtain rfl := Option.some.inj hk; exact RB.out) : Below W.heap.size W w2)
 have FR := hidden (by rw [hw]; exact World.rangeAt_setCells_same _ rb 0 _ TH.out : w2.rangeAt rb 0 [.int .u64 z.x0, .int .u64 z.x1, .int .u64 z.x2, .int .u64 z.x3])
 replace HH := SN
 clear SN TH hw
 refine hK.out _ _ HH.out (fun hH => ?_); clear hK K
 refine tk 11 le2411 (.int .i64 ez) rfl (by kernel_rfl) hH rfl (fun w0 hSw => ?_) ?_
 ·(unfold le2411; clear hSw; go_simp)
 unfold le2411
 simp only [Act.put, sA, sB, sC]
 exact le24_fff H0 p1 c1 rb w2 _ (by kernel_rfl) RB FR HH HQ
theorem le24_1ff (H : le24h sb ab l r o v z ez j X W) (p1 : Option Addr) (c1 : Nat) (w : World) (listed : Array Bool) (hl : listed = #[true, true, true, true, true, true, true, true, true, false, false, false])  (HH : Hid (Below W.heap.size W w)) (HQ : Hid (le24f Q sb ab l r o v z ez j X U W)) : le24G Q sb ab l r o v z ez j X W 3 listed (le24S U sb ab l r o v z ez j X p1 c1 0 true true true true true false false) w := by
 subst hl
 have H0 := H
 obtain ⟨a0, a1, a2, a3, C1, E1⟩ := H
 simp only [le24G, le24S, cond_true, cond_false]
 refine wpAnyH_ready (rs := [9]) (by kernel_rfl) (by simp) ?_
 refine AllReadyH.cons (o := le249) rfl (fun K hK => ?_) AllReadyH.nil
 refine wp_allocS rfl (fun rb w2 htb hwq => ?_)
 have hbb : Below w.heap.size w w2 := (by rw [hwq]; exact bl_alloc _ _)
 have SN := hidden (by rw [hwq]; exact bl_trans HH.out (bl_alloc _ _) : Below W.heap.size W w2)
 have TH := hidden (by rw [htb, hwq]; exact there_newM _ [.int .u64 0, .int .u64 0, .int .u64 0, .int .u64 0] _ : w2.there rb 0 4)
 have RB := hidden (by rw [htb]; exact HH.out.size : W.heap.size ≤ rb)
 replace HH := SN
 clear SN hbb  htb hwq
 unfold le249
 simp only [Act.put, sA, sB, sC]
 refine hK.out _ _ HH.out (fun hH => ?_); clear hK K
 exact le24_3ff H0 p1 c1 rb w2 _ (by kernel_rfl) TH RB HH HQ
theorem le24_21f (H : le24h sb ab l r o v z ez j X W) (p1 : Option Addr) (c1 : Nat) (rb : Nat) (w : World) (listed : Array Bool) (hl : listed = #[true, true, true, true, true, false, false, false, false, true, false, false]) (L1 : Hid (Lt w p1 X.length (ft X))) (TH : Hid (w.there rb 0 4)) (RB : Hid (W.heap.size ≤ rb)) (HH : Hid (Below W.heap.size W w)) (HQ : Hid (le24f Q sb ab l r o v z ez j X U W)) : le24G Q sb ab l r o v z ez j X W 6 listed (le24S U sb ab l r o v z ez j X p1 c1 rb true false false false false true false) w := by
 subst hl
 have H0 := H
 obtain ⟨a0, a1, a2, a3, C1, E1⟩ := H
 simp only [le24G, le24S, cond_true, cond_false]
 refine wpAnyH_ready (rs := [5]) (by kernel_rfl) (by simp) ?_
 refine AllReadyH.cons (o := le245) rfl (fun K hK => ?_) AllReadyH.nil
 unfold le245
 go_simp
 refine (E1.out _ _ _ HH.out L1.out).mono ?_
 rintro e w2 ⟨rfl, hb⟩
 have SN := hidden (bl_trans HH.out hb : Below W.heap.size W w2)
 replace TH := hidden (there_bl TH.out hb)
 replace HH := SN
 clear SN L1 hb
 go_wp2_with fail
 refine hK.out _ _ HH.out (fun hH => ?_); clear hK K
 refine tk 6 le246 (.tuple #[.agg #[.int .u64 z.x0, .int .u64 z.x1, .int .u64 z.x2, .int .u64 z.x3], .int .i64 ez]) rfl (by kernel_rfl) hH rfl (fun w0 hSw => ?_) ?_
 ·(unfold le246; clear hSw; go_simp)
 unfold le246
 simp only [Act.put, sA, sB, sC]
 refine tk 7 le247 (.agg #[.int .u64 z.x0, .int .u64 z.x1, .int .u64 z.x2, .int .u64 z.x3]) rfl (by kernel_rfl) hH rfl (fun w0 hSw => ?_) ?_
 ·(unfold le247; clear hSw; go_simp)
 unfold le247
 simp only [Act.put, sA, sB, sC]
 refine tk 8 le248 (.int .i64 ez) rfl (by kernel_rfl) hH rfl (fun w0 hSw => ?_) ?_
 ·(unfold le248; clear hSw; go_simp)
 unfold le248
 simp only [Act.put, sA, sB, sC]
 exact le24_3ff H0 p1 c1 rb w2 _ (by kernel_rfl) TH RB HH HQ
theorem le24_20f (H : le24h sb ab l r o v z ez j X W) (rb : Nat) (w : World) (listed : Array Bool) (hl : listed = #[true, true, true, true, false, false, false, false, false, true, false, false]) (TH : Hid (w.there rb 0 4)) (RB : Hid (W.heap.size ≤ rb)) (HH : Hid (Below W.heap.size W w)) (HQ : Hid (le24f Q sb ab l r o v z ez j X U W)) : le24G Q sb ab l r o v z ez j X W 7 listed (le24S U sb ab l r o v z ez j X none 0 rb false false false false false true false) w := by
 subst hl
 have H0 := H
 obtain ⟨a0, a1, a2, a3, C1, E1⟩ := H
 simp only [le24G, le24S, cond_true, cond_false]
 refine wpAnyH_ready (rs := [4]) (by kernel_rfl) (by simp) ?_
 refine AllReadyH.cons (o := le244) rfl (fun K hK => ?_) AllReadyH.nil
 unfold le244
 go_simp
 refine (C1.out _ HH.out).mono ?_
 rintro e w2 ⟨p1, c1, rfl, hl, hb⟩
 have SN := hidden (bl_trans HH.out hb : Below W.heap.size W w2)
 have L1 := hidden (hl : Lt w2 p1 X.length (ft X))
 replace TH := hidden (there_bl TH.out hb)
 replace HH := SN
 clear SN  hl hb
 go_wp2_with fail
 refine hK.out _ _ HH.out (fun hH => ?_); clear hK K
 exact le24_21f H0 p1 c1 rb w2 _ (by kernel_rfl) L1 TH RB HH HQ
theorem le24_1f (H : le24h sb ab l r o v z ez j X W) (p1 : Option Addr) (c1 : Nat) (w : World) (listed : Array Bool) (hl : listed = #[true, true, true, true, true, false, false, false, false, false, false, false]) (L1 : Hid (Lt w p1 X.length (ft X))) (HH : Hid (Below W.heap.size W w)) (HQ : Hid (le24f Q sb ab l r o v z ez j X U W)) : le24G Q sb ab l r o v z ez j X W 7 listed (le24S U sb ab l r o v z ez j X p1 c1 0 true false false false false false false) w := by
 subst hl
 have H0 := H
 obtain ⟨a0, a1, a2, a3, C1, E1⟩ := H
 simp only [le24G, le24S, cond_true, cond_false]
 refine wpAnyH_ready (rs := [5, 9]) (by kernel_rfl) (by simp) ?_
 refine AllReadyH.cons (o := le245) rfl (fun K hK => ?_) (AllReadyH.cons (o := le249) rfl (fun K hK => ?_) AllReadyH.nil)
 ·unfold le245
  go_simp
  refine (E1.out _ _ _ HH.out L1.out).mono ?_
  rintro e w2 ⟨rfl, hb⟩
  have SN := hidden (bl_trans HH.out hb : Below W.heap.size W w2)
  replace HH := SN
  clear SN L1 hb
  go_wp2_with fail
  refine hK.out _ _ HH.out (fun hH => ?_); clear hK K
  refine tk 6 le246 (.tuple #[.agg #[.int .u64 z.x0, .int .u64 z.x1, .int .u64 z.x2, .int .u64 z.x3], .int .i64 ez]) rfl (by kernel_rfl) hH rfl (fun w0 hSw => ?_) ?_
  ·(unfold le246; clear hSw; go_simp)
  unfold le246
  simp only [Act.put, sA, sB, sC]
  refine tk 7 le247 (.agg #[.int .u64 z.x0, .int .u64 z.x1, .int .u64 z.x2, .int .u64 z.x3]) rfl (by kernel_rfl) hH rfl (fun w0 hSw => ?_) ?_
  ·(unfold le247; clear hSw; go_simp)
  unfold le247
  simp only [Act.put, sA, sB, sC]
  refine tk 8 le248 (.int .i64 ez) rfl (by kernel_rfl) hH rfl (fun w0 hSw => ?_) ?_
  ·(unfold le248; clear hSw; go_simp)
  unfold le248
  simp only [Act.put, sA, sB, sC]
  exact le24_1ff H0 p1 c1 w2 _ (by kernel_rfl)  HH HQ
 ·refine wp_allocS rfl (fun rb w2 htb hwq => ?_)
  have hbb : Below w.heap.size w w2 := (by rw [hwq]; exact bl_alloc _ _)
  have SN := hidden (by rw [hwq]; exact bl_trans HH.out (bl_alloc _ _) : Below W.heap.size W w2)
  have TH := hidden (by rw [htb, hwq]; exact there_newM _ [.int .u64 0, .int .u64 0, .int .u64 0, .int .u64 0] _ : w2.there rb 0 4)
  have RB := hidden (by rw [htb]; exact HH.out.size : W.heap.size ≤ rb)
  replace L1 := hidden (L1.out.keep hbb)
  replace HH := SN
  clear SN hbb  htb hwq
  unfold le249
  simp only [Act.put, sA, sB, sC]
  refine hK.out _ _ HH.out (fun hH => ?_); clear hK K
  exact le24_21f H0 p1 c1 rb w2 _ (by kernel_rfl) L1 TH RB HH HQ
theorem le24_f (H : le24h sb ab l r o v z ez j X W)  (w : World) (listed : Array Bool) (hl : listed = #[true, true, true, true, false, false, false, false, false, false, false, false])  (HH : Hid (Below W.heap.size W w)) (HQ : Hid (le24f Q sb ab l r o v z ez j X U W)) : le24G Q sb ab l r o v z ez j X W 8 listed (le24S U sb ab l r o v z ez j X none 0 0 false false false false false false false) w := by
 subst hl
 have H0 := H
 obtain ⟨a0, a1, a2, a3, C1, E1⟩ := H
 simp only [le24G, le24S, cond_true, cond_false]
 refine wpAnyH_ready (rs := [4, 9]) (by kernel_rfl) (by simp) ?_
 refine AllReadyH.cons (o := le244) rfl (fun K hK => ?_) (AllReadyH.cons (o := le249) rfl (fun K hK => ?_) AllReadyH.nil)
 ·unfold le244
  go_simp
  refine (C1.out _ HH.out).mono ?_
  rintro e w2 ⟨p1, c1, rfl, hl, hb⟩
  have SN := hidden (bl_trans HH.out hb : Below W.heap.size W w2)
  have L1 := hidden (hl : Lt w2 p1 X.length (ft X))
  replace HH := SN
  clear SN  hl hb
  go_wp2_with fail
  refine hK.out _ _ HH.out (fun hH => ?_); clear hK K
  exact le24_1f H0 p1 c1 w2 _ (by kernel_rfl) L1 HH HQ
 ·refine wp_allocS rfl (fun rb w2 htb hwq => ?_)
  have hbb : Below w.heap.size w w2 := (by rw [hwq]; exact bl_alloc _ _)
  have SN := hidden (by rw [hwq]; exact bl_trans HH.out (bl_alloc _ _) : Below W.heap.size W w2)
  have TH := hidden (by rw [htb, hwq]; exact there_newM _ [.int .u64 0, .int .u64 0, .int .u64 0, .int .u64 0] _ : w2.there rb 0 4)
  have RB := hidden (by rw [htb]; exact HH.out.size : W.heap.size ≤ rb)
  replace HH := SN
  clear SN hbb  htb hwq
  unfold le249
  simp only [Act.put, sA, sB, sC]
  refine hK.out _ _ HH.out (fun hH => ?_); clear hK K
  exact le24_20f H0 rb w2 _ (by kernel_rfl) TH RB HH HQ
end
theorem le24 (Q : Exit → Act → World → Prop) (sb ab : Nat) (l r o v : Sl) (z : E4) (ez : Int) (j : Int) (X : List Tm) (u0 u1 u2 u3 u4 u5 u6 u7 u8 u9 u10 u11 u12 u15 u16 u17 u18 u19 u20 u21 u22 u23 u24 u25 u26 u27 u28 u29 u31 u32 u33 u34 u35 u36 u37 u38 u39 u40 u41 u42 u43 u44 u45 u46 u47 u48 u49 u50 u51 u52 u53 u54 u55 u56 u57 u58 u59 u60 u61 u62 u63 u64 u65 u66 u67 u68 u69 u70 u71 u72 u73 u74 u75 u76 u77 u78 u79 u80 u81 u82 u83 u84 u85 u86 u87 u88 u89 u90 u91 u92 u93 u94 u95 u96 u97 u98 u99 u100 u101 u102 u103 u104 u105 u106 u107 u108 u109 u110 u111 u112 u113 u114 u115 u116 u117 u118 u119 u120 u121 u122 u123 u124 u125 u126 u127 u128 u129 u130 u131 u132 u133 u134 u135 u136 u137 u138 u139 u140 u141 u142 u143 u144 u145 u146 u147 u148 u149 u150 u151 u152 u153 u154 u155 u156 u157 u158 u159 u160 u161 u162 u163 u164 u165 u166 u167 u168 u169 u170 u171 u172 u173 u174 u175 u176 u177 u178 u179 u180 u181 u182 u183 u184 u185 u186 u187 u188 u189 u190 u191 u192 u193 u194 u195 u196 u197 u198 u199 u200 u201 u202 u203 u204 u205 u206 u207 u208 u209 u210 u211 u212 u213 u214 u215 u216 u217 u218 u219 u220 u221 u222 u223 u224 u225 u226 u227 u228 u229 u230 u231 u232 u233 u234 u235 u236 u237 u238 u239 u240 u241 u242 u243 u244 u245 u246 u247 u248 u249 u250 u251 u252 u253 u254 u255 u256 u257 u258 u259 u260 u261 u262 u263 u264 u265 u266 : Value) (W : World) (H : le24h sb ab l r o v z ez j X W)
  (HQ : Hid (∀ (wz : World) (p1 : Option Addr) (c1 : Nat) (rb : Nat), Below W.heap.size W wz → W.heap.size ≤ rb → wz.rangeAt rb 0 [.int .u64 z.x0, .int .u64 z.x1, .int .u64 z.x2, .int .u64 z.x3] → Q .normal ⟨#[u0, u1, u2, u3, u4, u5, u6, u7, u8, u9, u10, u11, u12, .pointer (some ⟨sb, 0, none⟩), .pointer (some ⟨ab, 0, none⟩), u15, u16, u17, u18, u19, u20, u21, u22, u23, u24, u25, u26, u27, u28, u29, .int .i64 j, .pointer (some ⟨rb, 0, none⟩), .int .i64 ez, u33, u34, u35, u36, u37, u38, u39, u40, u41, u42, u43, u44, u45, u46, u47, u48, u49, u50, u51, u52, u53, u54, u55, u56, u57, u58, u59, u60, u61, u62, u63, u64, u65, u66, u67, u68, u69, u70, u71, u72, u73, u74, u75, u76, u77, u78, u79, u80, u81, u82, u83, u84, u85, u86, u87, u88, u89, u90, u91, u92, u93, u94, u95, u96, u97, u98, u99, u100, u101, u102, u103, u104, u105, u106, u107, u108, u109, u110, u111, u112, u113, u114, u115, u116, u117, u118, u119, u120, u121, u122, u123, u124, u125, u126, u127, u128, u129, u130, u131, u132, u133, u134, u135, u136, u137, u138, u139, u140, u141, u142, u143, u144, u145, u146, u147, u148, u149, u150, u151, u152, u153, u154, u155, u156, u157, u158, u159, u160, u161, u162, u163, u164, u165, u166, u167, u168, u169, u170, u171, u172, u173, u174, u175, u176, u177, u178, u179, u180, u181, u182, u183, u184, u185, u186, u187, u188, u189, u190, u191, u192, u193, u194, u195, u196, u197, u198, u199, u200, u201, u202, u203, u204, u205, u206, u207, u208, u209, u210, u211, .tuple #[.agg #[.int .u64 z.x0, .int .u64 z.x1, .int .u64 z.x2, .int .u64 z.x3], .int .i64 ez], .pointer (some ⟨sb, 0, none⟩), .agg #[.slice l.p l.n l.c, .slice r.p r.n r.c, .slice o.p o.n o.c, .slice v.p v.n v.c], .int .i64 j, .agg #[.int .i64 2, .int .i64 j], .slice p1 X.length c1, .tuple #[.agg #[.int .u64 z.x0, .int .u64 z.x1, .int .u64 z.x2, .int .u64 z.x3], .int .i64 ez], .agg #[.int .u64 z.x0, .int .u64 z.x1, .int .u64 z.x2, .int .u64 z.x3], .int .i64 ez, u221, u222, u223, u224, u225, u226, u227, u228, u229, u230, u231, u232, u233, u234, u235, u236, u237, u238, u239, u240, u241, u242, u243, u244, u245, u246, u247, u248, u249, u250, u251, u252, u253, u254, u255, u256, u257, u258, u259, u260, u261, u262, u263, u264, u265, u266], []⟩ wz)) : (Code.region 24 le24o true).wp Tryd.prog Q ⟨#[u0, u1, u2, u3, u4, u5, u6, u7, u8, u9, u10, u11, u12, .pointer (some ⟨sb, 0, none⟩), .pointer (some ⟨ab, 0, none⟩), u15, u16, u17, u18, u19, u20, u21, u22, u23, u24, u25, u26, u27, u28, u29, .int .i64 j, u31, u32, u33, u34, u35, u36, u37, u38, u39, u40, u41, u42, u43, u44, u45, u46, u47, u48, u49, u50, u51, u52, u53, u54, u55, u56, u57, u58, u59, u60, u61, u62, u63, u64, u65, u66, u67, u68, u69, u70, u71, u72, u73, u74, u75, u76, u77, u78, u79, u80, u81, u82, u83, u84, u85, u86, u87, u88, u89, u90, u91, u92, u93, u94, u95, u96, u97, u98, u99, u100, u101, u102, u103, u104, u105, u106, u107, u108, u109, u110, u111, u112, u113, u114, u115, u116, u117, u118, u119, u120, u121, u122, u123, u124, u125, u126, u127, u128, u129, u130, u131, u132, u133, u134, u135, u136, u137, u138, u139, u140, u141, u142, u143, u144, u145, u146, u147, u148, u149, u150, u151, u152, u153, u154, u155, u156, u157, u158, u159, u160, u161, u162, u163, u164, u165, u166, u167, u168, u169, u170, u171, u172, u173, u174, u175, u176, u177, u178, u179, u180, u181, u182, u183, u184, u185, u186, u187, u188, u189, u190, u191, u192, u193, u194, u195, u196, u197, u198, u199, u200, u201, u202, u203, u204, u205, u206, u207, u208, u209, u210, u211, u212, u213, u214, u215, u216, u217, u218, u219, u220, u221, u222, u223, u224, u225, u226, u227, u228, u229, u230, u231, u232, u233, u234, u235, u236, u237, u238, u239, u240, u241, u242, u243, u244, u245, u246, u247, u248, u249, u250, u251, u252, u253, u254, u255, u256, u257, u258, u259, u260, u261, u262, u263, u264, u265, u266], []⟩ W := by
 have H0 := H
 obtain ⟨a0, a1, a2, a3, C1, E1⟩ := H
 replace HQ : Hid (le24f Q sb ab l r o v z ez j X (nth [u0, u1, u2, u3, u4, u5, u6, u7, u8, u9, u10, u11, u12, undef, undef, u15, u16, u17, u18, u19, u20, u21, u22, u23, u24, u25, u26, u27, u28, u29, undef, u31, u32, u33, u34, u35, u36, u37, u38, u39, u40, u41, u42, u43, u44, u45, u46, u47, u48, u49, u50, u51, u52, u53, u54, u55, u56, u57, u58, u59, u60, u61, u62, u63, u64, u65, u66, u67, u68, u69, u70, u71, u72, u73, u74, u75, u76, u77, u78, u79, u80, u81, u82, u83, u84, u85, u86, u87, u88, u89, u90, u91, u92, u93, u94, u95, u96, u97, u98, u99, u100, u101, u102, u103, u104, u105, u106, u107, u108, u109, u110, u111, u112, u113, u114, u115, u116, u117, u118, u119, u120, u121, u122, u123, u124, u125, u126, u127, u128, u129, u130, u131, u132, u133, u134, u135, u136, u137, u138, u139, u140, u141, u142, u143, u144, u145, u146, u147, u148, u149, u150, u151, u152, u153, u154, u155, u156, u157, u158, u159, u160, u161, u162, u163, u164, u165, u166, u167, u168, u169, u170, u171, u172, u173, u174, u175, u176, u177, u178, u179, u180, u181, u182, u183, u184, u185, u186, u187, u188, u189, u190, u191, u192, u193, u194, u195, u196, u197, u198, u199, u200, u201, u202, u203, u204, u205, u206, u207, u208, u209, u210, u211, u212, u213, u214, u215, u216, u217, u218, u219, u220, u221, u222, u223, u224, u225, u226, u227, u228, u229, u230, u231, u232, u233, u234, u235, u236, u237, u238, u239, u240, u241, u242, u243, u244, u245, u246, u247, u248, u249, u250, u251, u252, u253, u254, u255, u256, u257, u258, u259, u260, u261, u262, u263, u264, u265, u266]) W) := HQ
 refine wp_region_noPanic ?_
 refine wp_region_held_drew (S := fun x => Below W.heap.size W x) (by kernel_rfl) (bl_drew W) (fun hH => ?_)
 have HH := hidden hH
 refine tk 0 le240 (.pointer (some ⟨sb, 0, none⟩)) rfl (by kernel_rfl) hH rfl (fun w0 hSw => ?_) ?_
 ·(unfold le240; clear hSw; go_simp)
 unfold le240
 simp only [Act.put, sA, sB, sC]
 refine tk 1 le241 (.agg #[.slice l.p l.n l.c, .slice r.p r.n r.c, .slice o.p o.n o.c, .slice v.p v.n v.c]) rfl (by kernel_rfl) hH rfl (fun w0 hSw => ?_) ?_
 ·(unfold le241; have hS : Below W.heap.size W w0 := hSw; have a0 := cell_keep a0 hS; have a1 := cell_keep a1 hS; have a2 := cell_keep a2 hS; have a3 := cell_keep a3 hS; clear hS hSw; go_simp)
 unfold le241
 simp only [Act.put, sA, sB, sC]
 refine tk 2 le242 (.int .i64 j) rfl (by kernel_rfl) hH rfl (fun w0 hSw => ?_) ?_
 ·(unfold le242; clear hSw; go_simp)
 unfold le242
 simp only [Act.put, sA, sB, sC]
 refine tk 3 le243 (.agg #[.int .i64 2, .int .i64 j]) rfl (by kernel_rfl) hH rfl (fun w0 hSw => ?_) ?_
 ·(unfold le243; clear hSw; go_simp)
 unfold le243
 simp only [Act.put, sA, sB, sC]
 exact le24_f H0  W.drew _ (by kernel_rfl)  HH HQ
def le250 : Oper := { dst := some 222, op := Op.move (Operand.tmp 13), type := 30, pos := "outright.go:216", after := #[], guard := none }
def le251 : Oper := { dst := some 223, op := Op.load 33 (Operand.tmp 14), type := 33, pos := "outright.go:216", after := #[], guard := none }
def le252 : Oper := { dst := some 224, op := Op.move (Operand.tmp 30), type := 3, pos := "outright.go:216", after := #[], guard := none }
def le253 : Oper := { dst := some 225, op := Op.build 47 #[(0, Operand.const (Value.int IntKind.i64 3)), (1, Operand.tmp 224)], type := 47, pos := "outright.go:216", after := #[{ on := 2, ground := Ground.data }], guard := none }
def le254 : Oper := { dst := some 226, op := Op.call { callee := Callee.value (Operand.func 19), args := #[Operand.tmp 225], argTypes := #[47] }, type := 24, pos := "outright.go:216", after := #[{ on := 3, ground := Ground.data }], guard := none }
def le255 : Oper := { dst := some 227, op := Op.call { callee := Callee.value (Operand.func 12), args := #[Operand.tmp 222, Operand.tmp 223, Operand.tmp 226], argTypes := #[30, 33, 24] }, type := 40, pos := "outright.go:216", after := #[{ on := 0, ground := Ground.data }, { on := 1, ground := Ground.data }, { on := 4, ground := Ground.data }, { on := 4, ground := Ground.chain }], guard := none }
def le256 : Oper := { dst := some 221, op := Op.move (Operand.tmp 227), type := 40, pos := "outright.go:216", after := #[{ on := 5, ground := Ground.data }], guard := none }
def le257 : Oper := { dst := some 228, op := Op.extract (Operand.tmp 221) 0, type := 27, pos := "outright.go:216", after := #[{ on := 6, ground := Ground.data }], guard := none }
def le258 : Oper := { dst := some 229, op := Op.extract (Operand.tmp 221) 1, type := 39, pos := "outright.go:216", after := #[{ on := 6, ground := Ground.data }, { on := 10, ground := Ground.gcOnly Departure.lateStores }], guard := none }
def le259 : Oper := { dst := some 33, op := Op.alloc 27, type := 0, pos := "outright.go:216", after := #[], guard := none }
def le2510 : Oper := { dst := none, op := Op.store 27 (Operand.tmp 33) (Operand.tmp 228), type := 0, pos := "outright.go:216", after := #[{ on := 9, ground := Ground.data }, { on := 7, ground := Ground.data }, { on := 5, ground := Ground.chain }, { on := 0, ground := Ground.phase }, { on := 1, ground := Ground.phase }, { on := 2, ground := Ground.phase }, { on := 3, ground := Ground.phase }, { on := 4, ground := Ground.phase }, { on := 5, ground := Ground.phase }, { on := 6, ground := Ground.phase }, { on := 7, ground := Ground.phase }, { on := 8, ground := Ground.textOnly Departure.lateStores }, { on := 9, ground := Ground.phase }], guard := none }
def le2511 : Oper := { dst := some 34, op := Op.assign (Operand.tmp 229), type := 39, pos := "outright.go:216", after := #[{ on := 8, ground := Ground.data }, { on := 10, ground := Ground.chain }, { on := 0, ground := Ground.phase }, { on := 1, ground := Ground.phase }, { on := 2, ground := Ground.phase }, { on := 3, ground := Ground.phase }, { on := 4, ground := Ground.phase }, { on := 5, ground := Ground.phase }, { on := 6, ground := Ground.phase }, { on := 7, ground := Ground.phase }, { on := 8, ground := Ground.phase }, { on := 9, ground := Ground.phase }, { on := 10, ground := Ground.phase }], guard := none }
def le25o : Array Oper := #[le250, le251, le252, le253, le254, le255, le256, le257, le258, le259, le2510, le2511]
structure le25h (sb ab : Nat) (l r o v : Sl) (z : E4) (ez : Int) (j : Int) (X : List Tm) (W : World) : Prop where
 a0 : W.cell? ⟨ab, 0, none⟩ = some (.slice l.p l.n l.c)
 a1 : W.cell? ⟨ab, 1, none⟩ = some (.slice r.p r.n r.c)
 a2 : W.cell? ⟨ab, 2, none⟩ = some (.slice o.p o.n o.c)
 a3 : W.cell? ⟨ab, 3, none⟩ = some (.slice v.p v.n v.c)
 C1 : Hid (∀ y, Below W.heap.size W y → Calls Tryd.prog 19 #[.agg #[.int .i64 3, .int .i64 j]] y fun e w' => Lw y X e w')
 E1 : Hid (∀ (P : Option Addr) (c : Nat) (y : World), Below W.heap.size W y → Lt y P X.length (ft X) → Calls Tryd.prog 12 #[.pointer (some ⟨sb, 0, none⟩), .agg #[.slice l.p l.n l.c, .slice r.p r.n r.c, .slice o.p o.n o.c, .slice v.p v.n v.c], .slice P X.length c] y fun e w' => e = .returned (.tuple #[.agg #[.int .u64 z.x0, .int .u64 z.x1, .int .u64 z.x2, .int .u64 z.x3], .int .i64 ez]) ∧ Below y.heap.size y w')
def le25S (U : Nat → Value) (sb ab : Nat) (l r o v : Sl) (z : E4) (ez : Int) (j : Int) (X : List Tm) (p1 : Option Addr) (c1 : Nat) (rb : Nat) (f4 f5 f6 f7 f8 f9 f11 : Bool) : Array Value := #[U 0, U 1, U 2, U 3, U 4, U 5, U 6, U 7, U 8, U 9, U 10, U 11, U 12, .pointer (some ⟨sb, 0, none⟩), .pointer (some ⟨ab, 0, none⟩), U 15, U 16, U 17, U 18, U 19, U 20, U 21, U 22, U 23, U 24, U 25, U 26, U 27, U 28, U 29, .int .i64 j, U 31, U 32, bif f9 then .pointer (some ⟨rb, 0, none⟩) else U 33, bif f11 then .int .i64 ez else U 34, U 35, U 36, U 37, U 38, U 39, U 40, U 41, U 42, U 43, U 44, U 45, U 46, U 47, U 48, U 49, U 50, U 51, U 52, U 53, U 54, U 55, U 56, U 57, U 58, U 59, U 60, U 61, U 62, U 63, U 64, U 65, U 66, U 67, U 68, U 69, U 70, U 71, U 72, U 73, U 74, U 75, U 76, U 77, U 78, U 79, U 80, U 81, U 82, U 83, U 84, U 85, U 86, U 87, U 88, U 89, U 90, U 91, U 92, U 93, U 94, U 95, U 96, U 97, U 98, U 99, U 100, U 101, U 102, U 103, U 104, U 105, U 106, U 107, U 108, U 109, U 110, U 111, U 112, U 113, U 114, U 115, U 116, U 117, U 118, U 119, U 120, U 121, U 122, U 123, U 124, U 125, U 126, U 127, U 128, U 129, U 130, U 131, U 132, U 133, U 134, U 135, U 136, U 137, U 138, U 139, U 140, U 141, U 142, U 143, U 144, U 145, U 146, U 147, U 148, U 149, U 150, U 151, U 152, U 153, U 154, U 155, U 156, U 157, U 158, U 159, U 160, U 161, U 162, U 163, U 164, U 165, U 166, U 167, U 168, U 169, U 170, U 171, U 172, U 173, U 174, U 175, U 176, U 177, U 178, U 179, U 180, U 181, U 182, U 183, U 184, U 185, U 186, U 187, U 188, U 189, U 190, U 191, U 192, U 193, U 194, U 195, U 196, U 197, U 198, U 199, U 200, U 201, U 202, U 203, U 204, U 205, U 206, U 207, U 208, U 209, U 210, U 211, U 212, U 213, U 214, U 215, U 216, U 217, U 218, U 219, U 220, bif f6 then .tuple #[.agg #[.int .u64 z.x0, .int .u64 z.x1, .int .u64 z.x2, .int .u64 z.x3], .int .i64 ez] else U 221, .pointer (some ⟨sb, 0, none⟩), .agg #[.slice l.p l.n l.c, .slice r.p r.n r.c, .slice o.p o.n o.c, .slice v.p v.n v.c], .int .i64 j, .agg #[.int .i64 3, .int .i64 j], bif f4 then .slice p1 X.length c1 else U 226, bif f5 then .tuple #[.agg #[.int .u64 z.x0, .int .u64 z.x1, .int .u64 z.x2, .int .u64 z.x3], .int .i64 ez] else U 227, bif f7 then .agg #[.int .u64 z.x0, .int .u64 z.x1, .int .u64 z.x2, .int .u64 z.x3] else U 228, bif f8 then .int .i64 ez else U 229, U 230, U 231, U 232, U 233, U 234, U 235, U 236, U 237, U 238, U 239, U 240, U 241, U 242, U 243, U 244, U 245, U 246, U 247, U 248, U 249, U 250, U 251, U 252, U 253, U 254, U 255, U 256, U 257, U 258, U 259, U 260, U 261, U 262, U 263, U 264, U 265, U 266]
def le25G (Q : Exit → Act → World → Prop) (sb ab : Nat) (l r o v : Sl) (z : E4) (ez : Int) (j : Int) (X : List Tm) (W : World) (fuel : Nat) (listed : Array Bool) (a : Array Value) (w : World) : Prop := wpAnyH Tryd.prog Region.Mode.any le25o (NoPanic Q) (fun x => Below W.heap.size W x) fuel listed ⟨a, []⟩ w
def le25f (Q : Exit → Act → World → Prop) (sb ab : Nat) (l r o v : Sl) (z : E4) (ez : Int) (j : Int) (X : List Tm) (U : Nat → Value) (W : World) : Prop := ∀ (wz : World) (p1 : Option Addr) (c1 : Nat) (rb : Nat), Below W.heap.size W wz → W.heap.size ≤ rb → wz.rangeAt rb 0 [.int .u64 z.x0, .int .u64 z.x1, .int .u64 z.x2, .int .u64 z.x3] → Q .normal ⟨le25S U sb ab l r o v z ez j X p1 c1 rb true true true true true true true, []⟩ wz
section
variable {Q : Exit → Act → World → Prop} {sb ab : Nat} {l r o v : Sl} {z : E4} {ez : Int} {j : Int} {X : List Tm} {U : Nat → Value} {W : World}
theorem le25_fff (H : le25h sb ab l r o v z ez j X W) (p1 : Option Addr) (c1 : Nat) (rb : Nat) (w : World) (listed : Array Bool) (hl : listed = #[true, true, true, true, true, true, true, true, true, true, true, true]) (RB : Hid (W.heap.size ≤ rb)) (FR : Hid (w.rangeAt rb 0 [.int .u64 z.x0, .int .u64 z.x1, .int .u64 z.x2, .int .u64 z.x3])) (HH : Hid (Below W.heap.size W w)) (HQ : Hid (le25f Q sb ab l r o v z ez j X U W)) : le25G Q sb ab l r o v z ez j X W 0 listed (le25S U sb ab l r o v z ez j X p1 c1 rb true true true true true true true) w := by
 subst hl
 have H0 := H
 obtain ⟨a0, a1, a2, a3, C1, E1⟩ := H
 simp only [le25G, le25S, cond_true, cond_false]
 refine wpAnyH_done (by kernel_rfl) ?_ _
 refine NoPanic.normal ?_
 exact HQ.out _ p1 c1 rb HH.out RB.out FR.out
theorem le25_3ff (H : le25h sb ab l r o v z ez j X W) (p1 : Option Addr) (c1 : Nat) (rb : Nat) (w : World) (listed : Array Bool) (hl : listed = #[true, true, true, true, true, true, true, true, true, true, false, false]) (TH : Hid (w.there rb 0 4)) (RB : Hid (W.heap.size ≤ rb)) (HH : Hid (Below W.heap.size W w)) (HQ : Hid (le25f Q sb ab l r o v z ez j X U W)) : le25G Q sb ab l r o v z ez j X W 2 listed (le25S U sb ab l r o v z ez j X p1 c1 rb true true true true true true false) w := by
 subst hl
 have H0 := H
 obtain ⟨a0, a1, a2, a3, C1, E1⟩ := H
 simp only [le25G, le25S, cond_true, cond_false]
 refine wpAnyH_ready (rs := [10]) (by kernel_rfl) (by simp) ?_
 refine AllReadyH.cons (o := le2510) rfl (fun K hK => ?_) AllReadyH.nil
 refine wp_storeE 27 _ _ rfl rb 0 ([.int .u64 z.x0, .int .u64 z.x1, .int .u64 z.x2, .int .u64 z.x3]) (by rfl) (by rfl) TH.out i4s (by simp [Value.oneCell']) rfl (fun w2 hw => ?_)
 have SN := hidden (by rw [hw]; exact HH.out.grown (gb_setCells rb [.int .u64 z.x0, .int .u64 z.x1, .int .u64 z.x2, .int .u64 z.x3] 0 _) HH.out.size (fun k hk => by obtain rfl := Option.some.inj hk; exact RB.out) : Below W.heap.size W w2)
 have FR := hidden (by rw [hw]; exact World.rangeAt_setCells_same _ rb 0 _ TH.out : w2.rangeAt rb 0 [.int .u64 z.x0, .int .u64 z.x1, .int .u64 z.x2, .int .u64 z.x3])
 replace HH := SN
 clear SN TH hw
 refine hK.out _ _ HH.out (fun hH => ?_); clear hK K
 refine tk 11 le2511 (.int .i64 ez) rfl (by kernel_rfl) hH rfl (fun w0 hSw => ?_) ?_
 ·(unfold le2511; clear hSw; go_simp)
 unfold le2511
 simp only [Act.put, sA, sB, sC]
 exact le25_fff H0 p1 c1 rb w2 _ (by kernel_rfl) RB FR HH HQ
theorem le25_1ff (H : le25h sb ab l r o v z ez j X W) (p1 : Option Addr) (c1 : Nat) (w : World) (listed : Array Bool) (hl : listed = #[true, true, true, true, true, true, true, true, true, false, false, false])  (HH : Hid (Below W.heap.size W w)) (HQ : Hid (le25f Q sb ab l r o v z ez j X U W)) : le25G Q sb ab l r o v z ez j X W 3 listed (le25S U sb ab l r o v z ez j X p1 c1 0 true true true true true false false) w := by
 subst hl
 have H0 := H
 obtain ⟨a0, a1, a2, a3, C1, E1⟩ := H
 simp only [le25G, le25S, cond_true, cond_false]
 refine wpAnyH_ready (rs := [9]) (by kernel_rfl) (by simp) ?_
 refine AllReadyH.cons (o := le259) rfl (fun K hK => ?_) AllReadyH.nil
 refine wp_allocS rfl (fun rb w2 htb hwq => ?_)
 have hbb : Below w.heap.size w w2 := (by rw [hwq]; exact bl_alloc _ _)
 have SN := hidden (by rw [hwq]; exact bl_trans HH.out (bl_alloc _ _) : Below W.heap.size W w2)
 have TH := hidden (by rw [htb, hwq]; exact there_newM _ [.int .u64 0, .int .u64 0, .int .u64 0, .int .u64 0] _ : w2.there rb 0 4)
 have RB := hidden (by rw [htb]; exact HH.out.size : W.heap.size ≤ rb)
 replace HH := SN
 clear SN hbb  htb hwq
 unfold le259
 simp only [Act.put, sA, sB, sC]
 refine hK.out _ _ HH.out (fun hH => ?_); clear hK K
 exact le25_3ff H0 p1 c1 rb w2 _ (by kernel_rfl) TH RB HH HQ
theorem le25_21f (H : le25h sb ab l r o v z ez j X W) (p1 : Option Addr) (c1 : Nat) (rb : Nat) (w : World) (listed : Array Bool) (hl : listed = #[true, true, true, true, true, false, false, false, false, true, false, false]) (L1 : Hid (Lt w p1 X.length (ft X))) (TH : Hid (w.there rb 0 4)) (RB : Hid (W.heap.size ≤ rb)) (HH : Hid (Below W.heap.size W w)) (HQ : Hid (le25f Q sb ab l r o v z ez j X U W)) : le25G Q sb ab l r o v z ez j X W 6 listed (le25S U sb ab l r o v z ez j X p1 c1 rb true false false false false true false) w := by
 subst hl
 have H0 := H
 obtain ⟨a0, a1, a2, a3, C1, E1⟩ := H
 simp only [le25G, le25S, cond_true, cond_false]
 refine wpAnyH_ready (rs := [5]) (by kernel_rfl) (by simp) ?_
 refine AllReadyH.cons (o := le255) rfl (fun K hK => ?_) AllReadyH.nil
 unfold le255
 go_simp
 refine (E1.out _ _ _ HH.out L1.out).mono ?_
 rintro e w2 ⟨rfl, hb⟩
 have SN := hidden (bl_trans HH.out hb : Below W.heap.size W w2)
 replace TH := hidden (there_bl TH.out hb)
 replace HH := SN
 clear SN L1 hb
 go_wp2_with fail
 refine hK.out _ _ HH.out (fun hH => ?_); clear hK K
 refine tk 6 le256 (.tuple #[.agg #[.int .u64 z.x0, .int .u64 z.x1, .int .u64 z.x2, .int .u64 z.x3], .int .i64 ez]) rfl (by kernel_rfl) hH rfl (fun w0 hSw => ?_) ?_
 ·(unfold le256; clear hSw; go_simp)
 unfold le256
 simp only [Act.put, sA, sB, sC]
 refine tk 7 le257 (.agg #[.int .u64 z.x0, .int .u64 z.x1, .int .u64 z.x2, .int .u64 z.x3]) rfl (by kernel_rfl) hH rfl (fun w0 hSw => ?_) ?_
 ·(unfold le257; clear hSw; go_simp)
 unfold le257
 simp only [Act.put, sA, sB, sC]
 refine tk 8 le258 (.int .i64 ez) rfl (by kernel_rfl) hH rfl (fun w0 hSw => ?_) ?_
 ·(unfold le258; clear hSw; go_simp)
 unfold le258
 simp only [Act.put, sA, sB, sC]
 exact le25_3ff H0 p1 c1 rb w2 _ (by kernel_rfl) TH RB HH HQ
theorem le25_20f (H : le25h sb ab l r o v z ez j X W) (rb : Nat) (w : World) (listed : Array Bool) (hl : listed = #[true, true, true, true, false, false, false, false, false, true, false, false]) (TH : Hid (w.there rb 0 4)) (RB : Hid (W.heap.size ≤ rb)) (HH : Hid (Below W.heap.size W w)) (HQ : Hid (le25f Q sb ab l r o v z ez j X U W)) : le25G Q sb ab l r o v z ez j X W 7 listed (le25S U sb ab l r o v z ez j X none 0 rb false false false false false true false) w := by
 subst hl
 have H0 := H
 obtain ⟨a0, a1, a2, a3, C1, E1⟩ := H
 simp only [le25G, le25S, cond_true, cond_false]
 refine wpAnyH_ready (rs := [4]) (by kernel_rfl) (by simp) ?_
 refine AllReadyH.cons (o := le254) rfl (fun K hK => ?_) AllReadyH.nil
 unfold le254
 go_simp
 refine (C1.out _ HH.out).mono ?_
 rintro e w2 ⟨p1, c1, rfl, hl, hb⟩
 have SN := hidden (bl_trans HH.out hb : Below W.heap.size W w2)
 have L1 := hidden (hl : Lt w2 p1 X.length (ft X))
 replace TH := hidden (there_bl TH.out hb)
 replace HH := SN
 clear SN  hl hb
 go_wp2_with fail
 refine hK.out _ _ HH.out (fun hH => ?_); clear hK K
 exact le25_21f H0 p1 c1 rb w2 _ (by kernel_rfl) L1 TH RB HH HQ
theorem le25_1f (H : le25h sb ab l r o v z ez j X W) (p1 : Option Addr) (c1 : Nat) (w : World) (listed : Array Bool) (hl : listed = #[true, true, true, true, true, false, false, false, false, false, false, false]) (L1 : Hid (Lt w p1 X.length (ft X))) (HH : Hid (Below W.heap.size W w)) (HQ : Hid (le25f Q sb ab l r o v z ez j X U W)) : le25G Q sb ab l r o v z ez j X W 7 listed (le25S U sb ab l r o v z ez j X p1 c1 0 true false false false false false false) w := by
 subst hl
 have H0 := H
 obtain ⟨a0, a1, a2, a3, C1, E1⟩ := H
 simp only [le25G, le25S, cond_true, cond_false]
 refine wpAnyH_ready (rs := [5, 9]) (by kernel_rfl) (by simp) ?_
 refine AllReadyH.cons (o := le255) rfl (fun K hK => ?_) (AllReadyH.cons (o := le259) rfl (fun K hK => ?_) AllReadyH.nil)
 ·unfold le255
  go_simp
  refine (E1.out _ _ _ HH.out L1.out).mono ?_
  rintro e w2 ⟨rfl, hb⟩
  have SN := hidden (bl_trans HH.out hb : Below W.heap.size W w2)
  replace HH := SN
  clear SN L1 hb
  go_wp2_with fail
  refine hK.out _ _ HH.out (fun hH => ?_); clear hK K
  refine tk 6 le256 (.tuple #[.agg #[.int .u64 z.x0, .int .u64 z.x1, .int .u64 z.x2, .int .u64 z.x3], .int .i64 ez]) rfl (by kernel_rfl) hH rfl (fun w0 hSw => ?_) ?_
  ·(unfold le256; clear hSw; go_simp)
  unfold le256
  simp only [Act.put, sA, sB, sC]
  refine tk 7 le257 (.agg #[.int .u64 z.x0, .int .u64 z.x1, .int .u64 z.x2, .int .u64 z.x3]) rfl (by kernel_rfl) hH rfl (fun w0 hSw => ?_) ?_
  ·(unfold le257; clear hSw; go_simp)
  unfold le257
  simp only [Act.put, sA, sB, sC]
  refine tk 8 le258 (.int .i64 ez) rfl (by kernel_rfl) hH rfl (fun w0 hSw => ?_) ?_
  ·(unfold le258; clear hSw; go_simp)
  unfold le258
  simp only [Act.put, sA, sB, sC]
  exact le25_1ff H0 p1 c1 w2 _ (by kernel_rfl)  HH HQ
 ·refine wp_allocS rfl (fun rb w2 htb hwq => ?_)
  have hbb : Below w.heap.size w w2 := (by rw [hwq]; exact bl_alloc _ _)
  have SN := hidden (by rw [hwq]; exact bl_trans HH.out (bl_alloc _ _) : Below W.heap.size W w2)
  have TH := hidden (by rw [htb, hwq]; exact there_newM _ [.int .u64 0, .int .u64 0, .int .u64 0, .int .u64 0] _ : w2.there rb 0 4)
  have RB := hidden (by rw [htb]; exact HH.out.size : W.heap.size ≤ rb)
  replace L1 := hidden (L1.out.keep hbb)
  replace HH := SN
  clear SN hbb  htb hwq
  unfold le259
  simp only [Act.put, sA, sB, sC]
  refine hK.out _ _ HH.out (fun hH => ?_); clear hK K
  exact le25_21f H0 p1 c1 rb w2 _ (by kernel_rfl) L1 TH RB HH HQ
theorem le25_f (H : le25h sb ab l r o v z ez j X W)  (w : World) (listed : Array Bool) (hl : listed = #[true, true, true, true, false, false, false, false, false, false, false, false])  (HH : Hid (Below W.heap.size W w)) (HQ : Hid (le25f Q sb ab l r o v z ez j X U W)) : le25G Q sb ab l r o v z ez j X W 8 listed (le25S U sb ab l r o v z ez j X none 0 0 false false false false false false false) w := by
 subst hl
 have H0 := H
 obtain ⟨a0, a1, a2, a3, C1, E1⟩ := H
 simp only [le25G, le25S, cond_true, cond_false]
 refine wpAnyH_ready (rs := [4, 9]) (by kernel_rfl) (by simp) ?_
 refine AllReadyH.cons (o := le254) rfl (fun K hK => ?_) (AllReadyH.cons (o := le259) rfl (fun K hK => ?_) AllReadyH.nil)
 ·unfold le254
  go_simp
  refine (C1.out _ HH.out).mono ?_
  rintro e w2 ⟨p1, c1, rfl, hl, hb⟩
  have SN := hidden (bl_trans HH.out hb : Below W.heap.size W w2)
  have L1 := hidden (hl : Lt w2 p1 X.length (ft X))
  replace HH := SN
  clear SN  hl hb
  go_wp2_with fail
  refine hK.out _ _ HH.out (fun hH => ?_); clear hK K
  exact le25_1f H0 p1 c1 w2 _ (by kernel_rfl) L1 HH HQ
 ·refine wp_allocS rfl (fun rb w2 htb hwq => ?_)
  have hbb : Below w.heap.size w w2 := (by rw [hwq]; exact bl_alloc _ _)
  have SN := hidden (by rw [hwq]; exact bl_trans HH.out (bl_alloc _ _) : Below W.heap.size W w2)
  have TH := hidden (by rw [htb, hwq]; exact there_newM _ [.int .u64 0, .int .u64 0, .int .u64 0, .int .u64 0] _ : w2.there rb 0 4)
  have RB := hidden (by rw [htb]; exact HH.out.size : W.heap.size ≤ rb)
  replace HH := SN
  clear SN hbb  htb hwq
  unfold le259
  simp only [Act.put, sA, sB, sC]
  refine hK.out _ _ HH.out (fun hH => ?_); clear hK K
  exact le25_20f H0 rb w2 _ (by kernel_rfl) TH RB HH HQ
end
theorem le25 (Q : Exit → Act → World → Prop) (sb ab : Nat) (l r o v : Sl) (z : E4) (ez : Int) (j : Int) (X : List Tm) (u0 u1 u2 u3 u4 u5 u6 u7 u8 u9 u10 u11 u12 u15 u16 u17 u18 u19 u20 u21 u22 u23 u24 u25 u26 u27 u28 u29 u31 u32 u33 u34 u35 u36 u37 u38 u39 u40 u41 u42 u43 u44 u45 u46 u47 u48 u49 u50 u51 u52 u53 u54 u55 u56 u57 u58 u59 u60 u61 u62 u63 u64 u65 u66 u67 u68 u69 u70 u71 u72 u73 u74 u75 u76 u77 u78 u79 u80 u81 u82 u83 u84 u85 u86 u87 u88 u89 u90 u91 u92 u93 u94 u95 u96 u97 u98 u99 u100 u101 u102 u103 u104 u105 u106 u107 u108 u109 u110 u111 u112 u113 u114 u115 u116 u117 u118 u119 u120 u121 u122 u123 u124 u125 u126 u127 u128 u129 u130 u131 u132 u133 u134 u135 u136 u137 u138 u139 u140 u141 u142 u143 u144 u145 u146 u147 u148 u149 u150 u151 u152 u153 u154 u155 u156 u157 u158 u159 u160 u161 u162 u163 u164 u165 u166 u167 u168 u169 u170 u171 u172 u173 u174 u175 u176 u177 u178 u179 u180 u181 u182 u183 u184 u185 u186 u187 u188 u189 u190 u191 u192 u193 u194 u195 u196 u197 u198 u199 u200 u201 u202 u203 u204 u205 u206 u207 u208 u209 u210 u211 u212 u213 u214 u215 u216 u217 u218 u219 u220 u221 u222 u223 u224 u225 u226 u227 u228 u229 u230 u231 u232 u233 u234 u235 u236 u237 u238 u239 u240 u241 u242 u243 u244 u245 u246 u247 u248 u249 u250 u251 u252 u253 u254 u255 u256 u257 u258 u259 u260 u261 u262 u263 u264 u265 u266 : Value) (W : World) (H : le25h sb ab l r o v z ez j X W)
  (HQ : Hid (∀ (wz : World) (p1 : Option Addr) (c1 : Nat) (rb : Nat), Below W.heap.size W wz → W.heap.size ≤ rb → wz.rangeAt rb 0 [.int .u64 z.x0, .int .u64 z.x1, .int .u64 z.x2, .int .u64 z.x3] → Q .normal ⟨#[u0, u1, u2, u3, u4, u5, u6, u7, u8, u9, u10, u11, u12, .pointer (some ⟨sb, 0, none⟩), .pointer (some ⟨ab, 0, none⟩), u15, u16, u17, u18, u19, u20, u21, u22, u23, u24, u25, u26, u27, u28, u29, .int .i64 j, u31, u32, .pointer (some ⟨rb, 0, none⟩), .int .i64 ez, u35, u36, u37, u38, u39, u40, u41, u42, u43, u44, u45, u46, u47, u48, u49, u50, u51, u52, u53, u54, u55, u56, u57, u58, u59, u60, u61, u62, u63, u64, u65, u66, u67, u68, u69, u70, u71, u72, u73, u74, u75, u76, u77, u78, u79, u80, u81, u82, u83, u84, u85, u86, u87, u88, u89, u90, u91, u92, u93, u94, u95, u96, u97, u98, u99, u100, u101, u102, u103, u104, u105, u106, u107, u108, u109, u110, u111, u112, u113, u114, u115, u116, u117, u118, u119, u120, u121, u122, u123, u124, u125, u126, u127, u128, u129, u130, u131, u132, u133, u134, u135, u136, u137, u138, u139, u140, u141, u142, u143, u144, u145, u146, u147, u148, u149, u150, u151, u152, u153, u154, u155, u156, u157, u158, u159, u160, u161, u162, u163, u164, u165, u166, u167, u168, u169, u170, u171, u172, u173, u174, u175, u176, u177, u178, u179, u180, u181, u182, u183, u184, u185, u186, u187, u188, u189, u190, u191, u192, u193, u194, u195, u196, u197, u198, u199, u200, u201, u202, u203, u204, u205, u206, u207, u208, u209, u210, u211, u212, u213, u214, u215, u216, u217, u218, u219, u220, .tuple #[.agg #[.int .u64 z.x0, .int .u64 z.x1, .int .u64 z.x2, .int .u64 z.x3], .int .i64 ez], .pointer (some ⟨sb, 0, none⟩), .agg #[.slice l.p l.n l.c, .slice r.p r.n r.c, .slice o.p o.n o.c, .slice v.p v.n v.c], .int .i64 j, .agg #[.int .i64 3, .int .i64 j], .slice p1 X.length c1, .tuple #[.agg #[.int .u64 z.x0, .int .u64 z.x1, .int .u64 z.x2, .int .u64 z.x3], .int .i64 ez], .agg #[.int .u64 z.x0, .int .u64 z.x1, .int .u64 z.x2, .int .u64 z.x3], .int .i64 ez, u230, u231, u232, u233, u234, u235, u236, u237, u238, u239, u240, u241, u242, u243, u244, u245, u246, u247, u248, u249, u250, u251, u252, u253, u254, u255, u256, u257, u258, u259, u260, u261, u262, u263, u264, u265, u266], []⟩ wz)) : (Code.region 25 le25o true).wp Tryd.prog Q ⟨#[u0, u1, u2, u3, u4, u5, u6, u7, u8, u9, u10, u11, u12, .pointer (some ⟨sb, 0, none⟩), .pointer (some ⟨ab, 0, none⟩), u15, u16, u17, u18, u19, u20, u21, u22, u23, u24, u25, u26, u27, u28, u29, .int .i64 j, u31, u32, u33, u34, u35, u36, u37, u38, u39, u40, u41, u42, u43, u44, u45, u46, u47, u48, u49, u50, u51, u52, u53, u54, u55, u56, u57, u58, u59, u60, u61, u62, u63, u64, u65, u66, u67, u68, u69, u70, u71, u72, u73, u74, u75, u76, u77, u78, u79, u80, u81, u82, u83, u84, u85, u86, u87, u88, u89, u90, u91, u92, u93, u94, u95, u96, u97, u98, u99, u100, u101, u102, u103, u104, u105, u106, u107, u108, u109, u110, u111, u112, u113, u114, u115, u116, u117, u118, u119, u120, u121, u122, u123, u124, u125, u126, u127, u128, u129, u130, u131, u132, u133, u134, u135, u136, u137, u138, u139, u140, u141, u142, u143, u144, u145, u146, u147, u148, u149, u150, u151, u152, u153, u154, u155, u156, u157, u158, u159, u160, u161, u162, u163, u164, u165, u166, u167, u168, u169, u170, u171, u172, u173, u174, u175, u176, u177, u178, u179, u180, u181, u182, u183, u184, u185, u186, u187, u188, u189, u190, u191, u192, u193, u194, u195, u196, u197, u198, u199, u200, u201, u202, u203, u204, u205, u206, u207, u208, u209, u210, u211, u212, u213, u214, u215, u216, u217, u218, u219, u220, u221, u222, u223, u224, u225, u226, u227, u228, u229, u230, u231, u232, u233, u234, u235, u236, u237, u238, u239, u240, u241, u242, u243, u244, u245, u246, u247, u248, u249, u250, u251, u252, u253, u254, u255, u256, u257, u258, u259, u260, u261, u262, u263, u264, u265, u266], []⟩ W := by
 have H0 := H
 obtain ⟨a0, a1, a2, a3, C1, E1⟩ := H
 replace HQ : Hid (le25f Q sb ab l r o v z ez j X (nth [u0, u1, u2, u3, u4, u5, u6, u7, u8, u9, u10, u11, u12, undef, undef, u15, u16, u17, u18, u19, u20, u21, u22, u23, u24, u25, u26, u27, u28, u29, undef, u31, u32, u33, u34, u35, u36, u37, u38, u39, u40, u41, u42, u43, u44, u45, u46, u47, u48, u49, u50, u51, u52, u53, u54, u55, u56, u57, u58, u59, u60, u61, u62, u63, u64, u65, u66, u67, u68, u69, u70, u71, u72, u73, u74, u75, u76, u77, u78, u79, u80, u81, u82, u83, u84, u85, u86, u87, u88, u89, u90, u91, u92, u93, u94, u95, u96, u97, u98, u99, u100, u101, u102, u103, u104, u105, u106, u107, u108, u109, u110, u111, u112, u113, u114, u115, u116, u117, u118, u119, u120, u121, u122, u123, u124, u125, u126, u127, u128, u129, u130, u131, u132, u133, u134, u135, u136, u137, u138, u139, u140, u141, u142, u143, u144, u145, u146, u147, u148, u149, u150, u151, u152, u153, u154, u155, u156, u157, u158, u159, u160, u161, u162, u163, u164, u165, u166, u167, u168, u169, u170, u171, u172, u173, u174, u175, u176, u177, u178, u179, u180, u181, u182, u183, u184, u185, u186, u187, u188, u189, u190, u191, u192, u193, u194, u195, u196, u197, u198, u199, u200, u201, u202, u203, u204, u205, u206, u207, u208, u209, u210, u211, u212, u213, u214, u215, u216, u217, u218, u219, u220, u221, u222, u223, u224, u225, u226, u227, u228, u229, u230, u231, u232, u233, u234, u235, u236, u237, u238, u239, u240, u241, u242, u243, u244, u245, u246, u247, u248, u249, u250, u251, u252, u253, u254, u255, u256, u257, u258, u259, u260, u261, u262, u263, u264, u265, u266]) W) := HQ
 refine wp_region_noPanic ?_
 refine wp_region_held_drew (S := fun x => Below W.heap.size W x) (by kernel_rfl) (bl_drew W) (fun hH => ?_)
 have HH := hidden hH
 refine tk 0 le250 (.pointer (some ⟨sb, 0, none⟩)) rfl (by kernel_rfl) hH rfl (fun w0 hSw => ?_) ?_
 ·(unfold le250; clear hSw; go_simp)
 unfold le250
 simp only [Act.put, sA, sB, sC]
 refine tk 1 le251 (.agg #[.slice l.p l.n l.c, .slice r.p r.n r.c, .slice o.p o.n o.c, .slice v.p v.n v.c]) rfl (by kernel_rfl) hH rfl (fun w0 hSw => ?_) ?_
 ·(unfold le251; have hS : Below W.heap.size W w0 := hSw; have a0 := cell_keep a0 hS; have a1 := cell_keep a1 hS; have a2 := cell_keep a2 hS; have a3 := cell_keep a3 hS; clear hS hSw; go_simp)
 unfold le251
 simp only [Act.put, sA, sB, sC]
 refine tk 2 le252 (.int .i64 j) rfl (by kernel_rfl) hH rfl (fun w0 hSw => ?_) ?_
 ·(unfold le252; clear hSw; go_simp)
 unfold le252
 simp only [Act.put, sA, sB, sC]
 refine tk 3 le253 (.agg #[.int .i64 3, .int .i64 j]) rfl (by kernel_rfl) hH rfl (fun w0 hSw => ?_) ?_
 ·(unfold le253; clear hSw; go_simp)
 unfold le253
 simp only [Act.put, sA, sB, sC]
 exact le25_f H0  W.drew _ (by kernel_rfl)  HH HQ
def le260 : Oper := { dst := some 231, op := Op.move (Operand.tmp 13), type := 30, pos := "outright.go:217", after := #[], guard := none }
def le261 : Oper := { dst := some 232, op := Op.load 33 (Operand.tmp 14), type := 33, pos := "outright.go:217", after := #[], guard := none }
def le262 : Oper := { dst := some 233, op := Op.move (Operand.tmp 30), type := 3, pos := "outright.go:217", after := #[], guard := none }
def le263 : Oper := { dst := some 234, op := Op.build 47 #[(0, Operand.const (Value.int IntKind.i64 4)), (1, Operand.tmp 233)], type := 47, pos := "outright.go:217", after := #[{ on := 2, ground := Ground.data }], guard := none }
def le264 : Oper := { dst := some 235, op := Op.call { callee := Callee.value (Operand.func 19), args := #[Operand.tmp 234], argTypes := #[47] }, type := 24, pos := "outright.go:217", after := #[{ on := 3, ground := Ground.data }], guard := none }
def le265 : Oper := { dst := some 236, op := Op.call { callee := Callee.value (Operand.func 12), args := #[Operand.tmp 231, Operand.tmp 232, Operand.tmp 235], argTypes := #[30, 33, 24] }, type := 40, pos := "outright.go:217", after := #[{ on := 0, ground := Ground.data }, { on := 1, ground := Ground.data }, { on := 4, ground := Ground.data }, { on := 4, ground := Ground.chain }], guard := none }
def le266 : Oper := { dst := some 230, op := Op.move (Operand.tmp 236), type := 40, pos := "outright.go:217", after := #[{ on := 5, ground := Ground.data }], guard := none }
def le267 : Oper := { dst := some 237, op := Op.extract (Operand.tmp 230) 0, type := 27, pos := "outright.go:217", after := #[{ on := 6, ground := Ground.data }], guard := none }
def le268 : Oper := { dst := some 238, op := Op.extract (Operand.tmp 230) 1, type := 39, pos := "outright.go:217", after := #[{ on := 6, ground := Ground.data }, { on := 10, ground := Ground.gcOnly Departure.lateStores }], guard := none }
def le269 : Oper := { dst := some 35, op := Op.alloc 27, type := 0, pos := "outright.go:217", after := #[], guard := none }
def le2610 : Oper := { dst := none, op := Op.store 27 (Operand.tmp 35) (Operand.tmp 237), type := 0, pos := "outright.go:217", after := #[{ on := 9, ground := Ground.data }, { on := 7, ground := Ground.data }, { on := 5, ground := Ground.chain }, { on := 0, ground := Ground.phase }, { on := 1, ground := Ground.phase }, { on := 2, ground := Ground.phase }, { on := 3, ground := Ground.phase }, { on := 4, ground := Ground.phase }, { on := 5, ground := Ground.phase }, { on := 6, ground := Ground.phase }, { on := 7, ground := Ground.phase }, { on := 8, ground := Ground.textOnly Departure.lateStores }, { on := 9, ground := Ground.phase }], guard := none }
def le2611 : Oper := { dst := some 36, op := Op.assign (Operand.tmp 238), type := 39, pos := "outright.go:217", after := #[{ on := 8, ground := Ground.data }, { on := 10, ground := Ground.chain }, { on := 0, ground := Ground.phase }, { on := 1, ground := Ground.phase }, { on := 2, ground := Ground.phase }, { on := 3, ground := Ground.phase }, { on := 4, ground := Ground.phase }, { on := 5, ground := Ground.phase }, { on := 6, ground := Ground.phase }, { on := 7, ground := Ground.phase }, { on := 8, ground := Ground.phase }, { on := 9, ground := Ground.phase }, { on := 10, ground := Ground.phase }], guard := none }
def le26o : Array Oper := #[le260, le261, le262, le263, le264, le265, le266, le267, le268, le269, le2610, le2611]
structure le26h (sb ab : Nat) (l r o v : Sl) (z : E4) (ez : Int) (j : Int) (X : List Tm) (W : World) : Prop where
 a0 : W.cell? ⟨ab, 0, none⟩ = some (.slice l.p l.n l.c)
 a1 : W.cell? ⟨ab, 1, none⟩ = some (.slice r.p r.n r.c)
 a2 : W.cell? ⟨ab, 2, none⟩ = some (.slice o.p o.n o.c)
 a3 : W.cell? ⟨ab, 3, none⟩ = some (.slice v.p v.n v.c)
 C1 : Hid (∀ y, Below W.heap.size W y → Calls Tryd.prog 19 #[.agg #[.int .i64 4, .int .i64 j]] y fun e w' => Lw y X e w')
 E1 : Hid (∀ (P : Option Addr) (c : Nat) (y : World), Below W.heap.size W y → Lt y P X.length (ft X) → Calls Tryd.prog 12 #[.pointer (some ⟨sb, 0, none⟩), .agg #[.slice l.p l.n l.c, .slice r.p r.n r.c, .slice o.p o.n o.c, .slice v.p v.n v.c], .slice P X.length c] y fun e w' => e = .returned (.tuple #[.agg #[.int .u64 z.x0, .int .u64 z.x1, .int .u64 z.x2, .int .u64 z.x3], .int .i64 ez]) ∧ Below y.heap.size y w')
def le26S (U : Nat → Value) (sb ab : Nat) (l r o v : Sl) (z : E4) (ez : Int) (j : Int) (X : List Tm) (p1 : Option Addr) (c1 : Nat) (rb : Nat) (f4 f5 f6 f7 f8 f9 f11 : Bool) : Array Value := #[U 0, U 1, U 2, U 3, U 4, U 5, U 6, U 7, U 8, U 9, U 10, U 11, U 12, .pointer (some ⟨sb, 0, none⟩), .pointer (some ⟨ab, 0, none⟩), U 15, U 16, U 17, U 18, U 19, U 20, U 21, U 22, U 23, U 24, U 25, U 26, U 27, U 28, U 29, .int .i64 j, U 31, U 32, U 33, U 34, bif f9 then .pointer (some ⟨rb, 0, none⟩) else U 35, bif f11 then .int .i64 ez else U 36, U 37, U 38, U 39, U 40, U 41, U 42, U 43, U 44, U 45, U 46, U 47, U 48, U 49, U 50, U 51, U 52, U 53, U 54, U 55, U 56, U 57, U 58, U 59, U 60, U 61, U 62, U 63, U 64, U 65, U 66, U 67, U 68, U 69, U 70, U 71, U 72, U 73, U 74, U 75, U 76, U 77, U 78, U 79, U 80, U 81, U 82, U 83, U 84, U 85, U 86, U 87, U 88, U 89, U 90, U 91, U 92, U 93, U 94, U 95, U 96, U 97, U 98, U 99, U 100, U 101, U 102, U 103, U 104, U 105, U 106, U 107, U 108, U 109, U 110, U 111, U 112, U 113, U 114, U 115, U 116, U 117, U 118, U 119, U 120, U 121, U 122, U 123, U 124, U 125, U 126, U 127, U 128, U 129, U 130, U 131, U 132, U 133, U 134, U 135, U 136, U 137, U 138, U 139, U 140, U 141, U 142, U 143, U 144, U 145, U 146, U 147, U 148, U 149, U 150, U 151, U 152, U 153, U 154, U 155, U 156, U 157, U 158, U 159, U 160, U 161, U 162, U 163, U 164, U 165, U 166, U 167, U 168, U 169, U 170, U 171, U 172, U 173, U 174, U 175, U 176, U 177, U 178, U 179, U 180, U 181, U 182, U 183, U 184, U 185, U 186, U 187, U 188, U 189, U 190, U 191, U 192, U 193, U 194, U 195, U 196, U 197, U 198, U 199, U 200, U 201, U 202, U 203, U 204, U 205, U 206, U 207, U 208, U 209, U 210, U 211, U 212, U 213, U 214, U 215, U 216, U 217, U 218, U 219, U 220, U 221, U 222, U 223, U 224, U 225, U 226, U 227, U 228, U 229, bif f6 then .tuple #[.agg #[.int .u64 z.x0, .int .u64 z.x1, .int .u64 z.x2, .int .u64 z.x3], .int .i64 ez] else U 230, .pointer (some ⟨sb, 0, none⟩), .agg #[.slice l.p l.n l.c, .slice r.p r.n r.c, .slice o.p o.n o.c, .slice v.p v.n v.c], .int .i64 j, .agg #[.int .i64 4, .int .i64 j], bif f4 then .slice p1 X.length c1 else U 235, bif f5 then .tuple #[.agg #[.int .u64 z.x0, .int .u64 z.x1, .int .u64 z.x2, .int .u64 z.x3], .int .i64 ez] else U 236, bif f7 then .agg #[.int .u64 z.x0, .int .u64 z.x1, .int .u64 z.x2, .int .u64 z.x3] else U 237, bif f8 then .int .i64 ez else U 238, U 239, U 240, U 241, U 242, U 243, U 244, U 245, U 246, U 247, U 248, U 249, U 250, U 251, U 252, U 253, U 254, U 255, U 256, U 257, U 258, U 259, U 260, U 261, U 262, U 263, U 264, U 265, U 266]
def le26G (Q : Exit → Act → World → Prop) (sb ab : Nat) (l r o v : Sl) (z : E4) (ez : Int) (j : Int) (X : List Tm) (W : World) (fuel : Nat) (listed : Array Bool) (a : Array Value) (w : World) : Prop := wpAnyH Tryd.prog Region.Mode.any le26o (NoPanic Q) (fun x => Below W.heap.size W x) fuel listed ⟨a, []⟩ w
def le26f (Q : Exit → Act → World → Prop) (sb ab : Nat) (l r o v : Sl) (z : E4) (ez : Int) (j : Int) (X : List Tm) (U : Nat → Value) (W : World) : Prop := ∀ (wz : World) (p1 : Option Addr) (c1 : Nat) (rb : Nat), Below W.heap.size W wz → W.heap.size ≤ rb → wz.rangeAt rb 0 [.int .u64 z.x0, .int .u64 z.x1, .int .u64 z.x2, .int .u64 z.x3] → Q .normal ⟨le26S U sb ab l r o v z ez j X p1 c1 rb true true true true true true true, []⟩ wz
section
variable {Q : Exit → Act → World → Prop} {sb ab : Nat} {l r o v : Sl} {z : E4} {ez : Int} {j : Int} {X : List Tm} {U : Nat → Value} {W : World}
theorem le26_fff (H : le26h sb ab l r o v z ez j X W) (p1 : Option Addr) (c1 : Nat) (rb : Nat) (w : World) (listed : Array Bool) (hl : listed = #[true, true, true, true, true, true, true, true, true, true, true, true]) (RB : Hid (W.heap.size ≤ rb)) (FR : Hid (w.rangeAt rb 0 [.int .u64 z.x0, .int .u64 z.x1, .int .u64 z.x2, .int .u64 z.x3])) (HH : Hid (Below W.heap.size W w)) (HQ : Hid (le26f Q sb ab l r o v z ez j X U W)) : le26G Q sb ab l r o v z ez j X W 0 listed (le26S U sb ab l r o v z ez j X p1 c1 rb true true true true true true true) w := by
 subst hl
 have H0 := H
 obtain ⟨a0, a1, a2, a3, C1, E1⟩ := H
 simp only [le26G, le26S, cond_true, cond_false]
 refine wpAnyH_done (by kernel_rfl) ?_ _
 refine NoPanic.normal ?_
 exact HQ.out _ p1 c1 rb HH.out RB.out FR.out
theorem le26_3ff (H : le26h sb ab l r o v z ez j X W) (p1 : Option Addr) (c1 : Nat) (rb : Nat) (w : World) (listed : Array Bool) (hl : listed = #[true, true, true, true, true, true, true, true, true, true, false, false]) (TH : Hid (w.there rb 0 4)) (RB : Hid (W.heap.size ≤ rb)) (HH : Hid (Below W.heap.size W w)) (HQ : Hid (le26f Q sb ab l r o v z ez j X U W)) : le26G Q sb ab l r o v z ez j X W 2 listed (le26S U sb ab l r o v z ez j X p1 c1 rb true true true true true true false) w := by
 subst hl
 have H0 := H
 obtain ⟨a0, a1, a2, a3, C1, E1⟩ := H
 simp only [le26G, le26S, cond_true, cond_false]
 refine wpAnyH_ready (rs := [10]) (by kernel_rfl) (by simp) ?_
 refine AllReadyH.cons (o := le2610) rfl (fun K hK => ?_) AllReadyH.nil
 refine wp_storeE 27 _ _ rfl rb 0 ([.int .u64 z.x0, .int .u64 z.x1, .int .u64 z.x2, .int .u64 z.x3]) (by rfl) (by rfl) TH.out i4s (by simp [Value.oneCell']) rfl (fun w2 hw => ?_)
 have SN := hidden (by rw [hw]; exact HH.out.grown (gb_setCells rb [.int .u64 z.x0, .int .u64 z.x1, .int .u64 z.x2, .int .u64 z.x3] 0 _) HH.out.size (fun k hk => by obtain rfl := Option.some.inj hk; exact RB.out) : Below W.heap.size W w2)
 have FR := hidden (by rw [hw]; exact World.rangeAt_setCells_same _ rb 0 _ TH.out : w2.rangeAt rb 0 [.int .u64 z.x0, .int .u64 z.x1, .int .u64 z.x2, .int .u64 z.x3])
 replace HH := SN
 clear SN TH hw
 refine hK.out _ _ HH.out (fun hH => ?_); clear hK K
 refine tk 11 le2611 (.int .i64 ez) rfl (by kernel_rfl) hH rfl (fun w0 hSw => ?_) ?_
 ·(unfold le2611; clear hSw; go_simp)
 unfold le2611
 simp only [Act.put, sA, sB, sC]
 exact le26_fff H0 p1 c1 rb w2 _ (by kernel_rfl) RB FR HH HQ
theorem le26_1ff (H : le26h sb ab l r o v z ez j X W) (p1 : Option Addr) (c1 : Nat) (w : World) (listed : Array Bool) (hl : listed = #[true, true, true, true, true, true, true, true, true, false, false, false])  (HH : Hid (Below W.heap.size W w)) (HQ : Hid (le26f Q sb ab l r o v z ez j X U W)) : le26G Q sb ab l r o v z ez j X W 3 listed (le26S U sb ab l r o v z ez j X p1 c1 0 true true true true true false false) w := by
 subst hl
 have H0 := H
 obtain ⟨a0, a1, a2, a3, C1, E1⟩ := H
 simp only [le26G, le26S, cond_true, cond_false]
 refine wpAnyH_ready (rs := [9]) (by kernel_rfl) (by simp) ?_
 refine AllReadyH.cons (o := le269) rfl (fun K hK => ?_) AllReadyH.nil
 refine wp_allocS rfl (fun rb w2 htb hwq => ?_)
 have hbb : Below w.heap.size w w2 := (by rw [hwq]; exact bl_alloc _ _)
 have SN := hidden (by rw [hwq]; exact bl_trans HH.out (bl_alloc _ _) : Below W.heap.size W w2)
 have TH := hidden (by rw [htb, hwq]; exact there_newM _ [.int .u64 0, .int .u64 0, .int .u64 0, .int .u64 0] _ : w2.there rb 0 4)
 have RB := hidden (by rw [htb]; exact HH.out.size : W.heap.size ≤ rb)
 replace HH := SN
 clear SN hbb  htb hwq
 unfold le269
 simp only [Act.put, sA, sB, sC]
 refine hK.out _ _ HH.out (fun hH => ?_); clear hK K
 exact le26_3ff H0 p1 c1 rb w2 _ (by kernel_rfl) TH RB HH HQ
theorem le26_21f (H : le26h sb ab l r o v z ez j X W) (p1 : Option Addr) (c1 : Nat) (rb : Nat) (w : World) (listed : Array Bool) (hl : listed = #[true, true, true, true, true, false, false, false, false, true, false, false]) (L1 : Hid (Lt w p1 X.length (ft X))) (TH : Hid (w.there rb 0 4)) (RB : Hid (W.heap.size ≤ rb)) (HH : Hid (Below W.heap.size W w)) (HQ : Hid (le26f Q sb ab l r o v z ez j X U W)) : le26G Q sb ab l r o v z ez j X W 6 listed (le26S U sb ab l r o v z ez j X p1 c1 rb true false false false false true false) w := by
 subst hl
 have H0 := H
 obtain ⟨a0, a1, a2, a3, C1, E1⟩ := H
 simp only [le26G, le26S, cond_true, cond_false]
 refine wpAnyH_ready (rs := [5]) (by kernel_rfl) (by simp) ?_
 refine AllReadyH.cons (o := le265) rfl (fun K hK => ?_) AllReadyH.nil
 unfold le265
 go_simp
 refine (E1.out _ _ _ HH.out L1.out).mono ?_
 rintro e w2 ⟨rfl, hb⟩
 have SN := hidden (bl_trans HH.out hb : Below W.heap.size W w2)
 replace TH := hidden (there_bl TH.out hb)
 replace HH := SN
 clear SN L1 hb
 go_wp2_with fail
 refine hK.out _ _ HH.out (fun hH => ?_); clear hK K
 refine tk 6 le266 (.tuple #[.agg #[.int .u64 z.x0, .int .u64 z.x1, .int .u64 z.x2, .int .u64 z.x3], .int .i64 ez]) rfl (by kernel_rfl) hH rfl (fun w0 hSw => ?_) ?_
 ·(unfold le266; clear hSw; go_simp)
 unfold le266
 simp only [Act.put, sA, sB, sC]
 refine tk 7 le267 (.agg #[.int .u64 z.x0, .int .u64 z.x1, .int .u64 z.x2, .int .u64 z.x3]) rfl (by kernel_rfl) hH rfl (fun w0 hSw => ?_) ?_
 ·(unfold le267; clear hSw; go_simp)
 unfold le267
 simp only [Act.put, sA, sB, sC]
 refine tk 8 le268 (.int .i64 ez) rfl (by kernel_rfl) hH rfl (fun w0 hSw => ?_) ?_
 ·(unfold le268; clear hSw; go_simp)
 unfold le268
 simp only [Act.put, sA, sB, sC]
 exact le26_3ff H0 p1 c1 rb w2 _ (by kernel_rfl) TH RB HH HQ
theorem le26_20f (H : le26h sb ab l r o v z ez j X W) (rb : Nat) (w : World) (listed : Array Bool) (hl : listed = #[true, true, true, true, false, false, false, false, false, true, false, false]) (TH : Hid (w.there rb 0 4)) (RB : Hid (W.heap.size ≤ rb)) (HH : Hid (Below W.heap.size W w)) (HQ : Hid (le26f Q sb ab l r o v z ez j X U W)) : le26G Q sb ab l r o v z ez j X W 7 listed (le26S U sb ab l r o v z ez j X none 0 rb false false false false false true false) w := by
 subst hl
 have H0 := H
 obtain ⟨a0, a1, a2, a3, C1, E1⟩ := H
 simp only [le26G, le26S, cond_true, cond_false]
 refine wpAnyH_ready (rs := [4]) (by kernel_rfl) (by simp) ?_
 refine AllReadyH.cons (o := le264) rfl (fun K hK => ?_) AllReadyH.nil
 unfold le264
 go_simp
 refine (C1.out _ HH.out).mono ?_
 rintro e w2 ⟨p1, c1, rfl, hl, hb⟩
 have SN := hidden (bl_trans HH.out hb : Below W.heap.size W w2)
 have L1 := hidden (hl : Lt w2 p1 X.length (ft X))
 replace TH := hidden (there_bl TH.out hb)
 replace HH := SN
 clear SN  hl hb
 go_wp2_with fail
 refine hK.out _ _ HH.out (fun hH => ?_); clear hK K
 exact le26_21f H0 p1 c1 rb w2 _ (by kernel_rfl) L1 TH RB HH HQ
theorem le26_1f (H : le26h sb ab l r o v z ez j X W) (p1 : Option Addr) (c1 : Nat) (w : World) (listed : Array Bool) (hl : listed = #[true, true, true, true, true, false, false, false, false, false, false, false]) (L1 : Hid (Lt w p1 X.length (ft X))) (HH : Hid (Below W.heap.size W w)) (HQ : Hid (le26f Q sb ab l r o v z ez j X U W)) : le26G Q sb ab l r o v z ez j X W 7 listed (le26S U sb ab l r o v z ez j X p1 c1 0 true false false false false false false) w := by
 subst hl
 have H0 := H
 obtain ⟨a0, a1, a2, a3, C1, E1⟩ := H
 simp only [le26G, le26S, cond_true, cond_false]
 refine wpAnyH_ready (rs := [5, 9]) (by kernel_rfl) (by simp) ?_
 refine AllReadyH.cons (o := le265) rfl (fun K hK => ?_) (AllReadyH.cons (o := le269) rfl (fun K hK => ?_) AllReadyH.nil)
 ·unfold le265
  go_simp
  refine (E1.out _ _ _ HH.out L1.out).mono ?_
  rintro e w2 ⟨rfl, hb⟩
  have SN := hidden (bl_trans HH.out hb : Below W.heap.size W w2)
  replace HH := SN
  clear SN L1 hb
  go_wp2_with fail
  refine hK.out _ _ HH.out (fun hH => ?_); clear hK K
  refine tk 6 le266 (.tuple #[.agg #[.int .u64 z.x0, .int .u64 z.x1, .int .u64 z.x2, .int .u64 z.x3], .int .i64 ez]) rfl (by kernel_rfl) hH rfl (fun w0 hSw => ?_) ?_
  ·(unfold le266; clear hSw; go_simp)
  unfold le266
  simp only [Act.put, sA, sB, sC]
  refine tk 7 le267 (.agg #[.int .u64 z.x0, .int .u64 z.x1, .int .u64 z.x2, .int .u64 z.x3]) rfl (by kernel_rfl) hH rfl (fun w0 hSw => ?_) ?_
  ·(unfold le267; clear hSw; go_simp)
  unfold le267
  simp only [Act.put, sA, sB, sC]
  refine tk 8 le268 (.int .i64 ez) rfl (by kernel_rfl) hH rfl (fun w0 hSw => ?_) ?_
  ·(unfold le268; clear hSw; go_simp)
  unfold le268
  simp only [Act.put, sA, sB, sC]
  exact le26_1ff H0 p1 c1 w2 _ (by kernel_rfl)  HH HQ
 ·refine wp_allocS rfl (fun rb w2 htb hwq => ?_)
  have hbb : Below w.heap.size w w2 := (by rw [hwq]; exact bl_alloc _ _)
  have SN := hidden (by rw [hwq]; exact bl_trans HH.out (bl_alloc _ _) : Below W.heap.size W w2)
  have TH := hidden (by rw [htb, hwq]; exact there_newM _ [.int .u64 0, .int .u64 0, .int .u64 0, .int .u64 0] _ : w2.there rb 0 4)
  have RB := hidden (by rw [htb]; exact HH.out.size : W.heap.size ≤ rb)
  replace L1 := hidden (L1.out.keep hbb)
  replace HH := SN
  clear SN hbb  htb hwq
  unfold le269
  simp only [Act.put, sA, sB, sC]
  refine hK.out _ _ HH.out (fun hH => ?_); clear hK K
  exact le26_21f H0 p1 c1 rb w2 _ (by kernel_rfl) L1 TH RB HH HQ
theorem le26_f (H : le26h sb ab l r o v z ez j X W)  (w : World) (listed : Array Bool) (hl : listed = #[true, true, true, true, false, false, false, false, false, false, false, false])  (HH : Hid (Below W.heap.size W w)) (HQ : Hid (le26f Q sb ab l r o v z ez j X U W)) : le26G Q sb ab l r o v z ez j X W 8 listed (le26S U sb ab l r o v z ez j X none 0 0 false false false false false false false) w := by
 subst hl
 have H0 := H
 obtain ⟨a0, a1, a2, a3, C1, E1⟩ := H
 simp only [le26G, le26S, cond_true, cond_false]
 refine wpAnyH_ready (rs := [4, 9]) (by kernel_rfl) (by simp) ?_
 refine AllReadyH.cons (o := le264) rfl (fun K hK => ?_) (AllReadyH.cons (o := le269) rfl (fun K hK => ?_) AllReadyH.nil)
 ·unfold le264
  go_simp
  refine (C1.out _ HH.out).mono ?_
  rintro e w2 ⟨p1, c1, rfl, hl, hb⟩
  have SN := hidden (bl_trans HH.out hb : Below W.heap.size W w2)
  have L1 := hidden (hl : Lt w2 p1 X.length (ft X))
  replace HH := SN
  clear SN  hl hb
  go_wp2_with fail
  refine hK.out _ _ HH.out (fun hH => ?_); clear hK K
  exact le26_1f H0 p1 c1 w2 _ (by kernel_rfl) L1 HH HQ
 ·refine wp_allocS rfl (fun rb w2 htb hwq => ?_)
  have hbb : Below w.heap.size w w2 := (by rw [hwq]; exact bl_alloc _ _)
  have SN := hidden (by rw [hwq]; exact bl_trans HH.out (bl_alloc _ _) : Below W.heap.size W w2)
  have TH := hidden (by rw [htb, hwq]; exact there_newM _ [.int .u64 0, .int .u64 0, .int .u64 0, .int .u64 0] _ : w2.there rb 0 4)
  have RB := hidden (by rw [htb]; exact HH.out.size : W.heap.size ≤ rb)
  replace HH := SN
  clear SN hbb  htb hwq
  unfold le269
  simp only [Act.put, sA, sB, sC]
  refine hK.out _ _ HH.out (fun hH => ?_); clear hK K
  exact le26_20f H0 rb w2 _ (by kernel_rfl) TH RB HH HQ
end
theorem le26 (Q : Exit → Act → World → Prop) (sb ab : Nat) (l r o v : Sl) (z : E4) (ez : Int) (j : Int) (X : List Tm) (u0 u1 u2 u3 u4 u5 u6 u7 u8 u9 u10 u11 u12 u15 u16 u17 u18 u19 u20 u21 u22 u23 u24 u25 u26 u27 u28 u29 u31 u32 u33 u34 u35 u36 u37 u38 u39 u40 u41 u42 u43 u44 u45 u46 u47 u48 u49 u50 u51 u52 u53 u54 u55 u56 u57 u58 u59 u60 u61 u62 u63 u64 u65 u66 u67 u68 u69 u70 u71 u72 u73 u74 u75 u76 u77 u78 u79 u80 u81 u82 u83 u84 u85 u86 u87 u88 u89 u90 u91 u92 u93 u94 u95 u96 u97 u98 u99 u100 u101 u102 u103 u104 u105 u106 u107 u108 u109 u110 u111 u112 u113 u114 u115 u116 u117 u118 u119 u120 u121 u122 u123 u124 u125 u126 u127 u128 u129 u130 u131 u132 u133 u134 u135 u136 u137 u138 u139 u140 u141 u142 u143 u144 u145 u146 u147 u148 u149 u150 u151 u152 u153 u154 u155 u156 u157 u158 u159 u160 u161 u162 u163 u164 u165 u166 u167 u168 u169 u170 u171 u172 u173 u174 u175 u176 u177 u178 u179 u180 u181 u182 u183 u184 u185 u186 u187 u188 u189 u190 u191 u192 u193 u194 u195 u196 u197 u198 u199 u200 u201 u202 u203 u204 u205 u206 u207 u208 u209 u210 u211 u212 u213 u214 u215 u216 u217 u218 u219 u220 u221 u222 u223 u224 u225 u226 u227 u228 u229 u230 u231 u232 u233 u234 u235 u236 u237 u238 u239 u240 u241 u242 u243 u244 u245 u246 u247 u248 u249 u250 u251 u252 u253 u254 u255 u256 u257 u258 u259 u260 u261 u262 u263 u264 u265 u266 : Value) (W : World) (H : le26h sb ab l r o v z ez j X W)
  (HQ : Hid (∀ (wz : World) (p1 : Option Addr) (c1 : Nat) (rb : Nat), Below W.heap.size W wz → W.heap.size ≤ rb → wz.rangeAt rb 0 [.int .u64 z.x0, .int .u64 z.x1, .int .u64 z.x2, .int .u64 z.x3] → Q .normal ⟨#[u0, u1, u2, u3, u4, u5, u6, u7, u8, u9, u10, u11, u12, .pointer (some ⟨sb, 0, none⟩), .pointer (some ⟨ab, 0, none⟩), u15, u16, u17, u18, u19, u20, u21, u22, u23, u24, u25, u26, u27, u28, u29, .int .i64 j, u31, u32, u33, u34, .pointer (some ⟨rb, 0, none⟩), .int .i64 ez, u37, u38, u39, u40, u41, u42, u43, u44, u45, u46, u47, u48, u49, u50, u51, u52, u53, u54, u55, u56, u57, u58, u59, u60, u61, u62, u63, u64, u65, u66, u67, u68, u69, u70, u71, u72, u73, u74, u75, u76, u77, u78, u79, u80, u81, u82, u83, u84, u85, u86, u87, u88, u89, u90, u91, u92, u93, u94, u95, u96, u97, u98, u99, u100, u101, u102, u103, u104, u105, u106, u107, u108, u109, u110, u111, u112, u113, u114, u115, u116, u117, u118, u119, u120, u121, u122, u123, u124, u125, u126, u127, u128, u129, u130, u131, u132, u133, u134, u135, u136, u137, u138, u139, u140, u141, u142, u143, u144, u145, u146, u147, u148, u149, u150, u151, u152, u153, u154, u155, u156, u157, u158, u159, u160, u161, u162, u163, u164, u165, u166, u167, u168, u169, u170, u171, u172, u173, u174, u175, u176, u177, u178, u179, u180, u181, u182, u183, u184, u185, u186, u187, u188, u189, u190, u191, u192, u193, u194, u195, u196, u197, u198, u199, u200, u201, u202, u203, u204, u205, u206, u207, u208, u209, u210, u211, u212, u213, u214, u215, u216, u217, u218, u219, u220, u221, u222, u223, u224, u225, u226, u227, u228, u229, .tuple #[.agg #[.int .u64 z.x0, .int .u64 z.x1, .int .u64 z.x2, .int .u64 z.x3], .int .i64 ez], .pointer (some ⟨sb, 0, none⟩), .agg #[.slice l.p l.n l.c, .slice r.p r.n r.c, .slice o.p o.n o.c, .slice v.p v.n v.c], .int .i64 j, .agg #[.int .i64 4, .int .i64 j], .slice p1 X.length c1, .tuple #[.agg #[.int .u64 z.x0, .int .u64 z.x1, .int .u64 z.x2, .int .u64 z.x3], .int .i64 ez], .agg #[.int .u64 z.x0, .int .u64 z.x1, .int .u64 z.x2, .int .u64 z.x3], .int .i64 ez, u239, u240, u241, u242, u243, u244, u245, u246, u247, u248, u249, u250, u251, u252, u253, u254, u255, u256, u257, u258, u259, u260, u261, u262, u263, u264, u265, u266], []⟩ wz)) : (Code.region 26 le26o true).wp Tryd.prog Q ⟨#[u0, u1, u2, u3, u4, u5, u6, u7, u8, u9, u10, u11, u12, .pointer (some ⟨sb, 0, none⟩), .pointer (some ⟨ab, 0, none⟩), u15, u16, u17, u18, u19, u20, u21, u22, u23, u24, u25, u26, u27, u28, u29, .int .i64 j, u31, u32, u33, u34, u35, u36, u37, u38, u39, u40, u41, u42, u43, u44, u45, u46, u47, u48, u49, u50, u51, u52, u53, u54, u55, u56, u57, u58, u59, u60, u61, u62, u63, u64, u65, u66, u67, u68, u69, u70, u71, u72, u73, u74, u75, u76, u77, u78, u79, u80, u81, u82, u83, u84, u85, u86, u87, u88, u89, u90, u91, u92, u93, u94, u95, u96, u97, u98, u99, u100, u101, u102, u103, u104, u105, u106, u107, u108, u109, u110, u111, u112, u113, u114, u115, u116, u117, u118, u119, u120, u121, u122, u123, u124, u125, u126, u127, u128, u129, u130, u131, u132, u133, u134, u135, u136, u137, u138, u139, u140, u141, u142, u143, u144, u145, u146, u147, u148, u149, u150, u151, u152, u153, u154, u155, u156, u157, u158, u159, u160, u161, u162, u163, u164, u165, u166, u167, u168, u169, u170, u171, u172, u173, u174, u175, u176, u177, u178, u179, u180, u181, u182, u183, u184, u185, u186, u187, u188, u189, u190, u191, u192, u193, u194, u195, u196, u197, u198, u199, u200, u201, u202, u203, u204, u205, u206, u207, u208, u209, u210, u211, u212, u213, u214, u215, u216, u217, u218, u219, u220, u221, u222, u223, u224, u225, u226, u227, u228, u229, u230, u231, u232, u233, u234, u235, u236, u237, u238, u239, u240, u241, u242, u243, u244, u245, u246, u247, u248, u249, u250, u251, u252, u253, u254, u255, u256, u257, u258, u259, u260, u261, u262, u263, u264, u265, u266], []⟩ W := by
 have H0 := H
 obtain ⟨a0, a1, a2, a3, C1, E1⟩ := H
 replace HQ : Hid (le26f Q sb ab l r o v z ez j X (nth [u0, u1, u2, u3, u4, u5, u6, u7, u8, u9, u10, u11, u12, undef, undef, u15, u16, u17, u18, u19, u20, u21, u22, u23, u24, u25, u26, u27, u28, u29, undef, u31, u32, u33, u34, u35, u36, u37, u38, u39, u40, u41, u42, u43, u44, u45, u46, u47, u48, u49, u50, u51, u52, u53, u54, u55, u56, u57, u58, u59, u60, u61, u62, u63, u64, u65, u66, u67, u68, u69, u70, u71, u72, u73, u74, u75, u76, u77, u78, u79, u80, u81, u82, u83, u84, u85, u86, u87, u88, u89, u90, u91, u92, u93, u94, u95, u96, u97, u98, u99, u100, u101, u102, u103, u104, u105, u106, u107, u108, u109, u110, u111, u112, u113, u114, u115, u116, u117, u118, u119, u120, u121, u122, u123, u124, u125, u126, u127, u128, u129, u130, u131, u132, u133, u134, u135, u136, u137, u138, u139, u140, u141, u142, u143, u144, u145, u146, u147, u148, u149, u150, u151, u152, u153, u154, u155, u156, u157, u158, u159, u160, u161, u162, u163, u164, u165, u166, u167, u168, u169, u170, u171, u172, u173, u174, u175, u176, u177, u178, u179, u180, u181, u182, u183, u184, u185, u186, u187, u188, u189, u190, u191, u192, u193, u194, u195, u196, u197, u198, u199, u200, u201, u202, u203, u204, u205, u206, u207, u208, u209, u210, u211, u212, u213, u214, u215, u216, u217, u218, u219, u220, u221, u222, u223, u224, u225, u226, u227, u228, u229, u230, u231, u232, u233, u234, u235, u236, u237, u238, u239, u240, u241, u242, u243, u244, u245, u246, u247, u248, u249, u250, u251, u252, u253, u254, u255, u256, u257, u258, u259, u260, u261, u262, u263, u264, u265, u266]) W) := HQ
 refine wp_region_noPanic ?_
 refine wp_region_held_drew (S := fun x => Below W.heap.size W x) (by kernel_rfl) (bl_drew W) (fun hH => ?_)
 have HH := hidden hH
 refine tk 0 le260 (.pointer (some ⟨sb, 0, none⟩)) rfl (by kernel_rfl) hH rfl (fun w0 hSw => ?_) ?_
 ·(unfold le260; clear hSw; go_simp)
 unfold le260
 simp only [Act.put, sA, sB, sC]
 refine tk 1 le261 (.agg #[.slice l.p l.n l.c, .slice r.p r.n r.c, .slice o.p o.n o.c, .slice v.p v.n v.c]) rfl (by kernel_rfl) hH rfl (fun w0 hSw => ?_) ?_
 ·(unfold le261; have hS : Below W.heap.size W w0 := hSw; have a0 := cell_keep a0 hS; have a1 := cell_keep a1 hS; have a2 := cell_keep a2 hS; have a3 := cell_keep a3 hS; clear hS hSw; go_simp)
 unfold le261
 simp only [Act.put, sA, sB, sC]
 refine tk 2 le262 (.int .i64 j) rfl (by kernel_rfl) hH rfl (fun w0 hSw => ?_) ?_
 ·(unfold le262; clear hSw; go_simp)
 unfold le262
 simp only [Act.put, sA, sB, sC]
 refine tk 3 le263 (.agg #[.int .i64 4, .int .i64 j]) rfl (by kernel_rfl) hH rfl (fun w0 hSw => ?_) ?_
 ·(unfold le263; clear hSw; go_simp)
 unfold le263
 simp only [Act.put, sA, sB, sC]
 exact le26_f H0  W.drew _ (by kernel_rfl)  HH HQ
end Ci
end Go.Proofs.YtaendjjelpmokaaDoor
