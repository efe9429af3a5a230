import Derived.Test.YtaejdgpffipaeaaGreatDoorTk
import Derived.Test.YtaejdgpffipaeaaGreatDoorCep
namespace Go.Proofs.YtaejdgpffipaeaaGreatDoor
open Go.RowKit
set_option linter.unusedVariables false
set_option linter.unusedSimpArgs false
open Cm (Wr Tm co bf Ls lf ins Eqm)
namespace Ci
set_option maxRecDepth 100000
set_option maxHeartbeats 16000000
def lv80 : Oper := { dst := some 36, op := Op.load 48 (Operand.tmp 6), type := 48, pos := "outright.go:21", after := #[], guard := none }
def lv81 : Oper := { dst := some 37, op := Op.buildSlice 51 1 #[(0, Operand.tmp 36)], type := 51, pos := "outright.go:21", after := #[DD 0], guard := none }
def lv82 : Oper := { dst := some 38, op := Op.load 48 (Operand.tmp 6), type := 48, pos := "outright.go:21", after := #[], guard := none }
def lv83 : Oper := { dst := some 39, op := Op.buildSlice 51 1 #[(0, Operand.tmp 38)], type := 51, pos := "outright.go:21", after := #[DD 2], guard := none }
def lv84 : Oper := { dst := some 40, op := Op.call { callee := Callee.value (Operand.func 18), args := #[Operand.const (Value.int IntKind.u64 25)], argTypes := #[46] }, type := 48, pos := "outright.go:21", after := #[], guard := none }
def lv85 : Oper := { dst := some 41, op := Op.buildSlice 51 1 #[(0, Operand.tmp 40)], type := 51, pos := "outright.go:21", after := #[DD 4], guard := none }
def lv86 : Oper := { dst := some 42, op := Op.load 48 (Operand.tmp 6), type := 48, pos := "outright.go:21", after := #[], guard := none }
def lv87 : Oper := { dst := some 43, op := Op.buildSlice 51 1 #[(0, Operand.tmp 42)], type := 51, pos := "outright.go:21", after := #[DD 6], guard := none }
def lv88 : Oper := { dst := some 44, op := Op.build 53 #[(0, Operand.tmp 37), (1, Operand.tmp 39), (2, Operand.tmp 41), (3, Operand.tmp 43)], type := 53, pos := "outright.go:21", after := #[DD 1, DD 3, DD 5, DD 7], guard := none }
def lv89 : Oper := { dst := some 8, op := Op.alloc 53, type := 0, pos := "outright.go:21", after := #[], guard := none }
def lv810 : Oper := { dst := none, op := Op.store 53 (Operand.tmp 8) (Operand.tmp 44), type := 0, pos := "outright.go:21", after := #[DD 9, DD 8, CH 4, PH 0, PH 1, PH 2, PH 3, PH 4, PH 5, PH 6, PH 7, PH 8, PH 9], guard := none }
def lv8o : Array Oper := #[lv80, lv81, lv82, lv83, lv84, lv85, lv86, lv87, lv88, lv89, lv810]
structure lv8h (x6 : Nat) (q u : E4) (W : World) : Prop where
 x60 : W.cell? ⟨x6, 0, none⟩ = some (.int .u64 q.x0)
 x61 : W.cell? ⟨x6, 1, none⟩ = some (.int .u64 q.x1)
 x62 : W.cell? ⟨x6, 2, none⟩ = some (.int .u64 q.x2)
 x63 : W.cell? ⟨x6, 3, none⟩ = some (.int .u64 q.x3)
 C1 : Hid (∀ y, Calls Tryz.prog 18 #[.int .u64 25] y fun e w' => e = .returned (.agg #[.int .u64 u.x0, .int .u64 u.x1, .int .u64 u.x2, .int .u64 u.x3]) ∧ Below y.heap.size y w')
def lv8S (U : Nat → Value) (x6 : Nat) (q u : E4) (t1 : Nat) (t2 : Nat) (t3 : Nat) (t4 : Nat) (rb : Nat) (f1 f3 f4 f5 f7 f8 f9 : Bool) : Array Value := #[U 0, U 1, U 2, U 3, U 4, U 5, .pointer (some ⟨x6, 0, none⟩), U 7, bif f9 then .pointer (some ⟨rb, 0, none⟩) else U 8, U 9, U 10, U 11, U 12, U 13, U 14, U 15, U 16, U 17, U 18, U 19, U 20, U 21, U 22, U 23, U 24, U 25, U 26, U 27, U 28, U 29, U 30, U 31, U 32, U 33, U 34, U 35, .agg #[.int .u64 q.x0, .int .u64 q.x1, .int .u64 q.x2, .int .u64 q.x3], bif f1 then .slice (some ⟨t1, 0, none⟩) 1 1 else U 37, .agg #[.int .u64 q.x0, .int .u64 q.x1, .int .u64 q.x2, .int .u64 q.x3], bif f3 then .slice (some ⟨t2, 0, none⟩) 1 1 else U 39, bif f4 then .agg #[.int .u64 u.x0, .int .u64 u.x1, .int .u64 u.x2, .int .u64 u.x3] else U 40, bif f5 then .slice (some ⟨t3, 0, none⟩) 1 1 else U 41, .agg #[.int .u64 q.x0, .int .u64 q.x1, .int .u64 q.x2, .int .u64 q.x3], bif f7 then .slice (some ⟨t4, 0, none⟩) 1 1 else U 43, bif f8 then .agg #[.slice (some ⟨t1, 0, none⟩) 1 1, .slice (some ⟨t2, 0, none⟩) 1 1, .slice (some ⟨t3, 0, none⟩) 1 1, .slice (some ⟨t4, 0, none⟩) 1 1] else U 44, U 45, U 46, U 47, U 48, U 49, U 50, U 51, U 52, U 53, U 54, U 55, U 56, U 57, U 58, U 59, U 60, U 61, U 62, U 63]
def lv8G (Q : Exit → Act → World → Prop) (x6 : Nat) (q u : E4) (W : World) (fuel : Nat) (listed : Array Bool) (a : Array Value) (w : World) : Prop := wpAnyH Tryz.prog Region.Mode.any lv8o (NoPanic Q) (fun x => Below W.heap.size W x) fuel listed ⟨a, []⟩ w
def lv8f (Q : Exit → Act → World → Prop) (x6 : Nat) (q u : E4) (U : Nat → Value) (W : World) : Prop := ∀ (wz : World) (t1 t2 t3 t4 rb : Nat), Below W.heap.size W wz → wz.rangeAt t1 0 [.int .u64 q.x0, .int .u64 q.x1, .int .u64 q.x2, .int .u64 q.x3] → wz.rangeAt t2 0 [.int .u64 q.x0, .int .u64 q.x1, .int .u64 q.x2, .int .u64 q.x3] → wz.rangeAt t3 0 [.int .u64 u.x0, .int .u64 u.x1, .int .u64 u.x2, .int .u64 u.x3] → wz.rangeAt t4 0 [.int .u64 q.x0, .int .u64 q.x1, .int .u64 q.x2, .int .u64 q.x3] → W.heap.size ≤ rb → wz.rangeAt rb 0 [.slice (some ⟨t1, 0, none⟩) 1 1, .slice (some ⟨t2, 0, none⟩) 1 1, .slice (some ⟨t3, 0, none⟩) 1 1, .slice (some ⟨t4, 0, none⟩) 1 1] → Q .normal ⟨lv8S U x6 q u t1 t2 t3 t4 rb true true true true true true true, []⟩ wz
section
variable {Q : Exit → Act → World → Prop} {x6 : Nat} {q u : E4} {U : Nat → Value} {W : World}
theorem lv8_7ff (H : lv8h x6 q u W) (t1 : Nat) (t2 : Nat) (t3 : Nat) (t4 : Nat) (rb : Nat) (w : World) (listed : Array Bool) (hl : listed = #[true, true, true, true, true, true, true, true, true, true, true]) (A1 : Hid (Rg w t1 q)) (N1 : Hid (t1 ≠ rb)) (A2 : Hid (Rg w t2 q)) (N2 : Hid (t2 ≠ rb)) (A3 : Hid (Rg w t3 u)) (N3 : Hid (t3 ≠ rb)) (A4 : Hid (Rg w t4 q)) (N4 : Hid (t4 ≠ rb)) (RB : Hid (W.heap.size ≤ rb)) (FR : Hid (w.rangeAt rb 0 [.slice (some ⟨t1, 0, none⟩) 1 1, .slice (some ⟨t2, 0, none⟩) 1 1, .slice (some ⟨t3, 0, none⟩) 1 1, .slice (some ⟨t4, 0, none⟩) 1 1])) (HH : Hid (Below W.heap.size W w)) (HQ : Hid (lv8f Q x6 q u U W)) : lv8G Q x6 q u W 0 listed (lv8S U x6 q u t1 t2 t3 t4 rb true true true true true true true) w := by
 subst hl
 have H0 := H
 obtain ⟨x60, x61, x62, x63, C1⟩ := H
 simp only [lv8G, lv8S, cond_true, cond_false]
 refine wpAnyH_done (by kernel_rfl) ?_ _
 refine NoPanic.normal ?_
 exact HQ.out _ t1 t2 t3 t4 rb HH.out A1.out A2.out A3.out A4.out RB.out FR.out
theorem lv8_3ff (H : lv8h x6 q u W) (t1 : Nat) (t2 : Nat) (t3 : Nat) (t4 : Nat) (rb : Nat) (w : World) (listed : Array Bool) (hl : listed = #[true, true, true, true, true, true, true, true, true, true, false]) (A1 : Hid (Rg w t1 q)) (N1 : Hid (t1 ≠ rb)) (A2 : Hid (Rg w t2 q)) (N2 : Hid (t2 ≠ rb)) (A3 : Hid (Rg w t3 u)) (N3 : Hid (t3 ≠ rb)) (A4 : Hid (Rg w t4 q)) (N4 : Hid (t4 ≠ rb)) (TH : Hid (w.there rb 0 4)) (RB : Hid (W.heap.size ≤ rb)) (HH : Hid (Below W.heap.size W w)) (HQ : Hid (lv8f Q x6 q u U W)) : lv8G Q x6 q u W 1 listed (lv8S U x6 q u t1 t2 t3 t4 rb true true true true true true true) w := by
 subst hl
 have H0 := H
 obtain ⟨x60, x61, x62, x63, C1⟩ := H
 simp only [lv8G, lv8S, cond_true, cond_false]
 refine wpAnyH_ready (rs := [10]) (by kernel_rfl) (by simp) ?_
 refine AllReadyH.cons (o := lv810) rfl (fun K hK => ?_) AllReadyH.nil
 refine wp_storeE 53 _ _ rfl rb 0 ([.slice (some ⟨t1, 0, none⟩) 1 1, .slice (some ⟨t2, 0, none⟩) 1 1, .slice (some ⟨t3, 0, none⟩) 1 1, .slice (some ⟨t4, 0, none⟩) 1 1]) (by rfl) (by rfl) TH.out i4a (by simp [Value.oneCell']) rfl (fun w2 hw => ?_)
 have SN := hidden (by rw [hw]; exact HH.out.grown (gb_setCells rb [.slice (some ⟨t1, 0, none⟩) 1 1, .slice (some ⟨t2, 0, none⟩) 1 1, .slice (some ⟨t3, 0, none⟩) 1 1, .slice (some ⟨t4, 0, none⟩) 1 1] 0 _) HH.out.size (fun k hk => by obtain rfl := Option.some.inj hk; exact RB.out) : Below W.heap.size W w2)
 have FR := hidden (by rw [hw]; exact World.rangeAt_setCells_same _ rb 0 _ TH.out : w2.rangeAt rb 0 [.slice (some ⟨t1, 0, none⟩) 1 1, .slice (some ⟨t2, 0, none⟩) 1 1, .slice (some ⟨t3, 0, none⟩) 1 1, .slice (some ⟨t4, 0, none⟩) 1 1])
 replace A1 := hidden (by rw [hw]; exact fun j u hu => (gb_setCells rb [.slice (some ⟨t1, 0, none⟩) 1 1, .slice (some ⟨t2, 0, none⟩) 1 1, .slice (some ⟨t3, 0, none⟩) 1 1, .slice (some ⟨t4, 0, none⟩) 1 1] 0 _).cell (A1.out j u hu) (fun e => N1.out (Option.some.inj e)) : Rg w2 t1 q)
 replace A2 := hidden (by rw [hw]; exact fun j u hu => (gb_setCells rb [.slice (some ⟨t1, 0, none⟩) 1 1, .slice (some ⟨t2, 0, none⟩) 1 1, .slice (some ⟨t3, 0, none⟩) 1 1, .slice (some ⟨t4, 0, none⟩) 1 1] 0 _).cell (A2.out j u hu) (fun e => N2.out (Option.some.inj e)) : Rg w2 t2 q)
 replace A3 := hidden (by rw [hw]; exact fun j u hu => (gb_setCells rb [.slice (some ⟨t1, 0, none⟩) 1 1, .slice (some ⟨t2, 0, none⟩) 1 1, .slice (some ⟨t3, 0, none⟩) 1 1, .slice (some ⟨t4, 0, none⟩) 1 1] 0 _).cell (A3.out j u hu) (fun e => N3.out (Option.some.inj e)) : Rg w2 t3 u)
 replace A4 := hidden (by rw [hw]; exact fun j u hu => (gb_setCells rb [.slice (some ⟨t1, 0, none⟩) 1 1, .slice (some ⟨t2, 0, none⟩) 1 1, .slice (some ⟨t3, 0, none⟩) 1 1, .slice (some ⟨t4, 0, none⟩) 1 1] 0 _).cell (A4.out j u hu) (fun e => N4.out (Option.some.inj e)) : Rg w2 t4 q)
 replace HH := SN
 clear SN TH hw
 refine hK.out _ _ HH.out (fun hH => ?_); clear hK K
 exact lv8_7ff H0 t1 t2 t3 t4 rb w2 _ (by kernel_rfl) A1 N1 A2 N2 A3 N3 A4 N4 RB FR HH HQ
theorem lv8_1ff (H : lv8h x6 q u W) (t1 : Nat) (t2 : Nat) (t3 : Nat) (t4 : Nat) (w : World) (listed : Array Bool) (hl : listed = #[true, true, true, true, true, true, true, true, true, false, false]) (A1 : Hid (Rg w t1 q)) (A2 : Hid (Rg w t2 q)) (A3 : Hid (Rg w t3 u)) (A4 : Hid (Rg w t4 q)) (HH : Hid (Below W.heap.size W w)) (HQ : Hid (lv8f Q x6 q u U W)) : lv8G Q x6 q u W 2 listed (lv8S U x6 q u t1 t2 t3 t4 0 true true true true true true false) w := by
 subst hl
 have H0 := H
 obtain ⟨x60, x61, x62, x63, C1⟩ := H
 simp only [lv8G, lv8S, cond_true, cond_false]
 refine wpAnyH_ready (rs := [9]) (by kernel_rfl) (by simp) ?_
 refine AllReadyH.cons (o := lv89) rfl (fun K hK => ?_) AllReadyH.nil
 refine wp_a1 HH rfl (fun rb w2 hbb SN TH RB htb => ?_)
 have N1 := nRG A1 htb
 have N2 := nRG A2 htb
 have N3 := nRG A3 htb
 have N4 := nRG A4 htb
 replace A1 := kRg A1 hbb
 replace A2 := kRg A2 hbb
 replace A3 := kRg A3 hbb
 replace A4 := kRg A4 hbb
 replace HH := SN
 clear SN hbb htb
 unfold lv89
 simp only [Act.put, sA, sB, sC]
 refine hK.out _ _ HH.out (fun hH => ?_); clear hK K
 exact lv8_3ff H0 t1 t2 t3 t4 rb w2 _ (by kernel_rfl) A1 N1 A2 N2 A3 N3 A4 N4 TH RB HH HQ
theorem lv8_2fd (H : lv8h x6 q u W) (t2 : Nat) (t3 : Nat) (t4 : Nat) (rb : Nat) (w : World) (listed : Array Bool) (hl : listed = #[true, false, true, true, true, true, true, true, false, true, false]) (A2 : Hid (Rg w t2 q)) (N2 : Hid (t2 ≠ rb)) (A3 : Hid (Rg w t3 u)) (N3 : Hid (t3 ≠ rb)) (A4 : Hid (Rg w t4 q)) (N4 : Hid (t4 ≠ rb)) (TH : Hid (w.there rb 0 4)) (RB : Hid (W.heap.size ≤ rb)) (HH : Hid (Below W.heap.size W w)) (HQ : Hid (lv8f Q x6 q u U W)) : lv8G Q x6 q u W 3 listed (lv8S U x6 q u 0 t2 t3 t4 rb false true true true true false true) w := by
 subst hl
 have H0 := H
 obtain ⟨x60, x61, x62, x63, C1⟩ := H
 simp only [lv8G, lv8S, cond_true, cond_false]
 refine wpAnyH_ready (rs := [1]) (by kernel_rfl) (by simp) ?_
 refine AllReadyH.cons (o := lv81) rfl (fun K hK => ?_) AllReadyH.nil
 refine wp_b1 HH _ rfl q rfl (fun t1 w2 hbb SN A1 htb => ?_)
 have N1 := nTH TH htb
 replace A2 := kRg A2 hbb
 replace A3 := kRg A3 hbb
 replace A4 := kRg A4 hbb
 replace TH := kTH TH hbb
 replace HH := SN
 clear SN hbb htb
 unfold lv81
 simp only [Act.put, sA, sB, sC]
 refine hK.out _ _ HH.out (fun hH => ?_); clear hK K
 refine tj 8 lv88 (.agg #[.slice (some ⟨t1, 0, none⟩) 1 1, .slice (some ⟨t2, 0, none⟩) 1 1, .slice (some ⟨t3, 0, none⟩) 1 1, .slice (some ⟨t4, 0, none⟩) 1 1]) hH (fun w0 hSw => ?_) ?_
 ·(unfold lv88; clear hSw; go_simp)
 unfold lv88
 simp only [Act.put, sA, sB, sC]
 exact lv8_3ff H0 t1 t2 t3 t4 rb w2 _ (by kernel_rfl) A1 N1 A2 N2 A3 N3 A4 N4 TH RB HH HQ
theorem lv8_2f7 (H : lv8h x6 q u W) (t1 : Nat) (t3 : Nat) (t4 : Nat) (rb : Nat) (w : World) (listed : Array Bool) (hl : listed = #[true, true, true, false, true, true, true, true, false, true, false]) (A1 : Hid (Rg w t1 q)) (N1 : Hid (t1 ≠ rb)) (A3 : Hid (Rg w t3 u)) (N3 : Hid (t3 ≠ rb)) (A4 : Hid (Rg w t4 q)) (N4 : Hid (t4 ≠ rb)) (TH : Hid (w.there rb 0 4)) (RB : Hid (W.heap.size ≤ rb)) (HH : Hid (Below W.heap.size W w)) (HQ : Hid (lv8f Q x6 q u U W)) : lv8G Q x6 q u W 3 listed (lv8S U x6 q u t1 0 t3 t4 rb true false true true true false true) w := by
 subst hl
 have H0 := H
 obtain ⟨x60, x61, x62, x63, C1⟩ := H
 simp only [lv8G, lv8S, cond_true, cond_false]
 refine wpAnyH_ready (rs := [3]) (by kernel_rfl) (by simp) ?_
 refine AllReadyH.cons (o := lv83) rfl (fun K hK => ?_) AllReadyH.nil
 refine wp_b1 HH _ rfl q rfl (fun t2 w2 hbb SN A2 htb => ?_)
 have N2 := nTH TH htb
 replace A1 := kRg A1 hbb
 replace A3 := kRg A3 hbb
 replace A4 := kRg A4 hbb
 replace TH := kTH TH hbb
 replace HH := SN
 clear SN hbb htb
 unfold lv83
 simp only [Act.put, sA, sB, sC]
 refine hK.out _ _ HH.out (fun hH => ?_); clear hK K
 refine tj 8 lv88 (.agg #[.slice (some ⟨t1, 0, none⟩) 1 1, .slice (some ⟨t2, 0, none⟩) 1 1, .slice (some ⟨t3, 0, none⟩) 1 1, .slice (some ⟨t4, 0, none⟩) 1 1]) hH (fun w0 hSw => ?_) ?_
 ·(unfold lv88; clear hSw; go_simp)
 unfold lv88
 simp only [Act.put, sA, sB, sC]
 exact lv8_3ff H0 t1 t2 t3 t4 rb w2 _ (by kernel_rfl) A1 N1 A2 N2 A3 N3 A4 N4 TH RB HH HQ
theorem lv8_2df (H : lv8h x6 q u W) (t1 : Nat) (t2 : Nat) (t4 : Nat) (rb : Nat) (w : World) (listed : Array Bool) (hl : listed = #[true, true, true, true, true, false, true, true, false, true, false]) (A1 : Hid (Rg w t1 q)) (N1 : Hid (t1 ≠ rb)) (A2 : Hid (Rg w t2 q)) (N2 : Hid (t2 ≠ rb)) (A4 : Hid (Rg w t4 q)) (N4 : Hid (t4 ≠ rb)) (TH : Hid (w.there rb 0 4)) (RB : Hid (W.heap.size ≤ rb)) (HH : Hid (Below W.heap.size W w)) (HQ : Hid (lv8f Q x6 q u U W)) : lv8G Q x6 q u W 3 listed (lv8S U x6 q u t1 t2 0 t4 rb true true true false true false true) w := by
 subst hl
 have H0 := H
 obtain ⟨x60, x61, x62, x63, C1⟩ := H
 simp only [lv8G, lv8S, cond_true, cond_false]
 refine wpAnyH_ready (rs := [5]) (by kernel_rfl) (by simp) ?_
 refine AllReadyH.cons (o := lv85) rfl (fun K hK => ?_) AllReadyH.nil
 refine wp_b1 HH _ rfl u rfl (fun t3 w2 hbb SN A3 htb => ?_)
 have N3 := nTH TH htb
 replace A1 := kRg A1 hbb
 replace A2 := kRg A2 hbb
 replace A4 := kRg A4 hbb
 replace TH := kTH TH hbb
 replace HH := SN
 clear SN hbb htb
 unfold lv85
 simp only [Act.put, sA, sB, sC]
 refine hK.out _ _ HH.out (fun hH => ?_); clear hK K
 refine tj 8 lv88 (.agg #[.slice (some ⟨t1, 0, none⟩) 1 1, .slice (some ⟨t2, 0, none⟩) 1 1, .slice (some ⟨t3, 0, none⟩) 1 1, .slice (some ⟨t4, 0, none⟩) 1 1]) hH (fun w0 hSw => ?_) ?_
 ·(unfold lv88; clear hSw; go_simp)
 unfold lv88
 simp only [Act.put, sA, sB, sC]
 exact lv8_3ff H0 t1 t2 t3 t4 rb w2 _ (by kernel_rfl) A1 N1 A2 N2 A3 N3 A4 N4 TH RB HH HQ
theorem lv8_27f (H : lv8h x6 q u W) (t1 : Nat) (t2 : Nat) (t3 : Nat) (rb : Nat) (w : World) (listed : Array Bool) (hl : listed = #[true, true, true, true, true, true, true, false, false, true, false]) (A1 : Hid (Rg w t1 q)) (N1 : Hid (t1 ≠ rb)) (A2 : Hid (Rg w t2 q)) (N2 : Hid (t2 ≠ rb)) (A3 : Hid (Rg w t3 u)) (N3 : Hid (t3 ≠ rb)) (TH : Hid (w.there rb 0 4)) (RB : Hid (W.heap.size ≤ rb)) (HH : Hid (Below W.heap.size W w)) (HQ : Hid (lv8f Q x6 q u U W)) : lv8G Q x6 q u W 3 listed (lv8S U x6 q u t1 t2 t3 0 rb true true true true false false true) w := by
 subst hl
 have H0 := H
 obtain ⟨x60, x61, x62, x63, C1⟩ := H
 simp only [lv8G, lv8S, cond_true, cond_false]
 refine wpAnyH_ready (rs := [7]) (by kernel_rfl) (by simp) ?_
 refine AllReadyH.cons (o := lv87) rfl (fun K hK => ?_) AllReadyH.nil
 refine wp_b1 HH _ rfl q rfl (fun t4 w2 hbb SN A4 htb => ?_)
 have N4 := nTH TH htb
 replace A1 := kRg A1 hbb
 replace A2 := kRg A2 hbb
 replace A3 := kRg A3 hbb
 replace TH := kTH TH hbb
 replace HH := SN
 clear SN hbb htb
 unfold lv87
 simp only [Act.put, sA, sB, sC]
 refine hK.out _ _ HH.out (fun hH => ?_); clear hK K
 refine tj 8 lv88 (.agg #[.slice (some ⟨t1, 0, none⟩) 1 1, .slice (some ⟨t2, 0, none⟩) 1 1, .slice (some ⟨t3, 0, none⟩) 1 1, .slice (some ⟨t4, 0, none⟩) 1 1]) hH (fun w0 hSw => ?_) ?_
 ·(unfold lv88; clear hSw; go_simp)
 unfold lv88
 simp only [Act.put, sA, sB, sC]
 exact lv8_3ff H0 t1 t2 t3 t4 rb w2 _ (by kernel_rfl) A1 N1 A2 N2 A3 N3 A4 N4 TH RB HH HQ
theorem lv8_2f5 (H : lv8h x6 q u W) (t3 : Nat) (t4 : Nat) (rb : Nat) (w : World) (listed : Array Bool) (hl : listed = #[true, false, true, false, true, true, true, true, false, true, false]) (A3 : Hid (Rg w t3 u)) (N3 : Hid (t3 ≠ rb)) (A4 : Hid (Rg w t4 q)) (N4 : Hid (t4 ≠ rb)) (TH : Hid (w.there rb 0 4)) (RB : Hid (W.heap.size ≤ rb)) (HH : Hid (Below W.heap.size W w)) (HQ : Hid (lv8f Q x6 q u U W)) : lv8G Q x6 q u W 4 listed (lv8S U x6 q u 0 0 t3 t4 rb false false true true true false true) w := by
 subst hl
 have H0 := H
 obtain ⟨x60, x61, x62, x63, C1⟩ := H
 simp only [lv8G, lv8S, cond_true, cond_false]
 refine wpAnyH_ready (rs := [1, 3]) (by kernel_rfl) (by simp) ?_
 refine AllReadyH.cons (o := lv81) rfl (fun K hK => ?_) (AllReadyH.cons (o := lv83) rfl (fun K hK => ?_) AllReadyH.nil)
 ·refine wp_b1 HH _ rfl q rfl (fun t1 w2 hbb SN A1 htb => ?_)
  have N1 := nTH TH htb
  replace A3 := kRg A3 hbb
  replace A4 := kRg A4 hbb
  replace TH := kTH TH hbb
  replace HH := SN
  clear SN hbb htb
  unfold lv81
  simp only [Act.put, sA, sB, sC]
  refine hK.out _ _ HH.out (fun hH => ?_); clear hK K
  exact lv8_2f7 H0 t1 t3 t4 rb w2 _ (by kernel_rfl) A1 N1 A3 N3 A4 N4 TH RB HH HQ
 ·refine wp_b1 HH _ rfl q rfl (fun t2 w2 hbb SN A2 htb => ?_)
  have N2 := nTH TH htb
  replace A3 := kRg A3 hbb
  replace A4 := kRg A4 hbb
  replace TH := kTH TH hbb
  replace HH := SN
  clear SN hbb htb
  unfold lv83
  simp only [Act.put, sA, sB, sC]
  refine hK.out _ _ HH.out (fun hH => ?_); clear hK K
  exact lv8_2fd H0 t2 t3 t4 rb w2 _ (by kernel_rfl) A2 N2 A3 N3 A4 N4 TH RB HH HQ
theorem lv8_2dd (H : lv8h x6 q u W) (t2 : Nat) (t4 : Nat) (rb : Nat) (w : World) (listed : Array Bool) (hl : listed = #[true, false, true, true, true, false, true, true, false, true, false]) (A2 : Hid (Rg w t2 q)) (N2 : Hid (t2 ≠ rb)) (A4 : Hid (Rg w t4 q)) (N4 : Hid (t4 ≠ rb)) (TH : Hid (w.there rb 0 4)) (RB : Hid (W.heap.size ≤ rb)) (HH : Hid (Below W.heap.size W w)) (HQ : Hid (lv8f Q x6 q u U W)) : lv8G Q x6 q u W 4 listed (lv8S U x6 q u 0 t2 0 t4 rb false true true false true false true) w := by
 subst hl
 have H0 := H
 obtain ⟨x60, x61, x62, x63, C1⟩ := H
 simp only [lv8G, lv8S, cond_true, cond_false]
 refine wpAnyH_ready (rs := [1, 5]) (by kernel_rfl) (by simp) ?_
 refine AllReadyH.cons (o := lv81) rfl (fun K hK => ?_) (AllReadyH.cons (o := lv85) rfl (fun K hK => ?_) AllReadyH.nil)
 ·refine wp_b1 HH _ rfl q rfl (fun t1 w2 hbb SN A1 htb => ?_)
  have N1 := nTH TH htb
  replace A2 := kRg A2 hbb
  replace A4 := kRg A4 hbb
  replace TH := kTH TH hbb
  replace HH := SN
  clear SN hbb htb
  unfold lv81
  simp only [Act.put, sA, sB, sC]
  refine hK.out _ _ HH.out (fun hH => ?_); clear hK K
  exact lv8_2df H0 t1 t2 t4 rb w2 _ (by kernel_rfl) A1 N1 A2 N2 A4 N4 TH RB HH HQ
 ·refine wp_b1 HH _ rfl u rfl (fun t3 w2 hbb SN A3 htb => ?_)
  have N3 := nTH TH htb
  replace A2 := kRg A2 hbb
  replace A4 := kRg A4 hbb
  replace TH := kTH TH hbb
  replace HH := SN
  clear SN hbb htb
  unfold lv85
  simp only [Act.put, sA, sB, sC]
  refine hK.out _ _ HH.out (fun hH => ?_); clear hK K
  exact lv8_2fd H0 t2 t3 t4 rb w2 _ (by kernel_rfl) A2 N2 A3 N3 A4 N4 TH RB HH HQ
theorem lv8_2d7 (H : lv8h x6 q u W) (t1 : Nat) (t4 : Nat) (rb : Nat) (w : World) (listed : Array Bool) (hl : listed = #[true, true, true, false, true, false, true, true, false, true, false]) (A1 : Hid (Rg w t1 q)) (N1 : Hid (t1 ≠ rb)) (A4 : Hid (Rg w t4 q)) (N4 : Hid (t4 ≠ rb)) (TH : Hid (w.there rb 0 4)) (RB : Hid (W.heap.size ≤ rb)) (HH : Hid (Below W.heap.size W w)) (HQ : Hid (lv8f Q x6 q u U W)) : lv8G Q x6 q u W 4 listed (lv8S U x6 q u t1 0 0 t4 rb true false true false true false true) w := by
 subst hl
 have H0 := H
 obtain ⟨x60, x61, x62, x63, C1⟩ := H
 simp only [lv8G, lv8S, cond_true, cond_false]
 refine wpAnyH_ready (rs := [3, 5]) (by kernel_rfl) (by simp) ?_
 refine AllReadyH.cons (o := lv83) rfl (fun K hK => ?_) (AllReadyH.cons (o := lv85) rfl (fun K hK => ?_) AllReadyH.nil)
 ·refine wp_b1 HH _ rfl q rfl (fun t2 w2 hbb SN A2 htb => ?_)
  have N2 := nTH TH htb
  replace A1 := kRg A1 hbb
  replace A4 := kRg A4 hbb
  replace TH := kTH TH hbb
  replace HH := SN
  clear SN hbb htb
  unfold lv83
  simp only [Act.put, sA, sB, sC]
  refine hK.out _ _ HH.out (fun hH => ?_); clear hK K
  exact lv8_2df H0 t1 t2 t4 rb w2 _ (by kernel_rfl) A1 N1 A2 N2 A4 N4 TH RB HH HQ
 ·refine wp_b1 HH _ rfl u rfl (fun t3 w2 hbb SN A3 htb => ?_)
  have N3 := nTH TH htb
  replace A1 := kRg A1 hbb
  replace A4 := kRg A4 hbb
  replace TH := kTH TH hbb
  replace HH := SN
  clear SN hbb htb
  unfold lv85
  simp only [Act.put, sA, sB, sC]
  refine hK.out _ _ HH.out (fun hH => ?_); clear hK K
  exact lv8_2f7 H0 t1 t3 t4 rb w2 _ (by kernel_rfl) A1 N1 A3 N3 A4 N4 TH RB HH HQ
theorem lv8_2cf (H : lv8h x6 q u W) (t1 : Nat) (t2 : Nat) (t4 : Nat) (rb : Nat) (w : World) (listed : Array Bool) (hl : listed = #[true, true, true, true, false, false, true, true, false, true, false]) (A1 : Hid (Rg w t1 q)) (N1 : Hid (t1 ≠ rb)) (A2 : Hid (Rg w t2 q)) (N2 : Hid (t2 ≠ rb)) (A4 : Hid (Rg w t4 q)) (N4 : Hid (t4 ≠ rb)) (TH : Hid (w.there rb 0 4)) (RB : Hid (W.heap.size ≤ rb)) (HH : Hid (Below W.heap.size W w)) (HQ : Hid (lv8f Q x6 q u U W)) : lv8G Q x6 q u W 4 listed (lv8S U x6 q u t1 t2 0 t4 rb true true false false true false true) w := by
 subst hl
 have H0 := H
 obtain ⟨x60, x61, x62, x63, C1⟩ := H
 simp only [lv8G, lv8S, cond_true, cond_false]
 refine wpAnyH_ready (rs := [4]) (by kernel_rfl) (by simp) ?_
 refine AllReadyH.cons (o := lv84) rfl (fun K hK => ?_) AllReadyH.nil
 unfold lv84
 go_simp
 refine (C1.out _).mono ?_
 rintro e w2 ⟨rfl, hb⟩
 have SN := hidden (bl_trans HH.out hb : Below W.heap.size W w2)
 replace A1 := kRg A1 hb
 replace A2 := kRg A2 hb
 replace A4 := kRg A4 hb
 replace TH := kTH TH hb
 replace HH := SN
 clear SN  hb
 go_wp2_with fail
 refine hK.out _ _ HH.out (fun hH => ?_); clear hK K
 exact lv8_2df H0 t1 t2 t4 rb w2 _ (by kernel_rfl) A1 N1 A2 N2 A4 N4 TH RB HH HQ
theorem lv8_27d (H : lv8h x6 q u W) (t2 : Nat) (t3 : Nat) (rb : Nat) (w : World) (listed : Array Bool) (hl : listed = #[true, false, true, true, true, true, true, false, false, true, false]) (A2 : Hid (Rg w t2 q)) (N2 : Hid (t2 ≠ rb)) (A3 : Hid (Rg w t3 u)) (N3 : Hid (t3 ≠ rb)) (TH : Hid (w.there rb 0 4)) (RB : Hid (W.heap.size ≤ rb)) (HH : Hid (Below W.heap.size W w)) (HQ : Hid (lv8f Q x6 q u U W)) : lv8G Q x6 q u W 4 listed (lv8S U x6 q u 0 t2 t3 0 rb false true true true false false true) w := by
 subst hl
 have H0 := H
 obtain ⟨x60, x61, x62, x63, C1⟩ := H
 simp only [lv8G, lv8S, cond_true, cond_false]
 refine wpAnyH_ready (rs := [1, 7]) (by kernel_rfl) (by simp) ?_
 refine AllReadyH.cons (o := lv81) rfl (fun K hK => ?_) (AllReadyH.cons (o := lv87) rfl (fun K hK => ?_) AllReadyH.nil)
 ·refine wp_b1 HH _ rfl q rfl (fun t1 w2 hbb SN A1 htb => ?_)
  have N1 := nTH TH htb
  replace A2 := kRg A2 hbb
  replace A3 := kRg A3 hbb
  replace TH := kTH TH hbb
  replace HH := SN
  clear SN hbb htb
  unfold lv81
  simp only [Act.put, sA, sB, sC]
  refine hK.out _ _ HH.out (fun hH => ?_); clear hK K
  exact lv8_27f H0 t1 t2 t3 rb w2 _ (by kernel_rfl) A1 N1 A2 N2 A3 N3 TH RB HH HQ
 ·refine wp_b1 HH _ rfl q rfl (fun t4 w2 hbb SN A4 htb => ?_)
  have N4 := nTH TH htb
  replace A2 := kRg A2 hbb
  replace A3 := kRg A3 hbb
  replace TH := kTH TH hbb
  replace HH := SN
  clear SN hbb htb
  unfold lv87
  simp only [Act.put, sA, sB, sC]
  refine hK.out _ _ HH.out (fun hH => ?_); clear hK K
  exact lv8_2fd H0 t2 t3 t4 rb w2 _ (by kernel_rfl) A2 N2 A3 N3 A4 N4 TH RB HH HQ
theorem lv8_277 (H : lv8h x6 q u W) (t1 : Nat) (t3 : Nat) (rb : Nat) (w : World) (listed : Array Bool) (hl : listed = #[true, true, true, false, true, true, true, false, false, true, false]) (A1 : Hid (Rg w t1 q)) (N1 : Hid (t1 ≠ rb)) (A3 : Hid (Rg w t3 u)) (N3 : Hid (t3 ≠ rb)) (TH : Hid (w.there rb 0 4)) (RB : Hid (W.heap.size ≤ rb)) (HH : Hid (Below W.heap.size W w)) (HQ : Hid (lv8f Q x6 q u U W)) : lv8G Q x6 q u W 4 listed (lv8S U x6 q u t1 0 t3 0 rb true false true true false false true) w := by
 subst hl
 have H0 := H
 obtain ⟨x60, x61, x62, x63, C1⟩ := H
 simp only [lv8G, lv8S, cond_true, cond_false]
 refine wpAnyH_ready (rs := [3, 7]) (by kernel_rfl) (by simp) ?_
 refine AllReadyH.cons (o := lv83) rfl (fun K hK => ?_) (AllReadyH.cons (o := lv87) rfl (fun K hK => ?_) AllReadyH.nil)
 ·refine wp_b1 HH _ rfl q rfl (fun t2 w2 hbb SN A2 htb => ?_)
  have N2 := nTH TH htb
  replace A1 := kRg A1 hbb
  replace A3 := kRg A3 hbb
  replace TH := kTH TH hbb
  replace HH := SN
  clear SN hbb htb
  unfold lv83
  simp only [Act.put, sA, sB, sC]
  refine hK.out _ _ HH.out (fun hH => ?_); clear hK K
  exact lv8_27f H0 t1 t2 t3 rb w2 _ (by kernel_rfl) A1 N1 A2 N2 A3 N3 TH RB HH HQ
 ·refine wp_b1 HH _ rfl q rfl (fun t4 w2 hbb SN A4 htb => ?_)
  have N4 := nTH TH htb
  replace A1 := kRg A1 hbb
  replace A3 := kRg A3 hbb
  replace TH := kTH TH hbb
  replace HH := SN
  clear SN hbb htb
  unfold lv87
  simp only [Act.put, sA, sB, sC]
  refine hK.out _ _ HH.out (fun hH => ?_); clear hK K
  exact lv8_2f7 H0 t1 t3 t4 rb w2 _ (by kernel_rfl) A1 N1 A3 N3 A4 N4 TH RB HH HQ
theorem lv8_25f (H : lv8h x6 q u W) (t1 : Nat) (t2 : Nat) (rb : Nat) (w : World) (listed : Array Bool) (hl : listed = #[true, true, true, true, true, false, true, false, false, true, false]) (A1 : Hid (Rg w t1 q)) (N1 : Hid (t1 ≠ rb)) (A2 : Hid (Rg w t2 q)) (N2 : Hid (t2 ≠ rb)) (TH : Hid (w.there rb 0 4)) (RB : Hid (W.heap.size ≤ rb)) (HH : Hid (Below W.heap.size W w)) (HQ : Hid (lv8f Q x6 q u U W)) : lv8G Q x6 q u W 4 listed (lv8S U x6 q u t1 t2 0 0 rb true true true false false false true) w := by
 subst hl
 have H0 := H
 obtain ⟨x60, x61, x62, x63, C1⟩ := H
 simp only [lv8G, lv8S, cond_true, cond_false]
 refine wpAnyH_ready (rs := [5, 7]) (by kernel_rfl) (by simp) ?_
 refine AllReadyH.cons (o := lv85) rfl (fun K hK => ?_) (AllReadyH.cons (o := lv87) rfl (fun K hK => ?_) AllReadyH.nil)
 ·refine wp_b1 HH _ rfl u rfl (fun t3 w2 hbb SN A3 htb => ?_)
  have N3 := nTH TH htb
  replace A1 := kRg A1 hbb
  replace A2 := kRg A2 hbb
  replace TH := kTH TH hbb
  replace HH := SN
  clear SN hbb htb
  unfold lv85
  simp only [Act.put, sA, sB, sC]
  refine hK.out _ _ HH.out (fun hH => ?_); clear hK K
  exact lv8_27f H0 t1 t2 t3 rb w2 _ (by kernel_rfl) A1 N1 A2 N2 A3 N3 TH RB HH HQ
 ·refine wp_b1 HH _ rfl q rfl (fun t4 w2 hbb SN A4 htb => ?_)
  have N4 := nTH TH htb
  replace A1 := kRg A1 hbb
  replace A2 := kRg A2 hbb
  replace TH := kTH TH hbb
  replace HH := SN
  clear SN hbb htb
  unfold lv87
  simp only [Act.put, sA, sB, sC]
  refine hK.out _ _ HH.out (fun hH => ?_); clear hK K
  exact lv8_2df H0 t1 t2 t4 rb w2 _ (by kernel_rfl) A1 N1 A2 N2 A4 N4 TH RB HH HQ
theorem lv8_fd (H : lv8h x6 q u W) (t2 : Nat) (t3 : Nat) (t4 : Nat) (w : World) (listed : Array Bool) (hl : listed = #[true, false, true, true, true, true, true, true, false, false, false]) (A2 : Hid (Rg w t2 q)) (A3 : Hid (Rg w t3 u)) (A4 : Hid (Rg w t4 q)) (HH : Hid (Below W.heap.size W w)) (HQ : Hid (lv8f Q x6 q u U W)) : lv8G Q x6 q u W 4 listed (lv8S U x6 q u 0 t2 t3 t4 0 false true true true true false false) w := by
 subst hl
 have H0 := H
 obtain ⟨x60, x61, x62, x63, C1⟩ := H
 simp only [lv8G, lv8S, cond_true, cond_false]
 refine wpAnyH_ready (rs := [1, 9]) (by kernel_rfl) (by simp) ?_
 refine AllReadyH.cons (o := lv81) rfl (fun K hK => ?_) (AllReadyH.cons (o := lv89) rfl (fun K hK => ?_) AllReadyH.nil)
 ·refine wp_b1 HH _ rfl q rfl (fun t1 w2 hbb SN A1 htb => ?_)
  replace A2 := kRg A2 hbb
  replace A3 := kRg A3 hbb
  replace A4 := kRg A4 hbb
  replace HH := SN
  clear SN hbb htb
  unfold lv81
  simp only [Act.put, sA, sB, sC]
  refine hK.out _ _ HH.out (fun hH => ?_); clear hK K
  refine tj 8 lv88 (.agg #[.slice (some ⟨t1, 0, none⟩) 1 1, .slice (some ⟨t2, 0, none⟩) 1 1, .slice (some ⟨t3, 0, none⟩) 1 1, .slice (some ⟨t4, 0, none⟩) 1 1]) hH (fun w0 hSw => ?_) ?_
  ·(unfold lv88; clear hSw; go_simp)
  unfold lv88
  simp only [Act.put, sA, sB, sC]
  exact lv8_1ff H0 t1 t2 t3 t4 w2 _ (by kernel_rfl) A1 A2 A3 A4 HH HQ
 ·refine wp_a1 HH rfl (fun rb w2 hbb SN TH RB htb => ?_)
  have N2 := nRG A2 htb
  have N3 := nRG A3 htb
  have N4 := nRG A4 htb
  replace A2 := kRg A2 hbb
  replace A3 := kRg A3 hbb
  replace A4 := kRg A4 hbb
  replace HH := SN
  clear SN hbb htb
  unfold lv89
  simp only [Act.put, sA, sB, sC]
  refine hK.out _ _ HH.out (fun hH => ?_); clear hK K
  exact lv8_2fd H0 t2 t3 t4 rb w2 _ (by kernel_rfl) A2 N2 A3 N3 A4 N4 TH RB HH HQ
theorem lv8_f7 (H : lv8h x6 q u W) (t1 : Nat) (t3 : Nat) (t4 : Nat) (w : World) (listed : Array Bool) (hl : listed = #[true, true, true, false, true, true, true, true, false, false, false]) (A1 : Hid (Rg w t1 q)) (A3 : Hid (Rg w t3 u)) (A4 : Hid (Rg w t4 q)) (HH : Hid (Below W.heap.size W w)) (HQ : Hid (lv8f Q x6 q u U W)) : lv8G Q x6 q u W 4 listed (lv8S U x6 q u t1 0 t3 t4 0 true false true true true false false) w := by
 subst hl
 have H0 := H
 obtain ⟨x60, x61, x62, x63, C1⟩ := H
 simp only [lv8G, lv8S, cond_true, cond_false]
 refine wpAnyH_ready (rs := [3, 9]) (by kernel_rfl) (by simp) ?_
 refine AllReadyH.cons (o := lv83) rfl (fun K hK => ?_) (AllReadyH.cons (o := lv89) rfl (fun K hK => ?_) AllReadyH.nil)
 ·refine wp_b1 HH _ rfl q rfl (fun t2 w2 hbb SN A2 htb => ?_)
  replace A1 := kRg A1 hbb
  replace A3 := kRg A3 hbb
  replace A4 := kRg A4 hbb
  replace HH := SN
  clear SN hbb htb
  unfold lv83
  simp only [Act.put, sA, sB, sC]
  refine hK.out _ _ HH.out (fun hH => ?_); clear hK K
  refine tj 8 lv88 (.agg #[.slice (some ⟨t1, 0, none⟩) 1 1, .slice (some ⟨t2, 0, none⟩) 1 1, .slice (some ⟨t3, 0, none⟩) 1 1, .slice (some ⟨t4, 0, none⟩) 1 1]) hH (fun w0 hSw => ?_) ?_
  ·(unfold lv88; clear hSw; go_simp)
  unfold lv88
  simp only [Act.put, sA, sB, sC]
  exact lv8_1ff H0 t1 t2 t3 t4 w2 _ (by kernel_rfl) A1 A2 A3 A4 HH HQ
 ·refine wp_a1 HH rfl (fun rb w2 hbb SN TH RB htb => ?_)
  have N1 := nRG A1 htb
  have N3 := nRG A3 htb
  have N4 := nRG A4 htb
  replace A1 := kRg A1 hbb
  replace A3 := kRg A3 hbb
  replace A4 := kRg A4 hbb
  replace HH := SN
  clear SN hbb htb
  unfold lv89
  simp only [Act.put, sA, sB, sC]
  refine hK.out _ _ HH.out (fun hH => ?_); clear hK K
  exact lv8_2f7 H0 t1 t3 t4 rb w2 _ (by kernel_rfl) A1 N1 A3 N3 A4 N4 TH RB HH HQ
theorem lv8_df (H : lv8h x6 q u W) (t1 : Nat) (t2 : Nat) (t4 : Nat) (w : World) (listed : Array Bool) (hl : listed = #[true, true, true, true, true, false, true, true, false, false, false]) (A1 : Hid (Rg w t1 q)) (A2 : Hid (Rg w t2 q)) (A4 : Hid (Rg w t4 q)) (HH : Hid (Below W.heap.size W w)) (HQ : Hid (lv8f Q x6 q u U W)) : lv8G Q x6 q u W 4 listed (lv8S U x6 q u t1 t2 0 t4 0 true true true false true false false) w := by
 subst hl
 have H0 := H
 obtain ⟨x60, x61, x62, x63, C1⟩ := H
 simp only [lv8G, lv8S, cond_true, cond_false]
 refine wpAnyH_ready (rs := [5, 9]) (by kernel_rfl) (by simp) ?_
 refine AllReadyH.cons (o := lv85) rfl (fun K hK => ?_) (AllReadyH.cons (o := lv89) rfl (fun K hK => ?_) AllReadyH.nil)
 ·refine wp_b1 HH _ rfl u rfl (fun t3 w2 hbb SN A3 htb => ?_)
  replace A1 := kRg A1 hbb
  replace A2 := kRg A2 hbb
  replace A4 := kRg A4 hbb
  replace HH := SN
  clear SN hbb htb
  unfold lv85
  simp only [Act.put, sA, sB, sC]
  refine hK.out _ _ HH.out (fun hH => ?_); clear hK K
  refine tj 8 lv88 (.agg #[.slice (some ⟨t1, 0, none⟩) 1 1, .slice (some ⟨t2, 0, none⟩) 1 1, .slice (some ⟨t3, 0, none⟩) 1 1, .slice (some ⟨t4, 0, none⟩) 1 1]) hH (fun w0 hSw => ?_) ?_
  ·(unfold lv88; clear hSw; go_simp)
  unfold lv88
  simp only [Act.put, sA, sB, sC]
  exact lv8_1ff H0 t1 t2 t3 t4 w2 _ (by kernel_rfl) A1 A2 A3 A4 HH HQ
 ·refine wp_a1 HH rfl (fun rb w2 hbb SN TH RB htb => ?_)
  have N1 := nRG A1 htb
  have N2 := nRG A2 htb
  have N4 := nRG A4 htb
  replace A1 := kRg A1 hbb
  replace A2 := kRg A2 hbb
  replace A4 := kRg A4 hbb
  replace HH := SN
  clear SN hbb htb
  unfold lv89
  simp only [Act.put, sA, sB, sC]
  refine hK.out _ _ HH.out (fun hH => ?_); clear hK K
  exact lv8_2df H0 t1 t2 t4 rb w2 _ (by kernel_rfl) A1 N1 A2 N2 A4 N4 TH RB HH HQ
theorem lv8_7f (H : lv8h x6 q u W) (t1 : Nat) (t2 : Nat) (t3 : Nat) (w : World) (listed : Array Bool) (hl : listed = #[true, true, true, true, true, true, true, false, false, false, false]) (A1 : Hid (Rg w t1 q)) (A2 : Hid (Rg w t2 q)) (A3 : Hid (Rg w t3 u)) (HH : Hid (Below W.heap.size W w)) (HQ : Hid (lv8f Q x6 q u U W)) : lv8G Q x6 q u W 4 listed (lv8S U x6 q u t1 t2 t3 0 0 true true true true false false false) w := by
 subst hl
 have H0 := H
 obtain ⟨x60, x61, x62, x63, C1⟩ := H
 simp only [lv8G, lv8S, cond_true, cond_false]
 refine wpAnyH_ready (rs := [7, 9]) (by kernel_rfl) (by simp) ?_
 refine AllReadyH.cons (o := lv87) rfl (fun K hK => ?_) (AllReadyH.cons (o := lv89) rfl (fun K hK => ?_) AllReadyH.nil)
 ·refine wp_b1 HH _ rfl q rfl (fun t4 w2 hbb SN A4 htb => ?_)
  replace A1 := kRg A1 hbb
  replace A2 := kRg A2 hbb
  replace A3 := kRg A3 hbb
  replace HH := SN
  clear SN hbb htb
  unfold lv87
  simp only [Act.put, sA, sB, sC]
  refine hK.out _ _ HH.out (fun hH => ?_); clear hK K
  refine tj 8 lv88 (.agg #[.slice (some ⟨t1, 0, none⟩) 1 1, .slice (some ⟨t2, 0, none⟩) 1 1, .slice (some ⟨t3, 0, none⟩) 1 1, .slice (some ⟨t4, 0, none⟩) 1 1]) hH (fun w0 hSw => ?_) ?_
  ·(unfold lv88; clear hSw; go_simp)
  unfold lv88
  simp only [Act.put, sA, sB, sC]
  exact lv8_1ff H0 t1 t2 t3 t4 w2 _ (by kernel_rfl) A1 A2 A3 A4 HH HQ
 ·refine wp_a1 HH rfl (fun rb w2 hbb SN TH RB htb => ?_)
  have N1 := nRG A1 htb
  have N2 := nRG A2 htb
  have N3 := nRG A3 htb
  replace A1 := kRg A1 hbb
  replace A2 := kRg A2 hbb
  replace A3 := kRg A3 hbb
  replace HH := SN
  clear SN hbb htb
  unfold lv89
  simp only [Act.put, sA, sB, sC]
  refine hK.out _ _ HH.out (fun hH => ?_); clear hK K
  exact lv8_27f H0 t1 t2 t3 rb w2 _ (by kernel_rfl) A1 N1 A2 N2 A3 N3 TH RB HH HQ
theorem lv8_2d5 (H : lv8h x6 q u W) (t4 : Nat) (rb : Nat) (w : World) (listed : Array Bool) (hl : listed = #[true, false, true, false, true, false, true, true, false, true, false]) (A4 : Hid (Rg w t4 q)) (N4 : Hid (t4 ≠ rb)) (TH : Hid (w.there rb 0 4)) (RB : Hid (W.heap.size ≤ rb)) (HH : Hid (Below W.heap.size W w)) (HQ : Hid (lv8f Q x6 q u U W)) : lv8G Q x6 q u W 5 listed (lv8S U x6 q u 0 0 0 t4 rb false false true false true false true) w := by
 subst hl
 have H0 := H
 obtain ⟨x60, x61, x62, x63, C1⟩ := H
 simp only [lv8G, lv8S, cond_true, cond_false]
 refine wpAnyH_ready (rs := [1, 3, 5]) (by kernel_rfl) (by simp) ?_
 refine AllReadyH.cons (o := lv81) rfl (fun K hK => ?_) (AllReadyH.cons (o := lv83) rfl (fun K hK => ?_) (AllReadyH.cons (o := lv85) rfl (fun K hK => ?_) AllReadyH.nil))
 ·refine wp_b1 HH _ rfl q rfl (fun t1 w2 hbb SN A1 htb => ?_)
  have N1 := nTH TH htb
  replace A4 := kRg A4 hbb
  replace TH := kTH TH hbb
  replace HH := SN
  clear SN hbb htb
  unfold lv81
  simp only [Act.put, sA, sB, sC]
  refine hK.out _ _ HH.out (fun hH => ?_); clear hK K
  exact lv8_2d7 H0 t1 t4 rb w2 _ (by kernel_rfl) A1 N1 A4 N4 TH RB HH HQ
 ·refine wp_b1 HH _ rfl q rfl (fun t2 w2 hbb SN A2 htb => ?_)
  have N2 := nTH TH htb
  replace A4 := kRg A4 hbb
  replace TH := kTH TH hbb
  replace HH := SN
  clear SN hbb htb
  unfold lv83
  simp only [Act.put, sA, sB, sC]
  refine hK.out _ _ HH.out (fun hH => ?_); clear hK K
  exact lv8_2dd H0 t2 t4 rb w2 _ (by kernel_rfl) A2 N2 A4 N4 TH RB HH HQ
 ·refine wp_b1 HH _ rfl u rfl (fun t3 w2 hbb SN A3 htb => ?_)
  have N3 := nTH TH htb
  replace A4 := kRg A4 hbb
  replace TH := kTH TH hbb
  replace HH := SN
  clear SN hbb htb
  unfold lv85
  simp only [Act.put, sA, sB, sC]
  refine hK.out _ _ HH.out (fun hH => ?_); clear hK K
  exact lv8_2f5 H0 t3 t4 rb w2 _ (by kernel_rfl) A3 N3 A4 N4 TH RB HH HQ
theorem lv8_2cd (H : lv8h x6 q u W) (t2 : Nat) (t4 : Nat) (rb : Nat) (w : World) (listed : Array Bool) (hl : listed = #[true, false, true, true, false, false, true, true, false, true, false]) (A2 : Hid (Rg w t2 q)) (N2 : Hid (t2 ≠ rb)) (A4 : Hid (Rg w t4 q)) (N4 : Hid (t4 ≠ rb)) (TH : Hid (w.there rb 0 4)) (RB : Hid (W.heap.size ≤ rb)) (HH : Hid (Below W.heap.size W w)) (HQ : Hid (lv8f Q x6 q u U W)) : lv8G Q x6 q u W 5 listed (lv8S U x6 q u 0 t2 0 t4 rb false true false false true false true) w := by
 subst hl
 have H0 := H
 obtain ⟨x60, x61, x62, x63, C1⟩ := H
 simp only [lv8G, lv8S, cond_true, cond_false]
 refine wpAnyH_ready (rs := [1, 4]) (by kernel_rfl) (by simp) ?_
 refine AllReadyH.cons (o := lv81) rfl (fun K hK => ?_) (AllReadyH.cons (o := lv84) rfl (fun K hK => ?_) AllReadyH.nil)
 ·refine wp_b1 HH _ rfl q rfl (fun t1 w2 hbb SN A1 htb => ?_)
  have N1 := nTH TH htb
  replace A2 := kRg A2 hbb
  replace A4 := kRg A4 hbb
  replace TH := kTH TH hbb
  replace HH := SN
  clear SN hbb htb
  unfold lv81
  simp only [Act.put, sA, sB, sC]
  refine hK.out _ _ HH.out (fun hH => ?_); clear hK K
  exact lv8_2cf H0 t1 t2 t4 rb w2 _ (by kernel_rfl) A1 N1 A2 N2 A4 N4 TH RB HH HQ
 ·unfold lv84
  go_simp
  refine (C1.out _).mono ?_
  rintro e w2 ⟨rfl, hb⟩
  have SN := hidden (bl_trans HH.out hb : Below W.heap.size W w2)
  replace A2 := kRg A2 hb
  replace A4 := kRg A4 hb
  replace TH := kTH TH hb
  replace HH := SN
  clear SN  hb
  go_wp2_with fail
  refine hK.out _ _ HH.out (fun hH => ?_); clear hK K
  exact lv8_2dd H0 t2 t4 rb w2 _ (by kernel_rfl) A2 N2 A4 N4 TH RB HH HQ
theorem lv8_2c7 (H : lv8h x6 q u W) (t1 : Nat) (t4 : Nat) (rb : Nat) (w : World) (listed : Array Bool) (hl : listed = #[true, true, true, false, false, false, true, true, false, true, false]) (A1 : Hid (Rg w t1 q)) (N1 : Hid (t1 ≠ rb)) (A4 : Hid (Rg w t4 q)) (N4 : Hid (t4 ≠ rb)) (TH : Hid (w.there rb 0 4)) (RB : Hid (W.heap.size ≤ rb)) (HH : Hid (Below W.heap.size W w)) (HQ : Hid (lv8f Q x6 q u U W)) : lv8G Q x6 q u W 5 listed (lv8S U x6 q u t1 0 0 t4 rb true false false false true false true) w := by
 subst hl
 have H0 := H
 obtain ⟨x60, x61, x62, x63, C1⟩ := H
 simp only [lv8G, lv8S, cond_true, cond_false]
 refine wpAnyH_ready (rs := [3, 4]) (by kernel_rfl) (by simp) ?_
 refine AllReadyH.cons (o := lv83) rfl (fun K hK => ?_) (AllReadyH.cons (o := lv84) rfl (fun K hK => ?_) AllReadyH.nil)
 ·refine wp_b1 HH _ rfl q rfl (fun t2 w2 hbb SN A2 htb => ?_)
  have N2 := nTH TH htb
  replace A1 := kRg A1 hbb
  replace A4 := kRg A4 hbb
  replace TH := kTH TH hbb
  replace HH := SN
  clear SN hbb htb
  unfold lv83
  simp only [Act.put, sA, sB, sC]
  refine hK.out _ _ HH.out (fun hH => ?_); clear hK K
  exact lv8_2cf H0 t1 t2 t4 rb w2 _ (by kernel_rfl) A1 N1 A2 N2 A4 N4 TH RB HH HQ
 ·unfold lv84
  go_simp
  refine (C1.out _).mono ?_
  rintro e w2 ⟨rfl, hb⟩
  have SN := hidden (bl_trans HH.out hb : Below W.heap.size W w2)
  replace A1 := kRg A1 hb
  replace A4 := kRg A4 hb
  replace TH := kTH TH hb
  replace HH := SN
  clear SN  hb
  go_wp2_with fail
  refine hK.out _ _ HH.out (fun hH => ?_); clear hK K
  exact lv8_2d7 H0 t1 t4 rb w2 _ (by kernel_rfl) A1 N1 A4 N4 TH RB HH HQ
theorem lv8_275 (H : lv8h x6 q u W) (t3 : Nat) (rb : Nat) (w : World) (listed : Array Bool) (hl : listed = #[true, false, true, false, true, true, true, false, false, true, false]) (A3 : Hid (Rg w t3 u)) (N3 : Hid (t3 ≠ rb)) (TH : Hid (w.there rb 0 4)) (RB : Hid (W.heap.size ≤ rb)) (HH : Hid (Below W.heap.size W w)) (HQ : Hid (lv8f Q x6 q u U W)) : lv8G Q x6 q u W 5 listed (lv8S U x6 q u 0 0 t3 0 rb false false true true false false true) w := by
 subst hl
 have H0 := H
 obtain ⟨x60, x61, x62, x63, C1⟩ := H
 simp only [lv8G, lv8S, cond_true, cond_false]
 refine wpAnyH_ready (rs := [1, 3, 7]) (by kernel_rfl) (by simp) ?_
 refine AllReadyH.cons (o := lv81) rfl (fun K hK => ?_) (AllReadyH.cons (o := lv83) rfl (fun K hK => ?_) (AllReadyH.cons (o := lv87) rfl (fun K hK => ?_) AllReadyH.nil))
 ·refine wp_b1 HH _ rfl q rfl (fun t1 w2 hbb SN A1 htb => ?_)
  have N1 := nTH TH htb
  replace A3 := kRg A3 hbb
  replace TH := kTH TH hbb
  replace HH := SN
  clear SN hbb htb
  unfold lv81
  simp only [Act.put, sA, sB, sC]
  refine hK.out _ _ HH.out (fun hH => ?_); clear hK K
  exact lv8_277 H0 t1 t3 rb w2 _ (by kernel_rfl) A1 N1 A3 N3 TH RB HH HQ
 ·refine wp_b1 HH _ rfl q rfl (fun t2 w2 hbb SN A2 htb => ?_)
  have N2 := nTH TH htb
  replace A3 := kRg A3 hbb
  replace TH := kTH TH hbb
  replace HH := SN
  clear SN hbb htb
  unfold lv83
  simp only [Act.put, sA, sB, sC]
  refine hK.out _ _ HH.out (fun hH => ?_); clear hK K
  exact lv8_27d H0 t2 t3 rb w2 _ (by kernel_rfl) A2 N2 A3 N3 TH RB HH HQ
 ·refine wp_b1 HH _ rfl q rfl (fun t4 w2 hbb SN A4 htb => ?_)
  have N4 := nTH TH htb
  replace A3 := kRg A3 hbb
  replace TH := kTH TH hbb
  replace HH := SN
  clear SN hbb htb
  unfold lv87
  simp only [Act.put, sA, sB, sC]
  refine hK.out _ _ HH.out (fun hH => ?_); clear hK K
  exact lv8_2f5 H0 t3 t4 rb w2 _ (by kernel_rfl) A3 N3 A4 N4 TH RB HH HQ
theorem lv8_25d (H : lv8h x6 q u W) (t2 : Nat) (rb : Nat) (w : World) (listed : Array Bool) (hl : listed = #[true, false, true, true, true, false, true, false, false, true, false]) (A2 : Hid (Rg w t2 q)) (N2 : Hid (t2 ≠ rb)) (TH : Hid (w.there rb 0 4)) (RB : Hid (W.heap.size ≤ rb)) (HH : Hid (Below W.heap.size W w)) (HQ : Hid (lv8f Q x6 q u U W)) : lv8G Q x6 q u W 5 listed (lv8S U x6 q u 0 t2 0 0 rb false true true false false false true) w := by
 subst hl
 have H0 := H
 obtain ⟨x60, x61, x62, x63, C1⟩ := H
 simp only [lv8G, lv8S, cond_true, cond_false]
 refine wpAnyH_ready (rs := [1, 5, 7]) (by kernel_rfl) (by simp) ?_
 refine AllReadyH.cons (o := lv81) rfl (fun K hK => ?_) (AllReadyH.cons (o := lv85) rfl (fun K hK => ?_) (AllReadyH.cons (o := lv87) rfl (fun K hK => ?_) AllReadyH.nil))
 ·refine wp_b1 HH _ rfl q rfl (fun t1 w2 hbb SN A1 htb => ?_)
  have N1 := nTH TH htb
  replace A2 := kRg A2 hbb
  replace TH := kTH TH hbb
  replace HH := SN
  clear SN hbb htb
  unfold lv81
  simp only [Act.put, sA, sB, sC]
  refine hK.out _ _ HH.out (fun hH => ?_); clear hK K
  exact lv8_25f H0 t1 t2 rb w2 _ (by kernel_rfl) A1 N1 A2 N2 TH RB HH HQ
 ·refine wp_b1 HH _ rfl u rfl (fun t3 w2 hbb SN A3 htb => ?_)
  have N3 := nTH TH htb
  replace A2 := kRg A2 hbb
  replace TH := kTH TH hbb
  replace HH := SN
  clear SN hbb htb
  unfold lv85
  simp only [Act.put, sA, sB, sC]
  refine hK.out _ _ HH.out (fun hH => ?_); clear hK K
  exact lv8_27d H0 t2 t3 rb w2 _ (by kernel_rfl) A2 N2 A3 N3 TH RB HH HQ
 ·refine wp_b1 HH _ rfl q rfl (fun t4 w2 hbb SN A4 htb => ?_)
  have N4 := nTH TH htb
  replace A2 := kRg A2 hbb
  replace TH := kTH TH hbb
  replace HH := SN
  clear SN hbb htb
  unfold lv87
  simp only [Act.put, sA, sB, sC]
  refine hK.out _ _ HH.out (fun hH => ?_); clear hK K
  exact lv8_2dd H0 t2 t4 rb w2 _ (by kernel_rfl) A2 N2 A4 N4 TH RB HH HQ
theorem lv8_257 (H : lv8h x6 q u W) (t1 : Nat) (rb : Nat) (w : World) (listed : Array Bool) (hl : listed = #[true, true, true, false, true, false, true, false, false, true, false]) (A1 : Hid (Rg w t1 q)) (N1 : Hid (t1 ≠ rb)) (TH : Hid (w.there rb 0 4)) (RB : Hid (W.heap.size ≤ rb)) (HH : Hid (Below W.heap.size W w)) (HQ : Hid (lv8f Q x6 q u U W)) : lv8G Q x6 q u W 5 listed (lv8S U x6 q u t1 0 0 0 rb true false true false false false true) w := by
 subst hl
 have H0 := H
 obtain ⟨x60, x61, x62, x63, C1⟩ := H
 simp only [lv8G, lv8S, cond_true, cond_false]
 refine wpAnyH_ready (rs := [3, 5, 7]) (by kernel_rfl) (by simp) ?_
 refine AllReadyH.cons (o := lv83) rfl (fun K hK => ?_) (AllReadyH.cons (o := lv85) rfl (fun K hK => ?_) (AllReadyH.cons (o := lv87) rfl (fun K hK => ?_) AllReadyH.nil))
 ·refine wp_b1 HH _ rfl q rfl (fun t2 w2 hbb SN A2 htb => ?_)
  have N2 := nTH TH htb
  replace A1 := kRg A1 hbb
  replace TH := kTH TH hbb
  replace HH := SN
  clear SN hbb htb
  unfold lv83
  simp only [Act.put, sA, sB, sC]
  refine hK.out _ _ HH.out (fun hH => ?_); clear hK K
  exact lv8_25f H0 t1 t2 rb w2 _ (by kernel_rfl) A1 N1 A2 N2 TH RB HH HQ
 ·refine wp_b1 HH _ rfl u rfl (fun t3 w2 hbb SN A3 htb => ?_)
  have N3 := nTH TH htb
  replace A1 := kRg A1 hbb
  replace TH := kTH TH hbb
  replace HH := SN
  clear SN hbb htb
  unfold lv85
  simp only [Act.put, sA, sB, sC]
  refine hK.out _ _ HH.out (fun hH => ?_); clear hK K
  exact lv8_277 H0 t1 t3 rb w2 _ (by kernel_rfl) A1 N1 A3 N3 TH RB HH HQ
 ·refine wp_b1 HH _ rfl q rfl (fun t4 w2 hbb SN A4 htb => ?_)
  have N4 := nTH TH htb
  replace A1 := kRg A1 hbb
  replace TH := kTH TH hbb
  replace HH := SN
  clear SN hbb htb
  unfold lv87
  simp only [Act.put, sA, sB, sC]
  refine hK.out _ _ HH.out (fun hH => ?_); clear hK K
  exact lv8_2d7 H0 t1 t4 rb w2 _ (by kernel_rfl) A1 N1 A4 N4 TH RB HH HQ
theorem lv8_24f (H : lv8h x6 q u W) (t1 : Nat) (t2 : Nat) (rb : Nat) (w : World) (listed : Array Bool) (hl : listed = #[true, true, true, true, false, false, true, false, false, true, false]) (A1 : Hid (Rg w t1 q)) (N1 : Hid (t1 ≠ rb)) (A2 : Hid (Rg w t2 q)) (N2 : Hid (t2 ≠ rb)) (TH : Hid (w.there rb 0 4)) (RB : Hid (W.heap.size ≤ rb)) (HH : Hid (Below W.heap.size W w)) (HQ : Hid (lv8f Q x6 q u U W)) : lv8G Q x6 q u W 5 listed (lv8S U x6 q u t1 t2 0 0 rb true true false false false false true) w := by
 subst hl
 have H0 := H
 obtain ⟨x60, x61, x62, x63, C1⟩ := H
 simp only [lv8G, lv8S, cond_true, cond_false]
 refine wpAnyH_ready (rs := [4, 7]) (by kernel_rfl) (by simp) ?_
 refine AllReadyH.cons (o := lv84) rfl (fun K hK => ?_) (AllReadyH.cons (o := lv87) rfl (fun K hK => ?_) AllReadyH.nil)
 ·unfold lv84
  go_simp
  refine (C1.out _).mono ?_
  rintro e w2 ⟨rfl, hb⟩
  have SN := hidden (bl_trans HH.out hb : Below W.heap.size W w2)
  replace A1 := kRg A1 hb
  replace A2 := kRg A2 hb
  replace TH := kTH TH hb
  replace HH := SN
  clear SN  hb
  go_wp2_with fail
  refine hK.out _ _ HH.out (fun hH => ?_); clear hK K
  exact lv8_25f H0 t1 t2 rb w2 _ (by kernel_rfl) A1 N1 A2 N2 TH RB HH HQ
 ·refine wp_b1 HH _ rfl q rfl (fun t4 w2 hbb SN A4 htb => ?_)
  have N4 := nTH TH htb
  replace A1 := kRg A1 hbb
  replace A2 := kRg A2 hbb
  replace TH := kTH TH hbb
  replace HH := SN
  clear SN hbb htb
  unfold lv87
  simp only [Act.put, sA, sB, sC]
  refine hK.out _ _ HH.out (fun hH => ?_); clear hK K
  exact lv8_2cf H0 t1 t2 t4 rb w2 _ (by kernel_rfl) A1 N1 A2 N2 A4 N4 TH RB HH HQ
theorem lv8_f5 (H : lv8h x6 q u W) (t3 : Nat) (t4 : Nat) (w : World) (listed : Array Bool) (hl : listed = #[true, false, true, false, true, true, true, true, false, false, false]) (A3 : Hid (Rg w t3 u)) (A4 : Hid (Rg w t4 q)) (HH : Hid (Below W.heap.size W w)) (HQ : Hid (lv8f Q x6 q u U W)) : lv8G Q x6 q u W 5 listed (lv8S U x6 q u 0 0 t3 t4 0 false false true true true false false) w := by
 subst hl
 have H0 := H
 obtain ⟨x60, x61, x62, x63, C1⟩ := H
 simp only [lv8G, lv8S, cond_true, cond_false]
 refine wpAnyH_ready (rs := [1, 3, 9]) (by kernel_rfl) (by simp) ?_
 refine AllReadyH.cons (o := lv81) rfl (fun K hK => ?_) (AllReadyH.cons (o := lv83) rfl (fun K hK => ?_) (AllReadyH.cons (o := lv89) rfl (fun K hK => ?_) AllReadyH.nil))
 ·refine wp_b1 HH _ rfl q rfl (fun t1 w2 hbb SN A1 htb => ?_)
  replace A3 := kRg A3 hbb
  replace A4 := kRg A4 hbb
  replace HH := SN
  clear SN hbb htb
  unfold lv81
  simp only [Act.put, sA, sB, sC]
  refine hK.out _ _ HH.out (fun hH => ?_); clear hK K
  exact lv8_f7 H0 t1 t3 t4 w2 _ (by kernel_rfl) A1 A3 A4 HH HQ
 ·refine wp_b1 HH _ rfl q rfl (fun t2 w2 hbb SN A2 htb => ?_)
  replace A3 := kRg A3 hbb
  replace A4 := kRg A4 hbb
  replace HH := SN
  clear SN hbb htb
  unfold lv83
  simp only [Act.put, sA, sB, sC]
  refine hK.out _ _ HH.out (fun hH => ?_); clear hK K
  exact lv8_fd H0 t2 t3 t4 w2 _ (by kernel_rfl) A2 A3 A4 HH HQ
 ·refine wp_a1 HH rfl (fun rb w2 hbb SN TH RB htb => ?_)
  have N3 := nRG A3 htb
  have N4 := nRG A4 htb
  replace A3 := kRg A3 hbb
  replace A4 := kRg A4 hbb
  replace HH := SN
  clear SN hbb htb
  unfold lv89
  simp only [Act.put, sA, sB, sC]
  refine hK.out _ _ HH.out (fun hH => ?_); clear hK K
  exact lv8_2f5 H0 t3 t4 rb w2 _ (by kernel_rfl) A3 N3 A4 N4 TH RB HH HQ
theorem lv8_dd (H : lv8h x6 q u W) (t2 : Nat) (t4 : Nat) (w : World) (listed : Array Bool) (hl : listed = #[true, false, true, true, true, false, true, true, false, false, false]) (A2 : Hid (Rg w t2 q)) (A4 : Hid (Rg w t4 q)) (HH : Hid (Below W.heap.size W w)) (HQ : Hid (lv8f Q x6 q u U W)) : lv8G Q x6 q u W 5 listed (lv8S U x6 q u 0 t2 0 t4 0 false true true false true false false) w := by
 subst hl
 have H0 := H
 obtain ⟨x60, x61, x62, x63, C1⟩ := H
 simp only [lv8G, lv8S, cond_true, cond_false]
 refine wpAnyH_ready (rs := [1, 5, 9]) (by kernel_rfl) (by simp) ?_
 refine AllReadyH.cons (o := lv81) rfl (fun K hK => ?_) (AllReadyH.cons (o := lv85) rfl (fun K hK => ?_) (AllReadyH.cons (o := lv89) rfl (fun K hK => ?_) AllReadyH.nil))
 ·refine wp_b1 HH _ rfl q rfl (fun t1 w2 hbb SN A1 htb => ?_)
  replace A2 := kRg A2 hbb
  replace A4 := kRg A4 hbb
  replace HH := SN
  clear SN hbb htb
  unfold lv81
  simp only [Act.put, sA, sB, sC]
  refine hK.out _ _ HH.out (fun hH => ?_); clear hK K
  exact lv8_df H0 t1 t2 t4 w2 _ (by kernel_rfl) A1 A2 A4 HH HQ
 ·refine wp_b1 HH _ rfl u rfl (fun t3 w2 hbb SN A3 htb => ?_)
  replace A2 := kRg A2 hbb
  replace A4 := kRg A4 hbb
  replace HH := SN
  clear SN hbb htb
  unfold lv85
  simp only [Act.put, sA, sB, sC]
  refine hK.out _ _ HH.out (fun hH => ?_); clear hK K
  exact lv8_fd H0 t2 t3 t4 w2 _ (by kernel_rfl) A2 A3 A4 HH HQ
 ·refine wp_a1 HH rfl (fun rb w2 hbb SN TH RB htb => ?_)
  have N2 := nRG A2 htb
  have N4 := nRG A4 htb
  replace A2 := kRg A2 hbb
  replace A4 := kRg A4 hbb
  replace HH := SN
  clear SN hbb htb
  unfold lv89
  simp only [Act.put, sA, sB, sC]
  refine hK.out _ _ HH.out (fun hH => ?_); clear hK K
  exact lv8_2dd H0 t2 t4 rb w2 _ (by kernel_rfl) A2 N2 A4 N4 TH RB HH HQ
theorem lv8_d7 (H : lv8h x6 q u W) (t1 : Nat) (t4 : Nat) (w : World) (listed : Array Bool) (hl : listed = #[true, true, true, false, true, false, true, true, false, false, false]) (A1 : Hid (Rg w t1 q)) (A4 : Hid (Rg w t4 q)) (HH : Hid (Below W.heap.size W w)) (HQ : Hid (lv8f Q x6 q u U W)) : lv8G Q x6 q u W 5 listed (lv8S U x6 q u t1 0 0 t4 0 true false true false true false false) w := by
 subst hl
 have H0 := H
 obtain ⟨x60, x61, x62, x63, C1⟩ := H
 simp only [lv8G, lv8S, cond_true, cond_false]
 refine wpAnyH_ready (rs := [3, 5, 9]) (by kernel_rfl) (by simp) ?_
 refine AllReadyH.cons (o := lv83) rfl (fun K hK => ?_) (AllReadyH.cons (o := lv85) rfl (fun K hK => ?_) (AllReadyH.cons (o := lv89) rfl (fun K hK => ?_) AllReadyH.nil))
 ·refine wp_b1 HH _ rfl q rfl (fun t2 w2 hbb SN A2 htb => ?_)
  replace A1 := kRg A1 hbb
  replace A4 := kRg A4 hbb
  replace HH := SN
  clear SN hbb htb
  unfold lv83
  simp only [Act.put, sA, sB, sC]
  refine hK.out _ _ HH.out (fun hH => ?_); clear hK K
  exact lv8_df H0 t1 t2 t4 w2 _ (by kernel_rfl) A1 A2 A4 HH HQ
 ·refine wp_b1 HH _ rfl u rfl (fun t3 w2 hbb SN A3 htb => ?_)
  replace A1 := kRg A1 hbb
  replace A4 := kRg A4 hbb
  replace HH := SN
  clear SN hbb htb
  unfold lv85
  simp only [Act.put, sA, sB, sC]
  refine hK.out _ _ HH.out (fun hH => ?_); clear hK K
  exact lv8_f7 H0 t1 t3 t4 w2 _ (by kernel_rfl) A1 A3 A4 HH HQ
 ·refine wp_a1 HH rfl (fun rb w2 hbb SN TH RB htb => ?_)
  have N1 := nRG A1 htb
  have N4 := nRG A4 htb
  replace A1 := kRg A1 hbb
  replace A4 := kRg A4 hbb
  replace HH := SN
  clear SN hbb htb
  unfold lv89
  simp only [Act.put, sA, sB, sC]
  refine hK.out _ _ HH.out (fun hH => ?_); clear hK K
  exact lv8_2d7 H0 t1 t4 rb w2 _ (by kernel_rfl) A1 N1 A4 N4 TH RB HH HQ
theorem lv8_cf (H : lv8h x6 q u W) (t1 : Nat) (t2 : Nat) (t4 : Nat) (w : World) (listed : Array Bool) (hl : listed = #[true, true, true, true, false, false, true, true, false, false, false]) (A1 : Hid (Rg w t1 q)) (A2 : Hid (Rg w t2 q)) (A4 : Hid (Rg w t4 q)) (HH : Hid (Below W.heap.size W w)) (HQ : Hid (lv8f Q x6 q u U W)) : lv8G Q x6 q u W 5 listed (lv8S U x6 q u t1 t2 0 t4 0 true true false false true false false) w := by
 subst hl
 have H0 := H
 obtain ⟨x60, x61, x62, x63, C1⟩ := H
 simp only [lv8G, lv8S, cond_true, cond_false]
 refine wpAnyH_ready (rs := [4, 9]) (by kernel_rfl) (by simp) ?_
 refine AllReadyH.cons (o := lv84) rfl (fun K hK => ?_) (AllReadyH.cons (o := lv89) rfl (fun K hK => ?_) AllReadyH.nil)
 ·unfold lv84
  go_simp
  refine (C1.out _).mono ?_
  rintro e w2 ⟨rfl, hb⟩
  have SN := hidden (bl_trans HH.out hb : Below W.heap.size W w2)
  replace A1 := kRg A1 hb
  replace A2 := kRg A2 hb
  replace A4 := kRg A4 hb
  replace HH := SN
  clear SN  hb
  go_wp2_with fail
  refine hK.out _ _ HH.out (fun hH => ?_); clear hK K
  exact lv8_df H0 t1 t2 t4 w2 _ (by kernel_rfl) A1 A2 A4 HH HQ
 ·refine wp_a1 HH rfl (fun rb w2 hbb SN TH RB htb => ?_)
  have N1 := nRG A1 htb
  have N2 := nRG A2 htb
  have N4 := nRG A4 htb
  replace A1 := kRg A1 hbb
  replace A2 := kRg A2 hbb
  replace A4 := kRg A4 hbb
  replace HH := SN
  clear SN hbb htb
  unfold lv89
  simp only [Act.put, sA, sB, sC]
  refine hK.out _ _ HH.out (fun hH => ?_); clear hK K
  exact lv8_2cf H0 t1 t2 t4 rb w2 _ (by kernel_rfl) A1 N1 A2 N2 A4 N4 TH RB HH HQ
theorem lv8_7d (H : lv8h x6 q u W) (t2 : Nat) (t3 : Nat) (w : World) (listed : Array Bool) (hl : listed = #[true, false, true, true, true, true, true, false, false, false, false]) (A2 : Hid (Rg w t2 q)) (A3 : Hid (Rg w t3 u)) (HH : Hid (Below W.heap.size W w)) (HQ : Hid (lv8f Q x6 q u U W)) : lv8G Q x6 q u W 5 listed (lv8S U x6 q u 0 t2 t3 0 0 false true true true false false false) w := by
 subst hl
 have H0 := H
 obtain ⟨x60, x61, x62, x63, C1⟩ := H
 simp only [lv8G, lv8S, cond_true, cond_false]
 refine wpAnyH_ready (rs := [1, 7, 9]) (by kernel_rfl) (by simp) ?_
 refine AllReadyH.cons (o := lv81) rfl (fun K hK => ?_) (AllReadyH.cons (o := lv87) rfl (fun K hK => ?_) (AllReadyH.cons (o := lv89) rfl (fun K hK => ?_) AllReadyH.nil))
 ·refine wp_b1 HH _ rfl q rfl (fun t1 w2 hbb SN A1 htb => ?_)
  replace A2 := kRg A2 hbb
  replace A3 := kRg A3 hbb
  replace HH := SN
  clear SN hbb htb
  unfold lv81
  simp only [Act.put, sA, sB, sC]
  refine hK.out _ _ HH.out (fun hH => ?_); clear hK K
  exact lv8_7f H0 t1 t2 t3 w2 _ (by kernel_rfl) A1 A2 A3 HH HQ
 ·refine wp_b1 HH _ rfl q rfl (fun t4 w2 hbb SN A4 htb => ?_)
  replace A2 := kRg A2 hbb
  replace A3 := kRg A3 hbb
  replace HH := SN
  clear SN hbb htb
  unfold lv87
  simp only [Act.put, sA, sB, sC]
  refine hK.out _ _ HH.out (fun hH => ?_); clear hK K
  exact lv8_fd H0 t2 t3 t4 w2 _ (by kernel_rfl) A2 A3 A4 HH HQ
 ·refine wp_a1 HH rfl (fun rb w2 hbb SN TH RB htb => ?_)
  have N2 := nRG A2 htb
  have N3 := nRG A3 htb
  replace A2 := kRg A2 hbb
  replace A3 := kRg A3 hbb
  replace HH := SN
  clear SN hbb htb
  unfold lv89
  simp only [Act.put, sA, sB, sC]
  refine hK.out _ _ HH.out (fun hH => ?_); clear hK K
  exact lv8_27d H0 t2 t3 rb w2 _ (by kernel_rfl) A2 N2 A3 N3 TH RB HH HQ
theorem lv8_77 (H : lv8h x6 q u W) (t1 : Nat) (t3 : Nat) (w : World) (listed : Array Bool) (hl : listed = #[true, true, true, false, true, true, true, false, false, false, false]) (A1 : Hid (Rg w t1 q)) (A3 : Hid (Rg w t3 u)) (HH : Hid (Below W.heap.size W w)) (HQ : Hid (lv8f Q x6 q u U W)) : lv8G Q x6 q u W 5 listed (lv8S U x6 q u t1 0 t3 0 0 true false true true false false false) w := by
 subst hl
 have H0 := H
 obtain ⟨x60, x61, x62, x63, C1⟩ := H
 simp only [lv8G, lv8S, cond_true, cond_false]
 refine wpAnyH_ready (rs := [3, 7, 9]) (by kernel_rfl) (by simp) ?_
 refine AllReadyH.cons (o := lv83) rfl (fun K hK => ?_) (AllReadyH.cons (o := lv87) rfl (fun K hK => ?_) (AllReadyH.cons (o := lv89) rfl (fun K hK => ?_) AllReadyH.nil))
 ·refine wp_b1 HH _ rfl q rfl (fun t2 w2 hbb SN A2 htb => ?_)
  replace A1 := kRg A1 hbb
  replace A3 := kRg A3 hbb
  replace HH := SN
  clear SN hbb htb
  unfold lv83
  simp only [Act.put, sA, sB, sC]
  refine hK.out _ _ HH.out (fun hH => ?_); clear hK K
  exact lv8_7f H0 t1 t2 t3 w2 _ (by kernel_rfl) A1 A2 A3 HH HQ
 ·refine wp_b1 HH _ rfl q rfl (fun t4 w2 hbb SN A4 htb => ?_)
  replace A1 := kRg A1 hbb
  replace A3 := kRg A3 hbb
  replace HH := SN
  clear SN hbb htb
  unfold lv87
  simp only [Act.put, sA, sB, sC]
  refine hK.out _ _ HH.out (fun hH => ?_); clear hK K
  exact lv8_f7 H0 t1 t3 t4 w2 _ (by kernel_rfl) A1 A3 A4 HH HQ
 ·refine wp_a1 HH rfl (fun rb w2 hbb SN TH RB htb => ?_)
  have N1 := nRG A1 htb
  have N3 := nRG A3 htb
  replace A1 := kRg A1 hbb
  replace A3 := kRg A3 hbb
  replace HH := SN
  clear SN hbb htb
  unfold lv89
  simp only [Act.put, sA, sB, sC]
  refine hK.out _ _ HH.out (fun hH => ?_); clear hK K
  exact lv8_277 H0 t1 t3 rb w2 _ (by kernel_rfl) A1 N1 A3 N3 TH RB HH HQ
theorem lv8_5f (H : lv8h x6 q u W) (t1 : Nat) (t2 : Nat) (w : World) (listed : Array Bool) (hl : listed = #[true, true, true, true, true, false, true, false, false, false, false]) (A1 : Hid (Rg w t1 q)) (A2 : Hid (Rg w t2 q)) (HH : Hid (Below W.heap.size W w)) (HQ : Hid (lv8f Q x6 q u U W)) : lv8G Q x6 q u W 5 listed (lv8S U x6 q u t1 t2 0 0 0 true true true false false false false) w := by
 subst hl
 have H0 := H
 obtain ⟨x60, x61, x62, x63, C1⟩ := H
 simp only [lv8G, lv8S, cond_true, cond_false]
 refine wpAnyH_ready (rs := [5, 7, 9]) (by kernel_rfl) (by simp) ?_
 refine AllReadyH.cons (o := lv85) rfl (fun K hK => ?_) (AllReadyH.cons (o := lv87) rfl (fun K hK => ?_) (AllReadyH.cons (o := lv89) rfl (fun K hK => ?_) AllReadyH.nil))
 ·refine wp_b1 HH _ rfl u rfl (fun t3 w2 hbb SN A3 htb => ?_)
  replace A1 := kRg A1 hbb
  replace A2 := kRg A2 hbb
  replace HH := SN
  clear SN hbb htb
  unfold lv85
  simp only [Act.put, sA, sB, sC]
  refine hK.out _ _ HH.out (fun hH => ?_); clear hK K
  exact lv8_7f H0 t1 t2 t3 w2 _ (by kernel_rfl) A1 A2 A3 HH HQ
 ·refine wp_b1 HH _ rfl q rfl (fun t4 w2 hbb SN A4 htb => ?_)
  replace A1 := kRg A1 hbb
  replace A2 := kRg A2 hbb
  replace HH := SN
  clear SN hbb htb
  unfold lv87
  simp only [Act.put, sA, sB, sC]
  refine hK.out _ _ HH.out (fun hH => ?_); clear hK K
  exact lv8_df H0 t1 t2 t4 w2 _ (by kernel_rfl) A1 A2 A4 HH HQ
 ·refine wp_a1 HH rfl (fun rb w2 hbb SN TH RB htb => ?_)
  have N1 := nRG A1 htb
  have N2 := nRG A2 htb
  replace A1 := kRg A1 hbb
  replace A2 := kRg A2 hbb
  replace HH := SN
  clear SN hbb htb
  unfold lv89
  simp only [Act.put, sA, sB, sC]
  refine hK.out _ _ HH.out (fun hH => ?_); clear hK K
  exact lv8_25f H0 t1 t2 rb w2 _ (by kernel_rfl) A1 N1 A2 N2 TH RB HH HQ
theorem lv8_2c5 (H : lv8h x6 q u W) (t4 : Nat) (rb : Nat) (w : World) (listed : Array Bool) (hl : listed = #[true, false, true, false, false, false, true, true, false, true, false]) (A4 : Hid (Rg w t4 q)) (N4 : Hid (t4 ≠ rb)) (TH : Hid (w.there rb 0 4)) (RB : Hid (W.heap.size ≤ rb)) (HH : Hid (Below W.heap.size W w)) (HQ : Hid (lv8f Q x6 q u U W)) : lv8G Q x6 q u W 6 listed (lv8S U x6 q u 0 0 0 t4 rb false false false false true false true) w := by
 subst hl
 have H0 := H
 obtain ⟨x60, x61, x62, x63, C1⟩ := H
 simp only [lv8G, lv8S, cond_true, cond_false]
 refine wpAnyH_ready (rs := [1, 3, 4]) (by kernel_rfl) (by simp) ?_
 refine AllReadyH.cons (o := lv81) rfl (fun K hK => ?_) (AllReadyH.cons (o := lv83) rfl (fun K hK => ?_) (AllReadyH.cons (o := lv84) rfl (fun K hK => ?_) AllReadyH.nil))
 ·refine wp_b1 HH _ rfl q rfl (fun t1 w2 hbb SN A1 htb => ?_)
  have N1 := nTH TH htb
  replace A4 := kRg A4 hbb
  replace TH := kTH TH hbb
  replace HH := SN
  clear SN hbb htb
  unfold lv81
  simp only [Act.put, sA, sB, sC]
  refine hK.out _ _ HH.out (fun hH => ?_); clear hK K
  exact lv8_2c7 H0 t1 t4 rb w2 _ (by kernel_rfl) A1 N1 A4 N4 TH RB HH HQ
 ·refine wp_b1 HH _ rfl q rfl (fun t2 w2 hbb SN A2 htb => ?_)
  have N2 := nTH TH htb
  replace A4 := kRg A4 hbb
  replace TH := kTH TH hbb
  replace HH := SN
  clear SN hbb htb
  unfold lv83
  simp only [Act.put, sA, sB, sC]
  refine hK.out _ _ HH.out (fun hH => ?_); clear hK K
  exact lv8_2cd H0 t2 t4 rb w2 _ (by kernel_rfl) A2 N2 A4 N4 TH RB HH HQ
 ·unfold lv84
  go_simp
  refine (C1.out _).mono ?_
  rintro e w2 ⟨rfl, hb⟩
  have SN := hidden (bl_trans HH.out hb : Below W.heap.size W w2)
  replace A4 := kRg A4 hb
  replace TH := kTH TH hb
  replace HH := SN
  clear SN  hb
  go_wp2_with fail
  refine hK.out _ _ HH.out (fun hH => ?_); clear hK K
  exact lv8_2d5 H0 t4 rb w2 _ (by kernel_rfl) A4 N4 TH RB HH HQ
theorem lv8_255 (H : lv8h x6 q u W) (rb : Nat) (w : World) (listed : Array Bool) (hl : listed = #[true, false, true, false, true, false, true, false, false, true, false]) (TH : Hid (w.there rb 0 4)) (RB : Hid (W.heap.size ≤ rb)) (HH : Hid (Below W.heap.size W w)) (HQ : Hid (lv8f Q x6 q u U W)) : lv8G Q x6 q u W 6 listed (lv8S U x6 q u 0 0 0 0 rb false false true false false false true) w := by
 subst hl
 have H0 := H
 obtain ⟨x60, x61, x62, x63, C1⟩ := H
 simp only [lv8G, lv8S, cond_true, cond_false]
 refine wpAnyH_ready (rs := [1, 3, 5, 7]) (by kernel_rfl) (by simp) ?_
 refine AllReadyH.cons (o := lv81) rfl (fun K hK => ?_) (AllReadyH.cons (o := lv83) rfl (fun K hK => ?_) (AllReadyH.cons (o := lv85) rfl (fun K hK => ?_) (AllReadyH.cons (o := lv87) rfl (fun K hK => ?_) AllReadyH.nil)))
 ·refine wp_b1 HH _ rfl q rfl (fun t1 w2 hbb SN A1 htb => ?_)
  have N1 := nTH TH htb
  replace TH := kTH TH hbb
  replace HH := SN
  clear SN hbb htb
  unfold lv81
  simp only [Act.put, sA, sB, sC]
  refine hK.out _ _ HH.out (fun hH => ?_); clear hK K
  exact lv8_257 H0 t1 rb w2 _ (by kernel_rfl) A1 N1 TH RB HH HQ
 ·refine wp_b1 HH _ rfl q rfl (fun t2 w2 hbb SN A2 htb => ?_)
  have N2 := nTH TH htb
  replace TH := kTH TH hbb
  replace HH := SN
  clear SN hbb htb
  unfold lv83
  simp only [Act.put, sA, sB, sC]
  refine hK.out _ _ HH.out (fun hH => ?_); clear hK K
  exact lv8_25d H0 t2 rb w2 _ (by kernel_rfl) A2 N2 TH RB HH HQ
 ·refine wp_b1 HH _ rfl u rfl (fun t3 w2 hbb SN A3 htb => ?_)
  have N3 := nTH TH htb
  replace TH := kTH TH hbb
  replace HH := SN
  clear SN hbb htb
  unfold lv85
  simp only [Act.put, sA, sB, sC]
  refine hK.out _ _ HH.out (fun hH => ?_); clear hK K
  exact lv8_275 H0 t3 rb w2 _ (by kernel_rfl) A3 N3 TH RB HH HQ
 ·refine wp_b1 HH _ rfl q rfl (fun t4 w2 hbb SN A4 htb => ?_)
  have N4 := nTH TH htb
  replace TH := kTH TH hbb
  replace HH := SN
  clear SN hbb htb
  unfold lv87
  simp only [Act.put, sA, sB, sC]
  refine hK.out _ _ HH.out (fun hH => ?_); clear hK K
  exact lv8_2d5 H0 t4 rb w2 _ (by kernel_rfl) A4 N4 TH RB HH HQ
theorem lv8_24d (H : lv8h x6 q u W) (t2 : Nat) (rb : Nat) (w : World) (listed : Array Bool) (hl : listed = #[true, false, true, true, false, false, true, false, false, true, false]) (A2 : Hid (Rg w t2 q)) (N2 : Hid (t2 ≠ rb)) (TH : Hid (w.there rb 0 4)) (RB : Hid (W.heap.size ≤ rb)) (HH : Hid (Below W.heap.size W w)) (HQ : Hid (lv8f Q x6 q u U W)) : lv8G Q x6 q u W 6 listed (lv8S U x6 q u 0 t2 0 0 rb false true false false false false true) w := by
 subst hl
 have H0 := H
 obtain ⟨x60, x61, x62, x63, C1⟩ := H
 simp only [lv8G, lv8S, cond_true, cond_false]
 refine wpAnyH_ready (rs := [1, 4, 7]) (by kernel_rfl) (by simp) ?_
 refine AllReadyH.cons (o := lv81) rfl (fun K hK => ?_) (AllReadyH.cons (o := lv84) rfl (fun K hK => ?_) (AllReadyH.cons (o := lv87) rfl (fun K hK => ?_) AllReadyH.nil))
 ·refine wp_b1 HH _ rfl q rfl (fun t1 w2 hbb SN A1 htb => ?_)
  have N1 := nTH TH htb
  replace A2 := kRg A2 hbb
  replace TH := kTH TH hbb
  replace HH := SN
  clear SN hbb htb
  unfold lv81
  simp only [Act.put, sA, sB, sC]
  refine hK.out _ _ HH.out (fun hH => ?_); clear hK K
  exact lv8_24f H0 t1 t2 rb w2 _ (by kernel_rfl) A1 N1 A2 N2 TH RB HH HQ
 ·unfold lv84
  go_simp
  refine (C1.out _).mono ?_
  rintro e w2 ⟨rfl, hb⟩
  have SN := hidden (bl_trans HH.out hb : Below W.heap.size W w2)
  replace A2 := kRg A2 hb
  replace TH := kTH TH hb
  replace HH := SN
  clear SN  hb
  go_wp2_with fail
  refine hK.out _ _ HH.out (fun hH => ?_); clear hK K
  exact lv8_25d H0 t2 rb w2 _ (by kernel_rfl) A2 N2 TH RB HH HQ
 ·refine wp_b1 HH _ rfl q rfl (fun t4 w2 hbb SN A4 htb => ?_)
  have N4 := nTH TH htb
  replace A2 := kRg A2 hbb
  replace TH := kTH TH hbb
  replace HH := SN
  clear SN hbb htb
  unfold lv87
  simp only [Act.put, sA, sB, sC]
  refine hK.out _ _ HH.out (fun hH => ?_); clear hK K
  exact lv8_2cd H0 t2 t4 rb w2 _ (by kernel_rfl) A2 N2 A4 N4 TH RB HH HQ
theorem lv8_247 (H : lv8h x6 q u W) (t1 : Nat) (rb : Nat) (w : World) (listed : Array Bool) (hl : listed = #[true, true, true, false, false, false, true, false, false, true, false]) (A1 : Hid (Rg w t1 q)) (N1 : Hid (t1 ≠ rb)) (TH : Hid (w.there rb 0 4)) (RB : Hid (W.heap.size ≤ rb)) (HH : Hid (Below W.heap.size W w)) (HQ : Hid (lv8f Q x6 q u U W)) : lv8G Q x6 q u W 6 listed (lv8S U x6 q u t1 0 0 0 rb true false false false false false true) w := by
 subst hl
 have H0 := H
 obtain ⟨x60, x61, x62, x63, C1⟩ := H
 simp only [lv8G, lv8S, cond_true, cond_false]
 refine wpAnyH_ready (rs := [3, 4, 7]) (by kernel_rfl) (by simp) ?_
 refine AllReadyH.cons (o := lv83) rfl (fun K hK => ?_) (AllReadyH.cons (o := lv84) rfl (fun K hK => ?_) (AllReadyH.cons (o := lv87) rfl (fun K hK => ?_) AllReadyH.nil))
 ·refine wp_b1 HH _ rfl q rfl (fun t2 w2 hbb SN A2 htb => ?_)
  have N2 := nTH TH htb
  replace A1 := kRg A1 hbb
  replace TH := kTH TH hbb
  replace HH := SN
  clear SN hbb htb
  unfold lv83
  simp only [Act.put, sA, sB, sC]
  refine hK.out _ _ HH.out (fun hH => ?_); clear hK K
  exact lv8_24f H0 t1 t2 rb w2 _ (by kernel_rfl) A1 N1 A2 N2 TH RB HH HQ
 ·unfold lv84
  go_simp
  refine (C1.out _).mono ?_
  rintro e w2 ⟨rfl, hb⟩
  have SN := hidden (bl_trans HH.out hb : Below W.heap.size W w2)
  replace A1 := kRg A1 hb
  replace TH := kTH TH hb
  replace HH := SN
  clear SN  hb
  go_wp2_with fail
  refine hK.out _ _ HH.out (fun hH => ?_); clear hK K
  exact lv8_257 H0 t1 rb w2 _ (by kernel_rfl) A1 N1 TH RB HH HQ
 ·refine wp_b1 HH _ rfl q rfl (fun t4 w2 hbb SN A4 htb => ?_)
  have N4 := nTH TH htb
  replace A1 := kRg A1 hbb
  replace TH := kTH TH hbb
  replace HH := SN
  clear SN hbb htb
  unfold lv87
  simp only [Act.put, sA, sB, sC]
  refine hK.out _ _ HH.out (fun hH => ?_); clear hK K
  exact lv8_2c7 H0 t1 t4 rb w2 _ (by kernel_rfl) A1 N1 A4 N4 TH RB HH HQ
theorem lv8_d5 (H : lv8h x6 q u W) (t4 : Nat) (w : World) (listed : Array Bool) (hl : listed = #[true, false, true, false, true, false, true, true, false, false, false]) (A4 : Hid (Rg w t4 q)) (HH : Hid (Below W.heap.size W w)) (HQ : Hid (lv8f Q x6 q u U W)) : lv8G Q x6 q u W 6 listed (lv8S U x6 q u 0 0 0 t4 0 false false true false true false false) w := by
 subst hl
 have H0 := H
 obtain ⟨x60, x61, x62, x63, C1⟩ := H
 simp only [lv8G, lv8S, cond_true, cond_false]
 refine wpAnyH_ready (rs := [1, 3, 5, 9]) (by kernel_rfl) (by simp) ?_
 refine AllReadyH.cons (o := lv81) rfl (fun K hK => ?_) (AllReadyH.cons (o := lv83) rfl (fun K hK => ?_) (AllReadyH.cons (o := lv85) rfl (fun K hK => ?_) (AllReadyH.cons (o := lv89) rfl (fun K hK => ?_) AllReadyH.nil)))
 ·refine wp_b1 HH _ rfl q rfl (fun t1 w2 hbb SN A1 htb => ?_)
  replace A4 := kRg A4 hbb
  replace HH := SN
  clear SN hbb htb
  unfold lv81
  simp only [Act.put, sA, sB, sC]
  refine hK.out _ _ HH.out (fun hH => ?_); clear hK K
  exact lv8_d7 H0 t1 t4 w2 _ (by kernel_rfl) A1 A4 HH HQ
 ·refine wp_b1 HH _ rfl q rfl (fun t2 w2 hbb SN A2 htb => ?_)
  replace A4 := kRg A4 hbb
  replace HH := SN
  clear SN hbb htb
  unfold lv83
  simp only [Act.put, sA, sB, sC]
  refine hK.out _ _ HH.out (fun hH => ?_); clear hK K
  exact lv8_dd H0 t2 t4 w2 _ (by kernel_rfl) A2 A4 HH HQ
 ·refine wp_b1 HH _ rfl u rfl (fun t3 w2 hbb SN A3 htb => ?_)
  replace A4 := kRg A4 hbb
  replace HH := SN
  clear SN hbb htb
  unfold lv85
  simp only [Act.put, sA, sB, sC]
  refine hK.out _ _ HH.out (fun hH => ?_); clear hK K
  exact lv8_f5 H0 t3 t4 w2 _ (by kernel_rfl) A3 A4 HH HQ
 ·refine wp_a1 HH rfl (fun rb w2 hbb SN TH RB htb => ?_)
  have N4 := nRG A4 htb
  replace A4 := kRg A4 hbb
  replace HH := SN
  clear SN hbb htb
  unfold lv89
  simp only [Act.put, sA, sB, sC]
  refine hK.out _ _ HH.out (fun hH => ?_); clear hK K
  exact lv8_2d5 H0 t4 rb w2 _ (by kernel_rfl) A4 N4 TH RB HH HQ
theorem lv8_cd (H : lv8h x6 q u W) (t2 : Nat) (t4 : Nat) (w : World) (listed : Array Bool) (hl : listed = #[true, false, true, true, false, false, true, true, false, false, false]) (A2 : Hid (Rg w t2 q)) (A4 : Hid (Rg w t4 q)) (HH : Hid (Below W.heap.size W w)) (HQ : Hid (lv8f Q x6 q u U W)) : lv8G Q x6 q u W 6 listed (lv8S U x6 q u 0 t2 0 t4 0 false true false false true false false) w := by
 subst hl
 have H0 := H
 obtain ⟨x60, x61, x62, x63, C1⟩ := H
 simp only [lv8G, lv8S, cond_true, cond_false]
 refine wpAnyH_ready (rs := [1, 4, 9]) (by kernel_rfl) (by simp) ?_
 refine AllReadyH.cons (o := lv81) rfl (fun K hK => ?_) (AllReadyH.cons (o := lv84) rfl (fun K hK => ?_) (AllReadyH.cons (o := lv89) rfl (fun K hK => ?_) AllReadyH.nil))
 ·refine wp_b1 HH _ rfl q rfl (fun t1 w2 hbb SN A1 htb => ?_)
  replace A2 := kRg A2 hbb
  replace A4 := kRg A4 hbb
  replace HH := SN
  clear SN hbb htb
  unfold lv81
  simp only [Act.put, sA, sB, sC]
  refine hK.out _ _ HH.out (fun hH => ?_); clear hK K
  exact lv8_cf H0 t1 t2 t4 w2 _ (by kernel_rfl) A1 A2 A4 HH HQ
 ·unfold lv84
  go_simp
  refine (C1.out _).mono ?_
  rintro e w2 ⟨rfl, hb⟩
  have SN := hidden (bl_trans HH.out hb : Below W.heap.size W w2)
  replace A2 := kRg A2 hb
  replace A4 := kRg A4 hb
  replace HH := SN
  clear SN  hb
  go_wp2_with fail
  refine hK.out _ _ HH.out (fun hH => ?_); clear hK K
  exact lv8_dd H0 t2 t4 w2 _ (by kernel_rfl) A2 A4 HH HQ
 ·refine wp_a1 HH rfl (fun rb w2 hbb SN TH RB htb => ?_)
  have N2 := nRG A2 htb
  have N4 := nRG A4 htb
  replace A2 := kRg A2 hbb
  replace A4 := kRg A4 hbb
  replace HH := SN
  clear SN hbb htb
  unfold lv89
  simp only [Act.put, sA, sB, sC]
  refine hK.out _ _ HH.out (fun hH => ?_); clear hK K
  exact lv8_2cd H0 t2 t4 rb w2 _ (by kernel_rfl) A2 N2 A4 N4 TH RB HH HQ
theorem lv8_c7 (H : lv8h x6 q u W) (t1 : Nat) (t4 : Nat) (w : World) (listed : Array Bool) (hl : listed = #[true, true, true, false, false, false, true, true, false, false, false]) (A1 : Hid (Rg w t1 q)) (A4 : Hid (Rg w t4 q)) (HH : Hid (Below W.heap.size W w)) (HQ : Hid (lv8f Q x6 q u U W)) : lv8G Q x6 q u W 6 listed (lv8S U x6 q u t1 0 0 t4 0 true false false false true false false) w := by
 subst hl
 have H0 := H
 obtain ⟨x60, x61, x62, x63, C1⟩ := H
 simp only [lv8G, lv8S, cond_true, cond_false]
 refine wpAnyH_ready (rs := [3, 4, 9]) (by kernel_rfl) (by simp) ?_
 refine AllReadyH.cons (o := lv83) rfl (fun K hK => ?_) (AllReadyH.cons (o := lv84) rfl (fun K hK => ?_) (AllReadyH.cons (o := lv89) rfl (fun K hK => ?_) AllReadyH.nil))
 ·refine wp_b1 HH _ rfl q rfl (fun t2 w2 hbb SN A2 htb => ?_)
  replace A1 := kRg A1 hbb
  replace A4 := kRg A4 hbb
  replace HH := SN
  clear SN hbb htb
  unfold lv83
  simp only [Act.put, sA, sB, sC]
  refine hK.out _ _ HH.out (fun hH => ?_); clear hK K
  exact lv8_cf H0 t1 t2 t4 w2 _ (by kernel_rfl) A1 A2 A4 HH HQ
 ·unfold lv84
  go_simp
  refine (C1.out _).mono ?_
  rintro e w2 ⟨rfl, hb⟩
  have SN := hidden (bl_trans HH.out hb : Below W.heap.size W w2)
  replace A1 := kRg A1 hb
  replace A4 := kRg A4 hb
  replace HH := SN
  clear SN  hb
  go_wp2_with fail
  refine hK.out _ _ HH.out (fun hH => ?_); clear hK K
  exact lv8_d7 H0 t1 t4 w2 _ (by kernel_rfl) A1 A4 HH HQ
 ·refine wp_a1 HH rfl (fun rb w2 hbb SN TH RB htb => ?_)
  have N1 := nRG A1 htb
  have N4 := nRG A4 htb
  replace A1 := kRg A1 hbb
  replace A4 := kRg A4 hbb
  replace HH := SN
  clear SN hbb htb
  unfold lv89
  simp only [Act.put, sA, sB, sC]
  refine hK.out _ _ HH.out (fun hH => ?_); clear hK K
  exact lv8_2c7 H0 t1 t4 rb w2 _ (by kernel_rfl) A1 N1 A4 N4 TH RB HH HQ
theorem lv8_75 (H : lv8h x6 q u W) (t3 : Nat) (w : World) (listed : Array Bool) (hl : listed = #[true, false, true, false, true, true, true, false, false, false, false]) (A3 : Hid (Rg w t3 u)) (HH : Hid (Below W.heap.size W w)) (HQ : Hid (lv8f Q x6 q u U W)) : lv8G Q x6 q u W 6 listed (lv8S U x6 q u 0 0 t3 0 0 false false true true false false false) w := by
 subst hl
 have H0 := H
 obtain ⟨x60, x61, x62, x63, C1⟩ := H
 simp only [lv8G, lv8S, cond_true, cond_false]
 refine wpAnyH_ready (rs := [1, 3, 7, 9]) (by kernel_rfl) (by simp) ?_
 refine AllReadyH.cons (o := lv81) rfl (fun K hK => ?_) (AllReadyH.cons (o := lv83) rfl (fun K hK => ?_) (AllReadyH.cons (o := lv87) rfl (fun K hK => ?_) (AllReadyH.cons (o := lv89) rfl (fun K hK => ?_) AllReadyH.nil)))
 ·refine wp_b1 HH _ rfl q rfl (fun t1 w2 hbb SN A1 htb => ?_)
  replace A3 := kRg A3 hbb
  replace HH := SN
  clear SN hbb htb
  unfold lv81
  simp only [Act.put, sA, sB, sC]
  refine hK.out _ _ HH.out (fun hH => ?_); clear hK K
  exact lv8_77 H0 t1 t3 w2 _ (by kernel_rfl) A1 A3 HH HQ
 ·refine wp_b1 HH _ rfl q rfl (fun t2 w2 hbb SN A2 htb => ?_)
  replace A3 := kRg A3 hbb
  replace HH := SN
  clear SN hbb htb
  unfold lv83
  simp only [Act.put, sA, sB, sC]
  refine hK.out _ _ HH.out (fun hH => ?_); clear hK K
  exact lv8_7d H0 t2 t3 w2 _ (by kernel_rfl) A2 A3 HH HQ
 ·refine wp_b1 HH _ rfl q rfl (fun t4 w2 hbb SN A4 htb => ?_)
  replace A3 := kRg A3 hbb
  replace HH := SN
  clear SN hbb htb
  unfold lv87
  simp only [Act.put, sA, sB, sC]
  refine hK.out _ _ HH.out (fun hH => ?_); clear hK K
  exact lv8_f5 H0 t3 t4 w2 _ (by kernel_rfl) A3 A4 HH HQ
 ·refine wp_a1 HH rfl (fun rb w2 hbb SN TH RB htb => ?_)
  have N3 := nRG A3 htb
  replace A3 := kRg A3 hbb
  replace HH := SN
  clear SN hbb htb
  unfold lv89
  simp only [Act.put, sA, sB, sC]
  refine hK.out _ _ HH.out (fun hH => ?_); clear hK K
  exact lv8_275 H0 t3 rb w2 _ (by kernel_rfl) A3 N3 TH RB HH HQ
theorem lv8_5d (H : lv8h x6 q u W) (t2 : Nat) (w : World) (listed : Array Bool) (hl : listed = #[true, false, true, true, true, false, true, false, false, false, false]) (A2 : Hid (Rg w t2 q)) (HH : Hid (Below W.heap.size W w)) (HQ : Hid (lv8f Q x6 q u U W)) : lv8G Q x6 q u W 6 listed (lv8S U x6 q u 0 t2 0 0 0 false true true false false false false) w := by
 subst hl
 have H0 := H
 obtain ⟨x60, x61, x62, x63, C1⟩ := H
 simp only [lv8G, lv8S, cond_true, cond_false]
 refine wpAnyH_ready (rs := [1, 5, 7, 9]) (by kernel_rfl) (by simp) ?_
 refine AllReadyH.cons (o := lv81) rfl (fun K hK => ?_) (AllReadyH.cons (o := lv85) rfl (fun K hK => ?_) (AllReadyH.cons (o := lv87) rfl (fun K hK => ?_) (AllReadyH.cons (o := lv89) rfl (fun K hK => ?_) AllReadyH.nil)))
 ·refine wp_b1 HH _ rfl q rfl (fun t1 w2 hbb SN A1 htb => ?_)
  replace A2 := kRg A2 hbb
  replace HH := SN
  clear SN hbb htb
  unfold lv81
  simp only [Act.put, sA, sB, sC]
  refine hK.out _ _ HH.out (fun hH => ?_); clear hK K
  exact lv8_5f H0 t1 t2 w2 _ (by kernel_rfl) A1 A2 HH HQ
 ·refine wp_b1 HH _ rfl u rfl (fun t3 w2 hbb SN A3 htb => ?_)
  replace A2 := kRg A2 hbb
  replace HH := SN
  clear SN hbb htb
  unfold lv85
  simp only [Act.put, sA, sB, sC]
  refine hK.out _ _ HH.out (fun hH => ?_); clear hK K
  exact lv8_7d H0 t2 t3 w2 _ (by kernel_rfl) A2 A3 HH HQ
 ·refine wp_b1 HH _ rfl q rfl (fun t4 w2 hbb SN A4 htb => ?_)
  replace A2 := kRg A2 hbb
  replace HH := SN
  clear SN hbb htb
  unfold lv87
  simp only [Act.put, sA, sB, sC]
  refine hK.out _ _ HH.out (fun hH => ?_); clear hK K
  exact lv8_dd H0 t2 t4 w2 _ (by kernel_rfl) A2 A4 HH HQ
 ·refine wp_a1 HH rfl (fun rb w2 hbb SN TH RB htb => ?_)
  have N2 := nRG A2 htb
  replace A2 := kRg A2 hbb
  replace HH := SN
  clear SN hbb htb
  unfold lv89
  simp only [Act.put, sA, sB, sC]
  refine hK.out _ _ HH.out (fun hH => ?_); clear hK K
  exact lv8_25d H0 t2 rb w2 _ (by kernel_rfl) A2 N2 TH RB HH HQ
theorem lv8_57 (H : lv8h x6 q u W) (t1 : Nat) (w : World) (listed : Array Bool) (hl : listed = #[true, true, true, false, true, false, true, false, false, false, false]) (A1 : Hid (Rg w t1 q)) (HH : Hid (Below W.heap.size W w)) (HQ : Hid (lv8f Q x6 q u U W)) : lv8G Q x6 q u W 6 listed (lv8S U x6 q u t1 0 0 0 0 true false true false false false false) w := by
 subst hl
 have H0 := H
 obtain ⟨x60, x61, x62, x63, C1⟩ := H
 simp only [lv8G, lv8S, cond_true, cond_false]
 refine wpAnyH_ready (rs := [3, 5, 7, 9]) (by kernel_rfl) (by simp) ?_
 refine AllReadyH.cons (o := lv83) rfl (fun K hK => ?_) (AllReadyH.cons (o := lv85) rfl (fun K hK => ?_) (AllReadyH.cons (o := lv87) rfl (fun K hK => ?_) (AllReadyH.cons (o := lv89) rfl (fun K hK => ?_) AllReadyH.nil)))
 ·refine wp_b1 HH _ rfl q rfl (fun t2 w2 hbb SN A2 htb => ?_)
  replace A1 := kRg A1 hbb
  replace HH := SN
  clear SN hbb htb
  unfold lv83
  simp only [Act.put, sA, sB, sC]
  refine hK.out _ _ HH.out (fun hH => ?_); clear hK K
  exact lv8_5f H0 t1 t2 w2 _ (by kernel_rfl) A1 A2 HH HQ
 ·refine wp_b1 HH _ rfl u rfl (fun t3 w2 hbb SN A3 htb => ?_)
  replace A1 := kRg A1 hbb
  replace HH := SN
  clear SN hbb htb
  unfold lv85
  simp only [Act.put, sA, sB, sC]
  refine hK.out _ _ HH.out (fun hH => ?_); clear hK K
  exact lv8_77 H0 t1 t3 w2 _ (by kernel_rfl) A1 A3 HH HQ
 ·refine wp_b1 HH _ rfl q rfl (fun t4 w2 hbb SN A4 htb => ?_)
  replace A1 := kRg A1 hbb
  replace HH := SN
  clear SN hbb htb
  unfold lv87
  simp only [Act.put, sA, sB, sC]
  refine hK.out _ _ HH.out (fun hH => ?_); clear hK K
  exact lv8_d7 H0 t1 t4 w2 _ (by kernel_rfl) A1 A4 HH HQ
 ·refine wp_a1 HH rfl (fun rb w2 hbb SN TH RB htb => ?_)
  have N1 := nRG A1 htb
  replace A1 := kRg A1 hbb
  replace HH := SN
  clear SN hbb htb
  unfold lv89
  simp only [Act.put, sA, sB, sC]
  refine hK.out _ _ HH.out (fun hH => ?_); clear hK K
  exact lv8_257 H0 t1 rb w2 _ (by kernel_rfl) A1 N1 TH RB HH HQ
theorem lv8_4f (H : lv8h x6 q u W) (t1 : Nat) (t2 : Nat) (w : World) (listed : Array Bool) (hl : listed = #[true, true, true, true, false, false, true, false, false, false, false]) (A1 : Hid (Rg w t1 q)) (A2 : Hid (Rg w t2 q)) (HH : Hid (Below W.heap.size W w)) (HQ : Hid (lv8f Q x6 q u U W)) : lv8G Q x6 q u W 6 listed (lv8S U x6 q u t1 t2 0 0 0 true true false false false false false) w := by
 subst hl
 have H0 := H
 obtain ⟨x60, x61, x62, x63, C1⟩ := H
 simp only [lv8G, lv8S, cond_true, cond_false]
 refine wpAnyH_ready (rs := [4, 7, 9]) (by kernel_rfl) (by simp) ?_
 refine AllReadyH.cons (o := lv84) rfl (fun K hK => ?_) (AllReadyH.cons (o := lv87) rfl (fun K hK => ?_) (AllReadyH.cons (o := lv89) rfl (fun K hK => ?_) AllReadyH.nil))
 ·unfold lv84
  go_simp
  refine (C1.out _).mono ?_
  rintro e w2 ⟨rfl, hb⟩
  have SN := hidden (bl_trans HH.out hb : Below W.heap.size W w2)
  replace A1 := kRg A1 hb
  replace A2 := kRg A2 hb
  replace HH := SN
  clear SN  hb
  go_wp2_with fail
  refine hK.out _ _ HH.out (fun hH => ?_); clear hK K
  exact lv8_5f H0 t1 t2 w2 _ (by kernel_rfl) A1 A2 HH HQ
 ·refine wp_b1 HH _ rfl q rfl (fun t4 w2 hbb SN A4 htb => ?_)
  replace A1 := kRg A1 hbb
  replace A2 := kRg A2 hbb
  replace HH := SN
  clear SN hbb htb
  unfold lv87
  simp only [Act.put, sA, sB, sC]
  refine hK.out _ _ HH.out (fun hH => ?_); clear hK K
  exact lv8_cf H0 t1 t2 t4 w2 _ (by kernel_rfl) A1 A2 A4 HH HQ
 ·refine wp_a1 HH rfl (fun rb w2 hbb SN TH RB htb => ?_)
  have N1 := nRG A1 htb
  have N2 := nRG A2 htb
  replace A1 := kRg A1 hbb
  replace A2 := kRg A2 hbb
  replace HH := SN
  clear SN hbb htb
  unfold lv89
  simp only [Act.put, sA, sB, sC]
  refine hK.out _ _ HH.out (fun hH => ?_); clear hK K
  exact lv8_24f H0 t1 t2 rb w2 _ (by kernel_rfl) A1 N1 A2 N2 TH RB HH HQ
theorem lv8_245 (H : lv8h x6 q u W) (rb : Nat) (w : World) (listed : Array Bool) (hl : listed = #[true, false, true, false, false, false, true, false, false, true, false]) (TH : Hid (w.there rb 0 4)) (RB : Hid (W.heap.size ≤ rb)) (HH : Hid (Below W.heap.size W w)) (HQ : Hid (lv8f Q x6 q u U W)) : lv8G Q x6 q u W 7 listed (lv8S U x6 q u 0 0 0 0 rb false false false false false false true) w := by
 subst hl
 have H0 := H
 obtain ⟨x60, x61, x62, x63, C1⟩ := H
 simp only [lv8G, lv8S, cond_true, cond_false]
 refine wpAnyH_ready (rs := [1, 3, 4, 7]) (by kernel_rfl) (by simp) ?_
 refine AllReadyH.cons (o := lv81) rfl (fun K hK => ?_) (AllReadyH.cons (o := lv83) rfl (fun K hK => ?_) (AllReadyH.cons (o := lv84) rfl (fun K hK => ?_) (AllReadyH.cons (o := lv87) rfl (fun K hK => ?_) AllReadyH.nil)))
 ·refine wp_b1 HH _ rfl q rfl (fun t1 w2 hbb SN A1 htb => ?_)
  have N1 := nTH TH htb
  replace TH := kTH TH hbb
  replace HH := SN
  clear SN hbb htb
  unfold lv81
  simp only [Act.put, sA, sB, sC]
  refine hK.out _ _ HH.out (fun hH => ?_); clear hK K
  exact lv8_247 H0 t1 rb w2 _ (by kernel_rfl) A1 N1 TH RB HH HQ
 ·refine wp_b1 HH _ rfl q rfl (fun t2 w2 hbb SN A2 htb => ?_)
  have N2 := nTH TH htb
  replace TH := kTH TH hbb
  replace HH := SN
  clear SN hbb htb
  unfold lv83
  simp only [Act.put, sA, sB, sC]
  refine hK.out _ _ HH.out (fun hH => ?_); clear hK K
  exact lv8_24d H0 t2 rb w2 _ (by kernel_rfl) A2 N2 TH RB HH HQ
 ·unfold lv84
  go_simp
  refine (C1.out _).mono ?_
  rintro e w2 ⟨rfl, hb⟩
  have SN := hidden (bl_trans HH.out hb : Below W.heap.size W w2)
  replace TH := kTH TH hb
  replace HH := SN
  clear SN  hb
  go_wp2_with fail
  refine hK.out _ _ HH.out (fun hH => ?_); clear hK K
  exact lv8_255 H0 rb w2 _ (by kernel_rfl) TH RB HH HQ
 ·refine wp_b1 HH _ rfl q rfl (fun t4 w2 hbb SN A4 htb => ?_)
  have N4 := nTH TH htb
  replace TH := kTH TH hbb
  replace HH := SN
  clear SN hbb htb
  unfold lv87
  simp only [Act.put, sA, sB, sC]
  refine hK.out _ _ HH.out (fun hH => ?_); clear hK K
  exact lv8_2c5 H0 t4 rb w2 _ (by kernel_rfl) A4 N4 TH RB HH HQ
theorem lv8_c5 (H : lv8h x6 q u W) (t4 : Nat) (w : World) (listed : Array Bool) (hl : listed = #[true, false, true, false, false, false, true, true, false, false, false]) (A4 : Hid (Rg w t4 q)) (HH : Hid (Below W.heap.size W w)) (HQ : Hid (lv8f Q x6 q u U W)) : lv8G Q x6 q u W 7 listed (lv8S U x6 q u 0 0 0 t4 0 false false false false true false false) w := by
 subst hl
 have H0 := H
 obtain ⟨x60, x61, x62, x63, C1⟩ := H
 simp only [lv8G, lv8S, cond_true, cond_false]
 refine wpAnyH_ready (rs := [1, 3, 4, 9]) (by kernel_rfl) (by simp) ?_
 refine AllReadyH.cons (o := lv81) rfl (fun K hK => ?_) (AllReadyH.cons (o := lv83) rfl (fun K hK => ?_) (AllReadyH.cons (o := lv84) rfl (fun K hK => ?_) (AllReadyH.cons (o := lv89) rfl (fun K hK => ?_) AllReadyH.nil)))
 ·refine wp_b1 HH _ rfl q rfl (fun t1 w2 hbb SN A1 htb => ?_)
  replace A4 := kRg A4 hbb
  replace HH := SN
  clear SN hbb htb
  unfold lv81
  simp only [Act.put, sA, sB, sC]
  refine hK.out _ _ HH.out (fun hH => ?_); clear hK K
  exact lv8_c7 H0 t1 t4 w2 _ (by kernel_rfl) A1 A4 HH HQ
 ·refine wp_b1 HH _ rfl q rfl (fun t2 w2 hbb SN A2 htb => ?_)
  replace A4 := kRg A4 hbb
  replace HH := SN
  clear SN hbb htb
  unfold lv83
  simp only [Act.put, sA, sB, sC]
  refine hK.out _ _ HH.out (fun hH => ?_); clear hK K
  exact lv8_cd H0 t2 t4 w2 _ (by kernel_rfl) A2 A4 HH HQ
 ·unfold lv84
  go_simp
  refine (C1.out _).mono ?_
  rintro e w2 ⟨rfl, hb⟩
  have SN := hidden (bl_trans HH.out hb : Below W.heap.size W w2)
  replace A4 := kRg A4 hb
  replace HH := SN
  clear SN  hb
  go_wp2_with fail
  refine hK.out _ _ HH.out (fun hH => ?_); clear hK K
  exact lv8_d5 H0 t4 w2 _ (by kernel_rfl) A4 HH HQ
 ·refine wp_a1 HH rfl (fun rb w2 hbb SN TH RB htb => ?_)
  have N4 := nRG A4 htb
  replace A4 := kRg A4 hbb
  replace HH := SN
  clear SN hbb htb
  unfold lv89
  simp only [Act.put, sA, sB, sC]
  refine hK.out _ _ HH.out (fun hH => ?_); clear hK K
  exact lv8_2c5 H0 t4 rb w2 _ (by kernel_rfl) A4 N4 TH RB HH HQ
theorem lv8_55 (H : lv8h x6 q u W)  (w : World) (listed : Array Bool) (hl : listed = #[true, false, true, false, true, false, true, false, false, false, false])  (HH : Hid (Below W.heap.size W w)) (HQ : Hid (lv8f Q x6 q u U W)) : lv8G Q x6 q u W 7 listed (lv8S U x6 q u 0 0 0 0 0 false false true false false false false) w := by
 subst hl
 have H0 := H
 obtain ⟨x60, x61, x62, x63, C1⟩ := H
 simp only [lv8G, lv8S, cond_true, cond_false]
 refine wpAnyH_ready (rs := [1, 3, 5, 7, 9]) (by kernel_rfl) (by simp) ?_
 refine AllReadyH.cons (o := lv81) rfl (fun K hK => ?_) (AllReadyH.cons (o := lv83) rfl (fun K hK => ?_) (AllReadyH.cons (o := lv85) rfl (fun K hK => ?_) (AllReadyH.cons (o := lv87) rfl (fun K hK => ?_) (AllReadyH.cons (o := lv89) rfl (fun K hK => ?_) AllReadyH.nil))))
 ·refine wp_b1 HH _ rfl q rfl (fun t1 w2 hbb SN A1 htb => ?_)
  replace HH := SN
  clear SN hbb htb
  unfold lv81
  simp only [Act.put, sA, sB, sC]
  refine hK.out _ _ HH.out (fun hH => ?_); clear hK K
  exact lv8_57 H0 t1 w2 _ (by kernel_rfl) A1 HH HQ
 ·refine wp_b1 HH _ rfl q rfl (fun t2 w2 hbb SN A2 htb => ?_)
  replace HH := SN
  clear SN hbb htb
  unfold lv83
  simp only [Act.put, sA, sB, sC]
  refine hK.out _ _ HH.out (fun hH => ?_); clear hK K
  exact lv8_5d H0 t2 w2 _ (by kernel_rfl) A2 HH HQ
 ·refine wp_b1 HH _ rfl u rfl (fun t3 w2 hbb SN A3 htb => ?_)
  replace HH := SN
  clear SN hbb htb
  unfold lv85
  simp only [Act.put, sA, sB, sC]
  refine hK.out _ _ HH.out (fun hH => ?_); clear hK K
  exact lv8_75 H0 t3 w2 _ (by kernel_rfl) A3 HH HQ
 ·refine wp_b1 HH _ rfl q rfl (fun t4 w2 hbb SN A4 htb => ?_)
  replace HH := SN
  clear SN hbb htb
  unfold lv87
  simp only [Act.put, sA, sB, sC]
  refine hK.out _ _ HH.out (fun hH => ?_); clear hK K
  exact lv8_d5 H0 t4 w2 _ (by kernel_rfl) A4 HH HQ
 ·refine wp_a1 HH rfl (fun rb w2 hbb SN TH RB htb => ?_)
  replace HH := SN
  clear SN hbb htb
  unfold lv89
  simp only [Act.put, sA, sB, sC]
  refine hK.out _ _ HH.out (fun hH => ?_); clear hK K
  exact lv8_255 H0 rb w2 _ (by kernel_rfl) TH RB HH HQ
theorem lv8_4d (H : lv8h x6 q u W) (t2 : Nat) (w : World) (listed : Array Bool) (hl : listed = #[true, false, true, true, false, false, true, false, false, false, false]) (A2 : Hid (Rg w t2 q)) (HH : Hid (Below W.heap.size W w)) (HQ : Hid (lv8f Q x6 q u U W)) : lv8G Q x6 q u W 7 listed (lv8S U x6 q u 0 t2 0 0 0 false true false false false false false) w := by
 subst hl
 have H0 := H
 obtain ⟨x60, x61, x62, x63, C1⟩ := H
 simp only [lv8G, lv8S, cond_true, cond_false]
 refine wpAnyH_ready (rs := [1, 4, 7, 9]) (by kernel_rfl) (by simp) ?_
 refine AllReadyH.cons (o := lv81) rfl (fun K hK => ?_) (AllReadyH.cons (o := lv84) rfl (fun K hK => ?_) (AllReadyH.cons (o := lv87) rfl (fun K hK => ?_) (AllReadyH.cons (o := lv89) rfl (fun K hK => ?_) AllReadyH.nil)))
 ·refine wp_b1 HH _ rfl q rfl (fun t1 w2 hbb SN A1 htb => ?_)
  replace A2 := kRg A2 hbb
  replace HH := SN
  clear SN hbb htb
  unfold lv81
  simp only [Act.put, sA, sB, sC]
  refine hK.out _ _ HH.out (fun hH => ?_); clear hK K
  exact lv8_4f H0 t1 t2 w2 _ (by kernel_rfl) A1 A2 HH HQ
 ·unfold lv84
  go_simp
  refine (C1.out _).mono ?_
  rintro e w2 ⟨rfl, hb⟩
  have SN := hidden (bl_trans HH.out hb : Below W.heap.size W w2)
  replace A2 := kRg A2 hb
  replace HH := SN
  clear SN  hb
  go_wp2_with fail
  refine hK.out _ _ HH.out (fun hH => ?_); clear hK K
  exact lv8_5d H0 t2 w2 _ (by kernel_rfl) A2 HH HQ
 ·refine wp_b1 HH _ rfl q rfl (fun t4 w2 hbb SN A4 htb => ?_)
  replace A2 := kRg A2 hbb
  replace HH := SN
  clear SN hbb htb
  unfold lv87
  simp only [Act.put, sA, sB, sC]
  refine hK.out _ _ HH.out (fun hH => ?_); clear hK K
  exact lv8_cd H0 t2 t4 w2 _ (by kernel_rfl) A2 A4 HH HQ
 ·refine wp_a1 HH rfl (fun rb w2 hbb SN TH RB htb => ?_)
  have N2 := nRG A2 htb
  replace A2 := kRg A2 hbb
  replace HH := SN
  clear SN hbb htb
  unfold lv89
  simp only [Act.put, sA, sB, sC]
  refine hK.out _ _ HH.out (fun hH => ?_); clear hK K
  exact lv8_24d H0 t2 rb w2 _ (by kernel_rfl) A2 N2 TH RB HH HQ
theorem lv8_47 (H : lv8h x6 q u W) (t1 : Nat) (w : World) (listed : Array Bool) (hl : listed = #[true, true, true, false, false, false, true, false, false, false, false]) (A1 : Hid (Rg w t1 q)) (HH : Hid (Below W.heap.size W w)) (HQ : Hid (lv8f Q x6 q u U W)) : lv8G Q x6 q u W 7 listed (lv8S U x6 q u t1 0 0 0 0 true false false false false false false) w := by
 subst hl
 have H0 := H
 obtain ⟨x60, x61, x62, x63, C1⟩ := H
 simp only [lv8G, lv8S, cond_true, cond_false]
 refine wpAnyH_ready (rs := [3, 4, 7, 9]) (by kernel_rfl) (by simp) ?_
 refine AllReadyH.cons (o := lv83) rfl (fun K hK => ?_) (AllReadyH.cons (o := lv84) rfl (fun K hK => ?_) (AllReadyH.cons (o := lv87) rfl (fun K hK => ?_) (AllReadyH.cons (o := lv89) rfl (fun K hK => ?_) AllReadyH.nil)))
 ·refine wp_b1 HH _ rfl q rfl (fun t2 w2 hbb SN A2 htb => ?_)
  replace A1 := kRg A1 hbb
  replace HH := SN
  clear SN hbb htb
  unfold lv83
  simp only [Act.put, sA, sB, sC]
  refine hK.out _ _ HH.out (fun hH => ?_); clear hK K
  exact lv8_4f H0 t1 t2 w2 _ (by kernel_rfl) A1 A2 HH HQ
 ·unfold lv84
  go_simp
  refine (C1.out _).mono ?_
  rintro e w2 ⟨rfl, hb⟩
  have SN := hidden (bl_trans HH.out hb : Below W.heap.size W w2)
  replace A1 := kRg A1 hb
  replace HH := SN
  clear SN  hb
  go_wp2_with fail
  refine hK.out _ _ HH.out (fun hH => ?_); clear hK K
  exact lv8_57 H0 t1 w2 _ (by kernel_rfl) A1 HH HQ
 ·refine wp_b1 HH _ rfl q rfl (fun t4 w2 hbb SN A4 htb => ?_)
  replace A1 := kRg A1 hbb
  replace HH := SN
  clear SN hbb htb
  unfold lv87
  simp only [Act.put, sA, sB, sC]
  refine hK.out _ _ HH.out (fun hH => ?_); clear hK K
  exact lv8_c7 H0 t1 t4 w2 _ (by kernel_rfl) A1 A4 HH HQ
 ·refine wp_a1 HH rfl (fun rb w2 hbb SN TH RB htb => ?_)
  have N1 := nRG A1 htb
  replace A1 := kRg A1 hbb
  replace HH := SN
  clear SN hbb htb
  unfold lv89
  simp only [Act.put, sA, sB, sC]
  refine hK.out _ _ HH.out (fun hH => ?_); clear hK K
  exact lv8_247 H0 t1 rb w2 _ (by kernel_rfl) A1 N1 TH RB HH HQ
theorem lv8_45 (H : lv8h x6 q u W)  (w : World) (listed : Array Bool) (hl : listed = #[true, false, true, false, false, false, true, false, false, false, false])  (HH : Hid (Below W.heap.size W w)) (HQ : Hid (lv8f Q x6 q u U W)) : lv8G Q x6 q u W 8 listed (lv8S U x6 q u 0 0 0 0 0 false false false false false false false) w := by
 subst hl
 have H0 := H
 obtain ⟨x60, x61, x62, x63, C1⟩ := H
 simp only [lv8G, lv8S, cond_true, cond_false]
 refine wpAnyH_ready (rs := [1, 3, 4, 7, 9]) (by kernel_rfl) (by simp) ?_
 refine AllReadyH.cons (o := lv81) rfl (fun K hK => ?_) (AllReadyH.cons (o := lv83) rfl (fun K hK => ?_) (AllReadyH.cons (o := lv84) rfl (fun K hK => ?_) (AllReadyH.cons (o := lv87) rfl (fun K hK => ?_) (AllReadyH.cons (o := lv89) rfl (fun K hK => ?_) AllReadyH.nil))))
 ·refine wp_b1 HH _ rfl q rfl (fun t1 w2 hbb SN A1 htb => ?_)
  replace HH := SN
  clear SN hbb htb
  unfold lv81
  simp only [Act.put, sA, sB, sC]
  refine hK.out _ _ HH.out (fun hH => ?_); clear hK K
  exact lv8_47 H0 t1 w2 _ (by kernel_rfl) A1 HH HQ
 ·refine wp_b1 HH _ rfl q rfl (fun t2 w2 hbb SN A2 htb => ?_)
  replace HH := SN
  clear SN hbb htb
  unfold lv83
  simp only [Act.put, sA, sB, sC]
  refine hK.out _ _ HH.out (fun hH => ?_); clear hK K
  exact lv8_4d H0 t2 w2 _ (by kernel_rfl) A2 HH HQ
 ·unfold lv84
  go_simp
  refine (C1.out _).mono ?_
  rintro e w2 ⟨rfl, hb⟩
  have SN := hidden (bl_trans HH.out hb : Below W.heap.size W w2)
  replace HH := SN
  clear SN  hb
  go_wp2_with fail
  refine hK.out _ _ HH.out (fun hH => ?_); clear hK K
  exact lv8_55 H0  w2 _ (by kernel_rfl)  HH HQ
 ·refine wp_b1 HH _ rfl q rfl (fun t4 w2 hbb SN A4 htb => ?_)
  replace HH := SN
  clear SN hbb htb
  unfold lv87
  simp only [Act.put, sA, sB, sC]
  refine hK.out _ _ HH.out (fun hH => ?_); clear hK K
  exact lv8_c5 H0 t4 w2 _ (by kernel_rfl) A4 HH HQ
 ·refine wp_a1 HH rfl (fun rb w2 hbb SN TH RB htb => ?_)
  replace HH := SN
  clear SN hbb htb
  unfold lv89
  simp only [Act.put, sA, sB, sC]
  refine hK.out _ _ HH.out (fun hH => ?_); clear hK K
  exact lv8_245 H0 rb w2 _ (by kernel_rfl) TH RB HH HQ
end
theorem lv8 (Q : Exit → Act → World → Prop) (x6 : Nat) (q u : E4) (u0 u1 u2 u3 u4 u5 u7 u8 u9 u10 u11 u12 u13 u14 u15 u16 u17 u18 u19 u20 u21 u22 u23 u24 u25 u26 u27 u28 u29 u30 u31 u32 u33 u34 u35 u36 u37 u38 u39 u40 u41 u42 u43 u44 u45 u46 u47 u48 u49 u50 u51 u52 u53 u54 u55 u56 u57 u58 u59 u60 u61 u62 u63 : Value) (W : World) (H : lv8h x6 q u W)
  (HQ : Hid (∀ (wz : World) (t1 t2 t3 t4 rb : Nat), Below W.heap.size W wz → wz.rangeAt t1 0 [.int .u64 q.x0, .int .u64 q.x1, .int .u64 q.x2, .int .u64 q.x3] → wz.rangeAt t2 0 [.int .u64 q.x0, .int .u64 q.x1, .int .u64 q.x2, .int .u64 q.x3] → wz.rangeAt t3 0 [.int .u64 u.x0, .int .u64 u.x1, .int .u64 u.x2, .int .u64 u.x3] → wz.rangeAt t4 0 [.int .u64 q.x0, .int .u64 q.x1, .int .u64 q.x2, .int .u64 q.x3] → W.heap.size ≤ rb → wz.rangeAt rb 0 [.slice (some ⟨t1, 0, none⟩) 1 1, .slice (some ⟨t2, 0, none⟩) 1 1, .slice (some ⟨t3, 0, none⟩) 1 1, .slice (some ⟨t4, 0, none⟩) 1 1] → Q .normal ⟨#[u0, u1, u2, u3, u4, u5, .pointer (some ⟨x6, 0, none⟩), u7, .pointer (some ⟨rb, 0, none⟩), u9, u10, u11, u12, u13, u14, u15, u16, u17, u18, u19, u20, u21, u22, u23, u24, u25, u26, u27, u28, u29, u30, u31, u32, u33, u34, u35, .agg #[.int .u64 q.x0, .int .u64 q.x1, .int .u64 q.x2, .int .u64 q.x3], .slice (some ⟨t1, 0, none⟩) 1 1, .agg #[.int .u64 q.x0, .int .u64 q.x1, .int .u64 q.x2, .int .u64 q.x3], .slice (some ⟨t2, 0, none⟩) 1 1, .agg #[.int .u64 u.x0, .int .u64 u.x1, .int .u64 u.x2, .int .u64 u.x3], .slice (some ⟨t3, 0, none⟩) 1 1, .agg #[.int .u64 q.x0, .int .u64 q.x1, .int .u64 q.x2, .int .u64 q.x3], .slice (some ⟨t4, 0, none⟩) 1 1, .agg #[.slice (some ⟨t1, 0, none⟩) 1 1, .slice (some ⟨t2, 0, none⟩) 1 1, .slice (some ⟨t3, 0, none⟩) 1 1, .slice (some ⟨t4, 0, none⟩) 1 1], u45, u46, u47, u48, u49, u50, u51, u52, u53, u54, u55, u56, u57, u58, u59, u60, u61, u62, u63], []⟩ wz)) : (Code.region 8 lv8o true).wp Tryz.prog Q ⟨#[u0, u1, u2, u3, u4, u5, .pointer (some ⟨x6, 0, none⟩), u7, u8, u9, u10, u11, u12, u13, u14, u15, u16, u17, u18, u19, u20, u21, u22, u23, u24, u25, u26, u27, u28, u29, u30, u31, u32, u33, u34, u35, u36, u37, u38, u39, u40, u41, u42, u43, u44, u45, u46, u47, u48, u49, u50, u51, u52, u53, u54, u55, u56, u57, u58, u59, u60, u61, u62, u63], []⟩ W := by
 have H0 := H
 obtain ⟨x60, x61, x62, x63, C1⟩ := H
 replace HQ : Hid (lv8f Q x6 q u (nth [u0, u1, u2, u3, u4, u5, undef, u7, u8, u9, u10, u11, u12, u13, u14, u15, u16, u17, u18, u19, u20, u21, u22, u23, u24, u25, u26, u27, u28, u29, u30, u31, u32, u33, u34, u35, u36, u37, u38, u39, u40, u41, u42, u43, u44, u45, u46, u47, u48, u49, u50, u51, u52, u53, u54, u55, u56, u57, u58, u59, u60, u61, u62, u63]) W) := HQ
 refine wp_region_noPanic ?_
 refine wp_region_held_drew (S := fun x => Below W.heap.size W x) (by kernel_rfl) (bl_drew W) (fun hH => ?_)
 have HH := hidden hH
 refine tj 0 lv80 (.agg #[.int .u64 q.x0, .int .u64 q.x1, .int .u64 q.x2, .int .u64 q.x3]) hH (fun w0 hSw => ?_) ?_
 ·(unfold lv80; have hS : Below W.heap.size W w0 := hSw; have a0 := cell_keep x60 hS; have a1 := cell_keep x61 hS; have a2 := cell_keep x62 hS; have a3 := cell_keep x63 hS; clear hS hSw; go_simp)
 unfold lv80
 simp only [Act.put, sA, sB, sC]
 refine tj 2 lv82 (.agg #[.int .u64 q.x0, .int .u64 q.x1, .int .u64 q.x2, .int .u64 q.x3]) hH (fun w0 hSw => ?_) ?_
 ·(unfold lv82; have hS : Below W.heap.size W w0 := hSw; have a0 := cell_keep x60 hS; have a1 := cell_keep x61 hS; have a2 := cell_keep x62 hS; have a3 := cell_keep x63 hS; clear hS hSw; go_simp)
 unfold lv82
 simp only [Act.put, sA, sB, sC]
 refine tj 6 lv86 (.agg #[.int .u64 q.x0, .int .u64 q.x1, .int .u64 q.x2, .int .u64 q.x3]) hH (fun w0 hSw => ?_) ?_
 ·(unfold lv86; have hS : Below W.heap.size W w0 := hSw; have a0 := cell_keep x60 hS; have a1 := cell_keep x61 hS; have a2 := cell_keep x62 hS; have a3 := cell_keep x63 hS; clear hS hSw; go_simp)
 unfold lv86
 simp only [Act.put, sA, sB, sC]
 exact lv8_45 H0  W.drew _ (by kernel_rfl)  HH HQ
end Ci
end Go.Proofs.YtaejdgpffipaeaaGreatDoor
