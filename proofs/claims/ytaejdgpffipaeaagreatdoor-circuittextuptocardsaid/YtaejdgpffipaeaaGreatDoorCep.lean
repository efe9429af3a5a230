import Derived.Test.YtaejdgpffipaeaaGreatDoorTk
import Derived.Test.YtaejdgpffipaeaaGreatDoorCem
namespace Go.Proofs.YtaejdgpffipaeaaGreatDoor
open Go.RowKit
set_option linter.unusedVariables false
set_option linter.unusedSimpArgs false
open Cm (Wr Tm co bf Ls lf ins Eqm)
namespace Ci
set_option maxRecDepth 100000
set_option maxHeartbeats 16000000
def nth : List Value → Nat → Value
 | [], _ => undef
 | a :: _, 0 => a
 | _ :: l, n + 1 => nth l n
theorem tk {P : Program} {md : Region.Mode} {ops : Array Oper} {Q : Exit → Act → World → Prop} {S : World → Prop} {fuel : Nat} {listed : Array Bool} {a : Act} {w : World} (i : Nat) (oi : Oper) (v : Value) (hi : ops[i]? = some oi) (hk : (Region.noSelect ops && Region.free md ops listed i && (Region.ready md ops listed).contains i) = true)
  (hS : S w) (hg : Region.wanted oi (yielded ops a.tmps) = true) (hy : ∀ w, S w → (execOp a.eval oi).run P w = .ok (.value v) w) (h : wpAnyH P md ops (NoPanic Q) S fuel (listed.setIfInBounds i true) (a.put oi.dst v) w) : wpAnyH P md ops (NoPanic Q) S (fuel + 1) listed a w := by
 simp only [Bool.and_eq_true] at hk
 exact wpAnyH_take hi hk.1.1 hk.1.2 hk.2 (fun _ _ _ h => h) (Or.inl ⟨hg, hy⟩) hS h
theorem sA {α : Type} (l : List α) (i : Nat) (a : α) : l.toArray.setIfInBounds i a = (l.set i a).toArray := List.setIfInBounds_toArray ..
theorem sB {α : Type} (a b : α) (l : List α) : (a :: l).set 0 b = b :: l := rfl
theorem sC {α : Type} (a b : α) (l : List α) (n : Nat) : (a :: l).set (n + 1) b = a :: l.set n b := rfl
theorem i4a : (Tryz.prog.info? 53).map (·.size) = some 4 := by kernel_rfl
theorem there_lt {w : World} {b n : Nat} (h : w.there b 0 (n + 1)) : b < w.heap.size := by
 obtain ⟨h1, _⟩ := h 0 (by omega)
 obtain ⟨u, hu⟩ := Option.isSome_iff_exists.1 h1
 exact World.block_lt_of_cell? w _ hu
theorem range_lt {w : World} {b : Nat} {c : Value} {cs : List Value} (h : w.rangeAt b 0 (c :: cs)) : b < w.heap.size := World.block_lt_of_cell? w _ (h 0 c rfl)
theorem build1P (p : E4) (w : World) : (Instr.buildSlice 51 1 #[(0, .agg #[.int .u64 p.x0, .int .u64 p.x1, .int .u64 p.x2, .int .u64 p.x3])]).run Tryz.prog w = .ok (.slice (some ⟨w.heap.size, 0, none⟩) 1 1) (w.alloc (.cells #[.int .u64 p.x0, .int .u64 p.x1, .int .u64 p.x2, .int .u64 p.x3] 48)) := by kernel_rfl
theorem wp_build1P {w : World} {o : Oper} {a : Act} {K : Act → World → Prop} {Q : Exit → Act → World → Prop} (x0 : Operand) (ho : o.op = .buildSlice 51 1 #[(0, x0)]) (p : E4) (h0 : a.eval x0 = .agg #[.int .u64 p.x0, .int .u64 p.x1, .int .u64 p.x2, .int .u64 p.x3]) (h : ∀ (tb : Nat) (wq : World), tb = w.heap.size → wq = w.alloc (.cells #[.int .u64 p.x0, .int .u64 p.x1, .int .u64 p.x2, .int .u64 p.x3] 48) → K (a.put o.dst (.slice (some ⟨tb, 0, none⟩) 1 1)) wq) : o.wp Tryz.prog a w K Q := by
 have hr := build1P p w
 unfold Oper.wp execOp
 simp only [ho, Sem.run_bind, Sem.run_pure, Result.andThen_ok, List.map_toArray, List.map_cons, List.map_nil, h0, hr]
 exact h _ _ rfl rfl
theorem zvA (w : World) : (zeroValue 53).run Tryz.prog w = .ok (.agg #[.slice none 0 0, .slice none 0 0, .slice none 0 0, .slice none 0 0]) w := by kernel_rfl
theorem wp_allocA {w : World} {o : Oper} {a : Act} {K : Act → World → Prop} {Q : Exit → Act → World → Prop} (ho : o.op = .alloc 53) (h : ∀ (A : Nat) (wq : World), A = w.heap.size → wq = w.alloc (.cells #[.slice none 0 0, .slice none 0 0, .slice none 0 0, .slice none 0 0] 53) → K (a.put o.dst (.pointer (some ⟨A, 0, none⟩))) wq) : o.wp Tryz.prog a w K Q := by
 have hk := h _ _ rfl rfl
 have hz := zvA w
 unfold Oper.wp execOp
 simp [ho, Instr.alloc, hz]
 exact hk
def Rg (w : World) (t : Nat) (p : E4) : Prop := w.rangeAt t 0 [.int .u64 p.x0, .int .u64 p.x1, .int .u64 p.x2, .int .u64 p.x3]
theorem kRg {w w2 : World} {t : Nat} {p : E4} (h : Hid (Rg w t p)) (hb : Below w.heap.size w w2) : Hid (Rg w2 t p) := hidden (range_bl h.out hb)
theorem kTH {w w2 : World} {t n : Nat} (h : Hid (w.there t 0 n)) (hb : Below w.heap.size w w2) : Hid (w2.there t 0 n) := hidden (there_bl h.out hb)
theorem nTH {w : World} {t rb : Nat} (h : Hid (w.there rb 0 4)) (ht : t = w.heap.size) : Hid (t ≠ rb) := hidden (by rw [ht]; have := there_lt h.out; omega)
theorem nRG {w : World} {t rb : Nat} {p : E4} (h : Hid (Rg w t p)) (ht : rb = w.heap.size) : Hid (t ≠ rb) := hidden (by rw [ht]; have := range_lt h.out; omega)
theorem wp_b1 {W w : World} {o : Oper} {a : Act} {K : Act → World → Prop} {Q : Exit → Act → World → Prop} (HH : Hid (Below W.heap.size W w)) (x0 : Operand) (ho : o.op = .buildSlice 51 1 #[(0, x0)]) (p : E4) (h0 : a.eval x0 = .agg #[.int .u64 p.x0, .int .u64 p.x1, .int .u64 p.x2, .int .u64 p.x3]) (h : ∀ (tb : Nat) (wq : World), Below w.heap.size w wq → Hid (Below W.heap.size W wq) → Hid (Rg wq tb p) → tb = w.heap.size → K (a.put o.dst (.slice (some ⟨tb, 0, none⟩) 1 1)) wq) : o.wp Tryz.prog a w K Q :=
 wp_build1P x0 ho p h0 (fun tb wq ht hw => h tb wq (by rw [hw]; exact bl_alloc _ _) (hidden (by rw [hw]; exact bl_trans HH.out (bl_alloc _ _))) (hidden (by rw [ht, hw]; exact range_newM _ _ _)) ht)
theorem wp_a1 {W w : World} {o : Oper} {a : Act} {K : Act → World → Prop} {Q : Exit → Act → World → Prop} (HH : Hid (Below W.heap.size W w)) (ho : o.op = .alloc 53) (h : ∀ (A : Nat) (wq : World), Below w.heap.size w wq → Hid (Below W.heap.size W wq) → Hid (wq.there A 0 4) → Hid (W.heap.size ≤ A) → A = w.heap.size → K (a.put o.dst (.pointer (some ⟨A, 0, none⟩))) wq) : o.wp Tryz.prog a w K Q :=
 wp_allocA ho (fun A wq ht hw => h A wq (by rw [hw]; exact bl_alloc _ _) (hidden (by rw [hw]; exact bl_trans HH.out (bl_alloc _ _))) (hidden (by rw [ht, hw]; exact there_newM _ [.slice none 0 0, .slice none 0 0, .slice none 0 0, .slice none 0 0] _)) (hidden (by rw [ht]; exact HH.out.size)) ht)
def lv70 : Oper := { dst := some 27, op := Op.load 48 (Operand.tmp 5), type := 48, pos := "outright.go:20", after := #[], guard := none }
def lv71 : Oper := { dst := some 28, op := Op.buildSlice 51 1 #[(0, Operand.tmp 27)], type := 51, pos := "outright.go:20", after := #[DD 0], guard := none }
def lv72 : Oper := { dst := some 29, op := Op.load 48 (Operand.tmp 6), type := 48, pos := "outright.go:20", after := #[], guard := none }
def lv73 : Oper := { dst := some 30, op := Op.buildSlice 51 1 #[(0, Operand.tmp 29)], type := 51, pos := "outright.go:20", after := #[DD 2], guard := none }
def lv74 : Oper := { dst := some 31, op := Op.call { callee := Callee.value (Operand.func 18), args := #[Operand.const (Value.int IntKind.u64 20)], argTypes := #[46] }, type := 48, pos := "outright.go:20", after := #[], guard := none }
def lv75 : Oper := { dst := some 32, op := Op.buildSlice 51 1 #[(0, Operand.tmp 31)], type := 51, pos := "outright.go:20", after := #[DD 4], guard := none }
def lv76 : Oper := { dst := some 33, op := Op.load 48 (Operand.tmp 5), type := 48, pos := "outright.go:20", after := #[], guard := none }
def lv77 : Oper := { dst := some 34, op := Op.buildSlice 51 1 #[(0, Operand.tmp 33)], type := 51, pos := "outright.go:20", after := #[DD 6], guard := none }
def lv78 : Oper := { dst := some 35, op := Op.build 53 #[(0, Operand.tmp 28), (1, Operand.tmp 30), (2, Operand.tmp 32), (3, Operand.tmp 34)], type := 53, pos := "outright.go:20", after := #[DD 1, DD 3, DD 5, DD 7], guard := none }
def lv79 : Oper := { dst := some 7, op := Op.alloc 53, type := 0, pos := "outright.go:20", after := #[], guard := none }
def lv710 : Oper := { dst := none, op := Op.store 53 (Operand.tmp 7) (Operand.tmp 35), type := 0, pos := "outright.go:20", after := #[DD 9, DD 8, CH 4, PH 0, PH 1, PH 2, PH 3, PH 4, PH 5, PH 6, PH 7, PH 8, PH 9], guard := none }
def lv7o : Array Oper := #[lv70, lv71, lv72, lv73, lv74, lv75, lv76, lv77, lv78, lv79, lv710]
structure lv7h (x5 x6 : Nat) (p q u : E4) (W : World) : Prop where
 x50 : W.cell? ⟨x5, 0, none⟩ = some (.int .u64 p.x0)
 x51 : W.cell? ⟨x5, 1, none⟩ = some (.int .u64 p.x1)
 x52 : W.cell? ⟨x5, 2, none⟩ = some (.int .u64 p.x2)
 x53 : W.cell? ⟨x5, 3, none⟩ = some (.int .u64 p.x3)
 x60 : W.cell? ⟨x6, 0, none⟩ = some (.int .u64 q.x0)
 x61 : W.cell? ⟨x6, 1, none⟩ = some (.int .u64 q.x1)
 x62 : W.cell? ⟨x6, 2, none⟩ = some (.int .u64 q.x2)
 x63 : W.cell? ⟨x6, 3, none⟩ = some (.int .u64 q.x3)
 C1 : Hid (∀ y, Calls Tryz.prog 18 #[.int .u64 20] y fun e w' => e = .returned (.agg #[.int .u64 u.x0, .int .u64 u.x1, .int .u64 u.x2, .int .u64 u.x3]) ∧ Below y.heap.size y w')
def lv7S (U : Nat → Value) (x5 x6 : Nat) (p q u : E4) (t1 : Nat) (t2 : Nat) (t3 : Nat) (t4 : Nat) (rb : Nat) (f1 f3 f4 f5 f7 f8 f9 : Bool) : Array Value := #[U 0, U 1, U 2, U 3, U 4, .pointer (some ⟨x5, 0, none⟩), .pointer (some ⟨x6, 0, none⟩), bif f9 then .pointer (some ⟨rb, 0, none⟩) else U 7, U 8, U 9, U 10, U 11, U 12, U 13, U 14, U 15, U 16, U 17, U 18, U 19, U 20, U 21, U 22, U 23, U 24, U 25, U 26, .agg #[.int .u64 p.x0, .int .u64 p.x1, .int .u64 p.x2, .int .u64 p.x3], bif f1 then .slice (some ⟨t1, 0, none⟩) 1 1 else U 28, .agg #[.int .u64 q.x0, .int .u64 q.x1, .int .u64 q.x2, .int .u64 q.x3], bif f3 then .slice (some ⟨t2, 0, none⟩) 1 1 else U 30, bif f4 then .agg #[.int .u64 u.x0, .int .u64 u.x1, .int .u64 u.x2, .int .u64 u.x3] else U 31, bif f5 then .slice (some ⟨t3, 0, none⟩) 1 1 else U 32, .agg #[.int .u64 p.x0, .int .u64 p.x1, .int .u64 p.x2, .int .u64 p.x3], bif f7 then .slice (some ⟨t4, 0, none⟩) 1 1 else U 34, bif f8 then .agg #[.slice (some ⟨t1, 0, none⟩) 1 1, .slice (some ⟨t2, 0, none⟩) 1 1, .slice (some ⟨t3, 0, none⟩) 1 1, .slice (some ⟨t4, 0, none⟩) 1 1] else U 35, U 36, U 37, U 38, U 39, U 40, U 41, U 42, U 43, U 44, U 45, U 46, U 47, U 48, U 49, U 50, U 51, U 52, U 53, U 54, U 55, U 56, U 57, U 58, U 59, U 60, U 61, U 62, U 63]
def lv7G (Q : Exit → Act → World → Prop) (x5 x6 : Nat) (p q u : E4) (W : World) (fuel : Nat) (listed : Array Bool) (a : Array Value) (w : World) : Prop := wpAnyH Tryz.prog Region.Mode.any lv7o (NoPanic Q) (fun x => Below W.heap.size W x) fuel listed ⟨a, []⟩ w
def lv7f (Q : Exit → Act → World → Prop) (x5 x6 : Nat) (p q u : E4) (U : Nat → Value) (W : World) : Prop := ∀ (wz : World) (t1 t2 t3 t4 rb : Nat), Below W.heap.size W wz → wz.rangeAt t1 0 [.int .u64 p.x0, .int .u64 p.x1, .int .u64 p.x2, .int .u64 p.x3] → wz.rangeAt t2 0 [.int .u64 q.x0, .int .u64 q.x1, .int .u64 q.x2, .int .u64 q.x3] → wz.rangeAt t3 0 [.int .u64 u.x0, .int .u64 u.x1, .int .u64 u.x2, .int .u64 u.x3] → wz.rangeAt t4 0 [.int .u64 p.x0, .int .u64 p.x1, .int .u64 p.x2, .int .u64 p.x3] → W.heap.size ≤ rb → wz.rangeAt rb 0 [.slice (some ⟨t1, 0, none⟩) 1 1, .slice (some ⟨t2, 0, none⟩) 1 1, .slice (some ⟨t3, 0, none⟩) 1 1, .slice (some ⟨t4, 0, none⟩) 1 1] → Q .normal ⟨lv7S U x5 x6 p q u t1 t2 t3 t4 rb true true true true true true true, []⟩ wz
section
variable {Q : Exit → Act → World → Prop} {x5 x6 : Nat} {p q u : E4} {U : Nat → Value} {W : World}
theorem lv7_7ff (H : lv7h x5 x6 p q u W) (t1 : Nat) (t2 : Nat) (t3 : Nat) (t4 : Nat) (rb : Nat) (w : World) (listed : Array Bool) (hl : listed = #[true, true, true, true, true, true, true, true, true, true, true]) (A1 : Hid (Rg w t1 p)) (N1 : Hid (t1 ≠ rb)) (A2 : Hid (Rg w t2 q)) (N2 : Hid (t2 ≠ rb)) (A3 : Hid (Rg w t3 u)) (N3 : Hid (t3 ≠ rb)) (A4 : Hid (Rg w t4 p)) (N4 : Hid (t4 ≠ rb)) (RB : Hid (W.heap.size ≤ rb)) (FR : Hid (w.rangeAt rb 0 [.slice (some ⟨t1, 0, none⟩) 1 1, .slice (some ⟨t2, 0, none⟩) 1 1, .slice (some ⟨t3, 0, none⟩) 1 1, .slice (some ⟨t4, 0, none⟩) 1 1])) (HH : Hid (Below W.heap.size W w)) (HQ : Hid (lv7f Q x5 x6 p q u U W)) : lv7G Q x5 x6 p q u W 0 listed (lv7S U x5 x6 p q u t1 t2 t3 t4 rb true true true true true true true) w := by
 subst hl
 have H0 := H
 obtain ⟨x50, x51, x52, x53, x60, x61, x62, x63, C1⟩ := H
 simp only [lv7G, lv7S, cond_true, cond_false]
 refine wpAnyH_done (by kernel_rfl) ?_ _
 refine NoPanic.normal ?_
 exact HQ.out _ t1 t2 t3 t4 rb HH.out A1.out A2.out A3.out A4.out RB.out FR.out
theorem lv7_3ff (H : lv7h x5 x6 p q u W) (t1 : Nat) (t2 : Nat) (t3 : Nat) (t4 : Nat) (rb : Nat) (w : World) (listed : Array Bool) (hl : listed = #[true, true, true, true, true, true, true, true, true, true, false]) (A1 : Hid (Rg w t1 p)) (N1 : Hid (t1 ≠ rb)) (A2 : Hid (Rg w t2 q)) (N2 : Hid (t2 ≠ rb)) (A3 : Hid (Rg w t3 u)) (N3 : Hid (t3 ≠ rb)) (A4 : Hid (Rg w t4 p)) (N4 : Hid (t4 ≠ rb)) (TH : Hid (w.there rb 0 4)) (RB : Hid (W.heap.size ≤ rb)) (HH : Hid (Below W.heap.size W w)) (HQ : Hid (lv7f Q x5 x6 p q u U W)) : lv7G Q x5 x6 p q u W 1 listed (lv7S U x5 x6 p q u t1 t2 t3 t4 rb true true true true true true true) w := by
 subst hl
 have H0 := H
 obtain ⟨x50, x51, x52, x53, x60, x61, x62, x63, C1⟩ := H
 simp only [lv7G, lv7S, cond_true, cond_false]
 refine wpAnyH_ready (rs := [10]) (by kernel_rfl) (by simp) ?_
 refine AllReadyH.cons (o := lv710) rfl (fun K hK => ?_) AllReadyH.nil
 refine wp_storeE 53 _ _ rfl rb 0 ([.slice (some ⟨t1, 0, none⟩) 1 1, .slice (some ⟨t2, 0, none⟩) 1 1, .slice (some ⟨t3, 0, none⟩) 1 1, .slice (some ⟨t4, 0, none⟩) 1 1]) (by rfl) (by rfl) TH.out i4a (by simp [Value.oneCell']) rfl (fun w2 hw => ?_)
 have SN := hidden (by rw [hw]; exact HH.out.grown (gb_setCells rb [.slice (some ⟨t1, 0, none⟩) 1 1, .slice (some ⟨t2, 0, none⟩) 1 1, .slice (some ⟨t3, 0, none⟩) 1 1, .slice (some ⟨t4, 0, none⟩) 1 1] 0 _) HH.out.size (fun k hk => by obtain rfl := Option.some.inj hk; exact RB.out) : Below W.heap.size W w2)
 have FR := hidden (by rw [hw]; exact World.rangeAt_setCells_same _ rb 0 _ TH.out : w2.rangeAt rb 0 [.slice (some ⟨t1, 0, none⟩) 1 1, .slice (some ⟨t2, 0, none⟩) 1 1, .slice (some ⟨t3, 0, none⟩) 1 1, .slice (some ⟨t4, 0, none⟩) 1 1])
 replace A1 := hidden (by rw [hw]; exact fun j u hu => (gb_setCells rb [.slice (some ⟨t1, 0, none⟩) 1 1, .slice (some ⟨t2, 0, none⟩) 1 1, .slice (some ⟨t3, 0, none⟩) 1 1, .slice (some ⟨t4, 0, none⟩) 1 1] 0 _).cell (A1.out j u hu) (fun e => N1.out (Option.some.inj e)) : Rg w2 t1 p)
 replace A2 := hidden (by rw [hw]; exact fun j u hu => (gb_setCells rb [.slice (some ⟨t1, 0, none⟩) 1 1, .slice (some ⟨t2, 0, none⟩) 1 1, .slice (some ⟨t3, 0, none⟩) 1 1, .slice (some ⟨t4, 0, none⟩) 1 1] 0 _).cell (A2.out j u hu) (fun e => N2.out (Option.some.inj e)) : Rg w2 t2 q)
 replace A3 := hidden (by rw [hw]; exact fun j u hu => (gb_setCells rb [.slice (some ⟨t1, 0, none⟩) 1 1, .slice (some ⟨t2, 0, none⟩) 1 1, .slice (some ⟨t3, 0, none⟩) 1 1, .slice (some ⟨t4, 0, none⟩) 1 1] 0 _).cell (A3.out j u hu) (fun e => N3.out (Option.some.inj e)) : Rg w2 t3 u)
 replace A4 := hidden (by rw [hw]; exact fun j u hu => (gb_setCells rb [.slice (some ⟨t1, 0, none⟩) 1 1, .slice (some ⟨t2, 0, none⟩) 1 1, .slice (some ⟨t3, 0, none⟩) 1 1, .slice (some ⟨t4, 0, none⟩) 1 1] 0 _).cell (A4.out j u hu) (fun e => N4.out (Option.some.inj e)) : Rg w2 t4 p)
 replace HH := SN
 clear SN TH hw
 refine hK.out _ _ HH.out (fun hH => ?_); clear hK K
 exact lv7_7ff H0 t1 t2 t3 t4 rb w2 _ (by kernel_rfl) A1 N1 A2 N2 A3 N3 A4 N4 RB FR HH HQ
theorem lv7_1ff (H : lv7h x5 x6 p q u W) (t1 : Nat) (t2 : Nat) (t3 : Nat) (t4 : Nat) (w : World) (listed : Array Bool) (hl : listed = #[true, true, true, true, true, true, true, true, true, false, false]) (A1 : Hid (Rg w t1 p)) (A2 : Hid (Rg w t2 q)) (A3 : Hid (Rg w t3 u)) (A4 : Hid (Rg w t4 p)) (HH : Hid (Below W.heap.size W w)) (HQ : Hid (lv7f Q x5 x6 p q u U W)) : lv7G Q x5 x6 p q u W 2 listed (lv7S U x5 x6 p q u t1 t2 t3 t4 0 true true true true true true false) w := by
 subst hl
 have H0 := H
 obtain ⟨x50, x51, x52, x53, x60, x61, x62, x63, C1⟩ := H
 simp only [lv7G, lv7S, cond_true, cond_false]
 refine wpAnyH_ready (rs := [9]) (by kernel_rfl) (by simp) ?_
 refine AllReadyH.cons (o := lv79) rfl (fun K hK => ?_) AllReadyH.nil
 refine wp_a1 HH rfl (fun rb w2 hbb SN TH RB htb => ?_)
 have N1 := nRG A1 htb
 have N2 := nRG A2 htb
 have N3 := nRG A3 htb
 have N4 := nRG A4 htb
 replace A1 := kRg A1 hbb
 replace A2 := kRg A2 hbb
 replace A3 := kRg A3 hbb
 replace A4 := kRg A4 hbb
 replace HH := SN
 clear SN hbb htb
 unfold lv79
 simp only [Act.put, sA, sB, sC]
 refine hK.out _ _ HH.out (fun hH => ?_); clear hK K
 exact lv7_3ff H0 t1 t2 t3 t4 rb w2 _ (by kernel_rfl) A1 N1 A2 N2 A3 N3 A4 N4 TH RB HH HQ
theorem lv7_2fd (H : lv7h x5 x6 p q u W) (t2 : Nat) (t3 : Nat) (t4 : Nat) (rb : Nat) (w : World) (listed : Array Bool) (hl : listed = #[true, false, true, true, true, true, true, true, false, true, false]) (A2 : Hid (Rg w t2 q)) (N2 : Hid (t2 ≠ rb)) (A3 : Hid (Rg w t3 u)) (N3 : Hid (t3 ≠ rb)) (A4 : Hid (Rg w t4 p)) (N4 : Hid (t4 ≠ rb)) (TH : Hid (w.there rb 0 4)) (RB : Hid (W.heap.size ≤ rb)) (HH : Hid (Below W.heap.size W w)) (HQ : Hid (lv7f Q x5 x6 p q u U W)) : lv7G Q x5 x6 p q u W 3 listed (lv7S U x5 x6 p q u 0 t2 t3 t4 rb false true true true true false true) w := by
 subst hl
 have H0 := H
 obtain ⟨x50, x51, x52, x53, x60, x61, x62, x63, C1⟩ := H
 simp only [lv7G, lv7S, cond_true, cond_false]
 refine wpAnyH_ready (rs := [1]) (by kernel_rfl) (by simp) ?_
 refine AllReadyH.cons (o := lv71) rfl (fun K hK => ?_) AllReadyH.nil
 refine wp_b1 HH _ rfl p rfl (fun t1 w2 hbb SN A1 htb => ?_)
 have N1 := nTH TH htb
 replace A2 := kRg A2 hbb
 replace A3 := kRg A3 hbb
 replace A4 := kRg A4 hbb
 replace TH := kTH TH hbb
 replace HH := SN
 clear SN hbb htb
 unfold lv71
 simp only [Act.put, sA, sB, sC]
 refine hK.out _ _ HH.out (fun hH => ?_); clear hK K
 refine tj 8 lv78 (.agg #[.slice (some ⟨t1, 0, none⟩) 1 1, .slice (some ⟨t2, 0, none⟩) 1 1, .slice (some ⟨t3, 0, none⟩) 1 1, .slice (some ⟨t4, 0, none⟩) 1 1]) hH (fun w0 hSw => ?_) ?_
 ·(unfold lv78; clear hSw; go_simp)
 unfold lv78
 simp only [Act.put, sA, sB, sC]
 exact lv7_3ff H0 t1 t2 t3 t4 rb w2 _ (by kernel_rfl) A1 N1 A2 N2 A3 N3 A4 N4 TH RB HH HQ
theorem lv7_2f7 (H : lv7h x5 x6 p q u W) (t1 : Nat) (t3 : Nat) (t4 : Nat) (rb : Nat) (w : World) (listed : Array Bool) (hl : listed = #[true, true, true, false, true, true, true, true, false, true, false]) (A1 : Hid (Rg w t1 p)) (N1 : Hid (t1 ≠ rb)) (A3 : Hid (Rg w t3 u)) (N3 : Hid (t3 ≠ rb)) (A4 : Hid (Rg w t4 p)) (N4 : Hid (t4 ≠ rb)) (TH : Hid (w.there rb 0 4)) (RB : Hid (W.heap.size ≤ rb)) (HH : Hid (Below W.heap.size W w)) (HQ : Hid (lv7f Q x5 x6 p q u U W)) : lv7G Q x5 x6 p q u W 3 listed (lv7S U x5 x6 p q u t1 0 t3 t4 rb true false true true true false true) w := by
 subst hl
 have H0 := H
 obtain ⟨x50, x51, x52, x53, x60, x61, x62, x63, C1⟩ := H
 simp only [lv7G, lv7S, cond_true, cond_false]
 refine wpAnyH_ready (rs := [3]) (by kernel_rfl) (by simp) ?_
 refine AllReadyH.cons (o := lv73) rfl (fun K hK => ?_) AllReadyH.nil
 refine wp_b1 HH _ rfl q rfl (fun t2 w2 hbb SN A2 htb => ?_)
 have N2 := nTH TH htb
 replace A1 := kRg A1 hbb
 replace A3 := kRg A3 hbb
 replace A4 := kRg A4 hbb
 replace TH := kTH TH hbb
 replace HH := SN
 clear SN hbb htb
 unfold lv73
 simp only [Act.put, sA, sB, sC]
 refine hK.out _ _ HH.out (fun hH => ?_); clear hK K
 refine tj 8 lv78 (.agg #[.slice (some ⟨t1, 0, none⟩) 1 1, .slice (some ⟨t2, 0, none⟩) 1 1, .slice (some ⟨t3, 0, none⟩) 1 1, .slice (some ⟨t4, 0, none⟩) 1 1]) hH (fun w0 hSw => ?_) ?_
 ·(unfold lv78; clear hSw; go_simp)
 unfold lv78
 simp only [Act.put, sA, sB, sC]
 exact lv7_3ff H0 t1 t2 t3 t4 rb w2 _ (by kernel_rfl) A1 N1 A2 N2 A3 N3 A4 N4 TH RB HH HQ
theorem lv7_2df (H : lv7h x5 x6 p q u W) (t1 : Nat) (t2 : Nat) (t4 : Nat) (rb : Nat) (w : World) (listed : Array Bool) (hl : listed = #[true, true, true, true, true, false, true, true, false, true, false]) (A1 : Hid (Rg w t1 p)) (N1 : Hid (t1 ≠ rb)) (A2 : Hid (Rg w t2 q)) (N2 : Hid (t2 ≠ rb)) (A4 : Hid (Rg w t4 p)) (N4 : Hid (t4 ≠ rb)) (TH : Hid (w.there rb 0 4)) (RB : Hid (W.heap.size ≤ rb)) (HH : Hid (Below W.heap.size W w)) (HQ : Hid (lv7f Q x5 x6 p q u U W)) : lv7G Q x5 x6 p q u W 3 listed (lv7S U x5 x6 p q u t1 t2 0 t4 rb true true true false true false true) w := by
 subst hl
 have H0 := H
 obtain ⟨x50, x51, x52, x53, x60, x61, x62, x63, C1⟩ := H
 simp only [lv7G, lv7S, cond_true, cond_false]
 refine wpAnyH_ready (rs := [5]) (by kernel_rfl) (by simp) ?_
 refine AllReadyH.cons (o := lv75) rfl (fun K hK => ?_) AllReadyH.nil
 refine wp_b1 HH _ rfl u rfl (fun t3 w2 hbb SN A3 htb => ?_)
 have N3 := nTH TH htb
 replace A1 := kRg A1 hbb
 replace A2 := kRg A2 hbb
 replace A4 := kRg A4 hbb
 replace TH := kTH TH hbb
 replace HH := SN
 clear SN hbb htb
 unfold lv75
 simp only [Act.put, sA, sB, sC]
 refine hK.out _ _ HH.out (fun hH => ?_); clear hK K
 refine tj 8 lv78 (.agg #[.slice (some ⟨t1, 0, none⟩) 1 1, .slice (some ⟨t2, 0, none⟩) 1 1, .slice (some ⟨t3, 0, none⟩) 1 1, .slice (some ⟨t4, 0, none⟩) 1 1]) hH (fun w0 hSw => ?_) ?_
 ·(unfold lv78; clear hSw; go_simp)
 unfold lv78
 simp only [Act.put, sA, sB, sC]
 exact lv7_3ff H0 t1 t2 t3 t4 rb w2 _ (by kernel_rfl) A1 N1 A2 N2 A3 N3 A4 N4 TH RB HH HQ
theorem lv7_27f (H : lv7h x5 x6 p q u W) (t1 : Nat) (t2 : Nat) (t3 : Nat) (rb : Nat) (w : World) (listed : Array Bool) (hl : listed = #[true, true, true, true, true, true, true, false, false, true, false]) (A1 : Hid (Rg w t1 p)) (N1 : Hid (t1 ≠ rb)) (A2 : Hid (Rg w t2 q)) (N2 : Hid (t2 ≠ rb)) (A3 : Hid (Rg w t3 u)) (N3 : Hid (t3 ≠ rb)) (TH : Hid (w.there rb 0 4)) (RB : Hid (W.heap.size ≤ rb)) (HH : Hid (Below W.heap.size W w)) (HQ : Hid (lv7f Q x5 x6 p q u U W)) : lv7G Q x5 x6 p q u W 3 listed (lv7S U x5 x6 p q u t1 t2 t3 0 rb true true true true false false true) w := by
 subst hl
 have H0 := H
 obtain ⟨x50, x51, x52, x53, x60, x61, x62, x63, C1⟩ := H
 simp only [lv7G, lv7S, cond_true, cond_false]
 refine wpAnyH_ready (rs := [7]) (by kernel_rfl) (by simp) ?_
 refine AllReadyH.cons (o := lv77) rfl (fun K hK => ?_) AllReadyH.nil
 refine wp_b1 HH _ rfl p rfl (fun t4 w2 hbb SN A4 htb => ?_)
 have N4 := nTH TH htb
 replace A1 := kRg A1 hbb
 replace A2 := kRg A2 hbb
 replace A3 := kRg A3 hbb
 replace TH := kTH TH hbb
 replace HH := SN
 clear SN hbb htb
 unfold lv77
 simp only [Act.put, sA, sB, sC]
 refine hK.out _ _ HH.out (fun hH => ?_); clear hK K
 refine tj 8 lv78 (.agg #[.slice (some ⟨t1, 0, none⟩) 1 1, .slice (some ⟨t2, 0, none⟩) 1 1, .slice (some ⟨t3, 0, none⟩) 1 1, .slice (some ⟨t4, 0, none⟩) 1 1]) hH (fun w0 hSw => ?_) ?_
 ·(unfold lv78; clear hSw; go_simp)
 unfold lv78
 simp only [Act.put, sA, sB, sC]
 exact lv7_3ff H0 t1 t2 t3 t4 rb w2 _ (by kernel_rfl) A1 N1 A2 N2 A3 N3 A4 N4 TH RB HH HQ
theorem lv7_2f5 (H : lv7h x5 x6 p q u W) (t3 : Nat) (t4 : Nat) (rb : Nat) (w : World) (listed : Array Bool) (hl : listed = #[true, false, true, false, true, true, true, true, false, true, false]) (A3 : Hid (Rg w t3 u)) (N3 : Hid (t3 ≠ rb)) (A4 : Hid (Rg w t4 p)) (N4 : Hid (t4 ≠ rb)) (TH : Hid (w.there rb 0 4)) (RB : Hid (W.heap.size ≤ rb)) (HH : Hid (Below W.heap.size W w)) (HQ : Hid (lv7f Q x5 x6 p q u U W)) : lv7G Q x5 x6 p q u W 4 listed (lv7S U x5 x6 p q u 0 0 t3 t4 rb false false true true true false true) w := by
 subst hl
 have H0 := H
 obtain ⟨x50, x51, x52, x53, x60, x61, x62, x63, C1⟩ := H
 simp only [lv7G, lv7S, cond_true, cond_false]
 refine wpAnyH_ready (rs := [1, 3]) (by kernel_rfl) (by simp) ?_
 refine AllReadyH.cons (o := lv71) rfl (fun K hK => ?_) (AllReadyH.cons (o := lv73) rfl (fun K hK => ?_) AllReadyH.nil)
 ·refine wp_b1 HH _ rfl p rfl (fun t1 w2 hbb SN A1 htb => ?_)
  have N1 := nTH TH htb
  replace A3 := kRg A3 hbb
  replace A4 := kRg A4 hbb
  replace TH := kTH TH hbb
  replace HH := SN
  clear SN hbb htb
  unfold lv71
  simp only [Act.put, sA, sB, sC]
  refine hK.out _ _ HH.out (fun hH => ?_); clear hK K
  exact lv7_2f7 H0 t1 t3 t4 rb w2 _ (by kernel_rfl) A1 N1 A3 N3 A4 N4 TH RB HH HQ
 ·refine wp_b1 HH _ rfl q rfl (fun t2 w2 hbb SN A2 htb => ?_)
  have N2 := nTH TH htb
  replace A3 := kRg A3 hbb
  replace A4 := kRg A4 hbb
  replace TH := kTH TH hbb
  replace HH := SN
  clear SN hbb htb
  unfold lv73
  simp only [Act.put, sA, sB, sC]
  refine hK.out _ _ HH.out (fun hH => ?_); clear hK K
  exact lv7_2fd H0 t2 t3 t4 rb w2 _ (by kernel_rfl) A2 N2 A3 N3 A4 N4 TH RB HH HQ
theorem lv7_2dd (H : lv7h x5 x6 p q u W) (t2 : Nat) (t4 : Nat) (rb : Nat) (w : World) (listed : Array Bool) (hl : listed = #[true, false, true, true, true, false, true, true, false, true, false]) (A2 : Hid (Rg w t2 q)) (N2 : Hid (t2 ≠ rb)) (A4 : Hid (Rg w t4 p)) (N4 : Hid (t4 ≠ rb)) (TH : Hid (w.there rb 0 4)) (RB : Hid (W.heap.size ≤ rb)) (HH : Hid (Below W.heap.size W w)) (HQ : Hid (lv7f Q x5 x6 p q u U W)) : lv7G Q x5 x6 p q u W 4 listed (lv7S U x5 x6 p q u 0 t2 0 t4 rb false true true false true false true) w := by
 subst hl
 have H0 := H
 obtain ⟨x50, x51, x52, x53, x60, x61, x62, x63, C1⟩ := H
 simp only [lv7G, lv7S, cond_true, cond_false]
 refine wpAnyH_ready (rs := [1, 5]) (by kernel_rfl) (by simp) ?_
 refine AllReadyH.cons (o := lv71) rfl (fun K hK => ?_) (AllReadyH.cons (o := lv75) rfl (fun K hK => ?_) AllReadyH.nil)
 ·refine wp_b1 HH _ rfl p rfl (fun t1 w2 hbb SN A1 htb => ?_)
  have N1 := nTH TH htb
  replace A2 := kRg A2 hbb
  replace A4 := kRg A4 hbb
  replace TH := kTH TH hbb
  replace HH := SN
  clear SN hbb htb
  unfold lv71
  simp only [Act.put, sA, sB, sC]
  refine hK.out _ _ HH.out (fun hH => ?_); clear hK K
  exact lv7_2df H0 t1 t2 t4 rb w2 _ (by kernel_rfl) A1 N1 A2 N2 A4 N4 TH RB HH HQ
 ·refine wp_b1 HH _ rfl u rfl (fun t3 w2 hbb SN A3 htb => ?_)
  have N3 := nTH TH htb
  replace A2 := kRg A2 hbb
  replace A4 := kRg A4 hbb
  replace TH := kTH TH hbb
  replace HH := SN
  clear SN hbb htb
  unfold lv75
  simp only [Act.put, sA, sB, sC]
  refine hK.out _ _ HH.out (fun hH => ?_); clear hK K
  exact lv7_2fd H0 t2 t3 t4 rb w2 _ (by kernel_rfl) A2 N2 A3 N3 A4 N4 TH RB HH HQ
theorem lv7_2d7 (H : lv7h x5 x6 p q u W) (t1 : Nat) (t4 : Nat) (rb : Nat) (w : World) (listed : Array Bool) (hl : listed = #[true, true, true, false, true, false, true, true, false, true, false]) (A1 : Hid (Rg w t1 p)) (N1 : Hid (t1 ≠ rb)) (A4 : Hid (Rg w t4 p)) (N4 : Hid (t4 ≠ rb)) (TH : Hid (w.there rb 0 4)) (RB : Hid (W.heap.size ≤ rb)) (HH : Hid (Below W.heap.size W w)) (HQ : Hid (lv7f Q x5 x6 p q u U W)) : lv7G Q x5 x6 p q u W 4 listed (lv7S U x5 x6 p q u t1 0 0 t4 rb true false true false true false true) w := by
 subst hl
 have H0 := H
 obtain ⟨x50, x51, x52, x53, x60, x61, x62, x63, C1⟩ := H
 simp only [lv7G, lv7S, cond_true, cond_false]
 refine wpAnyH_ready (rs := [3, 5]) (by kernel_rfl) (by simp) ?_
 refine AllReadyH.cons (o := lv73) rfl (fun K hK => ?_) (AllReadyH.cons (o := lv75) rfl (fun K hK => ?_) AllReadyH.nil)
 ·refine wp_b1 HH _ rfl q rfl (fun t2 w2 hbb SN A2 htb => ?_)
  have N2 := nTH TH htb
  replace A1 := kRg A1 hbb
  replace A4 := kRg A4 hbb
  replace TH := kTH TH hbb
  replace HH := SN
  clear SN hbb htb
  unfold lv73
  simp only [Act.put, sA, sB, sC]
  refine hK.out _ _ HH.out (fun hH => ?_); clear hK K
  exact lv7_2df H0 t1 t2 t4 rb w2 _ (by kernel_rfl) A1 N1 A2 N2 A4 N4 TH RB HH HQ
 ·refine wp_b1 HH _ rfl u rfl (fun t3 w2 hbb SN A3 htb => ?_)
  have N3 := nTH TH htb
  replace A1 := kRg A1 hbb
  replace A4 := kRg A4 hbb
  replace TH := kTH TH hbb
  replace HH := SN
  clear SN hbb htb
  unfold lv75
  simp only [Act.put, sA, sB, sC]
  refine hK.out _ _ HH.out (fun hH => ?_); clear hK K
  exact lv7_2f7 H0 t1 t3 t4 rb w2 _ (by kernel_rfl) A1 N1 A3 N3 A4 N4 TH RB HH HQ
theorem lv7_2cf (H : lv7h x5 x6 p q u W) (t1 : Nat) (t2 : Nat) (t4 : Nat) (rb : Nat) (w : World) (listed : Array Bool) (hl : listed = #[true, true, true, true, false, false, true, true, false, true, false]) (A1 : Hid (Rg w t1 p)) (N1 : Hid (t1 ≠ rb)) (A2 : Hid (Rg w t2 q)) (N2 : Hid (t2 ≠ rb)) (A4 : Hid (Rg w t4 p)) (N4 : Hid (t4 ≠ rb)) (TH : Hid (w.there rb 0 4)) (RB : Hid (W.heap.size ≤ rb)) (HH : Hid (Below W.heap.size W w)) (HQ : Hid (lv7f Q x5 x6 p q u U W)) : lv7G Q x5 x6 p q u W 4 listed (lv7S U x5 x6 p q u t1 t2 0 t4 rb true true false false true false true) w := by
 subst hl
 have H0 := H
 obtain ⟨x50, x51, x52, x53, x60, x61, x62, x63, C1⟩ := H
 simp only [lv7G, lv7S, cond_true, cond_false]
 refine wpAnyH_ready (rs := [4]) (by kernel_rfl) (by simp) ?_
 refine AllReadyH.cons (o := lv74) rfl (fun K hK => ?_) AllReadyH.nil
 unfold lv74
 go_simp
 refine (C1.out _).mono ?_
 rintro e w2 ⟨rfl, hb⟩
 have SN := hidden (bl_trans HH.out hb : Below W.heap.size W w2)
 replace A1 := kRg A1 hb
 replace A2 := kRg A2 hb
 replace A4 := kRg A4 hb
 replace TH := kTH TH hb
 replace HH := SN
 clear SN  hb
 go_wp2_with fail
 refine hK.out _ _ HH.out (fun hH => ?_); clear hK K
 exact lv7_2df H0 t1 t2 t4 rb w2 _ (by kernel_rfl) A1 N1 A2 N2 A4 N4 TH RB HH HQ
theorem lv7_27d (H : lv7h x5 x6 p q u W) (t2 : Nat) (t3 : Nat) (rb : Nat) (w : World) (listed : Array Bool) (hl : listed = #[true, false, true, true, true, true, true, false, false, true, false]) (A2 : Hid (Rg w t2 q)) (N2 : Hid (t2 ≠ rb)) (A3 : Hid (Rg w t3 u)) (N3 : Hid (t3 ≠ rb)) (TH : Hid (w.there rb 0 4)) (RB : Hid (W.heap.size ≤ rb)) (HH : Hid (Below W.heap.size W w)) (HQ : Hid (lv7f Q x5 x6 p q u U W)) : lv7G Q x5 x6 p q u W 4 listed (lv7S U x5 x6 p q u 0 t2 t3 0 rb false true true true false false true) w := by
 subst hl
 have H0 := H
 obtain ⟨x50, x51, x52, x53, x60, x61, x62, x63, C1⟩ := H
 simp only [lv7G, lv7S, cond_true, cond_false]
 refine wpAnyH_ready (rs := [1, 7]) (by kernel_rfl) (by simp) ?_
 refine AllReadyH.cons (o := lv71) rfl (fun K hK => ?_) (AllReadyH.cons (o := lv77) rfl (fun K hK => ?_) AllReadyH.nil)
 ·refine wp_b1 HH _ rfl p rfl (fun t1 w2 hbb SN A1 htb => ?_)
  have N1 := nTH TH htb
  replace A2 := kRg A2 hbb
  replace A3 := kRg A3 hbb
  replace TH := kTH TH hbb
  replace HH := SN
  clear SN hbb htb
  unfold lv71
  simp only [Act.put, sA, sB, sC]
  refine hK.out _ _ HH.out (fun hH => ?_); clear hK K
  exact lv7_27f H0 t1 t2 t3 rb w2 _ (by kernel_rfl) A1 N1 A2 N2 A3 N3 TH RB HH HQ
 ·refine wp_b1 HH _ rfl p rfl (fun t4 w2 hbb SN A4 htb => ?_)
  have N4 := nTH TH htb
  replace A2 := kRg A2 hbb
  replace A3 := kRg A3 hbb
  replace TH := kTH TH hbb
  replace HH := SN
  clear SN hbb htb
  unfold lv77
  simp only [Act.put, sA, sB, sC]
  refine hK.out _ _ HH.out (fun hH => ?_); clear hK K
  exact lv7_2fd H0 t2 t3 t4 rb w2 _ (by kernel_rfl) A2 N2 A3 N3 A4 N4 TH RB HH HQ
theorem lv7_277 (H : lv7h x5 x6 p q u W) (t1 : Nat) (t3 : Nat) (rb : Nat) (w : World) (listed : Array Bool) (hl : listed = #[true, true, true, false, true, true, true, false, false, true, false]) (A1 : Hid (Rg w t1 p)) (N1 : Hid (t1 ≠ rb)) (A3 : Hid (Rg w t3 u)) (N3 : Hid (t3 ≠ rb)) (TH : Hid (w.there rb 0 4)) (RB : Hid (W.heap.size ≤ rb)) (HH : Hid (Below W.heap.size W w)) (HQ : Hid (lv7f Q x5 x6 p q u U W)) : lv7G Q x5 x6 p q u W 4 listed (lv7S U x5 x6 p q u t1 0 t3 0 rb true false true true false false true) w := by
 subst hl
 have H0 := H
 obtain ⟨x50, x51, x52, x53, x60, x61, x62, x63, C1⟩ := H
 simp only [lv7G, lv7S, cond_true, cond_false]
 refine wpAnyH_ready (rs := [3, 7]) (by kernel_rfl) (by simp) ?_
 refine AllReadyH.cons (o := lv73) rfl (fun K hK => ?_) (AllReadyH.cons (o := lv77) rfl (fun K hK => ?_) AllReadyH.nil)
 ·refine wp_b1 HH _ rfl q rfl (fun t2 w2 hbb SN A2 htb => ?_)
  have N2 := nTH TH htb
  replace A1 := kRg A1 hbb
  replace A3 := kRg A3 hbb
  replace TH := kTH TH hbb
  replace HH := SN
  clear SN hbb htb
  unfold lv73
  simp only [Act.put, sA, sB, sC]
  refine hK.out _ _ HH.out (fun hH => ?_); clear hK K
  exact lv7_27f H0 t1 t2 t3 rb w2 _ (by kernel_rfl) A1 N1 A2 N2 A3 N3 TH RB HH HQ
 ·refine wp_b1 HH _ rfl p rfl (fun t4 w2 hbb SN A4 htb => ?_)
  have N4 := nTH TH htb
  replace A1 := kRg A1 hbb
  replace A3 := kRg A3 hbb
  replace TH := kTH TH hbb
  replace HH := SN
  clear SN hbb htb
  unfold lv77
  simp only [Act.put, sA, sB, sC]
  refine hK.out _ _ HH.out (fun hH => ?_); clear hK K
  exact lv7_2f7 H0 t1 t3 t4 rb w2 _ (by kernel_rfl) A1 N1 A3 N3 A4 N4 TH RB HH HQ
theorem lv7_25f (H : lv7h x5 x6 p q u W) (t1 : Nat) (t2 : Nat) (rb : Nat) (w : World) (listed : Array Bool) (hl : listed = #[true, true, true, true, true, false, true, false, false, true, false]) (A1 : Hid (Rg w t1 p)) (N1 : Hid (t1 ≠ rb)) (A2 : Hid (Rg w t2 q)) (N2 : Hid (t2 ≠ rb)) (TH : Hid (w.there rb 0 4)) (RB : Hid (W.heap.size ≤ rb)) (HH : Hid (Below W.heap.size W w)) (HQ : Hid (lv7f Q x5 x6 p q u U W)) : lv7G Q x5 x6 p q u W 4 listed (lv7S U x5 x6 p q u t1 t2 0 0 rb true true true false false false true) w := by
 subst hl
 have H0 := H
 obtain ⟨x50, x51, x52, x53, x60, x61, x62, x63, C1⟩ := H
 simp only [lv7G, lv7S, cond_true, cond_false]
 refine wpAnyH_ready (rs := [5, 7]) (by kernel_rfl) (by simp) ?_
 refine AllReadyH.cons (o := lv75) rfl (fun K hK => ?_) (AllReadyH.cons (o := lv77) rfl (fun K hK => ?_) AllReadyH.nil)
 ·refine wp_b1 HH _ rfl u rfl (fun t3 w2 hbb SN A3 htb => ?_)
  have N3 := nTH TH htb
  replace A1 := kRg A1 hbb
  replace A2 := kRg A2 hbb
  replace TH := kTH TH hbb
  replace HH := SN
  clear SN hbb htb
  unfold lv75
  simp only [Act.put, sA, sB, sC]
  refine hK.out _ _ HH.out (fun hH => ?_); clear hK K
  exact lv7_27f H0 t1 t2 t3 rb w2 _ (by kernel_rfl) A1 N1 A2 N2 A3 N3 TH RB HH HQ
 ·refine wp_b1 HH _ rfl p rfl (fun t4 w2 hbb SN A4 htb => ?_)
  have N4 := nTH TH htb
  replace A1 := kRg A1 hbb
  replace A2 := kRg A2 hbb
  replace TH := kTH TH hbb
  replace HH := SN
  clear SN hbb htb
  unfold lv77
  simp only [Act.put, sA, sB, sC]
  refine hK.out _ _ HH.out (fun hH => ?_); clear hK K
  exact lv7_2df H0 t1 t2 t4 rb w2 _ (by kernel_rfl) A1 N1 A2 N2 A4 N4 TH RB HH HQ
theorem lv7_fd (H : lv7h x5 x6 p q u W) (t2 : Nat) (t3 : Nat) (t4 : Nat) (w : World) (listed : Array Bool) (hl : listed = #[true, false, true, true, true, true, true, true, false, false, false]) (A2 : Hid (Rg w t2 q)) (A3 : Hid (Rg w t3 u)) (A4 : Hid (Rg w t4 p)) (HH : Hid (Below W.heap.size W w)) (HQ : Hid (lv7f Q x5 x6 p q u U W)) : lv7G Q x5 x6 p q u W 4 listed (lv7S U x5 x6 p q u 0 t2 t3 t4 0 false true true true true false false) w := by
 subst hl
 have H0 := H
 obtain ⟨x50, x51, x52, x53, x60, x61, x62, x63, C1⟩ := H
 simp only [lv7G, lv7S, cond_true, cond_false]
 refine wpAnyH_ready (rs := [1, 9]) (by kernel_rfl) (by simp) ?_
 refine AllReadyH.cons (o := lv71) rfl (fun K hK => ?_) (AllReadyH.cons (o := lv79) rfl (fun K hK => ?_) AllReadyH.nil)
 ·refine wp_b1 HH _ rfl p rfl (fun t1 w2 hbb SN A1 htb => ?_)
  replace A2 := kRg A2 hbb
  replace A3 := kRg A3 hbb
  replace A4 := kRg A4 hbb
  replace HH := SN
  clear SN hbb htb
  unfold lv71
  simp only [Act.put, sA, sB, sC]
  refine hK.out _ _ HH.out (fun hH => ?_); clear hK K
  refine tj 8 lv78 (.agg #[.slice (some ⟨t1, 0, none⟩) 1 1, .slice (some ⟨t2, 0, none⟩) 1 1, .slice (some ⟨t3, 0, none⟩) 1 1, .slice (some ⟨t4, 0, none⟩) 1 1]) hH (fun w0 hSw => ?_) ?_
  ·(unfold lv78; clear hSw; go_simp)
  unfold lv78
  simp only [Act.put, sA, sB, sC]
  exact lv7_1ff H0 t1 t2 t3 t4 w2 _ (by kernel_rfl) A1 A2 A3 A4 HH HQ
 ·refine wp_a1 HH rfl (fun rb w2 hbb SN TH RB htb => ?_)
  have N2 := nRG A2 htb
  have N3 := nRG A3 htb
  have N4 := nRG A4 htb
  replace A2 := kRg A2 hbb
  replace A3 := kRg A3 hbb
  replace A4 := kRg A4 hbb
  replace HH := SN
  clear SN hbb htb
  unfold lv79
  simp only [Act.put, sA, sB, sC]
  refine hK.out _ _ HH.out (fun hH => ?_); clear hK K
  exact lv7_2fd H0 t2 t3 t4 rb w2 _ (by kernel_rfl) A2 N2 A3 N3 A4 N4 TH RB HH HQ
theorem lv7_f7 (H : lv7h x5 x6 p q u W) (t1 : Nat) (t3 : Nat) (t4 : Nat) (w : World) (listed : Array Bool) (hl : listed = #[true, true, true, false, true, true, true, true, false, false, false]) (A1 : Hid (Rg w t1 p)) (A3 : Hid (Rg w t3 u)) (A4 : Hid (Rg w t4 p)) (HH : Hid (Below W.heap.size W w)) (HQ : Hid (lv7f Q x5 x6 p q u U W)) : lv7G Q x5 x6 p q u W 4 listed (lv7S U x5 x6 p q u t1 0 t3 t4 0 true false true true true false false) w := by
 subst hl
 have H0 := H
 obtain ⟨x50, x51, x52, x53, x60, x61, x62, x63, C1⟩ := H
 simp only [lv7G, lv7S, cond_true, cond_false]
 refine wpAnyH_ready (rs := [3, 9]) (by kernel_rfl) (by simp) ?_
 refine AllReadyH.cons (o := lv73) rfl (fun K hK => ?_) (AllReadyH.cons (o := lv79) rfl (fun K hK => ?_) AllReadyH.nil)
 ·refine wp_b1 HH _ rfl q rfl (fun t2 w2 hbb SN A2 htb => ?_)
  replace A1 := kRg A1 hbb
  replace A3 := kRg A3 hbb
  replace A4 := kRg A4 hbb
  replace HH := SN
  clear SN hbb htb
  unfold lv73
  simp only [Act.put, sA, sB, sC]
  refine hK.out _ _ HH.out (fun hH => ?_); clear hK K
  refine tj 8 lv78 (.agg #[.slice (some ⟨t1, 0, none⟩) 1 1, .slice (some ⟨t2, 0, none⟩) 1 1, .slice (some ⟨t3, 0, none⟩) 1 1, .slice (some ⟨t4, 0, none⟩) 1 1]) hH (fun w0 hSw => ?_) ?_
  ·(unfold lv78; clear hSw; go_simp)
  unfold lv78
  simp only [Act.put, sA, sB, sC]
  exact lv7_1ff H0 t1 t2 t3 t4 w2 _ (by kernel_rfl) A1 A2 A3 A4 HH HQ
 ·refine wp_a1 HH rfl (fun rb w2 hbb SN TH RB htb => ?_)
  have N1 := nRG A1 htb
  have N3 := nRG A3 htb
  have N4 := nRG A4 htb
  replace A1 := kRg A1 hbb
  replace A3 := kRg A3 hbb
  replace A4 := kRg A4 hbb
  replace HH := SN
  clear SN hbb htb
  unfold lv79
  simp only [Act.put, sA, sB, sC]
  refine hK.out _ _ HH.out (fun hH => ?_); clear hK K
  exact lv7_2f7 H0 t1 t3 t4 rb w2 _ (by kernel_rfl) A1 N1 A3 N3 A4 N4 TH RB HH HQ
theorem lv7_df (H : lv7h x5 x6 p q u W) (t1 : Nat) (t2 : Nat) (t4 : Nat) (w : World) (listed : Array Bool) (hl : listed = #[true, true, true, true, true, false, true, true, false, false, false]) (A1 : Hid (Rg w t1 p)) (A2 : Hid (Rg w t2 q)) (A4 : Hid (Rg w t4 p)) (HH : Hid (Below W.heap.size W w)) (HQ : Hid (lv7f Q x5 x6 p q u U W)) : lv7G Q x5 x6 p q u W 4 listed (lv7S U x5 x6 p q u t1 t2 0 t4 0 true true true false true false false) w := by
 subst hl
 have H0 := H
 obtain ⟨x50, x51, x52, x53, x60, x61, x62, x63, C1⟩ := H
 simp only [lv7G, lv7S, cond_true, cond_false]
 refine wpAnyH_ready (rs := [5, 9]) (by kernel_rfl) (by simp) ?_
 refine AllReadyH.cons (o := lv75) rfl (fun K hK => ?_) (AllReadyH.cons (o := lv79) rfl (fun K hK => ?_) AllReadyH.nil)
 ·refine wp_b1 HH _ rfl u rfl (fun t3 w2 hbb SN A3 htb => ?_)
  replace A1 := kRg A1 hbb
  replace A2 := kRg A2 hbb
  replace A4 := kRg A4 hbb
  replace HH := SN
  clear SN hbb htb
  unfold lv75
  simp only [Act.put, sA, sB, sC]
  refine hK.out _ _ HH.out (fun hH => ?_); clear hK K
  refine tj 8 lv78 (.agg #[.slice (some ⟨t1, 0, none⟩) 1 1, .slice (some ⟨t2, 0, none⟩) 1 1, .slice (some ⟨t3, 0, none⟩) 1 1, .slice (some ⟨t4, 0, none⟩) 1 1]) hH (fun w0 hSw => ?_) ?_
  ·(unfold lv78; clear hSw; go_simp)
  unfold lv78
  simp only [Act.put, sA, sB, sC]
  exact lv7_1ff H0 t1 t2 t3 t4 w2 _ (by kernel_rfl) A1 A2 A3 A4 HH HQ
 ·refine wp_a1 HH rfl (fun rb w2 hbb SN TH RB htb => ?_)
  have N1 := nRG A1 htb
  have N2 := nRG A2 htb
  have N4 := nRG A4 htb
  replace A1 := kRg A1 hbb
  replace A2 := kRg A2 hbb
  replace A4 := kRg A4 hbb
  replace HH := SN
  clear SN hbb htb
  unfold lv79
  simp only [Act.put, sA, sB, sC]
  refine hK.out _ _ HH.out (fun hH => ?_); clear hK K
  exact lv7_2df H0 t1 t2 t4 rb w2 _ (by kernel_rfl) A1 N1 A2 N2 A4 N4 TH RB HH HQ
theorem lv7_7f (H : lv7h x5 x6 p q u W) (t1 : Nat) (t2 : Nat) (t3 : Nat) (w : World) (listed : Array Bool) (hl : listed = #[true, true, true, true, true, true, true, false, false, false, false]) (A1 : Hid (Rg w t1 p)) (A2 : Hid (Rg w t2 q)) (A3 : Hid (Rg w t3 u)) (HH : Hid (Below W.heap.size W w)) (HQ : Hid (lv7f Q x5 x6 p q u U W)) : lv7G Q x5 x6 p q u W 4 listed (lv7S U x5 x6 p q u t1 t2 t3 0 0 true true true true false false false) w := by
 subst hl
 have H0 := H
 obtain ⟨x50, x51, x52, x53, x60, x61, x62, x63, C1⟩ := H
 simp only [lv7G, lv7S, cond_true, cond_false]
 refine wpAnyH_ready (rs := [7, 9]) (by kernel_rfl) (by simp) ?_
 refine AllReadyH.cons (o := lv77) rfl (fun K hK => ?_) (AllReadyH.cons (o := lv79) rfl (fun K hK => ?_) AllReadyH.nil)
 ·refine wp_b1 HH _ rfl p rfl (fun t4 w2 hbb SN A4 htb => ?_)
  replace A1 := kRg A1 hbb
  replace A2 := kRg A2 hbb
  replace A3 := kRg A3 hbb
  replace HH := SN
  clear SN hbb htb
  unfold lv77
  simp only [Act.put, sA, sB, sC]
  refine hK.out _ _ HH.out (fun hH => ?_); clear hK K
  refine tj 8 lv78 (.agg #[.slice (some ⟨t1, 0, none⟩) 1 1, .slice (some ⟨t2, 0, none⟩) 1 1, .slice (some ⟨t3, 0, none⟩) 1 1, .slice (some ⟨t4, 0, none⟩) 1 1]) hH (fun w0 hSw => ?_) ?_
  ·(unfold lv78; clear hSw; go_simp)
  unfold lv78
  simp only [Act.put, sA, sB, sC]
  exact lv7_1ff H0 t1 t2 t3 t4 w2 _ (by kernel_rfl) A1 A2 A3 A4 HH HQ
 ·refine wp_a1 HH rfl (fun rb w2 hbb SN TH RB htb => ?_)
  have N1 := nRG A1 htb
  have N2 := nRG A2 htb
  have N3 := nRG A3 htb
  replace A1 := kRg A1 hbb
  replace A2 := kRg A2 hbb
  replace A3 := kRg A3 hbb
  replace HH := SN
  clear SN hbb htb
  unfold lv79
  simp only [Act.put, sA, sB, sC]
  refine hK.out _ _ HH.out (fun hH => ?_); clear hK K
  exact lv7_27f H0 t1 t2 t3 rb w2 _ (by kernel_rfl) A1 N1 A2 N2 A3 N3 TH RB HH HQ
theorem lv7_2d5 (H : lv7h x5 x6 p q u W) (t4 : Nat) (rb : Nat) (w : World) (listed : Array Bool) (hl : listed = #[true, false, true, false, true, false, true, true, false, true, false]) (A4 : Hid (Rg w t4 p)) (N4 : Hid (t4 ≠ rb)) (TH : Hid (w.there rb 0 4)) (RB : Hid (W.heap.size ≤ rb)) (HH : Hid (Below W.heap.size W w)) (HQ : Hid (lv7f Q x5 x6 p q u U W)) : lv7G Q x5 x6 p q u W 5 listed (lv7S U x5 x6 p q u 0 0 0 t4 rb false false true false true false true) w := by
 subst hl
 have H0 := H
 obtain ⟨x50, x51, x52, x53, x60, x61, x62, x63, C1⟩ := H
 simp only [lv7G, lv7S, cond_true, cond_false]
 refine wpAnyH_ready (rs := [1, 3, 5]) (by kernel_rfl) (by simp) ?_
 refine AllReadyH.cons (o := lv71) rfl (fun K hK => ?_) (AllReadyH.cons (o := lv73) rfl (fun K hK => ?_) (AllReadyH.cons (o := lv75) rfl (fun K hK => ?_) AllReadyH.nil))
 ·refine wp_b1 HH _ rfl p rfl (fun t1 w2 hbb SN A1 htb => ?_)
  have N1 := nTH TH htb
  replace A4 := kRg A4 hbb
  replace TH := kTH TH hbb
  replace HH := SN
  clear SN hbb htb
  unfold lv71
  simp only [Act.put, sA, sB, sC]
  refine hK.out _ _ HH.out (fun hH => ?_); clear hK K
  exact lv7_2d7 H0 t1 t4 rb w2 _ (by kernel_rfl) A1 N1 A4 N4 TH RB HH HQ
 ·refine wp_b1 HH _ rfl q rfl (fun t2 w2 hbb SN A2 htb => ?_)
  have N2 := nTH TH htb
  replace A4 := kRg A4 hbb
  replace TH := kTH TH hbb
  replace HH := SN
  clear SN hbb htb
  unfold lv73
  simp only [Act.put, sA, sB, sC]
  refine hK.out _ _ HH.out (fun hH => ?_); clear hK K
  exact lv7_2dd H0 t2 t4 rb w2 _ (by kernel_rfl) A2 N2 A4 N4 TH RB HH HQ
 ·refine wp_b1 HH _ rfl u rfl (fun t3 w2 hbb SN A3 htb => ?_)
  have N3 := nTH TH htb
  replace A4 := kRg A4 hbb
  replace TH := kTH TH hbb
  replace HH := SN
  clear SN hbb htb
  unfold lv75
  simp only [Act.put, sA, sB, sC]
  refine hK.out _ _ HH.out (fun hH => ?_); clear hK K
  exact lv7_2f5 H0 t3 t4 rb w2 _ (by kernel_rfl) A3 N3 A4 N4 TH RB HH HQ
theorem lv7_2cd (H : lv7h x5 x6 p q u W) (t2 : Nat) (t4 : Nat) (rb : Nat) (w : World) (listed : Array Bool) (hl : listed = #[true, false, true, true, false, false, true, true, false, true, false]) (A2 : Hid (Rg w t2 q)) (N2 : Hid (t2 ≠ rb)) (A4 : Hid (Rg w t4 p)) (N4 : Hid (t4 ≠ rb)) (TH : Hid (w.there rb 0 4)) (RB : Hid (W.heap.size ≤ rb)) (HH : Hid (Below W.heap.size W w)) (HQ : Hid (lv7f Q x5 x6 p q u U W)) : lv7G Q x5 x6 p q u W 5 listed (lv7S U x5 x6 p q u 0 t2 0 t4 rb false true false false true false true) w := by
 subst hl
 have H0 := H
 obtain ⟨x50, x51, x52, x53, x60, x61, x62, x63, C1⟩ := H
 simp only [lv7G, lv7S, cond_true, cond_false]
 refine wpAnyH_ready (rs := [1, 4]) (by kernel_rfl) (by simp) ?_
 refine AllReadyH.cons (o := lv71) rfl (fun K hK => ?_) (AllReadyH.cons (o := lv74) rfl (fun K hK => ?_) AllReadyH.nil)
 ·refine wp_b1 HH _ rfl p rfl (fun t1 w2 hbb SN A1 htb => ?_)
  have N1 := nTH TH htb
  replace A2 := kRg A2 hbb
  replace A4 := kRg A4 hbb
  replace TH := kTH TH hbb
  replace HH := SN
  clear SN hbb htb
  unfold lv71
  simp only [Act.put, sA, sB, sC]
  refine hK.out _ _ HH.out (fun hH => ?_); clear hK K
  exact lv7_2cf H0 t1 t2 t4 rb w2 _ (by kernel_rfl) A1 N1 A2 N2 A4 N4 TH RB HH HQ
 ·unfold lv74
  go_simp
  refine (C1.out _).mono ?_
  rintro e w2 ⟨rfl, hb⟩
  have SN := hidden (bl_trans HH.out hb : Below W.heap.size W w2)
  replace A2 := kRg A2 hb
  replace A4 := kRg A4 hb
  replace TH := kTH TH hb
  replace HH := SN
  clear SN  hb
  go_wp2_with fail
  refine hK.out _ _ HH.out (fun hH => ?_); clear hK K
  exact lv7_2dd H0 t2 t4 rb w2 _ (by kernel_rfl) A2 N2 A4 N4 TH RB HH HQ
theorem lv7_2c7 (H : lv7h x5 x6 p q u W) (t1 : Nat) (t4 : Nat) (rb : Nat) (w : World) (listed : Array Bool) (hl : listed = #[true, true, true, false, false, false, true, true, false, true, false]) (A1 : Hid (Rg w t1 p)) (N1 : Hid (t1 ≠ rb)) (A4 : Hid (Rg w t4 p)) (N4 : Hid (t4 ≠ rb)) (TH : Hid (w.there rb 0 4)) (RB : Hid (W.heap.size ≤ rb)) (HH : Hid (Below W.heap.size W w)) (HQ : Hid (lv7f Q x5 x6 p q u U W)) : lv7G Q x5 x6 p q u W 5 listed (lv7S U x5 x6 p q u t1 0 0 t4 rb true false false false true false true) w := by
 subst hl
 have H0 := H
 obtain ⟨x50, x51, x52, x53, x60, x61, x62, x63, C1⟩ := H
 simp only [lv7G, lv7S, cond_true, cond_false]
 refine wpAnyH_ready (rs := [3, 4]) (by kernel_rfl) (by simp) ?_
 refine AllReadyH.cons (o := lv73) rfl (fun K hK => ?_) (AllReadyH.cons (o := lv74) rfl (fun K hK => ?_) AllReadyH.nil)
 ·refine wp_b1 HH _ rfl q rfl (fun t2 w2 hbb SN A2 htb => ?_)
  have N2 := nTH TH htb
  replace A1 := kRg A1 hbb
  replace A4 := kRg A4 hbb
  replace TH := kTH TH hbb
  replace HH := SN
  clear SN hbb htb
  unfold lv73
  simp only [Act.put, sA, sB, sC]
  refine hK.out _ _ HH.out (fun hH => ?_); clear hK K
  exact lv7_2cf H0 t1 t2 t4 rb w2 _ (by kernel_rfl) A1 N1 A2 N2 A4 N4 TH RB HH HQ
 ·unfold lv74
  go_simp
  refine (C1.out _).mono ?_
  rintro e w2 ⟨rfl, hb⟩
  have SN := hidden (bl_trans HH.out hb : Below W.heap.size W w2)
  replace A1 := kRg A1 hb
  replace A4 := kRg A4 hb
  replace TH := kTH TH hb
  replace HH := SN
  clear SN  hb
  go_wp2_with fail
  refine hK.out _ _ HH.out (fun hH => ?_); clear hK K
  exact lv7_2d7 H0 t1 t4 rb w2 _ (by kernel_rfl) A1 N1 A4 N4 TH RB HH HQ
theorem lv7_275 (H : lv7h x5 x6 p q u W) (t3 : Nat) (rb : Nat) (w : World) (listed : Array Bool) (hl : listed = #[true, false, true, false, true, true, true, false, false, true, false]) (A3 : Hid (Rg w t3 u)) (N3 : Hid (t3 ≠ rb)) (TH : Hid (w.there rb 0 4)) (RB : Hid (W.heap.size ≤ rb)) (HH : Hid (Below W.heap.size W w)) (HQ : Hid (lv7f Q x5 x6 p q u U W)) : lv7G Q x5 x6 p q u W 5 listed (lv7S U x5 x6 p q u 0 0 t3 0 rb false false true true false false true) w := by
 subst hl
 have H0 := H
 obtain ⟨x50, x51, x52, x53, x60, x61, x62, x63, C1⟩ := H
 simp only [lv7G, lv7S, cond_true, cond_false]
 refine wpAnyH_ready (rs := [1, 3, 7]) (by kernel_rfl) (by simp) ?_
 refine AllReadyH.cons (o := lv71) rfl (fun K hK => ?_) (AllReadyH.cons (o := lv73) rfl (fun K hK => ?_) (AllReadyH.cons (o := lv77) rfl (fun K hK => ?_) AllReadyH.nil))
 ·refine wp_b1 HH _ rfl p rfl (fun t1 w2 hbb SN A1 htb => ?_)
  have N1 := nTH TH htb
  replace A3 := kRg A3 hbb
  replace TH := kTH TH hbb
  replace HH := SN
  clear SN hbb htb
  unfold lv71
  simp only [Act.put, sA, sB, sC]
  refine hK.out _ _ HH.out (fun hH => ?_); clear hK K
  exact lv7_277 H0 t1 t3 rb w2 _ (by kernel_rfl) A1 N1 A3 N3 TH RB HH HQ
 ·refine wp_b1 HH _ rfl q rfl (fun t2 w2 hbb SN A2 htb => ?_)
  have N2 := nTH TH htb
  replace A3 := kRg A3 hbb
  replace TH := kTH TH hbb
  replace HH := SN
  clear SN hbb htb
  unfold lv73
  simp only [Act.put, sA, sB, sC]
  refine hK.out _ _ HH.out (fun hH => ?_); clear hK K
  exact lv7_27d H0 t2 t3 rb w2 _ (by kernel_rfl) A2 N2 A3 N3 TH RB HH HQ
 ·refine wp_b1 HH _ rfl p rfl (fun t4 w2 hbb SN A4 htb => ?_)
  have N4 := nTH TH htb
  replace A3 := kRg A3 hbb
  replace TH := kTH TH hbb
  replace HH := SN
  clear SN hbb htb
  unfold lv77
  simp only [Act.put, sA, sB, sC]
  refine hK.out _ _ HH.out (fun hH => ?_); clear hK K
  exact lv7_2f5 H0 t3 t4 rb w2 _ (by kernel_rfl) A3 N3 A4 N4 TH RB HH HQ
theorem lv7_25d (H : lv7h x5 x6 p q u W) (t2 : Nat) (rb : Nat) (w : World) (listed : Array Bool) (hl : listed = #[true, false, true, true, true, false, true, false, false, true, false]) (A2 : Hid (Rg w t2 q)) (N2 : Hid (t2 ≠ rb)) (TH : Hid (w.there rb 0 4)) (RB : Hid (W.heap.size ≤ rb)) (HH : Hid (Below W.heap.size W w)) (HQ : Hid (lv7f Q x5 x6 p q u U W)) : lv7G Q x5 x6 p q u W 5 listed (lv7S U x5 x6 p q u 0 t2 0 0 rb false true true false false false true) w := by
 subst hl
 have H0 := H
 obtain ⟨x50, x51, x52, x53, x60, x61, x62, x63, C1⟩ := H
 simp only [lv7G, lv7S, cond_true, cond_false]
 refine wpAnyH_ready (rs := [1, 5, 7]) (by kernel_rfl) (by simp) ?_
 refine AllReadyH.cons (o := lv71) rfl (fun K hK => ?_) (AllReadyH.cons (o := lv75) rfl (fun K hK => ?_) (AllReadyH.cons (o := lv77) rfl (fun K hK => ?_) AllReadyH.nil))
 ·refine wp_b1 HH _ rfl p rfl (fun t1 w2 hbb SN A1 htb => ?_)
  have N1 := nTH TH htb
  replace A2 := kRg A2 hbb
  replace TH := kTH TH hbb
  replace HH := SN
  clear SN hbb htb
  unfold lv71
  simp only [Act.put, sA, sB, sC]
  refine hK.out _ _ HH.out (fun hH => ?_); clear hK K
  exact lv7_25f H0 t1 t2 rb w2 _ (by kernel_rfl) A1 N1 A2 N2 TH RB HH HQ
 ·refine wp_b1 HH _ rfl u rfl (fun t3 w2 hbb SN A3 htb => ?_)
  have N3 := nTH TH htb
  replace A2 := kRg A2 hbb
  replace TH := kTH TH hbb
  replace HH := SN
  clear SN hbb htb
  unfold lv75
  simp only [Act.put, sA, sB, sC]
  refine hK.out _ _ HH.out (fun hH => ?_); clear hK K
  exact lv7_27d H0 t2 t3 rb w2 _ (by kernel_rfl) A2 N2 A3 N3 TH RB HH HQ
 ·refine wp_b1 HH _ rfl p rfl (fun t4 w2 hbb SN A4 htb => ?_)
  have N4 := nTH TH htb
  replace A2 := kRg A2 hbb
  replace TH := kTH TH hbb
  replace HH := SN
  clear SN hbb htb
  unfold lv77
  simp only [Act.put, sA, sB, sC]
  refine hK.out _ _ HH.out (fun hH => ?_); clear hK K
  exact lv7_2dd H0 t2 t4 rb w2 _ (by kernel_rfl) A2 N2 A4 N4 TH RB HH HQ
theorem lv7_257 (H : lv7h x5 x6 p q u W) (t1 : Nat) (rb : Nat) (w : World) (listed : Array Bool) (hl : listed = #[true, true, true, false, true, false, true, false, false, true, false]) (A1 : Hid (Rg w t1 p)) (N1 : Hid (t1 ≠ rb)) (TH : Hid (w.there rb 0 4)) (RB : Hid (W.heap.size ≤ rb)) (HH : Hid (Below W.heap.size W w)) (HQ : Hid (lv7f Q x5 x6 p q u U W)) : lv7G Q x5 x6 p q u W 5 listed (lv7S U x5 x6 p q u t1 0 0 0 rb true false true false false false true) w := by
 subst hl
 have H0 := H
 obtain ⟨x50, x51, x52, x53, x60, x61, x62, x63, C1⟩ := H
 simp only [lv7G, lv7S, cond_true, cond_false]
 refine wpAnyH_ready (rs := [3, 5, 7]) (by kernel_rfl) (by simp) ?_
 refine AllReadyH.cons (o := lv73) rfl (fun K hK => ?_) (AllReadyH.cons (o := lv75) rfl (fun K hK => ?_) (AllReadyH.cons (o := lv77) rfl (fun K hK => ?_) AllReadyH.nil))
 ·refine wp_b1 HH _ rfl q rfl (fun t2 w2 hbb SN A2 htb => ?_)
  have N2 := nTH TH htb
  replace A1 := kRg A1 hbb
  replace TH := kTH TH hbb
  replace HH := SN
  clear SN hbb htb
  unfold lv73
  simp only [Act.put, sA, sB, sC]
  refine hK.out _ _ HH.out (fun hH => ?_); clear hK K
  exact lv7_25f H0 t1 t2 rb w2 _ (by kernel_rfl) A1 N1 A2 N2 TH RB HH HQ
 ·refine wp_b1 HH _ rfl u rfl (fun t3 w2 hbb SN A3 htb => ?_)
  have N3 := nTH TH htb
  replace A1 := kRg A1 hbb
  replace TH := kTH TH hbb
  replace HH := SN
  clear SN hbb htb
  unfold lv75
  simp only [Act.put, sA, sB, sC]
  refine hK.out _ _ HH.out (fun hH => ?_); clear hK K
  exact lv7_277 H0 t1 t3 rb w2 _ (by kernel_rfl) A1 N1 A3 N3 TH RB HH HQ
 ·refine wp_b1 HH _ rfl p rfl (fun t4 w2 hbb SN A4 htb => ?_)
  have N4 := nTH TH htb
  replace A1 := kRg A1 hbb
  replace TH := kTH TH hbb
  replace HH := SN
  clear SN hbb htb
  unfold lv77
  simp only [Act.put, sA, sB, sC]
  refine hK.out _ _ HH.out (fun hH => ?_); clear hK K
  exact lv7_2d7 H0 t1 t4 rb w2 _ (by kernel_rfl) A1 N1 A4 N4 TH RB HH HQ
theorem lv7_24f (H : lv7h x5 x6 p q u W) (t1 : Nat) (t2 : Nat) (rb : Nat) (w : World) (listed : Array Bool) (hl : listed = #[true, true, true, true, false, false, true, false, false, true, false]) (A1 : Hid (Rg w t1 p)) (N1 : Hid (t1 ≠ rb)) (A2 : Hid (Rg w t2 q)) (N2 : Hid (t2 ≠ rb)) (TH : Hid (w.there rb 0 4)) (RB : Hid (W.heap.size ≤ rb)) (HH : Hid (Below W.heap.size W w)) (HQ : Hid (lv7f Q x5 x6 p q u U W)) : lv7G Q x5 x6 p q u W 5 listed (lv7S U x5 x6 p q u t1 t2 0 0 rb true true false false false false true) w := by
 subst hl
 have H0 := H
 obtain ⟨x50, x51, x52, x53, x60, x61, x62, x63, C1⟩ := H
 simp only [lv7G, lv7S, cond_true, cond_false]
 refine wpAnyH_ready (rs := [4, 7]) (by kernel_rfl) (by simp) ?_
 refine AllReadyH.cons (o := lv74) rfl (fun K hK => ?_) (AllReadyH.cons (o := lv77) rfl (fun K hK => ?_) AllReadyH.nil)
 ·unfold lv74
  go_simp
  refine (C1.out _).mono ?_
  rintro e w2 ⟨rfl, hb⟩
  have SN := hidden (bl_trans HH.out hb : Below W.heap.size W w2)
  replace A1 := kRg A1 hb
  replace A2 := kRg A2 hb
  replace TH := kTH TH hb
  replace HH := SN
  clear SN  hb
  go_wp2_with fail
  refine hK.out _ _ HH.out (fun hH => ?_); clear hK K
  exact lv7_25f H0 t1 t2 rb w2 _ (by kernel_rfl) A1 N1 A2 N2 TH RB HH HQ
 ·refine wp_b1 HH _ rfl p rfl (fun t4 w2 hbb SN A4 htb => ?_)
  have N4 := nTH TH htb
  replace A1 := kRg A1 hbb
  replace A2 := kRg A2 hbb
  replace TH := kTH TH hbb
  replace HH := SN
  clear SN hbb htb
  unfold lv77
  simp only [Act.put, sA, sB, sC]
  refine hK.out _ _ HH.out (fun hH => ?_); clear hK K
  exact lv7_2cf H0 t1 t2 t4 rb w2 _ (by kernel_rfl) A1 N1 A2 N2 A4 N4 TH RB HH HQ
theorem lv7_f5 (H : lv7h x5 x6 p q u W) (t3 : Nat) (t4 : Nat) (w : World) (listed : Array Bool) (hl : listed = #[true, false, true, false, true, true, true, true, false, false, false]) (A3 : Hid (Rg w t3 u)) (A4 : Hid (Rg w t4 p)) (HH : Hid (Below W.heap.size W w)) (HQ : Hid (lv7f Q x5 x6 p q u U W)) : lv7G Q x5 x6 p q u W 5 listed (lv7S U x5 x6 p q u 0 0 t3 t4 0 false false true true true false false) w := by
 subst hl
 have H0 := H
 obtain ⟨x50, x51, x52, x53, x60, x61, x62, x63, C1⟩ := H
 simp only [lv7G, lv7S, cond_true, cond_false]
 refine wpAnyH_ready (rs := [1, 3, 9]) (by kernel_rfl) (by simp) ?_
 refine AllReadyH.cons (o := lv71) rfl (fun K hK => ?_) (AllReadyH.cons (o := lv73) rfl (fun K hK => ?_) (AllReadyH.cons (o := lv79) rfl (fun K hK => ?_) AllReadyH.nil))
 ·refine wp_b1 HH _ rfl p rfl (fun t1 w2 hbb SN A1 htb => ?_)
  replace A3 := kRg A3 hbb
  replace A4 := kRg A4 hbb
  replace HH := SN
  clear SN hbb htb
  unfold lv71
  simp only [Act.put, sA, sB, sC]
  refine hK.out _ _ HH.out (fun hH => ?_); clear hK K
  exact lv7_f7 H0 t1 t3 t4 w2 _ (by kernel_rfl) A1 A3 A4 HH HQ
 ·refine wp_b1 HH _ rfl q rfl (fun t2 w2 hbb SN A2 htb => ?_)
  replace A3 := kRg A3 hbb
  replace A4 := kRg A4 hbb
  replace HH := SN
  clear SN hbb htb
  unfold lv73
  simp only [Act.put, sA, sB, sC]
  refine hK.out _ _ HH.out (fun hH => ?_); clear hK K
  exact lv7_fd H0 t2 t3 t4 w2 _ (by kernel_rfl) A2 A3 A4 HH HQ
 ·refine wp_a1 HH rfl (fun rb w2 hbb SN TH RB htb => ?_)
  have N3 := nRG A3 htb
  have N4 := nRG A4 htb
  replace A3 := kRg A3 hbb
  replace A4 := kRg A4 hbb
  replace HH := SN
  clear SN hbb htb
  unfold lv79
  simp only [Act.put, sA, sB, sC]
  refine hK.out _ _ HH.out (fun hH => ?_); clear hK K
  exact lv7_2f5 H0 t3 t4 rb w2 _ (by kernel_rfl) A3 N3 A4 N4 TH RB HH HQ
theorem lv7_dd (H : lv7h x5 x6 p q u W) (t2 : Nat) (t4 : Nat) (w : World) (listed : Array Bool) (hl : listed = #[true, false, true, true, true, false, true, true, false, false, false]) (A2 : Hid (Rg w t2 q)) (A4 : Hid (Rg w t4 p)) (HH : Hid (Below W.heap.size W w)) (HQ : Hid (lv7f Q x5 x6 p q u U W)) : lv7G Q x5 x6 p q u W 5 listed (lv7S U x5 x6 p q u 0 t2 0 t4 0 false true true false true false false) w := by
 subst hl
 have H0 := H
 obtain ⟨x50, x51, x52, x53, x60, x61, x62, x63, C1⟩ := H
 simp only [lv7G, lv7S, cond_true, cond_false]
 refine wpAnyH_ready (rs := [1, 5, 9]) (by kernel_rfl) (by simp) ?_
 refine AllReadyH.cons (o := lv71) rfl (fun K hK => ?_) (AllReadyH.cons (o := lv75) rfl (fun K hK => ?_) (AllReadyH.cons (o := lv79) rfl (fun K hK => ?_) AllReadyH.nil))
 ·refine wp_b1 HH _ rfl p rfl (fun t1 w2 hbb SN A1 htb => ?_)
  replace A2 := kRg A2 hbb
  replace A4 := kRg A4 hbb
  replace HH := SN
  clear SN hbb htb
  unfold lv71
  simp only [Act.put, sA, sB, sC]
  refine hK.out _ _ HH.out (fun hH => ?_); clear hK K
  exact lv7_df H0 t1 t2 t4 w2 _ (by kernel_rfl) A1 A2 A4 HH HQ
 ·refine wp_b1 HH _ rfl u rfl (fun t3 w2 hbb SN A3 htb => ?_)
  replace A2 := kRg A2 hbb
  replace A4 := kRg A4 hbb
  replace HH := SN
  clear SN hbb htb
  unfold lv75
  simp only [Act.put, sA, sB, sC]
  refine hK.out _ _ HH.out (fun hH => ?_); clear hK K
  exact lv7_fd H0 t2 t3 t4 w2 _ (by kernel_rfl) A2 A3 A4 HH HQ
 ·refine wp_a1 HH rfl (fun rb w2 hbb SN TH RB htb => ?_)
  have N2 := nRG A2 htb
  have N4 := nRG A4 htb
  replace A2 := kRg A2 hbb
  replace A4 := kRg A4 hbb
  replace HH := SN
  clear SN hbb htb
  unfold lv79
  simp only [Act.put, sA, sB, sC]
  refine hK.out _ _ HH.out (fun hH => ?_); clear hK K
  exact lv7_2dd H0 t2 t4 rb w2 _ (by kernel_rfl) A2 N2 A4 N4 TH RB HH HQ
theorem lv7_d7 (H : lv7h x5 x6 p q u W) (t1 : Nat) (t4 : Nat) (w : World) (listed : Array Bool) (hl : listed = #[true, true, true, false, true, false, true, true, false, false, false]) (A1 : Hid (Rg w t1 p)) (A4 : Hid (Rg w t4 p)) (HH : Hid (Below W.heap.size W w)) (HQ : Hid (lv7f Q x5 x6 p q u U W)) : lv7G Q x5 x6 p q u W 5 listed (lv7S U x5 x6 p q u t1 0 0 t4 0 true false true false true false false) w := by
 subst hl
 have H0 := H
 obtain ⟨x50, x51, x52, x53, x60, x61, x62, x63, C1⟩ := H
 simp only [lv7G, lv7S, cond_true, cond_false]
 refine wpAnyH_ready (rs := [3, 5, 9]) (by kernel_rfl) (by simp) ?_
 refine AllReadyH.cons (o := lv73) rfl (fun K hK => ?_) (AllReadyH.cons (o := lv75) rfl (fun K hK => ?_) (AllReadyH.cons (o := lv79) rfl (fun K hK => ?_) AllReadyH.nil))
 ·refine wp_b1 HH _ rfl q rfl (fun t2 w2 hbb SN A2 htb => ?_)
  replace A1 := kRg A1 hbb
  replace A4 := kRg A4 hbb
  replace HH := SN
  clear SN hbb htb
  unfold lv73
  simp only [Act.put, sA, sB, sC]
  refine hK.out _ _ HH.out (fun hH => ?_); clear hK K
  exact lv7_df H0 t1 t2 t4 w2 _ (by kernel_rfl) A1 A2 A4 HH HQ
 ·refine wp_b1 HH _ rfl u rfl (fun t3 w2 hbb SN A3 htb => ?_)
  replace A1 := kRg A1 hbb
  replace A4 := kRg A4 hbb
  replace HH := SN
  clear SN hbb htb
  unfold lv75
  simp only [Act.put, sA, sB, sC]
  refine hK.out _ _ HH.out (fun hH => ?_); clear hK K
  exact lv7_f7 H0 t1 t3 t4 w2 _ (by kernel_rfl) A1 A3 A4 HH HQ
 ·refine wp_a1 HH rfl (fun rb w2 hbb SN TH RB htb => ?_)
  have N1 := nRG A1 htb
  have N4 := nRG A4 htb
  replace A1 := kRg A1 hbb
  replace A4 := kRg A4 hbb
  replace HH := SN
  clear SN hbb htb
  unfold lv79
  simp only [Act.put, sA, sB, sC]
  refine hK.out _ _ HH.out (fun hH => ?_); clear hK K
  exact lv7_2d7 H0 t1 t4 rb w2 _ (by kernel_rfl) A1 N1 A4 N4 TH RB HH HQ
theorem lv7_cf (H : lv7h x5 x6 p q u W) (t1 : Nat) (t2 : Nat) (t4 : Nat) (w : World) (listed : Array Bool) (hl : listed = #[true, true, true, true, false, false, true, true, false, false, false]) (A1 : Hid (Rg w t1 p)) (A2 : Hid (Rg w t2 q)) (A4 : Hid (Rg w t4 p)) (HH : Hid (Below W.heap.size W w)) (HQ : Hid (lv7f Q x5 x6 p q u U W)) : lv7G Q x5 x6 p q u W 5 listed (lv7S U x5 x6 p q u t1 t2 0 t4 0 true true false false true false false) w := by
 subst hl
 have H0 := H
 obtain ⟨x50, x51, x52, x53, x60, x61, x62, x63, C1⟩ := H
 simp only [lv7G, lv7S, cond_true, cond_false]
 refine wpAnyH_ready (rs := [4, 9]) (by kernel_rfl) (by simp) ?_
 refine AllReadyH.cons (o := lv74) rfl (fun K hK => ?_) (AllReadyH.cons (o := lv79) rfl (fun K hK => ?_) AllReadyH.nil)
 ·unfold lv74
  go_simp
  refine (C1.out _).mono ?_
  rintro e w2 ⟨rfl, hb⟩
  have SN := hidden (bl_trans HH.out hb : Below W.heap.size W w2)
  replace A1 := kRg A1 hb
  replace A2 := kRg A2 hb
  replace A4 := kRg A4 hb
  replace HH := SN
  clear SN  hb
  go_wp2_with fail
  refine hK.out _ _ HH.out (fun hH => ?_); clear hK K
  exact lv7_df H0 t1 t2 t4 w2 _ (by kernel_rfl) A1 A2 A4 HH HQ
 ·refine wp_a1 HH rfl (fun rb w2 hbb SN TH RB htb => ?_)
  have N1 := nRG A1 htb
  have N2 := nRG A2 htb
  have N4 := nRG A4 htb
  replace A1 := kRg A1 hbb
  replace A2 := kRg A2 hbb
  replace A4 := kRg A4 hbb
  replace HH := SN
  clear SN hbb htb
  unfold lv79
  simp only [Act.put, sA, sB, sC]
  refine hK.out _ _ HH.out (fun hH => ?_); clear hK K
  exact lv7_2cf H0 t1 t2 t4 rb w2 _ (by kernel_rfl) A1 N1 A2 N2 A4 N4 TH RB HH HQ
theorem lv7_7d (H : lv7h x5 x6 p q u W) (t2 : Nat) (t3 : Nat) (w : World) (listed : Array Bool) (hl : listed = #[true, false, true, true, true, true, true, false, false, false, false]) (A2 : Hid (Rg w t2 q)) (A3 : Hid (Rg w t3 u)) (HH : Hid (Below W.heap.size W w)) (HQ : Hid (lv7f Q x5 x6 p q u U W)) : lv7G Q x5 x6 p q u W 5 listed (lv7S U x5 x6 p q u 0 t2 t3 0 0 false true true true false false false) w := by
 subst hl
 have H0 := H
 obtain ⟨x50, x51, x52, x53, x60, x61, x62, x63, C1⟩ := H
 simp only [lv7G, lv7S, cond_true, cond_false]
 refine wpAnyH_ready (rs := [1, 7, 9]) (by kernel_rfl) (by simp) ?_
 refine AllReadyH.cons (o := lv71) rfl (fun K hK => ?_) (AllReadyH.cons (o := lv77) rfl (fun K hK => ?_) (AllReadyH.cons (o := lv79) rfl (fun K hK => ?_) AllReadyH.nil))
 ·refine wp_b1 HH _ rfl p rfl (fun t1 w2 hbb SN A1 htb => ?_)
  replace A2 := kRg A2 hbb
  replace A3 := kRg A3 hbb
  replace HH := SN
  clear SN hbb htb
  unfold lv71
  simp only [Act.put, sA, sB, sC]
  refine hK.out _ _ HH.out (fun hH => ?_); clear hK K
  exact lv7_7f H0 t1 t2 t3 w2 _ (by kernel_rfl) A1 A2 A3 HH HQ
 ·refine wp_b1 HH _ rfl p rfl (fun t4 w2 hbb SN A4 htb => ?_)
  replace A2 := kRg A2 hbb
  replace A3 := kRg A3 hbb
  replace HH := SN
  clear SN hbb htb
  unfold lv77
  simp only [Act.put, sA, sB, sC]
  refine hK.out _ _ HH.out (fun hH => ?_); clear hK K
  exact lv7_fd H0 t2 t3 t4 w2 _ (by kernel_rfl) A2 A3 A4 HH HQ
 ·refine wp_a1 HH rfl (fun rb w2 hbb SN TH RB htb => ?_)
  have N2 := nRG A2 htb
  have N3 := nRG A3 htb
  replace A2 := kRg A2 hbb
  replace A3 := kRg A3 hbb
  replace HH := SN
  clear SN hbb htb
  unfold lv79
  simp only [Act.put, sA, sB, sC]
  refine hK.out _ _ HH.out (fun hH => ?_); clear hK K
  exact lv7_27d H0 t2 t3 rb w2 _ (by kernel_rfl) A2 N2 A3 N3 TH RB HH HQ
theorem lv7_77 (H : lv7h x5 x6 p q u W) (t1 : Nat) (t3 : Nat) (w : World) (listed : Array Bool) (hl : listed = #[true, true, true, false, true, true, true, false, false, false, false]) (A1 : Hid (Rg w t1 p)) (A3 : Hid (Rg w t3 u)) (HH : Hid (Below W.heap.size W w)) (HQ : Hid (lv7f Q x5 x6 p q u U W)) : lv7G Q x5 x6 p q u W 5 listed (lv7S U x5 x6 p q u t1 0 t3 0 0 true false true true false false false) w := by
 subst hl
 have H0 := H
 obtain ⟨x50, x51, x52, x53, x60, x61, x62, x63, C1⟩ := H
 simp only [lv7G, lv7S, cond_true, cond_false]
 refine wpAnyH_ready (rs := [3, 7, 9]) (by kernel_rfl) (by simp) ?_
 refine AllReadyH.cons (o := lv73) rfl (fun K hK => ?_) (AllReadyH.cons (o := lv77) rfl (fun K hK => ?_) (AllReadyH.cons (o := lv79) rfl (fun K hK => ?_) AllReadyH.nil))
 ·refine wp_b1 HH _ rfl q rfl (fun t2 w2 hbb SN A2 htb => ?_)
  replace A1 := kRg A1 hbb
  replace A3 := kRg A3 hbb
  replace HH := SN
  clear SN hbb htb
  unfold lv73
  simp only [Act.put, sA, sB, sC]
  refine hK.out _ _ HH.out (fun hH => ?_); clear hK K
  exact lv7_7f H0 t1 t2 t3 w2 _ (by kernel_rfl) A1 A2 A3 HH HQ
 ·refine wp_b1 HH _ rfl p rfl (fun t4 w2 hbb SN A4 htb => ?_)
  replace A1 := kRg A1 hbb
  replace A3 := kRg A3 hbb
  replace HH := SN
  clear SN hbb htb
  unfold lv77
  simp only [Act.put, sA, sB, sC]
  refine hK.out _ _ HH.out (fun hH => ?_); clear hK K
  exact lv7_f7 H0 t1 t3 t4 w2 _ (by kernel_rfl) A1 A3 A4 HH HQ
 ·refine wp_a1 HH rfl (fun rb w2 hbb SN TH RB htb => ?_)
  have N1 := nRG A1 htb
  have N3 := nRG A3 htb
  replace A1 := kRg A1 hbb
  replace A3 := kRg A3 hbb
  replace HH := SN
  clear SN hbb htb
  unfold lv79
  simp only [Act.put, sA, sB, sC]
  refine hK.out _ _ HH.out (fun hH => ?_); clear hK K
  exact lv7_277 H0 t1 t3 rb w2 _ (by kernel_rfl) A1 N1 A3 N3 TH RB HH HQ
theorem lv7_5f (H : lv7h x5 x6 p q u W) (t1 : Nat) (t2 : Nat) (w : World) (listed : Array Bool) (hl : listed = #[true, true, true, true, true, false, true, false, false, false, false]) (A1 : Hid (Rg w t1 p)) (A2 : Hid (Rg w t2 q)) (HH : Hid (Below W.heap.size W w)) (HQ : Hid (lv7f Q x5 x6 p q u U W)) : lv7G Q x5 x6 p q u W 5 listed (lv7S U x5 x6 p q u t1 t2 0 0 0 true true true false false false false) w := by
 subst hl
 have H0 := H
 obtain ⟨x50, x51, x52, x53, x60, x61, x62, x63, C1⟩ := H
 simp only [lv7G, lv7S, cond_true, cond_false]
 refine wpAnyH_ready (rs := [5, 7, 9]) (by kernel_rfl) (by simp) ?_
 refine AllReadyH.cons (o := lv75) rfl (fun K hK => ?_) (AllReadyH.cons (o := lv77) rfl (fun K hK => ?_) (AllReadyH.cons (o := lv79) rfl (fun K hK => ?_) AllReadyH.nil))
 ·refine wp_b1 HH _ rfl u rfl (fun t3 w2 hbb SN A3 htb => ?_)
  replace A1 := kRg A1 hbb
  replace A2 := kRg A2 hbb
  replace HH := SN
  clear SN hbb htb
  unfold lv75
  simp only [Act.put, sA, sB, sC]
  refine hK.out _ _ HH.out (fun hH => ?_); clear hK K
  exact lv7_7f H0 t1 t2 t3 w2 _ (by kernel_rfl) A1 A2 A3 HH HQ
 ·refine wp_b1 HH _ rfl p rfl (fun t4 w2 hbb SN A4 htb => ?_)
  replace A1 := kRg A1 hbb
  replace A2 := kRg A2 hbb
  replace HH := SN
  clear SN hbb htb
  unfold lv77
  simp only [Act.put, sA, sB, sC]
  refine hK.out _ _ HH.out (fun hH => ?_); clear hK K
  exact lv7_df H0 t1 t2 t4 w2 _ (by kernel_rfl) A1 A2 A4 HH HQ
 ·refine wp_a1 HH rfl (fun rb w2 hbb SN TH RB htb => ?_)
  have N1 := nRG A1 htb
  have N2 := nRG A2 htb
  replace A1 := kRg A1 hbb
  replace A2 := kRg A2 hbb
  replace HH := SN
  clear SN hbb htb
  unfold lv79
  simp only [Act.put, sA, sB, sC]
  refine hK.out _ _ HH.out (fun hH => ?_); clear hK K
  exact lv7_25f H0 t1 t2 rb w2 _ (by kernel_rfl) A1 N1 A2 N2 TH RB HH HQ
theorem lv7_2c5 (H : lv7h x5 x6 p q u W) (t4 : Nat) (rb : Nat) (w : World) (listed : Array Bool) (hl : listed = #[true, false, true, false, false, false, true, true, false, true, false]) (A4 : Hid (Rg w t4 p)) (N4 : Hid (t4 ≠ rb)) (TH : Hid (w.there rb 0 4)) (RB : Hid (W.heap.size ≤ rb)) (HH : Hid (Below W.heap.size W w)) (HQ : Hid (lv7f Q x5 x6 p q u U W)) : lv7G Q x5 x6 p q u W 6 listed (lv7S U x5 x6 p q u 0 0 0 t4 rb false false false false true false true) w := by
 subst hl
 have H0 := H
 obtain ⟨x50, x51, x52, x53, x60, x61, x62, x63, C1⟩ := H
 simp only [lv7G, lv7S, cond_true, cond_false]
 refine wpAnyH_ready (rs := [1, 3, 4]) (by kernel_rfl) (by simp) ?_
 refine AllReadyH.cons (o := lv71) rfl (fun K hK => ?_) (AllReadyH.cons (o := lv73) rfl (fun K hK => ?_) (AllReadyH.cons (o := lv74) rfl (fun K hK => ?_) AllReadyH.nil))
 ·refine wp_b1 HH _ rfl p rfl (fun t1 w2 hbb SN A1 htb => ?_)
  have N1 := nTH TH htb
  replace A4 := kRg A4 hbb
  replace TH := kTH TH hbb
  replace HH := SN
  clear SN hbb htb
  unfold lv71
  simp only [Act.put, sA, sB, sC]
  refine hK.out _ _ HH.out (fun hH => ?_); clear hK K
  exact lv7_2c7 H0 t1 t4 rb w2 _ (by kernel_rfl) A1 N1 A4 N4 TH RB HH HQ
 ·refine wp_b1 HH _ rfl q rfl (fun t2 w2 hbb SN A2 htb => ?_)
  have N2 := nTH TH htb
  replace A4 := kRg A4 hbb
  replace TH := kTH TH hbb
  replace HH := SN
  clear SN hbb htb
  unfold lv73
  simp only [Act.put, sA, sB, sC]
  refine hK.out _ _ HH.out (fun hH => ?_); clear hK K
  exact lv7_2cd H0 t2 t4 rb w2 _ (by kernel_rfl) A2 N2 A4 N4 TH RB HH HQ
 ·unfold lv74
  go_simp
  refine (C1.out _).mono ?_
  rintro e w2 ⟨rfl, hb⟩
  have SN := hidden (bl_trans HH.out hb : Below W.heap.size W w2)
  replace A4 := kRg A4 hb
  replace TH := kTH TH hb
  replace HH := SN
  clear SN  hb
  go_wp2_with fail
  refine hK.out _ _ HH.out (fun hH => ?_); clear hK K
  exact lv7_2d5 H0 t4 rb w2 _ (by kernel_rfl) A4 N4 TH RB HH HQ
theorem lv7_255 (H : lv7h x5 x6 p q u W) (rb : Nat) (w : World) (listed : Array Bool) (hl : listed = #[true, false, true, false, true, false, true, false, false, true, false]) (TH : Hid (w.there rb 0 4)) (RB : Hid (W.heap.size ≤ rb)) (HH : Hid (Below W.heap.size W w)) (HQ : Hid (lv7f Q x5 x6 p q u U W)) : lv7G Q x5 x6 p q u W 6 listed (lv7S U x5 x6 p q u 0 0 0 0 rb false false true false false false true) w := by
 subst hl
 have H0 := H
 obtain ⟨x50, x51, x52, x53, x60, x61, x62, x63, C1⟩ := H
 simp only [lv7G, lv7S, cond_true, cond_false]
 refine wpAnyH_ready (rs := [1, 3, 5, 7]) (by kernel_rfl) (by simp) ?_
 refine AllReadyH.cons (o := lv71) rfl (fun K hK => ?_) (AllReadyH.cons (o := lv73) rfl (fun K hK => ?_) (AllReadyH.cons (o := lv75) rfl (fun K hK => ?_) (AllReadyH.cons (o := lv77) rfl (fun K hK => ?_) AllReadyH.nil)))
 ·refine wp_b1 HH _ rfl p rfl (fun t1 w2 hbb SN A1 htb => ?_)
  have N1 := nTH TH htb
  replace TH := kTH TH hbb
  replace HH := SN
  clear SN hbb htb
  unfold lv71
  simp only [Act.put, sA, sB, sC]
  refine hK.out _ _ HH.out (fun hH => ?_); clear hK K
  exact lv7_257 H0 t1 rb w2 _ (by kernel_rfl) A1 N1 TH RB HH HQ
 ·refine wp_b1 HH _ rfl q rfl (fun t2 w2 hbb SN A2 htb => ?_)
  have N2 := nTH TH htb
  replace TH := kTH TH hbb
  replace HH := SN
  clear SN hbb htb
  unfold lv73
  simp only [Act.put, sA, sB, sC]
  refine hK.out _ _ HH.out (fun hH => ?_); clear hK K
  exact lv7_25d H0 t2 rb w2 _ (by kernel_rfl) A2 N2 TH RB HH HQ
 ·refine wp_b1 HH _ rfl u rfl (fun t3 w2 hbb SN A3 htb => ?_)
  have N3 := nTH TH htb
  replace TH := kTH TH hbb
  replace HH := SN
  clear SN hbb htb
  unfold lv75
  simp only [Act.put, sA, sB, sC]
  refine hK.out _ _ HH.out (fun hH => ?_); clear hK K
  exact lv7_275 H0 t3 rb w2 _ (by kernel_rfl) A3 N3 TH RB HH HQ
 ·refine wp_b1 HH _ rfl p rfl (fun t4 w2 hbb SN A4 htb => ?_)
  have N4 := nTH TH htb
  replace TH := kTH TH hbb
  replace HH := SN
  clear SN hbb htb
  unfold lv77
  simp only [Act.put, sA, sB, sC]
  refine hK.out _ _ HH.out (fun hH => ?_); clear hK K
  exact lv7_2d5 H0 t4 rb w2 _ (by kernel_rfl) A4 N4 TH RB HH HQ
theorem lv7_24d (H : lv7h x5 x6 p q u W) (t2 : Nat) (rb : Nat) (w : World) (listed : Array Bool) (hl : listed = #[true, false, true, true, false, false, true, false, false, true, false]) (A2 : Hid (Rg w t2 q)) (N2 : Hid (t2 ≠ rb)) (TH : Hid (w.there rb 0 4)) (RB : Hid (W.heap.size ≤ rb)) (HH : Hid (Below W.heap.size W w)) (HQ : Hid (lv7f Q x5 x6 p q u U W)) : lv7G Q x5 x6 p q u W 6 listed (lv7S U x5 x6 p q u 0 t2 0 0 rb false true false false false false true) w := by
 subst hl
 have H0 := H
 obtain ⟨x50, x51, x52, x53, x60, x61, x62, x63, C1⟩ := H
 simp only [lv7G, lv7S, cond_true, cond_false]
 refine wpAnyH_ready (rs := [1, 4, 7]) (by kernel_rfl) (by simp) ?_
 refine AllReadyH.cons (o := lv71) rfl (fun K hK => ?_) (AllReadyH.cons (o := lv74) rfl (fun K hK => ?_) (AllReadyH.cons (o := lv77) rfl (fun K hK => ?_) AllReadyH.nil))
 ·refine wp_b1 HH _ rfl p rfl (fun t1 w2 hbb SN A1 htb => ?_)
  have N1 := nTH TH htb
  replace A2 := kRg A2 hbb
  replace TH := kTH TH hbb
  replace HH := SN
  clear SN hbb htb
  unfold lv71
  simp only [Act.put, sA, sB, sC]
  refine hK.out _ _ HH.out (fun hH => ?_); clear hK K
  exact lv7_24f H0 t1 t2 rb w2 _ (by kernel_rfl) A1 N1 A2 N2 TH RB HH HQ
 ·unfold lv74
  go_simp
  refine (C1.out _).mono ?_
  rintro e w2 ⟨rfl, hb⟩
  have SN := hidden (bl_trans HH.out hb : Below W.heap.size W w2)
  replace A2 := kRg A2 hb
  replace TH := kTH TH hb
  replace HH := SN
  clear SN  hb
  go_wp2_with fail
  refine hK.out _ _ HH.out (fun hH => ?_); clear hK K
  exact lv7_25d H0 t2 rb w2 _ (by kernel_rfl) A2 N2 TH RB HH HQ
 ·refine wp_b1 HH _ rfl p rfl (fun t4 w2 hbb SN A4 htb => ?_)
  have N4 := nTH TH htb
  replace A2 := kRg A2 hbb
  replace TH := kTH TH hbb
  replace HH := SN
  clear SN hbb htb
  unfold lv77
  simp only [Act.put, sA, sB, sC]
  refine hK.out _ _ HH.out (fun hH => ?_); clear hK K
  exact lv7_2cd H0 t2 t4 rb w2 _ (by kernel_rfl) A2 N2 A4 N4 TH RB HH HQ
theorem lv7_247 (H : lv7h x5 x6 p q u W) (t1 : Nat) (rb : Nat) (w : World) (listed : Array Bool) (hl : listed = #[true, true, true, false, false, false, true, false, false, true, false]) (A1 : Hid (Rg w t1 p)) (N1 : Hid (t1 ≠ rb)) (TH : Hid (w.there rb 0 4)) (RB : Hid (W.heap.size ≤ rb)) (HH : Hid (Below W.heap.size W w)) (HQ : Hid (lv7f Q x5 x6 p q u U W)) : lv7G Q x5 x6 p q u W 6 listed (lv7S U x5 x6 p q u t1 0 0 0 rb true false false false false false true) w := by
 subst hl
 have H0 := H
 obtain ⟨x50, x51, x52, x53, x60, x61, x62, x63, C1⟩ := H
 simp only [lv7G, lv7S, cond_true, cond_false]
 refine wpAnyH_ready (rs := [3, 4, 7]) (by kernel_rfl) (by simp) ?_
 refine AllReadyH.cons (o := lv73) rfl (fun K hK => ?_) (AllReadyH.cons (o := lv74) rfl (fun K hK => ?_) (AllReadyH.cons (o := lv77) rfl (fun K hK => ?_) AllReadyH.nil))
 ·refine wp_b1 HH _ rfl q rfl (fun t2 w2 hbb SN A2 htb => ?_)
  have N2 := nTH TH htb
  replace A1 := kRg A1 hbb
  replace TH := kTH TH hbb
  replace HH := SN
  clear SN hbb htb
  unfold lv73
  simp only [Act.put, sA, sB, sC]
  refine hK.out _ _ HH.out (fun hH => ?_); clear hK K
  exact lv7_24f H0 t1 t2 rb w2 _ (by kernel_rfl) A1 N1 A2 N2 TH RB HH HQ
 ·unfold lv74
  go_simp
  refine (C1.out _).mono ?_
  rintro e w2 ⟨rfl, hb⟩
  have SN := hidden (bl_trans HH.out hb : Below W.heap.size W w2)
  replace A1 := kRg A1 hb
  replace TH := kTH TH hb
  replace HH := SN
  clear SN  hb
  go_wp2_with fail
  refine hK.out _ _ HH.out (fun hH => ?_); clear hK K
  exact lv7_257 H0 t1 rb w2 _ (by kernel_rfl) A1 N1 TH RB HH HQ
 ·refine wp_b1 HH _ rfl p rfl (fun t4 w2 hbb SN A4 htb => ?_)
  have N4 := nTH TH htb
  replace A1 := kRg A1 hbb
  replace TH := kTH TH hbb
  replace HH := SN
  clear SN hbb htb
  unfold lv77
  simp only [Act.put, sA, sB, sC]
  refine hK.out _ _ HH.out (fun hH => ?_); clear hK K
  exact lv7_2c7 H0 t1 t4 rb w2 _ (by kernel_rfl) A1 N1 A4 N4 TH RB HH HQ
theorem lv7_d5 (H : lv7h x5 x6 p q u W) (t4 : Nat) (w : World) (listed : Array Bool) (hl : listed = #[true, false, true, false, true, false, true, true, false, false, false]) (A4 : Hid (Rg w t4 p)) (HH : Hid (Below W.heap.size W w)) (HQ : Hid (lv7f Q x5 x6 p q u U W)) : lv7G Q x5 x6 p q u W 6 listed (lv7S U x5 x6 p q u 0 0 0 t4 0 false false true false true false false) w := by
 subst hl
 have H0 := H
 obtain ⟨x50, x51, x52, x53, x60, x61, x62, x63, C1⟩ := H
 simp only [lv7G, lv7S, cond_true, cond_false]
 refine wpAnyH_ready (rs := [1, 3, 5, 9]) (by kernel_rfl) (by simp) ?_
 refine AllReadyH.cons (o := lv71) rfl (fun K hK => ?_) (AllReadyH.cons (o := lv73) rfl (fun K hK => ?_) (AllReadyH.cons (o := lv75) rfl (fun K hK => ?_) (AllReadyH.cons (o := lv79) rfl (fun K hK => ?_) AllReadyH.nil)))
 ·refine wp_b1 HH _ rfl p rfl (fun t1 w2 hbb SN A1 htb => ?_)
  replace A4 := kRg A4 hbb
  replace HH := SN
  clear SN hbb htb
  unfold lv71
  simp only [Act.put, sA, sB, sC]
  refine hK.out _ _ HH.out (fun hH => ?_); clear hK K
  exact lv7_d7 H0 t1 t4 w2 _ (by kernel_rfl) A1 A4 HH HQ
 ·refine wp_b1 HH _ rfl q rfl (fun t2 w2 hbb SN A2 htb => ?_)
  replace A4 := kRg A4 hbb
  replace HH := SN
  clear SN hbb htb
  unfold lv73
  simp only [Act.put, sA, sB, sC]
  refine hK.out _ _ HH.out (fun hH => ?_); clear hK K
  exact lv7_dd H0 t2 t4 w2 _ (by kernel_rfl) A2 A4 HH HQ
 ·refine wp_b1 HH _ rfl u rfl (fun t3 w2 hbb SN A3 htb => ?_)
  replace A4 := kRg A4 hbb
  replace HH := SN
  clear SN hbb htb
  unfold lv75
  simp only [Act.put, sA, sB, sC]
  refine hK.out _ _ HH.out (fun hH => ?_); clear hK K
  exact lv7_f5 H0 t3 t4 w2 _ (by kernel_rfl) A3 A4 HH HQ
 ·refine wp_a1 HH rfl (fun rb w2 hbb SN TH RB htb => ?_)
  have N4 := nRG A4 htb
  replace A4 := kRg A4 hbb
  replace HH := SN
  clear SN hbb htb
  unfold lv79
  simp only [Act.put, sA, sB, sC]
  refine hK.out _ _ HH.out (fun hH => ?_); clear hK K
  exact lv7_2d5 H0 t4 rb w2 _ (by kernel_rfl) A4 N4 TH RB HH HQ
theorem lv7_cd (H : lv7h x5 x6 p q u W) (t2 : Nat) (t4 : Nat) (w : World) (listed : Array Bool) (hl : listed = #[true, false, true, true, false, false, true, true, false, false, false]) (A2 : Hid (Rg w t2 q)) (A4 : Hid (Rg w t4 p)) (HH : Hid (Below W.heap.size W w)) (HQ : Hid (lv7f Q x5 x6 p q u U W)) : lv7G Q x5 x6 p q u W 6 listed (lv7S U x5 x6 p q u 0 t2 0 t4 0 false true false false true false false) w := by
 subst hl
 have H0 := H
 obtain ⟨x50, x51, x52, x53, x60, x61, x62, x63, C1⟩ := H
 simp only [lv7G, lv7S, cond_true, cond_false]
 refine wpAnyH_ready (rs := [1, 4, 9]) (by kernel_rfl) (by simp) ?_
 refine AllReadyH.cons (o := lv71) rfl (fun K hK => ?_) (AllReadyH.cons (o := lv74) rfl (fun K hK => ?_) (AllReadyH.cons (o := lv79) rfl (fun K hK => ?_) AllReadyH.nil))
 ·refine wp_b1 HH _ rfl p rfl (fun t1 w2 hbb SN A1 htb => ?_)
  replace A2 := kRg A2 hbb
  replace A4 := kRg A4 hbb
  replace HH := SN
  clear SN hbb htb
  unfold lv71
  simp only [Act.put, sA, sB, sC]
  refine hK.out _ _ HH.out (fun hH => ?_); clear hK K
  exact lv7_cf H0 t1 t2 t4 w2 _ (by kernel_rfl) A1 A2 A4 HH HQ
 ·unfold lv74
  go_simp
  refine (C1.out _).mono ?_
  rintro e w2 ⟨rfl, hb⟩
  have SN := hidden (bl_trans HH.out hb : Below W.heap.size W w2)
  replace A2 := kRg A2 hb
  replace A4 := kRg A4 hb
  replace HH := SN
  clear SN  hb
  go_wp2_with fail
  refine hK.out _ _ HH.out (fun hH => ?_); clear hK K
  exact lv7_dd H0 t2 t4 w2 _ (by kernel_rfl) A2 A4 HH HQ
 ·refine wp_a1 HH rfl (fun rb w2 hbb SN TH RB htb => ?_)
  have N2 := nRG A2 htb
  have N4 := nRG A4 htb
  replace A2 := kRg A2 hbb
  replace A4 := kRg A4 hbb
  replace HH := SN
  clear SN hbb htb
  unfold lv79
  simp only [Act.put, sA, sB, sC]
  refine hK.out _ _ HH.out (fun hH => ?_); clear hK K
  exact lv7_2cd H0 t2 t4 rb w2 _ (by kernel_rfl) A2 N2 A4 N4 TH RB HH HQ
theorem lv7_c7 (H : lv7h x5 x6 p q u W) (t1 : Nat) (t4 : Nat) (w : World) (listed : Array Bool) (hl : listed = #[true, true, true, false, false, false, true, true, false, false, false]) (A1 : Hid (Rg w t1 p)) (A4 : Hid (Rg w t4 p)) (HH : Hid (Below W.heap.size W w)) (HQ : Hid (lv7f Q x5 x6 p q u U W)) : lv7G Q x5 x6 p q u W 6 listed (lv7S U x5 x6 p q u t1 0 0 t4 0 true false false false true false false) w := by
 subst hl
 have H0 := H
 obtain ⟨x50, x51, x52, x53, x60, x61, x62, x63, C1⟩ := H
 simp only [lv7G, lv7S, cond_true, cond_false]
 refine wpAnyH_ready (rs := [3, 4, 9]) (by kernel_rfl) (by simp) ?_
 refine AllReadyH.cons (o := lv73) rfl (fun K hK => ?_) (AllReadyH.cons (o := lv74) rfl (fun K hK => ?_) (AllReadyH.cons (o := lv79) rfl (fun K hK => ?_) AllReadyH.nil))
 ·refine wp_b1 HH _ rfl q rfl (fun t2 w2 hbb SN A2 htb => ?_)
  replace A1 := kRg A1 hbb
  replace A4 := kRg A4 hbb
  replace HH := SN
  clear SN hbb htb
  unfold lv73
  simp only [Act.put, sA, sB, sC]
  refine hK.out _ _ HH.out (fun hH => ?_); clear hK K
  exact lv7_cf H0 t1 t2 t4 w2 _ (by kernel_rfl) A1 A2 A4 HH HQ
 ·unfold lv74
  go_simp
  refine (C1.out _).mono ?_
  rintro e w2 ⟨rfl, hb⟩
  have SN := hidden (bl_trans HH.out hb : Below W.heap.size W w2)
  replace A1 := kRg A1 hb
  replace A4 := kRg A4 hb
  replace HH := SN
  clear SN  hb
  go_wp2_with fail
  refine hK.out _ _ HH.out (fun hH => ?_); clear hK K
  exact lv7_d7 H0 t1 t4 w2 _ (by kernel_rfl) A1 A4 HH HQ
 ·refine wp_a1 HH rfl (fun rb w2 hbb SN TH RB htb => ?_)
  have N1 := nRG A1 htb
  have N4 := nRG A4 htb
  replace A1 := kRg A1 hbb
  replace A4 := kRg A4 hbb
  replace HH := SN
  clear SN hbb htb
  unfold lv79
  simp only [Act.put, sA, sB, sC]
  refine hK.out _ _ HH.out (fun hH => ?_); clear hK K
  exact lv7_2c7 H0 t1 t4 rb w2 _ (by kernel_rfl) A1 N1 A4 N4 TH RB HH HQ
theorem lv7_75 (H : lv7h x5 x6 p q u W) (t3 : Nat) (w : World) (listed : Array Bool) (hl : listed = #[true, false, true, false, true, true, true, false, false, false, false]) (A3 : Hid (Rg w t3 u)) (HH : Hid (Below W.heap.size W w)) (HQ : Hid (lv7f Q x5 x6 p q u U W)) : lv7G Q x5 x6 p q u W 6 listed (lv7S U x5 x6 p q u 0 0 t3 0 0 false false true true false false false) w := by
 subst hl
 have H0 := H
 obtain ⟨x50, x51, x52, x53, x60, x61, x62, x63, C1⟩ := H
 simp only [lv7G, lv7S, cond_true, cond_false]
 refine wpAnyH_ready (rs := [1, 3, 7, 9]) (by kernel_rfl) (by simp) ?_
 refine AllReadyH.cons (o := lv71) rfl (fun K hK => ?_) (AllReadyH.cons (o := lv73) rfl (fun K hK => ?_) (AllReadyH.cons (o := lv77) rfl (fun K hK => ?_) (AllReadyH.cons (o := lv79) rfl (fun K hK => ?_) AllReadyH.nil)))
 ·refine wp_b1 HH _ rfl p rfl (fun t1 w2 hbb SN A1 htb => ?_)
  replace A3 := kRg A3 hbb
  replace HH := SN
  clear SN hbb htb
  unfold lv71
  simp only [Act.put, sA, sB, sC]
  refine hK.out _ _ HH.out (fun hH => ?_); clear hK K
  exact lv7_77 H0 t1 t3 w2 _ (by kernel_rfl) A1 A3 HH HQ
 ·refine wp_b1 HH _ rfl q rfl (fun t2 w2 hbb SN A2 htb => ?_)
  replace A3 := kRg A3 hbb
  replace HH := SN
  clear SN hbb htb
  unfold lv73
  simp only [Act.put, sA, sB, sC]
  refine hK.out _ _ HH.out (fun hH => ?_); clear hK K
  exact lv7_7d H0 t2 t3 w2 _ (by kernel_rfl) A2 A3 HH HQ
 ·refine wp_b1 HH _ rfl p rfl (fun t4 w2 hbb SN A4 htb => ?_)
  replace A3 := kRg A3 hbb
  replace HH := SN
  clear SN hbb htb
  unfold lv77
  simp only [Act.put, sA, sB, sC]
  refine hK.out _ _ HH.out (fun hH => ?_); clear hK K
  exact lv7_f5 H0 t3 t4 w2 _ (by kernel_rfl) A3 A4 HH HQ
 ·refine wp_a1 HH rfl (fun rb w2 hbb SN TH RB htb => ?_)
  have N3 := nRG A3 htb
  replace A3 := kRg A3 hbb
  replace HH := SN
  clear SN hbb htb
  unfold lv79
  simp only [Act.put, sA, sB, sC]
  refine hK.out _ _ HH.out (fun hH => ?_); clear hK K
  exact lv7_275 H0 t3 rb w2 _ (by kernel_rfl) A3 N3 TH RB HH HQ
theorem lv7_5d (H : lv7h x5 x6 p q u W) (t2 : Nat) (w : World) (listed : Array Bool) (hl : listed = #[true, false, true, true, true, false, true, false, false, false, false]) (A2 : Hid (Rg w t2 q)) (HH : Hid (Below W.heap.size W w)) (HQ : Hid (lv7f Q x5 x6 p q u U W)) : lv7G Q x5 x6 p q u W 6 listed (lv7S U x5 x6 p q u 0 t2 0 0 0 false true true false false false false) w := by
 subst hl
 have H0 := H
 obtain ⟨x50, x51, x52, x53, x60, x61, x62, x63, C1⟩ := H
 simp only [lv7G, lv7S, cond_true, cond_false]
 refine wpAnyH_ready (rs := [1, 5, 7, 9]) (by kernel_rfl) (by simp) ?_
 refine AllReadyH.cons (o := lv71) rfl (fun K hK => ?_) (AllReadyH.cons (o := lv75) rfl (fun K hK => ?_) (AllReadyH.cons (o := lv77) rfl (fun K hK => ?_) (AllReadyH.cons (o := lv79) rfl (fun K hK => ?_) AllReadyH.nil)))
 ·refine wp_b1 HH _ rfl p rfl (fun t1 w2 hbb SN A1 htb => ?_)
  replace A2 := kRg A2 hbb
  replace HH := SN
  clear SN hbb htb
  unfold lv71
  simp only [Act.put, sA, sB, sC]
  refine hK.out _ _ HH.out (fun hH => ?_); clear hK K
  exact lv7_5f H0 t1 t2 w2 _ (by kernel_rfl) A1 A2 HH HQ
 ·refine wp_b1 HH _ rfl u rfl (fun t3 w2 hbb SN A3 htb => ?_)
  replace A2 := kRg A2 hbb
  replace HH := SN
  clear SN hbb htb
  unfold lv75
  simp only [Act.put, sA, sB, sC]
  refine hK.out _ _ HH.out (fun hH => ?_); clear hK K
  exact lv7_7d H0 t2 t3 w2 _ (by kernel_rfl) A2 A3 HH HQ
 ·refine wp_b1 HH _ rfl p rfl (fun t4 w2 hbb SN A4 htb => ?_)
  replace A2 := kRg A2 hbb
  replace HH := SN
  clear SN hbb htb
  unfold lv77
  simp only [Act.put, sA, sB, sC]
  refine hK.out _ _ HH.out (fun hH => ?_); clear hK K
  exact lv7_dd H0 t2 t4 w2 _ (by kernel_rfl) A2 A4 HH HQ
 ·refine wp_a1 HH rfl (fun rb w2 hbb SN TH RB htb => ?_)
  have N2 := nRG A2 htb
  replace A2 := kRg A2 hbb
  replace HH := SN
  clear SN hbb htb
  unfold lv79
  simp only [Act.put, sA, sB, sC]
  refine hK.out _ _ HH.out (fun hH => ?_); clear hK K
  exact lv7_25d H0 t2 rb w2 _ (by kernel_rfl) A2 N2 TH RB HH HQ
theorem lv7_57 (H : lv7h x5 x6 p q u W) (t1 : Nat) (w : World) (listed : Array Bool) (hl : listed = #[true, true, true, false, true, false, true, false, false, false, false]) (A1 : Hid (Rg w t1 p)) (HH : Hid (Below W.heap.size W w)) (HQ : Hid (lv7f Q x5 x6 p q u U W)) : lv7G Q x5 x6 p q u W 6 listed (lv7S U x5 x6 p q u t1 0 0 0 0 true false true false false false false) w := by
 subst hl
 have H0 := H
 obtain ⟨x50, x51, x52, x53, x60, x61, x62, x63, C1⟩ := H
 simp only [lv7G, lv7S, cond_true, cond_false]
 refine wpAnyH_ready (rs := [3, 5, 7, 9]) (by kernel_rfl) (by simp) ?_
 refine AllReadyH.cons (o := lv73) rfl (fun K hK => ?_) (AllReadyH.cons (o := lv75) rfl (fun K hK => ?_) (AllReadyH.cons (o := lv77) rfl (fun K hK => ?_) (AllReadyH.cons (o := lv79) rfl (fun K hK => ?_) AllReadyH.nil)))
 ·refine wp_b1 HH _ rfl q rfl (fun t2 w2 hbb SN A2 htb => ?_)
  replace A1 := kRg A1 hbb
  replace HH := SN
  clear SN hbb htb
  unfold lv73
  simp only [Act.put, sA, sB, sC]
  refine hK.out _ _ HH.out (fun hH => ?_); clear hK K
  exact lv7_5f H0 t1 t2 w2 _ (by kernel_rfl) A1 A2 HH HQ
 ·refine wp_b1 HH _ rfl u rfl (fun t3 w2 hbb SN A3 htb => ?_)
  replace A1 := kRg A1 hbb
  replace HH := SN
  clear SN hbb htb
  unfold lv75
  simp only [Act.put, sA, sB, sC]
  refine hK.out _ _ HH.out (fun hH => ?_); clear hK K
  exact lv7_77 H0 t1 t3 w2 _ (by kernel_rfl) A1 A3 HH HQ
 ·refine wp_b1 HH _ rfl p rfl (fun t4 w2 hbb SN A4 htb => ?_)
  replace A1 := kRg A1 hbb
  replace HH := SN
  clear SN hbb htb
  unfold lv77
  simp only [Act.put, sA, sB, sC]
  refine hK.out _ _ HH.out (fun hH => ?_); clear hK K
  exact lv7_d7 H0 t1 t4 w2 _ (by kernel_rfl) A1 A4 HH HQ
 ·refine wp_a1 HH rfl (fun rb w2 hbb SN TH RB htb => ?_)
  have N1 := nRG A1 htb
  replace A1 := kRg A1 hbb
  replace HH := SN
  clear SN hbb htb
  unfold lv79
  simp only [Act.put, sA, sB, sC]
  refine hK.out _ _ HH.out (fun hH => ?_); clear hK K
  exact lv7_257 H0 t1 rb w2 _ (by kernel_rfl) A1 N1 TH RB HH HQ
theorem lv7_4f (H : lv7h x5 x6 p q u W) (t1 : Nat) (t2 : Nat) (w : World) (listed : Array Bool) (hl : listed = #[true, true, true, true, false, false, true, false, false, false, false]) (A1 : Hid (Rg w t1 p)) (A2 : Hid (Rg w t2 q)) (HH : Hid (Below W.heap.size W w)) (HQ : Hid (lv7f Q x5 x6 p q u U W)) : lv7G Q x5 x6 p q u W 6 listed (lv7S U x5 x6 p q u t1 t2 0 0 0 true true false false false false false) w := by
 subst hl
 have H0 := H
 obtain ⟨x50, x51, x52, x53, x60, x61, x62, x63, C1⟩ := H
 simp only [lv7G, lv7S, cond_true, cond_false]
 refine wpAnyH_ready (rs := [4, 7, 9]) (by kernel_rfl) (by simp) ?_
 refine AllReadyH.cons (o := lv74) rfl (fun K hK => ?_) (AllReadyH.cons (o := lv77) rfl (fun K hK => ?_) (AllReadyH.cons (o := lv79) rfl (fun K hK => ?_) AllReadyH.nil))
 ·unfold lv74
  go_simp
  refine (C1.out _).mono ?_
  rintro e w2 ⟨rfl, hb⟩
  have SN := hidden (bl_trans HH.out hb : Below W.heap.size W w2)
  replace A1 := kRg A1 hb
  replace A2 := kRg A2 hb
  replace HH := SN
  clear SN  hb
  go_wp2_with fail
  refine hK.out _ _ HH.out (fun hH => ?_); clear hK K
  exact lv7_5f H0 t1 t2 w2 _ (by kernel_rfl) A1 A2 HH HQ
 ·refine wp_b1 HH _ rfl p rfl (fun t4 w2 hbb SN A4 htb => ?_)
  replace A1 := kRg A1 hbb
  replace A2 := kRg A2 hbb
  replace HH := SN
  clear SN hbb htb
  unfold lv77
  simp only [Act.put, sA, sB, sC]
  refine hK.out _ _ HH.out (fun hH => ?_); clear hK K
  exact lv7_cf H0 t1 t2 t4 w2 _ (by kernel_rfl) A1 A2 A4 HH HQ
 ·refine wp_a1 HH rfl (fun rb w2 hbb SN TH RB htb => ?_)
  have N1 := nRG A1 htb
  have N2 := nRG A2 htb
  replace A1 := kRg A1 hbb
  replace A2 := kRg A2 hbb
  replace HH := SN
  clear SN hbb htb
  unfold lv79
  simp only [Act.put, sA, sB, sC]
  refine hK.out _ _ HH.out (fun hH => ?_); clear hK K
  exact lv7_24f H0 t1 t2 rb w2 _ (by kernel_rfl) A1 N1 A2 N2 TH RB HH HQ
theorem lv7_245 (H : lv7h x5 x6 p q u W) (rb : Nat) (w : World) (listed : Array Bool) (hl : listed = #[true, false, true, false, false, false, true, false, false, true, false]) (TH : Hid (w.there rb 0 4)) (RB : Hid (W.heap.size ≤ rb)) (HH : Hid (Below W.heap.size W w)) (HQ : Hid (lv7f Q x5 x6 p q u U W)) : lv7G Q x5 x6 p q u W 7 listed (lv7S U x5 x6 p q u 0 0 0 0 rb false false false false false false true) w := by
 subst hl
 have H0 := H
 obtain ⟨x50, x51, x52, x53, x60, x61, x62, x63, C1⟩ := H
 simp only [lv7G, lv7S, cond_true, cond_false]
 refine wpAnyH_ready (rs := [1, 3, 4, 7]) (by kernel_rfl) (by simp) ?_
 refine AllReadyH.cons (o := lv71) rfl (fun K hK => ?_) (AllReadyH.cons (o := lv73) rfl (fun K hK => ?_) (AllReadyH.cons (o := lv74) rfl (fun K hK => ?_) (AllReadyH.cons (o := lv77) rfl (fun K hK => ?_) AllReadyH.nil)))
 ·refine wp_b1 HH _ rfl p rfl (fun t1 w2 hbb SN A1 htb => ?_)
  have N1 := nTH TH htb
  replace TH := kTH TH hbb
  replace HH := SN
  clear SN hbb htb
  unfold lv71
  simp only [Act.put, sA, sB, sC]
  refine hK.out _ _ HH.out (fun hH => ?_); clear hK K
  exact lv7_247 H0 t1 rb w2 _ (by kernel_rfl) A1 N1 TH RB HH HQ
 ·refine wp_b1 HH _ rfl q rfl (fun t2 w2 hbb SN A2 htb => ?_)
  have N2 := nTH TH htb
  replace TH := kTH TH hbb
  replace HH := SN
  clear SN hbb htb
  unfold lv73
  simp only [Act.put, sA, sB, sC]
  refine hK.out _ _ HH.out (fun hH => ?_); clear hK K
  exact lv7_24d H0 t2 rb w2 _ (by kernel_rfl) A2 N2 TH RB HH HQ
 ·unfold lv74
  go_simp
  refine (C1.out _).mono ?_
  rintro e w2 ⟨rfl, hb⟩
  have SN := hidden (bl_trans HH.out hb : Below W.heap.size W w2)
  replace TH := kTH TH hb
  replace HH := SN
  clear SN  hb
  go_wp2_with fail
  refine hK.out _ _ HH.out (fun hH => ?_); clear hK K
  exact lv7_255 H0 rb w2 _ (by kernel_rfl) TH RB HH HQ
 ·refine wp_b1 HH _ rfl p rfl (fun t4 w2 hbb SN A4 htb => ?_)
  have N4 := nTH TH htb
  replace TH := kTH TH hbb
  replace HH := SN
  clear SN hbb htb
  unfold lv77
  simp only [Act.put, sA, sB, sC]
  refine hK.out _ _ HH.out (fun hH => ?_); clear hK K
  exact lv7_2c5 H0 t4 rb w2 _ (by kernel_rfl) A4 N4 TH RB HH HQ
theorem lv7_c5 (H : lv7h x5 x6 p q u W) (t4 : Nat) (w : World) (listed : Array Bool) (hl : listed = #[true, false, true, false, false, false, true, true, false, false, false]) (A4 : Hid (Rg w t4 p)) (HH : Hid (Below W.heap.size W w)) (HQ : Hid (lv7f Q x5 x6 p q u U W)) : lv7G Q x5 x6 p q u W 7 listed (lv7S U x5 x6 p q u 0 0 0 t4 0 false false false false true false false) w := by
 subst hl
 have H0 := H
 obtain ⟨x50, x51, x52, x53, x60, x61, x62, x63, C1⟩ := H
 simp only [lv7G, lv7S, cond_true, cond_false]
 refine wpAnyH_ready (rs := [1, 3, 4, 9]) (by kernel_rfl) (by simp) ?_
 refine AllReadyH.cons (o := lv71) rfl (fun K hK => ?_) (AllReadyH.cons (o := lv73) rfl (fun K hK => ?_) (AllReadyH.cons (o := lv74) rfl (fun K hK => ?_) (AllReadyH.cons (o := lv79) rfl (fun K hK => ?_) AllReadyH.nil)))
 ·refine wp_b1 HH _ rfl p rfl (fun t1 w2 hbb SN A1 htb => ?_)
  replace A4 := kRg A4 hbb
  replace HH := SN
  clear SN hbb htb
  unfold lv71
  simp only [Act.put, sA, sB, sC]
  refine hK.out _ _ HH.out (fun hH => ?_); clear hK K
  exact lv7_c7 H0 t1 t4 w2 _ (by kernel_rfl) A1 A4 HH HQ
 ·refine wp_b1 HH _ rfl q rfl (fun t2 w2 hbb SN A2 htb => ?_)
  replace A4 := kRg A4 hbb
  replace HH := SN
  clear SN hbb htb
  unfold lv73
  simp only [Act.put, sA, sB, sC]
  refine hK.out _ _ HH.out (fun hH => ?_); clear hK K
  exact lv7_cd H0 t2 t4 w2 _ (by kernel_rfl) A2 A4 HH HQ
 ·unfold lv74
  go_simp
  refine (C1.out _).mono ?_
  rintro e w2 ⟨rfl, hb⟩
  have SN := hidden (bl_trans HH.out hb : Below W.heap.size W w2)
  replace A4 := kRg A4 hb
  replace HH := SN
  clear SN  hb
  go_wp2_with fail
  refine hK.out _ _ HH.out (fun hH => ?_); clear hK K
  exact lv7_d5 H0 t4 w2 _ (by kernel_rfl) A4 HH HQ
 ·refine wp_a1 HH rfl (fun rb w2 hbb SN TH RB htb => ?_)
  have N4 := nRG A4 htb
  replace A4 := kRg A4 hbb
  replace HH := SN
  clear SN hbb htb
  unfold lv79
  simp only [Act.put, sA, sB, sC]
  refine hK.out _ _ HH.out (fun hH => ?_); clear hK K
  exact lv7_2c5 H0 t4 rb w2 _ (by kernel_rfl) A4 N4 TH RB HH HQ
theorem lv7_55 (H : lv7h x5 x6 p q u W)  (w : World) (listed : Array Bool) (hl : listed = #[true, false, true, false, true, false, true, false, false, false, false])  (HH : Hid (Below W.heap.size W w)) (HQ : Hid (lv7f Q x5 x6 p q u U W)) : lv7G Q x5 x6 p q u W 7 listed (lv7S U x5 x6 p q u 0 0 0 0 0 false false true false false false false) w := by
 subst hl
 have H0 := H
 obtain ⟨x50, x51, x52, x53, x60, x61, x62, x63, C1⟩ := H
 simp only [lv7G, lv7S, cond_true, cond_false]
 refine wpAnyH_ready (rs := [1, 3, 5, 7, 9]) (by kernel_rfl) (by simp) ?_
 refine AllReadyH.cons (o := lv71) rfl (fun K hK => ?_) (AllReadyH.cons (o := lv73) rfl (fun K hK => ?_) (AllReadyH.cons (o := lv75) rfl (fun K hK => ?_) (AllReadyH.cons (o := lv77) rfl (fun K hK => ?_) (AllReadyH.cons (o := lv79) rfl (fun K hK => ?_) AllReadyH.nil))))
 ·refine wp_b1 HH _ rfl p rfl (fun t1 w2 hbb SN A1 htb => ?_)
  replace HH := SN
  clear SN hbb htb
  unfold lv71
  simp only [Act.put, sA, sB, sC]
  refine hK.out _ _ HH.out (fun hH => ?_); clear hK K
  exact lv7_57 H0 t1 w2 _ (by kernel_rfl) A1 HH HQ
 ·refine wp_b1 HH _ rfl q rfl (fun t2 w2 hbb SN A2 htb => ?_)
  replace HH := SN
  clear SN hbb htb
  unfold lv73
  simp only [Act.put, sA, sB, sC]
  refine hK.out _ _ HH.out (fun hH => ?_); clear hK K
  exact lv7_5d H0 t2 w2 _ (by kernel_rfl) A2 HH HQ
 ·refine wp_b1 HH _ rfl u rfl (fun t3 w2 hbb SN A3 htb => ?_)
  replace HH := SN
  clear SN hbb htb
  unfold lv75
  simp only [Act.put, sA, sB, sC]
  refine hK.out _ _ HH.out (fun hH => ?_); clear hK K
  exact lv7_75 H0 t3 w2 _ (by kernel_rfl) A3 HH HQ
 ·refine wp_b1 HH _ rfl p rfl (fun t4 w2 hbb SN A4 htb => ?_)
  replace HH := SN
  clear SN hbb htb
  unfold lv77
  simp only [Act.put, sA, sB, sC]
  refine hK.out _ _ HH.out (fun hH => ?_); clear hK K
  exact lv7_d5 H0 t4 w2 _ (by kernel_rfl) A4 HH HQ
 ·refine wp_a1 HH rfl (fun rb w2 hbb SN TH RB htb => ?_)
  replace HH := SN
  clear SN hbb htb
  unfold lv79
  simp only [Act.put, sA, sB, sC]
  refine hK.out _ _ HH.out (fun hH => ?_); clear hK K
  exact lv7_255 H0 rb w2 _ (by kernel_rfl) TH RB HH HQ
theorem lv7_4d (H : lv7h x5 x6 p q u W) (t2 : Nat) (w : World) (listed : Array Bool) (hl : listed = #[true, false, true, true, false, false, true, false, false, false, false]) (A2 : Hid (Rg w t2 q)) (HH : Hid (Below W.heap.size W w)) (HQ : Hid (lv7f Q x5 x6 p q u U W)) : lv7G Q x5 x6 p q u W 7 listed (lv7S U x5 x6 p q u 0 t2 0 0 0 false true false false false false false) w := by
 subst hl
 have H0 := H
 obtain ⟨x50, x51, x52, x53, x60, x61, x62, x63, C1⟩ := H
 simp only [lv7G, lv7S, cond_true, cond_false]
 refine wpAnyH_ready (rs := [1, 4, 7, 9]) (by kernel_rfl) (by simp) ?_
 refine AllReadyH.cons (o := lv71) rfl (fun K hK => ?_) (AllReadyH.cons (o := lv74) rfl (fun K hK => ?_) (AllReadyH.cons (o := lv77) rfl (fun K hK => ?_) (AllReadyH.cons (o := lv79) rfl (fun K hK => ?_) AllReadyH.nil)))
 ·refine wp_b1 HH _ rfl p rfl (fun t1 w2 hbb SN A1 htb => ?_)
  replace A2 := kRg A2 hbb
  replace HH := SN
  clear SN hbb htb
  unfold lv71
  simp only [Act.put, sA, sB, sC]
  refine hK.out _ _ HH.out (fun hH => ?_); clear hK K
  exact lv7_4f H0 t1 t2 w2 _ (by kernel_rfl) A1 A2 HH HQ
 ·unfold lv74
  go_simp
  refine (C1.out _).mono ?_
  rintro e w2 ⟨rfl, hb⟩
  have SN := hidden (bl_trans HH.out hb : Below W.heap.size W w2)
  replace A2 := kRg A2 hb
  replace HH := SN
  clear SN  hb
  go_wp2_with fail
  refine hK.out _ _ HH.out (fun hH => ?_); clear hK K
  exact lv7_5d H0 t2 w2 _ (by kernel_rfl) A2 HH HQ
 ·refine wp_b1 HH _ rfl p rfl (fun t4 w2 hbb SN A4 htb => ?_)
  replace A2 := kRg A2 hbb
  replace HH := SN
  clear SN hbb htb
  unfold lv77
  simp only [Act.put, sA, sB, sC]
  refine hK.out _ _ HH.out (fun hH => ?_); clear hK K
  exact lv7_cd H0 t2 t4 w2 _ (by kernel_rfl) A2 A4 HH HQ
 ·refine wp_a1 HH rfl (fun rb w2 hbb SN TH RB htb => ?_)
  have N2 := nRG A2 htb
  replace A2 := kRg A2 hbb
  replace HH := SN
  clear SN hbb htb
  unfold lv79
  simp only [Act.put, sA, sB, sC]
  refine hK.out _ _ HH.out (fun hH => ?_); clear hK K
  exact lv7_24d H0 t2 rb w2 _ (by kernel_rfl) A2 N2 TH RB HH HQ
theorem lv7_47 (H : lv7h x5 x6 p q u W) (t1 : Nat) (w : World) (listed : Array Bool) (hl : listed = #[true, true, true, false, false, false, true, false, false, false, false]) (A1 : Hid (Rg w t1 p)) (HH : Hid (Below W.heap.size W w)) (HQ : Hid (lv7f Q x5 x6 p q u U W)) : lv7G Q x5 x6 p q u W 7 listed (lv7S U x5 x6 p q u t1 0 0 0 0 true false false false false false false) w := by
 subst hl
 have H0 := H
 obtain ⟨x50, x51, x52, x53, x60, x61, x62, x63, C1⟩ := H
 simp only [lv7G, lv7S, cond_true, cond_false]
 refine wpAnyH_ready (rs := [3, 4, 7, 9]) (by kernel_rfl) (by simp) ?_
 refine AllReadyH.cons (o := lv73) rfl (fun K hK => ?_) (AllReadyH.cons (o := lv74) rfl (fun K hK => ?_) (AllReadyH.cons (o := lv77) rfl (fun K hK => ?_) (AllReadyH.cons (o := lv79) rfl (fun K hK => ?_) AllReadyH.nil)))
 ·refine wp_b1 HH _ rfl q rfl (fun t2 w2 hbb SN A2 htb => ?_)
  replace A1 := kRg A1 hbb
  replace HH := SN
  clear SN hbb htb
  unfold lv73
  simp only [Act.put, sA, sB, sC]
  refine hK.out _ _ HH.out (fun hH => ?_); clear hK K
  exact lv7_4f H0 t1 t2 w2 _ (by kernel_rfl) A1 A2 HH HQ
 ·unfold lv74
  go_simp
  refine (C1.out _).mono ?_
  rintro e w2 ⟨rfl, hb⟩
  have SN := hidden (bl_trans HH.out hb : Below W.heap.size W w2)
  replace A1 := kRg A1 hb
  replace HH := SN
  clear SN  hb
  go_wp2_with fail
  refine hK.out _ _ HH.out (fun hH => ?_); clear hK K
  exact lv7_57 H0 t1 w2 _ (by kernel_rfl) A1 HH HQ
 ·refine wp_b1 HH _ rfl p rfl (fun t4 w2 hbb SN A4 htb => ?_)
  replace A1 := kRg A1 hbb
  replace HH := SN
  clear SN hbb htb
  unfold lv77
  simp only [Act.put, sA, sB, sC]
  refine hK.out _ _ HH.out (fun hH => ?_); clear hK K
  exact lv7_c7 H0 t1 t4 w2 _ (by kernel_rfl) A1 A4 HH HQ
 ·refine wp_a1 HH rfl (fun rb w2 hbb SN TH RB htb => ?_)
  have N1 := nRG A1 htb
  replace A1 := kRg A1 hbb
  replace HH := SN
  clear SN hbb htb
  unfold lv79
  simp only [Act.put, sA, sB, sC]
  refine hK.out _ _ HH.out (fun hH => ?_); clear hK K
  exact lv7_247 H0 t1 rb w2 _ (by kernel_rfl) A1 N1 TH RB HH HQ
theorem lv7_45 (H : lv7h x5 x6 p q u W)  (w : World) (listed : Array Bool) (hl : listed = #[true, false, true, false, false, false, true, false, false, false, false])  (HH : Hid (Below W.heap.size W w)) (HQ : Hid (lv7f Q x5 x6 p q u U W)) : lv7G Q x5 x6 p q u W 8 listed (lv7S U x5 x6 p q u 0 0 0 0 0 false false false false false false false) w := by
 subst hl
 have H0 := H
 obtain ⟨x50, x51, x52, x53, x60, x61, x62, x63, C1⟩ := H
 simp only [lv7G, lv7S, cond_true, cond_false]
 refine wpAnyH_ready (rs := [1, 3, 4, 7, 9]) (by kernel_rfl) (by simp) ?_
 refine AllReadyH.cons (o := lv71) rfl (fun K hK => ?_) (AllReadyH.cons (o := lv73) rfl (fun K hK => ?_) (AllReadyH.cons (o := lv74) rfl (fun K hK => ?_) (AllReadyH.cons (o := lv77) rfl (fun K hK => ?_) (AllReadyH.cons (o := lv79) rfl (fun K hK => ?_) AllReadyH.nil))))
 ·refine wp_b1 HH _ rfl p rfl (fun t1 w2 hbb SN A1 htb => ?_)
  replace HH := SN
  clear SN hbb htb
  unfold lv71
  simp only [Act.put, sA, sB, sC]
  refine hK.out _ _ HH.out (fun hH => ?_); clear hK K
  exact lv7_47 H0 t1 w2 _ (by kernel_rfl) A1 HH HQ
 ·refine wp_b1 HH _ rfl q rfl (fun t2 w2 hbb SN A2 htb => ?_)
  replace HH := SN
  clear SN hbb htb
  unfold lv73
  simp only [Act.put, sA, sB, sC]
  refine hK.out _ _ HH.out (fun hH => ?_); clear hK K
  exact lv7_4d H0 t2 w2 _ (by kernel_rfl) A2 HH HQ
 ·unfold lv74
  go_simp
  refine (C1.out _).mono ?_
  rintro e w2 ⟨rfl, hb⟩
  have SN := hidden (bl_trans HH.out hb : Below W.heap.size W w2)
  replace HH := SN
  clear SN  hb
  go_wp2_with fail
  refine hK.out _ _ HH.out (fun hH => ?_); clear hK K
  exact lv7_55 H0  w2 _ (by kernel_rfl)  HH HQ
 ·refine wp_b1 HH _ rfl p rfl (fun t4 w2 hbb SN A4 htb => ?_)
  replace HH := SN
  clear SN hbb htb
  unfold lv77
  simp only [Act.put, sA, sB, sC]
  refine hK.out _ _ HH.out (fun hH => ?_); clear hK K
  exact lv7_c5 H0 t4 w2 _ (by kernel_rfl) A4 HH HQ
 ·refine wp_a1 HH rfl (fun rb w2 hbb SN TH RB htb => ?_)
  replace HH := SN
  clear SN hbb htb
  unfold lv79
  simp only [Act.put, sA, sB, sC]
  refine hK.out _ _ HH.out (fun hH => ?_); clear hK K
  exact lv7_245 H0 rb w2 _ (by kernel_rfl) TH RB HH HQ
end
theorem lv7 (Q : Exit → Act → World → Prop) (x5 x6 : Nat) (p q u : E4) (u0 u1 u2 u3 u4 u7 u8 u9 u10 u11 u12 u13 u14 u15 u16 u17 u18 u19 u20 u21 u22 u23 u24 u25 u26 u27 u28 u29 u30 u31 u32 u33 u34 u35 u36 u37 u38 u39 u40 u41 u42 u43 u44 u45 u46 u47 u48 u49 u50 u51 u52 u53 u54 u55 u56 u57 u58 u59 u60 u61 u62 u63 : Value) (W : World) (H : lv7h x5 x6 p q u W)
  (HQ : Hid (∀ (wz : World) (t1 t2 t3 t4 rb : Nat), Below W.heap.size W wz → wz.rangeAt t1 0 [.int .u64 p.x0, .int .u64 p.x1, .int .u64 p.x2, .int .u64 p.x3] → wz.rangeAt t2 0 [.int .u64 q.x0, .int .u64 q.x1, .int .u64 q.x2, .int .u64 q.x3] → wz.rangeAt t3 0 [.int .u64 u.x0, .int .u64 u.x1, .int .u64 u.x2, .int .u64 u.x3] → wz.rangeAt t4 0 [.int .u64 p.x0, .int .u64 p.x1, .int .u64 p.x2, .int .u64 p.x3] → W.heap.size ≤ rb → wz.rangeAt rb 0 [.slice (some ⟨t1, 0, none⟩) 1 1, .slice (some ⟨t2, 0, none⟩) 1 1, .slice (some ⟨t3, 0, none⟩) 1 1, .slice (some ⟨t4, 0, none⟩) 1 1] → Q .normal ⟨#[u0, u1, u2, u3, u4, .pointer (some ⟨x5, 0, none⟩), .pointer (some ⟨x6, 0, none⟩), .pointer (some ⟨rb, 0, none⟩), u8, u9, u10, u11, u12, u13, u14, u15, u16, u17, u18, u19, u20, u21, u22, u23, u24, u25, u26, .agg #[.int .u64 p.x0, .int .u64 p.x1, .int .u64 p.x2, .int .u64 p.x3], .slice (some ⟨t1, 0, none⟩) 1 1, .agg #[.int .u64 q.x0, .int .u64 q.x1, .int .u64 q.x2, .int .u64 q.x3], .slice (some ⟨t2, 0, none⟩) 1 1, .agg #[.int .u64 u.x0, .int .u64 u.x1, .int .u64 u.x2, .int .u64 u.x3], .slice (some ⟨t3, 0, none⟩) 1 1, .agg #[.int .u64 p.x0, .int .u64 p.x1, .int .u64 p.x2, .int .u64 p.x3], .slice (some ⟨t4, 0, none⟩) 1 1, .agg #[.slice (some ⟨t1, 0, none⟩) 1 1, .slice (some ⟨t2, 0, none⟩) 1 1, .slice (some ⟨t3, 0, none⟩) 1 1, .slice (some ⟨t4, 0, none⟩) 1 1], u36, u37, u38, u39, u40, u41, u42, u43, u44, u45, u46, u47, u48, u49, u50, u51, u52, u53, u54, u55, u56, u57, u58, u59, u60, u61, u62, u63], []⟩ wz)) : (Code.region 7 lv7o true).wp Tryz.prog Q ⟨#[u0, u1, u2, u3, u4, .pointer (some ⟨x5, 0, none⟩), .pointer (some ⟨x6, 0, none⟩), u7, u8, u9, u10, u11, u12, u13, u14, u15, u16, u17, u18, u19, u20, u21, u22, u23, u24, u25, u26, u27, u28, u29, u30, u31, u32, u33, u34, u35, u36, u37, u38, u39, u40, u41, u42, u43, u44, u45, u46, u47, u48, u49, u50, u51, u52, u53, u54, u55, u56, u57, u58, u59, u60, u61, u62, u63], []⟩ W := by
 have H0 := H
 obtain ⟨x50, x51, x52, x53, x60, x61, x62, x63, C1⟩ := H
 replace HQ : Hid (lv7f Q x5 x6 p q u (nth [u0, u1, u2, u3, u4, undef, undef, u7, u8, u9, u10, u11, u12, u13, u14, u15, u16, u17, u18, u19, u20, u21, u22, u23, u24, u25, u26, u27, u28, u29, u30, u31, u32, u33, u34, u35, u36, u37, u38, u39, u40, u41, u42, u43, u44, u45, u46, u47, u48, u49, u50, u51, u52, u53, u54, u55, u56, u57, u58, u59, u60, u61, u62, u63]) W) := HQ
 refine wp_region_noPanic ?_
 refine wp_region_held_drew (S := fun x => Below W.heap.size W x) (by kernel_rfl) (bl_drew W) (fun hH => ?_)
 have HH := hidden hH
 refine tj 0 lv70 (.agg #[.int .u64 p.x0, .int .u64 p.x1, .int .u64 p.x2, .int .u64 p.x3]) hH (fun w0 hSw => ?_) ?_
 ·(unfold lv70; have hS : Below W.heap.size W w0 := hSw; have a0 := cell_keep x50 hS; have a1 := cell_keep x51 hS; have a2 := cell_keep x52 hS; have a3 := cell_keep x53 hS; clear hS hSw; go_simp)
 unfold lv70
 simp only [Act.put, sA, sB, sC]
 refine tj 2 lv72 (.agg #[.int .u64 q.x0, .int .u64 q.x1, .int .u64 q.x2, .int .u64 q.x3]) hH (fun w0 hSw => ?_) ?_
 ·(unfold lv72; have hS : Below W.heap.size W w0 := hSw; have a0 := cell_keep x60 hS; have a1 := cell_keep x61 hS; have a2 := cell_keep x62 hS; have a3 := cell_keep x63 hS; clear hS hSw; go_simp)
 unfold lv72
 simp only [Act.put, sA, sB, sC]
 refine tj 6 lv76 (.agg #[.int .u64 p.x0, .int .u64 p.x1, .int .u64 p.x2, .int .u64 p.x3]) hH (fun w0 hSw => ?_) ?_
 ·(unfold lv76; have hS : Below W.heap.size W w0 := hSw; have a0 := cell_keep x50 hS; have a1 := cell_keep x51 hS; have a2 := cell_keep x52 hS; have a3 := cell_keep x53 hS; clear hS hSw; go_simp)
 unfold lv76
 simp only [Act.put, sA, sB, sC]
 exact lv7_45 H0  W.drew _ (by kernel_rfl)  HH HQ
end Ci
end Go.Proofs.YtaejdgpffipaeaaGreatDoor
