import Derived.Test.YthngomhhafoamaaGreatDoorYz
import Derived.Test.YthngomhhafoamaaGreatDoorDn0
set_option linter.unusedVariables false
set_option linter.unusedSimpArgs false
set_option maxRecDepth 100000
set_option maxHeartbeats 16000000
namespace Go.Proofs.YthngomhhafoamaaGreatDoor
open Go.RowKit
open Cm (Wr Tm co bf Ls lf ins Eqm)
namespace Ci
theorem tk {P : Program} {md : Region.Mode} {ops : Array Oper} {Q : Exit → Act → World → Prop} {S : World → Prop} {fuel : Nat} {listed : Array Bool} {a : Act} {w : World} (i : Nat) (oi : Oper) (v : Value) (hi : ops[i]? = some oi) (hk : (Region.noSelect ops && Region.free md ops listed i && (Region.ready md ops listed).contains i) = true) (hS : S w) (hg : Region.wanted oi (yielded ops a.tmps) = true) (hy : ∀ w, S w → (execOp a.eval oi).run P w = .ok (.value v) w) (h : wpAnyH P md ops (NoPanic Q) S fuel (listed.setIfInBounds i true) (a.put oi.dst v) w) : wpAnyH P md ops (NoPanic Q) S (fuel + 1) listed a w := by
 simp only [Bool.and_eq_true] at hk
 exact wpAnyH_take hi hk.1.1 hk.1.2 hk.2 (fun _ _ _ h => h) (Or.inl ⟨hg, hy⟩) hS h
theorem i4a : (Tryz.prog.info? 30).map (·.size) = some 4 := by kernel_rfl
theorem there_lt {w : World} {b n : Nat} (h : w.there b 0 (n + 1)) : b < w.heap.size := by
 obtain ⟨h1, _⟩ := h 0 (by omega)
 obtain ⟨u, hu⟩ := Option.isSome_iff_exists.1 h1
 exact World.block_lt_of_cell? w _ hu
theorem range_lt {w : World} {b : Nat} {c : Value} {cs : List Value} (h : w.rangeAt b 0 (c :: cs)) : b < w.heap.size := World.block_lt_of_cell? w _ (h 0 c rfl)
theorem build1P (p : E4) (w : World) : (Instr.buildSlice 25 1 #[(0, .agg #[.int .u64 p.x0, .int .u64 p.x1, .int .u64 p.x2, .int .u64 p.x3])]).run Tryz.prog w = .ok (.slice (some ⟨w.heap.size, 0, none⟩) 1 1) (w.alloc (.cells #[.int .u64 p.x0, .int .u64 p.x1, .int .u64 p.x2, .int .u64 p.x3] 35)) := by kernel_rfl
theorem wp_build1P {w : World} {o : Oper} {a : Act} {K : Act → World → Prop} {Q : Exit → Act → World → Prop} (x0 : Operand) (ho : o.op = .buildSlice 25 1 #[(0, x0)]) (p : E4) (h0 : a.eval x0 = .agg #[.int .u64 p.x0, .int .u64 p.x1, .int .u64 p.x2, .int .u64 p.x3]) (h : ∀ (tb : Nat) (wq : World), tb = w.heap.size → wq = w.alloc (.cells #[.int .u64 p.x0, .int .u64 p.x1, .int .u64 p.x2, .int .u64 p.x3] 35) → K (a.put o.dst (.slice (some ⟨tb, 0, none⟩) 1 1)) wq) : o.wp Tryz.prog a w K Q := by
 have hr := build1P p w
 unfold Oper.wp execOp
 simp only [ho, Sem.run_bind, Sem.run_pure, Result.andThen_ok, List.map_toArray, List.map_cons, List.map_nil, h0, hr]
 exact h _ _ rfl rfl
theorem zvA (w : World) : (zeroValue 30).run Tryz.prog w = .ok (.agg #[.slice none 0 0, .slice none 0 0, .slice none 0 0, .slice none 0 0]) w := by kernel_rfl
theorem wp_allocA {w : World} {o : Oper} {a : Act} {K : Act → World → Prop} {Q : Exit → Act → World → Prop} (ho : o.op = .alloc 30) (h : ∀ (A : Nat) (wq : World), A = w.heap.size → wq = w.alloc (.cells #[.slice none 0 0, .slice none 0 0, .slice none 0 0, .slice none 0 0] 30) → K (a.put o.dst (.pointer (some ⟨A, 0, none⟩))) wq) : o.wp Tryz.prog a w K Q := by
 have hk := h _ _ rfl rfl
 have hz := zvA w
 unfold Oper.wp execOp
 simp [ho, Instr.alloc, hz]
 exact hk
def Rg (w : World) (t : Nat) (p : E4) : Prop := w.rangeAt t 0 [.int .u64 p.x0, .int .u64 p.x1, .int .u64 p.x2, .int .u64 p.x3]
theorem kRg {w w2 : World} {t : Nat} {p : E4} (h : Hid (Rg w t p)) (hb : Below w.heap.size w w2) : Hid (Rg w2 t p) := Hn (range_bl h.out hb)
theorem kTH {w w2 : World} {t n : Nat} (h : Hid (w.there t 0 n)) (hb : Below w.heap.size w w2) : Hid (w2.there t 0 n) := Hn (there_bl h.out hb)
theorem nTH {w : World} {t rb : Nat} (h : Hid (w.there rb 0 4)) (ht : t = w.heap.size) : Hid (t ≠ rb) := Hn (by rw [ht]; have := there_lt h.out; omega)
theorem nRG {w : World} {t rb : Nat} {p : E4} (h : Hid (Rg w t p)) (ht : rb = w.heap.size) : Hid (t ≠ rb) := Hn (by rw [ht]; have := range_lt h.out; omega)
theorem wp_b1 {W w : World} {o : Oper} {a : Act} {K : Act → World → Prop} {Q : Exit → Act → World → Prop} (HH : Hid (Below W.heap.size W w)) (x0 : Operand) (ho : o.op = .buildSlice 25 1 #[(0, x0)]) (p : E4) (h0 : a.eval x0 = .agg #[.int .u64 p.x0, .int .u64 p.x1, .int .u64 p.x2, .int .u64 p.x3]) (h : ∀ (tb : Nat) (wq : World), Below w.heap.size w wq → Hid (Below W.heap.size W wq) → Hid (Rg wq tb p) → tb = w.heap.size → K (a.put o.dst (.slice (some ⟨tb, 0, none⟩) 1 1)) wq) : o.wp Tryz.prog a w K Q :=
 wp_build1P x0 ho p h0 (fun tb wq ht hw => h tb wq (by rw [hw]; exact bl_alloc _ _) (Hn (by rw [hw]; exact bl_trans HH.out (bl_alloc _ _))) (Hn (by rw [ht, hw]; exact range_newM _ _ _)) ht)
theorem wp_a1 {W w : World} {o : Oper} {a : Act} {K : Act → World → Prop} {Q : Exit → Act → World → Prop} (HH : Hid (Below W.heap.size W w)) (ho : o.op = .alloc 30) (h : ∀ (A : Nat) (wq : World), Below w.heap.size w wq → Hid (Below W.heap.size W wq) → Hid (wq.there A 0 4) → Hid (W.heap.size ≤ A) → A = w.heap.size → K (a.put o.dst (.pointer (some ⟨A, 0, none⟩))) wq) : o.wp Tryz.prog a w K Q :=
 wp_allocA ho (fun A wq ht hw => h A wq (by rw [hw]; exact bl_alloc _ _) (Hn (by rw [hw]; exact bl_trans HH.out (bl_alloc _ _))) (Hn (by rw [ht, hw]; exact there_newM _ [.slice none 0 0, .slice none 0 0, .slice none 0 0, .slice none 0 0] _)) (Hn (by rw [ht]; exact HH.out.size)) ht)
def pCep0 : String := "outright.go:20"
def lv70 : Oper := oO 27 (Op.load 35 (Operand.tmp 5)) 35 pCep0 #[]
def lv71 : Oper := oO 28 (Op.buildSlice 25 1 #[(0, Operand.tmp 27)]) 25 pCep0 #[DD 0]
def lv72 : Oper := oO 29 (Op.load 35 (Operand.tmp 6)) 35 pCep0 #[]
def lv73 : Oper := oO 30 (Op.buildSlice 25 1 #[(0, Operand.tmp 29)]) 25 pCep0 #[DD 2]
def lv74 : Oper := oO 31 (Op.call { callee := Callee.value (Operand.func 9), args := #[Operand.const (Value.int IntKind.u64 20)], argTypes := #[33] }) 35 pCep0 #[]
def lv75 : Oper := oO 32 (Op.buildSlice 25 1 #[(0, Operand.tmp 31)]) 25 pCep0 #[DD 4]
def lv76 : Oper := oO 33 (Op.load 35 (Operand.tmp 5)) 35 pCep0 #[]
def lv77 : Oper := oO 34 (Op.buildSlice 25 1 #[(0, Operand.tmp 33)]) 25 pCep0 #[DD 6]
def lv78 : Oper := oO 35 (Op.build 30 #[(0, Operand.tmp 28), (1, Operand.tmp 30), (2, Operand.tmp 32), (3, Operand.tmp 34)]) 30 pCep0 #[DD 1, DD 3, DD 5, DD 7]
def lv79 : Oper := oO 7 (Op.alloc 30) 0 pCep0 #[]
def lv710 : Oper := oN (Op.store 30 (Operand.tmp 7) (Operand.tmp 35)) pCep0 #[DD 9, DD 8, CH 4, PH 0, PH 1, PH 2, PH 3, PH 4, PH 5, PH 6, PH 7, PH 8, PH 9]
def lv7o : Array Oper := #[lv70, lv71, lv72, lv73, lv74, lv75, lv76, lv77, lv78, lv79, lv710]
structure lv7h (x5 x6 : Nat) (p q u : E4) (W : World) : Prop where
 x50 : W.cell? ⟨x5, 0, none⟩ = some (.int .u64 p.x0)
 x51 : W.cell? ⟨x5, 1, none⟩ = some (.int .u64 p.x1)
 x52 : W.cell? ⟨x5, 2, none⟩ = some (.int .u64 p.x2)
 x53 : W.cell? ⟨x5, 3, none⟩ = some (.int .u64 p.x3)
 x60 : W.cell? ⟨x6, 0, none⟩ = some (.int .u64 q.x0)
 x61 : W.cell? ⟨x6, 1, none⟩ = some (.int .u64 q.x1)
 x62 : W.cell? ⟨x6, 2, none⟩ = some (.int .u64 q.x2)
 x63 : W.cell? ⟨x6, 3, none⟩ = some (.int .u64 q.x3)
 C1 : Hid (∀ y, Calls Tryz.prog 9 #[.int .u64 20] y fun e w' => e = .returned (.agg #[.int .u64 u.x0, .int .u64 u.x1, .int .u64 u.x2, .int .u64 u.x3]) ∧ Below y.heap.size y w')
def lv7S (U : Nat → Value) (x5 x6 : Nat) (p q u : E4) (t1 : Nat) (t2 : Nat) (t3 : Nat) (t4 : Nat) (rb : Nat) (F : Nat → Bool) : Array Value := #[(U 0), (U 1), (U 2), (U 3), (U 4), (.pointer (some ⟨x5, 0, none⟩)), (.pointer (some ⟨x6, 0, none⟩)), sel (F 9) (.pointer (some ⟨rb, 0, none⟩)) (U 7), (U 8), (U 9), (U 10), (U 11), (U 12), (U 13), (U 14), (U 15), (U 16), (U 17), (U 18), (U 19), (U 20), (U 21), (U 22), (U 23), (U 24), (U 25), (U 26), sel (F 0) (.agg #[.int .u64 p.x0, .int .u64 p.x1, .int .u64 p.x2, .int .u64 p.x3]) (U 27), sel (F 1) (.slice (some ⟨t1, 0, none⟩) 1 1) (U 28), sel (F 2) (.agg #[.int .u64 q.x0, .int .u64 q.x1, .int .u64 q.x2, .int .u64 q.x3]) (U 29), sel (F 3) (.slice (some ⟨t2, 0, none⟩) 1 1) (U 30), sel (F 4) (.agg #[.int .u64 u.x0, .int .u64 u.x1, .int .u64 u.x2, .int .u64 u.x3]) (U 31), sel (F 5) (.slice (some ⟨t3, 0, none⟩) 1 1) (U 32), sel (F 6) (.agg #[.int .u64 p.x0, .int .u64 p.x1, .int .u64 p.x2, .int .u64 p.x3]) (U 33), sel (F 7) (.slice (some ⟨t4, 0, none⟩) 1 1) (U 34), sel (F 8) (.agg #[.slice (some ⟨t1, 0, none⟩) 1 1, .slice (some ⟨t2, 0, none⟩) 1 1, .slice (some ⟨t3, 0, none⟩) 1 1, .slice (some ⟨t4, 0, none⟩) 1 1]) (U 35), (U 36), (U 37), (U 38), (U 39), (U 40), (U 41), (U 42), (U 43), (U 44), (U 45), (U 46), (U 47), (U 48), (U 49), (U 50), (U 51), (U 52), (U 53), (U 54), (U 55), (U 56), (U 57), (U 58), (U 59), (U 60), (U 61), (U 62), (U 63)]
def lv7F (x5 x6 : Nat) (p q u : E4) (t1 : Nat) (t2 : Nat) (t3 : Nat) (t4 : Nat) (rb : Nat) (W : World) (F : Nat → Bool) (w : World) : Prop := Hid (Below W.heap.size W w) ∧ Hid (F 1 = true → Rg w t1 p) ∧ Hid (F 1 = true → F 9 = true → t1 ≠ rb) ∧ Hid (F 3 = true → Rg w t2 q) ∧ Hid (F 3 = true → F 9 = true → t2 ≠ rb) ∧ Hid (F 5 = true → Rg w t3 u) ∧ Hid (F 5 = true → F 9 = true → t3 ≠ rb) ∧ Hid (F 7 = true → Rg w t4 p) ∧ Hid (F 7 = true → F 9 = true → t4 ≠ rb) ∧ Hid (F 9 = true → F 10 = false → w.there rb 0 4) ∧ Hid (F 9 = true → W.heap.size ≤ rb) ∧ Hid (F 10 = true → w.rangeAt rb 0 [.slice (some ⟨t1, 0, none⟩) 1 1, .slice (some ⟨t2, 0, none⟩) 1 1, .slice (some ⟨t3, 0, none⟩) 1 1, .slice (some ⟨t4, 0, none⟩) 1 1])
def lv7I (x5 x6 : Nat) (p q u : E4) (U : Nat → Value) (W : World) (F : Nat → Bool) (a : Act) (w : World) : Prop := ∃ (t1 : Nat) (t2 : Nat) (t3 : Nat) (t4 : Nat) (rb : Nat), a = ⟨lv7S U x5 x6 p q u t1 t2 t3 t4 rb F, []⟩ ∧ lv7F x5 x6 p q u t1 t2 t3 t4 rb W F w
def lv7f (Q : Exit → Act → World → Prop) (x5 x6 : Nat) (p q u : E4) (U : Nat → Value) (W : World) : Prop := ∀ (wz : World) (t1 t2 t3 t4 rb : Nat), Below W.heap.size W wz → wz.rangeAt t1 0 [.int .u64 p.x0, .int .u64 p.x1, .int .u64 p.x2, .int .u64 p.x3] → wz.rangeAt t2 0 [.int .u64 q.x0, .int .u64 q.x1, .int .u64 q.x2, .int .u64 q.x3] → wz.rangeAt t3 0 [.int .u64 u.x0, .int .u64 u.x1, .int .u64 u.x2, .int .u64 u.x3] → wz.rangeAt t4 0 [.int .u64 p.x0, .int .u64 p.x1, .int .u64 p.x2, .int .u64 p.x3] → W.heap.size ≤ rb → wz.rangeAt rb 0 [.slice (some ⟨t1, 0, none⟩) 1 1, .slice (some ⟨t2, 0, none⟩) 1 1, .slice (some ⟨t3, 0, none⟩) 1 1, .slice (some ⟨t4, 0, none⟩) 1 1] → Q .normal ⟨lv7S U x5 x6 p q u t1 t2 t3 t4 rb (fun _ => true), []⟩ wz
def lv7T (Q : Exit → Act → World → Prop) (x5 x6 : Nat) (p q u : E4) (U : Nat → Value) (W : World) (i : Nat) : Prop := lv7h x5 x6 p q u W → ∀ (F : Nat → Bool) (a : Act) (w : World), F i = false → (∀ k, (dp .any lv7o i).contains k = true → F k = true) → clo .any lv7o F → lv7I x5 x6 p q u U W F a w → wpOp Tryz.prog lv7o (NoPanic Q) i (fun a w => lv7I x5 x6 p q u U W (up F i) a w) a w
section
variable {Q : Exit → Act → World → Prop} {x5 x6 : Nat} {p q u : E4} {U : Nat → Value} {W : World}
theorem lv7_0 : lv7T Q x5 x6 p q u U W 0 := by
 intro H F a w hz hd cl I
 obtain ⟨x50, x51, x52, x53, x60, x61, x62, x63, C1⟩ := H
 obtain ⟨t1, t2, t3, t4, rb, rfl, I⟩ := I
 refine wpOp_val lv70 (.agg #[.int .u64 p.x0, .int .u64 p.x1, .int .u64 p.x2, .int .u64 p.x3]) rfl rfl ?_ ⟨t1, t2, t3, t4, rb, ?_, I⟩
 ·(obtain ⟨HH_, A1_, N1_, A2_, N2_, A3_, N3_, A4_, N4_, TH_, RB_, FR_⟩ := I; have hS := HH_.out; have a0 := cell_keep x50 hS; have a1 := cell_keep x51 hS; have a2 := cell_keep x52 hS; have a3 := cell_keep x53 hS; clear hS HH_ A1_ N1_ A2_ N2_ A3_ N3_ A4_ N4_ TH_ RB_ FR_; unfold lv70 oO; simp only [lv7S, selT]; go_simp)
 ·(unfold lv70 oO; simp only [lv7S, Act.put, sA, sB, sC]; rfl)
theorem lv7_1 : lv7T Q x5 x6 p q u U W 1 := by
 intro H F a w hz hd cl I
 obtain ⟨x50, x51, x52, x53, x60, x61, x62, x63, C1⟩ := H
 obtain ⟨t1, t2, t3, t4, rb, rfl, HH_, A1_, N1_, A2_, N2_, A3_, N3_, A4_, N4_, TH_, RB_, FR_⟩ := I
 have d0 := hd 0 rfl
 have n8 := nT hz cl 8
 have n10 := nT hz cl 10
 refine wpOp_step (o := lv71) rfl (fun K hK => ?_)
 replace hK := Hn hK
 simp only [lv7S, selT, selF, d0, n8, n10]
 clear cl hd
 have HH := HH_
 refine wp_b1 HH _ rfl p rfl (fun t1 w2 hbb SN A1 htb => ?_)
 unfold lv71 oO
 refine hK.out _ _ ⟨t1, t2, t3, t4, rb, ?_, SN, Hn (fun h1 => A1.out), Hn (fun h1 h9 => by have TH := Hn (TH_.out h9 n10); exact (nTH TH htb).out), Hn (fun h3 => by have A2 := Hn (A2_.out h3); exact (kRg A2 hbb).out), N2_, Hn (fun h5 => by have A3 := Hn (A3_.out h5); exact (kRg A3 hbb).out), N3_, Hn (fun h7 => by have A4 := Hn (A4_.out h7); exact (kRg A4 hbb).out), N4_, Hn (fun h9 h10 => by have TH := Hn (TH_.out h9 h10); exact (kTH TH hbb).out), RB_, Hn (fun h10 => tf h10 n10)⟩
 simp only [lv7S, Act.put, sA, sB, sC, selT, selF, uT d0, uN 1 n8, uN 1 n10]
 rfl
theorem lv7_2 : lv7T Q x5 x6 p q u U W 2 := by
 intro H F a w hz hd cl I
 obtain ⟨x50, x51, x52, x53, x60, x61, x62, x63, C1⟩ := H
 obtain ⟨t1, t2, t3, t4, rb, rfl, I⟩ := I
 refine wpOp_val lv72 (.agg #[.int .u64 q.x0, .int .u64 q.x1, .int .u64 q.x2, .int .u64 q.x3]) rfl rfl ?_ ⟨t1, t2, t3, t4, rb, ?_, I⟩
 ·(obtain ⟨HH_, A1_, N1_, A2_, N2_, A3_, N3_, A4_, N4_, TH_, RB_, FR_⟩ := I; have hS := HH_.out; have a0 := cell_keep x60 hS; have a1 := cell_keep x61 hS; have a2 := cell_keep x62 hS; have a3 := cell_keep x63 hS; clear hS HH_ A1_ N1_ A2_ N2_ A3_ N3_ A4_ N4_ TH_ RB_ FR_; unfold lv72 oO; simp only [lv7S, selT]; go_simp)
 ·(unfold lv72 oO; simp only [lv7S, Act.put, sA, sB, sC]; rfl)
theorem lv7_3 : lv7T Q x5 x6 p q u U W 3 := by
 intro H F a w hz hd cl I
 obtain ⟨x50, x51, x52, x53, x60, x61, x62, x63, C1⟩ := H
 obtain ⟨t1, t2, t3, t4, rb, rfl, HH_, A1_, N1_, A2_, N2_, A3_, N3_, A4_, N4_, TH_, RB_, FR_⟩ := I
 have d2 := hd 2 rfl
 have n8 := nT hz cl 8
 have n10 := nT hz cl 10
 refine wpOp_step (o := lv73) rfl (fun K hK => ?_)
 replace hK := Hn hK
 simp only [lv7S, selT, selF, d2, n8, n10]
 clear cl hd
 have HH := HH_
 refine wp_b1 HH _ rfl q rfl (fun t2 w2 hbb SN A2 htb => ?_)
 unfold lv73 oO
 refine hK.out _ _ ⟨t1, t2, t3, t4, rb, ?_, SN, Hn (fun h1 => by have A1 := Hn (A1_.out h1); exact (kRg A1 hbb).out), N1_, Hn (fun h3 => A2.out), Hn (fun h3 h9 => by have TH := Hn (TH_.out h9 n10); exact (nTH TH htb).out), Hn (fun h5 => by have A3 := Hn (A3_.out h5); exact (kRg A3 hbb).out), N3_, Hn (fun h7 => by have A4 := Hn (A4_.out h7); exact (kRg A4 hbb).out), N4_, Hn (fun h9 h10 => by have TH := Hn (TH_.out h9 h10); exact (kTH TH hbb).out), RB_, Hn (fun h10 => tf h10 n10)⟩
 simp only [lv7S, Act.put, sA, sB, sC, selT, selF, uT d2, uN 3 n8, uN 3 n10]
 rfl
theorem lv7_4 : lv7T Q x5 x6 p q u U W 4 := by
 intro H F a w hz hd cl I
 obtain ⟨x50, x51, x52, x53, x60, x61, x62, x63, C1⟩ := H
 obtain ⟨t1, t2, t3, t4, rb, rfl, HH_, A1_, N1_, A2_, N2_, A3_, N3_, A4_, N4_, TH_, RB_, FR_⟩ := I
 have n5 := nT hz cl 5
 have n10 := nT hz cl 10
 refine wpOp_step (o := lv74) rfl (fun K hK => ?_)
 replace hK := Hn hK
 simp only [lv7S, selT, selF, n5, n10]
 clear cl hd
 have HH := HH_
 unfold lv74 oO
 go_simp
 refine (C1.out _).mono ?_
 rintro e w2 ⟨rfl, hb⟩
 have SN := Hn (bl_trans HH.out hb : Below W.heap.size W w2)
 go_wp2_with fail
 refine hK.out _ _ ⟨t1, t2, t3, t4, rb, ?_, SN, Hn (fun h1 => by have A1 := Hn (A1_.out h1); exact (kRg A1 hb).out), N1_, Hn (fun h3 => by have A2 := Hn (A2_.out h3); exact (kRg A2 hb).out), N2_, Hn (fun h5 => tf h5 n5), Hn (fun h5 h9 => tf h5 n5), Hn (fun h7 => by have A4 := Hn (A4_.out h7); exact (kRg A4 hb).out), N4_, Hn (fun h9 h10 => by have TH := Hn (TH_.out h9 h10); exact (kTH TH hb).out), RB_, Hn (fun h10 => tf h10 n10)⟩
 simp only [lv7S, Act.put, sA, sB, sC, selT, selF, uN 4 n5, uN 4 n10]
 rfl
theorem lv7_5 : lv7T Q x5 x6 p q u U W 5 := by
 intro H F a w hz hd cl I
 obtain ⟨x50, x51, x52, x53, x60, x61, x62, x63, C1⟩ := H
 obtain ⟨t1, t2, t3, t4, rb, rfl, HH_, A1_, N1_, A2_, N2_, A3_, N3_, A4_, N4_, TH_, RB_, FR_⟩ := I
 have d4 := hd 4 rfl
 have n8 := nT hz cl 8
 have n10 := nT hz cl 10
 refine wpOp_step (o := lv75) rfl (fun K hK => ?_)
 replace hK := Hn hK
 simp only [lv7S, selT, selF, d4, n8, n10]
 clear cl hd
 have HH := HH_
 refine wp_b1 HH _ rfl u rfl (fun t3 w2 hbb SN A3 htb => ?_)
 unfold lv75 oO
 refine hK.out _ _ ⟨t1, t2, t3, t4, rb, ?_, SN, Hn (fun h1 => by have A1 := Hn (A1_.out h1); exact (kRg A1 hbb).out), N1_, Hn (fun h3 => by have A2 := Hn (A2_.out h3); exact (kRg A2 hbb).out), N2_, Hn (fun h5 => A3.out), Hn (fun h5 h9 => by have TH := Hn (TH_.out h9 n10); exact (nTH TH htb).out), Hn (fun h7 => by have A4 := Hn (A4_.out h7); exact (kRg A4 hbb).out), N4_, Hn (fun h9 h10 => by have TH := Hn (TH_.out h9 h10); exact (kTH TH hbb).out), RB_, Hn (fun h10 => tf h10 n10)⟩
 simp only [lv7S, Act.put, sA, sB, sC, selT, selF, uT d4, uN 5 n8, uN 5 n10]
 rfl
theorem lv7_6 : lv7T Q x5 x6 p q u U W 6 := by
 intro H F a w hz hd cl I
 obtain ⟨x50, x51, x52, x53, x60, x61, x62, x63, C1⟩ := H
 obtain ⟨t1, t2, t3, t4, rb, rfl, I⟩ := I
 refine wpOp_val lv76 (.agg #[.int .u64 p.x0, .int .u64 p.x1, .int .u64 p.x2, .int .u64 p.x3]) rfl rfl ?_ ⟨t1, t2, t3, t4, rb, ?_, I⟩
 ·(obtain ⟨HH_, A1_, N1_, A2_, N2_, A3_, N3_, A4_, N4_, TH_, RB_, FR_⟩ := I; have hS := HH_.out; have a0 := cell_keep x50 hS; have a1 := cell_keep x51 hS; have a2 := cell_keep x52 hS; have a3 := cell_keep x53 hS; clear hS HH_ A1_ N1_ A2_ N2_ A3_ N3_ A4_ N4_ TH_ RB_ FR_; unfold lv76 oO; simp only [lv7S, selT]; go_simp)
 ·(unfold lv76 oO; simp only [lv7S, Act.put, sA, sB, sC]; rfl)
theorem lv7_7 : lv7T Q x5 x6 p q u U W 7 := by
 intro H F a w hz hd cl I
 obtain ⟨x50, x51, x52, x53, x60, x61, x62, x63, C1⟩ := H
 obtain ⟨t1, t2, t3, t4, rb, rfl, HH_, A1_, N1_, A2_, N2_, A3_, N3_, A4_, N4_, TH_, RB_, FR_⟩ := I
 have d6 := hd 6 rfl
 have n8 := nT hz cl 8
 have n10 := nT hz cl 10
 refine wpOp_step (o := lv77) rfl (fun K hK => ?_)
 replace hK := Hn hK
 simp only [lv7S, selT, selF, d6, n8, n10]
 clear cl hd
 have HH := HH_
 refine wp_b1 HH _ rfl p rfl (fun t4 w2 hbb SN A4 htb => ?_)
 unfold lv77 oO
 refine hK.out _ _ ⟨t1, t2, t3, t4, rb, ?_, SN, Hn (fun h1 => by have A1 := Hn (A1_.out h1); exact (kRg A1 hbb).out), N1_, Hn (fun h3 => by have A2 := Hn (A2_.out h3); exact (kRg A2 hbb).out), N2_, Hn (fun h5 => by have A3 := Hn (A3_.out h5); exact (kRg A3 hbb).out), N3_, Hn (fun h7 => A4.out), Hn (fun h7 h9 => by have TH := Hn (TH_.out h9 n10); exact (nTH TH htb).out), Hn (fun h9 h10 => by have TH := Hn (TH_.out h9 h10); exact (kTH TH hbb).out), RB_, Hn (fun h10 => tf h10 n10)⟩
 simp only [lv7S, Act.put, sA, sB, sC, selT, selF, uT d6, uN 7 n8, uN 7 n10]
 rfl
theorem lv7_8 : lv7T Q x5 x6 p q u U W 8 := by
 intro H F a w hz hd cl I
 obtain ⟨x50, x51, x52, x53, x60, x61, x62, x63, C1⟩ := H
 obtain ⟨t1, t2, t3, t4, rb, rfl, I⟩ := I
 have d7 := hd 7 rfl
 have d5 := hd 5 rfl
 have d3 := hd 3 rfl
 have d1 := hd 1 rfl
 refine wpOp_val lv78 (.agg #[.slice (some ⟨t1, 0, none⟩) 1 1, .slice (some ⟨t2, 0, none⟩) 1 1, .slice (some ⟨t3, 0, none⟩) 1 1, .slice (some ⟨t4, 0, none⟩) 1 1]) rfl rfl ?_ ⟨t1, t2, t3, t4, rb, ?_, I⟩
 ·(clear I; unfold lv78 oO; simp only [lv7S, selT, d1, d3, d5, d7]; go_simp)
 ·(unfold lv78 oO; simp only [lv7S, Act.put, sA, sB, sC]; rfl)
theorem lv7_9 : lv7T Q x5 x6 p q u U W 9 := by
 intro H F a w hz hd cl I
 obtain ⟨x50, x51, x52, x53, x60, x61, x62, x63, C1⟩ := H
 obtain ⟨t1, t2, t3, t4, rb, rfl, HH_, A1_, N1_, A2_, N2_, A3_, N3_, A4_, N4_, TH_, RB_, FR_⟩ := I
 have n10 := nT hz cl 10
 refine wpOp_step (o := lv79) rfl (fun K hK => ?_)
 replace hK := Hn hK
 simp only [lv7S, selT, selF, n10]
 clear cl hd
 have HH := HH_
 refine wp_a1 HH rfl (fun rb w2 hbb SN TH RB htb => ?_)
 unfold lv79 oO
 refine hK.out _ _ ⟨t1, t2, t3, t4, rb, ?_, SN, Hn (fun h1 => by have A1 := Hn (A1_.out h1); exact (kRg A1 hbb).out), Hn (fun h1 h9 => by have A1 := Hn (A1_.out h1); exact (nRG A1 htb).out), Hn (fun h3 => by have A2 := Hn (A2_.out h3); exact (kRg A2 hbb).out), Hn (fun h3 h9 => by have A2 := Hn (A2_.out h3); exact (nRG A2 htb).out), Hn (fun h5 => by have A3 := Hn (A3_.out h5); exact (kRg A3 hbb).out), Hn (fun h5 h9 => by have A3 := Hn (A3_.out h5); exact (nRG A3 htb).out), Hn (fun h7 => by have A4 := Hn (A4_.out h7); exact (kRg A4 hbb).out), Hn (fun h7 h9 => by have A4 := Hn (A4_.out h7); exact (nRG A4 htb).out), Hn (fun h9 h10 => TH.out), Hn (fun h9 => RB.out), Hn (fun h10 => tf h10 n10)⟩
 simp only [lv7S, Act.put, sA, sB, sC, selT, selF, uN 9 n10]
 rfl
theorem lv7_10 : lv7T Q x5 x6 p q u U W 10 := by
 intro H F a w hz hd cl I
 obtain ⟨x50, x51, x52, x53, x60, x61, x62, x63, C1⟩ := H
 obtain ⟨t1, t2, t3, t4, rb, rfl, HH_, A1_, N1_, A2_, N2_, A3_, N3_, A4_, N4_, TH_, RB_, FR_⟩ := I
 have d9 := hd 9 rfl
 have d8 := hd 8 rfl
 refine wpOp_step (o := lv710) rfl (fun K hK => ?_)
 replace hK := Hn hK
 simp only [lv7S, selT, selF, d8, d9]
 clear cl hd
 have HH := HH_
 have TH := Hn (TH_.out d9 hz); have RB := Hn (RB_.out d9)
 refine wp_storeE 30 _ _ rfl rb 0 ([.slice (some ⟨t1, 0, none⟩) 1 1, .slice (some ⟨t2, 0, none⟩) 1 1, .slice (some ⟨t3, 0, none⟩) 1 1, .slice (some ⟨t4, 0, none⟩) 1 1]) (by rfl) (by rfl) TH.out i4a (by simp [Value.oneCell']) rfl (fun w2 hw => ?_)
 have SN := Hn (by rw [hw]; exact HH.out.grown (gb_setCells rb [.slice (some ⟨t1, 0, none⟩) 1 1, .slice (some ⟨t2, 0, none⟩) 1 1, .slice (some ⟨t3, 0, none⟩) 1 1, .slice (some ⟨t4, 0, none⟩) 1 1] 0 _) HH.out.size (fun k hk => by obtain rfl := Option.some.inj hk; exact RB.out) : Below W.heap.size W w2)
 refine hK.out _ _ ⟨t1, t2, t3, t4, rb, ?_, SN, Hn (fun h1 => by have A1 := Hn (A1_.out h1); have N1 := Hn (N1_.out h1 d9); rw [hw]; exact fun j u hu => (gb_setCells rb [.slice (some ⟨t1, 0, none⟩) 1 1, .slice (some ⟨t2, 0, none⟩) 1 1, .slice (some ⟨t3, 0, none⟩) 1 1, .slice (some ⟨t4, 0, none⟩) 1 1] 0 _).cell (A1.out j u hu) (fun e => N1.out (Option.some.inj e))), N1_, Hn (fun h3 => by have A2 := Hn (A2_.out h3); have N2 := Hn (N2_.out h3 d9); rw [hw]; exact fun j u hu => (gb_setCells rb [.slice (some ⟨t1, 0, none⟩) 1 1, .slice (some ⟨t2, 0, none⟩) 1 1, .slice (some ⟨t3, 0, none⟩) 1 1, .slice (some ⟨t4, 0, none⟩) 1 1] 0 _).cell (A2.out j u hu) (fun e => N2.out (Option.some.inj e))), N2_, Hn (fun h5 => by have A3 := Hn (A3_.out h5); have N3 := Hn (N3_.out h5 d9); rw [hw]; exact fun j u hu => (gb_setCells rb [.slice (some ⟨t1, 0, none⟩) 1 1, .slice (some ⟨t2, 0, none⟩) 1 1, .slice (some ⟨t3, 0, none⟩) 1 1, .slice (some ⟨t4, 0, none⟩) 1 1] 0 _).cell (A3.out j u hu) (fun e => N3.out (Option.some.inj e))), N3_, Hn (fun h7 => by have A4 := Hn (A4_.out h7); have N4 := Hn (N4_.out h7 d9); rw [hw]; exact fun j u hu => (gb_setCells rb [.slice (some ⟨t1, 0, none⟩) 1 1, .slice (some ⟨t2, 0, none⟩) 1 1, .slice (some ⟨t3, 0, none⟩) 1 1, .slice (some ⟨t4, 0, none⟩) 1 1] 0 _).cell (A4.out j u hu) (fun e => N4.out (Option.some.inj e))), N4_, Hn (fun h9 h10 => tr h10), RB_, Hn (fun h10 => by have TH := Hn (TH_.out d9 hz); rw [hw]; exact World.rangeAt_setCells_same _ rb 0 _ TH.out)⟩
 simp only [lv7S, Act.put, sA, sB, sC, selT, selF, uT d8, uT d9]
 rfl
end
theorem lv7 (Q : Exit → Act → World → Prop) (x5 x6 : Nat) (p q u : E4) (u0 u1 u2 u3 u4 u7 u8 u9 aa ab ad ae af ag ah ai aj ak al am an ao ap aq au av aw ax ay az aA aB aC aD aE aF aG aH aI aJ aK aL aM aN aO aP aQ aR aS aT aU aV aW aX aY aZ a4 a5 a6 a7 a8 a9 : Value) (W : World) (H : lv7h x5 x6 p q u W)
  (HQ : Hid (∀ (wz : World) (t1 t2 t3 t4 rb : Nat), Below W.heap.size W wz → wz.rangeAt t1 0 [.int .u64 p.x0, .int .u64 p.x1, .int .u64 p.x2, .int .u64 p.x3] → wz.rangeAt t2 0 [.int .u64 q.x0, .int .u64 q.x1, .int .u64 q.x2, .int .u64 q.x3] → wz.rangeAt t3 0 [.int .u64 u.x0, .int .u64 u.x1, .int .u64 u.x2, .int .u64 u.x3] → wz.rangeAt t4 0 [.int .u64 p.x0, .int .u64 p.x1, .int .u64 p.x2, .int .u64 p.x3] → W.heap.size ≤ rb → wz.rangeAt rb 0 [.slice (some ⟨t1, 0, none⟩) 1 1, .slice (some ⟨t2, 0, none⟩) 1 1, .slice (some ⟨t3, 0, none⟩) 1 1, .slice (some ⟨t4, 0, none⟩) 1 1] → Q .normal ⟨#[u0, u1, u2, u3, u4, .pointer (some ⟨x5, 0, none⟩), .pointer (some ⟨x6, 0, none⟩), .pointer (some ⟨rb, 0, none⟩), u8, u9, aa, ab, ad, ae, af, ag, ah, ai, aj, ak, al, am, an, ao, ap, aq, au, .agg #[.int .u64 p.x0, .int .u64 p.x1, .int .u64 p.x2, .int .u64 p.x3], .slice (some ⟨t1, 0, none⟩) 1 1, .agg #[.int .u64 q.x0, .int .u64 q.x1, .int .u64 q.x2, .int .u64 q.x3], .slice (some ⟨t2, 0, none⟩) 1 1, .agg #[.int .u64 u.x0, .int .u64 u.x1, .int .u64 u.x2, .int .u64 u.x3], .slice (some ⟨t3, 0, none⟩) 1 1, .agg #[.int .u64 p.x0, .int .u64 p.x1, .int .u64 p.x2, .int .u64 p.x3], .slice (some ⟨t4, 0, none⟩) 1 1, .agg #[.slice (some ⟨t1, 0, none⟩) 1 1, .slice (some ⟨t2, 0, none⟩) 1 1, .slice (some ⟨t3, 0, none⟩) 1 1, .slice (some ⟨t4, 0, none⟩) 1 1], aE, aF, aG, aH, aI, aJ, aK, aL, aM, aN, aO, aP, aQ, aR, aS, aT, aU, aV, aW, aX, aY, aZ, a4, a5, a6, a7, a8, a9], []⟩ wz)) : (Code.region 7 lv7o true).wp Tryz.prog Q ⟨#[u0, u1, u2, u3, u4, .pointer (some ⟨x5, 0, none⟩), .pointer (some ⟨x6, 0, none⟩), u7, u8, u9, aa, ab, ad, ae, af, ag, ah, ai, aj, ak, al, am, an, ao, ap, aq, au, av, aw, ax, ay, az, aA, aB, aC, aD, aE, aF, aG, aH, aI, aJ, aK, aL, aM, aN, aO, aP, aQ, aR, aS, aT, aU, aV, aW, aX, aY, aZ, a4, a5, a6, a7, a8, a9], []⟩ W := by
 replace HQ : Hid (lv7f Q x5 x6 p q u (nth [u0, u1, u2, u3, u4, undef, undef, u7, u8, u9, aa, ab, ad, ae, af, ag, ah, ai, aj, ak, al, am, an, ao, ap, aq, au, av, aw, ax, ay, az, aA, aB, aC, aD, aE, aF, aG, aH, aI, aJ, aK, aL, aM, aN, aO, aP, aQ, aR, aS, aT, aU, aV, aW, aX, aY, aZ, a4, a5, a6, a7, a8, a9]) W) := HQ
 refine wp_region_noPanic ?_
 refine wp_region_held_drew (S := fun _ => True) (by kernel_rfl) trivial (fun _ => ?_)
 refine sym (by kernel_rfl) (lv7I x5 x6 p q u (nth [u0, u1, u2, u3, u4, undef, undef, u7, u8, u9, aa, ab, ad, ae, af, ag, ah, ai, aj, ak, al, am, an, ao, ap, aq, au, av, aw, ax, ay, az, aA, aB, aC, aD, aE, aF, aG, aH, aI, aJ, aK, aL, aM, aN, aO, aP, aQ, aR, aS, aT, aU, aV, aW, aX, aY, aZ, a4, a5, a6, a7, a8, a9]) W) (fun F i a w hi h0 hd cl I => ?_) (fun F a w hF I => ?_) _ _ _ _ (by simp) (of_decide_eq_true (by kernel_rfl)) clo0 ?_
 ·match i, hi with
  | 0, _ => exact lv7_0 H _ _ _ h0 hd cl I
  | 1, _ => exact lv7_1 H _ _ _ h0 hd cl I
  | 2, _ => exact lv7_2 H _ _ _ h0 hd cl I
  | 3, _ => exact lv7_3 H _ _ _ h0 hd cl I
  | 4, _ => exact lv7_4 H _ _ _ h0 hd cl I
  | 5, _ => exact lv7_5 H _ _ _ h0 hd cl I
  | 6, _ => exact lv7_6 H _ _ _ h0 hd cl I
  | 7, _ => exact lv7_7 H _ _ _ h0 hd cl I
  | 8, _ => exact lv7_8 H _ _ _ h0 hd cl I
  | 9, _ => exact lv7_9 H _ _ _ h0 hd cl I
  | 10, _ => exact lv7_10 H _ _ _ h0 hd cl I
  | k + 11, h => exact absurd h (Nat.not_lt.2 (Nat.le_add_left 11 k))
 ·obtain ⟨t1, t2, t3, t4, rb, rfl, HH, A1_, N1_, A2_, N2_, A3_, N3_, A4_, N4_, TH_, RB_, FR_⟩ := I
  have A1 := Hn (A1_.out (hF 1 (by decide)))
  have N1 := Hn (N1_.out (hF 1 (by decide)) (hF 9 (by decide)))
  have A2 := Hn (A2_.out (hF 3 (by decide)))
  have N2 := Hn (N2_.out (hF 3 (by decide)) (hF 9 (by decide)))
  have A3 := Hn (A3_.out (hF 5 (by decide)))
  have N3 := Hn (N3_.out (hF 5 (by decide)) (hF 9 (by decide)))
  have A4 := Hn (A4_.out (hF 7 (by decide)))
  have N4 := Hn (N4_.out (hF 7 (by decide)) (hF 9 (by decide)))
  have RB := Hn (RB_.out (hF 9 (by decide)))
  have FR := Hn (FR_.out (hF 10 (by decide)))
  refine NoPanic.normal ?_
  have e : lv7S (nth [u0, u1, u2, u3, u4, undef, undef, u7, u8, u9, aa, ab, ad, ae, af, ag, ah, ai, aj, ak, al, am, an, ao, ap, aq, au, av, aw, ax, ay, az, aA, aB, aC, aD, aE, aF, aG, aH, aI, aJ, aK, aL, aM, aN, aO, aP, aQ, aR, aS, aT, aU, aV, aW, aX, aY, aZ, a4, a5, a6, a7, a8, a9]) x5 x6 p q u t1 t2 t3 t4 rb F = lv7S (nth [u0, u1, u2, u3, u4, undef, undef, u7, u8, u9, aa, ab, ad, ae, af, ag, ah, ai, aj, ak, al, am, an, ao, ap, aq, au, av, aw, ax, ay, az, aA, aB, aC, aD, aE, aF, aG, aH, aI, aJ, aK, aL, aM, aN, aO, aP, aQ, aR, aS, aT, aU, aV, aW, aX, aY, aZ, a4, a5, a6, a7, a8, a9]) x5 x6 p q u t1 t2 t3 t4 rb (fun _ => true) := by simp only [lv7S, hF 0 (by decide), hF 1 (by decide), hF 2 (by decide), hF 3 (by decide), hF 4 (by decide), hF 5 (by decide), hF 6 (by decide), hF 7 (by decide), hF 8 (by decide), hF 9 (by decide), hF 10 (by decide)]
  rw [e]
  exact HQ.out _ t1 t2 t3 t4 rb HH.out A1.out A2.out A3.out A4.out RB.out FR.out
 ·obtain ⟨x50, x51, x52, x53, x60, x61, x62, x63, C1⟩ := H
  have e0 : (fun k => (Array.replicate lv7o.size false).getD k false) = fun _ => false := funext rep0
  rw [e0]
  exact ⟨0, 0, 0, 0, 0, rfl, Hn (bl_drew W), Hn (fun h => tr2 h), Hn (fun h _ => tr2 h), Hn (fun h => tr2 h), Hn (fun h _ => tr2 h), Hn (fun h => tr2 h), Hn (fun h _ => tr2 h), Hn (fun h => tr2 h), Hn (fun h _ => tr2 h), Hn (fun h _ => tr2 h), Hn (fun h => tr2 h), Hn (fun h => tr2 h)⟩
end Ci
end Go.Proofs.YthngomhhafoamaaGreatDoor
