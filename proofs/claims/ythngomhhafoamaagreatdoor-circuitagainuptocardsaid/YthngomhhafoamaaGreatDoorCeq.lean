import Derived.Test.YthngomhhafoamaaGreatDoorCep
set_option linter.unusedVariables false
set_option linter.unusedSimpArgs false
set_option maxRecDepth 100000
set_option maxHeartbeats 16000000
namespace Go.Proofs.YthngomhhafoamaaGreatDoor
open Go.RowKit
open Cm (Wr Tm co bf Ls lf ins Eqm)
namespace Ci
def pCeq0 : String := "outright.go:21"
def lv80 : Oper := oO 36 (Op.load 35 (Operand.tmp 6)) 35 pCeq0 #[]
def lv81 : Oper := oO 37 (Op.buildSlice 25 1 #[(0, Operand.tmp 36)]) 25 pCeq0 #[DD 0]
def lv82 : Oper := oO 38 (Op.load 35 (Operand.tmp 6)) 35 pCeq0 #[]
def lv83 : Oper := oO 39 (Op.buildSlice 25 1 #[(0, Operand.tmp 38)]) 25 pCeq0 #[DD 2]
def lv84 : Oper := oO 40 (Op.call { callee := Callee.value (Operand.func 9), args := #[Operand.const (Value.int IntKind.u64 25)], argTypes := #[33] }) 35 pCeq0 #[]
def lv85 : Oper := oO 41 (Op.buildSlice 25 1 #[(0, Operand.tmp 40)]) 25 pCeq0 #[DD 4]
def lv86 : Oper := oO 42 (Op.load 35 (Operand.tmp 6)) 35 pCeq0 #[]
def lv87 : Oper := oO 43 (Op.buildSlice 25 1 #[(0, Operand.tmp 42)]) 25 pCeq0 #[DD 6]
def lv88 : Oper := oO 44 (Op.build 30 #[(0, Operand.tmp 37), (1, Operand.tmp 39), (2, Operand.tmp 41), (3, Operand.tmp 43)]) 30 pCeq0 #[DD 1, DD 3, DD 5, DD 7]
def lv89 : Oper := oO 8 (Op.alloc 30) 0 pCeq0 #[]
def lv810 : Oper := oN (Op.store 30 (Operand.tmp 8) (Operand.tmp 44)) pCeq0 #[DD 9, DD 8, CH 4, PH 0, PH 1, PH 2, PH 3, PH 4, PH 5, PH 6, PH 7, PH 8, PH 9]
def lv8o : Array Oper := #[lv80, lv81, lv82, lv83, lv84, lv85, lv86, lv87, lv88, lv89, lv810]
structure lv8h (x6 : Nat) (q u : E4) (W : World) : Prop where
 x60 : W.cell? ⟨x6, 0, none⟩ = some (.int .u64 q.x0)
 x61 : W.cell? ⟨x6, 1, none⟩ = some (.int .u64 q.x1)
 x62 : W.cell? ⟨x6, 2, none⟩ = some (.int .u64 q.x2)
 x63 : W.cell? ⟨x6, 3, none⟩ = some (.int .u64 q.x3)
 C1 : Hid (∀ y, Calls Tryz.prog 9 #[.int .u64 25] y fun e w' => e = .returned (.agg #[.int .u64 u.x0, .int .u64 u.x1, .int .u64 u.x2, .int .u64 u.x3]) ∧ Below y.heap.size y w')
def lv8S (U : Nat → Value) (x6 : Nat) (q u : E4) (t1 : Nat) (t2 : Nat) (t3 : Nat) (t4 : Nat) (rb : Nat) (F : Nat → Bool) : Array Value := #[(U 0), (U 1), (U 2), (U 3), (U 4), (U 5), (.pointer (some ⟨x6, 0, none⟩)), (U 7), sel (F 9) (.pointer (some ⟨rb, 0, none⟩)) (U 8), (U 9), (U 10), (U 11), (U 12), (U 13), (U 14), (U 15), (U 16), (U 17), (U 18), (U 19), (U 20), (U 21), (U 22), (U 23), (U 24), (U 25), (U 26), (U 27), (U 28), (U 29), (U 30), (U 31), (U 32), (U 33), (U 34), (U 35), sel (F 0) (.agg #[.int .u64 q.x0, .int .u64 q.x1, .int .u64 q.x2, .int .u64 q.x3]) (U 36), sel (F 1) (.slice (some ⟨t1, 0, none⟩) 1 1) (U 37), sel (F 2) (.agg #[.int .u64 q.x0, .int .u64 q.x1, .int .u64 q.x2, .int .u64 q.x3]) (U 38), sel (F 3) (.slice (some ⟨t2, 0, none⟩) 1 1) (U 39), sel (F 4) (.agg #[.int .u64 u.x0, .int .u64 u.x1, .int .u64 u.x2, .int .u64 u.x3]) (U 40), sel (F 5) (.slice (some ⟨t3, 0, none⟩) 1 1) (U 41), sel (F 6) (.agg #[.int .u64 q.x0, .int .u64 q.x1, .int .u64 q.x2, .int .u64 q.x3]) (U 42), sel (F 7) (.slice (some ⟨t4, 0, none⟩) 1 1) (U 43), sel (F 8) (.agg #[.slice (some ⟨t1, 0, none⟩) 1 1, .slice (some ⟨t2, 0, none⟩) 1 1, .slice (some ⟨t3, 0, none⟩) 1 1, .slice (some ⟨t4, 0, none⟩) 1 1]) (U 44), (U 45), (U 46), (U 47), (U 48), (U 49), (U 50), (U 51), (U 52), (U 53), (U 54), (U 55), (U 56), (U 57), (U 58), (U 59), (U 60), (U 61), (U 62), (U 63)]
def lv8F (x6 : Nat) (q u : E4) (t1 : Nat) (t2 : Nat) (t3 : Nat) (t4 : Nat) (rb : Nat) (W : World) (F : Nat → Bool) (w : World) : Prop := Hid (Below W.heap.size W w) ∧ Hid (F 1 = true → Rg w t1 q) ∧ Hid (F 1 = true → F 9 = true → t1 ≠ rb) ∧ Hid (F 3 = true → Rg w t2 q) ∧ Hid (F 3 = true → F 9 = true → t2 ≠ rb) ∧ Hid (F 5 = true → Rg w t3 u) ∧ Hid (F 5 = true → F 9 = true → t3 ≠ rb) ∧ Hid (F 7 = true → Rg w t4 q) ∧ Hid (F 7 = true → F 9 = true → t4 ≠ rb) ∧ Hid (F 9 = true → F 10 = false → w.there rb 0 4) ∧ Hid (F 9 = true → W.heap.size ≤ rb) ∧ Hid (F 10 = true → w.rangeAt rb 0 [.slice (some ⟨t1, 0, none⟩) 1 1, .slice (some ⟨t2, 0, none⟩) 1 1, .slice (some ⟨t3, 0, none⟩) 1 1, .slice (some ⟨t4, 0, none⟩) 1 1])
def lv8I (x6 : Nat) (q u : E4) (U : Nat → Value) (W : World) (F : Nat → Bool) (a : Act) (w : World) : Prop := ∃ (t1 : Nat) (t2 : Nat) (t3 : Nat) (t4 : Nat) (rb : Nat), a = ⟨lv8S U x6 q u t1 t2 t3 t4 rb F, []⟩ ∧ lv8F x6 q u t1 t2 t3 t4 rb W F w
def lv8f (Q : Exit → Act → World → Prop) (x6 : Nat) (q u : E4) (U : Nat → Value) (W : World) : Prop := ∀ (wz : World) (t1 t2 t3 t4 rb : Nat), Below W.heap.size W wz → wz.rangeAt t1 0 [.int .u64 q.x0, .int .u64 q.x1, .int .u64 q.x2, .int .u64 q.x3] → wz.rangeAt t2 0 [.int .u64 q.x0, .int .u64 q.x1, .int .u64 q.x2, .int .u64 q.x3] → wz.rangeAt t3 0 [.int .u64 u.x0, .int .u64 u.x1, .int .u64 u.x2, .int .u64 u.x3] → wz.rangeAt t4 0 [.int .u64 q.x0, .int .u64 q.x1, .int .u64 q.x2, .int .u64 q.x3] → W.heap.size ≤ rb → wz.rangeAt rb 0 [.slice (some ⟨t1, 0, none⟩) 1 1, .slice (some ⟨t2, 0, none⟩) 1 1, .slice (some ⟨t3, 0, none⟩) 1 1, .slice (some ⟨t4, 0, none⟩) 1 1] → Q .normal ⟨lv8S U x6 q u t1 t2 t3 t4 rb (fun _ => true), []⟩ wz
def lv8T (Q : Exit → Act → World → Prop) (x6 : Nat) (q u : E4) (U : Nat → Value) (W : World) (i : Nat) : Prop := lv8h x6 q u W → ∀ (F : Nat → Bool) (a : Act) (w : World), F i = false → (∀ k, (dp .any lv8o i).contains k = true → F k = true) → clo .any lv8o F → lv8I x6 q u U W F a w → wpOp Tryz.prog lv8o (NoPanic Q) i (fun a w => lv8I x6 q u U W (up F i) a w) a w
section
variable {Q : Exit → Act → World → Prop} {x6 : Nat} {q u : E4} {U : Nat → Value} {W : World}
theorem lv8_0 : lv8T Q x6 q u U W 0 := by
 intro H F a w hz hd cl I
 obtain ⟨x60, x61, x62, x63, C1⟩ := H
 obtain ⟨t1, t2, t3, t4, rb, rfl, I⟩ := I
 refine wpOp_val lv80 (.agg #[.int .u64 q.x0, .int .u64 q.x1, .int .u64 q.x2, .int .u64 q.x3]) rfl rfl ?_ ⟨t1, t2, t3, t4, rb, ?_, I⟩
 ·(obtain ⟨HH_, A1_, N1_, A2_, N2_, A3_, N3_, A4_, N4_, TH_, RB_, FR_⟩ := I; have hS := HH_.out; have a0 := cell_keep x60 hS; have a1 := cell_keep x61 hS; have a2 := cell_keep x62 hS; have a3 := cell_keep x63 hS; clear hS HH_ A1_ N1_ A2_ N2_ A3_ N3_ A4_ N4_ TH_ RB_ FR_; unfold lv80 oO; simp only [lv8S, selT]; go_simp)
 ·(unfold lv80 oO; simp only [lv8S, Act.put, sA, sB, sC]; rfl)
theorem lv8_1 : lv8T Q x6 q u U W 1 := by
 intro H F a w hz hd cl I
 obtain ⟨x60, x61, x62, x63, C1⟩ := H
 obtain ⟨t1, t2, t3, t4, rb, rfl, HH_, A1_, N1_, A2_, N2_, A3_, N3_, A4_, N4_, TH_, RB_, FR_⟩ := I
 have d0 := hd 0 rfl
 have n8 := nT hz cl 8
 have n10 := nT hz cl 10
 refine wpOp_step (o := lv81) rfl (fun K hK => ?_)
 replace hK := Hn hK
 simp only [lv8S, selT, selF, d0, n8, n10]
 clear cl hd
 have HH := HH_
 refine wp_b1 HH _ rfl q rfl (fun t1 w2 hbb SN A1 htb => ?_)
 unfold lv81 oO
 refine hK.out _ _ ⟨t1, t2, t3, t4, rb, ?_, SN, Hn (fun h1 => A1.out), Hn (fun h1 h9 => by have TH := Hn (TH_.out h9 n10); exact (nTH TH htb).out), Hn (fun h3 => by have A2 := Hn (A2_.out h3); exact (kRg A2 hbb).out), N2_, Hn (fun h5 => by have A3 := Hn (A3_.out h5); exact (kRg A3 hbb).out), N3_, Hn (fun h7 => by have A4 := Hn (A4_.out h7); exact (kRg A4 hbb).out), N4_, Hn (fun h9 h10 => by have TH := Hn (TH_.out h9 h10); exact (kTH TH hbb).out), RB_, Hn (fun h10 => tf h10 n10)⟩
 simp only [lv8S, Act.put, sA, sB, sC, selT, selF, uT d0, uN 1 n8, uN 1 n10]
 rfl
theorem lv8_2 : lv8T Q x6 q u U W 2 := by
 intro H F a w hz hd cl I
 obtain ⟨x60, x61, x62, x63, C1⟩ := H
 obtain ⟨t1, t2, t3, t4, rb, rfl, I⟩ := I
 refine wpOp_val lv82 (.agg #[.int .u64 q.x0, .int .u64 q.x1, .int .u64 q.x2, .int .u64 q.x3]) rfl rfl ?_ ⟨t1, t2, t3, t4, rb, ?_, I⟩
 ·(obtain ⟨HH_, A1_, N1_, A2_, N2_, A3_, N3_, A4_, N4_, TH_, RB_, FR_⟩ := I; have hS := HH_.out; have a0 := cell_keep x60 hS; have a1 := cell_keep x61 hS; have a2 := cell_keep x62 hS; have a3 := cell_keep x63 hS; clear hS HH_ A1_ N1_ A2_ N2_ A3_ N3_ A4_ N4_ TH_ RB_ FR_; unfold lv82 oO; simp only [lv8S, selT]; go_simp)
 ·(unfold lv82 oO; simp only [lv8S, Act.put, sA, sB, sC]; rfl)
theorem lv8_3 : lv8T Q x6 q u U W 3 := by
 intro H F a w hz hd cl I
 obtain ⟨x60, x61, x62, x63, C1⟩ := H
 obtain ⟨t1, t2, t3, t4, rb, rfl, HH_, A1_, N1_, A2_, N2_, A3_, N3_, A4_, N4_, TH_, RB_, FR_⟩ := I
 have d2 := hd 2 rfl
 have n8 := nT hz cl 8
 have n10 := nT hz cl 10
 refine wpOp_step (o := lv83) rfl (fun K hK => ?_)
 replace hK := Hn hK
 simp only [lv8S, selT, selF, d2, n8, n10]
 clear cl hd
 have HH := HH_
 refine wp_b1 HH _ rfl q rfl (fun t2 w2 hbb SN A2 htb => ?_)
 unfold lv83 oO
 refine hK.out _ _ ⟨t1, t2, t3, t4, rb, ?_, SN, Hn (fun h1 => by have A1 := Hn (A1_.out h1); exact (kRg A1 hbb).out), N1_, Hn (fun h3 => A2.out), Hn (fun h3 h9 => by have TH := Hn (TH_.out h9 n10); exact (nTH TH htb).out), Hn (fun h5 => by have A3 := Hn (A3_.out h5); exact (kRg A3 hbb).out), N3_, Hn (fun h7 => by have A4 := Hn (A4_.out h7); exact (kRg A4 hbb).out), N4_, Hn (fun h9 h10 => by have TH := Hn (TH_.out h9 h10); exact (kTH TH hbb).out), RB_, Hn (fun h10 => tf h10 n10)⟩
 simp only [lv8S, Act.put, sA, sB, sC, selT, selF, uT d2, uN 3 n8, uN 3 n10]
 rfl
theorem lv8_4 : lv8T Q x6 q u U W 4 := by
 intro H F a w hz hd cl I
 obtain ⟨x60, x61, x62, x63, C1⟩ := H
 obtain ⟨t1, t2, t3, t4, rb, rfl, HH_, A1_, N1_, A2_, N2_, A3_, N3_, A4_, N4_, TH_, RB_, FR_⟩ := I
 have n5 := nT hz cl 5
 have n10 := nT hz cl 10
 refine wpOp_step (o := lv84) rfl (fun K hK => ?_)
 replace hK := Hn hK
 simp only [lv8S, selT, selF, n5, n10]
 clear cl hd
 have HH := HH_
 unfold lv84 oO
 go_simp
 refine (C1.out _).mono ?_
 rintro e w2 ⟨rfl, hb⟩
 have SN := Hn (bl_trans HH.out hb : Below W.heap.size W w2)
 go_wp2_with fail
 refine hK.out _ _ ⟨t1, t2, t3, t4, rb, ?_, SN, Hn (fun h1 => by have A1 := Hn (A1_.out h1); exact (kRg A1 hb).out), N1_, Hn (fun h3 => by have A2 := Hn (A2_.out h3); exact (kRg A2 hb).out), N2_, Hn (fun h5 => tf h5 n5), Hn (fun h5 h9 => tf h5 n5), Hn (fun h7 => by have A4 := Hn (A4_.out h7); exact (kRg A4 hb).out), N4_, Hn (fun h9 h10 => by have TH := Hn (TH_.out h9 h10); exact (kTH TH hb).out), RB_, Hn (fun h10 => tf h10 n10)⟩
 simp only [lv8S, Act.put, sA, sB, sC, selT, selF, uN 4 n5, uN 4 n10]
 rfl
theorem lv8_5 : lv8T Q x6 q u U W 5 := by
 intro H F a w hz hd cl I
 obtain ⟨x60, x61, x62, x63, C1⟩ := H
 obtain ⟨t1, t2, t3, t4, rb, rfl, HH_, A1_, N1_, A2_, N2_, A3_, N3_, A4_, N4_, TH_, RB_, FR_⟩ := I
 have d4 := hd 4 rfl
 have n8 := nT hz cl 8
 have n10 := nT hz cl 10
 refine wpOp_step (o := lv85) rfl (fun K hK => ?_)
 replace hK := Hn hK
 simp only [lv8S, selT, selF, d4, n8, n10]
 clear cl hd
 have HH := HH_
 refine wp_b1 HH _ rfl u rfl (fun t3 w2 hbb SN A3 htb => ?_)
 unfold lv85 oO
 refine hK.out _ _ ⟨t1, t2, t3, t4, rb, ?_, SN, Hn (fun h1 => by have A1 := Hn (A1_.out h1); exact (kRg A1 hbb).out), N1_, Hn (fun h3 => by have A2 := Hn (A2_.out h3); exact (kRg A2 hbb).out), N2_, Hn (fun h5 => A3.out), Hn (fun h5 h9 => by have TH := Hn (TH_.out h9 n10); exact (nTH TH htb).out), Hn (fun h7 => by have A4 := Hn (A4_.out h7); exact (kRg A4 hbb).out), N4_, Hn (fun h9 h10 => by have TH := Hn (TH_.out h9 h10); exact (kTH TH hbb).out), RB_, Hn (fun h10 => tf h10 n10)⟩
 simp only [lv8S, Act.put, sA, sB, sC, selT, selF, uT d4, uN 5 n8, uN 5 n10]
 rfl
theorem lv8_6 : lv8T Q x6 q u U W 6 := by
 intro H F a w hz hd cl I
 obtain ⟨x60, x61, x62, x63, C1⟩ := H
 obtain ⟨t1, t2, t3, t4, rb, rfl, I⟩ := I
 refine wpOp_val lv86 (.agg #[.int .u64 q.x0, .int .u64 q.x1, .int .u64 q.x2, .int .u64 q.x3]) rfl rfl ?_ ⟨t1, t2, t3, t4, rb, ?_, I⟩
 ·(obtain ⟨HH_, A1_, N1_, A2_, N2_, A3_, N3_, A4_, N4_, TH_, RB_, FR_⟩ := I; have hS := HH_.out; have a0 := cell_keep x60 hS; have a1 := cell_keep x61 hS; have a2 := cell_keep x62 hS; have a3 := cell_keep x63 hS; clear hS HH_ A1_ N1_ A2_ N2_ A3_ N3_ A4_ N4_ TH_ RB_ FR_; unfold lv86 oO; simp only [lv8S, selT]; go_simp)
 ·(unfold lv86 oO; simp only [lv8S, Act.put, sA, sB, sC]; rfl)
theorem lv8_7 : lv8T Q x6 q u U W 7 := by
 intro H F a w hz hd cl I
 obtain ⟨x60, x61, x62, x63, C1⟩ := H
 obtain ⟨t1, t2, t3, t4, rb, rfl, HH_, A1_, N1_, A2_, N2_, A3_, N3_, A4_, N4_, TH_, RB_, FR_⟩ := I
 have d6 := hd 6 rfl
 have n8 := nT hz cl 8
 have n10 := nT hz cl 10
 refine wpOp_step (o := lv87) rfl (fun K hK => ?_)
 replace hK := Hn hK
 simp only [lv8S, selT, selF, d6, n8, n10]
 clear cl hd
 have HH := HH_
 refine wp_b1 HH _ rfl q rfl (fun t4 w2 hbb SN A4 htb => ?_)
 unfold lv87 oO
 refine hK.out _ _ ⟨t1, t2, t3, t4, rb, ?_, SN, Hn (fun h1 => by have A1 := Hn (A1_.out h1); exact (kRg A1 hbb).out), N1_, Hn (fun h3 => by have A2 := Hn (A2_.out h3); exact (kRg A2 hbb).out), N2_, Hn (fun h5 => by have A3 := Hn (A3_.out h5); exact (kRg A3 hbb).out), N3_, Hn (fun h7 => A4.out), Hn (fun h7 h9 => by have TH := Hn (TH_.out h9 n10); exact (nTH TH htb).out), Hn (fun h9 h10 => by have TH := Hn (TH_.out h9 h10); exact (kTH TH hbb).out), RB_, Hn (fun h10 => tf h10 n10)⟩
 simp only [lv8S, Act.put, sA, sB, sC, selT, selF, uT d6, uN 7 n8, uN 7 n10]
 rfl
theorem lv8_8 : lv8T Q x6 q u U W 8 := by
 intro H F a w hz hd cl I
 obtain ⟨x60, x61, x62, x63, C1⟩ := H
 obtain ⟨t1, t2, t3, t4, rb, rfl, I⟩ := I
 have d7 := hd 7 rfl
 have d5 := hd 5 rfl
 have d3 := hd 3 rfl
 have d1 := hd 1 rfl
 refine wpOp_val lv88 (.agg #[.slice (some ⟨t1, 0, none⟩) 1 1, .slice (some ⟨t2, 0, none⟩) 1 1, .slice (some ⟨t3, 0, none⟩) 1 1, .slice (some ⟨t4, 0, none⟩) 1 1]) rfl rfl ?_ ⟨t1, t2, t3, t4, rb, ?_, I⟩
 ·(clear I; unfold lv88 oO; simp only [lv8S, selT, d1, d3, d5, d7]; go_simp)
 ·(unfold lv88 oO; simp only [lv8S, Act.put, sA, sB, sC]; rfl)
theorem lv8_9 : lv8T Q x6 q u U W 9 := by
 intro H F a w hz hd cl I
 obtain ⟨x60, x61, x62, x63, C1⟩ := H
 obtain ⟨t1, t2, t3, t4, rb, rfl, HH_, A1_, N1_, A2_, N2_, A3_, N3_, A4_, N4_, TH_, RB_, FR_⟩ := I
 have n10 := nT hz cl 10
 refine wpOp_step (o := lv89) rfl (fun K hK => ?_)
 replace hK := Hn hK
 simp only [lv8S, selT, selF, n10]
 clear cl hd
 have HH := HH_
 refine wp_a1 HH rfl (fun rb w2 hbb SN TH RB htb => ?_)
 unfold lv89 oO
 refine hK.out _ _ ⟨t1, t2, t3, t4, rb, ?_, SN, Hn (fun h1 => by have A1 := Hn (A1_.out h1); exact (kRg A1 hbb).out), Hn (fun h1 h9 => by have A1 := Hn (A1_.out h1); exact (nRG A1 htb).out), Hn (fun h3 => by have A2 := Hn (A2_.out h3); exact (kRg A2 hbb).out), Hn (fun h3 h9 => by have A2 := Hn (A2_.out h3); exact (nRG A2 htb).out), Hn (fun h5 => by have A3 := Hn (A3_.out h5); exact (kRg A3 hbb).out), Hn (fun h5 h9 => by have A3 := Hn (A3_.out h5); exact (nRG A3 htb).out), Hn (fun h7 => by have A4 := Hn (A4_.out h7); exact (kRg A4 hbb).out), Hn (fun h7 h9 => by have A4 := Hn (A4_.out h7); exact (nRG A4 htb).out), Hn (fun h9 h10 => TH.out), Hn (fun h9 => RB.out), Hn (fun h10 => tf h10 n10)⟩
 simp only [lv8S, Act.put, sA, sB, sC, selT, selF, uN 9 n10]
 rfl
theorem lv8_10 : lv8T Q x6 q u U W 10 := by
 intro H F a w hz hd cl I
 obtain ⟨x60, x61, x62, x63, C1⟩ := H
 obtain ⟨t1, t2, t3, t4, rb, rfl, HH_, A1_, N1_, A2_, N2_, A3_, N3_, A4_, N4_, TH_, RB_, FR_⟩ := I
 have d9 := hd 9 rfl
 have d8 := hd 8 rfl
 refine wpOp_step (o := lv810) rfl (fun K hK => ?_)
 replace hK := Hn hK
 simp only [lv8S, selT, selF, d8, d9]
 clear cl hd
 have HH := HH_
 have TH := Hn (TH_.out d9 hz); have RB := Hn (RB_.out d9)
 refine wp_storeE 30 _ _ rfl rb 0 ([.slice (some ⟨t1, 0, none⟩) 1 1, .slice (some ⟨t2, 0, none⟩) 1 1, .slice (some ⟨t3, 0, none⟩) 1 1, .slice (some ⟨t4, 0, none⟩) 1 1]) (by rfl) (by rfl) TH.out i4a (by simp [Value.oneCell']) rfl (fun w2 hw => ?_)
 have SN := Hn (by rw [hw]; exact HH.out.grown (gb_setCells rb [.slice (some ⟨t1, 0, none⟩) 1 1, .slice (some ⟨t2, 0, none⟩) 1 1, .slice (some ⟨t3, 0, none⟩) 1 1, .slice (some ⟨t4, 0, none⟩) 1 1] 0 _) HH.out.size (fun k hk => by obtain rfl := Option.some.inj hk; exact RB.out) : Below W.heap.size W w2)
 refine hK.out _ _ ⟨t1, t2, t3, t4, rb, ?_, SN, Hn (fun h1 => by have A1 := Hn (A1_.out h1); have N1 := Hn (N1_.out h1 d9); rw [hw]; exact fun j u hu => (gb_setCells rb [.slice (some ⟨t1, 0, none⟩) 1 1, .slice (some ⟨t2, 0, none⟩) 1 1, .slice (some ⟨t3, 0, none⟩) 1 1, .slice (some ⟨t4, 0, none⟩) 1 1] 0 _).cell (A1.out j u hu) (fun e => N1.out (Option.some.inj e))), N1_, Hn (fun h3 => by have A2 := Hn (A2_.out h3); have N2 := Hn (N2_.out h3 d9); rw [hw]; exact fun j u hu => (gb_setCells rb [.slice (some ⟨t1, 0, none⟩) 1 1, .slice (some ⟨t2, 0, none⟩) 1 1, .slice (some ⟨t3, 0, none⟩) 1 1, .slice (some ⟨t4, 0, none⟩) 1 1] 0 _).cell (A2.out j u hu) (fun e => N2.out (Option.some.inj e))), N2_, Hn (fun h5 => by have A3 := Hn (A3_.out h5); have N3 := Hn (N3_.out h5 d9); rw [hw]; exact fun j u hu => (gb_setCells rb [.slice (some ⟨t1, 0, none⟩) 1 1, .slice (some ⟨t2, 0, none⟩) 1 1, .slice (some ⟨t3, 0, none⟩) 1 1, .slice (some ⟨t4, 0, none⟩) 1 1] 0 _).cell (A3.out j u hu) (fun e => N3.out (Option.some.inj e))), N3_, Hn (fun h7 => by have A4 := Hn (A4_.out h7); have N4 := Hn (N4_.out h7 d9); rw [hw]; exact fun j u hu => (gb_setCells rb [.slice (some ⟨t1, 0, none⟩) 1 1, .slice (some ⟨t2, 0, none⟩) 1 1, .slice (some ⟨t3, 0, none⟩) 1 1, .slice (some ⟨t4, 0, none⟩) 1 1] 0 _).cell (A4.out j u hu) (fun e => N4.out (Option.some.inj e))), N4_, Hn (fun h9 h10 => tr h10), RB_, Hn (fun h10 => by have TH := Hn (TH_.out d9 hz); rw [hw]; exact World.rangeAt_setCells_same _ rb 0 _ TH.out)⟩
 simp only [lv8S, Act.put, sA, sB, sC, selT, selF, uT d8, uT d9]
 rfl
end
theorem lv8 (Q : Exit → Act → World → Prop) (x6 : Nat) (q u : E4) (u0 u1 u2 u3 u4 u5 u7 u8 u9 aa ab ad ae af ag ah ai aj ak al am an ao ap aq au av aw ax ay az aA aB aC aD aE aF aG aH aI aJ aK aL aM aN aO aP aQ aR aS aT aU aV aW aX aY aZ a4 a5 a6 a7 a8 a9 : Value) (W : World) (H : lv8h x6 q u W)
  (HQ : Hid (∀ (wz : World) (t1 t2 t3 t4 rb : Nat), Below W.heap.size W wz → wz.rangeAt t1 0 [.int .u64 q.x0, .int .u64 q.x1, .int .u64 q.x2, .int .u64 q.x3] → wz.rangeAt t2 0 [.int .u64 q.x0, .int .u64 q.x1, .int .u64 q.x2, .int .u64 q.x3] → wz.rangeAt t3 0 [.int .u64 u.x0, .int .u64 u.x1, .int .u64 u.x2, .int .u64 u.x3] → wz.rangeAt t4 0 [.int .u64 q.x0, .int .u64 q.x1, .int .u64 q.x2, .int .u64 q.x3] → W.heap.size ≤ rb → wz.rangeAt rb 0 [.slice (some ⟨t1, 0, none⟩) 1 1, .slice (some ⟨t2, 0, none⟩) 1 1, .slice (some ⟨t3, 0, none⟩) 1 1, .slice (some ⟨t4, 0, none⟩) 1 1] → Q .normal ⟨#[u0, u1, u2, u3, u4, u5, .pointer (some ⟨x6, 0, none⟩), u7, .pointer (some ⟨rb, 0, none⟩), u9, aa, ab, ad, ae, af, ag, ah, ai, aj, ak, al, am, an, ao, ap, aq, au, av, aw, ax, ay, az, aA, aB, aC, aD, .agg #[.int .u64 q.x0, .int .u64 q.x1, .int .u64 q.x2, .int .u64 q.x3], .slice (some ⟨t1, 0, none⟩) 1 1, .agg #[.int .u64 q.x0, .int .u64 q.x1, .int .u64 q.x2, .int .u64 q.x3], .slice (some ⟨t2, 0, none⟩) 1 1, .agg #[.int .u64 u.x0, .int .u64 u.x1, .int .u64 u.x2, .int .u64 u.x3], .slice (some ⟨t3, 0, none⟩) 1 1, .agg #[.int .u64 q.x0, .int .u64 q.x1, .int .u64 q.x2, .int .u64 q.x3], .slice (some ⟨t4, 0, none⟩) 1 1, .agg #[.slice (some ⟨t1, 0, none⟩) 1 1, .slice (some ⟨t2, 0, none⟩) 1 1, .slice (some ⟨t3, 0, none⟩) 1 1, .slice (some ⟨t4, 0, none⟩) 1 1], aN, aO, aP, aQ, aR, aS, aT, aU, aV, aW, aX, aY, aZ, a4, a5, a6, a7, a8, a9], []⟩ wz)) : (Code.region 8 lv8o true).wp Tryz.prog Q ⟨#[u0, u1, u2, u3, u4, u5, .pointer (some ⟨x6, 0, none⟩), u7, u8, u9, aa, ab, ad, ae, af, ag, ah, ai, aj, ak, al, am, an, ao, ap, aq, au, av, aw, ax, ay, az, aA, aB, aC, aD, aE, aF, aG, aH, aI, aJ, aK, aL, aM, aN, aO, aP, aQ, aR, aS, aT, aU, aV, aW, aX, aY, aZ, a4, a5, a6, a7, a8, a9], []⟩ W := by
 replace HQ : Hid (lv8f Q x6 q u (nth [u0, u1, u2, u3, u4, u5, undef, u7, u8, u9, aa, ab, ad, ae, af, ag, ah, ai, aj, ak, al, am, an, ao, ap, aq, au, av, aw, ax, ay, az, aA, aB, aC, aD, aE, aF, aG, aH, aI, aJ, aK, aL, aM, aN, aO, aP, aQ, aR, aS, aT, aU, aV, aW, aX, aY, aZ, a4, a5, a6, a7, a8, a9]) W) := HQ
 refine wp_region_noPanic ?_
 refine wp_region_held_drew (S := fun _ => True) (by kernel_rfl) trivial (fun _ => ?_)
 refine sym (by kernel_rfl) (lv8I x6 q u (nth [u0, u1, u2, u3, u4, u5, undef, u7, u8, u9, aa, ab, ad, ae, af, ag, ah, ai, aj, ak, al, am, an, ao, ap, aq, au, av, aw, ax, ay, az, aA, aB, aC, aD, aE, aF, aG, aH, aI, aJ, aK, aL, aM, aN, aO, aP, aQ, aR, aS, aT, aU, aV, aW, aX, aY, aZ, a4, a5, a6, a7, a8, a9]) W) (fun F i a w hi h0 hd cl I => ?_) (fun F a w hF I => ?_) _ _ _ _ (by simp) (of_decide_eq_true (by kernel_rfl)) clo0 ?_
 ·match i, hi with
  | 0, _ => exact lv8_0 H _ _ _ h0 hd cl I
  | 1, _ => exact lv8_1 H _ _ _ h0 hd cl I
  | 2, _ => exact lv8_2 H _ _ _ h0 hd cl I
  | 3, _ => exact lv8_3 H _ _ _ h0 hd cl I
  | 4, _ => exact lv8_4 H _ _ _ h0 hd cl I
  | 5, _ => exact lv8_5 H _ _ _ h0 hd cl I
  | 6, _ => exact lv8_6 H _ _ _ h0 hd cl I
  | 7, _ => exact lv8_7 H _ _ _ h0 hd cl I
  | 8, _ => exact lv8_8 H _ _ _ h0 hd cl I
  | 9, _ => exact lv8_9 H _ _ _ h0 hd cl I
  | 10, _ => exact lv8_10 H _ _ _ h0 hd cl I
  | k + 11, h => exact absurd h (Nat.not_lt.2 (Nat.le_add_left 11 k))
 ·obtain ⟨t1, t2, t3, t4, rb, rfl, HH, A1_, N1_, A2_, N2_, A3_, N3_, A4_, N4_, TH_, RB_, FR_⟩ := I
  have A1 := Hn (A1_.out (hF 1 (by decide)))
  have N1 := Hn (N1_.out (hF 1 (by decide)) (hF 9 (by decide)))
  have A2 := Hn (A2_.out (hF 3 (by decide)))
  have N2 := Hn (N2_.out (hF 3 (by decide)) (hF 9 (by decide)))
  have A3 := Hn (A3_.out (hF 5 (by decide)))
  have N3 := Hn (N3_.out (hF 5 (by decide)) (hF 9 (by decide)))
  have A4 := Hn (A4_.out (hF 7 (by decide)))
  have N4 := Hn (N4_.out (hF 7 (by decide)) (hF 9 (by decide)))
  have RB := Hn (RB_.out (hF 9 (by decide)))
  have FR := Hn (FR_.out (hF 10 (by decide)))
  refine NoPanic.normal ?_
  have e : lv8S (nth [u0, u1, u2, u3, u4, u5, undef, u7, u8, u9, aa, ab, ad, ae, af, ag, ah, ai, aj, ak, al, am, an, ao, ap, aq, au, av, aw, ax, ay, az, aA, aB, aC, aD, aE, aF, aG, aH, aI, aJ, aK, aL, aM, aN, aO, aP, aQ, aR, aS, aT, aU, aV, aW, aX, aY, aZ, a4, a5, a6, a7, a8, a9]) x6 q u t1 t2 t3 t4 rb F = lv8S (nth [u0, u1, u2, u3, u4, u5, undef, u7, u8, u9, aa, ab, ad, ae, af, ag, ah, ai, aj, ak, al, am, an, ao, ap, aq, au, av, aw, ax, ay, az, aA, aB, aC, aD, aE, aF, aG, aH, aI, aJ, aK, aL, aM, aN, aO, aP, aQ, aR, aS, aT, aU, aV, aW, aX, aY, aZ, a4, a5, a6, a7, a8, a9]) x6 q u t1 t2 t3 t4 rb (fun _ => true) := by simp only [lv8S, hF 0 (by decide), hF 1 (by decide), hF 2 (by decide), hF 3 (by decide), hF 4 (by decide), hF 5 (by decide), hF 6 (by decide), hF 7 (by decide), hF 8 (by decide), hF 9 (by decide), hF 10 (by decide)]
  rw [e]
  exact HQ.out _ t1 t2 t3 t4 rb HH.out A1.out A2.out A3.out A4.out RB.out FR.out
 ·obtain ⟨x60, x61, x62, x63, C1⟩ := H
  have e0 : (fun k => (Array.replicate lv8o.size false).getD k false) = fun _ => false := funext rep0
  rw [e0]
  exact ⟨0, 0, 0, 0, 0, rfl, Hn (bl_drew W), Hn (fun h => tr2 h), Hn (fun h _ => tr2 h), Hn (fun h => tr2 h), Hn (fun h _ => tr2 h), Hn (fun h => tr2 h), Hn (fun h _ => tr2 h), Hn (fun h => tr2 h), Hn (fun h _ => tr2 h), Hn (fun h _ => tr2 h), Hn (fun h => tr2 h), Hn (fun h => tr2 h)⟩
end Ci
end Go.Proofs.YthngomhhafoamaaGreatDoor
