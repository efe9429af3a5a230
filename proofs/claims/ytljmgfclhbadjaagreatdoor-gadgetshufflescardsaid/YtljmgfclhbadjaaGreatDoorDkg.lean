import Derived.Test.YtljmgfclhbadjaaGreatDoorTk
import Derived.Test.YtljmgfclhbadjaaGreatDoorDbz
namespace Go.Proofs.YtljmgfclhbadjaaGreatDoor
open Go.RowKit
set_option linter.unusedVariables false
set_option linter.unusedSimpArgs false
open Cm (Wr Tm co bf Ls lf ins Eqm)
namespace Ci
set_option maxRecDepth 100000
set_option maxHeartbeats 16000000
theorem own_lower {w : World} {base base' : Nat} {e : TypeId} {size : Nat} {v : Value} {n : Nat} {xs : List Value} (h : w.ownsRow base e size v n xs) (hb : base' ≤ base) : w.ownsRow base' e size v n xs := ⟨h.1, h.2.imp id (fun ⟨g, c, cur, h1, h2, h3⟩ => ⟨g, c, cur, h1, Nat.le_trans hb h2, h3⟩)⟩
theorem i4as : (Tryz.prog.info? 43).map (·.size) = some 4 := by kernel_rfl
def CpR (W wz : World) (xb : Nat) (R : Nat → Sl) (P0 : Option Addr) (c0 : Nat) (P1 : Option Addr) (c1 : Nat) (P2 : Option Addr) (c2 : Nat) (P3 : Option Addr) (c3 : Nat) : Prop := ∃ w1, Below W.heap.size W w1 ∧ w1.ownsRow W.heap.size 53 4 (.slice P0 (R 0).n c0) (R 0).n (s4s (R 0).n (R 0).g) ∧ w1.ownsRow W.heap.size 53 4 (.slice P1 (R 1).n c1) (R 1).n (s4s (R 1).n (R 1).g) ∧ w1.ownsRow W.heap.size 53 4 (.slice P2 (R 2).n c2) (R 2).n (s4s (R 2).n (R 2).g) ∧ w1.ownsRow W.heap.size 53 4 (.slice P3 (R 3).n c3) (R 3).n (s4s (R 3).n (R 3).g) ∧ Dj (.slice P0 (R 0).n c0) (.slice P1 (R 1).n c1) ∧ Dj (.slice P0 (R 0).n c0) (.slice P2 (R 2).n c2) ∧ Dj (.slice P0 (R 0).n c0) (.slice P3 (R 3).n c3) ∧ Dj (.slice P1 (R 1).n c1) (.slice P2 (R 2).n c2) ∧ Dj (.slice P1 (R 1).n c1) (.slice P3 (R 3).n c3) ∧ Dj (.slice P2 (R 2).n c2) (.slice P3 (R 3).n c3) ∧ wz = w1.setCells xb 0 [.slice P0 (R 0).n c0, .slice P1 (R 1).n c1, .slice P2 (R 2).n c2, .slice P3 (R 3).n c3]
def cpy10 : Oper := oO 3 (Op.fieldAddr 43 (Operand.tmp 1) 0) 0 "numbers.go:38" #[]
def cpy11 : Oper := oO 4 (Op.load 41 (Operand.tmp 3)) 41 "numbers.go:38" #[DD 0]
def cpy12 : Oper := oO 5 (Op.call { callee := Callee.value (Operand.func 208), args := #[Operand.tmp 4], argTypes := #[41] }) 41 "numbers.go:38" #[DD 1]
def cpy13 : Oper := oO 6 (Op.fieldAddr 43 (Operand.tmp 1) 1) 0 "numbers.go:38" #[]
def cpy14 : Oper := oO 7 (Op.load 41 (Operand.tmp 6)) 41 "numbers.go:38" #[DD 3]
def cpy15 : Oper := oO 8 (Op.call { callee := Callee.value (Operand.func 208), args := #[Operand.tmp 7], argTypes := #[41] }) 41 "numbers.go:38" #[DD 4, CH 2]
def cpy16 : Oper := oO 9 (Op.fieldAddr 43 (Operand.tmp 1) 2) 0 "numbers.go:38" #[]
def cpy17 : Oper := oO 10 (Op.load 41 (Operand.tmp 9)) 41 "numbers.go:38" #[DD 6]
def cpy18 : Oper := oO 11 (Op.call { callee := Callee.value (Operand.func 208), args := #[Operand.tmp 10], argTypes := #[41] }) 41 "numbers.go:38" #[DD 7, CH 5]
def cpy19 : Oper := oO 12 (Op.fieldAddr 43 (Operand.tmp 1) 3) 0 "numbers.go:38" #[]
def cpy110 : Oper := oO 13 (Op.load 41 (Operand.tmp 12)) 41 "numbers.go:38" #[DD 9]
def cpy111 : Oper := oO 14 (Op.call { callee := Callee.value (Operand.func 208), args := #[Operand.tmp 13], argTypes := #[41] }) 41 "numbers.go:38" #[DD 10, CH 8]
def cpy112 : Oper := oO 15 (Op.build 43 #[(0, Operand.tmp 5), (1, Operand.tmp 8), (2, Operand.tmp 11), (3, Operand.tmp 14)]) 43 "numbers.go:38" #[DD 2, DD 5, DD 8, DD 11]
def cpy113 : Oper := oN (Op.store 43 (Operand.tmp 2) (Operand.tmp 15)) "numbers.go:38" #[DD 12, CH 11, PH 0, PH 1, PH 2, PH 3, PH 4, PH 5, PH 6, PH 7, PH 8, PH 9, PH 10, PH 11, PH 12]
def cpy1o : Array Oper := #[cpy10, cpy11, cpy12, cpy13, cpy14, cpy15, cpy16, cpy17, cpy18, cpy19, cpy110, cpy111, cpy112, cpy113]
structure cpy1h (xa xb : Nat) (R : Nat → Sl) (W : World) : Prop where
 q0 : W.cell? ⟨xa, 0, none⟩ = some (.slice (R 0).p (R 0).n (R 0).c)
 q1 : W.cell? ⟨xa, 1, none⟩ = some (.slice (R 1).p (R 1).n (R 1).c)
 q2 : W.cell? ⟨xa, 2, none⟩ = some (.slice (R 2).p (R 2).n (R 2).c)
 q3 : W.cell? ⟨xa, 3, none⟩ = some (.slice (R 3).p (R 3).n (R 3).c)
 r0 : Ro W (R 0)
 r1 : Ro W (R 1)
 r2 : Ro W (R 2)
 r3 : Ro W (R 3)
 th : W.there xb 0 4
def cpy1S (U : Nat → Value) (xa xb : Nat) (R : Nat → Sl) (P0 : Option Addr) (c0 : Nat) (P1 : Option Addr) (c1 : Nat) (P2 : Option Addr) (c2 : Nat) (P3 : Option Addr) (c3 : Nat) (F : Nat → Bool) : Array Value := #[(U 0), (.pointer (some ⟨xa, 0, none⟩)), (.pointer (some ⟨xb, 0, none⟩)), sel (F 0) (.pointer (some ⟨xa, 0, none⟩)) (U 3), sel (F 1) (.slice (R 0).p (R 0).n (R 0).c) (U 4), sel (F 2) (.slice P0 (R 0).n c0) (U 5), sel (F 3) (.pointer (some ⟨xa, 1, none⟩)) (U 6), sel (F 4) (.slice (R 1).p (R 1).n (R 1).c) (U 7), sel (F 5) (.slice P1 (R 1).n c1) (U 8), sel (F 6) (.pointer (some ⟨xa, 2, none⟩)) (U 9), sel (F 7) (.slice (R 2).p (R 2).n (R 2).c) (U 10), sel (F 8) (.slice P2 (R 2).n c2) (U 11), sel (F 9) (.pointer (some ⟨xa, 3, none⟩)) (U 12), sel (F 10) (.slice (R 3).p (R 3).n (R 3).c) (U 13), sel (F 11) (.slice P3 (R 3).n c3) (U 14), sel (F 12) (.agg #[.slice P0 (R 0).n c0, .slice P1 (R 1).n c1, .slice P2 (R 2).n c2, .slice P3 (R 3).n c3]) (U 15)]
def cpy1F (xa xb : Nat) (R : Nat → Sl) (P0 : Option Addr) (c0 : Nat) (P1 : Option Addr) (c1 : Nat) (P2 : Option Addr) (c2 : Nat) (P3 : Option Addr) (c3 : Nat) (W : World) (F : Nat → Bool) (w : World) : Prop := Hid (True) ∧ Hid (F 13 = false → Below W.heap.size W w) ∧ Hid (F 2 = true → F 13 = false → w.ownsRow W.heap.size 53 4 (.slice P0 (R 0).n c0) (R 0).n (s4s (R 0).n (R 0).g)) ∧ Hid (F 5 = true → F 13 = false → w.ownsRow W.heap.size 53 4 (.slice P1 (R 1).n c1) (R 1).n (s4s (R 1).n (R 1).g)) ∧ Hid (F 2 = true → F 5 = true → Dj (.slice P0 (R 0).n c0) (.slice P1 (R 1).n c1)) ∧ Hid (F 8 = true → F 13 = false → w.ownsRow W.heap.size 53 4 (.slice P2 (R 2).n c2) (R 2).n (s4s (R 2).n (R 2).g)) ∧ Hid (F 2 = true → F 8 = true → Dj (.slice P0 (R 0).n c0) (.slice P2 (R 2).n c2)) ∧ Hid (F 5 = true → F 8 = true → Dj (.slice P1 (R 1).n c1) (.slice P2 (R 2).n c2)) ∧ Hid (F 11 = true → F 13 = false → w.ownsRow W.heap.size 53 4 (.slice P3 (R 3).n c3) (R 3).n (s4s (R 3).n (R 3).g)) ∧ Hid (F 2 = true → F 11 = true → Dj (.slice P0 (R 0).n c0) (.slice P3 (R 3).n c3)) ∧ Hid (F 5 = true → F 11 = true → Dj (.slice P1 (R 1).n c1) (.slice P3 (R 3).n c3)) ∧ Hid (F 8 = true → F 11 = true → Dj (.slice P2 (R 2).n c2) (.slice P3 (R 3).n c3)) ∧ Hid (F 13 = true → CpR W w xb R P0 c0 P1 c1 P2 c2 P3 c3)
def cpy1I (xa xb : Nat) (R : Nat → Sl) (U : Nat → Value) (W : World) (F : Nat → Bool) (a : Act) (w : World) : Prop := ∃ (P0 : Option Addr) (c0 : Nat) (P1 : Option Addr) (c1 : Nat) (P2 : Option Addr) (c2 : Nat) (P3 : Option Addr) (c3 : Nat), a = ⟨cpy1S U xa xb R P0 c0 P1 c1 P2 c2 P3 c3 F, []⟩ ∧ cpy1F xa xb R P0 c0 P1 c1 P2 c2 P3 c3 W F w
def cpy1f (Q : Exit → Act → World → Prop) (xa xb : Nat) (R : Nat → Sl) (U : Nat → Value) (W : World) : Prop := ∀ (wz : World) (P0 : Option Addr) (c0 : Nat) (P1 : Option Addr) (c1 : Nat) (P2 : Option Addr) (c2 : Nat) (P3 : Option Addr) (c3 : Nat), CpR W wz xb R P0 c0 P1 c1 P2 c2 P3 c3 → Q .normal ⟨cpy1S U xa xb R P0 c0 P1 c1 P2 c2 P3 c3 (fun _ => true), []⟩ wz
def cpy1T (Q : Exit → Act → World → Prop) (xa xb : Nat) (R : Nat → Sl) (U : Nat → Value) (W : World) (i : Nat) : Prop := cpy1h xa xb R W → ∀ (F : Nat → Bool) (a : Act) (w : World), F i = false → (∀ k, (dp .any cpy1o i).contains k = true → F k = true) → clo .any cpy1o F → cpy1I xa xb R U W F a w → wpOp Tryz.prog cpy1o (NoPanic Q) i (fun a w => cpy1I xa xb R U W (up F i) a w) a w
section
variable {Q : Exit → Act → World → Prop} {xa xb : Nat} {R : Nat → Sl} {U : Nat → Value} {W : World}
theorem cpy1_0 : cpy1T Q xa xb R U W 0 := by
 intro H F a w hz hd cl I
 obtain ⟨q0, q1, q2, q3, r0, r1, r2, r3, th⟩ := H
 obtain ⟨P0, c0, P1, c1, P2, c2, P3, c3, rfl, I⟩ := I
 refine wpOp_val cpy10 (.pointer (some ⟨xa, 0, none⟩)) rfl rfl ?_ ⟨P0, c0, P1, c1, P2, c2, P3, c3, ?_, I⟩
 ·(clear I; unfold cpy10 oO; simp only [cpy1S, selT]; go_simp)
 ·(unfold cpy10 oO; simp only [cpy1S, Act.put, sA, sB, sC]; rfl)
theorem cpy1_1 : cpy1T Q xa xb R U W 1 := by
 intro H F a w hz hd cl I
 obtain ⟨q0, q1, q2, q3, r0, r1, r2, r3, th⟩ := H
 obtain ⟨P0, c0, P1, c1, P2, c2, P3, c3, rfl, HH_, BB_, OW0_, OW1_, D01_, OW2_, D02_, D12_, OW3_, D03_, D13_, D23_, FE_⟩ := I
 have d0 := hd 0 rfl
 have n2 := nT hz cl 2
 have n5 := nT hz cl 5
 have n8 := nT hz cl 8
 have n11 := nT hz cl 11
 have n13 := nT hz cl 13
 refine wpOp_step (o := cpy11) rfl (fun K hK => ?_)
 replace hK := Hn hK
 simp only [cpy1S, selT, selF, d0, n2, n5, n8, n11, n13]
 clear cl hd
 have HH := HH_
 have BB := Hn (BB_.out n13)
 refine wp_ldSl _ rfl xa 0 (R 0).p (R 0).n (R 0).c rfl (cell_keep q0 BB.out) ?_
 unfold cpy11 oO
 refine hK.out _ _ ⟨P0, c0, P1, c1, P2, c2, P3, c3, ?_, HH_, BB_, Hn (fun h2 h13 => tf h2 n2), Hn (fun h5 h13 => tf h5 n5), Hn (fun h2 h5 => tf h2 n2), Hn (fun h8 h13 => tf h8 n8), Hn (fun h2 h8 => tf h2 n2), Hn (fun h5 h8 => tf h5 n5), Hn (fun h11 h13 => tf h11 n11), Hn (fun h2 h11 => tf h2 n2), Hn (fun h5 h11 => tf h5 n5), Hn (fun h8 h11 => tf h8 n8), Hn (fun h13 => tf h13 n13)⟩
 simp only [cpy1S, Act.put, sA, sB, sC, selT, selF, uT d0, uN 1 n2, uN 1 n5, uN 1 n8, uN 1 n11, uN 1 n13]
 rfl
theorem cpy1_2 : cpy1T Q xa xb R U W 2 := by
 intro H F a w hz hd cl I
 obtain ⟨q0, q1, q2, q3, r0, r1, r2, r3, th⟩ := H
 obtain ⟨P0, c0, P1, c1, P2, c2, P3, c3, rfl, HH_, BB_, OW0_, OW1_, D01_, OW2_, D02_, D12_, OW3_, D03_, D13_, D23_, FE_⟩ := I
 have d1 := hd 1 rfl
 have n5 := nT hz cl 5
 have n8 := nT hz cl 8
 have n11 := nT hz cl 11
 have n12 := nT hz cl 12
 have n13 := nT hz cl 13
 refine wpOp_step (o := cpy12) rfl (fun K hK => ?_)
 replace hK := Hn hK
 simp only [cpy1S, selT, selF, d1, n5, n8, n11, n12, n13]
 clear cl hd
 have HH := HH_
 have BB := Hn (BB_.out n13)
 unfold cpy12 oO
 go_simp
 refine (clS_any (R 0) _ (r0.keep BB.out)).mono ?_
 rintro e w2 ⟨P0, c0, rfl, ho, hb⟩
 have SN := Hn (trivial : True)
 go_wp2_with fail
 refine hK.out _ _ ⟨P0, c0, P1, c1, P2, c2, P3, c3, ?_, SN, Hn (fun h13 => by have BB := Hn (BB_.out h13); exact bl_trans BB.out hb), Hn (fun h2 h13 => by have BB := Hn (BB_.out h13); exact own_lower ho BB.out.size), Hn (fun h5 h13 => tf h5 n5), Hn (fun h2 h5 => tf h5 n5), Hn (fun h8 h13 => tf h8 n8), Hn (fun h2 h8 => tf h8 n8), Hn (fun h5 h8 => tf h5 n5), Hn (fun h11 h13 => tf h11 n11), Hn (fun h2 h11 => tf h11 n11), Hn (fun h5 h11 => tf h5 n5), Hn (fun h8 h11 => tf h8 n8), Hn (fun h13 => tf h13 n13)⟩
 simp only [cpy1S, Act.put, sA, sB, sC, selT, selF, uT d1, uN 2 n5, uN 2 n8, uN 2 n11, uN 2 n12, uN 2 n13]
 rfl
theorem cpy1_3 : cpy1T Q xa xb R U W 3 := by
 intro H F a w hz hd cl I
 obtain ⟨q0, q1, q2, q3, r0, r1, r2, r3, th⟩ := H
 obtain ⟨P0, c0, P1, c1, P2, c2, P3, c3, rfl, I⟩ := I
 refine wpOp_val cpy13 (.pointer (some ⟨xa, 1, none⟩)) rfl rfl ?_ ⟨P0, c0, P1, c1, P2, c2, P3, c3, ?_, I⟩
 ·(clear I; unfold cpy13 oO; simp only [cpy1S, selT]; go_simp)
 ·(unfold cpy13 oO; simp only [cpy1S, Act.put, sA, sB, sC]; rfl)
theorem cpy1_4 : cpy1T Q xa xb R U W 4 := by
 intro H F a w hz hd cl I
 obtain ⟨q0, q1, q2, q3, r0, r1, r2, r3, th⟩ := H
 obtain ⟨P0, c0, P1, c1, P2, c2, P3, c3, rfl, HH_, BB_, OW0_, OW1_, D01_, OW2_, D02_, D12_, OW3_, D03_, D13_, D23_, FE_⟩ := I
 have d3 := hd 3 rfl
 have n5 := nT hz cl 5
 have n8 := nT hz cl 8
 have n11 := nT hz cl 11
 have n13 := nT hz cl 13
 refine wpOp_step (o := cpy14) rfl (fun K hK => ?_)
 replace hK := Hn hK
 simp only [cpy1S, selT, selF, d3, n5, n8, n11, n13]
 clear cl hd
 have HH := HH_
 have BB := Hn (BB_.out n13)
 refine wp_ldSl _ rfl xa 1 (R 1).p (R 1).n (R 1).c rfl (cell_keep q1 BB.out) ?_
 unfold cpy14 oO
 refine hK.out _ _ ⟨P0, c0, P1, c1, P2, c2, P3, c3, ?_, HH_, BB_, OW0_, Hn (fun h5 h13 => tf h5 n5), Hn (fun h2 h5 => tf h5 n5), Hn (fun h8 h13 => tf h8 n8), Hn (fun h2 h8 => tf h8 n8), Hn (fun h5 h8 => tf h5 n5), Hn (fun h11 h13 => tf h11 n11), Hn (fun h2 h11 => tf h11 n11), Hn (fun h5 h11 => tf h5 n5), Hn (fun h8 h11 => tf h8 n8), Hn (fun h13 => tf h13 n13)⟩
 simp only [cpy1S, Act.put, sA, sB, sC, selT, selF, uT d3, uN 4 n5, uN 4 n8, uN 4 n11, uN 4 n13]
 rfl
theorem cpy1_5 : cpy1T Q xa xb R U W 5 := by
 intro H F a w hz hd cl I
 obtain ⟨q0, q1, q2, q3, r0, r1, r2, r3, th⟩ := H
 obtain ⟨P0, c0, P1, c1, P2, c2, P3, c3, rfl, HH_, BB_, OW0_, OW1_, D01_, OW2_, D02_, D12_, OW3_, D03_, D13_, D23_, FE_⟩ := I
 have d4 := hd 4 rfl
 have n8 := nT hz cl 8
 have n11 := nT hz cl 11
 have n12 := nT hz cl 12
 have n13 := nT hz cl 13
 refine wpOp_step (o := cpy15) rfl (fun K hK => ?_)
 replace hK := Hn hK
 simp only [cpy1S, selT, selF, d4, n8, n11, n12, n13]
 clear cl hd
 have HH := HH_
 have BB := Hn (BB_.out n13)
 unfold cpy15 oO
 go_simp
 refine (clS_any (R 1) _ (r1.keep BB.out)).mono ?_
 rintro e w2 ⟨P1, c1, rfl, ho, hb⟩
 have SN := Hn (trivial : True)
 go_wp2_with fail
 refine hK.out _ _ ⟨P0, c0, P1, c1, P2, c2, P3, c3, ?_, SN, Hn (fun h13 => by have BB := Hn (BB_.out h13); exact bl_trans BB.out hb), Hn (fun h2 h13 => by have OW0 := Hn (OW0_.out h2 h13); exact own_keepT OW0.out hb), Hn (fun h5 h13 => by have BB := Hn (BB_.out h13); exact own_lower ho BB.out.size), Hn (fun h2 h5 => by have OW0 := Hn (OW0_.out h2 n13); exact fun k h1 h2 => by have e1 := OW0.out.lt k h1; have e2 := ho.lt k h2; omega), Hn (fun h8 h13 => tf h8 n8), Hn (fun h2 h8 => tf h8 n8), Hn (fun h5 h8 => tf h8 n8), Hn (fun h11 h13 => tf h11 n11), Hn (fun h2 h11 => tf h11 n11), Hn (fun h5 h11 => tf h11 n11), Hn (fun h8 h11 => tf h8 n8), Hn (fun h13 => tf h13 n13)⟩
 simp only [cpy1S, Act.put, sA, sB, sC, selT, selF, uT d4, uN 5 n8, uN 5 n11, uN 5 n12, uN 5 n13]
 rfl
theorem cpy1_6 : cpy1T Q xa xb R U W 6 := by
 intro H F a w hz hd cl I
 obtain ⟨q0, q1, q2, q3, r0, r1, r2, r3, th⟩ := H
 obtain ⟨P0, c0, P1, c1, P2, c2, P3, c3, rfl, I⟩ := I
 refine wpOp_val cpy16 (.pointer (some ⟨xa, 2, none⟩)) rfl rfl ?_ ⟨P0, c0, P1, c1, P2, c2, P3, c3, ?_, I⟩
 ·(clear I; unfold cpy16 oO; simp only [cpy1S, selT]; go_simp)
 ·(unfold cpy16 oO; simp only [cpy1S, Act.put, sA, sB, sC]; rfl)
theorem cpy1_7 : cpy1T Q xa xb R U W 7 := by
 intro H F a w hz hd cl I
 obtain ⟨q0, q1, q2, q3, r0, r1, r2, r3, th⟩ := H
 obtain ⟨P0, c0, P1, c1, P2, c2, P3, c3, rfl, HH_, BB_, OW0_, OW1_, D01_, OW2_, D02_, D12_, OW3_, D03_, D13_, D23_, FE_⟩ := I
 have d6 := hd 6 rfl
 have n8 := nT hz cl 8
 have n11 := nT hz cl 11
 have n13 := nT hz cl 13
 refine wpOp_step (o := cpy17) rfl (fun K hK => ?_)
 replace hK := Hn hK
 simp only [cpy1S, selT, selF, d6, n8, n11, n13]
 clear cl hd
 have HH := HH_
 have BB := Hn (BB_.out n13)
 refine wp_ldSl _ rfl xa 2 (R 2).p (R 2).n (R 2).c rfl (cell_keep q2 BB.out) ?_
 unfold cpy17 oO
 refine hK.out _ _ ⟨P0, c0, P1, c1, P2, c2, P3, c3, ?_, HH_, BB_, OW0_, OW1_, D01_, Hn (fun h8 h13 => tf h8 n8), Hn (fun h2 h8 => tf h8 n8), Hn (fun h5 h8 => tf h8 n8), Hn (fun h11 h13 => tf h11 n11), Hn (fun h2 h11 => tf h11 n11), Hn (fun h5 h11 => tf h11 n11), Hn (fun h8 h11 => tf h8 n8), Hn (fun h13 => tf h13 n13)⟩
 simp only [cpy1S, Act.put, sA, sB, sC, selT, selF, uT d6, uN 7 n8, uN 7 n11, uN 7 n13]
 rfl
theorem cpy1_8 : cpy1T Q xa xb R U W 8 := by
 intro H F a w hz hd cl I
 obtain ⟨q0, q1, q2, q3, r0, r1, r2, r3, th⟩ := H
 obtain ⟨P0, c0, P1, c1, P2, c2, P3, c3, rfl, HH_, BB_, OW0_, OW1_, D01_, OW2_, D02_, D12_, OW3_, D03_, D13_, D23_, FE_⟩ := I
 have d7 := hd 7 rfl
 have n11 := nT hz cl 11
 have n12 := nT hz cl 12
 have n13 := nT hz cl 13
 refine wpOp_step (o := cpy18) rfl (fun K hK => ?_)
 replace hK := Hn hK
 simp only [cpy1S, selT, selF, d7, n11, n12, n13]
 clear cl hd
 have HH := HH_
 have BB := Hn (BB_.out n13)
 unfold cpy18 oO
 go_simp
 refine (clS_any (R 2) _ (r2.keep BB.out)).mono ?_
 rintro e w2 ⟨P2, c2, rfl, ho, hb⟩
 have SN := Hn (trivial : True)
 go_wp2_with fail
 refine hK.out _ _ ⟨P0, c0, P1, c1, P2, c2, P3, c3, ?_, SN, Hn (fun h13 => by have BB := Hn (BB_.out h13); exact bl_trans BB.out hb), Hn (fun h2 h13 => by have OW0 := Hn (OW0_.out h2 h13); exact own_keepT OW0.out hb), Hn (fun h5 h13 => by have OW1 := Hn (OW1_.out h5 h13); exact own_keepT OW1.out hb), D01_, Hn (fun h8 h13 => by have BB := Hn (BB_.out h13); exact own_lower ho BB.out.size), Hn (fun h2 h8 => by have OW0 := Hn (OW0_.out h2 n13); exact fun k h1 h2 => by have e1 := OW0.out.lt k h1; have e2 := ho.lt k h2; omega), Hn (fun h5 h8 => by have OW1 := Hn (OW1_.out h5 n13); exact fun k h1 h2 => by have e1 := OW1.out.lt k h1; have e2 := ho.lt k h2; omega), Hn (fun h11 h13 => tf h11 n11), Hn (fun h2 h11 => tf h11 n11), Hn (fun h5 h11 => tf h11 n11), Hn (fun h8 h11 => tf h11 n11), Hn (fun h13 => tf h13 n13)⟩
 simp only [cpy1S, Act.put, sA, sB, sC, selT, selF, uT d7, uN 8 n11, uN 8 n12, uN 8 n13]
 rfl
theorem cpy1_9 : cpy1T Q xa xb R U W 9 := by
 intro H F a w hz hd cl I
 obtain ⟨q0, q1, q2, q3, r0, r1, r2, r3, th⟩ := H
 obtain ⟨P0, c0, P1, c1, P2, c2, P3, c3, rfl, I⟩ := I
 refine wpOp_val cpy19 (.pointer (some ⟨xa, 3, none⟩)) rfl rfl ?_ ⟨P0, c0, P1, c1, P2, c2, P3, c3, ?_, I⟩
 ·(clear I; unfold cpy19 oO; simp only [cpy1S, selT]; go_simp)
 ·(unfold cpy19 oO; simp only [cpy1S, Act.put, sA, sB, sC]; rfl)
theorem cpy1_10 : cpy1T Q xa xb R U W 10 := by
 intro H F a w hz hd cl I
 obtain ⟨q0, q1, q2, q3, r0, r1, r2, r3, th⟩ := H
 obtain ⟨P0, c0, P1, c1, P2, c2, P3, c3, rfl, HH_, BB_, OW0_, OW1_, D01_, OW2_, D02_, D12_, OW3_, D03_, D13_, D23_, FE_⟩ := I
 have d9 := hd 9 rfl
 have n11 := nT hz cl 11
 have n13 := nT hz cl 13
 refine wpOp_step (o := cpy110) rfl (fun K hK => ?_)
 replace hK := Hn hK
 simp only [cpy1S, selT, selF, d9, n11, n13]
 clear cl hd
 have HH := HH_
 have BB := Hn (BB_.out n13)
 refine wp_ldSl _ rfl xa 3 (R 3).p (R 3).n (R 3).c rfl (cell_keep q3 BB.out) ?_
 unfold cpy110 oO
 refine hK.out _ _ ⟨P0, c0, P1, c1, P2, c2, P3, c3, ?_, HH_, BB_, OW0_, OW1_, D01_, OW2_, D02_, D12_, Hn (fun h11 h13 => tf h11 n11), Hn (fun h2 h11 => tf h11 n11), Hn (fun h5 h11 => tf h11 n11), Hn (fun h8 h11 => tf h11 n11), Hn (fun h13 => tf h13 n13)⟩
 simp only [cpy1S, Act.put, sA, sB, sC, selT, selF, uT d9, uN 10 n11, uN 10 n13]
 rfl
theorem cpy1_11 : cpy1T Q xa xb R U W 11 := by
 intro H F a w hz hd cl I
 obtain ⟨q0, q1, q2, q3, r0, r1, r2, r3, th⟩ := H
 obtain ⟨P0, c0, P1, c1, P2, c2, P3, c3, rfl, HH_, BB_, OW0_, OW1_, D01_, OW2_, D02_, D12_, OW3_, D03_, D13_, D23_, FE_⟩ := I
 have d10 := hd 10 rfl
 have n12 := nT hz cl 12
 have n13 := nT hz cl 13
 refine wpOp_step (o := cpy111) rfl (fun K hK => ?_)
 replace hK := Hn hK
 simp only [cpy1S, selT, selF, d10, n12, n13]
 clear cl hd
 have HH := HH_
 have BB := Hn (BB_.out n13)
 unfold cpy111 oO
 go_simp
 refine (clS_any (R 3) _ (r3.keep BB.out)).mono ?_
 rintro e w2 ⟨P3, c3, rfl, ho, hb⟩
 have SN := Hn (trivial : True)
 go_wp2_with fail
 refine hK.out _ _ ⟨P0, c0, P1, c1, P2, c2, P3, c3, ?_, SN, Hn (fun h13 => by have BB := Hn (BB_.out h13); exact bl_trans BB.out hb), Hn (fun h2 h13 => by have OW0 := Hn (OW0_.out h2 h13); exact own_keepT OW0.out hb), Hn (fun h5 h13 => by have OW1 := Hn (OW1_.out h5 h13); exact own_keepT OW1.out hb), D01_, Hn (fun h8 h13 => by have OW2 := Hn (OW2_.out h8 h13); exact own_keepT OW2.out hb), D02_, D12_, Hn (fun h11 h13 => by have BB := Hn (BB_.out h13); exact own_lower ho BB.out.size), Hn (fun h2 h11 => by have OW0 := Hn (OW0_.out h2 n13); exact fun k h1 h2 => by have e1 := OW0.out.lt k h1; have e2 := ho.lt k h2; omega), Hn (fun h5 h11 => by have OW1 := Hn (OW1_.out h5 n13); exact fun k h1 h2 => by have e1 := OW1.out.lt k h1; have e2 := ho.lt k h2; omega), Hn (fun h8 h11 => by have OW2 := Hn (OW2_.out h8 n13); exact fun k h1 h2 => by have e1 := OW2.out.lt k h1; have e2 := ho.lt k h2; omega), Hn (fun h13 => tf h13 n13)⟩
 simp only [cpy1S, Act.put, sA, sB, sC, selT, selF, uT d10, uN 11 n12, uN 11 n13]
 rfl
theorem cpy1_12 : cpy1T Q xa xb R U W 12 := by
 intro H F a w hz hd cl I
 obtain ⟨q0, q1, q2, q3, r0, r1, r2, r3, th⟩ := H
 obtain ⟨P0, c0, P1, c1, P2, c2, P3, c3, rfl, I⟩ := I
 have d11 := hd 11 rfl
 have d8 := hd 8 rfl
 have d5 := hd 5 rfl
 have d2 := hd 2 rfl
 refine wpOp_val cpy112 (.agg #[.slice P0 (R 0).n c0, .slice P1 (R 1).n c1, .slice P2 (R 2).n c2, .slice P3 (R 3).n c3]) rfl rfl ?_ ⟨P0, c0, P1, c1, P2, c2, P3, c3, ?_, I⟩
 ·(clear I; unfold cpy112 oO; simp only [cpy1S, selT, d2, d5, d8, d11]; go_simp)
 ·(unfold cpy112 oO; simp only [cpy1S, Act.put, sA, sB, sC]; rfl)
theorem cpy1_13 : cpy1T Q xa xb R U W 13 := by
 intro H F a w hz hd cl I
 obtain ⟨q0, q1, q2, q3, r0, r1, r2, r3, th⟩ := H
 obtain ⟨P0, c0, P1, c1, P2, c2, P3, c3, rfl, HH_, BB_, OW0_, OW1_, D01_, OW2_, D02_, D12_, OW3_, D03_, D13_, D23_, FE_⟩ := I
 have d12 := hd 12 rfl
 have d11 := hd 11 rfl
 have d8 := hd 8 rfl
 have d5 := hd 5 rfl
 have d2 := hd 2 rfl
 refine wpOp_step (o := cpy113) rfl (fun K hK => ?_)
 replace hK := Hn hK
 simp only [cpy1S, selT, selF, d2, d5, d8, d11, d12]
 clear cl hd
 have HH := HH_
 have BB := Hn (BB_.out hz)
 refine wp_storeE 43 _ _ rfl xb 0 ([.slice P0 (R 0).n c0, .slice P1 (R 1).n c1, .slice P2 (R 2).n c2, .slice P3 (R 3).n c3]) (by rfl) (by rfl) (there_bl th BB.out) i4as (by simp [Value.oneCell']) rfl (fun w2 hw => ?_)
 have SN := Hn (trivial : True)
 refine hK.out _ _ ⟨P0, c0, P1, c1, P2, c2, P3, c3, ?_, SN, Hn (fun h13 => tr h13), Hn (fun h2 h13 => tr h13), Hn (fun h5 h13 => tr h13), D01_, Hn (fun h8 h13 => tr h13), D02_, D12_, Hn (fun h11 h13 => tr h13), D03_, D13_, D23_, Hn (fun h13 => by have BB := Hn (BB_.out hz); have OW0 := Hn (OW0_.out d2 hz); have OW1 := Hn (OW1_.out d5 hz); have D01 := Hn (D01_.out d2 d5); have OW2 := Hn (OW2_.out d8 hz); have D02 := Hn (D02_.out d2 d8); have D12 := Hn (D12_.out d5 d8); have OW3 := Hn (OW3_.out d11 hz); have D03 := Hn (D03_.out d2 d11); have D13 := Hn (D13_.out d5 d11); have D23 := Hn (D23_.out d8 d11); exact ⟨_, BB.out, OW0.out, OW1.out, OW2.out, OW3.out, D01.out, D02.out, D03.out, D12.out, D13.out, D23.out, hw⟩)⟩
 simp only [cpy1S, Act.put, sA, sB, sC, selT, selF, uT d2, uT d5, uT d8, uT d11, uT d12]
 rfl
end
theorem cpy1 (Q : Exit → Act → World → Prop) (xa xb : Nat) (R : Nat → Sl) (u0 u3 u4 u5 u6 u7 u8 u9 u10 u11 u12 u13 u14 u15 : Value) (W : World) (H : cpy1h xa xb R W)
  (HQ : Hid (∀ (wz : World) (P0 : Option Addr) (c0 : Nat) (P1 : Option Addr) (c1 : Nat) (P2 : Option Addr) (c2 : Nat) (P3 : Option Addr) (c3 : Nat), CpR W wz xb R P0 c0 P1 c1 P2 c2 P3 c3 → Q .normal ⟨#[u0, .pointer (some ⟨xa, 0, none⟩), .pointer (some ⟨xb, 0, none⟩), .pointer (some ⟨xa, 0, none⟩), .slice (R 0).p (R 0).n (R 0).c, .slice P0 (R 0).n c0, .pointer (some ⟨xa, 1, none⟩), .slice (R 1).p (R 1).n (R 1).c, .slice P1 (R 1).n c1, .pointer (some ⟨xa, 2, none⟩), .slice (R 2).p (R 2).n (R 2).c, .slice P2 (R 2).n c2, .pointer (some ⟨xa, 3, none⟩), .slice (R 3).p (R 3).n (R 3).c, .slice P3 (R 3).n c3, .agg #[.slice P0 (R 0).n c0, .slice P1 (R 1).n c1, .slice P2 (R 2).n c2, .slice P3 (R 3).n c3]], []⟩ wz)) : (Code.region 1 cpy1o true).wp Tryz.prog Q ⟨#[u0, .pointer (some ⟨xa, 0, none⟩), .pointer (some ⟨xb, 0, none⟩), u3, u4, u5, u6, u7, u8, u9, u10, u11, u12, u13, u14, u15], []⟩ W := by
 replace HQ : Hid (cpy1f Q xa xb R (nth [u0, undef, undef, u3, u4, u5, u6, u7, u8, u9, u10, u11, u12, u13, u14, u15]) W) := HQ
 refine wp_region_noPanic ?_
 refine wp_region_held_drew (S := fun _ => True) (by kernel_rfl) trivial (fun _ => ?_)
 refine sym (by kernel_rfl) (cpy1I xa xb R (nth [u0, undef, undef, u3, u4, u5, u6, u7, u8, u9, u10, u11, u12, u13, u14, u15]) W) (fun F i a w hi h0 hd cl I => ?_) (fun F a w hF I => ?_) _ _ _ _ (by simp) (of_decide_eq_true (by kernel_rfl)) clo0 ?_
 ·match i, hi with
  | 0, _ => exact cpy1_0 H _ _ _ h0 hd cl I
  | 1, _ => exact cpy1_1 H _ _ _ h0 hd cl I
  | 2, _ => exact cpy1_2 H _ _ _ h0 hd cl I
  | 3, _ => exact cpy1_3 H _ _ _ h0 hd cl I
  | 4, _ => exact cpy1_4 H _ _ _ h0 hd cl I
  | 5, _ => exact cpy1_5 H _ _ _ h0 hd cl I
  | 6, _ => exact cpy1_6 H _ _ _ h0 hd cl I
  | 7, _ => exact cpy1_7 H _ _ _ h0 hd cl I
  | 8, _ => exact cpy1_8 H _ _ _ h0 hd cl I
  | 9, _ => exact cpy1_9 H _ _ _ h0 hd cl I
  | 10, _ => exact cpy1_10 H _ _ _ h0 hd cl I
  | 11, _ => exact cpy1_11 H _ _ _ h0 hd cl I
  | 12, _ => exact cpy1_12 H _ _ _ h0 hd cl I
  | 13, _ => exact cpy1_13 H _ _ _ h0 hd cl I
  | k + 14, h => exact absurd h (Nat.not_lt.2 (Nat.le_add_left 14 k))
 ·obtain ⟨P0, c0, P1, c1, P2, c2, P3, c3, rfl, HH, BB_, OW0_, OW1_, D01_, OW2_, D02_, D12_, OW3_, D03_, D13_, D23_, FE_⟩ := I
  have D01 := Hn (D01_.out (hF 2 (by decide)) (hF 5 (by decide)))
  have D02 := Hn (D02_.out (hF 2 (by decide)) (hF 8 (by decide)))
  have D12 := Hn (D12_.out (hF 5 (by decide)) (hF 8 (by decide)))
  have D03 := Hn (D03_.out (hF 2 (by decide)) (hF 11 (by decide)))
  have D13 := Hn (D13_.out (hF 5 (by decide)) (hF 11 (by decide)))
  have D23 := Hn (D23_.out (hF 8 (by decide)) (hF 11 (by decide)))
  have FE := Hn (FE_.out (hF 13 (by decide)))
  refine NoPanic.normal ?_
  have e : cpy1S (nth [u0, undef, undef, u3, u4, u5, u6, u7, u8, u9, u10, u11, u12, u13, u14, u15]) xa xb R P0 c0 P1 c1 P2 c2 P3 c3 F = cpy1S (nth [u0, undef, undef, u3, u4, u5, u6, u7, u8, u9, u10, u11, u12, u13, u14, u15]) xa xb R P0 c0 P1 c1 P2 c2 P3 c3 (fun _ => true) := by simp only [cpy1S, hF 0 (by decide), hF 1 (by decide), hF 2 (by decide), hF 3 (by decide), hF 4 (by decide), hF 5 (by decide), hF 6 (by decide), hF 7 (by decide), hF 8 (by decide), hF 9 (by decide), hF 10 (by decide), hF 11 (by decide), hF 12 (by decide), hF 13 (by decide)]
  rw [e]
  exact HQ.out _ P0 c0 P1 c1 P2 c2 P3 c3 FE.out
 ·obtain ⟨q0, q1, q2, q3, r0, r1, r2, r3, th⟩ := H
  have e0 : (fun k => (Array.replicate cpy1o.size false).getD k false) = fun _ => false := funext rep0
  rw [e0]
  exact ⟨none, 0, none, 0, none, 0, none, 0, rfl, Hn (trivial), Hn (fun _ => bl_drew W), Hn (fun h _ => tr2 h), Hn (fun h _ => tr2 h), Hn (fun h _ => tr2 h), Hn (fun h _ => tr2 h), Hn (fun h _ => tr2 h), Hn (fun h _ => tr2 h), Hn (fun h _ => tr2 h), Hn (fun h _ => tr2 h), Hn (fun h _ => tr2 h), Hn (fun h _ => tr2 h), Hn (fun h => tr2 h)⟩
end Ci
end Go.Proofs.YtljmgfclhbadjaaGreatDoor
