import Derived.Test.YtljmgfclhbadjaaGreatDoorTk
import Derived.Test.YtljmgfclhbadjaaGreatDoorDdz
namespace Go.Proofs.YtljmgfclhbadjaaGreatDoor
open Go.RowKit
set_option linter.unusedVariables false
set_option linter.unusedSimpArgs false
open Cm (Wr Tm co bf Ls lf ins Eqm)
namespace Ci
set_option maxRecDepth 100000
set_option maxHeartbeats 16000000
def dnu30 : Oper := oO 9 (Op.move (Operand.tmp 0)) 33 "gadget.go:52" #[]
def dnu31 : Oper := oO 10 (Op.nilCheck (Operand.tmp 9)) 0 "gadget.go:52" #[DD 0]
def dnu32 : Oper := oO 11 (Op.fieldAddr 111 (Operand.tmp 10) 1) 0 "gadget.go:52" #[DD 1]
def dnu33 : Oper := oO 12 (Op.fieldAddr 109 (Operand.tmp 11) 0) 0 "gadget.go:52" #[DD 2]
def dnu34 : Oper := oO 13 (Op.load 105 (Operand.tmp 12)) 105 "gadget.go:52" #[DD 3]
def dnu35 : Oper := oO 14 (Op.move (Operand.tmp 0)) 33 "gadget.go:52" #[]
def dnu36 : Oper := oO 15 (Op.nilCheck (Operand.tmp 14)) 0 "gadget.go:52" #[DD 5]
def dnu37 : Oper := oO 16 (Op.fieldAddr 111 (Operand.tmp 15) 0) 0 "gadget.go:52" #[DD 6]
def dnu38 : Oper := oO 17 (Op.load 37 (Operand.tmp 16)) 37 "gadget.go:52" #[DD 7]
def dnu39 : Oper := oO 18 (Op.move (Operand.tmp 1)) 50 "gadget.go:52" #[]
def dnu310 : Oper := oO 19 (Op.call { callee := Callee.value (Operand.tmp 13), args := #[Operand.tmp 17, Operand.tmp 18], argTypes := #[37, 50] }) 91 "gadget.go:52" #[DD 4, DD 8, DD 9]
def dnu311 : Oper := oO 20 (Op.extract (Operand.tmp 19) 0) 53 "gadget.go:52" #[DD 10]
def dnu312 : Oper := oO 21 (Op.extract (Operand.tmp 19) 1) 4 "gadget.go:52" #[DD 10]
def dnu313 : Oper := oN (Op.store 53 (Operand.tmp 4) (Operand.tmp 20)) "gadget.go:52" #[DD 11, CH 10, PH 0, PH 1, PH 2, PH 3, PH 4, PH 5, PH 6, PH 7, PH 8, PH 9, PH 10, PH 11, PH 12]
def dnu314 : Oper := oO 5 (Op.assign (Operand.tmp 21)) 4 "gadget.go:52" #[DD 12, CH 13, PH 0, PH 1, PH 2, PH 3, PH 4, PH 5, PH 6, PH 7, PH 8, PH 9, PH 10, PH 11, PH 12, PH 13]
def dnu3o : Array Oper := #[dnu30, dnu31, dnu32, dnu33, dnu34, dnu35, dnu36, dnu37, dnu38, dnu39, dnu310, dnu311, dnu312, dnu313, dnu314]
structure dnu3h (d q b rb : Nat) (P : Option Addr) (n c : Nat) (z : E4) (t : Bool) (W : World) : Prop where
 q0 : W.cell? ⟨d, 0, none⟩ = some (.pointer (some ⟨q, 0, none⟩))
 q1 : W.cell? ⟨d, 1, none⟩ = some (.func (.func 137) #[] #[.pointer (some ⟨b, 0, none⟩)])
 dl : d < rb
 rl : rb < W.heap.size
 th : W.there rb 0 4
 C1 : Hid (∀ y, Below W.heap.size W y → Calls Tryz.prog 137 #[.pointer (some ⟨q, 0, none⟩), .slice P n c, .pointer (some ⟨b, 0, none⟩)] y fun e w' => e = .returned (.tuple #[.agg #[.int .u64 z.x0, .int .u64 z.x1, .int .u64 z.x2, .int .u64 z.x3], .bool t]) ∧ Below y.heap.size y w')
def dnu3S (U : Nat → Value) (d q b rb : Nat) (P : Option Addr) (n c : Nat) (z : E4) (t : Bool)  (F : Nat → Bool) : Array Value := #[(.pointer (some ⟨d, 0, none⟩)), (.slice P n c), (U 2), (U 3), (.pointer (some ⟨rb, 0, none⟩)), sel (F 14) (.bool t) (U 5), (U 6), (U 7), (U 8), sel (F 0) (.pointer (some ⟨d, 0, none⟩)) (U 9), sel (F 1) (.pointer (some ⟨d, 0, none⟩)) (U 10), sel (F 2) (.pointer (some ⟨d, 1, none⟩)) (U 11), sel (F 3) (.pointer (some ⟨d, 1, none⟩)) (U 12), sel (F 4) (.func (.func 137) #[] #[.pointer (some ⟨b, 0, none⟩)]) (U 13), sel (F 5) (.pointer (some ⟨d, 0, none⟩)) (U 14), sel (F 6) (.pointer (some ⟨d, 0, none⟩)) (U 15), sel (F 7) (.pointer (some ⟨d, 0, none⟩)) (U 16), sel (F 8) (.pointer (some ⟨q, 0, none⟩)) (U 17), sel (F 9) (.slice P n c) (U 18), sel (F 10) (.tuple #[.agg #[.int .u64 z.x0, .int .u64 z.x1, .int .u64 z.x2, .int .u64 z.x3], .bool t]) (U 19), sel (F 11) (.agg #[.int .u64 z.x0, .int .u64 z.x1, .int .u64 z.x2, .int .u64 z.x3]) (U 20), sel (F 12) (.bool t) (U 21)]
def dnu3F (d q b rb : Nat) (P : Option Addr) (n c : Nat) (z : E4) (t : Bool)  (W : World) (F : Nat → Bool) (w : World) : Prop := Hid (Below rb W w) ∧ Hid (F 13 = false → Below W.heap.size W w) ∧ Hid (F 13 = true → ∃ w1, Below W.heap.size W w1 ∧ w = w1.setCells rb 0 [.int .u64 z.x0, .int .u64 z.x1, .int .u64 z.x2, .int .u64 z.x3])
def dnu3I (d q b rb : Nat) (P : Option Addr) (n c : Nat) (z : E4) (t : Bool) (U : Nat → Value) (W : World) (F : Nat → Bool) (a : Act) (w : World) : Prop := a = ⟨dnu3S U d q b rb P n c z t  F, []⟩ ∧ dnu3F d q b rb P n c z t  W F w
def dnu3f (Q : Exit → Act → World → Prop) (d q b rb : Nat) (P : Option Addr) (n c : Nat) (z : E4) (t : Bool) (U : Nat → Value) (W : World) : Prop := ∀ (wz : World), (∃ w1, Below W.heap.size W w1 ∧ wz = w1.setCells rb 0 [.int .u64 z.x0, .int .u64 z.x1, .int .u64 z.x2, .int .u64 z.x3]) → Q .normal ⟨dnu3S U d q b rb P n c z t  (fun _ => true), []⟩ wz
def dnu3T (Q : Exit → Act → World → Prop) (d q b rb : Nat) (P : Option Addr) (n c : Nat) (z : E4) (t : Bool) (U : Nat → Value) (W : World) (i : Nat) : Prop := dnu3h d q b rb P n c z t W → ∀ (F : Nat → Bool) (a : Act) (w : World), F i = false → (∀ k, (dp .any dnu3o i).contains k = true → F k = true) → clo .any dnu3o F → dnu3I d q b rb P n c z t U W F a w → wpOp Tryz.prog dnu3o (NoPanic Q) i (fun a w => dnu3I d q b rb P n c z t U W (up F i) a w) a w
section
variable {Q : Exit → Act → World → Prop} {d q b rb : Nat} {P : Option Addr} {n c : Nat} {z : E4} {t : Bool} {U : Nat → Value} {W : World}
theorem dnu3_0 : dnu3T Q d q b rb P n c z t U W 0 := by
 intro H F a w hz hd cl I
 obtain ⟨q0, q1, dl, rl, th, C1⟩ := H
 obtain ⟨rfl, I⟩ := I
 refine wpOp_val dnu30 (.pointer (some ⟨d, 0, none⟩)) rfl rfl ?_ ⟨?_, I⟩
 ·(clear I; unfold dnu30 oO; simp only [dnu3S, selT]; go_simp)
 ·(unfold dnu30 oO; simp only [dnu3S, Act.put, sA, sB, sC]; rfl)
theorem dnu3_1 : dnu3T Q d q b rb P n c z t U W 1 := by
 intro H F a w hz hd cl I
 obtain ⟨q0, q1, dl, rl, th, C1⟩ := H
 obtain ⟨rfl, I⟩ := I
 have d0 := hd 0 rfl
 refine wpOp_val dnu31 (.pointer (some ⟨d, 0, none⟩)) rfl rfl ?_ ⟨?_, I⟩
 ·(clear I; unfold dnu31 oO; simp only [dnu3S, selT, d0]; go_simp)
 ·(unfold dnu31 oO; simp only [dnu3S, Act.put, sA, sB, sC]; rfl)
theorem dnu3_2 : dnu3T Q d q b rb P n c z t U W 2 := by
 intro H F a w hz hd cl I
 obtain ⟨q0, q1, dl, rl, th, C1⟩ := H
 obtain ⟨rfl, I⟩ := I
 have d1 := hd 1 rfl
 refine wpOp_val dnu32 (.pointer (some ⟨d, 1, none⟩)) rfl rfl ?_ ⟨?_, I⟩
 ·(clear I; unfold dnu32 oO; simp only [dnu3S, selT, d1]; go_simp)
 ·(unfold dnu32 oO; simp only [dnu3S, Act.put, sA, sB, sC]; rfl)
theorem dnu3_3 : dnu3T Q d q b rb P n c z t U W 3 := by
 intro H F a w hz hd cl I
 obtain ⟨q0, q1, dl, rl, th, C1⟩ := H
 obtain ⟨rfl, I⟩ := I
 have d2 := hd 2 rfl
 refine wpOp_val dnu33 (.pointer (some ⟨d, 1, none⟩)) rfl rfl ?_ ⟨?_, I⟩
 ·(clear I; unfold dnu33 oO; simp only [dnu3S, selT, d2]; go_simp)
 ·(unfold dnu33 oO; simp only [dnu3S, Act.put, sA, sB, sC]; rfl)
theorem dnu3_4 : dnu3T Q d q b rb P n c z t U W 4 := by
 intro H F a w hz hd cl I
 obtain ⟨q0, q1, dl, rl, th, C1⟩ := H
 obtain ⟨rfl, I⟩ := I
 have d3 := hd 3 rfl
 refine wpOp_val dnu34 (.func (.func 137) #[] #[.pointer (some ⟨b, 0, none⟩)]) rfl rfl ?_ ⟨?_, I⟩
 ·(obtain ⟨HH_, BB_, FE_⟩ := I; have hS := HH_.out; have a0 := (hS.cell (p := ⟨d, 1, none⟩) dl).trans q1; clear hS HH_ BB_ FE_; unfold dnu34 oO; simp only [dnu3S, selT, d3]; go_simp)
 ·(unfold dnu34 oO; simp only [dnu3S, Act.put, sA, sB, sC]; rfl)
theorem dnu3_5 : dnu3T Q d q b rb P n c z t U W 5 := by
 intro H F a w hz hd cl I
 obtain ⟨q0, q1, dl, rl, th, C1⟩ := H
 obtain ⟨rfl, I⟩ := I
 refine wpOp_val dnu35 (.pointer (some ⟨d, 0, none⟩)) rfl rfl ?_ ⟨?_, I⟩
 ·(clear I; unfold dnu35 oO; simp only [dnu3S, selT]; go_simp)
 ·(unfold dnu35 oO; simp only [dnu3S, Act.put, sA, sB, sC]; rfl)
theorem dnu3_6 : dnu3T Q d q b rb P n c z t U W 6 := by
 intro H F a w hz hd cl I
 obtain ⟨q0, q1, dl, rl, th, C1⟩ := H
 obtain ⟨rfl, I⟩ := I
 have d5 := hd 5 rfl
 refine wpOp_val dnu36 (.pointer (some ⟨d, 0, none⟩)) rfl rfl ?_ ⟨?_, I⟩
 ·(clear I; unfold dnu36 oO; simp only [dnu3S, selT, d5]; go_simp)
 ·(unfold dnu36 oO; simp only [dnu3S, Act.put, sA, sB, sC]; rfl)
theorem dnu3_7 : dnu3T Q d q b rb P n c z t U W 7 := by
 intro H F a w hz hd cl I
 obtain ⟨q0, q1, dl, rl, th, C1⟩ := H
 obtain ⟨rfl, I⟩ := I
 have d6 := hd 6 rfl
 refine wpOp_val dnu37 (.pointer (some ⟨d, 0, none⟩)) rfl rfl ?_ ⟨?_, I⟩
 ·(clear I; unfold dnu37 oO; simp only [dnu3S, selT, d6]; go_simp)
 ·(unfold dnu37 oO; simp only [dnu3S, Act.put, sA, sB, sC]; rfl)
theorem dnu3_8 : dnu3T Q d q b rb P n c z t U W 8 := by
 intro H F a w hz hd cl I
 obtain ⟨q0, q1, dl, rl, th, C1⟩ := H
 obtain ⟨rfl, I⟩ := I
 have d7 := hd 7 rfl
 refine wpOp_val dnu38 (.pointer (some ⟨q, 0, none⟩)) rfl rfl ?_ ⟨?_, I⟩
 ·(obtain ⟨HH_, BB_, FE_⟩ := I; have hS := HH_.out; have a0 := (hS.cell (p := ⟨d, 0, none⟩) dl).trans q0; clear hS HH_ BB_ FE_; unfold dnu38 oO; simp only [dnu3S, selT, d7]; go_simp)
 ·(unfold dnu38 oO; simp only [dnu3S, Act.put, sA, sB, sC]; rfl)
theorem dnu3_9 : dnu3T Q d q b rb P n c z t U W 9 := by
 intro H F a w hz hd cl I
 obtain ⟨q0, q1, dl, rl, th, C1⟩ := H
 obtain ⟨rfl, I⟩ := I
 refine wpOp_val dnu39 (.slice P n c) rfl rfl ?_ ⟨?_, I⟩
 ·(clear I; unfold dnu39 oO; simp only [dnu3S, selT]; go_simp)
 ·(unfold dnu39 oO; simp only [dnu3S, Act.put, sA, sB, sC]; rfl)
theorem dnu3_10 : dnu3T Q d q b rb P n c z t U W 10 := by
 intro H F a w hz hd cl I
 obtain ⟨q0, q1, dl, rl, th, C1⟩ := H
 obtain ⟨rfl, HH_, BB_, FE_⟩ := I
 have d9 := hd 9 rfl
 have d8 := hd 8 rfl
 have d4 := hd 4 rfl
 have n13 := nT hz cl 13
 refine wpOp_step (o := dnu310) rfl (fun K hK => ?_)
 replace hK := Hn hK
 simp only [dnu3S, selT, selF, d4, d8, d9, n13]
 clear cl hd
 have HH := HH_
 have BB := Hn (BB_.out n13)
 unfold dnu310 oO
 go_simp
 refine (C1.out _ BB.out).mono ?_
 rintro e w2 ⟨rfl, hb⟩
 have SN := Hn (below_tr HH.out (hb.mono (Nat.le_trans (Nat.le_of_lt rl) HH.out.size)) : Below rb W w2)
 go_wp2_with fail
 refine hK.out _ _ ⟨?_, SN, Hn (fun h13 => by have BB := Hn (BB_.out h13); exact bl_trans BB.out hb), Hn (fun h13 => tf h13 n13)⟩
 simp only [dnu3S, Act.put, sA, sB, sC, selT, selF, uT d4, uT d8, uT d9, uN 10 n13]
 rfl
theorem dnu3_11 : dnu3T Q d q b rb P n c z t U W 11 := by
 intro H F a w hz hd cl I
 obtain ⟨q0, q1, dl, rl, th, C1⟩ := H
 obtain ⟨rfl, I⟩ := I
 have d10 := hd 10 rfl
 refine wpOp_val dnu311 (.agg #[.int .u64 z.x0, .int .u64 z.x1, .int .u64 z.x2, .int .u64 z.x3]) rfl rfl ?_ ⟨?_, I⟩
 ·(clear I; unfold dnu311 oO; simp only [dnu3S, selT, d10]; go_simp)
 ·(unfold dnu311 oO; simp only [dnu3S, Act.put, sA, sB, sC]; rfl)
theorem dnu3_12 : dnu3T Q d q b rb P n c z t U W 12 := by
 intro H F a w hz hd cl I
 obtain ⟨q0, q1, dl, rl, th, C1⟩ := H
 obtain ⟨rfl, I⟩ := I
 have d10 := hd 10 rfl
 refine wpOp_val dnu312 (.bool t) rfl rfl ?_ ⟨?_, I⟩
 ·(clear I; unfold dnu312 oO; simp only [dnu3S, selT, d10]; go_simp)
 ·(unfold dnu312 oO; simp only [dnu3S, Act.put, sA, sB, sC]; rfl)
theorem dnu3_13 : dnu3T Q d q b rb P n c z t U W 13 := by
 intro H F a w hz hd cl I
 obtain ⟨q0, q1, dl, rl, th, C1⟩ := H
 obtain ⟨rfl, HH_, BB_, FE_⟩ := I
 have d11 := hd 11 rfl
 refine wpOp_step (o := dnu313) rfl (fun K hK => ?_)
 replace hK := Hn hK
 simp only [dnu3S, selT, selF, d11]
 clear cl hd
 have HH := HH_
 have BB := Hn (BB_.out hz)
 refine wp_storeE 53 _ _ rfl rb 0 ([.int .u64 z.x0, .int .u64 z.x1, .int .u64 z.x2, .int .u64 z.x3]) (by rfl) (by rfl) (there_bl th BB.out) i4_s (by simp [Value.oneCell']) rfl (fun w2 hw => ?_)
 have SN := Hn (by rw [hw]; exact below_tr HH.out (below_grown (gb_setCells rb [.int .u64 z.x0, .int .u64 z.x1, .int .u64 z.x2, .int .u64 z.x3] 0 _) (Nat.le_trans (Nat.le_of_lt rl) HH.out.size) (fun k hk => by rw [← Option.some.inj hk]; exact Nat.le_refl _)) : Below rb W w2)
 refine hK.out _ _ ⟨?_, SN, Hn (fun h13 => tr h13), Hn (fun h13 => by have BB := Hn (BB_.out hz); exact ⟨_, BB.out, hw⟩)⟩
 simp only [dnu3S, Act.put, sA, sB, sC, selT, selF, uT d11]
 rfl
theorem dnu3_14 : dnu3T Q d q b rb P n c z t U W 14 := by
 intro H F a w hz hd cl I
 obtain ⟨q0, q1, dl, rl, th, C1⟩ := H
 obtain ⟨rfl, I⟩ := I
 have d12 := hd 12 rfl
 refine wpOp_val dnu314 (.bool t) rfl rfl ?_ ⟨?_, I⟩
 ·(clear I; unfold dnu314 oO; simp only [dnu3S, selT, d12]; go_simp)
 ·(unfold dnu314 oO; simp only [dnu3S, Act.put, sA, sB, sC]; rfl)
end
theorem dnu3 (Q : Exit → Act → World → Prop) (d q b rb : Nat) (P : Option Addr) (n c : Nat) (z : E4) (t : Bool) (u2 u3 u5 u6 u7 u8 u9 u10 u11 u12 u13 u14 u15 u16 u17 u18 u19 u20 u21 : Value) (W : World) (H : dnu3h d q b rb P n c z t W)
  (HQ : Hid (∀ (wz : World), (∃ w1, Below W.heap.size W w1 ∧ wz = w1.setCells rb 0 [.int .u64 z.x0, .int .u64 z.x1, .int .u64 z.x2, .int .u64 z.x3]) → Q .normal ⟨#[.pointer (some ⟨d, 0, none⟩), .slice P n c, u2, u3, .pointer (some ⟨rb, 0, none⟩), .bool t, u6, u7, u8, .pointer (some ⟨d, 0, none⟩), .pointer (some ⟨d, 0, none⟩), .pointer (some ⟨d, 1, none⟩), .pointer (some ⟨d, 1, none⟩), .func (.func 137) #[] #[.pointer (some ⟨b, 0, none⟩)], .pointer (some ⟨d, 0, none⟩), .pointer (some ⟨d, 0, none⟩), .pointer (some ⟨d, 0, none⟩), .pointer (some ⟨q, 0, none⟩), .slice P n c, .tuple #[.agg #[.int .u64 z.x0, .int .u64 z.x1, .int .u64 z.x2, .int .u64 z.x3], .bool t], .agg #[.int .u64 z.x0, .int .u64 z.x1, .int .u64 z.x2, .int .u64 z.x3], .bool t], []⟩ wz)) : (Code.region 3 dnu3o true).wp Tryz.prog Q ⟨#[.pointer (some ⟨d, 0, none⟩), .slice P n c, u2, u3, .pointer (some ⟨rb, 0, none⟩), u5, u6, u7, u8, u9, u10, u11, u12, u13, u14, u15, u16, u17, u18, u19, u20, u21], []⟩ W := by
 replace HQ : Hid (dnu3f Q d q b rb P n c z t (nth [undef, undef, u2, u3, undef, u5, u6, u7, u8, u9, u10, u11, u12, u13, u14, u15, u16, u17, u18, u19, u20, u21]) W) := HQ
 refine wp_region_noPanic ?_
 refine wp_region_held_drew (S := fun _ => True) (by kernel_rfl) trivial (fun _ => ?_)
 refine sym (by kernel_rfl) (dnu3I d q b rb P n c z t (nth [undef, undef, u2, u3, undef, u5, u6, u7, u8, u9, u10, u11, u12, u13, u14, u15, u16, u17, u18, u19, u20, u21]) W) (fun F i a w hi h0 hd cl I => ?_) (fun F a w hF I => ?_) _ _ _ _ (by simp) (of_decide_eq_true (by kernel_rfl)) clo0 ?_
 ·match i, hi with
  | 0, _ => exact dnu3_0 H _ _ _ h0 hd cl I
  | 1, _ => exact dnu3_1 H _ _ _ h0 hd cl I
  | 2, _ => exact dnu3_2 H _ _ _ h0 hd cl I
  | 3, _ => exact dnu3_3 H _ _ _ h0 hd cl I
  | 4, _ => exact dnu3_4 H _ _ _ h0 hd cl I
  | 5, _ => exact dnu3_5 H _ _ _ h0 hd cl I
  | 6, _ => exact dnu3_6 H _ _ _ h0 hd cl I
  | 7, _ => exact dnu3_7 H _ _ _ h0 hd cl I
  | 8, _ => exact dnu3_8 H _ _ _ h0 hd cl I
  | 9, _ => exact dnu3_9 H _ _ _ h0 hd cl I
  | 10, _ => exact dnu3_10 H _ _ _ h0 hd cl I
  | 11, _ => exact dnu3_11 H _ _ _ h0 hd cl I
  | 12, _ => exact dnu3_12 H _ _ _ h0 hd cl I
  | 13, _ => exact dnu3_13 H _ _ _ h0 hd cl I
  | 14, _ => exact dnu3_14 H _ _ _ h0 hd cl I
  | k + 15, h => exact absurd h (Nat.not_lt.2 (Nat.le_add_left 15 k))
 ·obtain ⟨rfl, HH, BB_, FE_⟩ := I
  have FE := Hn (FE_.out (hF 13 (by decide)))
  refine NoPanic.normal ?_
  have e : dnu3S (nth [undef, undef, u2, u3, undef, u5, u6, u7, u8, u9, u10, u11, u12, u13, u14, u15, u16, u17, u18, u19, u20, u21]) d q b rb P n c z t  F = dnu3S (nth [undef, undef, u2, u3, undef, u5, u6, u7, u8, u9, u10, u11, u12, u13, u14, u15, u16, u17, u18, u19, u20, u21]) d q b rb P n c z t  (fun _ => true) := by simp only [dnu3S, hF 0 (by decide), hF 1 (by decide), hF 2 (by decide), hF 3 (by decide), hF 4 (by decide), hF 5 (by decide), hF 6 (by decide), hF 7 (by decide), hF 8 (by decide), hF 9 (by decide), hF 10 (by decide), hF 11 (by decide), hF 12 (by decide), hF 13 (by decide), hF 14 (by decide)]
  rw [e]
  exact HQ.out _ FE.out
 ·obtain ⟨q0, q1, dl, rl, th, C1⟩ := H
  have e0 : (fun k => (Array.replicate dnu3o.size false).getD k false) = fun _ => false := funext rep0
  rw [e0]
  exact ⟨rfl, Hn ((bl_drew W).mono (Nat.le_of_lt rl)), Hn (fun _ => bl_drew W), Hn (fun h => tr2 h)⟩
end Ci
end Go.Proofs.YtljmgfclhbadjaaGreatDoor
