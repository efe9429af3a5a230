import Derived.Test.YtghcfcglakbkeaaGreatDoorCsc
namespace Go.Proofs.YtghcfcglakbkeaaGreatDoor
open Go.RowKit
set_option linter.unusedVariables false
set_option linter.unusedSimpArgs false
open Cm (Wr Tm co bf Ls lf ins Eqm)
namespace Ci
set_option maxRecDepth 100000
set_option maxHeartbeats 4000000
theorem ins_lenD (L : Int) (t : Tm) : ∀ X : List Tm, (ins L X t).length ≤ X.length + 1
 | [] => by unfold ins; split <;> simp
 | x :: X => by
  have := ins_lenD L t X
  unfold ins
  split
  ·split <;> simp <;> omega
  ·split
   ·split <;> simp <;> omega
   ·simp; omega
theorem fold_len (L : Int) (Y : List Tm) : ∀ X : List Tm, (Y.foldl (ins L) X).length ≤ X.length + Y.length := by
 induction Y with
 | nil => intro X; simp
 | cons y Y ih =>
  intro X
  have := ih (ins L X y)
  have := ins_lenD L y X
  simp only [List.foldl_cons, List.length_cons]
  omega
theorem fold_take {Y : List Tm} {i : Nat} {x : Tm} (L : Int) (X : List Tm) (h : Y[i]? = some x) : (Y.take (i + 1)).foldl (ins L) X = ins L ((Y.take i).foldl (ins L) X) x := by
 rw [List.take_add_one, h, List.foldl_append]
 rfl
theorem Dl.keep {w w' w2 : World} {X : List Tm} {v : Value} (h : Dl w X v w') (hb : Below w'.heap.size w' w2) : Dl w X v w2 := ⟨own_keepT h.1 hb, bl_trans h.2 hb⟩
theorem Dl.under {w w1 w2 : World} {X : List Tm} {v : Value} (hb : Below w.heap.size w w1) (h : Dl w1 X v w2) : Dl w X v w2 := ⟨own_monoT h.1 hb.size, bl_trans hb h.2⟩
theorem Dl.shape {w w' : World} {X : List Tm} {v : Value} (h : Dl w X v w') : ∃ P c, v = .slice P X.length c ∧ Lt w' P X.length (ft X) := by
 obtain ⟨P, c, rfl, _, _⟩ := own_shT h.1
 exact ⟨P, c, rfl, own_lts h.1⟩
theorem dLeast_any (P : Option Addr) (c : Nat) (Y : List Tm) (w : World) (hn : Y.length ≤ 2932031007400) (hL : Lt w P Y.length (ft Y)) :
  Calls Tryz.prog 58 #[.slice P Y.length c] w fun e w' => ∃ v, e = .returned v ∧ Dl w (lf Sm.L Y) v w' := by
 have HS := Hn hn
 have HL := Hn hL
 have D0 : Hid (Dl w ((Y.take 0).foldl (ins Sm.L) []) (.slice none 0 0) w) := Hn ⟨World.ownsRow_nil _ _ _ _, Below.refl _ _⟩
 clear hn hL
 go_enter Tryz.func58, Tryz.ntmps58
 go_upto_region 3 with fail
 go_loopw [3, 4] (fun v iv w' => ∃ i : Nat, i ≤ Y.length ∧ iv = .int .i64 (i : Int) ∧ Hid (Dl w ((Y.take i).foldl (ins Sm.L) []) v w')) (fun _ i _ => Y.length - (intOf i).toNat)
 case atStart => exact ⟨0, by omega, rfl, D0⟩
 case round =>
  clear D0
  obtain ⟨i, hi, rfl, hR⟩ := hrel
  by_cases hin : i < Y.length
  ·obtain ⟨P1, c1, rfl, hl1⟩ := hR.out.shape
   have i1 : (i : Int) < (Y.length : Int) := by omega
   have i0 : (0 : Int) ≤ (i : Int) := by omega
   have w9 : IntKind.i64.wrap ((i : Int) + 1) = (i : Int) + 1 := IntWalk.i64_in _ (by have := HS.out; omega)
   obtain ⟨sb, so, hPs, hRt⟩ := HL.out
   obtain rfl := hPs (by omega)
   have rt := (hRt (by omega))
   obtain ⟨x, hx⟩ : ∃ x, Y[i]? = some x := ⟨Y[i], by simp [hin]⟩
   have fx := ft_atC hx
   have hb := hR.out.2
   have a0 := cell_keep (rt.c0 i hin) hb
   have a1 := cell_keep (rt.c1 i hin) hb
   have a2 := cell_keep (rt.c2 i hin) hb
   have a3 := cell_keep (rt.c3 i hin) hb
   have a4 := cell_keep (rt.c4 i hin) hb
   have a5 := cell_keep (rt.c5 i hin) hb
   rw [fx] at a0 a1 a2 a3 a4 a5
   clear rt hRt hPs fx hb
   simp only [tmOf] at a0 a1 a2 a3 a4 a5
   obtain ⟨⟨xk, xi⟩, xm⟩ := x
   simp only at a0 a1 a2 a3 a4 a5
   have C := put_any P1 c1 _ (xk, xi) xm wr (by have := fold_len Sm.L (Y.take i) []; have := HS.out; simp at *; omega) hl1
   rw [← fold_take Sm.L [] hx] at C
   simp only at C
   obtain ⟨p, hp⟩ : ∃ p, lst xm = p := ⟨_, rfl⟩
   rw [hp] at C a2 a3 a4 a5
   replace C := Hn C
   clear hp hx hl1
   obtain ⟨F1, hF1⟩ : ∃ F1, (Y.take (i + 1)).foldl (ins Sm.L) [] = F1 := ⟨_, rfl⟩
   rw [hF1] at C
   have HF1 := Hn hF1
   clear hF1
   go_wp2_with (first | (go_at_call 99; refine C.out.mono ?_; rintro e w2 ⟨v2, rfl, h2⟩; have PN := Hn (Dl.under hR.out.2 h2); clear h2))
   clear hR C
   go_roundw
   case rel => exact ⟨i + 1, by omega, by go_num, by rw [HF1.out]; exact PN⟩
   case measure => simp [intOf]; omega
  ·obtain rfl : i = Y.length := by omega
   have lq : ¬ (Y.length : Int) < (Y.length : Int) := by omega
   have hF := hR.out
   rw [List.take_length] at hF
   have DF := Hn hF
   obtain ⟨P1, c1, rfl, _⟩ := hF.shape
   clear hF hR
   go_wp2_with fail
   exact bodyPost_ret (v := .slice P1 _ c1) (by simp [results, Tryz.results58, go_sem]) rfl ⟨_, rfl, DF.out⟩
theorem dAdd_any (P Q : Option Addr) (c d : Nat) (A Y : List Tm) (w : World) (hn : A.length + Y.length ≤ 2932031007400) (hL : Lt w P A.length (ft A)) (hL2 : Lt w Q Y.length (ft Y)) :
  Calls Tryz.prog 97 #[.slice P A.length c, .slice Q Y.length d] w fun e w' => ∃ v, e = .returned v ∧ Dl w (lf Sm.L (A ++ Y)) v w' := by
 have HS := Hn hn
 have HA : Hid ((lf Sm.L A).length ≤ A.length) := Hn (by have := fold_len Sm.L A []; simpa [lf] using this)
 have HL := Hn hL2
 have C0 := Hn (dLeast_any P c A w (by omega) hL)
 rw [← Cm.lf_app]
 clear hn hL hL2
 go_enter Tryz.func97, Tryz.ntmps97
 go_upto_region 3 with (go_at_call 58; refine C0.out.mono ?_; rintro e w1 ⟨v1, rfl, h1⟩; have D0 : Hid (Dl w ((Y.take 0).foldl (ins Sm.L) (lf Sm.L A)) v1 w1) := Hn h1; clear h1)
 clear C0
 go_loopw [5, 6] (fun v iv w' => ∃ i : Nat, i ≤ Y.length ∧ iv = .int .i64 (i : Int) ∧ Hid (Dl w ((Y.take i).foldl (ins Sm.L) (lf Sm.L A)) v w')) (fun _ i _ => Y.length - (intOf i).toNat)
 case atStart => exact ⟨0, by omega, rfl, D0⟩
 case round =>
  clear D0
  obtain ⟨i, hi, rfl, hR⟩ := hrel
  by_cases hin : i < Y.length
  ·obtain ⟨P1, c1, rfl, hl1⟩ := hR.out.shape
   have i1 : (i : Int) < (Y.length : Int) := by omega
   have i0 : (0 : Int) ≤ (i : Int) := by omega
   have w9 : IntKind.i64.wrap ((i : Int) + 1) = (i : Int) + 1 := IntWalk.i64_in _ (by have := HS.out; omega)
   obtain ⟨sb, so, hPs, hRt⟩ := HL.out
   obtain rfl := hPs (by omega)
   have rt := (hRt (by omega))
   obtain ⟨x, hx⟩ : ∃ x, Y[i]? = some x := ⟨Y[i], by simp [hin]⟩
   have fx := ft_atC hx
   have hb := hR.out.2
   have a0 := cell_keep (rt.c0 i hin) hb
   have a1 := cell_keep (rt.c1 i hin) hb
   have a2 := cell_keep (rt.c2 i hin) hb
   have a3 := cell_keep (rt.c3 i hin) hb
   have a4 := cell_keep (rt.c4 i hin) hb
   have a5 := cell_keep (rt.c5 i hin) hb
   rw [fx] at a0 a1 a2 a3 a4 a5
   clear rt hRt hPs fx hb
   simp only [tmOf] at a0 a1 a2 a3 a4 a5
   obtain ⟨⟨xk, xi⟩, xm⟩ := x
   simp only at a0 a1 a2 a3 a4 a5
   have C := put_any P1 c1 _ (xk, xi) xm wr (by have := fold_len Sm.L (Y.take i) (lf Sm.L A); have := HS.out; have := HA.out; simp only [List.length_take] at *; omega) hl1
   rw [← fold_take Sm.L (lf Sm.L A) hx] at C
   simp only at C
   obtain ⟨p, hp⟩ : ∃ p, lst xm = p := ⟨_, rfl⟩
   rw [hp] at C a2 a3 a4 a5
   replace C := Hn C
   clear hp hx hl1
   obtain ⟨F1, hF1⟩ : ∃ F1, (Y.take (i + 1)).foldl (ins Sm.L) (lf Sm.L A) = F1 := ⟨_, rfl⟩
   rw [hF1] at C
   have HF1 := Hn hF1
   clear hF1
   go_wp2_with (first | (go_at_call 99; refine C.out.mono ?_; rintro e w2 ⟨v2, rfl, h2⟩; have PN := Hn (Dl.under hR.out.2 h2); clear h2))
   clear hR C
   go_roundw
   case rel => exact ⟨i + 1, by omega, by go_num, by rw [HF1.out]; exact PN⟩
   case measure => simp [intOf]; omega
  ·obtain rfl : i = Y.length := by omega
   have lq : ¬ (Y.length : Int) < (Y.length : Int) := by omega
   have hF := hR.out
   rw [List.take_length] at hF
   have DF := Hn hF
   obtain ⟨P1, c1, rfl, _⟩ := hF.shape
   clear hF hR
   go_wp2_with fail
   exact bodyPost_ret (v := .slice P1 _ c1) (by simp [results, Tryz.results97, go_sem]) rfl ⟨_, rfl, DF.out⟩
end Ci
end Go.Proofs.YtghcfcglakbkeaaGreatDoor
namespace Go.Proofs.YtghcfcglakbkeaaGreatDoor
set_option maxRecDepth 100000
set_option maxHeartbeats 16000000
open Go.RowKit
set_option linter.unusedVariables false
set_option linter.unusedSimpArgs false
open Cm (Wr Tm co bf Ls lf ins Eqm)
namespace Ci
def pCse0 : String := "circuit.go:87"
def pCse1 : String := "circuit.go:67"
def tm5o_0 : Oper := oO 13 (Op.move (Operand.tmp 5)) 72 pCse0 #[]
def tm5o_1 : Oper := oO 14 (Op.move (Operand.tmp 0)) 72 pCse0 #[]
def tm5o_2 : Oper := oO 15 (Op.move (Operand.tmp 6)) 3 pCse0 #[]
def tm5o_3 : Oper := oO 16 (Op.indexAddr 72 (Operand.tmp 14) (Operand.tmp 15)) 0 pCse0 #[DD 1, DD 2]
def tm5o_4 : Oper := oO 17 (Op.fieldAddr 116 (Operand.tmp 16) 0) 0 pCse0 #[DD 3]
def tm5o_5 : Oper := oO 18 (Op.load 67 (Operand.tmp 17)) 67 pCse0 #[DD 4]
def tm5o_6 : Oper := oO 19 (Op.move (Operand.tmp 0)) 72 pCse0 #[]
def tm5o_7 : Oper := oO 20 (Op.move (Operand.tmp 6)) 3 pCse0 #[]
def tm5o_8 : Oper := oO 21 (Op.indexAddr 72 (Operand.tmp 19) (Operand.tmp 20)) 0 pCse0 #[DD 6, DD 7]
def tm5o_9 : Oper := oO 22 (Op.fieldAddr 116 (Operand.tmp 21) 1) 0 pCse0 #[DD 8]
def tm5o_10 : Oper := oO 23 (Op.load 52 (Operand.tmp 22)) 52 pCse0 #[DD 9]
def tm5o_11 : Oper := oO 24 (Op.load 52 (Operand.tmp 3)) 52 pCse0 #[]
def tm5o_12 : Oper := oO 25 (Op.call { callee := Callee.value (Operand.func 50), args := #[Operand.tmp 23, Operand.tmp 24], argTypes := #[52, 52] }) 52 pCse0 #[DD 10, DD 11]
def tm5o_13 : Oper := oO 26 (Op.build 116 #[(0, Operand.tmp 18), (1, Operand.tmp 25)]) 116 pCse0 #[DD 5, DD 12]
def tm5o_14 : Oper := oO 27 (Op.call { callee := Callee.value (Operand.func 99), args := #[Operand.tmp 13, Operand.tmp 26], argTypes := #[72, 116] }) 72 pCse0 #[DD 0, DD 13, CH 12]
def tm5o_15 : Oper := oO 5 (Op.assign (Operand.tmp 27)) 72 pCse0 #[DD 14, CH 14, PH 0, PH 1, PH 2, PH 3, PH 4, PH 5, PH 6, PH 7, PH 8, PH 9, PH 10, PH 11, PH 12, PH 13, PH 14]
def tm5o : Array Oper := #[tm5o_0, tm5o_1, tm5o_2, tm5o_3, tm5o_4, tm5o_5, tm5o_6, tm5o_7, tm5o_8, tm5o_9, tm5o_10, tm5o_11, tm5o_12, tm5o_13, tm5o_14, tm5o_15]
theorem tm5 (Q : Exit → Act → World → Prop) (sb so n c b i : Nat) (qk qi : Int) (p k r : E4) (V : Value) (F : List Tm) (u1 u2 u4 u7 u8 u9 aa ab ad ae af ag ah ai aj ak al am an ao ap aq au av aw : Value) (W : World)
  (i0 : (0 : Int) ≤ (i : Int)) (i1 : (i : Int) < (n : Int)) (c0 : W.cell? ⟨sb, so + i * 6, none⟩ = some (.int .i64 qk)) (c1 : W.cell? ⟨sb, so + i * 6 + 1, none⟩ = some (.int .i64 qi)) (c2 : W.cell? ⟨sb, so + i * 6 + 2, none⟩ = some (.int .u64 p.x0)) (c3 : W.cell? ⟨sb, so + i * 6 + 3, none⟩ = some (.int .u64 p.x1)) (c4 : W.cell? ⟨sb, so + i * 6 + 4, none⟩ = some (.int .u64 p.x2)) (c5 : W.cell? ⟨sb, so + i * 6 + 5, none⟩ = some (.int .u64 p.x3)) (t0 : W.cell? ⟨b, 0, none⟩ = some (.int .u64 k.x0)) (t1 : W.cell? ⟨b, 1, none⟩ = some (.int .u64 k.x1)) (t2 : W.cell? ⟨b, 2, none⟩ = some (.int .u64 k.x2)) (t3 : W.cell? ⟨b, 3, none⟩ = some (.int .u64 k.x3))
  (C12 : Hid (∀ y, Calls Tryz.prog 50 #[.agg #[.int .u64 p.x0, .int .u64 p.x1, .int .u64 p.x2, .int .u64 p.x3], .agg #[.int .u64 k.x0, .int .u64 k.x1, .int .u64 k.x2, .int .u64 k.x3]] y fun e w' => e = .returned (.agg #[.int .u64 r.x0, .int .u64 r.x1, .int .u64 r.x2, .int .u64 r.x3]) ∧ Below y.heap.size y w'))
  (C14 : Hid (∀ y, Below W.heap.size W y → Calls Tryz.prog 99 #[V, .agg #[.int .i64 qk, .int .i64 qi, .int .u64 r.x0, .int .u64 r.x1, .int .u64 r.x2, .int .u64 r.x3]] y fun e w' => ∃ v, e = .returned v ∧ Dl y F v w'))
  (HQ : Hid (∀ (wz : World) (v2 : Value), Below W.heap.size W wz → wz.ownsRow W.heap.size 116 6 v2 F.length (tls F) → Q .normal ⟨#[.slice (some ⟨sb, so, none⟩) n c, u1, u2, .pointer (some ⟨b, 0, none⟩), u4, v2, .int .i64 (i : Int), u7, u8, u9, aa, ab, ad, V, .slice (some ⟨sb, so, none⟩) n c, .int .i64 (i : Int), .pointer (some ⟨sb, so + i * 6, none⟩), .pointer (some ⟨sb, so + i * 6, none⟩), .agg #[.int .i64 qk, .int .i64 qi], .slice (some ⟨sb, so, none⟩) n c, .int .i64 (i : Int), .pointer (some ⟨sb, so + i * 6, none⟩), .pointer (some ⟨sb, so + i * 6 + 2, none⟩), .agg #[.int .u64 p.x0, .int .u64 p.x1, .int .u64 p.x2, .int .u64 p.x3], .agg #[.int .u64 k.x0, .int .u64 k.x1, .int .u64 k.x2, .int .u64 k.x3], .agg #[.int .u64 r.x0, .int .u64 r.x1, .int .u64 r.x2, .int .u64 r.x3], .agg #[.int .i64 qk, .int .i64 qi, .int .u64 r.x0, .int .u64 r.x1, .int .u64 r.x2, .int .u64 r.x3], v2, aw], []⟩ wz)) : (Code.region 5 tm5o true).wp Tryz.prog Q ⟨#[.slice (some ⟨sb, so, none⟩) n c, u1, u2, .pointer (some ⟨b, 0, none⟩), u4, V, .int .i64 (i : Int), u7, u8, u9, aa, ab, ad, ae, af, ag, ah, ai, aj, ak, al, am, an, ao, ap, aq, au, av, aw], []⟩ W := by
 unfold tm5o
 refine wp_region_noPanic ?_
 refine wp_region_held_drew (S := fun x => Below W.heap.size W x) (by kernel_rfl) (bl_drew W) (fun hH0 => ?_)
 refine tj 0 tm5o_0 (V) hH0 (fun w0 hSw => ?_) ?_
 ·(unfold tm5o_0 oO; clear hSw; go_simp)
 simp only [tm5o_0, oO, Act.put, sA, sB, sC]
 refine tj 1 tm5o_1 (.slice (some ⟨sb, so, none⟩) n c) hH0 (fun w0 hSw => ?_) ?_
 ·(unfold tm5o_1 oO; clear hSw; go_simp)
 simp only [tm5o_1, oO, Act.put, sA, sB, sC]
 refine tj 2 tm5o_2 (.int .i64 (i : Int)) hH0 (fun w0 hSw => ?_) ?_
 ·(unfold tm5o_2 oO; clear hSw; go_simp)
 simp only [tm5o_2, oO, Act.put, sA, sB, sC]
 refine tj 6 tm5o_6 (.slice (some ⟨sb, so, none⟩) n c) hH0 (fun w0 hSw => ?_) ?_
 ·(unfold tm5o_6 oO; clear hSw; go_simp)
 simp only [tm5o_6, oO, Act.put, sA, sB, sC]
 refine tj 7 tm5o_7 (.int .i64 (i : Int)) hH0 (fun w0 hSw => ?_) ?_
 ·(unfold tm5o_7 oO; clear hSw; go_simp)
 simp only [tm5o_7, oO, Act.put, sA, sB, sC]
 refine tj 11 tm5o_11 (.agg #[.int .u64 k.x0, .int .u64 k.x1, .int .u64 k.x2, .int .u64 k.x3]) hH0 (fun w0 hSw => ?_) ?_
 ·(unfold tm5o_11 oO; have hS : Below W.heap.size W w0 := hSw; have a0 := cell_keep t0 hS; have a1 := cell_keep t1 hS; have a2 := cell_keep t2 hS; have a3 := cell_keep t3 hS; clear hS hSw; go_simp)
 simp only [tm5o_11, oO, Act.put, sA, sB, sC]
 refine tj 3 tm5o_3 (.pointer (some ⟨sb, so + i * 6, none⟩)) hH0 (fun w0 hSw => ?_) ?_
 ·(unfold tm5o_3 oO; clear hSw; go_simp)
 simp only [tm5o_3, oO, Act.put, sA, sB, sC]
 refine tj 8 tm5o_8 (.pointer (some ⟨sb, so + i * 6, none⟩)) hH0 (fun w0 hSw => ?_) ?_
 ·(unfold tm5o_8 oO; clear hSw; go_simp)
 simp only [tm5o_8, oO, Act.put, sA, sB, sC]
 refine tj 4 tm5o_4 (.pointer (some ⟨sb, so + i * 6, none⟩)) hH0 (fun w0 hSw => ?_) ?_
 ·(unfold tm5o_4 oO; clear hSw; go_simp)
 simp only [tm5o_4, oO, Act.put, sA, sB, sC]
 refine tj 9 tm5o_9 (.pointer (some ⟨sb, so + i * 6 + 2, none⟩)) hH0 (fun w0 hSw => ?_) ?_
 ·(unfold tm5o_9 oO; clear hSw; go_simp)
 simp only [tm5o_9, oO, Act.put, sA, sB, sC]
 refine tj 5 tm5o_5 (.agg #[.int .i64 qk, .int .i64 qi]) hH0 (fun w0 hSw => ?_) ?_
 ·(unfold tm5o_5 oO; have hS : Below W.heap.size W w0 := hSw; have a0 := cell_keep c0 hS; have a1 := cell_keep c1 hS; clear hS hSw; go_simp)
 simp only [tm5o_5, oO, Act.put, sA, sB, sC]
 refine tj 10 tm5o_10 (.agg #[.int .u64 p.x0, .int .u64 p.x1, .int .u64 p.x2, .int .u64 p.x3]) hH0 (fun w0 hSw => ?_) ?_
 ·(unfold tm5o_10 oO; have hS : Below W.heap.size W w0 := hSw; have a0 := cell_keep c2 hS; have a1 := cell_keep c3 hS; have a2 := cell_keep c4 hS; have a3 := cell_keep c5 hS; clear hS hSw; go_simp)
 simp only [tm5o_10, oO, Act.put, sA, sB, sC]
 refine ar [12] ?_
 refine ac tm5o_12 (fun K hK => ?_) AllReadyH.nil
 unfold tm5o_12 oO
 have HH := Hn hH0
 clear hH0
 go_simp
 refine (C12.out _).mono ?_
 rintro e wn1 ⟨rfl, hb⟩
 have SN := Hn (bl_trans HH.out hb)
 clear HH C12 hb
 go_wp2_with fail
 refine hK.out _ _ SN.out (fun hH1 => ?_)
 clear hK K SN
 refine tj 13 tm5o_13 (.agg #[.int .i64 qk, .int .i64 qi, .int .u64 r.x0, .int .u64 r.x1, .int .u64 r.x2, .int .u64 r.x3]) hH1 (fun w0 hSw => ?_) ?_
 ·(unfold tm5o_13 oO; clear hSw; go_simp)
 simp only [tm5o_13, oO, Act.put, sA, sB, sC]
 refine ar [14] ?_
 refine ac tm5o_14 (fun K hK => ?_) AllReadyH.nil
 unfold tm5o_14 oO
 have HH := Hn hH1
 clear hH1
 go_simp
 refine (C14.out _ HH.out).mono ?_
 rintro e wn2 ⟨v2, rfl, hq⟩
 have SN := Hn (bl_trans HH.out hq.2)
 have OW := Hn (own_monoT hq.1 HH.out.size)
 clear HH C14 hq
 go_wp2_with fail
 refine hK.out _ _ SN.out (fun hH2 => ?_)
 clear hK K SN
 refine tj 15 tm5o_15 (v2) hH2 (fun w0 hSw => ?_) ?_
 ·(unfold tm5o_15 oO; clear hSw; go_simp)
 simp only [tm5o_15, oO, Act.put, sA, sB, sC]
 have HH := Hn hH2
 have FQ := Hn (HQ.out _ v2 HH.out OW.out)
 refine wpAnyH_done (by kernel_rfl) ?_ _
 refine NoPanic.normal ?_
 exact FQ.out
def sc (kn : Int) (Y : List Tm) : List Tm := Y.map fun x => (x.1, x.2 * kn)
theorem sc_len (kn : Int) (Y : List Tm) : (sc kn Y).length = Y.length := by simp [sc]
theorem sc_at {kn : Int} {Y : List Tm} {i : Nat} {x : Tm} (h : Y[i]? = some x) : (sc kn Y)[i]? = some (x.1, x.2 * kn) := by simp [sc, h]
theorem dTimes_any (P : Option Addr) (c : Nat) (Y : List Tm) (kn : Int) (w : World) (hn : Y.length ≤ 2932031007400) (hL : Lt w P Y.length (ft Y)) :
  Calls Tryz.prog 98 #[.slice P Y.length c, .agg #[.int .u64 (lst kn).x0, .int .u64 (lst kn).x1, .int .u64 (lst kn).x2, .int .u64 (lst kn).x3]] w fun e w' => ∃ v, e = .returned v ∧ Dl w (lf Sm.L (sc kn Y)) v w' := by
 have MU0 := fun a y => rMul_any a kn y
 simp only [E4.v] at MU0
 obtain ⟨k, hk⟩ : ∃ k, lst kn = k := ⟨_, rfl⟩
 rw [hk] at MU0 ⊢
 have MUh := Hn MU0
 have HS := Hn hn
 have HB := Hn (bl_alloc w (.cells #[.int .u64 k.x0, .int .u64 k.x1, .int .u64 k.x2, .int .u64 k.x3] 52))
 have HL := Hn (hL.keep (bl_alloc w (.cells #[.int .u64 k.x0, .int .u64 k.x1, .int .u64 k.x2, .int .u64 k.x3] 52)))
 have D0 : Hid (Dl (w.alloc (.cells #[.int .u64 k.x0, .int .u64 k.x1, .int .u64 k.x2, .int .u64 k.x3] 52)) (((sc kn Y).take 0).foldl (ins Sm.L) []) (.slice none 0 0) (w.alloc (.cells #[.int .u64 k.x0, .int .u64 k.x1, .int .u64 k.x2, .int .u64 k.x3] 52))) := Hn ⟨World.ownsRow_nil _ _ _ _, Below.refl _ _⟩
 have t0 : (w.alloc (.cells #[.int .u64 k.x0, .int .u64 k.x1, .int .u64 k.x2, .int .u64 k.x3] 52)).cell? ⟨w.heap.size, 0, none⟩ = some (.int .u64 k.x0) := by go_simp
 have t1 : (w.alloc (.cells #[.int .u64 k.x0, .int .u64 k.x1, .int .u64 k.x2, .int .u64 k.x3] 52)).cell? ⟨w.heap.size, 1, none⟩ = some (.int .u64 k.x1) := by go_simp
 have t2 : (w.alloc (.cells #[.int .u64 k.x0, .int .u64 k.x1, .int .u64 k.x2, .int .u64 k.x3] 52)).cell? ⟨w.heap.size, 2, none⟩ = some (.int .u64 k.x2) := by go_simp
 have t3 : (w.alloc (.cells #[.int .u64 k.x0, .int .u64 k.x1, .int .u64 k.x2, .int .u64 k.x3] 52)).cell? ⟨w.heap.size, 3, none⟩ = some (.int .u64 k.x3) := by go_simp
 clear hn hL hk MU0
 go_enter Tryz.func98, Tryz.ntmps98
 go_upto_region 3 with fail
 generalize w.alloc (.cells #[.int .u64 k.x0, .int .u64 k.x1, .int .u64 k.x2, .int .u64 k.x3] 52) = w1 at *
 go_loopw [5, 6] (fun v iv w' => ∃ i : Nat, i ≤ Y.length ∧ iv = .int .i64 (i : Int) ∧ Hid (Dl w1 (((sc kn Y).take i).foldl (ins Sm.L) []) v w')) (fun _ i _ => Y.length - (intOf i).toNat)
 case atStart => exact ⟨0, by omega, rfl, D0⟩
 case round =>
  clear D0
  obtain ⟨i, hi, rfl, hR⟩ := hrel
  by_cases hin : i < Y.length
  ·obtain ⟨P1, c1, rfl, hl1⟩ := hR.out.shape
   have i1 : (i : Int) < (Y.length : Int) := by omega
   have i0 : (0 : Int) ≤ (i : Int) := by omega
   have w9 : IntKind.i64.wrap ((i : Int) + 1) = (i : Int) + 1 := IntWalk.i64_in _ (by have := HS.out; omega)
   obtain ⟨sb, so, hPs, hRt⟩ := HL.out
   obtain rfl := hPs (by omega)
   have rt := (hRt (by omega))
   obtain ⟨x, hx⟩ : ∃ x, Y[i]? = some x := ⟨Y[i], by simp [hin]⟩
   have fx := ft_atC hx
   have hb := hR.out.2
   have a0 := cell_keep (rt.c0 i hin) hb
   have a1 := cell_keep (rt.c1 i hin) hb
   have a2 := cell_keep (rt.c2 i hin) hb
   have a3 := cell_keep (rt.c3 i hin) hb
   have a4 := cell_keep (rt.c4 i hin) hb
   have a5 := cell_keep (rt.c5 i hin) hb
   rw [fx] at a0 a1 a2 a3 a4 a5
   clear rt hRt hPs fx hb
   simp only [tmOf] at a0 a1 a2 a3 a4 a5
   obtain ⟨⟨xk, xi⟩, xm⟩ := x
   simp only at a0 a1 a2 a3 a4 a5
   have s0 := cell_keep t0 hR.out.2
   have s1 := cell_keep t1 hR.out.2
   have s2 := cell_keep t2 hR.out.2
   have s3 := cell_keep t3 hR.out.2
   have C := fun y (hy : Below wr.heap.size wr y) => put_any P1 c1 _ (xk, xi) (xm * kn) y (by have := fold_len Sm.L ((sc kn Y).take i) []; have := HS.out; have := sc_len kn Y; simp only [List.length_take, List.length_nil] at *; omega) (hl1.keep hy)
   have hx2 := sc_at (kn := kn) hx
   simp only at hx2
   simp only [← fold_take Sm.L [] hx2] at C
   have M := MUh.out xm
   obtain ⟨p, hp⟩ : ∃ p, lst xm = p := ⟨_, rfl⟩
   obtain ⟨r, hr⟩ : ∃ r, lst (xm * kn) = r := ⟨_, rfl⟩
   rw [hp] at M a2 a3 a4 a5
   rw [hr] at M
   simp only [hr] at C
   replace C := Hn C
   replace M := Hn M
   obtain ⟨F1, hF1⟩ : ∃ F1, ((sc kn Y).take (i + 1)).foldl (ins Sm.L) [] = F1 := ⟨_, rfl⟩
   simp only [hF1] at C
   have HF1 := Hn hF1
   clear hp hr hx hx2 hl1 hF1
   go_upto_region 5 with fail
   refine tm5 _ sb so Y.length c w.heap.size i xk xi p k r _ F1 _ _ _ _ _ _ _ _ _ _ _ _ _ _ _ _ _ _ _ _ _ _ _ _ _ wr i0 i1 a0 a1 a2 a3 a4 a5 s0 s1 s2 s3 M C (Hn ?_)
   intro w2 v2 hb2 ho2
   have PN : Hid (Dl w1 F1 v2 w2) := Hn ⟨own_monoT ho2 hR.out.2.size, bl_trans hR.out.2 hb2⟩
   clear hR C M hb2 ho2 s0 s1 s2 s3 a0 a1 a2 a3 a4 a5
   go_wp2_with fail
   go_roundw
   case rel => exact ⟨i + 1, by omega, by go_num, by rw [HF1.out]; exact PN⟩
   case measure => simp [intOf]; omega
  ·obtain rfl : i = Y.length := by omega
   have lq : ¬ (Y.length : Int) < (Y.length : Int) := by omega
   have hF := hR.out
   rw [show (sc kn Y).take Y.length = sc kn Y from by rw [← sc_len kn Y, List.take_length]] at hF
   have DF := Hn hF
   obtain ⟨P1, c1, rfl, _⟩ := hF.shape
   clear hF hR
   go_wp2_with fail
   exact bodyPost_ret (v := .slice P1 _ c1) (by simp [results, Tryz.results98, go_sem]) rfl ⟨_, rfl, Dl.under HB.out DF.out⟩
theorem int1R (y : World) : Calls Tryz.prog 49 #[.int .u64 1] y fun e w' => e = .returned (.agg #[.int .u64 1, .int .u64 0, .int .u64 0, .int .u64 0]) ∧ Below y.heap.size y w' := by
 go_enter Tryz.func49, Tryz.ntmps49
 go_wp2_with fail
 refine bodyPost_ret (v := .agg #[.int .u64 1, .int .u64 0, .int .u64 0, .int .u64 0]) (by simp [results, Tryz.results49, go_sem]) rfl ⟨rfl, ?_⟩
 exact bl_alloc y _
theorem dSub_any (P Q : Option Addr) (c d : Nat) (A Y : List Tm) (w : World) (hn : A.length + Y.length ≤ 2932031007400) (hL : Lt w P A.length (ft A)) (hL2 : Lt w Q Y.length (ft Y)) :
  Calls Tryz.prog 57 #[.slice P A.length c, .slice Q Y.length d] w fun e w' => ∃ v, e = .returned v ∧ Dl w (lf Sm.L (A ++ lf Sm.L (sc (-1) Y))) v w' := by
 have N1 := fun y => rNeg_any 1 y
 rw [one_is] at N1
 simp only [E4.v] at N1
 obtain ⟨k, hk⟩ : ∃ k, lst (-1) = k := ⟨_, rfl⟩
 have T := fun y (hy : Below w.heap.size w y) => dTimes_any Q d Y (-1) y (by omega) (hL2.keep hy)
 simp only [hk] at N1 T
 have HT := Hn T
 have HN := Hn N1
 have H1 := Hn int1R
 have HY : Hid ((lf Sm.L (sc (-1) Y)).length ≤ Y.length) := Hn (by have := fold_len Sm.L (sc (-1) Y) []; rw [sc_len] at this; simpa [lf] using this)
 have HS := Hn hn
 have HL := Hn hL
 clear T N1 hk hn hL hL2
 generalize lf Sm.L (sc (-1) Y) = Z at *
 go_enter Tryz.func57, Tryz.ntmps57
 go_wp2_with (first | (go_at_call 49; refine (H1.out _).mono ?_; rintro e w1 ⟨rfl, hb⟩; have B1 := Hn hb; clear hb) | (go_at_call 90; refine (HN.out _).mono ?_; rintro e w2 ⟨rfl, hb⟩; have B2 := Hn (bl_trans B1.out hb); clear hb) | (go_at_call 98; refine (HT.out _ B2.out).mono ?_; rintro e w3 ⟨v3, rfl, h3⟩; obtain ⟨P3, c3, rfl, hl3⟩ := h3.shape; have B3 := Hn (bl_trans B2.out h3.2); have CA := Hn (dAdd_any P P3 c c3 A Z w3 (by have := HS.out; have := HY.out; omega) (HL.out.keep B3.out) hl3); clear h3 hl3) | (go_at_call 97; refine CA.out.mono ?_; rintro e w4 ⟨v4, rfl, h4⟩; have D4 := Hn (Dl.under B3.out h4); clear h4))
 exact bodyPost_ret (v := v4) (by simp [results, Tryz.results57, go_sem]) rfl ⟨_, rfl, D4.out⟩
theorem own_new6 {base : Nat} (w : World) (cs : List Value) (h : cs.length = 6) (hb : base ≤ w.heap.size) : (w.alloc (.cells cs.toArray 116)).ownsRow base 116 6 (.slice (some ⟨w.heap.size, 0, none⟩) 1 1) 1 cs :=
 ⟨by rw [h], .inr ⟨w.heap.size, 1, cs.toArray, rfl, hb, heap_alloc_new w _, Nat.le_refl _, by unfold maxLen; omega, by simp [h], by rw [List.take_of_length_le (by simp [h])]⟩⟩
theorem buildR (qk qi : Int) (w : World) : (Instr.buildSlice 72 1 #[(0, .agg #[.int .i64 qk, .int .i64 qi, .int .u64 1, .int .u64 0, .int .u64 0, .int .u64 0])]).run Tryz.prog w = .ok (.slice (some ⟨w.heap.size, 0, none⟩) 1 1) (w.alloc (.cells #[.int .i64 qk, .int .i64 qi, .int .u64 1, .int .u64 0, .int .u64 0, .int .u64 0] 116)) := by kernel_rfl
theorem wp_buildR {w : World} {o : Oper} {a : Act} {K : Act → World → Prop} {Q : Exit → Act → World → Prop} (x0 : Operand) (ho : o.op = .buildSlice 72 1 #[(0, x0)]) (qk qi : Int) (h0 : a.eval x0 = .agg #[.int .i64 qk, .int .i64 qi, .int .u64 1, .int .u64 0, .int .u64 0, .int .u64 0]) (h : ∀ (tb : Nat) (wq : World), tb = w.heap.size → wq = w.alloc (.cells #[.int .i64 qk, .int .i64 qi, .int .u64 1, .int .u64 0, .int .u64 0, .int .u64 0] 116) → K (a.put o.dst (.slice (some ⟨tb, 0, none⟩) 1 1)) wq) : o.wp Tryz.prog a w K Q := by
 have hr := buildR qk qi w
 unfold Oper.wp execOp
 simp only [ho, Sem.run_bind, Sem.run_pure, Result.andThen_ok, List.map_toArray, List.map_cons, List.map_nil, h0, hr]
 exact h _ _ rfl rfl
def of1ro_0 : Oper := oO 3 (Op.load 67 (Operand.tmp 1)) 67 pCse1 #[]
def of1ro_1 : Oper := oO 4 (Op.call { callee := Callee.value (Operand.func 49), args := #[Operand.const (Value.int IntKind.u64 1)], argTypes := #[39] }) 52 pCse1 #[]
def of1ro_2 : Oper := oO 5 (Op.build 116 #[(0, Operand.tmp 3), (1, Operand.tmp 4)]) 116 pCse1 #[DD 0, DD 1]
def of1ro_3 : Oper := oO 6 (Op.buildSlice 72 1 #[(0, Operand.tmp 5)]) 72 pCse1 #[DD 2]
def of1ro_4 : Oper := oO 2 (Op.assign (Operand.tmp 6)) 72 pCse1 #[DD 3, CH 1, PH 0, PH 1, PH 2, PH 3]
def of1ro : Array Oper := #[of1ro_0, of1ro_1, of1ro_2, of1ro_3, of1ro_4]
theorem of1r (Q : Exit → Act → World → Prop) (T : Nat) (qk qi : Int) (u0 u2 u3 u4 u5 u6 : Value) (W : World)
  (t0 : W.cell? ⟨T, 0, none⟩ = some (.int .i64 qk)) (t1 : W.cell? ⟨T, 1, none⟩ = some (.int .i64 qi))
  (C1 : Hid (∀ y, Calls Tryz.prog 49 #[.int .u64 1] y fun e w' => e = .returned (.agg #[.int .u64 1, .int .u64 0, .int .u64 0, .int .u64 0]) ∧ Below y.heap.size y w'))
  (HQ : Hid (∀ (wz : World) (tb : Nat), Below W.heap.size W wz → wz.ownsRow W.heap.size 116 6 (.slice (some ⟨tb, 0, none⟩) 1 1) 1 [.int .i64 qk, .int .i64 qi, .int .u64 1, .int .u64 0, .int .u64 0, .int .u64 0] → Q .normal ⟨#[u0, .pointer (some ⟨T, 0, none⟩), .slice (some ⟨tb, 0, none⟩) 1 1, .agg #[.int .i64 qk, .int .i64 qi], .agg #[.int .u64 1, .int .u64 0, .int .u64 0, .int .u64 0], .agg #[.int .i64 qk, .int .i64 qi, .int .u64 1, .int .u64 0, .int .u64 0, .int .u64 0], .slice (some ⟨tb, 0, none⟩) 1 1], []⟩ wz)) : (Code.region 1 of1ro true).wp Tryz.prog Q ⟨#[u0, .pointer (some ⟨T, 0, none⟩), u2, u3, u4, u5, u6], []⟩ W := by
 unfold of1ro
 refine wp_region_noPanic ?_
 refine wp_region_held_drew (S := fun x => Below W.heap.size W x) (by kernel_rfl) (bl_drew W) (fun hH0 => ?_)
 refine tj 0 of1ro_0 (.agg #[.int .i64 qk, .int .i64 qi]) hH0 (fun w0 hSw => ?_) ?_
 ·(unfold of1ro_0 oO; have hS : Below W.heap.size W w0 := hSw; have a0 := cell_keep t0 hS; have a1 := cell_keep t1 hS; clear hS hSw; go_simp)
 simp only [of1ro_0, oO, Act.put, sA, sB, sC]
 refine ar [1] ?_
 refine ac of1ro_1 (fun K hK => ?_) AllReadyH.nil
 unfold of1ro_1 oO
 have HH := Hn hH0
 clear hH0
 go_simp
 refine (C1.out _).mono ?_
 rintro e wn1 ⟨rfl, hb⟩
 have SN := Hn (bl_trans HH.out hb)
 clear HH C1 hb
 go_wp2_with fail
 refine hK.out _ _ SN.out (fun hH1 => ?_)
 clear hK K SN
 refine tj 2 of1ro_2 (.agg #[.int .i64 qk, .int .i64 qi, .int .u64 1, .int .u64 0, .int .u64 0, .int .u64 0]) hH1 (fun w0 hSw => ?_) ?_
 ·(unfold of1ro_2 oO; clear hSw; go_simp)
 simp only [of1ro_2, oO, Act.put, sA, sB, sC]
 refine ar [3] ?_
 refine ac of1ro_3 (fun K hK => ?_) AllReadyH.nil
 unfold of1ro_3 oO
 have HH := Hn hH1
 clear hH1
 refine wp_buildR _ rfl qk qi rfl (fun tb wn2 htb hwq => ?_)
 have SN := Hn (by rw [hwq]; exact bl_trans HH.out (bl_alloc _ _) : Below W.heap.size W wn2)
 have OW := Hn ((by rw [htb, hwq]; exact own_new6 _ _ rfl HH.out.size : wn2.ownsRow W.heap.size 116 6 (.slice (some ⟨tb, 0, none⟩) 1 1) 1 [.int .i64 qk, .int .i64 qi, .int .u64 1, .int .u64 0, .int .u64 0, .int .u64 0]))
 clear HH htb hwq
 simp only [Act.put, sA, sB, sC]
 refine hK.out _ _ SN.out (fun hH2 => ?_)
 clear hK K SN
 refine tj 4 of1ro_4 (.slice (some ⟨tb, 0, none⟩) 1 1) hH2 (fun w0 hSw => ?_) ?_
 ·(unfold of1ro_4 oO; clear hSw; go_simp)
 simp only [of1ro_4, oO, Act.put, sA, sB, sC]
 have HH := Hn hH2
 have FQ := Hn (HQ.out _ tb HH.out OW.out)
 refine wpAnyH_done (by kernel_rfl) ?_ _
 refine NoPanic.normal ?_
 exact FQ.out
theorem dOf_any (q : Wr) (w : World) : Calls Tryz.prog 56 #[.agg #[.int .i64 q.1, .int .i64 q.2]] w fun e w' => ∃ v, e = .returned v ∧ Dl w [(q, 1)] v w' := by
 have C1 := Hn int1R
 have HE := Hn (tls_of q)
 obtain ⟨qk, qi⟩ := q
 simp only at HE ⊢
 have HB := Hn (bl_alloc w (.cells #[.int .i64 qk, .int .i64 qi] 67))
 go_enter Tryz.func56, Tryz.ntmps56
 go_upto_region 1 with fail
 have t0 : (w.alloc (.cells #[.int .i64 qk, .int .i64 qi] 67)).cell? ⟨w.heap.size, 0, none⟩ = some (.int .i64 qk) := by go_simp
 have t1 : (w.alloc (.cells #[.int .i64 qk, .int .i64 qi] 67)).cell? ⟨w.heap.size, 1, none⟩ = some (.int .i64 qi) := by go_simp
 generalize w.alloc (.cells #[.int .i64 qk, .int .i64 qi] 67) = w1 at *
 refine of1r _ w.heap.size qk qi _ _ _ _ _ _ w1 t0 t1 C1 (Hn ?_)
 intro wz tb hb ho
 have B1 := Hn hb
 have O1 := Hn ho
 clear C1 t0 t1 hb ho
 go_wp2_with fail
 refine bodyPost_ret (v := .slice (some ⟨tb, 0, none⟩) 1 1) (by simp [results, Tryz.results56, go_sem]) rfl ⟨_, rfl, ?_⟩
 exact ⟨by rw [HE.out]; exact own_monoT O1.out HB.out.size, bl_trans HB.out B1.out⟩
end Ci
end Go.Proofs.YtghcfcglakbkeaaGreatDoor
