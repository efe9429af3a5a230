import Derived.Test.YtghcfcglakbkeaaGreatDoorCsh
namespace Go.Proofs.YtghcfcglakbkeaaGreatDoor
set_option maxRecDepth 100000
set_option maxHeartbeats 16000000
open Go.RowKit
set_option linter.unusedVariables false
set_option linter.unusedSimpArgs false
open Cm (Wr Tm co bf Ls lf ins Eqm)
namespace Ci
theorem buildR6 (qk qi : Int) (r : E4) (w : World) : (Instr.buildSlice 72 1 #[(0, .agg #[.int .i64 qk, .int .i64 qi, .int .u64 r.x0, .int .u64 r.x1, .int .u64 r.x2, .int .u64 r.x3])]).run Tryz.prog w = .ok (.slice (some ⟨w.heap.size, 0, none⟩) 1 1) (w.alloc (.cells #[.int .i64 qk, .int .i64 qi, .int .u64 r.x0, .int .u64 r.x1, .int .u64 r.x2, .int .u64 r.x3] 116)) := by kernel_rfl
theorem wp_buildR6 {w : World} {o : Oper} {a : Act} {K : Act → World → Prop} {Q : Exit → Act → World → Prop} (x0 : Operand) (ho : o.op = .buildSlice 72 1 #[(0, x0)]) (qk qi : Int) (r : E4) (h0 : a.eval x0 = .agg #[.int .i64 qk, .int .i64 qi, .int .u64 r.x0, .int .u64 r.x1, .int .u64 r.x2, .int .u64 r.x3]) (h : ∀ (tb : Nat) (wq : World), tb = w.heap.size → wq = w.alloc (.cells #[.int .i64 qk, .int .i64 qi, .int .u64 r.x0, .int .u64 r.x1, .int .u64 r.x2, .int .u64 r.x3] 116) → K (a.put o.dst (.slice (some ⟨tb, 0, none⟩) 1 1)) wq) : o.wp Tryz.prog a w K Q := by
 have hr := buildR6 qk qi r w
 unfold Oper.wp execOp
 simp only [ho, Sem.run_bind, Sem.run_pure, Result.andThen_ok, List.map_toArray, List.map_cons, List.map_nil, h0, hr]
 exact h _ _ rfl rfl
def pCsi0 : String := "law.go:39"
def ln5o_0 : Oper := oO 11 (Op.move (Operand.tmp 3)) 72 pCsi0 #[]
def ln5o_1 : Oper := oO 12 (Op.move (Operand.tmp 0)) 38 pCsi0 #[]
def ln5o_2 : Oper := oO 13 (Op.move (Operand.tmp 4)) 3 pCsi0 #[]
def ln5o_3 : Oper := oO 14 (Op.indexAddr 38 (Operand.tmp 12) (Operand.tmp 13)) 0 pCsi0 #[DD 1, DD 2]
def ln5o_4 : Oper := oO 15 (Op.fieldAddr 123 (Operand.tmp 14) 0) 0 pCsi0 #[DD 3]
def ln5o_5 : Oper := oO 16 (Op.fieldAddr 79 (Operand.tmp 15) 0) 0 pCsi0 #[DD 4]
def ln5o_6 : Oper := oO 17 (Op.load 3 (Operand.tmp 16)) 3 pCsi0 #[DD 5]
def ln5o_7 : Oper := oO 18 (Op.move (Operand.tmp 0)) 38 pCsi0 #[]
def ln5o_8 : Oper := oO 19 (Op.move (Operand.tmp 4)) 3 pCsi0 #[]
def ln5o_9 : Oper := oO 20 (Op.indexAddr 38 (Operand.tmp 18) (Operand.tmp 19)) 0 pCsi0 #[DD 7, DD 8]
def ln5o_10 : Oper := oO 21 (Op.fieldAddr 123 (Operand.tmp 20) 0) 0 pCsi0 #[DD 9]
def ln5o_11 : Oper := oO 22 (Op.fieldAddr 79 (Operand.tmp 21) 1) 0 pCsi0 #[DD 10]
def ln5o_12 : Oper := oO 23 (Op.load 3 (Operand.tmp 22)) 3 pCsi0 #[DD 11]
def ln5o_13 : Oper := oO 24 (Op.build 67 #[(0, Operand.tmp 17), (1, Operand.tmp 23)]) 67 pCsi0 #[DD 6, DD 12]
def ln5o_14 : Oper := oO 25 (Op.move (Operand.tmp 0)) 38 pCsi0 #[]
def ln5o_15 : Oper := oO 26 (Op.move (Operand.tmp 4)) 3 pCsi0 #[]
def ln5o_16 : Oper := oO 27 (Op.indexAddr 38 (Operand.tmp 25) (Operand.tmp 26)) 0 pCsi0 #[DD 14, DD 15]
def ln5o_17 : Oper := oO 28 (Op.fieldAddr 123 (Operand.tmp 27) 1) 0 pCsi0 #[DD 16]
def ln5o_18 : Oper := oO 29 (Op.load 41 (Operand.tmp 28)) 41 pCsi0 #[DD 17]
def ln5o_19 : Oper := oO 30 (Op.call { callee := Callee.value (Operand.func 12), args := #[Operand.tmp 29], argTypes := #[41] }) 52 pCsi0 #[DD 18]
def ln5o_20 : Oper := oO 31 (Op.build 116 #[(0, Operand.tmp 24), (1, Operand.tmp 30)]) 116 pCsi0 #[DD 13, DD 19]
def ln5o_21 : Oper := oO 32 (Op.buildSlice 72 1 #[(0, Operand.tmp 31)]) 72 pCsi0 #[DD 20]
def ln5o_22 : Oper := oO 33 (Op.call { callee := Callee.builtin Builtin.append, args := #[Operand.tmp 11, Operand.tmp 32], argTypes := #[72, 72] }) 72 pCsi0 #[DD 0, DD 21, CH 19]
def ln5o_23 : Oper := oO 3 (Op.assign (Operand.tmp 33)) 72 pCsi0 #[DD 22, CH 22, PH 0, PH 1, PH 2, PH 3, PH 4, PH 5, PH 6, PH 7, PH 8, PH 9, PH 10, PH 11, PH 12, PH 13, PH 14, PH 15, PH 16, PH 17, PH 18, PH 19, PH 20, PH 21, PH 22]
def ln5o : Array Oper := #[ln5o_0, ln5o_1, ln5o_2, ln5o_3, ln5o_4, ln5o_5, ln5o_6, ln5o_7, ln5o_8, ln5o_9, ln5o_10, ln5o_11, ln5o_12, ln5o_13, ln5o_14, ln5o_15, ln5o_16, ln5o_17, ln5o_18, ln5o_19, ln5o_20, ln5o_21, ln5o_22, ln5o_23]
theorem ln5 (Q : Exit → Act → World → Prop) (sb so n c i base nn : Nat) (qk qi : Int) (p r : E4) (V : Value) (out : List Tm) (u1 u2 u5 u6 u7 u8 u9 aa ab ad ae af ag ah ai aj ak al am an ao ap aq au av aw ax ay az aA aB aC : Value) (W : World)
  (i0 : (0 : Int) ≤ (i : Int)) (i1 : (i : Int) < (n : Int)) (ne : some sb ≠ V.ownBlock) (a0 : W.cell? ⟨sb, so + i * 6, none⟩ = some (.int .i64 qk)) (a1 : W.cell? ⟨sb, so + i * 6 + 1, none⟩ = some (.int .i64 qi)) (a2 : W.cell? ⟨sb, so + i * 6 + 2, none⟩ = some (.int .u64 p.x0)) (a3 : W.cell? ⟨sb, so + i * 6 + 3, none⟩ = some (.int .u64 p.x1)) (a4 : W.cell? ⟨sb, so + i * 6 + 4, none⟩ = some (.int .u64 p.x2)) (a5 : W.cell? ⟨sb, so + i * 6 + 5, none⟩ = some (.int .u64 p.x3))
  (ow : W.ownsRow base 116 6 V nn (tls out)) (MX : Hid (nn + 1 ≤ maxLen)) (BY : Hid ((nn + 1) * 48 ≤ 140737488355328)) (BS : Hid (base ≤ W.heap.size))
  (C1 : Hid (∀ y, Calls Tryz.prog 12 #[.agg #[.int .u64 p.x0, .int .u64 p.x1, .int .u64 p.x2, .int .u64 p.x3]] y fun e w' => e = .returned (.agg #[.int .u64 r.x0, .int .u64 r.x1, .int .u64 r.x2, .int .u64 r.x3]) ∧ Below y.heap.size y w'))
  (HQ : Hid (∀ (wz : World) (tb : Nat) (v4 : Value), W.grownBy wz V.ownBlock → wz.ownsRow base 116 6 v4 (nn + 1) (tls out ++ [.int .i64 qk, .int .i64 qi, .int .u64 r.x0, .int .u64 r.x1, .int .u64 r.x2, .int .u64 r.x3]) → Q .normal ⟨#[.slice (some ⟨sb, so, none⟩) n c, u1, u2, v4, .int .i64 (i : Int), u5, u6, u7, u8, u9, aa, V, .slice (some ⟨sb, so, none⟩) n c, .int .i64 (i : Int), .pointer (some ⟨sb, so + i * 6, none⟩), .pointer (some ⟨sb, so + i * 6, none⟩), .pointer (some ⟨sb, so + i * 6, none⟩), .int .i64 qk, .slice (some ⟨sb, so, none⟩) n c, .int .i64 (i : Int), .pointer (some ⟨sb, so + i * 6, none⟩), .pointer (some ⟨sb, so + i * 6, none⟩), .pointer (some ⟨sb, so + i * 6 + 1, none⟩), .int .i64 qi, .agg #[.int .i64 qk, .int .i64 qi], .slice (some ⟨sb, so, none⟩) n c, .int .i64 (i : Int), .pointer (some ⟨sb, so + i * 6, none⟩), .pointer (some ⟨sb, so + i * 6 + 2, none⟩), .agg #[.int .u64 p.x0, .int .u64 p.x1, .int .u64 p.x2, .int .u64 p.x3], .agg #[.int .u64 r.x0, .int .u64 r.x1, .int .u64 r.x2, .int .u64 r.x3], .agg #[.int .i64 qk, .int .i64 qi, .int .u64 r.x0, .int .u64 r.x1, .int .u64 r.x2, .int .u64 r.x3], .slice (some ⟨tb, 0, none⟩) 1 1, v4, aC], []⟩ wz)) : (Code.region 5 ln5o true).wp Tryz.prog Q ⟨#[.slice (some ⟨sb, so, none⟩) n c, u1, u2, V, .int .i64 (i : Int), u5, u6, u7, u8, u9, aa, ab, ad, ae, af, ag, ah, ai, aj, ak, al, am, an, ao, ap, aq, au, av, aw, ax, ay, az, aA, aB, aC], []⟩ W := by
 have OW := Hn (own_keepT ow (bl_drew W))
 have HI : Hid ((Tryz.prog.info? 116) = some (Tryz.prog.info? 116).get!) := Hn (by kernel_rfl)
 have HZ0 : Hid ((Tryz.prog.info? 116).get!.zero = some (.agg #[.int .i64 0, .int .i64 0, .int .u64 0, .int .u64 0, .int .u64 0, .int .u64 0])) := Hn (by kernel_rfl)
 have HZ1 : Hid ((Tryz.prog.info? 116).get!.size = 6) := Hn (by kernel_rfl)
 have HZ2 : Hid ((Tryz.prog.info? 116).get!.bytes = 48) := Hn (by kernel_rfl)
 have T1 : Hid (Tryz.prog.underlying 72 = some (.slice 116)) := Hn (by kernel_rfl)
 clear ow
 unfold ln5o
 refine wp_region_noPanic ?_
 refine wp_region_held_drew (S := fun x => W.grownBy x V.ownBlock) (by kernel_rfl) (gbI (bl_drew W) _) (fun hH0 => ?_)
 refine tj 0 ln5o_0 (V) hH0 (fun w0 hSw => ?_) ?_
 ·(unfold ln5o_0 oO; clear hSw; go_simp)
 simp only [ln5o_0, oO, Act.put, sA, sB, sC]
 refine tj 1 ln5o_1 (.slice (some ⟨sb, so, none⟩) n c) hH0 (fun w0 hSw => ?_) ?_
 ·(unfold ln5o_1 oO; clear hSw; go_simp)
 simp only [ln5o_1, oO, Act.put, sA, sB, sC]
 refine tj 2 ln5o_2 (.int .i64 (i : Int)) hH0 (fun w0 hSw => ?_) ?_
 ·(unfold ln5o_2 oO; clear hSw; go_simp)
 simp only [ln5o_2, oO, Act.put, sA, sB, sC]
 refine tj 7 ln5o_7 (.slice (some ⟨sb, so, none⟩) n c) hH0 (fun w0 hSw => ?_) ?_
 ·(unfold ln5o_7 oO; clear hSw; go_simp)
 simp only [ln5o_7, oO, Act.put, sA, sB, sC]
 refine tj 8 ln5o_8 (.int .i64 (i : Int)) hH0 (fun w0 hSw => ?_) ?_
 ·(unfold ln5o_8 oO; clear hSw; go_simp)
 simp only [ln5o_8, oO, Act.put, sA, sB, sC]
 refine tj 14 ln5o_14 (.slice (some ⟨sb, so, none⟩) n c) hH0 (fun w0 hSw => ?_) ?_
 ·(unfold ln5o_14 oO; clear hSw; go_simp)
 simp only [ln5o_14, oO, Act.put, sA, sB, sC]
 refine tj 15 ln5o_15 (.int .i64 (i : Int)) hH0 (fun w0 hSw => ?_) ?_
 ·(unfold ln5o_15 oO; clear hSw; go_simp)
 simp only [ln5o_15, oO, Act.put, sA, sB, sC]
 refine tj 3 ln5o_3 (.pointer (some ⟨sb, so + i * 6, none⟩)) hH0 (fun w0 hSw => ?_) ?_
 ·(unfold ln5o_3 oO; clear hSw; go_simp)
 simp only [ln5o_3, oO, Act.put, sA, sB, sC]
 refine tj 9 ln5o_9 (.pointer (some ⟨sb, so + i * 6, none⟩)) hH0 (fun w0 hSw => ?_) ?_
 ·(unfold ln5o_9 oO; clear hSw; go_simp)
 simp only [ln5o_9, oO, Act.put, sA, sB, sC]
 refine tj 16 ln5o_16 (.pointer (some ⟨sb, so + i * 6, none⟩)) hH0 (fun w0 hSw => ?_) ?_
 ·(unfold ln5o_16 oO; clear hSw; go_simp)
 simp only [ln5o_16, oO, Act.put, sA, sB, sC]
 refine tj 4 ln5o_4 (.pointer (some ⟨sb, so + i * 6, none⟩)) hH0 (fun w0 hSw => ?_) ?_
 ·(unfold ln5o_4 oO; clear hSw; go_simp)
 simp only [ln5o_4, oO, Act.put, sA, sB, sC]
 refine tj 10 ln5o_10 (.pointer (some ⟨sb, so + i * 6, none⟩)) hH0 (fun w0 hSw => ?_) ?_
 ·(unfold ln5o_10 oO; clear hSw; go_simp)
 simp only [ln5o_10, oO, Act.put, sA, sB, sC]
 refine tj 17 ln5o_17 (.pointer (some ⟨sb, so + i * 6 + 2, none⟩)) hH0 (fun w0 hSw => ?_) ?_
 ·(unfold ln5o_17 oO; clear hSw; go_simp)
 simp only [ln5o_17, oO, Act.put, sA, sB, sC]
 refine tj 5 ln5o_5 (.pointer (some ⟨sb, so + i * 6, none⟩)) hH0 (fun w0 hSw => ?_) ?_
 ·(unfold ln5o_5 oO; clear hSw; go_simp)
 simp only [ln5o_5, oO, Act.put, sA, sB, sC]
 refine tj 11 ln5o_11 (.pointer (some ⟨sb, so + i * 6 + 1, none⟩)) hH0 (fun w0 hSw => ?_) ?_
 ·(unfold ln5o_11 oO; clear hSw; go_simp)
 simp only [ln5o_11, oO, Act.put, sA, sB, sC]
 refine tj 18 ln5o_18 (.agg #[.int .u64 p.x0, .int .u64 p.x1, .int .u64 p.x2, .int .u64 p.x3]) hH0 (fun w0 hSw => ?_) ?_
 ·(unfold ln5o_18 oO; have hS : W.grownBy w0 V.ownBlock := hSw; have a0 := hS.cell a2 ne; have a1 := hS.cell a3 ne; have a2 := hS.cell a4 ne; have a3 := hS.cell a5 ne; clear hS hSw; go_simp)
 simp only [ln5o_18, oO, Act.put, sA, sB, sC]
 refine tj 6 ln5o_6 (.int .i64 qk) hH0 (fun w0 hSw => ?_) ?_
 ·(unfold ln5o_6 oO; have hS : W.grownBy w0 V.ownBlock := hSw; have a0 := hS.cell a0 ne; clear hS hSw; go_simp)
 simp only [ln5o_6, oO, Act.put, sA, sB, sC]
 refine tj 12 ln5o_12 (.int .i64 qi) hH0 (fun w0 hSw => ?_) ?_
 ·(unfold ln5o_12 oO; have hS : W.grownBy w0 V.ownBlock := hSw; have a0 := hS.cell a1 ne; clear hS hSw; go_simp)
 simp only [ln5o_12, oO, Act.put, sA, sB, sC]
 refine tj 13 ln5o_13 (.agg #[.int .i64 qk, .int .i64 qi]) hH0 (fun w0 hSw => ?_) ?_
 ·(unfold ln5o_13 oO; clear hSw; go_simp)
 simp only [ln5o_13, oO, Act.put, sA, sB, sC]
 refine ar [19] ?_
 refine ac ln5o_19 (fun K hK => ?_) AllReadyH.nil
 unfold ln5o_19 oO
 have HH := Hn hH0
 clear hH0
 go_simp
 refine (C1.out _).mono ?_
 rintro e wn1 ⟨rfl, hb⟩
 have SN := Hn (HH.out.trans (gbI hb _))
 replace OW := Hn (own_keepT OW.out hb)
 clear HH C1 hb
 go_wp2_with fail
 refine hK.out _ _ SN.out (fun hH1 => ?_)
 clear hK K SN
 refine tj 20 ln5o_20 (.agg #[.int .i64 qk, .int .i64 qi, .int .u64 r.x0, .int .u64 r.x1, .int .u64 r.x2, .int .u64 r.x3]) hH1 (fun w0 hSw => ?_) ?_
 ·(unfold ln5o_20 oO; clear hSw; go_simp)
 simp only [ln5o_20, oO, Act.put, sA, sB, sC]
 refine ar [21] ?_
 refine ac ln5o_21 (fun K hK => ?_) AllReadyH.nil
 unfold ln5o_21 oO
 have HH := Hn hH1
 clear hH1
 refine wp_buildR6 _ rfl qk qi r rfl (fun tb wn2 htb hwq => ?_)
 have SN := Hn (by rw [hwq]; exact HH.out.trans (gbI (bl_alloc _ _) _) : W.grownBy wn2 V.ownBlock)
 replace OW := Hn (by rw [hwq]; exact own_keepT OW.out (bl_alloc _ _) : wn2.ownsRow base 116 6 V nn (tls out))
 have CN := Hn (by rw [htb, hwq]; exact cells_newT _ [.int .i64 qk, .int .i64 qi, .int .u64 r.x0, .int .u64 r.x1, .int .u64 r.x2, .int .u64 r.x3] _ : ∀ j u, ([.int .i64 qk, .int .i64 qi, .int .u64 r.x0, .int .u64 r.x1, .int .u64 r.x2, .int .u64 r.x3] : List Value)[j]? = some u → wn2.cell? ((⟨tb, 0, none⟩ : Addr).add j) = some u)
 clear HH htb hwq
 simp only [Act.put, sA, sB, sC]
 refine hK.out _ _ SN.out (fun hH2 => ?_)
 clear hK K SN
 refine ar [22] ?_
 refine ac ln5o_22 (fun K hK => ?_) AllReadyH.nil
 unfold ln5o_22 oO
 have HH := Hn hH2
 clear hH2
 refine wp_append_own _ _ _ 72 rfl base 116 _ _ 6 48 T1.out HI.out HZ0.out HZ1.out HZ2.out rfl (by decide) _ nn (tls out) rfl OW.out ⟨tb, 0, none⟩ 1 1 [.int .i64 qk, .int .i64 qi, .int .u64 r.x0, .int .u64 r.x1, .int .u64 r.x2, .int .u64 r.x3] rfl rfl CN.out (six_any _ _ _ _ _ _) MX.out BY.out (Nat.le_trans BS.out HH.out.size) (fun v4 wn3 ho hg _ => ?_)
 have SN := Hn (HH.out.trans hg)
 have FE := Hn (ho)
 clear HH ho hg
 simp only [Act.put, sA, sB, sC]
 refine hK.out _ _ SN.out (fun hH3 => ?_)
 clear hK K SN
 refine tj 23 ln5o_23 (v4) hH3 (fun w0 hSw => ?_) ?_
 ·(unfold ln5o_23 oO; clear hSw; go_simp)
 simp only [ln5o_23, oO, Act.put, sA, sB, sC]
 have HH := Hn hH3
 have FQ := Hn (HQ.out _ tb v4 HH.out FE.out)
 refine wpAnyH_done (by kernel_rfl) ?_ _
 refine NoPanic.normal ?_
 exact FQ.out
theorem glL_len (n : Nat) (f : Nat → Trm) : (glL n f).length = n := by simp [glL]
theorem lin_any (P : Option Addr) (n c : Nat) (f : Nat → Trm) (w : World) (hn : n ≤ 2932031007400) (hf : ∀ k, k < n → (f k).a.ok) (hL : Lt w P n f) :
  Calls Tryz.prog 18 #[.slice P n c] w fun e w' => ∃ v, e = .returned v ∧ Dl w (glL n f) v w' := by
 have HS := Hn hn
 have HF := Hn hf
 have HL := Hn hL
 have D0 : Hid (Dl w (glL 0 f) (.slice none 0 0) w) := Hn ⟨World.ownsRow_nil _ _ _ _, Below.refl _ _⟩
 clear hn hf hL
 go_enter Tryz.func18, Tryz.ntmps18
 go_upto_region 3 with fail
 go_loopw [3, 4] (fun v iv w' => ∃ i : Nat, i ≤ n ∧ iv = .int .i64 (i : Int) ∧ Hid (Dl w (glL i f) v w')) (fun _ i _ => n - (intOf i).toNat)
 case atStart => exact ⟨0, by omega, rfl, D0⟩
 case round =>
  clear D0
  obtain ⟨i, hi, rfl, hR⟩ := hrel
  by_cases hin : i < n
  ·have i1 : (i : Int) < (n : Int) := by omega
   have i0 : (0 : Int) ≤ (i : Int) := by omega
   have w9 : IntKind.i64.wrap ((i : Int) + 1) = (i : Int) + 1 := IntWalk.i64_in _ (by have := HS.out; omega)
   obtain ⟨sb, so, hPs, hRt⟩ := HL.out
   obtain rfl := hPs (by omega)
   have rt := (hRt (by omega))
   have NS := World.block_lt_of_cell? w _ (rt.c0 i hin)
   simp only at NS
   have a0 := cell_keep (rt.c0 i hin) hR.out.2
   have a1 := cell_keep (rt.c1 i hin) hR.out.2
   have a2 := cell_keep (rt.c2 i hin) hR.out.2
   have a3 := cell_keep (rt.c3 i hin) hR.out.2
   have a4 := cell_keep (rt.c4 i hin) hR.out.2
   have a5 := cell_keep (rt.c5 i hin) hR.out.2
   have ne : some sb ≠ Value.ownBlock u3 := fun e => by have := (hR.out.1.lt _ e.symm).1; omega
   have C1 := fun y => num19_any (f i).a (HF.out i hin) y
   have ow := hR.out.1
   rw [glL_len] at ow
   obtain ⟨r, hr⟩ : ∃ r, lst (f i).a.n = r := ⟨_, rfl⟩
   simp only [hr] at C1
   have TX : Hid (tls (glL (i + 1) f) = tls (glL i f) ++ [.int .i64 (f i).q.1, .int .i64 (f i).q.2, .int .u64 r.x0, .int .u64 r.x1, .int .u64 r.x2, .int .u64 r.x3]) := Hn (by rw [glL_succ, tls_snoc]; unfold tmOf Trm.cs; simp only [hr])
   replace C1 := Hn C1
   clear rt hRt hPs hr
   generalize (f i).q.1 = qk at *
   generalize (f i).q.2 = qi at *
   generalize (f i).a = p at *
   go_upto_region 5 with fail
   refine ln5 _ sb so n c i w.heap.size i qk qi p r _ (glL i f) _ _ _ _ _ _ _ _ _ _ _ _ _ _ _ _ _ _ _ _ _ _ _ _ _ _ _ _ _ _ _ _ wr i0 i1 ne a0 a1 a2 a3 a4 a5 ow (Hn (by unfold maxLen; have := HS.out; omega)) (Hn (by have := HS.out; omega)) (Hn hR.out.2.size) C1 (Hn ?_)
   intro w2 tb v2 hg2 ho2
   have PN : Hid (Dl w (glL (i + 1) f) v2 w2) := Hn ⟨by rw [TX.out, glL_len]; exact ho2, told_bel hR.out.2 (Below.refl _ _) hR.out.1 hg2⟩
   clear hR C1 hg2 ho2 a0 a1 a2 a3 a4 a5 ow TX
   go_wp2_with fail
   go_roundw
   case rel => exact ⟨i + 1, by omega, by go_num, PN⟩
   case measure => simp [intOf]; omega
  ·obtain rfl : i = n := by omega
   have lq : ¬ (i : Int) < (i : Int) := by omega
   go_wp2_with fail
   exact bodyPost_ret (v := u3) (by simp [results, Tryz.results18, go_sem]) rfl ⟨_, rfl, hR.out⟩
end Ci
end Go.Proofs.YtghcfcglakbkeaaGreatDoor
namespace Go.Proofs.YtghcfcglakbkeaaGreatDoor
set_option maxRecDepth 100000
set_option maxHeartbeats 16000000
open Go.RowKit
set_option linter.unusedVariables false
set_option linter.unusedSimpArgs false
open Cm (Wr Tm co bf Ls lf ins Eqm)
namespace Ci
theorem eq4nJ (a b : E4) (w : World) : (Op.equalIn 9999 41 a.v b.v).run Tryz.prog w = .ok (a.same b) w := by
 have hi : Tryz.prog.info? 39 = some (Tryz.prog.info? 39).get! := by kernel_rfl
 have hc : Tryz.prog.cellsOf 39 = 1 := by kernel_rfl
 unfold E4.v
 rw [run_equalIn_array w 9998 _ _ (by kernel_rfl : Tryz.prog.underlying 41 = some (.array 4 39)) hi, hc]
 rw [eqItems_ints w (k := .u64) 9997 (by kernel_rfl) (by kernel_rfl) _ _ (fun i => [a.x0, a.x1, a.x2, a.x3].getD i 0) (fun i => [b.x0, b.x1, b.x2, b.x3].getD i 0)]
 ·rw [show List.range 4 = [0, 1, 2, 3] from rfl]
  simp only [List.all_cons, List.all_nil, Bool.and_true]
  rfl
 ·intro i hi
  have : i < 4 := List.mem_range.1 hi
  match i, this with
  | 0, _ => exact ⟨rfl, rfl⟩
  | 1, _ => exact ⟨rfl, rfl⟩
  | 2, _ => exact ⟨rfl, rfl⟩
  | 3, _ => exact ⟨rfl, rfl⟩
theorem self9 (p : E4) (w : World) : (Op.equalIn 9999 41 (.agg #[.int .u64 p.x0, .int .u64 p.x1, .int .u64 p.x2, .int .u64 p.x3]) (.agg #[.int .u64 p.x0, .int .u64 p.x1, .int .u64 p.x2, .int .u64 p.x3])).run Tryz.prog w = .ok true w := by
 have h := eq4nJ p p w
 rw [same_self] at h
 exact h
def pCsj0 : String := "law.go:74"
def pCsj1 : String := "law.go:70"
def sy5o_0 : Oper := oO 18 (Op.move (Operand.tmp 5)) 38 pCsj1 #[]
def sy5o_1 : Oper := oO 19 (Op.move (Operand.tmp 6)) 3 pCsj1 #[]
def sy5o_2 : Oper := oO 20 (Op.indexAddr 38 (Operand.tmp 18) (Operand.tmp 19)) 0 pCsj1 #[DD 0, DD 1]
def sy5o_3 : Oper := oO 21 (Op.load 123 (Operand.tmp 20)) 123 pCsj1 #[DD 2]
def sy5o_4 : Oper := oO 22 (Op.move (Operand.tmp 1)) 38 pCsj1 #[]
def sy5o_5 : Oper := oO 23 (Op.move (Operand.tmp 6)) 3 pCsj1 #[]
def sy5o_6 : Oper := oO 24 (Op.indexAddr 38 (Operand.tmp 22) (Operand.tmp 23)) 0 pCsj1 #[DD 4, DD 5]
def sy5o_7 : Oper := oO 25 (Op.load 123 (Operand.tmp 24)) 123 pCsj1 #[DD 6]
def sy5o_8 : Oper := oO 26 (Op.binOp BinOp.neq 123 (Operand.tmp 21) (Operand.tmp 25) 123) 4 pCsj1 #[DD 3, DD 7]
def sy5o : Array Oper := #[sy5o_0, sy5o_1, sy5o_2, sy5o_3, sy5o_4, sy5o_5, sy5o_6, sy5o_7, sy5o_8]
theorem sy5 (Q : Exit → Act → World → Prop) (sa oa na ca sb ob cb n i : Nat) (qk qi : Int) (p : E4) (u0 u2 u3 u4 u7 u8 u9 aa ab ad ae af ag ah ai aj ak al am an ao ap aq au av aw ax ay az aA aB aC aD aE aF aG aH aI aJ aK aL : Value) (W : World)
  (i0 : (0 : Int) ≤ (i : Int)) (i1 : (i : Int) < (n : Int)) (i2 : (i : Int) < (na : Int)) (a0 : W.cell? ⟨sa, oa + i * 6, none⟩ = some (.int .i64 qk)) (a1 : W.cell? ⟨sa, oa + i * 6 + 1, none⟩ = some (.int .i64 qi)) (a2 : W.cell? ⟨sa, oa + i * 6 + 2, none⟩ = some (.int .u64 p.x0)) (a3 : W.cell? ⟨sa, oa + i * 6 + 3, none⟩ = some (.int .u64 p.x1)) (a4 : W.cell? ⟨sa, oa + i * 6 + 4, none⟩ = some (.int .u64 p.x2)) (a5 : W.cell? ⟨sa, oa + i * 6 + 5, none⟩ = some (.int .u64 p.x3)) (b0 : W.cell? ⟨sb, ob + i * 6, none⟩ = some (.int .i64 qk)) (b1 : W.cell? ⟨sb, ob + i * 6 + 1, none⟩ = some (.int .i64 qi)) (b2 : W.cell? ⟨sb, ob + i * 6 + 2, none⟩ = some (.int .u64 p.x0)) (b3 : W.cell? ⟨sb, ob + i * 6 + 3, none⟩ = some (.int .u64 p.x1)) (b4 : W.cell? ⟨sb, ob + i * 6 + 4, none⟩ = some (.int .u64 p.x2)) (b5 : W.cell? ⟨sb, ob + i * 6 + 5, none⟩ = some (.int .u64 p.x3))
  (NQ : Hid (∀ y, (Op.equalIn 9999 41 (.agg #[.int .u64 p.x0, .int .u64 p.x1, .int .u64 p.x2, .int .u64 p.x3]) (.agg #[.int .u64 p.x0, .int .u64 p.x1, .int .u64 p.x2, .int .u64 p.x3])).run Tryz.prog y = .ok true y))
  (HQ : Hid (∀ (wz : World), Below W.heap.size W wz → Q .normal ⟨#[u0, .slice (some ⟨sb, ob, none⟩) n cb, u2, u3, u4, .slice (some ⟨sa, oa, none⟩) na ca, .int .i64 (i : Int), u7, u8, u9, aa, ab, ad, ae, af, ag, ah, ai, .slice (some ⟨sa, oa, none⟩) na ca, .int .i64 (i : Int), .pointer (some ⟨sa, oa + i * 6, none⟩), .agg #[.int .i64 qk, .int .i64 qi, .int .u64 p.x0, .int .u64 p.x1, .int .u64 p.x2, .int .u64 p.x3], .slice (some ⟨sb, ob, none⟩) n cb, .int .i64 (i : Int), .pointer (some ⟨sb, ob + i * 6, none⟩), .agg #[.int .i64 qk, .int .i64 qi, .int .u64 p.x0, .int .u64 p.x1, .int .u64 p.x2, .int .u64 p.x3], .bool false, av, aw, ax, ay, az, aA, aB, aC, aD, aE, aF, aG, aH, aI, aJ, aK, aL], []⟩ wz)) : (Code.region 5 sy5o true).wp Tryz.prog Q ⟨#[u0, .slice (some ⟨sb, ob, none⟩) n cb, u2, u3, u4, .slice (some ⟨sa, oa, none⟩) na ca, .int .i64 (i : Int), u7, u8, u9, aa, ab, ad, ae, af, ag, ah, ai, aj, ak, al, am, an, ao, ap, aq, au, av, aw, ax, ay, az, aA, aB, aC, aD, aE, aF, aG, aH, aI, aJ, aK, aL], []⟩ W := by
 unfold sy5o
 refine wp_region_noPanic ?_
 refine wp_region_held_drew (S := fun x => Below W.heap.size W x) (by kernel_rfl) (bl_drew W) (fun hH0 => ?_)
 refine tj 0 sy5o_0 (.slice (some ⟨sa, oa, none⟩) na ca) hH0 (fun w0 hSw => ?_) ?_
 ·(unfold sy5o_0 oO; clear hSw; go_simp)
 simp only [sy5o_0, oO, Act.put, sA, sB, sC]
 refine tj 1 sy5o_1 (.int .i64 (i : Int)) hH0 (fun w0 hSw => ?_) ?_
 ·(unfold sy5o_1 oO; clear hSw; go_simp)
 simp only [sy5o_1, oO, Act.put, sA, sB, sC]
 refine tj 4 sy5o_4 (.slice (some ⟨sb, ob, none⟩) n cb) hH0 (fun w0 hSw => ?_) ?_
 ·(unfold sy5o_4 oO; clear hSw; go_simp)
 simp only [sy5o_4, oO, Act.put, sA, sB, sC]
 refine tj 5 sy5o_5 (.int .i64 (i : Int)) hH0 (fun w0 hSw => ?_) ?_
 ·(unfold sy5o_5 oO; clear hSw; go_simp)
 simp only [sy5o_5, oO, Act.put, sA, sB, sC]
 refine tj 2 sy5o_2 (.pointer (some ⟨sa, oa + i * 6, none⟩)) hH0 (fun w0 hSw => ?_) ?_
 ·(unfold sy5o_2 oO; clear hSw; go_simp)
 simp only [sy5o_2, oO, Act.put, sA, sB, sC]
 refine tj 6 sy5o_6 (.pointer (some ⟨sb, ob + i * 6, none⟩)) hH0 (fun w0 hSw => ?_) ?_
 ·(unfold sy5o_6 oO; clear hSw; go_simp)
 simp only [sy5o_6, oO, Act.put, sA, sB, sC]
 refine tj 3 sy5o_3 (.agg #[.int .i64 qk, .int .i64 qi, .int .u64 p.x0, .int .u64 p.x1, .int .u64 p.x2, .int .u64 p.x3]) hH0 (fun w0 hSw => ?_) ?_
 ·(unfold sy5o_3 oO; have hS : Below W.heap.size W w0 := hSw; have a0 := cell_keep a0 hS; have a1 := cell_keep a1 hS; have a2 := cell_keep a2 hS; have a3 := cell_keep a3 hS; have a4 := cell_keep a4 hS; have a5 := cell_keep a5 hS; clear hS hSw; go_simp)
 simp only [sy5o_3, oO, Act.put, sA, sB, sC]
 refine tj 7 sy5o_7 (.agg #[.int .i64 qk, .int .i64 qi, .int .u64 p.x0, .int .u64 p.x1, .int .u64 p.x2, .int .u64 p.x3]) hH0 (fun w0 hSw => ?_) ?_
 ·(unfold sy5o_7 oO; have hS : Below W.heap.size W w0 := hSw; have a0 := cell_keep b0 hS; have a1 := cell_keep b1 hS; have a2 := cell_keep b2 hS; have a3 := cell_keep b3 hS; have a4 := cell_keep b4 hS; have a5 := cell_keep b5 hS; clear hS hSw; go_simp)
 simp only [sy5o_7, oO, Act.put, sA, sB, sC]
 refine tj 8 sy5o_8 (.bool false) hH0 (fun w0 hSw => ?_) ?_
 ·(unfold sy5o_8 oO; clear hSw; have e0 := NQ.out w0; go_simp)
 simp only [sy5o_8, oO, Act.put, sA, sB, sC]
 have HH := Hn hH0
 have FQ := Hn (HQ.out _ HH.out)
 refine wpAnyH_done (by kernel_rfl) ?_ _
 refine NoPanic.normal ?_
 exact FQ.out
def sy7o_0 : Oper := oO 27 (Op.move (Operand.tmp 5)) 38 pCsj0 #[]
def sy7o_1 : Oper := oO 28 (Op.move (Operand.tmp 1)) 38 pCsj0 #[]
def sy7o_2 : Oper := oO 29 (Op.call { callee := Callee.builtin Builtin.len, args := #[Operand.tmp 28], argTypes := #[38] }) 3 pCsj0 #[DD 1]
def sy7o_3 : Oper := oO 30 (Op.indexAddr 38 (Operand.tmp 27) (Operand.tmp 29)) 0 pCsj0 #[DD 0, DD 2]
def sy7o_4 : Oper := oO 31 (Op.load 123 (Operand.tmp 30)) 123 pCsj0 #[DD 3]
def sy7o_5 : Oper := oO 32 (Op.load 123 (Operand.global 0)) 123 pCsj0 #[]
def sy7o_6 : Oper := oO 33 (Op.binOp BinOp.eql 123 (Operand.tmp 31) (Operand.tmp 32) 123) 4 pCsj0 #[DD 4, DD 5]
def sy7o_7 : Oper := oO 34 (Op.move (Operand.tmp 33)) 4 pCsj0 #[DD 6]
def sy7o_8 : Oper := { dst := some 35, op := Op.move (Operand.tmp 5), type := 38, pos := "law.go:74", after := #[GU 7], guard := some (7, true) }
def sy7o_9 : Oper := { dst := some 36, op := Op.move (Operand.tmp 1), type := 38, pos := "law.go:74", after := #[GU 7], guard := some (7, true) }
def sy7o_10 : Oper := { dst := some 37, op := Op.call { callee := Callee.builtin Builtin.len, args := #[Operand.tmp 36], argTypes := #[38] }, type := 3, pos := "law.go:74", after := #[DD 9, GU 7], guard := some (7, true) }
def sy7o_11 : Oper := { dst := some 38, op := Op.binOp BinOp.add 3 (Operand.tmp 37) (Operand.const (Value.int IntKind.i64 1)) 3, type := 3, pos := "law.go:74", after := #[DD 10, GU 7], guard := some (7, true) }
def sy7o_12 : Oper := { dst := some 39, op := Op.indexAddr 38 (Operand.tmp 35) (Operand.tmp 38), type := 0, pos := "law.go:74", after := #[DD 8, DD 11, GU 7], guard := some (7, true) }
def sy7o_13 : Oper := { dst := some 40, op := Op.load 123 (Operand.tmp 39), type := 123, pos := "law.go:74", after := #[DD 12, GU 7], guard := some (7, true) }
def sy7o_14 : Oper := { dst := some 41, op := Op.load 123 (Operand.global 0), type := 123, pos := "law.go:74", after := #[GU 7], guard := some (7, true) }
def sy7o_15 : Oper := { dst := some 42, op := Op.binOp BinOp.eql 123 (Operand.tmp 40) (Operand.tmp 41) 123, type := 4, pos := "law.go:74", after := #[DD 13, DD 14, GU 7], guard := some (7, true) }
def sy7o_16 : Oper := oO 43 (Op.pick (Operand.tmp 34) (Operand.tmp 42) (Operand.const (Value.bool false))) 4 pCsj0 #[DD 7, DD 15]
def sy7o_17 : Oper := oO 4 (Op.assign (Operand.tmp 43)) 4 pCsj0 #[DD 16, CH 7, PH 0, PH 1, PH 2, PH 3, PH 4, PH 5, PH 6, PH 7, PH 8, PH 9, PH 10, PH 11, PH 12, PH 13, PH 14, PH 15, PH 16]
def sy7o : Array Oper := #[sy7o_0, sy7o_1, sy7o_2, sy7o_3, sy7o_4, sy7o_5, sy7o_6, sy7o_7, sy7o_8, sy7o_9, sy7o_10, sy7o_11, sy7o_12, sy7o_13, sy7o_14, sy7o_15, sy7o_16, sy7o_17]
theorem sy7 (Q : Exit → Act → World → Prop) (sa oa na ca n cb : Nat) (Qb : Option Addr) (u0 u2 u3 u4 u6 u7 u8 u9 aa ab ad ae af ag ah ai aj ak al am an ao ap aq au av aw ax ay az aA aB aC aD aE aF aG aH aI aJ aK aL : Value) (W : World)
  (i2 : (n : Int) < (na : Int)) (n0 : (0 : Int) ≤ (n : Int)) (n1 : IntKind.i64.wrap ((n : Int) + 1) = ((n + 1 : Nat) : Int)) (i3 : (n : Int) + 1 < (na : Int)) (n2 : (0 : Int) ≤ (n : Int) + 1) (a0 : W.cell? ⟨sa, oa + n * 6, none⟩ = some (.int .i64 77)) (a1 : W.cell? ⟨sa, oa + n * 6 + 1, none⟩ = some (.int .i64 78)) (a2 : W.cell? ⟨sa, oa + n * 6 + 2, none⟩ = some (.int .u64 79)) (a3 : W.cell? ⟨sa, oa + n * 6 + 3, none⟩ = some (.int .u64 0)) (a4 : W.cell? ⟨sa, oa + n * 6 + 4, none⟩ = some (.int .u64 0)) (a5 : W.cell? ⟨sa, oa + n * 6 + 5, none⟩ = some (.int .u64 0)) (b0 : W.cell? ⟨sa, oa + (n + 1) * 6, none⟩ = some (.int .i64 77)) (b1 : W.cell? ⟨sa, oa + (n + 1) * 6 + 1, none⟩ = some (.int .i64 78)) (b2 : W.cell? ⟨sa, oa + (n + 1) * 6 + 2, none⟩ = some (.int .u64 79)) (b3 : W.cell? ⟨sa, oa + (n + 1) * 6 + 3, none⟩ = some (.int .u64 0)) (b4 : W.cell? ⟨sa, oa + (n + 1) * 6 + 4, none⟩ = some (.int .u64 0)) (b5 : W.cell? ⟨sa, oa + (n + 1) * 6 + 5, none⟩ = some (.int .u64 0)) (m0 : W.cell? ⟨0, 0, none⟩ = some (.int .i64 77)) (m1 : W.cell? ⟨0, 1, none⟩ = some (.int .i64 78)) (m2 : W.cell? ⟨0, 2, none⟩ = some (.int .u64 79)) (m3 : W.cell? ⟨0, 3, none⟩ = some (.int .u64 0)) (m4 : W.cell? ⟨0, 4, none⟩ = some (.int .u64 0)) (m5 : W.cell? ⟨0, 5, none⟩ = some (.int .u64 0))
  (HQ : Hid (∀ (wz : World), Below W.heap.size W wz → Q .normal ⟨#[u0, .slice Qb n cb, u2, u3, .bool true, .slice (some ⟨sa, oa, none⟩) na ca, u6, u7, u8, u9, aa, ab, ad, ae, af, ag, ah, ai, aj, ak, al, am, an, ao, ap, aq, au, .slice (some ⟨sa, oa, none⟩) na ca, .slice Qb n cb, .int .i64 (n : Int), .pointer (some ⟨sa, oa + n * 6, none⟩), .agg #[.int .i64 77, .int .i64 78, .int .u64 79, .int .u64 0, .int .u64 0, .int .u64 0], .agg #[.int .i64 77, .int .i64 78, .int .u64 79, .int .u64 0, .int .u64 0, .int .u64 0], .bool true, .bool true, .slice (some ⟨sa, oa, none⟩) na ca, .slice Qb n cb, .int .i64 (n : Int), .int .i64 ((n + 1 : Nat) : Int), .pointer (some ⟨sa, oa + (n + 1) * 6, none⟩), .agg #[.int .i64 77, .int .i64 78, .int .u64 79, .int .u64 0, .int .u64 0, .int .u64 0], .agg #[.int .i64 77, .int .i64 78, .int .u64 79, .int .u64 0, .int .u64 0, .int .u64 0], .bool true, .bool true], []⟩ wz)) : (Code.region 7 sy7o true).wp Tryz.prog Q ⟨#[u0, .slice Qb n cb, u2, u3, u4, .slice (some ⟨sa, oa, none⟩) na ca, u6, u7, u8, u9, aa, ab, ad, ae, af, ag, ah, ai, aj, ak, al, am, an, ao, ap, aq, au, av, aw, ax, ay, az, aA, aB, aC, aD, aE, aF, aG, aH, aI, aJ, aK, aL], []⟩ W := by
 unfold sy7o
 refine wp_region_noPanic ?_
 refine wp_region_held_drew (S := fun x => Below W.heap.size W x) (by kernel_rfl) (bl_drew W) (fun hH0 => ?_)
 refine tj 0 sy7o_0 (.slice (some ⟨sa, oa, none⟩) na ca) hH0 (fun w0 hSw => ?_) ?_
 ·(unfold sy7o_0 oO; clear hSw; go_simp)
 simp only [sy7o_0, oO, Act.put, sA, sB, sC]
 refine tj 1 sy7o_1 (.slice Qb n cb) hH0 (fun w0 hSw => ?_) ?_
 ·(unfold sy7o_1 oO; clear hSw; go_simp)
 simp only [sy7o_1, oO, Act.put, sA, sB, sC]
 refine tj 5 sy7o_5 (.agg #[.int .i64 77, .int .i64 78, .int .u64 79, .int .u64 0, .int .u64 0, .int .u64 0]) hH0 (fun w0 hSw => ?_) ?_
 ·(unfold sy7o_5 oO; have hS : Below W.heap.size W w0 := hSw; have a0 := cell_keep m0 hS; have a1 := cell_keep m1 hS; have a2 := cell_keep m2 hS; have a3 := cell_keep m3 hS; have a4 := cell_keep m4 hS; have a5 := cell_keep m5 hS; clear hS hSw; go_simp)
 simp only [sy7o_5, oO, Act.put, sA, sB, sC]
 refine tj 2 sy7o_2 (.int .i64 (n : Int)) hH0 (fun w0 hSw => ?_) ?_
 ·(unfold sy7o_2 oO; clear hSw; go_simp)
 simp only [sy7o_2, oO, Act.put, sA, sB, sC]
 refine tj 3 sy7o_3 (.pointer (some ⟨sa, oa + n * 6, none⟩)) hH0 (fun w0 hSw => ?_) ?_
 ·(unfold sy7o_3 oO; clear hSw; go_simp)
 simp only [sy7o_3, oO, Act.put, sA, sB, sC]
 refine tj 4 sy7o_4 (.agg #[.int .i64 77, .int .i64 78, .int .u64 79, .int .u64 0, .int .u64 0, .int .u64 0]) hH0 (fun w0 hSw => ?_) ?_
 ·(unfold sy7o_4 oO; have hS : Below W.heap.size W w0 := hSw; have a0 := cell_keep a0 hS; have a1 := cell_keep a1 hS; have a2 := cell_keep a2 hS; have a3 := cell_keep a3 hS; have a4 := cell_keep a4 hS; have a5 := cell_keep a5 hS; clear hS hSw; go_simp)
 simp only [sy7o_4, oO, Act.put, sA, sB, sC]
 refine tj 6 sy7o_6 (.bool true) hH0 (fun w0 hSw => ?_) ?_
 ·(unfold sy7o_6 oO; clear hSw; have e0 := self9 ⟨79, 0, 0, 0⟩ w0; simp only at e0; go_simp)
 simp only [sy7o_6, oO, Act.put, sA, sB, sC]
 refine tj 7 sy7o_7 (.bool true) hH0 (fun w0 hSw => ?_) ?_
 ·(unfold sy7o_7 oO; clear hSw; go_simp)
 simp only [sy7o_7, oO, Act.put, sA, sB, sC]
 refine tj 8 sy7o_8 (.slice (some ⟨sa, oa, none⟩) na ca) hH0 (fun w0 hSw => ?_) ?_
 ·(unfold sy7o_8; clear hSw; go_simp)
 simp only [sy7o_8, Act.put, sA, sB, sC]
 refine tj 9 sy7o_9 (.slice Qb n cb) hH0 (fun w0 hSw => ?_) ?_
 ·(unfold sy7o_9; clear hSw; go_simp)
 simp only [sy7o_9, Act.put, sA, sB, sC]
 refine tj 14 sy7o_14 (.agg #[.int .i64 77, .int .i64 78, .int .u64 79, .int .u64 0, .int .u64 0, .int .u64 0]) hH0 (fun w0 hSw => ?_) ?_
 ·(unfold sy7o_14; have hS : Below W.heap.size W w0 := hSw; have a0 := cell_keep m0 hS; have a1 := cell_keep m1 hS; have a2 := cell_keep m2 hS; have a3 := cell_keep m3 hS; have a4 := cell_keep m4 hS; have a5 := cell_keep m5 hS; clear hS hSw; go_simp)
 simp only [sy7o_14, Act.put, sA, sB, sC]
 refine tj 10 sy7o_10 (.int .i64 (n : Int)) hH0 (fun w0 hSw => ?_) ?_
 ·(unfold sy7o_10; clear hSw; go_simp)
 simp only [sy7o_10, Act.put, sA, sB, sC]
 refine tj 11 sy7o_11 (.int .i64 ((n + 1 : Nat) : Int)) hH0 (fun w0 hSw => ?_) ?_
 ·(unfold sy7o_11; clear hSw; go_simp)
 simp only [sy7o_11, Act.put, sA, sB, sC]
 refine tj 12 sy7o_12 (.pointer (some ⟨sa, oa + (n + 1) * 6, none⟩)) hH0 (fun w0 hSw => ?_) ?_
 ·(unfold sy7o_12; clear hSw; go_simp)
 simp only [sy7o_12, Act.put, sA, sB, sC]
 refine tj 13 sy7o_13 (.agg #[.int .i64 77, .int .i64 78, .int .u64 79, .int .u64 0, .int .u64 0, .int .u64 0]) hH0 (fun w0 hSw => ?_) ?_
 ·(unfold sy7o_13; have hS : Below W.heap.size W w0 := hSw; have a0 := cell_keep b0 hS; have a1 := cell_keep b1 hS; have a2 := cell_keep b2 hS; have a3 := cell_keep b3 hS; have a4 := cell_keep b4 hS; have a5 := cell_keep b5 hS; clear hS hSw; go_simp)
 simp only [sy7o_13, Act.put, sA, sB, sC]
 refine tj 15 sy7o_15 (.bool true) hH0 (fun w0 hSw => ?_) ?_
 ·(unfold sy7o_15; clear hSw; have e0 := self9 ⟨79, 0, 0, 0⟩ w0; simp only at e0; go_simp)
 simp only [sy7o_15, Act.put, sA, sB, sC]
 refine tj 16 sy7o_16 (.bool true) hH0 (fun w0 hSw => ?_) ?_
 ·(unfold sy7o_16 oO; clear hSw; go_simp)
 simp only [sy7o_16, oO, Act.put, sA, sB, sC]
 refine tj 17 sy7o_17 (.bool true) hH0 (fun w0 hSw => ?_) ?_
 ·(unfold sy7o_17 oO; clear hSw; go_simp)
 simp only [sy7o_17, oO, Act.put, sA, sB, sC]
 have HH := Hn hH0
 have FQ := Hn (HQ.out _ HH.out)
 refine wpAnyH_done (by kernel_rfl) ?_ _
 refine NoPanic.normal ?_
 exact FQ.out
end Ci
end Go.Proofs.YtghcfcglakbkeaaGreatDoor
