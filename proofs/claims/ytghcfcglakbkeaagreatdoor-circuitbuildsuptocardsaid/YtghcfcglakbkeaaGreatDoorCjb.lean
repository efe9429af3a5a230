import Derived.Test.YtghcfcglakbkeaaGreatDoorSenz
namespace Go.Proofs.YtghcfcglakbkeaaGreatDoor
set_option maxRecDepth 100000
set_option maxHeartbeats 16000000
open Go.RowKit
set_option linter.unusedVariables false
set_option linter.unusedSimpArgs false
open Cm (Wr Tm co bf Ls lf ins Eqm)
open Tr (cb By vn cb_len cb_app cb_one vn_len appNum_any)
namespace Ci
def kb32 (N : Int) : List UInt8 := (List.range 32).map fun j => UInt8.ofNat (byt N j).toNat
theorem kb32_cb (N : Int) : cb (kb32 N) = (bytes N).map fun z => Value.int .u8 z := by
 unfold kb32 cb bytes
 rw [List.map_map, List.map_map]
 refine List.map_congr_left (fun j hj => ?_)
 have h := byt_bd N j
 show Value.int .u8 ((UInt8.ofNat (byt N j).toNat).toNat : Int) = Value.int .u8 (byt N j)
 congr 1
 rw [UInt8.toNat_ofNat']
 omega
theorem build3I (a b c : Int) (w : World) : (Instr.buildSlice 60 3 #[(0, .int .i64 a), (1, .int .i64 b), (2, .int .i64 c)]).run Tryz.prog w = .ok (.slice (some ⟨w.heap.size, 0, none⟩) 3 3) (w.alloc (.cells #[.int .i64 a, .int .i64 b, .int .i64 c] 3)) := by kernel_rfl
theorem wp_b3 {w : World} {o : Oper} {a : Act} {K : Act → World → Prop} {Q : Exit → Act → World → Prop} (x0 x1 x2 : Operand) (ho : o.op = .buildSlice 60 3 #[(0, x0), (1, x1), (2, x2)]) (a0 a1 a2 : Int) (h0 : a.eval x0 = .int .i64 a0) (h1 : a.eval x1 = .int .i64 a1) (h2 : a.eval x2 = .int .i64 a2) (h : ∀ (tb : Nat) (wq : World), tb = w.heap.size → wq = w.alloc (.cells #[.int .i64 a0, .int .i64 a1, .int .i64 a2] 3) → K (a.put o.dst (.slice (some ⟨tb, 0, none⟩) 3 3)) wq) : o.wp Tryz.prog a w K Q := by
 have hr := build3I a0 a1 a2 w
 unfold Oper.wp execOp
 simp only [ho, Sem.run_bind, Sem.run_pure, Result.andThen_ok, List.map_toArray, List.map_cons, List.map_nil, h0, h1, h2, hr]
 exact h _ _ rfl rfl
def pCjb0 : String := "bytes.go:25"
def pCjb1 : String := "bytes.go:32"
def en17o_0 : Oper := oO 58 (Op.move (Operand.tmp 3)) 61 pCjb1 #[]
def en17o_1 : Oper := oO 59 (Op.fieldAddr 123 (Operand.tmp 9) 0) 0 pCjb1 #[]
def en17o_2 : Oper := oO 60 (Op.fieldAddr 79 (Operand.tmp 59) 0) 0 pCjb1 #[DD 1]
def en17o_3 : Oper := oO 61 (Op.load 3 (Operand.tmp 60)) 3 pCjb1 #[DD 2]
def en17o_4 : Oper := oO 62 (Op.call { callee := Callee.value (Operand.func 75), args := #[Operand.tmp 58, Operand.tmp 61], argTypes := #[61, 3] }) 61 pCjb1 #[DD 0, DD 3]
def en17o_5 : Oper := oO 63 (Op.fieldAddr 123 (Operand.tmp 9) 0) 0 pCjb1 #[]
def en17o_6 : Oper := oO 64 (Op.fieldAddr 79 (Operand.tmp 63) 1) 0 pCjb1 #[DD 5]
def en17o_7 : Oper := oO 65 (Op.load 3 (Operand.tmp 64)) 3 pCjb1 #[DD 6]
def en17o_8 : Oper := oO 66 (Op.call { callee := Callee.value (Operand.func 75), args := #[Operand.tmp 62, Operand.tmp 65], argTypes := #[61, 3] }) 61 pCjb1 #[DD 4, DD 7, CH 4]
def en17o_9 : Oper := oO 67 (Op.slice 127 (Operand.tmp 10) none none none) 61 pCjb1 #[]
def en17o_10 : Oper := oO 68 (Op.call { callee := Callee.builtin Builtin.append, args := #[Operand.tmp 66, Operand.tmp 67], argTypes := #[61, 61] }) 61 pCjb1 #[DD 8, DD 9, CH 8]
def en17o_11 : Oper := oO 3 (Op.assign (Operand.tmp 68)) 61 pCjb1 #[DD 10, CH 10, PH 0, PH 1, PH 2, PH 3, PH 4, PH 5, PH 6, PH 7, PH 8, PH 9, PH 10]
def en17o : Array Oper := #[en17o_0, en17o_1, en17o_2, en17o_3, en17o_4, en17o_5, en17o_6, en17o_7, en17o_8, en17o_9, en17o_10, en17o_11]
theorem en17 (Q : Exit → Act → World → Prop) (base tb kb kk ii : Nat) (v : Value) (bs : List UInt8) (N : Int) (u0 u1 u2 u4 u5 u6 u7 u8 ab ad ae af ag ah ai aj ak al am an ao ap aq au av aw ax ay az aA aB aC aD aE aF aG aH aI aJ aK aL aM aN aO aP aQ aR aS aT aU aV aW aX aY aZ a3 a4 a5 a6 a7 a8 a9 ba bb bc bd be bg bh : Value) (W : World)
  (nt : some tb ≠ v.ownBlock) (nk : some kb ≠ v.ownBlock) (hbs : base ≤ W.heap.size) (hl : bs.length ≤ 274877906944) (hk : kk < 4611686018427387904) (hi : ii < 4611686018427387904) (ow : W.ownsRow base 5 1 v (bs).length (cb (bs)))
  (t0 : W.cell? ⟨tb, 0, none⟩ = some (.int .i64 (kk : Int))) (t1 : W.cell? ⟨tb, 1, none⟩ = some (.int .i64 (ii : Int))) (rg : W.rangeAt kb 0 (cb (kb32 N)))
  (HQ : Hid (∀ (wz : World) (v1 v2 v3 : Value), wz.ownsRow base 5 1 v3 (bs ++ vn kk ++ vn ii ++ kb32 N).length (cb (bs ++ vn kk ++ vn ii ++ kb32 N)) → Gv W wz v v3 → Q .normal ⟨#[u0, u1, u2, v3, u4, u5, u6, u7, u8, .pointer (some ⟨tb, 0, none⟩), .pointer (some ⟨kb, 0, none⟩), ab, ad, ae, af, ag, ah, ai, aj, ak, al, am, an, ao, ap, aq, au, av, aw, ax, ay, az, aA, aB, aC, aD, aE, aF, aG, aH, aI, aJ, aK, aL, aM, aN, aO, aP, aQ, aR, aS, aT, aU, aV, aW, aX, aY, aZ, v, .pointer (some ⟨tb, 0, none⟩), .pointer (some ⟨tb, 0, none⟩), .int .i64 (kk : Int), v1, .pointer (some ⟨tb, 0, none⟩), .pointer (some ⟨tb, 1, none⟩), .int .i64 (ii : Int), v2, .slice (some ⟨kb, 0, none⟩) 32 32, v3, be, bg, bh], []⟩ wz)) : (Code.region 17 en17o true).wp Tryz.prog Q ⟨#[u0, u1, u2, v, u4, u5, u6, u7, u8, .pointer (some ⟨tb, 0, none⟩), .pointer (some ⟨kb, 0, none⟩), ab, ad, ae, af, ag, ah, ai, aj, ak, al, am, an, ao, ap, aq, au, av, aw, ax, ay, az, aA, aB, aC, aD, aE, aF, aG, aH, aI, aJ, aK, aL, aM, aN, aO, aP, aQ, aR, aS, aT, aU, aV, aW, aX, aY, aZ, a3, a4, a5, a6, a7, a8, a9, ba, bb, bc, bd, be, bg, bh], []⟩ W := by
 have G := Hn (Gv.of (v := v) (bl_drew W))
 have O0 := Hn (own_keepT ow (bl_drew W))
 clear ow
 unfold en17o
 refine wp_region_noPanic ?_
 refine wp_region_held_drew (S := fun x => W.grownBy x v.ownBlock) (by kernel_rfl) ((Gv.of (v := v) (bl_drew W)).g) (fun hH0 => ?_)
 refine tj 0 en17o_0 (v) hH0 (fun w0 hSw => ?_) ?_
 ·(unfold en17o_0 oO; clear hSw; go_simp)
 simp only [en17o_0, oO, Act.put, sA, sB, sC]
 refine tj 1 en17o_1 (.pointer (some ⟨tb, 0, none⟩)) hH0 (fun w0 hSw => ?_) ?_
 ·(unfold en17o_1 oO; clear hSw; go_simp)
 simp only [en17o_1, oO, Act.put, sA, sB, sC]
 refine tj 5 en17o_5 (.pointer (some ⟨tb, 0, none⟩)) hH0 (fun w0 hSw => ?_) ?_
 ·(unfold en17o_5 oO; clear hSw; go_simp)
 simp only [en17o_5, oO, Act.put, sA, sB, sC]
 refine tj 9 en17o_9 (.slice (some ⟨kb, 0, none⟩) 32 32) hH0 (fun w0 hSw => ?_) ?_
 ·(unfold en17o_9 oO; clear hSw; go_simp)
 simp only [en17o_9, oO, Act.put, sA, sB, sC]
 refine tj 2 en17o_2 (.pointer (some ⟨tb, 0, none⟩)) hH0 (fun w0 hSw => ?_) ?_
 ·(unfold en17o_2 oO; clear hSw; go_simp)
 simp only [en17o_2, oO, Act.put, sA, sB, sC]
 refine tj 6 en17o_6 (.pointer (some ⟨tb, 1, none⟩)) hH0 (fun w0 hSw => ?_) ?_
 ·(unfold en17o_6 oO; clear hSw; go_simp)
 simp only [en17o_6, oO, Act.put, sA, sB, sC]
 refine tj 3 en17o_3 (.int .i64 (kk : Int)) hH0 (fun w0 hSw => ?_) ?_
 ·(unfold en17o_3 oO; have hS : W.grownBy w0 v.ownBlock := hSw; have a0 := hS.cell t0 nt; clear hS hSw; go_simp)
 simp only [en17o_3, oO, Act.put, sA, sB, sC]
 refine tj 7 en17o_7 (.int .i64 (ii : Int)) hH0 (fun w0 hSw => ?_) ?_
 ·(unfold en17o_7 oO; have hS : W.grownBy w0 v.ownBlock := hSw; have a0 := hS.cell t1 nt; clear hS hSw; go_simp)
 simp only [en17o_7, oO, Act.put, sA, sB, sC]
 refine ar [4] ?_
 refine ac en17o_4 (fun K hK => ?_) AllReadyH.nil
 unfold en17o_4 oO
 have HH := Hn hH0
 clear hH0
 go_simp
 refine (apn_any base v bs kk _ O0.out (Nat.le_trans hbs HH.out.size) (by omega) hk).mono ?_
 rintro e wn1 ⟨v1, rfl, ho, hg⟩
 have SN := Hn ((G.out.trans hg).g)
 replace G := Hn (G.out.trans hg)
 have O1 := Hn (ho)
 clear HH ho hg O0
 go_wp2_with fail
 refine hK.out _ _ SN.out (fun hH1 => ?_)
 clear hK K SN
 refine ar [8] ?_
 refine ac en17o_8 (fun K hK => ?_) AllReadyH.nil
 unfold en17o_8 oO
 have HH := Hn hH1
 clear hH1
 go_simp
 refine (apn_any base v1 (bs ++ vn kk) ii _ O1.out (Nat.le_trans hbs HH.out.size) (by have := vn_len kk; rw [List.length_append]; omega) hi).mono ?_
 rintro e wn2 ⟨v2, rfl, ho, hg⟩
 have SN := Hn ((G.out.trans hg).g)
 replace G := Hn (G.out.trans hg)
 have O2 := Hn (ho)
 clear HH ho hg O1
 go_wp2_with fail
 refine hK.out _ _ SN.out (fun hH2 => ?_)
 clear hK K SN
 refine ar [10] ?_
 refine ac en17o_10 (fun K hK => ?_) AllReadyH.nil
 unfold en17o_10 oO
 have HH := Hn hH2
 clear hH2
 refine wp_appY _ _ rfl base v2 (bs ++ vn kk ++ vn ii) (kb32 N) rfl O2.out ⟨kb, 0, none⟩ 32 rfl (fun j u hu => by rw [Addr.add_mid]; exact HH.out.cell (rg j u hu) nk) (by have := vn_len kk; have := vn_len ii; rw [List.length_append, List.length_append]; show _ + 32 ≤ _; omega) (Nat.le_trans hbs HH.out.size) (fun v3 wn3 ho hg => ?_)
 have SN := Hn ((G.out.trans hg).g)
 replace G := Hn (G.out.trans hg)
 have O3 := Hn (ho)
 clear HH ho hg O2
 simp only [Act.put, sA, sB, sC]
 refine hK.out _ _ SN.out (fun hH3 => ?_)
 clear hK K SN
 refine tj 11 en17o_11 (v3) hH3 (fun w0 hSw => ?_) ?_
 ·(unfold en17o_11 oO; clear hSw; go_simp)
 simp only [en17o_11, oO, Act.put, sA, sB, sC]
 have HH := Hn hH3
 have FQ := Hn (HQ.out _ v1 v2 v3 O3.out G.out)
 refine wpAnyH_done (by kernel_rfl) ?_ _
 refine NoPanic.normal ?_
 exact FQ.out
def en4o_0 : Oper := oO 13 (Op.move (Operand.tmp 0)) 23 pCjb0 #[]
def en4o_1 : Oper := oO 14 (Op.nilCheck (Operand.tmp 13)) 0 pCjb0 #[DD 0]
def en4o_2 : Oper := oO 15 (Op.fieldAddr 27 (Operand.tmp 14) 0) 0 pCjb0 #[DD 1]
def en4o_3 : Oper := oO 16 (Op.load 3 (Operand.tmp 15)) 3 pCjb0 #[DD 2]
def en4o_4 : Oper := oO 17 (Op.move (Operand.tmp 0)) 23 pCjb0 #[]
def en4o_5 : Oper := oO 18 (Op.nilCheck (Operand.tmp 17)) 0 pCjb0 #[DD 4]
def en4o_6 : Oper := oO 19 (Op.fieldAddr 27 (Operand.tmp 18) 1) 0 pCjb0 #[DD 5]
def en4o_7 : Oper := oO 20 (Op.load 3 (Operand.tmp 19)) 3 pCjb0 #[DD 6]
def en4o_8 : Oper := oO 21 (Op.move (Operand.tmp 0)) 23 pCjb0 #[]
def en4o_9 : Oper := oO 22 (Op.nilCheck (Operand.tmp 21)) 0 pCjb0 #[DD 8]
def en4o_10 : Oper := oO 23 (Op.fieldAddr 27 (Operand.tmp 22) 2) 0 pCjb0 #[DD 9]
def en4o_11 : Oper := oO 24 (Op.load 25 (Operand.tmp 23)) 25 pCjb0 #[DD 10]
def en4o_12 : Oper := oO 25 (Op.call { callee := Callee.builtin Builtin.len, args := #[Operand.tmp 24], argTypes := #[25] }) 3 pCjb0 #[DD 11]
def en4o_13 : Oper := oO 26 (Op.buildSlice 60 3 #[(0, Operand.tmp 16), (1, Operand.tmp 20), (2, Operand.tmp 25)]) 60 pCjb0 #[DD 3, DD 7, DD 12]
def en4o_14 : Oper := oO 27 (Op.call { callee := Callee.builtin Builtin.len, args := #[Operand.tmp 26], argTypes := #[60] }) 3 pCjb0 #[DD 13]
def en4o_15 : Oper := oO 28 (Op.move (Operand.const (Value.int IntKind.i64 0))) 3 pCjb0 #[]
def en4o : Array Oper := #[en4o_0, en4o_1, en4o_2, en4o_3, en4o_4, en4o_5, en4o_6, en4o_7, en4o_8, en4o_9, en4o_10, en4o_11, en4o_12, en4o_13, en4o_14, en4o_15]
theorem en4 (Q : Exit → Act → World → Prop) (s m Kg q c : Nat) (P : Option Addr) (u1 u2 u3 u4 u5 u6 u7 u8 u9 aa ab ad ae af ag ah ai aj ak al am an ao ap aq au av aw ax ay az aA aB aC aD aE aF aG aH aI aJ aK aL aM aN aO aP aQ aR aS aT aU aV aW aX aY aZ a3 a4 a5 a6 a7 a8 a9 ba bb bc bd be bg bh : Value) (W : World)
  (c0 : W.cell? ⟨s, 0, none⟩ = some (.int .i64 (m : Int))) (c1 : W.cell? ⟨s, 1, none⟩ = some (.int .i64 (Kg : Int))) (c2 : W.cell? ⟨s, 2, none⟩ = some (.slice P q c))
  (HQ : Hid (∀ (wz : World) (tb : Nat), Below W.heap.size W wz → wz.rangeAt tb 0 [.int .i64 (m : Int), .int .i64 (Kg : Int), .int .i64 (q : Int)] → Q .normal ⟨#[.pointer (some ⟨s, 0, none⟩), u1, u2, u3, u4, u5, u6, u7, u8, u9, aa, ab, ad, .pointer (some ⟨s, 0, none⟩), .pointer (some ⟨s, 0, none⟩), .pointer (some ⟨s, 0, none⟩), .int .i64 (m : Int), .pointer (some ⟨s, 0, none⟩), .pointer (some ⟨s, 0, none⟩), .pointer (some ⟨s, 1, none⟩), .int .i64 (Kg : Int), .pointer (some ⟨s, 0, none⟩), .pointer (some ⟨s, 0, none⟩), .pointer (some ⟨s, 2, none⟩), .slice P q c, .int .i64 (q : Int), .slice (some ⟨tb, 0, none⟩) 3 3, .int .i64 3, .int .i64 0, ax, ay, az, aA, aB, aC, aD, aE, aF, aG, aH, aI, aJ, aK, aL, aM, aN, aO, aP, aQ, aR, aS, aT, aU, aV, aW, aX, aY, aZ, a3, a4, a5, a6, a7, a8, a9, ba, bb, bc, bd, be, bg, bh], []⟩ wz)) : (Code.region 4 en4o true).wp Tryz.prog Q ⟨#[.pointer (some ⟨s, 0, none⟩), u1, u2, u3, u4, u5, u6, u7, u8, u9, aa, ab, ad, ae, af, ag, ah, ai, aj, ak, al, am, an, ao, ap, aq, au, av, aw, ax, ay, az, aA, aB, aC, aD, aE, aF, aG, aH, aI, aJ, aK, aL, aM, aN, aO, aP, aQ, aR, aS, aT, aU, aV, aW, aX, aY, aZ, a3, a4, a5, a6, a7, a8, a9, ba, bb, bc, bd, be, bg, bh], []⟩ W := by
 unfold en4o
 refine wp_region_noPanic ?_
 refine wp_region_held_drew (S := fun x => Below W.heap.size W x) (by kernel_rfl) (bl_drew W) (fun hH0 => ?_)
 refine tj 0 en4o_0 (.pointer (some ⟨s, 0, none⟩)) hH0 (fun w0 hSw => ?_) ?_
 ·(unfold en4o_0 oO; clear hSw; go_simp)
 simp only [en4o_0, oO, Act.put, sA, sB, sC]
 refine tj 4 en4o_4 (.pointer (some ⟨s, 0, none⟩)) hH0 (fun w0 hSw => ?_) ?_
 ·(unfold en4o_4 oO; clear hSw; go_simp)
 simp only [en4o_4, oO, Act.put, sA, sB, sC]
 refine tj 8 en4o_8 (.pointer (some ⟨s, 0, none⟩)) hH0 (fun w0 hSw => ?_) ?_
 ·(unfold en4o_8 oO; clear hSw; go_simp)
 simp only [en4o_8, oO, Act.put, sA, sB, sC]
 refine tj 15 en4o_15 (.int .i64 0) hH0 (fun w0 hSw => ?_) ?_
 ·(unfold en4o_15 oO; clear hSw; go_simp)
 simp only [en4o_15, oO, Act.put, sA, sB, sC]
 refine tj 1 en4o_1 (.pointer (some ⟨s, 0, none⟩)) hH0 (fun w0 hSw => ?_) ?_
 ·(unfold en4o_1 oO; clear hSw; go_simp)
 simp only [en4o_1, oO, Act.put, sA, sB, sC]
 refine tj 5 en4o_5 (.pointer (some ⟨s, 0, none⟩)) hH0 (fun w0 hSw => ?_) ?_
 ·(unfold en4o_5 oO; clear hSw; go_simp)
 simp only [en4o_5, oO, Act.put, sA, sB, sC]
 refine tj 9 en4o_9 (.pointer (some ⟨s, 0, none⟩)) hH0 (fun w0 hSw => ?_) ?_
 ·(unfold en4o_9 oO; clear hSw; go_simp)
 simp only [en4o_9, oO, Act.put, sA, sB, sC]
 refine tj 2 en4o_2 (.pointer (some ⟨s, 0, none⟩)) hH0 (fun w0 hSw => ?_) ?_
 ·(unfold en4o_2 oO; clear hSw; go_simp)
 simp only [en4o_2, oO, Act.put, sA, sB, sC]
 refine tj 6 en4o_6 (.pointer (some ⟨s, 1, none⟩)) hH0 (fun w0 hSw => ?_) ?_
 ·(unfold en4o_6 oO; clear hSw; go_simp)
 simp only [en4o_6, oO, Act.put, sA, sB, sC]
 refine tj 10 en4o_10 (.pointer (some ⟨s, 2, none⟩)) hH0 (fun w0 hSw => ?_) ?_
 ·(unfold en4o_10 oO; clear hSw; go_simp)
 simp only [en4o_10, oO, Act.put, sA, sB, sC]
 refine tj 3 en4o_3 (.int .i64 (m : Int)) hH0 (fun w0 hSw => ?_) ?_
 ·(unfold en4o_3 oO; have hS : Below W.heap.size W w0 := hSw; have a0 := cell_keep c0 hS; clear hS hSw; go_simp)
 simp only [en4o_3, oO, Act.put, sA, sB, sC]
 refine tj 7 en4o_7 (.int .i64 (Kg : Int)) hH0 (fun w0 hSw => ?_) ?_
 ·(unfold en4o_7 oO; have hS : Below W.heap.size W w0 := hSw; have a0 := cell_keep c1 hS; clear hS hSw; go_simp)
 simp only [en4o_7, oO, Act.put, sA, sB, sC]
 refine tj 11 en4o_11 (.slice P q c) hH0 (fun w0 hSw => ?_) ?_
 ·(unfold en4o_11 oO; have hS : Below W.heap.size W w0 := hSw; have a0 := cell_keep c2 hS; clear hS hSw; go_simp)
 simp only [en4o_11, oO, Act.put, sA, sB, sC]
 refine tj 12 en4o_12 (.int .i64 (q : Int)) hH0 (fun w0 hSw => ?_) ?_
 ·(unfold en4o_12 oO; clear hSw; go_simp)
 simp only [en4o_12, oO, Act.put, sA, sB, sC]
 refine ar [13] ?_
 refine ac en4o_13 (fun K hK => ?_) AllReadyH.nil
 unfold en4o_13 oO
 have HH := Hn hH0
 clear hH0
 refine wp_b3 _ _ _ rfl (m : Int) (Kg : Int) (q : Int) rfl rfl rfl (fun tb wn1 htb hwq => ?_)
 have SN := Hn ((by rw [hwq]; exact bl_trans HH.out (bl_alloc _ _) : Below W.heap.size W wn1))
 have R3 := Hn ((by rw [htb, hwq]; exact range_newM _ _ _ : wn1.rangeAt tb 0 [.int .i64 (m : Int), .int .i64 (Kg : Int), .int .i64 (q : Int)]))
 clear HH htb hwq
 simp only [Act.put, sA, sB, sC]
 refine hK.out _ _ SN.out (fun hH1 => ?_)
 clear hK K SN
 refine tj 14 en4o_14 (.int .i64 3) hH1 (fun w0 hSw => ?_) ?_
 ·(unfold en4o_14 oO; clear hSw; go_simp)
 simp only [en4o_14, oO, Act.put, sA, sB, sC]
 have HH := Hn hH1
 have FQ := Hn (HQ.out _ tb HH.out R3.out)
 refine wpAnyH_done (by kernel_rfl) ?_ _
 refine NoPanic.normal ?_
 exact FQ.out
def tmB (x : Tm) : List UInt8 := vn x.1.1.toNat ++ vn x.1.2.toNat ++ kb32 ((lst x.2).n % Sm.L)
def xsB (X : List Tm) : List UInt8 := vn X.length ++ X.flatMap tmB
def enB (m K : Nat) (Q : List (List Tm)) : List UInt8 := vn m ++ vn K ++ vn Q.length ++ Q.flatMap xsB
theorem tmB_len (x : Tm) : (tmB x).length ≤ 52 := by
 have h1 := vn_len x.1.1.toNat
 have h2 := vn_len x.1.2.toNat
 have h3 : (kb32 ((lst x.2).n % Sm.L)).length = 32 := rfl
 unfold tmB
 rw [List.length_append, List.length_append]
 omega
theorem flatm_len {α : Type} (f : α → List UInt8) (n : Nat) : ∀ (l : List α), (∀ x ∈ l, (f x).length ≤ n) → (l.flatMap f).length ≤ l.length * n
 | [], _ => by simp
 | x :: l, h => by
  have h1 := flatm_len f n l (fun y hy => h y (by simp [hy]))
  have h2 := h x (by simp)
  rw [List.flatMap_cons, List.length_append, List.length_cons, Nat.add_mul]
  omega
theorem xsB_len (X : List Tm) : (xsB X).length ≤ 10 + X.length * 52 := by
 have h1 := vn_len X.length
 have h2 := flatm_len tmB 52 X (fun x _ => tmB_len x)
 unfold xsB
 rw [List.length_append]
 omega
theorem up_len : ∀ (l : List Int) (a n : Int), l.Pairwise (· < ·) → (∀ x ∈ l, a ≤ x ∧ x < n) → a ≤ n → (l.length : Int) ≤ n - a
 | [], a, n, _, _, h => by simp; omega
 | x :: l, a, n, hp, hb, h => by
  have hx := hb x (by simp)
  have h1 := up_len l (x + 1) n (List.pairwise_cons.1 hp).2 (fun y hy => ⟨by have := (List.pairwise_cons.1 hp).1 y hy; omega, (hb y (by simp [hy])).2⟩) (by omega)
  rw [List.length_cons]
  omega
theorem ls_len {X : List Tm} {m K : Nat} (hL : Ls Sm.L X) (hw : ∀ x ∈ X, hs m K x.1 = true) (hK : K ≤ 1024) (hm : m ≤ 1024) : X.length ≤ 6150 := by
 have key : ∀ x ∈ X, 1 ≤ x.1.1 ∧ x.1.1 < 6 ∧ 0 ≤ x.1.2 ∧ x.1.2 < 1025 := fun x hx => by
  have h := hw x hx
  unfold hs at h
  simp only [Bool.and_eq_true, decide_eq_true_eq] at h
  obtain ⟨h1, h2, h3, h4⟩ := h
  refine ⟨h1, h2, h3, ?_⟩
  have : ct m K x.1.1.toNat ≤ 1024 := by
   unfold ct
   split <;> omega
  omega
 have h := up_len (X.map fun x => x.1.1 * 1025 + x.1.2) 0 6150 (by
  rw [List.pairwise_map]
  refine hL.up.imp_of_mem (fun {x y} hx hy hb => ?_)
  have hx := key x hx
  have hy := key y hy
  rw [Cm.bf_iff] at hb
  omega) (fun z hz => by
  obtain ⟨x, hx, rfl⟩ := List.mem_map.1 hz
  have := key x hx
  omega) (by omega)
 rw [List.length_map] at h
 omega
end Ci
end Go.Proofs.YtghcfcglakbkeaaGreatDoor
