import Derived.Test.YtghcfcglakbkeaaGreatDoorSrm
namespace Go.Proofs.YtghcfcglakbkeaaGreatDoor
set_option maxRecDepth 100000
set_option maxHeartbeats 16000000
open Go.RowKit
set_option linter.unusedVariables false
set_option linter.unusedSimpArgs false
open Cm (Wr Tm co bf Ls lf ins Eqm)
namespace Ci
theorem eqR (a b : Wr) (w : World) : (Op.equalIn 10000 67 (wv a) (wv b)).run Tryz.prog w = .ok (decide (a = b)) w := by
 unfold wv
 have hf : (Tryz.prog.fieldsOf 67).toList = [⟨"Kind", 3, 0, false, "", "", 0⟩, ⟨"I", 3, 1, false, "", "", 8⟩] := by kernel_rfl
 rw [run_equalIn_struct w 9999 _ _ _ (by kernel_rfl) (by kernel_rfl), hf]
 have hp : Tryz.prog.plainKey 3 = true := by kernel_rfl
 have hu : Tryz.prog.underlying 3 = some (.int .i64) := by kernel_rfl
 simp only [Op.eqFields, Sem.run_bind, Sem.run_ite]
 have p1 : ∀ x y : Wr, (part 3 #[.int .i64 x.1, .int .i64 x.2] 0).run Tryz.prog w = .ok (.int .i64 x.1) w := fun x y => run_part_plain w hp rfl
 have p2 : ∀ x y : Wr, (part 3 #[.int .i64 x.1, .int .i64 x.2] 1).run Tryz.prog w = .ok (.int .i64 x.2) w := fun x y => run_part_plain w hp rfl
 simp only [p1 a a, p1 b b, p2 a a, p2 b b, Result.andThen_ok, run_equalIn_int w 9998 3 .i64 .i64 _ _ hu]
 obtain ⟨a1, a2⟩ := a
 obtain ⟨b1, b2⟩ := b
 by_cases h1 : a1 = b1 <;> by_cases h2 : a2 = b2 <;> simp [h1, h2]
theorem same_zeroR (n : Int) : (lst n).same zero4 = decide (n % Sm.L = 0) := by
 by_cases h : n % Sm.L = 0
 ·rw [decide_eq_true h]; exact (E4.same_iff _ _).2 ((zero_is n).2 h)
 ·rw [decide_eq_false h]
  exact Bool.eq_false_iff.2 (fun e => h ((zero_is n).1 ((E4.same_iff _ _).1 e)))
theorem before_any (p q : Wr) (w : World) : Calls Tryz.prog 125 #[.agg #[.int .i64 p.1, .int .i64 p.2], .agg #[.int .i64 q.1, .int .i64 q.2]] w fun e w' => e = .returned (.bool (bf p q)) ∧ Below w.heap.size w w' := by
 obtain ⟨p1, p2⟩ := p
 obtain ⟨q1, q2⟩ := q
 simp only
 have HB := Hn (bl_trans (bl_alloc w (.cells #[.int .i64 p1, .int .i64 p2] 67)) (bl_alloc (w.alloc (.cells #[.int .i64 p1, .int .i64 p2] 67)) (.cells #[.int .i64 q1, .int .i64 q2] 67)))
 by_cases h1 : p1 < q1
 ·have hb : bf (p1, p2) (q1, q2) = true := by simp [bf, h1]
  rw [hb]
  clear hb
  go_enter Tryz.func125, Tryz.ntmps125
  go_wp2_with fail
  exact bodyPost_ret (v := .bool true) (by simp [results, Tryz.results125, go_sem]) rfl ⟨rfl, HB.out⟩
 ·by_cases h2 : p1 = q1
  ·subst h2
   have hl : ¬ p1 < p1 := by omega
   by_cases h3 : p2 < q2
   ·have hb : bf (p1, p2) (p1, q2) = true := by simp [bf, h3]
    rw [hb]
    clear hb h1
    go_enter Tryz.func125, Tryz.ntmps125
    go_wp2_with fail
    exact bodyPost_ret (v := .bool true) (by simp [results, Tryz.results125, go_sem]) rfl ⟨rfl, HB.out⟩
   ·have hb : bf (p1, p2) (p1, q2) = false := by simp [bf, h3]
    rw [hb]
    clear hb h1
    go_enter Tryz.func125, Tryz.ntmps125
    go_wp2_with fail
    exact bodyPost_ret (v := .bool false) (by simp [results, Tryz.results125, go_sem]) rfl ⟨rfl, HB.out⟩
  ·have hb : bf (p1, p2) (q1, q2) = false := by simp [bf, h1, h2]
   rw [hb]
   clear hb
   go_enter Tryz.func125, Tryz.ntmps125
   go_wp2_with fail
   exact bodyPost_ret (v := .bool false) (by simp [results, Tryz.results125, go_sem]) rfl ⟨rfl, HB.out⟩
theorem i4R : (Tryz.prog.info? 52).map (·.size) = some 4 := by kernel_rfl
theorem undRS : Tryz.prog.underlying 52 = some (.array 4 39) := by kernel_rfl
theorem one4R (p : E4) : ([.int .u64 p.x0, .int .u64 p.x1, .int .u64 p.x2, .int .u64 p.x3] : List Value).toArray.all (·.oneCell') = true := by simp [Value.oneCell']
theorem range_blR {w w' : World} {b o : Nat} {cs : List Value} (h : w.rangeAt b o cs) (hb : Below w.heap.size w w') : w'.rangeAt b o cs := fun j v hv => cell_keep (h j v hv) hb
def pCsa0 : String := "circuit.go:36"
def pCsa1 : String := "circuit.go:43"
def pCsa2 : String := "circuit.go:35"
def pt7o_0 : Oper := oO 26 (Op.move (Operand.tmp 0)) 72 pCsa0 #[]
def pt7o_1 : Oper := oO 27 (Op.move (Operand.tmp 7)) 3 pCsa0 #[]
def pt7o_2 : Oper := oO 28 (Op.indexAddr 72 (Operand.tmp 26) (Operand.tmp 27)) 0 pCsa0 #[DD 0, DD 1]
def pt7o_3 : Oper := oO 29 (Op.fieldAddr 116 (Operand.tmp 28) 1) 0 pCsa0 #[DD 2]
def pt7o_4 : Oper := oO 30 (Op.load 52 (Operand.tmp 29)) 52 pCsa0 #[DD 3]
def pt7o_5 : Oper := oO 31 (Op.fieldAddr 116 (Operand.tmp 3) 1) 0 pCsa0 #[]
def pt7o_6 : Oper := oO 32 (Op.load 52 (Operand.tmp 31)) 52 pCsa0 #[DD 5]
def pt7o_7 : Oper := oO 33 (Op.call { callee := Callee.value (Operand.func 52), args := #[Operand.tmp 30, Operand.tmp 32], argTypes := #[52, 52] }) 52 pCsa0 #[DD 4, DD 6]
def pt7o_8 : Oper := oO 34 (Op.fieldAddr 116 (Operand.tmp 3) 1) 0 pCsa0 #[PH 0, PH 1, PH 2, PH 3, PH 4, PH 5, PH 6, PH 7]
def pt7o_9 : Oper := oN (Op.store 52 (Operand.tmp 34) (Operand.tmp 33)) pCsa0 #[DD 8, DD 7, CH 7, PH 0, PH 1, PH 2, PH 3, PH 4, PH 5, PH 6, PH 7]
def pt7o : Array Oper := #[pt7o_0, pt7o_1, pt7o_2, pt7o_3, pt7o_4, pt7o_5, pt7o_6, pt7o_7, pt7o_8, pt7o_9]
theorem pt7 (Q : Exit → Act → World → Prop) (sb so n c b i : Nat) (p k r : E4) (u1 u2 u4 u5 u6 u8 u9 aa ab ad ae af ag ah ai aj ak al am an ao ap aq au av aw ax ay az aA aB aC aD aE aF aG aH aI aJ aK aL aM aN aO aP aQ aR aS aT aU aV aW aX aY aZ a4 a5 a6 a7 a8 a9 ba bc bd be bg bh bi bj bk bl bm bn bo bp bq br bs bt bu : Value) (W : World)
  (i0 : (0 : Int) ≤ (i : Int)) (i1 : (i : Int) < (n : Int)) (neS : sb ≠ b) (rg : W.rangeAt b 2 [.int .u64 k.x0, .int .u64 k.x1, .int .u64 k.x2, .int .u64 k.x3]) (th : W.there b 2 4) (cp0 : W.cell? ⟨sb, so + i * 6 + 2, none⟩ = some (.int .u64 p.x0)) (cp1 : W.cell? ⟨sb, so + i * 6 + 3, none⟩ = some (.int .u64 p.x1)) (cp2 : W.cell? ⟨sb, so + i * 6 + 4, none⟩ = some (.int .u64 p.x2)) (cp3 : W.cell? ⟨sb, so + i * 6 + 5, none⟩ = some (.int .u64 p.x3))
  (C7 : Hid (∀ y, Calls Tryz.prog 52 #[.agg #[.int .u64 p.x0, .int .u64 p.x1, .int .u64 p.x2, .int .u64 p.x3], .agg #[.int .u64 k.x0, .int .u64 k.x1, .int .u64 k.x2, .int .u64 k.x3]] y fun e w' => e = .returned (.agg #[.int .u64 r.x0, .int .u64 r.x1, .int .u64 r.x2, .int .u64 r.x3]) ∧ Below y.heap.size y w'))
  (HQ : Hid (∀ (wz : World), (∃ wy, Below W.heap.size W wy ∧ wz = wy.setCells b 2 [.int .u64 r.x0, .int .u64 r.x1, .int .u64 r.x2, .int .u64 r.x3]) → Q .normal ⟨#[.slice (some ⟨sb, so, none⟩) n c, u1, u2, .pointer (some ⟨b, 0, none⟩), u4, u5, u6, .int .i64 (i : Int), u8, u9, aa, ab, ad, ae, af, ag, ah, ai, aj, ak, al, am, an, ao, ap, aq, .slice (some ⟨sb, so, none⟩) n c, .int .i64 (i : Int), .pointer (some ⟨sb, so + i * 6, none⟩), .pointer (some ⟨sb, so + i * 6 + 2, none⟩), .agg #[.int .u64 p.x0, .int .u64 p.x1, .int .u64 p.x2, .int .u64 p.x3], .pointer (some ⟨b, 2, none⟩), .agg #[.int .u64 k.x0, .int .u64 k.x1, .int .u64 k.x2, .int .u64 k.x3], .agg #[.int .u64 r.x0, .int .u64 r.x1, .int .u64 r.x2, .int .u64 r.x3], .pointer (some ⟨b, 2, none⟩), aD, aE, aF, aG, aH, aI, aJ, aK, aL, aM, aN, aO, aP, aQ, aR, aS, aT, aU, aV, aW, aX, aY, aZ, a4, a5, a6, a7, a8, a9, ba, bc, bd, be, bg, bh, bi, bj, bk, bl, bm, bn, bo, bp, bq, br, bs, bt, bu], []⟩ wz)) : (Code.region 7 pt7o true).wp Tryz.prog Q ⟨#[.slice (some ⟨sb, so, none⟩) n c, u1, u2, .pointer (some ⟨b, 0, none⟩), u4, u5, u6, .int .i64 (i : Int), u8, u9, aa, ab, ad, ae, af, ag, ah, ai, aj, ak, al, am, an, ao, ap, aq, au, av, aw, ax, ay, az, aA, aB, aC, aD, aE, aF, aG, aH, aI, aJ, aK, aL, aM, aN, aO, aP, aQ, aR, aS, aT, aU, aV, aW, aX, aY, aZ, a4, a5, a6, a7, a8, a9, ba, bc, bd, be, bg, bh, bi, bj, bk, bl, bm, bn, bo, bp, bq, br, bs, bt, bu], []⟩ W := by
 have BB := Hn (bl_drew W)
 have RG := Hn (range_blR rg (bl_drew W))
 have TH := Hn (there_bl th (bl_drew W))
 clear rg th
 unfold pt7o
 refine wp_region_noPanic ?_
 refine wp_region_held_drew (S := fun x => W.grownBy x (some b)) (by kernel_rfl) (gbI (bl_drew W) _) (fun hH0 => ?_)
 refine tj 0 pt7o_0 (.slice (some ⟨sb, so, none⟩) n c) hH0 (fun w0 hSw => ?_) ?_
 ·(unfold pt7o_0 oO; clear hSw; go_simp)
 simp only [pt7o_0, oO, Act.put, sA, sB, sC]
 refine tj 1 pt7o_1 (.int .i64 (i : Int)) hH0 (fun w0 hSw => ?_) ?_
 ·(unfold pt7o_1 oO; clear hSw; go_simp)
 simp only [pt7o_1, oO, Act.put, sA, sB, sC]
 refine tj 5 pt7o_5 (.pointer (some ⟨b, 2, none⟩)) hH0 (fun w0 hSw => ?_) ?_
 ·(unfold pt7o_5 oO; clear hSw; go_simp)
 simp only [pt7o_5, oO, Act.put, sA, sB, sC]
 refine tj 2 pt7o_2 (.pointer (some ⟨sb, so + i * 6, none⟩)) hH0 (fun w0 hSw => ?_) ?_
 ·(unfold pt7o_2 oO; clear hSw; go_simp)
 simp only [pt7o_2, oO, Act.put, sA, sB, sC]
 refine tj 3 pt7o_3 (.pointer (some ⟨sb, so + i * 6 + 2, none⟩)) hH0 (fun w0 hSw => ?_) ?_
 ·(unfold pt7o_3 oO; clear hSw; go_simp)
 simp only [pt7o_3, oO, Act.put, sA, sB, sC]
 refine tj 4 pt7o_4 (.agg #[.int .u64 p.x0, .int .u64 p.x1, .int .u64 p.x2, .int .u64 p.x3]) hH0 (fun w0 hSw => ?_) ?_
 ·(unfold pt7o_4 oO; have hS : W.grownBy w0 (some b) := hSw; have a0 := hS.cell cp0 (fun e => neS (Option.some.inj e)); have a1 := hS.cell cp1 (fun e => neS (Option.some.inj e)); have a2 := hS.cell cp2 (fun e => neS (Option.some.inj e)); have a3 := hS.cell cp3 (fun e => neS (Option.some.inj e)); clear hS hSw; go_simp)
 simp only [pt7o_4, oO, Act.put, sA, sB, sC]
 refine ar [6] ?_
 refine ac pt7o_6 (fun K hK => ?_) AllReadyH.nil
 unfold pt7o_6 oO
 have HH := Hn hH0
 clear hH0
 refine wp_load_mid 52 _ rfl b 2 (by rfl) [.int .u64 k.x0, .int .u64 k.x1, .int .u64 k.x2, .int .u64 k.x3] _ RG.out undRS rfl i4R ?_
 simp only [Act.put, sA, sB, sC]
 have SN := HH
 clear HH
 refine hK.out _ _ SN.out (fun hH1 => ?_)
 clear hK K SN
 refine ar [7] ?_
 refine ac pt7o_7 (fun K hK => ?_) AllReadyH.nil
 unfold pt7o_7 oO
 have HH := Hn hH1
 clear hH1
 go_simp
 refine (C7.out _).mono ?_
 rintro e wn2 ⟨rfl, hb⟩
 replace RG := Hn (range_blR RG.out hb)
 replace TH := Hn (there_bl TH.out hb)
 replace BB := Hn (bl_trans BB.out hb)
 have SN := Hn (HH.out.trans (gbI hb _))
 clear HH C7 hb
 go_wp2_with fail
 refine hK.out _ _ SN.out (fun hH2 => ?_)
 clear hK K SN
 refine tj 8 pt7o_8 (.pointer (some ⟨b, 2, none⟩)) hH2 (fun w0 hSw => ?_) ?_
 ·(unfold pt7o_8 oO; clear hSw; go_simp)
 simp only [pt7o_8, oO, Act.put, sA, sB, sC]
 refine ar [9] ?_
 refine ac pt7o_9 (fun K hK => ?_) AllReadyH.nil
 unfold pt7o_9 oN
 have HH := Hn hH2
 clear hH2
 refine wp_storeE 52 _ _ rfl b 2 ([.int .u64 r.x0, .int .u64 r.x1, .int .u64 r.x2, .int .u64 r.x3]) (by rfl) (by rfl) TH.out i4R (one4R r) rfl (fun wn3 hw => ?_)
 have SN := Hn (HH.out.trans (gb_setCells b [.int .u64 r.x0, .int .u64 r.x1, .int .u64 r.x2, .int .u64 r.x3] 2 _))
 have FE := Hn ((⟨_, BB.out, hw⟩ : ∃ wy, Below W.heap.size W wy ∧ _ = wy.setCells b 2 [.int .u64 r.x0, .int .u64 r.x1, .int .u64 r.x2, .int .u64 r.x3]))
 rw [← hw] at SN
 clear HH hw
 refine hK.out _ _ SN.out (fun hH3 => ?_)
 clear hK K SN
 have HH := Hn hH3
 have FQ := Hn (HQ.out _ FE.out)
 refine wpAnyH_done (by kernel_rfl) ?_ _
 refine NoPanic.normal ?_
 exact FQ.out
def pt11o_0 : Oper := oO 43 (Op.move (Operand.tmp 6)) 4 pCsa1 #[]
def pt11o_1 : Oper := oO 44 (Op.unOp UnOp.not 4 (Operand.tmp 43)) 4 pCsa1 #[DD 0]
def pt11o_2 : Oper := oO 45 (Op.move (Operand.tmp 44)) 4 pCsa1 #[DD 1]
def pt11o_3 : Oper := { dst := some 46, op := Op.fieldAddr 116 (Operand.tmp 3) 0, type := 0, pos := "circuit.go:43", after := #[GU 2], guard := some (2, true) }
def pt11o_4 : Oper := { dst := some 47, op := Op.load 67 (Operand.tmp 46), type := 67, pos := "circuit.go:43", after := #[DD 3, GU 2], guard := some (2, true) }
def pt11o_5 : Oper := { dst := some 48, op := Op.move (Operand.tmp 0), type := 72, pos := "circuit.go:43", after := #[GU 2], guard := some (2, true) }
def pt11o_6 : Oper := { dst := some 49, op := Op.move (Operand.tmp 7), type := 3, pos := "circuit.go:43", after := #[GU 2], guard := some (2, true) }
def pt11o_7 : Oper := { dst := some 50, op := Op.indexAddr 72 (Operand.tmp 48) (Operand.tmp 49), type := 0, pos := "circuit.go:43", after := #[DD 5, DD 6, GU 2], guard := some (2, true) }
def pt11o_8 : Oper := { dst := some 51, op := Op.fieldAddr 116 (Operand.tmp 50) 0, type := 0, pos := "circuit.go:43", after := #[DD 7, GU 2], guard := some (2, true) }
def pt11o_9 : Oper := { dst := some 52, op := Op.load 67 (Operand.tmp 51), type := 67, pos := "circuit.go:43", after := #[DD 8, GU 2], guard := some (2, true) }
def pt11o_10 : Oper := { dst := some 53, op := Op.call { callee := Callee.value (Operand.func 125), args := #[Operand.tmp 47, Operand.tmp 52], argTypes := #[67, 67] }, type := 4, pos := "circuit.go:43", after := #[DD 4, DD 9, CH 2, GU 2], guard := some (2, true) }
def pt11o_11 : Oper := oO 54 (Op.pick (Operand.tmp 45) (Operand.tmp 53) (Operand.const (Value.bool false))) 4 pCsa1 #[DD 2, DD 10]
def pt11o : Array Oper := #[pt11o_0, pt11o_1, pt11o_2, pt11o_3, pt11o_4, pt11o_5, pt11o_6, pt11o_7, pt11o_8, pt11o_9, pt11o_10, pt11o_11]
theorem pt11 (Q : Exit → Act → World → Prop) (sb so n c b i : Nat) (tk ti qk qi : Int) (bb : Bool) (u1 u2 u4 u5 u8 u9 aa ab ad ae af ag ah ai aj ak al am an ao ap aq au av aw ax ay az aA aB aC aD aE aF aG aH aI aJ aK aL aM aN aO aP aQ aR aS aT aU aV aW aX aY aZ a4 a5 a6 a7 a8 a9 ba bc bd be bg bh bi bj bk bl bm bn bo bp bq br bs bt bu : Value) (W : World)
  (i0 : (0 : Int) ≤ (i : Int)) (i1 : (i : Int) < (n : Int)) (t0 : W.cell? ⟨b, 0, none⟩ = some (.int .i64 tk)) (t1 : W.cell? ⟨b, 1, none⟩ = some (.int .i64 ti)) (c0 : W.cell? ⟨sb, so + i * 6, none⟩ = some (.int .i64 qk)) (c1 : W.cell? ⟨sb, so + i * 6 + 1, none⟩ = some (.int .i64 qi))
  (C1 : Hid (∀ y, Calls Tryz.prog 125 #[.agg #[.int .i64 tk, .int .i64 ti], .agg #[.int .i64 qk, .int .i64 qi]] y fun e w' => e = .returned (.bool bb) ∧ Below y.heap.size y w'))
  (HQ : Hid (∀ (wz : World), Below W.heap.size W wz → Q .normal ⟨#[.slice (some ⟨sb, so, none⟩) n c, u1, u2, .pointer (some ⟨b, 0, none⟩), u4, u5, .bool false, .int .i64 (i : Int), u8, u9, aa, ab, ad, ae, af, ag, ah, ai, aj, ak, al, am, an, ao, ap, aq, au, av, aw, ax, ay, az, aA, aB, aC, aD, aE, aF, aG, aH, aI, aJ, aK, .bool false, .bool true, .bool true, .pointer (some ⟨b, 0, none⟩), .agg #[.int .i64 tk, .int .i64 ti], .slice (some ⟨sb, so, none⟩) n c, .int .i64 (i : Int), .pointer (some ⟨sb, so + i * 6, none⟩), .pointer (some ⟨sb, so + i * 6, none⟩), .agg #[.int .i64 qk, .int .i64 qi], .bool bb, .bool bb, aX, aY, aZ, a4, a5, a6, a7, a8, a9, ba, bc, bd, be, bg, bh, bi, bj, bk, bl, bm, bn, bo, bp, bq, br, bs, bt, bu], []⟩ wz)) : (Code.region 11 pt11o true).wp Tryz.prog Q ⟨#[.slice (some ⟨sb, so, none⟩) n c, u1, u2, .pointer (some ⟨b, 0, none⟩), u4, u5, .bool false, .int .i64 (i : Int), u8, u9, aa, ab, ad, ae, af, ag, ah, ai, aj, ak, al, am, an, ao, ap, aq, au, av, aw, ax, ay, az, aA, aB, aC, aD, aE, aF, aG, aH, aI, aJ, aK, aL, aM, aN, aO, aP, aQ, aR, aS, aT, aU, aV, aW, aX, aY, aZ, a4, a5, a6, a7, a8, a9, ba, bc, bd, be, bg, bh, bi, bj, bk, bl, bm, bn, bo, bp, bq, br, bs, bt, bu], []⟩ W := by
 unfold pt11o
 refine wp_region_noPanic ?_
 refine wp_region_held_drew (S := fun x => Below W.heap.size W x) (by kernel_rfl) (bl_drew W) (fun hH0 => ?_)
 refine tj 0 pt11o_0 (.bool false) hH0 (fun w0 hSw => ?_) ?_
 ·(unfold pt11o_0 oO; clear hSw; go_simp)
 simp only [pt11o_0, oO, Act.put, sA, sB, sC]
 refine tj 1 pt11o_1 (.bool true) hH0 (fun w0 hSw => ?_) ?_
 ·(unfold pt11o_1 oO; clear hSw; go_simp)
 simp only [pt11o_1, oO, Act.put, sA, sB, sC]
 refine tj 2 pt11o_2 (.bool true) hH0 (fun w0 hSw => ?_) ?_
 ·(unfold pt11o_2 oO; clear hSw; go_simp)
 simp only [pt11o_2, oO, Act.put, sA, sB, sC]
 refine tj 3 pt11o_3 (.pointer (some ⟨b, 0, none⟩)) hH0 (fun w0 hSw => ?_) ?_
 ·(unfold pt11o_3; clear hSw; go_simp)
 simp only [pt11o_3, Act.put, sA, sB, sC]
 refine tj 5 pt11o_5 (.slice (some ⟨sb, so, none⟩) n c) hH0 (fun w0 hSw => ?_) ?_
 ·(unfold pt11o_5; clear hSw; go_simp)
 simp only [pt11o_5, Act.put, sA, sB, sC]
 refine tj 6 pt11o_6 (.int .i64 (i : Int)) hH0 (fun w0 hSw => ?_) ?_
 ·(unfold pt11o_6; clear hSw; go_simp)
 simp only [pt11o_6, Act.put, sA, sB, sC]
 refine tj 4 pt11o_4 (.agg #[.int .i64 tk, .int .i64 ti]) hH0 (fun w0 hSw => ?_) ?_
 ·(unfold pt11o_4; have hS : Below W.heap.size W w0 := hSw; have a0 := cell_keep t0 hS; have a1 := cell_keep t1 hS; clear hS hSw; go_simp)
 simp only [pt11o_4, Act.put, sA, sB, sC]
 refine tj 7 pt11o_7 (.pointer (some ⟨sb, so + i * 6, none⟩)) hH0 (fun w0 hSw => ?_) ?_
 ·(unfold pt11o_7; clear hSw; go_simp)
 simp only [pt11o_7, Act.put, sA, sB, sC]
 refine tj 8 pt11o_8 (.pointer (some ⟨sb, so + i * 6, none⟩)) hH0 (fun w0 hSw => ?_) ?_
 ·(unfold pt11o_8; clear hSw; go_simp)
 simp only [pt11o_8, Act.put, sA, sB, sC]
 refine tj 9 pt11o_9 (.agg #[.int .i64 qk, .int .i64 qi]) hH0 (fun w0 hSw => ?_) ?_
 ·(unfold pt11o_9; have hS : Below W.heap.size W w0 := hSw; have a0 := cell_keep c0 hS; have a1 := cell_keep c1 hS; clear hS hSw; go_simp)
 simp only [pt11o_9, Act.put, sA, sB, sC]
 refine ar [10] ?_
 refine ac pt11o_10 (fun K hK => ?_) AllReadyH.nil
 unfold pt11o_10
 have HH := Hn hH0
 clear hH0
 go_simp
 refine (C1.out _).mono ?_
 rintro e wn1 ⟨rfl, hb⟩
 have SN := Hn (bl_trans HH.out hb)
 clear HH C1 hb
 go_wp2_with fail
 refine hK.out _ _ SN.out (fun hH1 => ?_)
 clear hK K SN
 refine tj 11 pt11o_11 (.bool bb) hH1 (fun w0 hSw => ?_) ?_
 ·(unfold pt11o_11 oO; clear hSw; go_simp)
 simp only [pt11o_11, oO, Act.put, sA, sB, sC]
 have HH := Hn hH1
 have FQ := Hn (HQ.out _ HH.out)
 refine wpAnyH_done (by kernel_rfl) ?_ _
 refine NoPanic.normal ?_
 exact FQ.out
def pt6to_0 : Oper := oO 14 (Op.move (Operand.tmp 6)) 4 pCsa2 #[]
def pt6to_1 : Oper := oO 15 (Op.unOp UnOp.not 4 (Operand.tmp 14)) 4 pCsa2 #[DD 0]
def pt6to_2 : Oper := oO 16 (Op.move (Operand.tmp 15)) 4 pCsa2 #[DD 1]
def pt6to_3 : Oper := { dst := some 17, op := Op.move (Operand.tmp 0), type := 72, pos := "circuit.go:35", after := #[GU 2], guard := some (2, true) }
def pt6to_4 : Oper := { dst := some 18, op := Op.move (Operand.tmp 7), type := 3, pos := "circuit.go:35", after := #[GU 2], guard := some (2, true) }
def pt6to_5 : Oper := { dst := some 19, op := Op.indexAddr 72 (Operand.tmp 17) (Operand.tmp 18), type := 0, pos := "circuit.go:35", after := #[DD 3, DD 4, GU 2], guard := some (2, true) }
def pt6to_6 : Oper := { dst := some 20, op := Op.fieldAddr 116 (Operand.tmp 19) 0, type := 0, pos := "circuit.go:35", after := #[DD 5, GU 2], guard := some (2, true) }
def pt6to_7 : Oper := { dst := some 21, op := Op.load 67 (Operand.tmp 20), type := 67, pos := "circuit.go:35", after := #[DD 6, GU 2], guard := some (2, true) }
def pt6to_8 : Oper := { dst := some 22, op := Op.fieldAddr 116 (Operand.tmp 3) 0, type := 0, pos := "circuit.go:35", after := #[GU 2], guard := some (2, true) }
def pt6to_9 : Oper := { dst := some 23, op := Op.load 67 (Operand.tmp 22), type := 67, pos := "circuit.go:35", after := #[DD 8, GU 2], guard := some (2, true) }
def pt6to_10 : Oper := { dst := some 24, op := Op.binOp BinOp.eql 67 (Operand.tmp 21) (Operand.tmp 23) 67, type := 4, pos := "circuit.go:35", after := #[DD 7, DD 9, GU 2], guard := some (2, true) }
def pt6to_11 : Oper := oO 25 (Op.pick (Operand.tmp 16) (Operand.tmp 24) (Operand.const (Value.bool false))) 4 pCsa2 #[DD 2, DD 10]
def pt6to : Array Oper := #[pt6to_0, pt6to_1, pt6to_2, pt6to_3, pt6to_4, pt6to_5, pt6to_6, pt6to_7, pt6to_8, pt6to_9, pt6to_10, pt6to_11]
theorem pt6t (Q : Exit → Act → World → Prop) (sb so n c b i : Nat) (u1 u2 u4 u5 u8 u9 aa ab ad ae af ag ah ai aj ak al am an ao ap aq au av aw ax ay az aA aB aC aD aE aF aG aH aI aJ aK aL aM aN aO aP aQ aR aS aT aU aV aW aX aY aZ a4 a5 a6 a7 a8 a9 ba bc bd be bg bh bi bj bk bl bm bn bo bp bq br bs bt bu : Value) (W : World)
  
  (HQ : Hid (∀ (wz : World), Below W.heap.size W wz → Q .normal ⟨#[.slice (some ⟨sb, so, none⟩) n c, u1, u2, .pointer (some ⟨b, 0, none⟩), u4, u5, .bool true, .int .i64 (i : Int), u8, u9, aa, ab, ad, ae, .bool true, .bool false, .bool false, undef, undef, undef, undef, undef, undef, undef, undef, .bool false, au, av, aw, ax, ay, az, aA, aB, aC, aD, aE, aF, aG, aH, aI, aJ, aK, aL, aM, aN, aO, aP, aQ, aR, aS, aT, aU, aV, aW, aX, aY, aZ, a4, a5, a6, a7, a8, a9, ba, bc, bd, be, bg, bh, bi, bj, bk, bl, bm, bn, bo, bp, bq, br, bs, bt, bu], []⟩ wz)) : (Code.region 6 pt6to true).wp Tryz.prog Q ⟨#[.slice (some ⟨sb, so, none⟩) n c, u1, u2, .pointer (some ⟨b, 0, none⟩), u4, u5, .bool true, .int .i64 (i : Int), u8, u9, aa, ab, ad, ae, af, ag, ah, ai, aj, ak, al, am, an, ao, ap, aq, au, av, aw, ax, ay, az, aA, aB, aC, aD, aE, aF, aG, aH, aI, aJ, aK, aL, aM, aN, aO, aP, aQ, aR, aS, aT, aU, aV, aW, aX, aY, aZ, a4, a5, a6, a7, a8, a9, ba, bc, bd, be, bg, bh, bi, bj, bk, bl, bm, bn, bo, bp, bq, br, bs, bt, bu], []⟩ W := by
 unfold pt6to
 refine wp_region_noPanic ?_
 refine wp_region_held_drew (S := fun x => Below W.heap.size W x) (by kernel_rfl) (bl_drew W) (fun hH0 => ?_)
 refine tj 0 pt6to_0 (.bool true) hH0 (fun w0 hSw => ?_) ?_
 ·(unfold pt6to_0 oO; clear hSw; go_simp)
 simp only [pt6to_0, oO, Act.put, sA, sB, sC]
 refine tj 1 pt6to_1 (.bool false) hH0 (fun w0 hSw => ?_) ?_
 ·(unfold pt6to_1 oO; clear hSw; go_simp)
 simp only [pt6to_1, oO, Act.put, sA, sB, sC]
 refine tj 2 pt6to_2 (.bool false) hH0 (fun w0 hSw => ?_) ?_
 ·(unfold pt6to_2 oO; clear hSw; go_simp)
 simp only [pt6to_2, oO, Act.put, sA, sB, sC]
 refine wpAnyH_take (i := 3) (oi := pt6to_3) (v := undef) rfl (by kernel_rfl) (by kernel_rfl) (by kernel_rfl) (fun _ _ _ h => h) (Or.inr ⟨by rfl, rfl⟩) hH0 ?_
 simp only [pt6to_3, Act.put, sA, sB, sC]
 refine wpAnyH_take (i := 4) (oi := pt6to_4) (v := undef) rfl (by kernel_rfl) (by kernel_rfl) (by kernel_rfl) (fun _ _ _ h => h) (Or.inr ⟨by rfl, rfl⟩) hH0 ?_
 simp only [pt6to_4, Act.put, sA, sB, sC]
 refine wpAnyH_take (i := 8) (oi := pt6to_8) (v := undef) rfl (by kernel_rfl) (by kernel_rfl) (by kernel_rfl) (fun _ _ _ h => h) (Or.inr ⟨by rfl, rfl⟩) hH0 ?_
 simp only [pt6to_8, Act.put, sA, sB, sC]
 refine wpAnyH_take (i := 5) (oi := pt6to_5) (v := undef) rfl (by kernel_rfl) (by kernel_rfl) (by kernel_rfl) (fun _ _ _ h => h) (Or.inr ⟨by rfl, rfl⟩) hH0 ?_
 simp only [pt6to_5, Act.put, sA, sB, sC]
 refine wpAnyH_take (i := 9) (oi := pt6to_9) (v := undef) rfl (by kernel_rfl) (by kernel_rfl) (by kernel_rfl) (fun _ _ _ h => h) (Or.inr ⟨by rfl, rfl⟩) hH0 ?_
 simp only [pt6to_9, Act.put, sA, sB, sC]
 refine wpAnyH_take (i := 6) (oi := pt6to_6) (v := undef) rfl (by kernel_rfl) (by kernel_rfl) (by kernel_rfl) (fun _ _ _ h => h) (Or.inr ⟨by rfl, rfl⟩) hH0 ?_
 simp only [pt6to_6, Act.put, sA, sB, sC]
 refine wpAnyH_take (i := 7) (oi := pt6to_7) (v := undef) rfl (by kernel_rfl) (by kernel_rfl) (by kernel_rfl) (fun _ _ _ h => h) (Or.inr ⟨by rfl, rfl⟩) hH0 ?_
 simp only [pt6to_7, Act.put, sA, sB, sC]
 refine wpAnyH_take (i := 10) (oi := pt6to_10) (v := undef) rfl (by kernel_rfl) (by kernel_rfl) (by kernel_rfl) (fun _ _ _ h => h) (Or.inr ⟨by rfl, rfl⟩) hH0 ?_
 simp only [pt6to_10, Act.put, sA, sB, sC]
 refine tj 11 pt6to_11 (.bool false) hH0 (fun w0 hSw => ?_) ?_
 ·(unfold pt6to_11 oO; clear hSw; go_simp)
 simp only [pt6to_11, oO, Act.put, sA, sB, sC]
 have HH := Hn hH0
 have FQ := Hn (HQ.out _ HH.out)
 refine wpAnyH_done (by kernel_rfl) ?_ _
 refine NoPanic.normal ?_
 exact FQ.out
def pt6fo : Array Oper := #[pt6to_0,
 pt6to_1,
 pt6to_2,
 pt6to_3,
 pt6to_4,
 pt6to_5,
 pt6to_6,
 pt6to_7,
 pt6to_8,
 pt6to_9,
 pt6to_10,
 pt6to_11]
theorem pt6f (Q : Exit → Act → World → Prop) (sb so n c b i : Nat) (tk ti qk qi : Int) (bb : Bool) (u1 u2 u4 u5 u8 u9 aa ab ad ae af ag ah ai aj ak al am an ao ap aq au av aw ax ay az aA aB aC aD aE aF aG aH aI aJ aK aL aM aN aO aP aQ aR aS aT aU aV aW aX aY aZ a4 a5 a6 a7 a8 a9 ba bc bd be bg bh bi bj bk bl bm bn bo bp bq br bs bt bu : Value) (W : World)
  (i0 : (0 : Int) ≤ (i : Int)) (i1 : (i : Int) < (n : Int)) (t0 : W.cell? ⟨b, 0, none⟩ = some (.int .i64 tk)) (t1 : W.cell? ⟨b, 1, none⟩ = some (.int .i64 ti)) (c0 : W.cell? ⟨sb, so + i * 6, none⟩ = some (.int .i64 qk)) (c1 : W.cell? ⟨sb, so + i * 6 + 1, none⟩ = some (.int .i64 qi))
  (EQ : Hid (bb = decide ((qk, qi) = (tk, ti))))
  (HQ : Hid (∀ (wz : World), Below W.heap.size W wz → Q .normal ⟨#[.slice (some ⟨sb, so, none⟩) n c, u1, u2, .pointer (some ⟨b, 0, none⟩), u4, u5, .bool false, .int .i64 (i : Int), u8, u9, aa, ab, ad, ae, .bool false, .bool true, .bool true, .slice (some ⟨sb, so, none⟩) n c, .int .i64 (i : Int), .pointer (some ⟨sb, so + i * 6, none⟩), .pointer (some ⟨sb, so + i * 6, none⟩), .agg #[.int .i64 qk, .int .i64 qi], .pointer (some ⟨b, 0, none⟩), .agg #[.int .i64 tk, .int .i64 ti], .bool bb, .bool bb, au, av, aw, ax, ay, az, aA, aB, aC, aD, aE, aF, aG, aH, aI, aJ, aK, aL, aM, aN, aO, aP, aQ, aR, aS, aT, aU, aV, aW, aX, aY, aZ, a4, a5, a6, a7, a8, a9, ba, bc, bd, be, bg, bh, bi, bj, bk, bl, bm, bn, bo, bp, bq, br, bs, bt, bu], []⟩ wz)) : (Code.region 6 pt6fo true).wp Tryz.prog Q ⟨#[.slice (some ⟨sb, so, none⟩) n c, u1, u2, .pointer (some ⟨b, 0, none⟩), u4, u5, .bool false, .int .i64 (i : Int), u8, u9, aa, ab, ad, ae, af, ag, ah, ai, aj, ak, al, am, an, ao, ap, aq, au, av, aw, ax, ay, az, aA, aB, aC, aD, aE, aF, aG, aH, aI, aJ, aK, aL, aM, aN, aO, aP, aQ, aR, aS, aT, aU, aV, aW, aX, aY, aZ, a4, a5, a6, a7, a8, a9, ba, bc, bd, be, bg, bh, bi, bj, bk, bl, bm, bn, bo, bp, bq, br, bs, bt, bu], []⟩ W := by
 unfold pt6fo
 refine wp_region_noPanic ?_
 refine wp_region_held_drew (S := fun x => Below W.heap.size W x) (by kernel_rfl) (bl_drew W) (fun hH0 => ?_)
 refine tj 0 pt6to_0 (.bool false) hH0 (fun w0 hSw => ?_) ?_
 ·(unfold pt6to_0 oO; clear hSw; go_simp)
 simp only [pt6to_0, oO, Act.put, sA, sB, sC]
 refine tj 1 pt6to_1 (.bool true) hH0 (fun w0 hSw => ?_) ?_
 ·(unfold pt6to_1 oO; clear hSw; go_simp)
 simp only [pt6to_1, oO, Act.put, sA, sB, sC]
 refine tj 2 pt6to_2 (.bool true) hH0 (fun w0 hSw => ?_) ?_
 ·(unfold pt6to_2 oO; clear hSw; go_simp)
 simp only [pt6to_2, oO, Act.put, sA, sB, sC]
 refine tj 3 pt6to_3 (.slice (some ⟨sb, so, none⟩) n c) hH0 (fun w0 hSw => ?_) ?_
 ·(unfold pt6to_3; clear hSw; go_simp)
 simp only [pt6to_3, Act.put, sA, sB, sC]
 refine tj 4 pt6to_4 (.int .i64 (i : Int)) hH0 (fun w0 hSw => ?_) ?_
 ·(unfold pt6to_4; clear hSw; go_simp)
 simp only [pt6to_4, Act.put, sA, sB, sC]
 refine tj 8 pt6to_8 (.pointer (some ⟨b, 0, none⟩)) hH0 (fun w0 hSw => ?_) ?_
 ·(unfold pt6to_8; clear hSw; go_simp)
 simp only [pt6to_8, Act.put, sA, sB, sC]
 refine tj 5 pt6to_5 (.pointer (some ⟨sb, so + i * 6, none⟩)) hH0 (fun w0 hSw => ?_) ?_
 ·(unfold pt6to_5; clear hSw; go_simp)
 simp only [pt6to_5, Act.put, sA, sB, sC]
 refine tj 9 pt6to_9 (.agg #[.int .i64 tk, .int .i64 ti]) hH0 (fun w0 hSw => ?_) ?_
 ·(unfold pt6to_9; have hS : Below W.heap.size W w0 := hSw; have a0 := cell_keep t0 hS; have a1 := cell_keep t1 hS; clear hS hSw; go_simp)
 simp only [pt6to_9, Act.put, sA, sB, sC]
 refine tj 6 pt6to_6 (.pointer (some ⟨sb, so + i * 6, none⟩)) hH0 (fun w0 hSw => ?_) ?_
 ·(unfold pt6to_6; clear hSw; go_simp)
 simp only [pt6to_6, Act.put, sA, sB, sC]
 refine tj 7 pt6to_7 (.agg #[.int .i64 qk, .int .i64 qi]) hH0 (fun w0 hSw => ?_) ?_
 ·(unfold pt6to_7; have hS : Below W.heap.size W w0 := hSw; have a0 := cell_keep c0 hS; have a1 := cell_keep c1 hS; clear hS hSw; go_simp)
 simp only [pt6to_7, Act.put, sA, sB, sC]
 refine tj 10 pt6to_10 (.bool bb) hH0 (fun w0 hSw => ?_) ?_
 ·(unfold pt6to_10; clear hSw; go_simp; rw [EQ.out]; by_cases h1 : qk = tk <;> by_cases h2 : qi = ti <;> simp [h1, h2])
 simp only [pt6to_10, Act.put, sA, sB, sC]
 refine tj 11 pt6to_11 (.bool bb) hH0 (fun w0 hSw => ?_) ?_
 ·(unfold pt6to_11 oO; clear hSw; go_simp)
 simp only [pt6to_11, oO, Act.put, sA, sB, sC]
 have HH := Hn hH0
 have FQ := Hn (HQ.out _ HH.out)
 refine wpAnyH_done (by kernel_rfl) ?_ _
 refine NoPanic.normal ?_
 exact FQ.out
def pt11to : Array Oper := #[pt11o_0,
 pt11o_1,
 pt11o_2,
 pt11o_3,
 pt11o_4,
 pt11o_5,
 pt11o_6,
 pt11o_7,
 pt11o_8,
 pt11o_9,
 pt11o_10,
 pt11o_11]
theorem pt11t (Q : Exit → Act → World → Prop) (sb so n c b i : Nat) (u1 u2 u4 u5 u8 u9 aa ab ad ae af ag ah ai aj ak al am an ao ap aq au av aw ax ay az aA aB aC aD aE aF aG aH aI aJ aK aL aM aN aO aP aQ aR aS aT aU aV aW aX aY aZ a4 a5 a6 a7 a8 a9 ba bc bd be bg bh bi bj bk bl bm bn bo bp bq br bs bt bu : Value) (W : World)
  
  (HQ : Hid (∀ (wz : World), Below W.heap.size W wz → Q .normal ⟨#[.slice (some ⟨sb, so, none⟩) n c, u1, u2, .pointer (some ⟨b, 0, none⟩), u4, u5, .bool true, .int .i64 (i : Int), u8, u9, aa, ab, ad, ae, af, ag, ah, ai, aj, ak, al, am, an, ao, ap, aq, au, av, aw, ax, ay, az, aA, aB, aC, aD, aE, aF, aG, aH, aI, aJ, aK, .bool true, .bool false, .bool false, undef, undef, undef, undef, undef, undef, undef, undef, .bool false, aX, aY, aZ, a4, a5, a6, a7, a8, a9, ba, bc, bd, be, bg, bh, bi, bj, bk, bl, bm, bn, bo, bp, bq, br, bs, bt, bu], []⟩ wz)) : (Code.region 11 pt11to true).wp Tryz.prog Q ⟨#[.slice (some ⟨sb, so, none⟩) n c, u1, u2, .pointer (some ⟨b, 0, none⟩), u4, u5, .bool true, .int .i64 (i : Int), u8, u9, aa, ab, ad, ae, af, ag, ah, ai, aj, ak, al, am, an, ao, ap, aq, au, av, aw, ax, ay, az, aA, aB, aC, aD, aE, aF, aG, aH, aI, aJ, aK, aL, aM, aN, aO, aP, aQ, aR, aS, aT, aU, aV, aW, aX, aY, aZ, a4, a5, a6, a7, a8, a9, ba, bc, bd, be, bg, bh, bi, bj, bk, bl, bm, bn, bo, bp, bq, br, bs, bt, bu], []⟩ W := by
 unfold pt11to
 refine wp_region_noPanic ?_
 refine wp_region_held_drew (S := fun x => Below W.heap.size W x) (by kernel_rfl) (bl_drew W) (fun hH0 => ?_)
 refine tj 0 pt11o_0 (.bool true) hH0 (fun w0 hSw => ?_) ?_
 ·(unfold pt11o_0 oO; clear hSw; go_simp)
 simp only [pt11o_0, oO, Act.put, sA, sB, sC]
 refine tj 1 pt11o_1 (.bool false) hH0 (fun w0 hSw => ?_) ?_
 ·(unfold pt11o_1 oO; clear hSw; go_simp)
 simp only [pt11o_1, oO, Act.put, sA, sB, sC]
 refine tj 2 pt11o_2 (.bool false) hH0 (fun w0 hSw => ?_) ?_
 ·(unfold pt11o_2 oO; clear hSw; go_simp)
 simp only [pt11o_2, oO, Act.put, sA, sB, sC]
 refine wpAnyH_take (i := 3) (oi := pt11o_3) (v := undef) rfl (by kernel_rfl) (by kernel_rfl) (by kernel_rfl) (fun _ _ _ h => h) (Or.inr ⟨by rfl, rfl⟩) hH0 ?_
 simp only [pt11o_3, Act.put, sA, sB, sC]
 refine wpAnyH_take (i := 5) (oi := pt11o_5) (v := undef) rfl (by kernel_rfl) (by kernel_rfl) (by kernel_rfl) (fun _ _ _ h => h) (Or.inr ⟨by rfl, rfl⟩) hH0 ?_
 simp only [pt11o_5, Act.put, sA, sB, sC]
 refine wpAnyH_take (i := 6) (oi := pt11o_6) (v := undef) rfl (by kernel_rfl) (by kernel_rfl) (by kernel_rfl) (fun _ _ _ h => h) (Or.inr ⟨by rfl, rfl⟩) hH0 ?_
 simp only [pt11o_6, Act.put, sA, sB, sC]
 refine wpAnyH_take (i := 4) (oi := pt11o_4) (v := undef) rfl (by kernel_rfl) (by kernel_rfl) (by kernel_rfl) (fun _ _ _ h => h) (Or.inr ⟨by rfl, rfl⟩) hH0 ?_
 simp only [pt11o_4, Act.put, sA, sB, sC]
 refine wpAnyH_take (i := 7) (oi := pt11o_7) (v := undef) rfl (by kernel_rfl) (by kernel_rfl) (by kernel_rfl) (fun _ _ _ h => h) (Or.inr ⟨by rfl, rfl⟩) hH0 ?_
 simp only [pt11o_7, Act.put, sA, sB, sC]
 refine wpAnyH_take (i := 8) (oi := pt11o_8) (v := undef) rfl (by kernel_rfl) (by kernel_rfl) (by kernel_rfl) (fun _ _ _ h => h) (Or.inr ⟨by rfl, rfl⟩) hH0 ?_
 simp only [pt11o_8, Act.put, sA, sB, sC]
 refine wpAnyH_take (i := 9) (oi := pt11o_9) (v := undef) rfl (by kernel_rfl) (by kernel_rfl) (by kernel_rfl) (fun _ _ _ h => h) (Or.inr ⟨by rfl, rfl⟩) hH0 ?_
 simp only [pt11o_9, Act.put, sA, sB, sC]
 refine ar [10] ?_
 refine ac pt11o_10 (fun K hK => ?_) AllReadyH.nil
 unfold pt11o_10
 refine Eq.mpr (if_neg (by exact fun h => Bool.false_ne_true h)) ?_
 refine hK.out _ _ hH0 (fun hzz => ?_)
 clear hK K hzz
 simp only [Act.put, sA, sB, sC]
 refine tj 11 pt11o_11 (.bool false) hH0 (fun w0 hSw => ?_) ?_
 ·(unfold pt11o_11 oO; clear hSw; go_simp)
 simp only [pt11o_11, oO, Act.put, sA, sB, sC]
 have HH := Hn hH0
 have FQ := Hn (HQ.out _ HH.out)
 refine wpAnyH_done (by kernel_rfl) ?_ _
 refine NoPanic.normal ?_
 exact FQ.out
end Ci
end Go.Proofs.YtghcfcglakbkeaaGreatDoor
