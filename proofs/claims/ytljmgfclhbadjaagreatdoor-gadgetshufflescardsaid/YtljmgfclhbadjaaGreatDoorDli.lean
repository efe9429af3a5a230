import Derived.Test.YtljmgfclhbadjaaGreatDoorTk
import Derived.Test.YtljmgfclhbadjaaGreatDoorDfz
namespace Go.Proofs.YtljmgfclhbadjaaGreatDoor
set_option maxRecDepth 100000
set_option maxHeartbeats 16000000
open Go.RowKit
set_option linter.unusedVariables false
set_option linter.unusedSimpArgs false
open Cm (Wr Tm co bf Ls lf ins Eqm)
namespace Ci
theorem AgP.gs {S : Nat → Prop} {b : Nat} {R : Nat → Sl} {l r : E4} {x y : World} (h : AgP S b R l r x y) : Gs S x y := by
 obtain ⟨S', p0, c0, p1, c1, p2, c2, h1, h2, h3⟩ := h
 exact h2
theorem loadF2 (w : World) (b o c : Nat) (hc : w.cell? ⟨b, o, none⟩ = some (.func (.func 139) #[] #[.pointer (some ⟨c, 0, none⟩)])) : (loadVar 106 ⟨b, o, none⟩).run Tryz.prog w = .ok (.func (.func 139) #[] #[.pointer (some ⟨c, 0, none⟩)]) w := by
 have ha : (isAgg 106).run Tryz.prog w = .ok false w := by kernel_rfl
 unfold loadVar
 simp only [Sem.run_bind, ha, Result.andThen_ok, Bool.false_eq_true, if_false]
 simp [go_sem, hc]
theorem wp_ldF2 {w : World} {o : Oper} {a : Act} {K : Act → World → Prop} {Q : Exit → Act → World → Prop} (x0 : Operand) (ho : o.op = .load 106 x0) (b j c : Nat) (h0 : a.eval x0 = .pointer (some ⟨b, j, none⟩)) (hc : w.cell? ⟨b, j, none⟩ = some (.func (.func 139) #[] #[.pointer (some ⟨c, 0, none⟩)])) (h : K (a.put o.dst (.func (.func 139) #[] #[.pointer (some ⟨c, 0, none⟩)])) w) : o.wp Tryz.prog a w K Q := by
 have hr := loadF2 w b j c hc
 unfold Oper.wp execOp
 simp only [ho, h0, Instr.loadAt, Instr.sureAddr, Sem.run_bind, Sem.run_pure, Result.andThen_ok, hr]
 exact h
def Zn (B : Nat) (x : World) (v : Value) (X : List Tm) : Prop := x.ownsRow B 55 6 v X.length (tls X) ∧ Ls Sm.L X
theorem Zn.of {B : Nat} {x y : World} {v : Value} {X : List Tm} (h : Lq x X v y) (hb : B ≤ x.heap.size) : Zn B y v X := ⟨own_monoT h.1 hb, h.2.2⟩
theorem Zn.keep {B : Nat} {x y : World} {v : Value} {X : List Tm} (h : Zn B x v X) (hb : Below x.heap.size x y) : Zn B y v X := ⟨own_keepT h.1 hb, h.2⟩
def mp5o_0 : Oper := oO 42 (Op.move (Operand.tmp 0)) 33 "piece.go:80" #[]
def mp5o_1 : Oper := oO 43 (Op.nilCheck (Operand.tmp 42)) 0 "piece.go:80" #[DD 0]
def mp5o_2 : Oper := oO 44 (Op.fieldAddr 111 (Operand.tmp 43) 1) 0 "piece.go:80" #[DD 1]
def mp5o_3 : Oper := oO 45 (Op.fieldAddr 109 (Operand.tmp 44) 1) 0 "piece.go:80" #[DD 2]
def mp5o_4 : Oper := oO 46 (Op.load 106 (Operand.tmp 45)) 106 "piece.go:80" #[DD 3]
def mp5o_5 : Oper := oO 47 (Op.load 53 (Operand.tmp 7)) 53 "piece.go:80" #[]
def mp5o_6 : Oper := oO 48 (Op.load 53 (Operand.tmp 9)) 53 "piece.go:80" #[]
def mp5o_7 : Oper := oO 49 (Op.call { callee := Callee.value (Operand.tmp 46), args := #[Operand.tmp 47, Operand.tmp 48], argTypes := #[53, 53] }) 0 "piece.go:80" #[DD 4, DD 5, DD 6]
def mp5o : Array Oper := #[mp5o_0, mp5o_1, mp5o_2, mp5o_3, mp5o_4, mp5o_5, mp5o_6, mp5o_7]
theorem mp5 (Q : Exit → Act → World → Prop) (S : Nat → Prop) (d b xa xc : Nat) (l r : E4) (R : Nat → Sl) (u1 u2 u3 u4 u5 u6 u8 aa ab ad ae af ag ah ai aj ak al am an ao ap aq au av aw ax ay az aA aB aC aD aE aF aG aH aI aJ aK aL aM aN aO aP aQ aR aS aT : Value) (W : World)
  (q00 : W.cell? ⟨xa, 0, none⟩ = some (.int .u64 l.x0)) (q01 : W.cell? ⟨xa, 1, none⟩ = some (.int .u64 l.x1)) (q02 : W.cell? ⟨xa, 2, none⟩ = some (.int .u64 l.x2)) (q03 : W.cell? ⟨xa, 3, none⟩ = some (.int .u64 l.x3)) (q10 : W.cell? ⟨xc, 0, none⟩ = some (.int .u64 r.x0)) (q11 : W.cell? ⟨xc, 1, none⟩ = some (.int .u64 r.x1)) (q12 : W.cell? ⟨xc, 2, none⟩ = some (.int .u64 r.x2)) (q13 : W.cell? ⟨xc, 3, none⟩ = some (.int .u64 r.x3)) (cb : W.cell? ⟨d, 2, none⟩ = some (.func (.func 139) #[] #[.pointer (some ⟨b, 0, none⟩)])) (na : Hid (¬ S xa)) (nc : Hid (¬ S xc))
  (CM : Hid (Calls Tryz.prog 139 #[.agg #[.int .u64 l.x0, .int .u64 l.x1, .int .u64 l.x2, .int .u64 l.x3], .agg #[.int .u64 r.x0, .int .u64 r.x1, .int .u64 r.x2, .int .u64 r.x3], .pointer (some ⟨b, 0, none⟩)] W.drew fun e w' => e = .returned (.tuple #[]) ∧ AgP S b R l r W.drew w'))
  (HQ : Hid (∀ (wz : World), AgP S b R l r W.drew wz → Q .normal ⟨#[.pointer (some ⟨d, 0, none⟩), u1, u2, u3, u4, u5, u6, .pointer (some ⟨xa, 0, none⟩), u8, .pointer (some ⟨xc, 0, none⟩), aa, ab, ad, ae, af, ag, ah, ai, aj, ak, al, am, an, ao, ap, aq, au, av, aw, ax, ay, az, aA, aB, aC, aD, aE, aF, aG, aH, aI, aJ, .pointer (some ⟨d, 0, none⟩), .pointer (some ⟨d, 0, none⟩), .pointer (some ⟨d, 1, none⟩), .pointer (some ⟨d, 2, none⟩), .func (.func 139) #[] #[.pointer (some ⟨b, 0, none⟩)], .agg #[.int .u64 l.x0, .int .u64 l.x1, .int .u64 l.x2, .int .u64 l.x3], .agg #[.int .u64 r.x0, .int .u64 r.x1, .int .u64 r.x2, .int .u64 r.x3], .tuple #[], aS, aT], []⟩ wz)) : (Code.region 5 mp5o true).wp Tryz.prog Q ⟨#[.pointer (some ⟨d, 0, none⟩), u1, u2, u3, u4, u5, u6, .pointer (some ⟨xa, 0, none⟩), u8, .pointer (some ⟨xc, 0, none⟩), aa, ab, ad, ae, af, ag, ah, ai, aj, ak, al, am, an, ao, ap, aq, au, av, aw, ax, ay, az, aA, aB, aC, aD, aE, aF, aG, aH, aI, aJ, aK, aL, aM, aN, aO, aP, aQ, aR, aS, aT], []⟩ W := by
 have CB := Hn (cell_keep cb (bl_drew W))
 clear cb
 unfold mp5o
 refine wp_region_noPanic ?_
 refine wp_region_held_drew (S := fun x => x.cell? ⟨xa, 0, none⟩ = some (.int .u64 l.x0) ∧ x.cell? ⟨xa, 1, none⟩ = some (.int .u64 l.x1) ∧ x.cell? ⟨xa, 2, none⟩ = some (.int .u64 l.x2) ∧ x.cell? ⟨xa, 3, none⟩ = some (.int .u64 l.x3) ∧ x.cell? ⟨xc, 0, none⟩ = some (.int .u64 r.x0) ∧ x.cell? ⟨xc, 1, none⟩ = some (.int .u64 r.x1) ∧ x.cell? ⟨xc, 2, none⟩ = some (.int .u64 r.x2) ∧ x.cell? ⟨xc, 3, none⟩ = some (.int .u64 r.x3)) (by kernel_rfl) (⟨cell_keep q00 (bl_drew W), cell_keep q01 (bl_drew W), cell_keep q02 (bl_drew W), cell_keep q03 (bl_drew W), cell_keep q10 (bl_drew W), cell_keep q11 (bl_drew W), cell_keep q12 (bl_drew W), cell_keep q13 (bl_drew W)⟩) (fun hH0 => ?_)
 refine tj 0 mp5o_0 (.pointer (some ⟨d, 0, none⟩)) hH0 (fun w0 hSw => ?_) ?_
 ·(unfold mp5o_0 oO; clear hSw; go_simp)
 simp only [mp5o_0, oO, Act.put, sA, sB, sC]
 refine tj 5 mp5o_5 (.agg #[.int .u64 l.x0, .int .u64 l.x1, .int .u64 l.x2, .int .u64 l.x3]) hH0 (fun w0 hSw => ?_) ?_
 ·(unfold mp5o_5 oO; have hS : w0.cell? ⟨xa, 0, none⟩ = some (.int .u64 l.x0) ∧ w0.cell? ⟨xa, 1, none⟩ = some (.int .u64 l.x1) ∧ w0.cell? ⟨xa, 2, none⟩ = some (.int .u64 l.x2) ∧ w0.cell? ⟨xa, 3, none⟩ = some (.int .u64 l.x3) ∧ w0.cell? ⟨xc, 0, none⟩ = some (.int .u64 r.x0) ∧ w0.cell? ⟨xc, 1, none⟩ = some (.int .u64 r.x1) ∧ w0.cell? ⟨xc, 2, none⟩ = some (.int .u64 r.x2) ∧ w0.cell? ⟨xc, 3, none⟩ = some (.int .u64 r.x3) := hSw; have a0 := hS.1; have a1 := hS.2.1; have a2 := hS.2.2.1; have a3 := hS.2.2.2.1; clear hS hSw; go_simp)
 simp only [mp5o_5, oO, Act.put, sA, sB, sC]
 refine tj 6 mp5o_6 (.agg #[.int .u64 r.x0, .int .u64 r.x1, .int .u64 r.x2, .int .u64 r.x3]) hH0 (fun w0 hSw => ?_) ?_
 ·(unfold mp5o_6 oO; have hS : w0.cell? ⟨xa, 0, none⟩ = some (.int .u64 l.x0) ∧ w0.cell? ⟨xa, 1, none⟩ = some (.int .u64 l.x1) ∧ w0.cell? ⟨xa, 2, none⟩ = some (.int .u64 l.x2) ∧ w0.cell? ⟨xa, 3, none⟩ = some (.int .u64 l.x3) ∧ w0.cell? ⟨xc, 0, none⟩ = some (.int .u64 r.x0) ∧ w0.cell? ⟨xc, 1, none⟩ = some (.int .u64 r.x1) ∧ w0.cell? ⟨xc, 2, none⟩ = some (.int .u64 r.x2) ∧ w0.cell? ⟨xc, 3, none⟩ = some (.int .u64 r.x3) := hSw; have a0 := hS.2.2.2.2.1; have a1 := hS.2.2.2.2.2.1; have a2 := hS.2.2.2.2.2.2.1; have a3 := hS.2.2.2.2.2.2.2; clear hS hSw; go_simp)
 simp only [mp5o_6, oO, Act.put, sA, sB, sC]
 refine tj 1 mp5o_1 (.pointer (some ⟨d, 0, none⟩)) hH0 (fun w0 hSw => ?_) ?_
 ·(unfold mp5o_1 oO; clear hSw; go_simp)
 simp only [mp5o_1, oO, Act.put, sA, sB, sC]
 refine tj 2 mp5o_2 (.pointer (some ⟨d, 1, none⟩)) hH0 (fun w0 hSw => ?_) ?_
 ·(unfold mp5o_2 oO; clear hSw; go_simp)
 simp only [mp5o_2, oO, Act.put, sA, sB, sC]
 refine tj 3 mp5o_3 (.pointer (some ⟨d, 2, none⟩)) hH0 (fun w0 hSw => ?_) ?_
 ·(unfold mp5o_3 oO; clear hSw; go_simp)
 simp only [mp5o_3, oO, Act.put, sA, sB, sC]
 refine ar [4] ?_
 refine ac mp5o_4 (fun K hK => ?_) AllReadyH.nil
 unfold mp5o_4 oO
 have HH := Hn hH0
 clear hH0
 refine wp_ldF2 _ rfl d 2 b rfl CB.out ?_
 simp only [Act.put, sA, sB, sC]
 have SN := HH
 clear HH
 refine hK.out _ _ SN.out (fun hH1 => ?_)
 clear hK K SN
 refine ar [7] ?_
 refine ac mp5o_7 (fun K hK => ?_) AllReadyH.nil
 unfold mp5o_7 oO
 have HH := Hn hH1
 clear hH1
 go_simp
 refine (CM.out).mono ?_
 rintro e wn2 ⟨rfl, hag⟩
 have SN := Hn (And.intro (hag.gs.cell HH.out.1 na.out) (And.intro (hag.gs.cell HH.out.2.1 na.out) (And.intro (hag.gs.cell HH.out.2.2.1 na.out) (And.intro (hag.gs.cell HH.out.2.2.2.1 na.out) (And.intro (hag.gs.cell HH.out.2.2.2.2.1 nc.out) (And.intro (hag.gs.cell HH.out.2.2.2.2.2.1 nc.out) (And.intro (hag.gs.cell HH.out.2.2.2.2.2.2.1 nc.out) (hag.gs.cell HH.out.2.2.2.2.2.2.2 nc.out))))))))
 have FE := Hn (hag)
 clear HH CM hag
 go_wp2_with fail
 refine hK.out _ _ SN.out (fun hH2 => ?_)
 clear hK K SN
 have HH := Hn hH2
 have FQ := Hn (HQ.out _ FE.out)
 refine wpAnyH_done (by kernel_rfl) ?_ _
 refine NoPanic.normal ?_
 exact FQ.out
def fr3o_0 : Oper := oO 26 (Op.move (Operand.tmp 0)) 33 "piece.go:88" #[]
def fr3o_1 : Oper := oO 27 (Op.nilCheck (Operand.tmp 26)) 0 "piece.go:88" #[DD 0]
def fr3o_2 : Oper := oO 28 (Op.fieldAddr 111 (Operand.tmp 27) 1) 0 "piece.go:88" #[DD 1]
def fr3o_3 : Oper := oO 29 (Op.fieldAddr 109 (Operand.tmp 28) 1) 0 "piece.go:88" #[DD 2]
def fr3o_4 : Oper := oO 30 (Op.load 106 (Operand.tmp 29)) 106 "piece.go:88" #[DD 3]
def fr3o_5 : Oper := oO 31 (Op.load 53 (Operand.tmp 4)) 53 "piece.go:88" #[]
def fr3o_6 : Oper := oO 32 (Op.load 53 (Operand.tmp 5)) 53 "piece.go:88" #[]
def fr3o_7 : Oper := oO 33 (Op.call { callee := Callee.value (Operand.tmp 30), args := #[Operand.tmp 31, Operand.tmp 32], argTypes := #[53, 53] }) 0 "piece.go:88" #[DD 4, DD 5, DD 6]
def fr3o : Array Oper := #[fr3o_0, fr3o_1, fr3o_2, fr3o_3, fr3o_4, fr3o_5, fr3o_6, fr3o_7]
theorem fr3 (Q : Exit → Act → World → Prop) (S : Nat → Prop) (d b xa xc : Nat) (l r : E4) (R : Nat → Sl) (u1 u2 u3 u6 u7 u8 u9 aa ab ad ae af ag ah ai aj ak al am an ao ap aq au av aw ax ay az aA aB aC aD aE aF aG aH : Value) (W : World)
  (q00 : W.cell? ⟨xa, 0, none⟩ = some (.int .u64 l.x0)) (q01 : W.cell? ⟨xa, 1, none⟩ = some (.int .u64 l.x1)) (q02 : W.cell? ⟨xa, 2, none⟩ = some (.int .u64 l.x2)) (q03 : W.cell? ⟨xa, 3, none⟩ = some (.int .u64 l.x3)) (q10 : W.cell? ⟨xc, 0, none⟩ = some (.int .u64 r.x0)) (q11 : W.cell? ⟨xc, 1, none⟩ = some (.int .u64 r.x1)) (q12 : W.cell? ⟨xc, 2, none⟩ = some (.int .u64 r.x2)) (q13 : W.cell? ⟨xc, 3, none⟩ = some (.int .u64 r.x3)) (cb : W.cell? ⟨d, 2, none⟩ = some (.func (.func 139) #[] #[.pointer (some ⟨b, 0, none⟩)])) (na : Hid (¬ S xa)) (nc : Hid (¬ S xc))
  (CM : Hid (Calls Tryz.prog 139 #[.agg #[.int .u64 l.x0, .int .u64 l.x1, .int .u64 l.x2, .int .u64 l.x3], .agg #[.int .u64 r.x0, .int .u64 r.x1, .int .u64 r.x2, .int .u64 r.x3], .pointer (some ⟨b, 0, none⟩)] W.drew fun e w' => e = .returned (.tuple #[]) ∧ AgP S b R l r W.drew w'))
  (HQ : Hid (∀ (wz : World), AgP S b R l r W.drew wz → Q .normal ⟨#[.pointer (some ⟨d, 0, none⟩), u1, u2, u3, .pointer (some ⟨xa, 0, none⟩), .pointer (some ⟨xc, 0, none⟩), u6, u7, u8, u9, aa, ab, ad, ae, af, ag, ah, ai, aj, ak, al, am, an, ao, ap, aq, .pointer (some ⟨d, 0, none⟩), .pointer (some ⟨d, 0, none⟩), .pointer (some ⟨d, 1, none⟩), .pointer (some ⟨d, 2, none⟩), .func (.func 139) #[] #[.pointer (some ⟨b, 0, none⟩)], .agg #[.int .u64 l.x0, .int .u64 l.x1, .int .u64 l.x2, .int .u64 l.x3], .agg #[.int .u64 r.x0, .int .u64 r.x1, .int .u64 r.x2, .int .u64 r.x3], .tuple #[], aC, aD, aE, aF, aG, aH], []⟩ wz)) : (Code.region 3 fr3o true).wp Tryz.prog Q ⟨#[.pointer (some ⟨d, 0, none⟩), u1, u2, u3, .pointer (some ⟨xa, 0, none⟩), .pointer (some ⟨xc, 0, none⟩), u6, u7, u8, u9, aa, ab, ad, ae, af, ag, ah, ai, aj, ak, al, am, an, ao, ap, aq, au, av, aw, ax, ay, az, aA, aB, aC, aD, aE, aF, aG, aH], []⟩ W := by
 have CB := Hn (cell_keep cb (bl_drew W))
 clear cb
 unfold fr3o
 refine wp_region_noPanic ?_
 refine wp_region_held_drew (S := fun x => x.cell? ⟨xa, 0, none⟩ = some (.int .u64 l.x0) ∧ x.cell? ⟨xa, 1, none⟩ = some (.int .u64 l.x1) ∧ x.cell? ⟨xa, 2, none⟩ = some (.int .u64 l.x2) ∧ x.cell? ⟨xa, 3, none⟩ = some (.int .u64 l.x3) ∧ x.cell? ⟨xc, 0, none⟩ = some (.int .u64 r.x0) ∧ x.cell? ⟨xc, 1, none⟩ = some (.int .u64 r.x1) ∧ x.cell? ⟨xc, 2, none⟩ = some (.int .u64 r.x2) ∧ x.cell? ⟨xc, 3, none⟩ = some (.int .u64 r.x3)) (by kernel_rfl) (⟨cell_keep q00 (bl_drew W), cell_keep q01 (bl_drew W), cell_keep q02 (bl_drew W), cell_keep q03 (bl_drew W), cell_keep q10 (bl_drew W), cell_keep q11 (bl_drew W), cell_keep q12 (bl_drew W), cell_keep q13 (bl_drew W)⟩) (fun hH0 => ?_)
 refine tj 0 fr3o_0 (.pointer (some ⟨d, 0, none⟩)) hH0 (fun w0 hSw => ?_) ?_
 ·(unfold fr3o_0 oO; clear hSw; go_simp)
 simp only [fr3o_0, oO, Act.put, sA, sB, sC]
 refine tj 5 fr3o_5 (.agg #[.int .u64 l.x0, .int .u64 l.x1, .int .u64 l.x2, .int .u64 l.x3]) hH0 (fun w0 hSw => ?_) ?_
 ·(unfold fr3o_5 oO; have hS : w0.cell? ⟨xa, 0, none⟩ = some (.int .u64 l.x0) ∧ w0.cell? ⟨xa, 1, none⟩ = some (.int .u64 l.x1) ∧ w0.cell? ⟨xa, 2, none⟩ = some (.int .u64 l.x2) ∧ w0.cell? ⟨xa, 3, none⟩ = some (.int .u64 l.x3) ∧ w0.cell? ⟨xc, 0, none⟩ = some (.int .u64 r.x0) ∧ w0.cell? ⟨xc, 1, none⟩ = some (.int .u64 r.x1) ∧ w0.cell? ⟨xc, 2, none⟩ = some (.int .u64 r.x2) ∧ w0.cell? ⟨xc, 3, none⟩ = some (.int .u64 r.x3) := hSw; have a0 := hS.1; have a1 := hS.2.1; have a2 := hS.2.2.1; have a3 := hS.2.2.2.1; clear hS hSw; go_simp)
 simp only [fr3o_5, oO, Act.put, sA, sB, sC]
 refine tj 6 fr3o_6 (.agg #[.int .u64 r.x0, .int .u64 r.x1, .int .u64 r.x2, .int .u64 r.x3]) hH0 (fun w0 hSw => ?_) ?_
 ·(unfold fr3o_6 oO; have hS : w0.cell? ⟨xa, 0, none⟩ = some (.int .u64 l.x0) ∧ w0.cell? ⟨xa, 1, none⟩ = some (.int .u64 l.x1) ∧ w0.cell? ⟨xa, 2, none⟩ = some (.int .u64 l.x2) ∧ w0.cell? ⟨xa, 3, none⟩ = some (.int .u64 l.x3) ∧ w0.cell? ⟨xc, 0, none⟩ = some (.int .u64 r.x0) ∧ w0.cell? ⟨xc, 1, none⟩ = some (.int .u64 r.x1) ∧ w0.cell? ⟨xc, 2, none⟩ = some (.int .u64 r.x2) ∧ w0.cell? ⟨xc, 3, none⟩ = some (.int .u64 r.x3) := hSw; have a0 := hS.2.2.2.2.1; have a1 := hS.2.2.2.2.2.1; have a2 := hS.2.2.2.2.2.2.1; have a3 := hS.2.2.2.2.2.2.2; clear hS hSw; go_simp)
 simp only [fr3o_6, oO, Act.put, sA, sB, sC]
 refine tj 1 fr3o_1 (.pointer (some ⟨d, 0, none⟩)) hH0 (fun w0 hSw => ?_) ?_
 ·(unfold fr3o_1 oO; clear hSw; go_simp)
 simp only [fr3o_1, oO, Act.put, sA, sB, sC]
 refine tj 2 fr3o_2 (.pointer (some ⟨d, 1, none⟩)) hH0 (fun w0 hSw => ?_) ?_
 ·(unfold fr3o_2 oO; clear hSw; go_simp)
 simp only [fr3o_2, oO, Act.put, sA, sB, sC]
 refine tj 3 fr3o_3 (.pointer (some ⟨d, 2, none⟩)) hH0 (fun w0 hSw => ?_) ?_
 ·(unfold fr3o_3 oO; clear hSw; go_simp)
 simp only [fr3o_3, oO, Act.put, sA, sB, sC]
 refine ar [4] ?_
 refine ac fr3o_4 (fun K hK => ?_) AllReadyH.nil
 unfold fr3o_4 oO
 have HH := Hn hH0
 clear hH0
 refine wp_ldF2 _ rfl d 2 b rfl CB.out ?_
 simp only [Act.put, sA, sB, sC]
 have SN := HH
 clear HH
 refine hK.out _ _ SN.out (fun hH1 => ?_)
 clear hK K SN
 refine ar [7] ?_
 refine ac fr3o_7 (fun K hK => ?_) AllReadyH.nil
 unfold fr3o_7 oO
 have HH := Hn hH1
 clear hH1
 go_simp
 refine (CM.out).mono ?_
 rintro e wn2 ⟨rfl, hag⟩
 have SN := Hn (And.intro (hag.gs.cell HH.out.1 na.out) (And.intro (hag.gs.cell HH.out.2.1 na.out) (And.intro (hag.gs.cell HH.out.2.2.1 na.out) (And.intro (hag.gs.cell HH.out.2.2.2.1 na.out) (And.intro (hag.gs.cell HH.out.2.2.2.2.1 nc.out) (And.intro (hag.gs.cell HH.out.2.2.2.2.2.1 nc.out) (And.intro (hag.gs.cell HH.out.2.2.2.2.2.2.1 nc.out) (hag.gs.cell HH.out.2.2.2.2.2.2.2 nc.out))))))))
 have FE := Hn (hag)
 clear HH CM hag
 go_wp2_with fail
 refine hK.out _ _ SN.out (fun hH2 => ?_)
 clear hK K SN
 have HH := Hn hH2
 have FQ := Hn (HQ.out _ FE.out)
 refine wpAnyH_done (by kernel_rfl) ?_ _
 refine NoPanic.normal ?_
 exact FQ.out
def fr4o_0 : Oper := oO 34 (Op.load 52 (Operand.tmp 9)) 52 "piece.go:89" #[]
def fr4o_1 : Oper := oO 35 (Op.call { callee := Callee.value (Operand.func 80), args := #[Operand.tmp 34], argTypes := #[52] }) 50 "piece.go:89" #[DD 0]
def fr4o_2 : Oper := oO 36 (Op.load 52 (Operand.tmp 10)) 52 "piece.go:89" #[]
def fr4o_3 : Oper := oO 37 (Op.call { callee := Callee.value (Operand.func 80), args := #[Operand.tmp 36], argTypes := #[52] }) 50 "piece.go:89" #[DD 2, CH 1]
def fr4o_4 : Oper := oO 38 (Op.load 52 (Operand.tmp 11)) 52 "piece.go:89" #[]
def fr4o_5 : Oper := oO 39 (Op.call { callee := Callee.value (Operand.func 80), args := #[Operand.tmp 38], argTypes := #[52] }) 50 "piece.go:89" #[DD 4, CH 3]
def fr4o_6 : Oper := oO 6 (Op.assign (Operand.tmp 35)) 50 "piece.go:89" #[DD 1, CH 5, PH 0, PH 1, { on := 2, ground := Ground.textOnly Departure.lateStores }, { on := 3, ground := Ground.textOnly Departure.lateStoresUnsure }, { on := 4, ground := Ground.textOnly Departure.lateStores }, { on := 5, ground := Ground.textOnly Departure.lateStoresUnsure }]
def fr4o_7 : Oper := oO 7 (Op.assign (Operand.tmp 37)) 50 "piece.go:89" #[DD 3, CH 6, PH 0, PH 1, PH 2, PH 3, { on := 4, ground := Ground.textOnly Departure.lateStores }, { on := 5, ground := Ground.textOnly Departure.lateStoresUnsure }, PH 6]
def fr4o_8 : Oper := oO 8 (Op.assign (Operand.tmp 39)) 50 "piece.go:89" #[DD 5, CH 7, PH 0, PH 1, PH 2, PH 3, PH 4, PH 5, PH 6, PH 7]
def fr4o : Array Oper := #[fr4o_0, fr4o_1, fr4o_2, fr4o_3, fr4o_4, fr4o_5, fr4o_6, fr4o_7, fr4o_8]
theorem fr4 (Q : Exit → Act → World → Prop) (xl xr xo : Nat) (K : Int) (u0 u1 u2 u3 u4 u5 u6 u7 u8 ad ae af ag ah ai aj ak al am an ao ap aq au av aw ax ay az aA aB aC aD aE aF aG aH : Value) (W : World)
  (q00 : W.cell? ⟨xl, 0, none⟩ = some (.int .i64 2)) (q01 : W.cell? ⟨xl, 1, none⟩ = some (.int .i64 K)) (q10 : W.cell? ⟨xr, 0, none⟩ = some (.int .i64 3)) (q11 : W.cell? ⟨xr, 1, none⟩ = some (.int .i64 K)) (q20 : W.cell? ⟨xo, 0, none⟩ = some (.int .i64 4)) (q21 : W.cell? ⟨xo, 1, none⟩ = some (.int .i64 K)) (CF : Hid (∀ (k : Int) y, Calls Tryz.prog 80 #[.agg #[.int .i64 k, .int .i64 K]] y fun e w' => ∃ v, e = .returned v ∧ Lq y [((k, K), 1)] v w'))
  (HQ : Hid (∀ (wz : World) (v1 v2 v3 : Value), Below W.heap.size W wz → Zn W.heap.size wz v1 [((2, K), 1)] → Zn W.heap.size wz v2 [((3, K), 1)] → Zn W.heap.size wz v3 [((4, K), 1)] → Q .normal ⟨#[u0, u1, u2, u3, u4, u5, v1, v2, v3, .pointer (some ⟨xl, 0, none⟩), .pointer (some ⟨xr, 0, none⟩), .pointer (some ⟨xo, 0, none⟩), ad, ae, af, ag, ah, ai, aj, ak, al, am, an, ao, ap, aq, au, av, aw, ax, ay, az, aA, aB, .agg #[.int .i64 2, .int .i64 K], v1, .agg #[.int .i64 3, .int .i64 K], v2, .agg #[.int .i64 4, .int .i64 K], v3], []⟩ wz)) : (Code.region 4 fr4o true).wp Tryz.prog Q ⟨#[u0, u1, u2, u3, u4, u5, u6, u7, u8, .pointer (some ⟨xl, 0, none⟩), .pointer (some ⟨xr, 0, none⟩), .pointer (some ⟨xo, 0, none⟩), ad, ae, af, ag, ah, ai, aj, ak, al, am, an, ao, ap, aq, au, av, aw, ax, ay, az, aA, aB, aC, aD, aE, aF, aG, aH], []⟩ W := by
 unfold fr4o
 refine wp_region_noPanic ?_
 refine wp_region_held_drew (S := fun x => Below W.heap.size W x) (by kernel_rfl) (bl_drew W) (fun hH0 => ?_)
 refine tj 0 fr4o_0 (.agg #[.int .i64 2, .int .i64 K]) hH0 (fun w0 hSw => ?_) ?_
 ·(unfold fr4o_0 oO; have hS : Below W.heap.size W w0 := hSw; have a0 := cell_keep q00 hS; have a1 := cell_keep q01 hS; clear hS hSw; go_simp)
 simp only [fr4o_0, oO, Act.put, sA, sB, sC]
 refine tj 2 fr4o_2 (.agg #[.int .i64 3, .int .i64 K]) hH0 (fun w0 hSw => ?_) ?_
 ·(unfold fr4o_2 oO; have hS : Below W.heap.size W w0 := hSw; have a0 := cell_keep q10 hS; have a1 := cell_keep q11 hS; clear hS hSw; go_simp)
 simp only [fr4o_2, oO, Act.put, sA, sB, sC]
 refine tj 4 fr4o_4 (.agg #[.int .i64 4, .int .i64 K]) hH0 (fun w0 hSw => ?_) ?_
 ·(unfold fr4o_4 oO; have hS : Below W.heap.size W w0 := hSw; have a0 := cell_keep q20 hS; have a1 := cell_keep q21 hS; clear hS hSw; go_simp)
 simp only [fr4o_4, oO, Act.put, sA, sB, sC]
 refine ar [1] ?_
 refine ac fr4o_1 (fun K hK => ?_) AllReadyH.nil
 unfold fr4o_1 oO
 have HH := Hn hH0
 clear hH0
 go_simp
 refine (CF.out 2 _).mono ?_
 rintro e wn1 ⟨v1, rfl, hl⟩
 have SN := Hn (bl_trans HH.out hl.2.1)
 have F1 := Hn (Zn.of hl HH.out.size)
 clear HH hl
 go_wp2_with fail
 refine hK.out _ _ SN.out (fun hH1 => ?_)
 clear hK K SN
 refine ar [3] ?_
 refine ac fr4o_3 (fun K hK => ?_) AllReadyH.nil
 unfold fr4o_3 oO
 have HH := Hn hH1
 clear hH1
 go_simp
 refine (CF.out 3 _).mono ?_
 rintro e wn2 ⟨v2, rfl, hl⟩
 have SN := Hn (bl_trans HH.out hl.2.1)
 replace F1 := Hn (F1.out.keep hl.2.1)
 have F2 := Hn (Zn.of hl HH.out.size)
 clear HH hl
 go_wp2_with fail
 refine hK.out _ _ SN.out (fun hH2 => ?_)
 clear hK K SN
 refine ar [5] ?_
 refine ac fr4o_5 (fun K hK => ?_) AllReadyH.nil
 unfold fr4o_5 oO
 have HH := Hn hH2
 clear hH2
 go_simp
 refine (CF.out 4 _).mono ?_
 rintro e wn3 ⟨v3, rfl, hl⟩
 have SN := Hn (bl_trans HH.out hl.2.1)
 replace F1 := Hn (F1.out.keep hl.2.1)
 replace F2 := Hn (F2.out.keep hl.2.1)
 have F3 := Hn (Zn.of hl HH.out.size)
 clear HH hl CF
 go_wp2_with fail
 refine hK.out _ _ SN.out (fun hH3 => ?_)
 clear hK K SN
 refine tj 6 fr4o_6 (v1) hH3 (fun w0 hSw => ?_) ?_
 ·(unfold fr4o_6 oO; clear hSw; go_simp)
 simp only [fr4o_6, oO, Act.put, sA, sB, sC]
 refine tj 7 fr4o_7 (v2) hH3 (fun w0 hSw => ?_) ?_
 ·(unfold fr4o_7 oO; clear hSw; go_simp)
 simp only [fr4o_7, oO, Act.put, sA, sB, sC]
 refine tj 8 fr4o_8 (v3) hH3 (fun w0 hSw => ?_) ?_
 ·(unfold fr4o_8 oO; clear hSw; go_simp)
 simp only [fr4o_8, oO, Act.put, sA, sB, sC]
 have HH := Hn hH3
 have FQ := Hn (HQ.out _ v1 v2 v3 HH.out F1.out F2.out F3.out)
 refine wpAnyH_done (by kernel_rfl) ?_ _
 refine NoPanic.normal ?_
 exact FQ.out
end Ci
end Go.Proofs.YtljmgfclhbadjaaGreatDoor
