import Derived.Test.YtljmgfclhbadjaaGreatDoorTk
import Derived.Test.YtljmgfclhbadjaaGreatDoorDxz
namespace Go.Proofs.YtljmgfclhbadjaaGreatDoor
set_option maxRecDepth 100000
set_option maxHeartbeats 16000000
open Go.RowKit
set_option linter.unusedVariables false
set_option linter.unusedSimpArgs false
open Cm (Wr Tm co bf Ls lf ins Eqm)
namespace Ci
def OdP (S : Nat → Prop) (d : Nat) (p : Pz) (x w' : World) : Prop := ∃ S' q' b', Ds S' d 0 p q' b' w' ∧ Gs S x w' ∧ Sk S S' x
theorem Nq7.low {B B' i : Nat} {g : Nat → E4} {v : Value} {V : Nat → Value} {w : World} (h : Nq7 B g i v V w) (hb : B' ≤ B) : Nq7 B' g i v V w := ⟨own_lower h.ra hb, fun j hj => ⟨own_lower (h.el j hj).1 hb, (h.el j hj).2⟩⟩
def pShN (n : Nat) (r : E4) (a b : Nat → E4) : Pz := if n = 0 then pz0 else pSh 0 pz0 (cnX (lst (-r.n))) (bh n (fun j => cnX (a j)) (fun j => cnX (b j))) n
section
variable {S : Nat → Prop} {d q b n B : Nat} {x : World} {ga gb : Nat → E4} {v v' : Value} {V V' : Nat → Value}
theorem Nq7.zm {g c : Nat} (h : Nq7 B ga n (.slice (some ⟨g, 0, none⟩) n c) V x) (hS : ∀ i, S i → i < B) : Zm S x g n V (fun j => cnX (ga j)) := by
 have hg := h.ra.lt g rfl
 refine ⟨fun e => by have := hS g e; omega, hg.2, fun j hj => ⟨by have h9 := h.ra.cells (g := g) rfl j _ (vsL_get hj); rwa [Addr.add_mid, Nat.zero_add] at h9, ⟨own_lower (h.el j hj).1 (Nat.zero_le _), (h.el j hj).2, by have := cnX_len (ga j); omega⟩, fun k hk e => by have := ((h.el j hj).1.lt k hk).1; have := hS k e; omega⟩⟩
theorem Shuffle_nil (h : Ds S d 0 pz0 q b x) (P1 P2 : Option Addr) (c1 c2 : Nat) (r : E4) :
  Calls Tryz.prog 37 #[.pointer (some ⟨d, 0, none⟩), .slice P1 0 c1, .slice P2 0 c2, .agg #[.int .u64 r.x0, .int .u64 r.x1, .int .u64 r.x2, .int .u64 r.x3]] x fun e w' => OnP S d 0 pz0 x e w' := by
 have HD := Hn h
 have BB := Hn (bl_alloc x (.cells #[.int .u64 r.x0, .int .u64 r.x1, .int .u64 r.x2, .int .u64 r.x3] 53))
 have CN := Hn (dnoneD (h.keep BB.out))
 clear h
 go_enter Tryz.func37, Tryz.ntmps37
 go_wp2_with (go_at_call 41; refine CN.out.mono ?_; rintro e w0 ⟨rfl, hw1⟩; have hw2 := hw1.symm; clear hw1; subst hw2; clear CN)
 exact bodyPost_ret (v := .int .i64 0) (by simp [results, Tryz.results37, go_sem]) rfl ⟨S, q, b, rfl, HD.out.keep BB.out, Gs.bl BB.out, Sk.refl⟩
theorem shufD (h : Ds S d 0 pz0 q b x) (hS : ∀ i, S i → i < B) (h1 : Nq7 B ga n v V x) (h2 : Nq7 B gb n v' V' x) (hn : n ≤ 40) (r : E4) (hr : r.ok) :
  Calls Tryz.prog 37 #[.pointer (some ⟨d, 0, none⟩), v, v', .agg #[.int .u64 r.x0, .int .u64 r.x1, .int .u64 r.x2, .int .u64 r.x3]] x fun e w' => OnP S d 0 (pShN n r ga gb) x e w' := by
 by_cases e : n = 0
 ·subst e
  obtain ⟨P1, c1, rfl⟩ := own_sh1 h1.ra
  obtain ⟨P2, c2, rfl⟩ := own_sh1 h2.ra
  have c := Shuffle_nil h P1 P2 c1 c2 r
  unfold pShN
  rw [if_pos rfl]
  exact c
 ·obtain ⟨g1, c1, rfl, -⟩ := own_shG h1.ra (by omega)
  obtain ⟨g2, c2, rfl, -⟩ := own_shG h2.ra (by omega)
  unfold pShN
  rw [if_neg e]
  exact Shuffle_desk h c1 c2 (h1.zm hS) (h2.zm hS) (by omega) hn r hr (fun j hj => hs_cn _) (fun j hj => hs_cn _) (fun j hj => by have := cnX_len (ga j); omega) (fun j hj => by have := cnX_len (gb j); omega) (by show 0 + 2 * n + 2 * n ≤ 4096; omega) (by show 0 + n + n ≤ 1024; omega)
end
def sf4o_0 : Oper := oO 23 (Op.move (Operand.tmp 8)) 33 "outright.go:188" #[]
def sf4o_1 : Oper := oO 24 (Op.move (Operand.tmp 0)) 22 "outright.go:188" #[]
def sf4o_2 : Oper := oO 25 (Op.call { callee := Callee.value (Operand.func 38), args := #[Operand.tmp 24], argTypes := #[22] }) 48 "outright.go:188" #[DD 1]
def sf4o_3 : Oper := oO 26 (Op.move (Operand.tmp 1)) 22 "outright.go:188" #[]
def sf4o_4 : Oper := oO 27 (Op.call { callee := Callee.value (Operand.func 38), args := #[Operand.tmp 26], argTypes := #[22] }) 48 "outright.go:188" #[DD 3, CH 2]
def sf4o_5 : Oper := oO 28 (Op.load 26 (Operand.tmp 5)) 26 "outright.go:188" #[]
def sf4o_6 : Oper := oO 29 (Op.call { callee := Callee.value (Operand.func 37), args := #[Operand.tmp 23, Operand.tmp 25, Operand.tmp 27, Operand.tmp 28], argTypes := #[33, 48, 48, 53] }) 56 "outright.go:188" #[DD 0, DD 2, DD 4, DD 5, CH 4]
def sf4o_7 : Oper := oO 30 (Op.binOp BinOp.neq 56 (Operand.tmp 29) (Operand.const (Value.int IntKind.i64 0)) 56) 4 "outright.go:188" #[DD 6]
def sf4o : Array Oper := #[sf4o_0, sf4o_1, sf4o_2, sf4o_3, sf4o_4, sf4o_5, sf4o_6, sf4o_7]
theorem sf4 (Q : Exit → Act → World → Prop) (S : Nat → Prop) (d xa na ca nb cb : Nat) (Pa Pb : Option Addr) (ga gb : Nat → E4) (r : E4) (p2 : Pz) (u2 u3 u4 u6 u7 u9 aa ab ad ae af ag ah ai aj ak al am an ao ap aq au av aw ax ay az aA aB aC aD aE aF aG aH aI aJ aK aL aM aN aO aP aQ aR aS aT aU aV : Value) (W : World)
  (q0 : W.cell? ⟨xa, 0, none⟩ = some (.int .u64 r.x0)) (q1 : W.cell? ⟨xa, 1, none⟩ = some (.int .u64 r.x1)) (q2 : W.cell? ⟨xa, 2, none⟩ = some (.int .u64 r.x2)) (q3 : W.cell? ⟨xa, 3, none⟩ = some (.int .u64 r.x3)) (nx : Hid (¬ S xa))
  (C2 : Hid (∀ y, Below W.heap.size W y → Calls Tryz.prog 38 #[.slice Pa na ca] y fun e w' => NmP ⟨Pa, na, ca, ga⟩ y e w'))
  (C4 : Hid (∀ y, Below W.heap.size W y → Calls Tryz.prog 38 #[.slice Pb nb cb] y fun e w' => NmP ⟨Pb, nb, cb, gb⟩ y e w'))
  (C6 : Hid (∀ y v2 V2 v4 V4, Below W.heap.size W y → Nq7 W.heap.size ga na v2 V2 y → Nq7 W.heap.size gb nb v4 V4 y → Calls Tryz.prog 37 #[.pointer (some ⟨d, 0, none⟩), v2, v4, .agg #[.int .u64 r.x0, .int .u64 r.x1, .int .u64 r.x2, .int .u64 r.x3]] y fun e w' => OnP S d 0 p2 y e w'))
  (HQ : Hid (∀ (wz : World) (v2 v4 : Value), OdP S d p2 W wz → Q .normal ⟨#[.slice Pa na ca, .slice Pb nb cb, u2, u3, u4, .pointer (some ⟨xa, 0, none⟩), u6, u7, .pointer (some ⟨d, 0, none⟩), u9, aa, ab, ad, ae, af, ag, ah, ai, aj, ak, al, am, an, .pointer (some ⟨d, 0, none⟩), .slice Pa na ca, v2, .slice Pb nb cb, v4, .agg #[.int .u64 r.x0, .int .u64 r.x1, .int .u64 r.x2, .int .u64 r.x3], .int .i64 0, .bool false, az, aA, aB, aC, aD, aE, aF, aG, aH, aI, aJ, aK, aL, aM, aN, aO, aP, aQ, aR, aS, aT, aU, aV], []⟩ wz)) : (Code.region 4 sf4o true).wp Tryz.prog Q ⟨#[.slice Pa na ca, .slice Pb nb cb, u2, u3, u4, .pointer (some ⟨xa, 0, none⟩), u6, u7, .pointer (some ⟨d, 0, none⟩), u9, aa, ab, ad, ae, af, ag, ah, ai, aj, ak, al, am, an, ao, ap, aq, au, av, aw, ax, ay, az, aA, aB, aC, aD, aE, aF, aG, aH, aI, aJ, aK, aL, aM, aN, aO, aP, aQ, aR, aS, aT, aU, aV], []⟩ W := by
 have BB := Hn (bl_drew W)
 have SZ := Hn (Nat.le_refl W.heap.size)
 unfold sf4o
 refine wp_region_noPanic ?_
 refine wp_region_held_drew (S := fun x => x.cell? ⟨xa, 0, none⟩ = some (.int .u64 r.x0) ∧ x.cell? ⟨xa, 1, none⟩ = some (.int .u64 r.x1) ∧ x.cell? ⟨xa, 2, none⟩ = some (.int .u64 r.x2) ∧ x.cell? ⟨xa, 3, none⟩ = some (.int .u64 r.x3)) (by kernel_rfl) (⟨cell_keep q0 (bl_drew W), cell_keep q1 (bl_drew W), cell_keep q2 (bl_drew W), cell_keep q3 (bl_drew W)⟩) (fun hH0 => ?_)
 refine tj 0 sf4o_0 (.pointer (some ⟨d, 0, none⟩)) hH0 (fun w0 hSw => ?_) ?_
 ·(unfold sf4o_0 oO; clear hSw; go_simp)
 simp only [sf4o_0, oO, Act.put, sA, sB, sC]
 refine tj 1 sf4o_1 (.slice Pa na ca) hH0 (fun w0 hSw => ?_) ?_
 ·(unfold sf4o_1 oO; clear hSw; go_simp)
 simp only [sf4o_1, oO, Act.put, sA, sB, sC]
 refine tj 3 sf4o_3 (.slice Pb nb cb) hH0 (fun w0 hSw => ?_) ?_
 ·(unfold sf4o_3 oO; clear hSw; go_simp)
 simp only [sf4o_3, oO, Act.put, sA, sB, sC]
 refine tj 5 sf4o_5 (.agg #[.int .u64 r.x0, .int .u64 r.x1, .int .u64 r.x2, .int .u64 r.x3]) hH0 (fun w0 hSw => ?_) ?_
 ·(unfold sf4o_5 oO; have hS : w0.cell? ⟨xa, 0, none⟩ = some (.int .u64 r.x0) ∧ w0.cell? ⟨xa, 1, none⟩ = some (.int .u64 r.x1) ∧ w0.cell? ⟨xa, 2, none⟩ = some (.int .u64 r.x2) ∧ w0.cell? ⟨xa, 3, none⟩ = some (.int .u64 r.x3) := hSw; have a0 := hS.1; have a1 := hS.2.1; have a2 := hS.2.2.1; have a3 := hS.2.2.2; clear hS hSw; go_simp)
 simp only [sf4o_5, oO, Act.put, sA, sB, sC]
 refine ar [2] ?_
 refine ac sf4o_2 (fun K hK => ?_) AllReadyH.nil
 unfold sf4o_2 oO
 have HH := Hn hH0
 clear hH0
 go_simp
 refine (C2.out _ BB.out).mono ?_
 rintro e wn1 ⟨v2, V2, rfl, hb, hN⟩
 have SN := Hn (And.intro (cell_keep HH.out.1 hb) (And.intro (cell_keep HH.out.2.1 hb) (And.intro (cell_keep HH.out.2.2.1 hb) (cell_keep HH.out.2.2.2 hb))))
 have F2 := Hn (hN.low SZ.out)
 replace BB := Hn (bl_trans BB.out hb)
 replace SZ := Hn (Nat.le_trans SZ.out hb.size)
 clear HH hb hN C2
 go_wp2_with fail
 refine hK.out _ _ SN.out (fun hH1 => ?_)
 clear hK K SN
 refine ar [4] ?_
 refine ac sf4o_4 (fun K hK => ?_) AllReadyH.nil
 unfold sf4o_4 oO
 have HH := Hn hH1
 clear hH1
 go_simp
 refine (C4.out _ BB.out).mono ?_
 rintro e wn2 ⟨v4, V4, rfl, hb, hN⟩
 have SN := Hn (And.intro (cell_keep HH.out.1 hb) (And.intro (cell_keep HH.out.2.1 hb) (And.intro (cell_keep HH.out.2.2.1 hb) (cell_keep HH.out.2.2.2 hb))))
 replace F2 := Hn (F2.out.keep hb)
 have F4 := Hn (hN.low SZ.out)
 replace BB := Hn (bl_trans BB.out hb)
 replace SZ := Hn (Nat.le_trans SZ.out hb.size)
 clear HH hb hN C4
 go_wp2_with fail
 refine hK.out _ _ SN.out (fun hH2 => ?_)
 clear hK K SN
 refine ar [6] ?_
 refine ac sf4o_6 (fun K hK => ?_) AllReadyH.nil
 unfold sf4o_6 oO
 have HH := Hn hH2
 clear hH2
 go_simp
 refine (C6.out _ v2 V2 v4 V4 BB.out F2.out F4.out).mono ?_
 rintro e wn3 ⟨S6, q6, b6, rfl, d6, g6, k6⟩
 have SN := Hn (And.intro (g6.cell HH.out.1 nx.out) (And.intro (g6.cell HH.out.2.1 nx.out) (And.intro (g6.cell HH.out.2.2.1 nx.out) (g6.cell HH.out.2.2.2 nx.out))))
 have FE := Hn ((⟨S6, q6, b6, d6, (Gs.bl BB.out).trans g6 Sk.refl, Sk.trans Sk.refl k6 BB.out.size⟩ : OdP S d p2 W _))
 clear HH d6 g6 k6 C6 F2 F4
 go_wp2_with fail
 refine hK.out _ _ SN.out (fun hH3 => ?_)
 clear hK K SN
 refine tj 7 sf4o_7 (.bool false) hH3 (fun w0 hSw => ?_) ?_
 ·(unfold sf4o_7 oO; clear hSw; go_simp)
 simp only [sf4o_7, oO, Act.put, sA, sB, sC]
 have HH := Hn hH3
 have FQ := Hn (HQ.out _ v2 v4 FE.out)
 refine wpAnyH_done (by kernel_rfl) ?_ _
 refine NoPanic.normal ?_
 exact FQ.out
end Ci
end Go.Proofs.YtljmgfclhbadjaaGreatDoor
