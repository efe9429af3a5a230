import Derived.Test.YtljmgfclhbadjaaGreatDoorTk
import Derived.Test.YtljmgfclhbadjaaGreatDoorCv
namespace Go.Proofs.YtljmgfclhbadjaaGreatDoor
set_option maxRecDepth 100000
set_option maxHeartbeats 16000000
open Go.RowKit
set_option linter.unusedVariables false
set_option linter.unusedSimpArgs false
open Cm (Wr Tm co bf Ls lf ins Eqm)
namespace Ci
theorem range_bl {w w' : World} {b o : Nat} {cs : List Value} (h : w.rangeAt b o cs) (hb : Below w.heap.size w w') : w'.rangeAt b o cs := fun j v hv => cell_keep (h j v hv) hb
theorem there_set {w : World} {b n : Nat} (h : w.there b 0 n) (c o : Nat) (vs : List Value) : (w.setCells c o vs).there b 0 n := fun j hj =>
 ⟨World.isSome_setCells c vs o w _ (h j hj).1, by rw [World.frozen?_setCells]; exact (h j hj).2⟩
theorem range_newM (w : World) (cs : List Value) (t : TypeId) : (w.alloc (.cells cs.toArray t)).rangeAt w.heap.size 0 cs := fun j v hv => by
 rw [cell_of_row _ _ (0 + j) cs.toArray t (0, 0) (heap_alloc_new w _), Nat.zero_add]
 simpa using hv
theorem below_tr {n : Nat} {w1 w2 w3 : World} (h1 : Below n w1 w2) (h2 : Below n w2 w3) : Below n w1 w3 := ⟨h2.os.trans h1.os, h2.tape.trans h1.tape, h2.output.trans h1.output, Nat.le_trans h1.size h2.size, fun k hk => (h2.block k hk).trans (h1.block k hk)⟩
theorem i4_s : (Tryz.prog.info? 53).map (·.size) = some 4 := by kernel_rfl
theorem one4 (p : E4) : ([.int .u64 p.x0, .int .u64 p.x1, .int .u64 p.x2, .int .u64 p.x3] : List Value).toArray.all (·.oneCell') = true := by simp [Value.oneCell']
structure R4 (w : World) (b o n : Nat) (g : Nat → E4) : Prop where
 c0 : ∀ k, k < n → w.cell? ⟨b, o + k * 4, none⟩ = some (.int .u64 (g k).x0)
 c1 : ∀ k, k < n → w.cell? ⟨b, o + k * 4 + 1, none⟩ = some (.int .u64 (g k).x1)
 c2 : ∀ k, k < n → w.cell? ⟨b, o + k * 4 + 2, none⟩ = some (.int .u64 (g k).x2)
 c3 : ∀ k, k < n → w.cell? ⟨b, o + k * 4 + 3, none⟩ = some (.int .u64 (g k).x3)
theorem R4.keep {w w' : World} {b o n : Nat} {g : Nat → E4} (h : R4 w b o n g) (hb : Below w.heap.size w w') : R4 w' b o n g := ⟨fun k hk => cell_keep (h.c0 k hk) hb, fun k hk => cell_keep (h.c1 k hk) hb, fun k hk => cell_keep (h.c2 k hk) hb, fun k hk => cell_keep (h.c3 k hk) hb⟩
structure Sl where
 p : Option Addr
 n : Nat
 c : Nat
 g : Nat → E4
def Sl.v (s : Sl) : Value := .slice s.p s.n s.c
structure Sl.at (s : Sl) (w : World) : Prop where
 at' : ∃ b o : Nat, (0 < s.n → s.p = some ⟨b, o, none⟩) ∧ (0 < s.n → R4 w b o s.n s.g)
 ok : ∀ k, k < s.n → (s.g k).ok
theorem Sl.at.keep {s : Sl} {w w' : World} (h : s.at w) (hb : Below w.heap.size w w') : s.at w' := ⟨by obtain ⟨b, o, h1, h2⟩ := h.at'; exact ⟨b, o, h1, fun hn => (h2 hn).keep hb⟩, h.ok⟩
def nw (N : Nat → Sl) (q : Wr) : E4 := (N q.1.toNat).g q.2.toNat
structure Nm (N : Nat → Sl) (q : Wr) : Prop where
 k0 : 0 ≤ q.1
 k1 : q.1 < 6
 i0 : 0 ≤ q.2
 i1 : q.2 < ((N q.1.toNat).n : Int)
def tot (h : Nat → Int) : Nat → Int
 | 0 => 0
 | i + 1 => tot h i + h i
def es (N : Nat → Sl) (f : Nat → Trm) : Nat → E4
 | 0 => ⟨0, 0, 0, 0⟩
 | i + 1 => lst ((es N f i).n + (lst ((f i).a.n * (nw N (f i).q).n)).n)
theorem es_is (N : Nat → Sl) (f : Nat → Trm) : ∀ i, es N f i = lst (tot (fun k => (f k).a.n * (nw N (f k).q).n) i)
 | 0 => by
  show (⟨0, 0, 0, 0⟩ : E4) = lst 0
  exact (int_is 0 (by unfold Sm.Wd; omega)).symm
 | i + 1 => by
  show lst ((es N f i).n + (lst ((f i).a.n * (nw N (f i).q).n)).n) = _
  have e := es_is N f i
  rw [e]
  show _ = lst (tot _ i + _)
  refine lst_congr ?_
  rw [lst_n, lst_n, Int.emod_add_emod, Int.add_emod_emod]
theorem es_ok (N : Nat → Sl) (f : Nat → Trm) (i : Nat) : (es N f i).ok := by rw [es_is]; exact lst_ok _
def ea5o_0 : Oper := oO 14 (Op.load 53 (Operand.tmp 5)) 53 "numbers.go:50" #[]
def ea5o_1 : Oper := oO 15 (Op.fieldAddr 55 (Operand.tmp 7) 1) 0 "numbers.go:50" #[]
def ea5o_2 : Oper := oO 16 (Op.load 53 (Operand.tmp 15)) 53 "numbers.go:50" #[DD 1]
def ea5o_3 : Oper := oO 17 (Op.fieldAddr 55 (Operand.tmp 7) 0) 0 "numbers.go:50" #[]
def ea5o_4 : Oper := oO 18 (Op.fieldAddr 52 (Operand.tmp 17) 0) 0 "numbers.go:50" #[DD 3]
def ea5o_5 : Oper := oO 19 (Op.load 3 (Operand.tmp 18)) 3 "numbers.go:50" #[DD 4]
def ea5o_6 : Oper := oO 20 (Op.indexAddr 139 (Operand.tmp 2) (Operand.tmp 19)) 0 "numbers.go:50" #[DD 5]
def ea5o_7 : Oper := oO 21 (Op.load 41 (Operand.tmp 20)) 41 "numbers.go:50" #[DD 6]
def ea5o_8 : Oper := oO 22 (Op.fieldAddr 55 (Operand.tmp 7) 0) 0 "numbers.go:50" #[]
def ea5o_9 : Oper := oO 23 (Op.fieldAddr 52 (Operand.tmp 22) 1) 0 "numbers.go:50" #[DD 8]
def ea5o_10 : Oper := oO 24 (Op.load 3 (Operand.tmp 23)) 3 "numbers.go:50" #[DD 9]
def ea5o_11 : Oper := oO 25 (Op.indexAddr 41 (Operand.tmp 21) (Operand.tmp 24)) 0 "numbers.go:50" #[DD 7, DD 10]
def ea5o_12 : Oper := oO 26 (Op.load 53 (Operand.tmp 25)) 53 "numbers.go:50" #[DD 11]
def ea5o_13 : Oper := oO 27 (Op.call { callee := Callee.value (Operand.func 122), args := #[Operand.tmp 16, Operand.tmp 26], argTypes := #[53, 53] }) 53 "numbers.go:50" #[DD 2, DD 12]
def ea5o_14 : Oper := oO 28 (Op.call { callee := Callee.value (Operand.func 124), args := #[Operand.tmp 14, Operand.tmp 27], argTypes := #[53, 53] }) 53 "numbers.go:50" #[DD 0, DD 13, CH 13]
def ea5o_15 : Oper := oN (Op.store 53 (Operand.tmp 5) (Operand.tmp 28)) "numbers.go:50" #[DD 14, CH 14, PH 0, PH 1, PH 2, PH 3, PH 4, PH 5, PH 6, PH 7, PH 8, PH 9, PH 10, PH 11, PH 12, PH 13, PH 14]
def ea5o : Array Oper := #[ea5o_0, ea5o_1, ea5o_2, ea5o_3, ea5o_4, ea5o_5, ea5o_6, ea5o_7, ea5o_8, ea5o_9, ea5o_10, ea5o_11, ea5o_12, ea5o_13, ea5o_14, ea5o_15]
theorem ea5 (Q : Exit → Act → World → Prop) (nb sb tb kk ii eb eo en ec : Nat) (z p e u r : E4) (u0 u1 u3 u4 u6 u8 u9 aa ab ad ae af ag ah ai aj ak al am an ao ap aq au av aw ax ay : Value) (W : World)
  (i0 : (0 : Int) ≤ (kk : Int)) (i1 : (kk : Int) < 6) (j0 : (0 : Int) ≤ (ii : Int)) (j1 : (ii : Int) < (en : Int)) (ne1 : tb ≠ sb) (ne2 : nb ≠ sb) (ne3 : eb ≠ sb) (rg : W.rangeAt sb 0 [.int .u64 z.x0, .int .u64 z.x1, .int .u64 z.x2, .int .u64 z.x3]) (th : W.there sb 0 4)
  (t0 : W.cell? ⟨tb, 0, none⟩ = some (.int .i64 (kk : Int))) (t1 : W.cell? ⟨tb, 1, none⟩ = some (.int .i64 (ii : Int))) (t2 : W.cell? ⟨tb, 2, none⟩ = some (.int .u64 p.x0)) (t3 : W.cell? ⟨tb, 3, none⟩ = some (.int .u64 p.x1)) (t4 : W.cell? ⟨tb, 4, none⟩ = some (.int .u64 p.x2)) (t5 : W.cell? ⟨tb, 5, none⟩ = some (.int .u64 p.x3))
  (n0 : W.cell? ⟨nb, kk, none⟩ = some (.slice (some ⟨eb, eo, none⟩) en ec)) (e0 : W.cell? ⟨eb, eo + ii * 4, none⟩ = some (.int .u64 e.x0)) (e1 : W.cell? ⟨eb, eo + ii * 4 + 1, none⟩ = some (.int .u64 e.x1)) (e2 : W.cell? ⟨eb, eo + ii * 4 + 2, none⟩ = some (.int .u64 e.x2)) (e3 : W.cell? ⟨eb, eo + ii * 4 + 3, none⟩ = some (.int .u64 e.x3))
  (C9 : Hid (∀ y, W.grownBy y (some sb) → Calls Tryz.prog 122 #[.agg #[.int .u64 p.x0, .int .u64 p.x1, .int .u64 p.x2, .int .u64 p.x3], .agg #[.int .u64 e.x0, .int .u64 e.x1, .int .u64 e.x2, .int .u64 e.x3]] y fun e w' => e = .returned (.agg #[.int .u64 u.x0, .int .u64 u.x1, .int .u64 u.x2, .int .u64 u.x3]) ∧ Below y.heap.size y w'))
  (C10 : Hid (∀ y, W.grownBy y (some sb) → Calls Tryz.prog 124 #[.agg #[.int .u64 z.x0, .int .u64 z.x1, .int .u64 z.x2, .int .u64 z.x3], .agg #[.int .u64 u.x0, .int .u64 u.x1, .int .u64 u.x2, .int .u64 u.x3]] y fun e w' => e = .returned (.agg #[.int .u64 r.x0, .int .u64 r.x1, .int .u64 r.x2, .int .u64 r.x3]) ∧ Below y.heap.size y w'))
  (HQ : Hid (∀ (wz : World), (∃ wy, W.grownBy wy (some sb) ∧ wy.there sb 0 4 ∧ wz = wy.setCells sb 0 [.int .u64 r.x0, .int .u64 r.x1, .int .u64 r.x2, .int .u64 r.x3]) → Q .normal ⟨#[u0, u1, .pointer (some ⟨nb, 0, none⟩), u3, u4, .pointer (some ⟨sb, 0, none⟩), u6, .pointer (some ⟨tb, 0, none⟩), u8, u9, aa, ab, ad, ae, .agg #[.int .u64 z.x0, .int .u64 z.x1, .int .u64 z.x2, .int .u64 z.x3], .pointer (some ⟨tb, 2, none⟩), .agg #[.int .u64 p.x0, .int .u64 p.x1, .int .u64 p.x2, .int .u64 p.x3], .pointer (some ⟨tb, 0, none⟩), .pointer (some ⟨tb, 0, none⟩), .int .i64 (kk : Int), .pointer (some ⟨nb, kk, none⟩), .slice (some ⟨eb, eo, none⟩) en ec, .pointer (some ⟨tb, 0, none⟩), .pointer (some ⟨tb, 1, none⟩), .int .i64 (ii : Int), .pointer (some ⟨eb, eo + ii * 4, none⟩), .agg #[.int .u64 e.x0, .int .u64 e.x1, .int .u64 e.x2, .int .u64 e.x3], .agg #[.int .u64 u.x0, .int .u64 u.x1, .int .u64 u.x2, .int .u64 u.x3], .agg #[.int .u64 r.x0, .int .u64 r.x1, .int .u64 r.x2, .int .u64 r.x3], ax, ay], []⟩ wz)) : (Code.region 5 ea5o true).wp Tryz.prog Q ⟨#[u0, u1, .pointer (some ⟨nb, 0, none⟩), u3, u4, .pointer (some ⟨sb, 0, none⟩), u6, .pointer (some ⟨tb, 0, none⟩), u8, u9, aa, ab, ad, ae, af, ag, ah, ai, aj, ak, al, am, an, ao, ap, aq, au, av, aw, ax, ay], []⟩ W := by
 have RG := Hn (range_bl rg (bl_drew W))
 have TH := Hn (there_bl th (bl_drew W))
 clear rg th
 unfold ea5o
 refine wp_region_noPanic ?_
 refine wp_region_held_drew (S := fun x => W.grownBy x (some sb)) (by kernel_rfl) (gbI (bl_drew W) _) (fun hH0 => ?_)
 refine tj 1 ea5o_1 (.pointer (some ⟨tb, 2, none⟩)) hH0 (fun w0 hSw => ?_) ?_
 ·(unfold ea5o_1 oO; clear hSw; go_simp)
 simp only [ea5o_1, oO, Act.put, sA, sB, sC]
 refine tj 3 ea5o_3 (.pointer (some ⟨tb, 0, none⟩)) hH0 (fun w0 hSw => ?_) ?_
 ·(unfold ea5o_3 oO; clear hSw; go_simp)
 simp only [ea5o_3, oO, Act.put, sA, sB, sC]
 refine tj 8 ea5o_8 (.pointer (some ⟨tb, 0, none⟩)) hH0 (fun w0 hSw => ?_) ?_
 ·(unfold ea5o_8 oO; clear hSw; go_simp)
 simp only [ea5o_8, oO, Act.put, sA, sB, sC]
 refine tj 2 ea5o_2 (.agg #[.int .u64 p.x0, .int .u64 p.x1, .int .u64 p.x2, .int .u64 p.x3]) hH0 (fun w0 hSw => ?_) ?_
 ·(unfold ea5o_2 oO; have hS : W.grownBy w0 (some sb) := hSw; have a0 := hS.cell t2 (fun e => ne1 (Option.some.inj e)); have a1 := hS.cell t3 (fun e => ne1 (Option.some.inj e)); have a2 := hS.cell t4 (fun e => ne1 (Option.some.inj e)); have a3 := hS.cell t5 (fun e => ne1 (Option.some.inj e)); clear hS hSw; go_simp)
 simp only [ea5o_2, oO, Act.put, sA, sB, sC]
 refine tj 4 ea5o_4 (.pointer (some ⟨tb, 0, none⟩)) hH0 (fun w0 hSw => ?_) ?_
 ·(unfold ea5o_4 oO; clear hSw; go_simp)
 simp only [ea5o_4, oO, Act.put, sA, sB, sC]
 refine tj 9 ea5o_9 (.pointer (some ⟨tb, 1, none⟩)) hH0 (fun w0 hSw => ?_) ?_
 ·(unfold ea5o_9 oO; clear hSw; go_simp)
 simp only [ea5o_9, oO, Act.put, sA, sB, sC]
 refine tj 5 ea5o_5 (.int .i64 (kk : Int)) hH0 (fun w0 hSw => ?_) ?_
 ·(unfold ea5o_5 oO; have hS : W.grownBy w0 (some sb) := hSw; have a0 := hS.cell t0 (fun e => ne1 (Option.some.inj e)); clear hS hSw; go_simp)
 simp only [ea5o_5, oO, Act.put, sA, sB, sC]
 refine tj 10 ea5o_10 (.int .i64 (ii : Int)) hH0 (fun w0 hSw => ?_) ?_
 ·(unfold ea5o_10 oO; have hS : W.grownBy w0 (some sb) := hSw; have a0 := hS.cell t1 (fun e => ne1 (Option.some.inj e)); clear hS hSw; go_simp)
 simp only [ea5o_10, oO, Act.put, sA, sB, sC]
 refine tj 6 ea5o_6 (.pointer (some ⟨nb, kk, none⟩)) hH0 (fun w0 hSw => ?_) ?_
 ·(unfold ea5o_6 oO; clear hSw; go_simp)
 simp only [ea5o_6, oO, Act.put, sA, sB, sC]
 refine tj 7 ea5o_7 (.slice (some ⟨eb, eo, none⟩) en ec) hH0 (fun w0 hSw => ?_) ?_
 ·(unfold ea5o_7 oO; have hS : W.grownBy w0 (some sb) := hSw; have a0 := hS.cell n0 (fun e => ne2 (Option.some.inj e)); clear hS hSw; go_simp)
 simp only [ea5o_7, oO, Act.put, sA, sB, sC]
 refine tj 11 ea5o_11 (.pointer (some ⟨eb, eo + ii * 4, none⟩)) hH0 (fun w0 hSw => ?_) ?_
 ·(unfold ea5o_11 oO; clear hSw; go_simp)
 simp only [ea5o_11, oO, Act.put, sA, sB, sC]
 refine tj 12 ea5o_12 (.agg #[.int .u64 e.x0, .int .u64 e.x1, .int .u64 e.x2, .int .u64 e.x3]) hH0 (fun w0 hSw => ?_) ?_
 ·(unfold ea5o_12 oO; have hS : W.grownBy w0 (some sb) := hSw; have a0 := hS.cell e0 (fun e => ne3 (Option.some.inj e)); have a1 := hS.cell e1 (fun e => ne3 (Option.some.inj e)); have a2 := hS.cell e2 (fun e => ne3 (Option.some.inj e)); have a3 := hS.cell e3 (fun e => ne3 (Option.some.inj e)); clear hS hSw; go_simp)
 simp only [ea5o_12, oO, Act.put, sA, sB, sC]
 refine ar [0, 13] ?_
 refine ac ea5o_0 (fun K hK => ?_) (ac ea5o_13 (fun K hK => ?_) AllReadyH.nil)
 ·unfold ea5o_0 oO
  have HH := Hn hH0
  clear hH0
  refine wp_load_mid 53 _ rfl sb 0 (by rfl) [.int .u64 z.x0, .int .u64 z.x1, .int .u64 z.x2, .int .u64 z.x3] _ RG.out Tryz.underlying53 rfl i4_s ?_
  simp only [Act.put, sA, sB, sC]
  have SN := HH
  clear HH
  refine hK.out _ _ SN.out (fun hH1 => ?_)
  clear hK K SN
  refine ar [13] ?_
  refine ac ea5o_13 (fun K hK => ?_) AllReadyH.nil
  unfold ea5o_13 oO
  have HH := Hn hH1
  clear hH1
  go_simp
  refine (C9.out _ HH.out).mono ?_
  rintro e wn2 ⟨rfl, hb⟩
  replace RG := Hn (range_bl RG.out hb)
  replace TH := Hn (there_bl TH.out hb)
  have SN := Hn (HH.out.trans (gbI hb _))
  clear HH C9 hb
  go_wp2_with fail
  refine hK.out _ _ SN.out (fun hH2 => ?_)
  clear hK K SN
  refine ar [14] ?_
  refine ac ea5o_14 (fun K hK => ?_) AllReadyH.nil
  unfold ea5o_14 oO
  have HH := Hn hH2
  clear hH2
  go_simp
  refine (C10.out _ HH.out).mono ?_
  rintro e wn3 ⟨rfl, hb⟩
  replace RG := Hn (range_bl RG.out hb)
  replace TH := Hn (there_bl TH.out hb)
  have SN := Hn (HH.out.trans (gbI hb _))
  clear HH C10 hb
  go_wp2_with fail
  refine hK.out _ _ SN.out (fun hH3 => ?_)
  clear hK K SN
  refine ar [15] ?_
  refine ac ea5o_15 (fun K hK => ?_) AllReadyH.nil
  unfold ea5o_15 oN
  have HH := Hn hH3
  clear hH3
  refine wp_storeE 53 _ _ rfl sb 0 ([.int .u64 r.x0, .int .u64 r.x1, .int .u64 r.x2, .int .u64 r.x3]) (by rfl) (by rfl) TH.out i4_s (one4 r) rfl (fun wn4 hw => ?_)
  have SN := Hn (HH.out.trans (gb_setCells sb [.int .u64 r.x0, .int .u64 r.x1, .int .u64 r.x2, .int .u64 r.x3] 0 _))
  have FE := Hn ((⟨_, HH.out, TH.out, hw⟩ : ∃ wy, W.grownBy wy (some sb) ∧ wy.there sb 0 4 ∧ _ = wy.setCells sb 0 [.int .u64 r.x0, .int .u64 r.x1, .int .u64 r.x2, .int .u64 r.x3]))
  rw [← hw] at SN
  clear HH hw
  refine hK.out _ _ SN.out (fun hH4 => ?_)
  clear hK K SN
  have HH := Hn hH4
  have FQ := Hn (HQ.out _ FE.out)
  refine wpAnyH_done (by kernel_rfl) ?_ _
  refine NoPanic.normal ?_
  exact FQ.out
 ·unfold ea5o_13 oO
  have HH := Hn hH0
  clear hH0
  go_simp
  refine (C9.out _ HH.out).mono ?_
  rintro e wn1 ⟨rfl, hb⟩
  replace RG := Hn (range_bl RG.out hb)
  replace TH := Hn (there_bl TH.out hb)
  have SN := Hn (HH.out.trans (gbI hb _))
  clear HH C9 hb
  go_wp2_with fail
  refine hK.out _ _ SN.out (fun hH1 => ?_)
  clear hK K SN
  refine ar [0] ?_
  refine ac ea5o_0 (fun K hK => ?_) AllReadyH.nil
  unfold ea5o_0 oO
  have HH := Hn hH1
  clear hH1
  refine wp_load_mid 53 _ rfl sb 0 (by rfl) [.int .u64 z.x0, .int .u64 z.x1, .int .u64 z.x2, .int .u64 z.x3] _ RG.out Tryz.underlying53 rfl i4_s ?_
  simp only [Act.put, sA, sB, sC]
  have SN := HH
  clear HH
  refine hK.out _ _ SN.out (fun hH2 => ?_)
  clear hK K SN
  refine ar [14] ?_
  refine ac ea5o_14 (fun K hK => ?_) AllReadyH.nil
  unfold ea5o_14 oO
  have HH := Hn hH2
  clear hH2
  go_simp
  refine (C10.out _ HH.out).mono ?_
  rintro e wn3 ⟨rfl, hb⟩
  replace RG := Hn (range_bl RG.out hb)
  replace TH := Hn (there_bl TH.out hb)
  have SN := Hn (HH.out.trans (gbI hb _))
  clear HH C10 hb
  go_wp2_with fail
  refine hK.out _ _ SN.out (fun hH3 => ?_)
  clear hK K SN
  refine ar [15] ?_
  refine ac ea5o_15 (fun K hK => ?_) AllReadyH.nil
  unfold ea5o_15 oN
  have HH := Hn hH3
  clear hH3
  refine wp_storeE 53 _ _ rfl sb 0 ([.int .u64 r.x0, .int .u64 r.x1, .int .u64 r.x2, .int .u64 r.x3]) (by rfl) (by rfl) TH.out i4_s (one4 r) rfl (fun wn4 hw => ?_)
  have SN := Hn (HH.out.trans (gb_setCells sb [.int .u64 r.x0, .int .u64 r.x1, .int .u64 r.x2, .int .u64 r.x3] 0 _))
  have FE := Hn ((⟨_, HH.out, TH.out, hw⟩ : ∃ wy, W.grownBy wy (some sb) ∧ wy.there sb 0 4 ∧ _ = wy.setCells sb 0 [.int .u64 r.x0, .int .u64 r.x1, .int .u64 r.x2, .int .u64 r.x3]))
  rw [← hw] at SN
  clear HH hw
  refine hK.out _ _ SN.out (fun hH4 => ?_)
  clear hK K SN
  have HH := Hn hH4
  have FQ := Hn (HQ.out _ FE.out)
  refine wpAnyH_done (by kernel_rfl) ?_ _
  refine NoPanic.normal ?_
  exact FQ.out
structure Es (w w3 : World) (sb : Nat) (r : E4) (x : World) : Prop where
 bel : Below sb w3 x
 rg : x.rangeAt sb 0 [.int .u64 r.x0, .int .u64 r.x1, .int .u64 r.x2, .int .u64 r.x3]
 th : x.there sb 0 4
theorem nsum_any (N : Nat → Sl) (P : Option Addr) (m c : Nat) (f : Nat → Trm) (w : World) (hT : Tb w) (hm : m ≤ 2932031007402) (hN : ∀ k, k < 6 → (N k).at w) (hf : ∀ k, k < m → (f k).a.ok) (hq : ∀ k, k < m → Nm N (f k).q) (hL : Lt w P m f) :
  Calls Tryz.prog 60 #[.agg #[(N 0).v, (N 1).v, (N 2).v, (N 3).v, (N 4).v, (N 5).v], .slice P m c] w fun e w' => e = .returned (.agg #[.int .u64 (es N f m).x0, .int .u64 (es N f m).x1, .int .u64 (es N f m).x2, .int .u64 (es N f m).x3]) ∧ Below w.heap.size w w' := by
 have B1 := bl_alloc w (.cells #[(N 0).v, (N 1).v, (N 2).v, (N 3).v, (N 4).v, (N 5).v] 139)
 have B3 := bl_trans B1 (bl_alloc2 (w.alloc (.cells #[(N 0).v, (N 1).v, (N 2).v, (N 3).v, (N 4).v, (N 5).v] 139)) (.cells #[.int .u64 0, .int .u64 0, .int .u64 0, .int .u64 0] 53) (.cells #[.int .u64 0, .int .u64 0, .int .u64 0, .int .u64 0] 53))
 have HN := Hn hN
 have HF := Hn hf
 have HQ := Hn hq
 have HT := Hn hT
 have HM := Hn hm
 have HL := Hn hL
 clear hN hf hq hT hm hL
 go_enter Tryz.func60, Tryz.ntmps60
 go_upto_region 2 with fail
 have S0 : Hid (Es w (((w.alloc (.cells #[(N 0).v, (N 1).v, (N 2).v, (N 3).v, (N 4).v, (N 5).v] 139)).alloc (.cells #[.int .u64 0, .int .u64 0, .int .u64 0, .int .u64 0] 53)).alloc (.cells #[.int .u64 0, .int .u64 0, .int .u64 0, .int .u64 0] 53)) (w.heap.size + 1 + 1) (es N f 0) (((w.alloc (.cells #[(N 0).v, (N 1).v, (N 2).v, (N 3).v, (N 4).v, (N 5).v] 139)).alloc (.cells #[.int .u64 0, .int .u64 0, .int .u64 0, .int .u64 0] 53)).alloc (.cells #[.int .u64 0, .int .u64 0, .int .u64 0, .int .u64 0] 53))) := Hn ⟨Below.refl _ _, by
  have := range_newM ((w.alloc (.cells #[(N 0).v, (N 1).v, (N 2).v, (N 3).v, (N 4).v, (N 5).v] 139)).alloc (.cells #[.int .u64 0, .int .u64 0, .int .u64 0, .int .u64 0] 53)) [.int .u64 0, .int .u64 0, .int .u64 0, .int .u64 0] 53
  simpa [World.size_alloc, es] using this, by
  have := there_newM ((w.alloc (.cells #[(N 0).v, (N 1).v, (N 2).v, (N 3).v, (N 4).v, (N 5).v] 139)).alloc (.cells #[.int .u64 0, .int .u64 0, .int .u64 0, .int .u64 0] 53)) [.int .u64 0, .int .u64 0, .int .u64 0, .int .u64 0] 53
  simpa [World.size_alloc] using this⟩
 have NC : Hid (∀ k, k < 6 → (((w.alloc (.cells #[(N 0).v, (N 1).v, (N 2).v, (N 3).v, (N 4).v, (N 5).v] 139)).alloc (.cells #[.int .u64 0, .int .u64 0, .int .u64 0, .int .u64 0] 53)).alloc (.cells #[.int .u64 0, .int .u64 0, .int .u64 0, .int .u64 0] 53)).cell? ⟨w.heap.size, k, none⟩ = some (N k).v) := Hn (fun k hk => by
  match k, hk with
  | 0, _ => go_simp
  | 1, _ => go_simp
  | 2, _ => go_simp
  | 3, _ => go_simp
  | 4, _ => go_simp
  | 5, _ => go_simp)
 have e0 : (((w.alloc (.cells #[(N 0).v, (N 1).v, (N 2).v, (N 3).v, (N 4).v, (N 5).v] 139)).alloc (.cells #[.int .u64 0, .int .u64 0, .int .u64 0, .int .u64 0] 53)).alloc (.cells #[.int .u64 0, .int .u64 0, .int .u64 0, .int .u64 0] 53)).cell? ⟨w.heap.size + 1, 0, none⟩ = some (.int .u64 0) := by go_simp
 have f0 : (((w.alloc (.cells #[(N 0).v, (N 1).v, (N 2).v, (N 3).v, (N 4).v, (N 5).v] 139)).alloc (.cells #[.int .u64 0, .int .u64 0, .int .u64 0, .int .u64 0] 53)).alloc (.cells #[.int .u64 0, .int .u64 0, .int .u64 0, .int .u64 0] 53)).frozen? ⟨w.heap.size + 1, 0, none⟩ = false := by go_simp
 have e1 : (((w.alloc (.cells #[(N 0).v, (N 1).v, (N 2).v, (N 3).v, (N 4).v, (N 5).v] 139)).alloc (.cells #[.int .u64 0, .int .u64 0, .int .u64 0, .int .u64 0] 53)).alloc (.cells #[.int .u64 0, .int .u64 0, .int .u64 0, .int .u64 0] 53)).cell? ⟨w.heap.size + 1, 1, none⟩ = some (.int .u64 0) := by go_simp
 have f1 : (((w.alloc (.cells #[(N 0).v, (N 1).v, (N 2).v, (N 3).v, (N 4).v, (N 5).v] 139)).alloc (.cells #[.int .u64 0, .int .u64 0, .int .u64 0, .int .u64 0] 53)).alloc (.cells #[.int .u64 0, .int .u64 0, .int .u64 0, .int .u64 0] 53)).frozen? ⟨w.heap.size + 1, 1, none⟩ = false := by go_simp
 have e2 : (((w.alloc (.cells #[(N 0).v, (N 1).v, (N 2).v, (N 3).v, (N 4).v, (N 5).v] 139)).alloc (.cells #[.int .u64 0, .int .u64 0, .int .u64 0, .int .u64 0] 53)).alloc (.cells #[.int .u64 0, .int .u64 0, .int .u64 0, .int .u64 0] 53)).cell? ⟨w.heap.size + 1, 2, none⟩ = some (.int .u64 0) := by go_simp
 have f2 : (((w.alloc (.cells #[(N 0).v, (N 1).v, (N 2).v, (N 3).v, (N 4).v, (N 5).v] 139)).alloc (.cells #[.int .u64 0, .int .u64 0, .int .u64 0, .int .u64 0] 53)).alloc (.cells #[.int .u64 0, .int .u64 0, .int .u64 0, .int .u64 0] 53)).frozen? ⟨w.heap.size + 1, 2, none⟩ = false := by go_simp
 have e3 : (((w.alloc (.cells #[(N 0).v, (N 1).v, (N 2).v, (N 3).v, (N 4).v, (N 5).v] 139)).alloc (.cells #[.int .u64 0, .int .u64 0, .int .u64 0, .int .u64 0] 53)).alloc (.cells #[.int .u64 0, .int .u64 0, .int .u64 0, .int .u64 0] 53)).cell? ⟨w.heap.size + 1, 3, none⟩ = some (.int .u64 0) := by go_simp
 have f3 : (((w.alloc (.cells #[(N 0).v, (N 1).v, (N 2).v, (N 3).v, (N 4).v, (N 5).v] 139)).alloc (.cells #[.int .u64 0, .int .u64 0, .int .u64 0, .int .u64 0] 53)).alloc (.cells #[.int .u64 0, .int .u64 0, .int .u64 0, .int .u64 0] 53)).frozen? ⟨w.heap.size + 1, 3, none⟩ = false := by go_simp
 have SZ : Hid ((((w.alloc (.cells #[(N 0).v, (N 1).v, (N 2).v, (N 3).v, (N 4).v, (N 5).v] 139)).alloc (.cells #[.int .u64 0, .int .u64 0, .int .u64 0, .int .u64 0] 53)).alloc (.cells #[.int .u64 0, .int .u64 0, .int .u64 0, .int .u64 0] 53)).heap.size = w.heap.size + 1 + 1 + 1) := Hn (by simp only [World.size_alloc])
 generalize (((w.alloc (.cells #[(N 0).v, (N 1).v, (N 2).v, (N 3).v, (N 4).v, (N 5).v] 139)).alloc (.cells #[.int .u64 0, .int .u64 0, .int .u64 0, .int .u64 0] 53)).alloc (.cells #[.int .u64 0, .int .u64 0, .int .u64 0, .int .u64 0] 53)) = w3 at *
 have HB := Hn B3
 clear B1 B3
 go_upto_region 3 with fail
 go_loopw [10] (fun iv w' => ∃ i : Nat, i ≤ m ∧ iv = .int .i64 (i : Int) ∧ Hid (Es w w3 (w.heap.size + 1 + 1) (es N f i) w')) (fun i _ => m - (intOf i).toNat)
 case atStart => exact ⟨0, by omega, rfl, S0⟩
 case round =>
  clear S0
  obtain ⟨i, hi, rfl, hS⟩ := hrel
  by_cases hin : i < m
  ·have i0' : (0 : Int) ≤ (i : Int) := by omega
   have i1' : (i : Int) < (m : Int) := by omega
   have w9 : IntKind.i64.wrap ((i : Int) + 1) = (i : Int) + 1 := IntWalk.i64_in _ (by have := HM.out; omega)
   have sz := SZ.out
   have sr := hS.out.bel.size
   have BW : Below w.heap.size w wr := below_tr HB.out (hS.out.bel.mono (by omega))
   obtain ⟨xb, xo, hPs, hRt⟩ := HL.out
   obtain rfl := hPs (by omega)
   have rt := (hRt (by omega)).keep BW
   have a0 := rt.c0 i hin
   have a1 := rt.c1 i hin
   have a2 := rt.c2 i hin
   have a3 := rt.c3 i hin
   have a4 := rt.c4 i hin
   have a5 := rt.c5 i hin
   have hq := HQ.out i hin
   have oa := HF.out i hin
   obtain ⟨kk, hkk⟩ : ∃ kk : Nat, (f i).q.1 = (kk : Int) := ⟨(f i).q.1.toNat, by have := hq.k0; omega⟩
   obtain ⟨ii, hii⟩ : ∃ ii : Nat, (f i).q.2 = (ii : Int) := ⟨(f i).q.2.toNat, by have := hq.i0; omega⟩
   have k6 : kk < 6 := by have := hq.k1; omega
   have en : nw N (f i).q = (N kk).g ii := by unfold nw; rw [hkk, hii]; rfl
   have iin : ii < (N kk).n := by have := hq.i1; rw [hkk, hii] at this; simp at this; omega
   have hE := HN.out kk k6
   have oe := hE.ok ii iin
   obtain ⟨eb, eo, h1, h2⟩ := hE.at'
   have pe := h1 (by omega)
   have re := (h2 (by omega)).keep BW
   have nc := (hS.out.bel.cell (p := ⟨w.heap.size, kk, none⟩) (by show w.heap.size < w.heap.size + 1 + 1; omega)).trans (NC.out kk k6)
   unfold Sl.v at nc
   rw [pe] at nc
   rw [hkk] at a0
   rw [hii] at a1
   have hr : lst ((es N f i).n + (lst ((f i).a.n * ((N kk).g ii).n)).n) = es N f (i + 1) := by rw [← en]; rfl
   have oz := es_ok N f i
   have RG := hS.out.rg
   have TH := hS.out.th
   have BS := Hn hS.out.bel
   have le : eb < w.heap.size := World.block_lt_of_cell? w _ ((h2 (by omega)).c0 ii iin)
   have y0 := re.c0 ii iin
   have y1 := re.c1 ii iin
   have y2 := re.c2 ii iin
   have y3 := re.c3 ii iin
   clear hq rt hRt hPs re h1 h2 hE en pe hkk hii
   generalize (f i).a = p at *
   generalize (N kk).g ii = ev at *
   generalize (N kk).n = en at *
   generalize (N kk).c = ec at *
   generalize hv : es N f (i + 1) = rv at hr
   have HE := Hn hv
   clear hv hS
   generalize es N f i = z at *
   go_upto_region 5 with fail
   have BA := bl_alloc wr (.cells #[.int .i64 (kk : Int), .int .i64 (ii : Int), .int .u64 p.x0, .int .u64 p.x1, .int .u64 p.x2, .int .u64 p.x3] 55)
   have t0 : (wr.alloc (.cells #[.int .i64 (kk : Int), .int .i64 (ii : Int), .int .u64 p.x0, .int .u64 p.x1, .int .u64 p.x2, .int .u64 p.x3] 55)).cell? ⟨wr.heap.size, 0, none⟩ = some (.int .i64 (kk : Int)) := by go_simp
   have t1 : (wr.alloc (.cells #[.int .i64 (kk : Int), .int .i64 (ii : Int), .int .u64 p.x0, .int .u64 p.x1, .int .u64 p.x2, .int .u64 p.x3] 55)).cell? ⟨wr.heap.size, 1, none⟩ = some (.int .i64 (ii : Int)) := by go_simp
   have t2 : (wr.alloc (.cells #[.int .i64 (kk : Int), .int .i64 (ii : Int), .int .u64 p.x0, .int .u64 p.x1, .int .u64 p.x2, .int .u64 p.x3] 55)).cell? ⟨wr.heap.size, 2, none⟩ = some (.int .u64 p.x0) := by go_simp
   have t3 : (wr.alloc (.cells #[.int .i64 (kk : Int), .int .i64 (ii : Int), .int .u64 p.x0, .int .u64 p.x1, .int .u64 p.x2, .int .u64 p.x3] 55)).cell? ⟨wr.heap.size, 3, none⟩ = some (.int .u64 p.x1) := by go_simp
   have t4 : (wr.alloc (.cells #[.int .i64 (kk : Int), .int .i64 (ii : Int), .int .u64 p.x0, .int .u64 p.x1, .int .u64 p.x2, .int .u64 p.x3] 55)).cell? ⟨wr.heap.size, 4, none⟩ = some (.int .u64 p.x2) := by go_simp
   have t5 : (wr.alloc (.cells #[.int .i64 (kk : Int), .int .i64 (ii : Int), .int .u64 p.x0, .int .u64 p.x1, .int .u64 p.x2, .int .u64 p.x3] 55)).cell? ⟨wr.heap.size, 5, none⟩ = some (.int .u64 p.x3) := by go_simp
   have nc2 := cell_keep nc BA
   have z0 := cell_keep y0 BA
   have z1 := cell_keep y1 BA
   have z2 := cell_keep y2 BA
   have z3 := cell_keep y3 BA
   have RG2 := range_bl RG BA
   have TH2 := there_bl TH BA
   have BW2 := bl_trans BW BA
   have BS2 : Hid (Below (w.heap.size + 1 + 1) w3 (wr.alloc (.cells #[.int .i64 (kk : Int), .int .i64 (ii : Int), .int .u64 p.x0, .int .u64 p.x1, .int .u64 p.x2, .int .u64 p.x3] 55))) := Hn (below_tr BS.out (BA.mono (by omega)))
   have tbn : wr.heap.size ≠ w.heap.size + 1 + 1 := by omega
   have sz5 := BS2.out.size
   clear nc y0 y1 y2 y3 RG TH BW BS BA a0 a1 a2 a3 a4 a5 sr
   generalize wr.alloc (.cells #[.int .i64 (kk : Int), .int .i64 (ii : Int), .int .u64 p.x0, .int .u64 p.x1, .int .u64 p.x2, .int .u64 p.x3] 55) = w5 at *
   generalize wr.heap.size = tb at *
   obtain ⟨u, hu⟩ : ∃ u, lst (p.n * ev.n) = u := ⟨_, rfl⟩
   have NS : ∀ wy, w5.grownBy wy (some (w.heap.size + 1 + 1)) → wy.there (w.heap.size + 1 + 1) 0 4 → Es w w3 (w.heap.size + 1 + 1) rv (wy.setCells (w.heap.size + 1 + 1) 0 [.int .u64 rv.x0, .int .u64 rv.x1, .int .u64 rv.x2, .int .u64 rv.x3]) := fun wy hy ht => by
    have b1 : Below (w.heap.size + 1 + 1) w3 wy := below_tr BS2.out (below_grown hy (by omega) (fun k hk => by have := Option.some.inj hk; omega))
    exact ⟨below_tr b1 (below_grown (gb_setCells _ _ 0 _) (by have := b1.size; omega) (fun k hk => by have := Option.some.inj hk; omega)), World.rangeAt_setCells_same wy (w.heap.size + 1 + 1) 0 _ ht, there_set ht _ 0 _⟩
   have AL : ∀ y, w5.grownBy y (some (w.heap.size + 1 + 1)) → Below w.heap.size w y := fun y hy => BW2.grown hy BW2.size (fun j hj => by obtain rfl := Option.some.inj hj; omega)
   have C9 := fun y (hy : w5.grownBy y (some (w.heap.size + 1 + 1))) => fix (R := lst (p.n * ev.n)) (Mul_any p ev y (HT.out.keep (AL y hy)) oa oe) rfl
   rw [hu] at hr C9
   have C10 := fun y (hy : w5.grownBy y (some (w.heap.size + 1 + 1))) => fix (R := lst (z.n + u.n)) (Add_any z u y (HT.out.keep (AL y hy)) oz (hu ▸ lst_ok _)) rfl
   rw [hr] at C10
   simp only [E4.v] at C9 C10
   replace C9 := Hn C9
   replace C10 := Hn C10
   refine ea5 _ w.heap.size (w.heap.size + 1 + 1) tb kk ii eb eo en ec z p ev u rv _ _ _ _ _ _ _ _ _ _ _ _ _ _ _ _ _ _ _ _ _ _ _ _ _ _ _ _ w5 (by omega) (by omega) (by omega) (by omega) tbn (by omega) (by omega) RG2 TH2 t0 t1 t2 t3 t4 t5 nc2 z0 z1 z2 z3 C9 C10 (Hn ?_)
   intro wz hz
   have PN : Hid (Es w w3 (w.heap.size + 1 + 1) rv wz) := Hn (by
    obtain ⟨wy, hy, hty, rfl⟩ := hz
    exact NS wy hy hty)
   clear C9 C10 AL hz RG2 TH2 NS t0 t1 t2 t3 t4 t5 nc2 z0 z1 z2 z3
   go_wp2_with fail
   go_roundw
   case rel => exact ⟨i + 1, by omega, by go_num, by rw [HE.out]; exact PN⟩
   case measure => simp [intOf]; omega
  ·obtain rfl : i = m := by omega
   have lq : ¬ (i : Int) < (i : Int) := by omega
   have a0 := (hS.out.bel.cell (p := ⟨w.heap.size + 1, 0, none⟩) (Nat.lt_succ_self _)).trans e0
   have g0 := (hS.out.bel.frozen (p := ⟨w.heap.size + 1, 0, none⟩) (Nat.lt_succ_self _)).trans f0
   have t0 : wr.cell? ⟨w.heap.size + 1 + 1, 0, none⟩ = some (.int .u64 (es N f i).x0) := hS.out.rg 0 _ rfl
   have a1 := (hS.out.bel.cell (p := ⟨w.heap.size + 1, 1, none⟩) (Nat.lt_succ_self _)).trans e1
   have g1 := (hS.out.bel.frozen (p := ⟨w.heap.size + 1, 1, none⟩) (Nat.lt_succ_self _)).trans f1
   have t1 : wr.cell? ⟨w.heap.size + 1 + 1, 1, none⟩ = some (.int .u64 (es N f i).x1) := hS.out.rg 1 _ rfl
   have a2 := (hS.out.bel.cell (p := ⟨w.heap.size + 1, 2, none⟩) (Nat.lt_succ_self _)).trans e2
   have g2 := (hS.out.bel.frozen (p := ⟨w.heap.size + 1, 2, none⟩) (Nat.lt_succ_self _)).trans f2
   have t2 : wr.cell? ⟨w.heap.size + 1 + 1, 2, none⟩ = some (.int .u64 (es N f i).x2) := hS.out.rg 2 _ rfl
   have a3 := (hS.out.bel.cell (p := ⟨w.heap.size + 1, 3, none⟩) (Nat.lt_succ_self _)).trans e3
   have g3 := (hS.out.bel.frozen (p := ⟨w.heap.size + 1, 3, none⟩) (Nat.lt_succ_self _)).trans f3
   have t3 : wr.cell? ⟨w.heap.size + 1 + 1, 3, none⟩ = some (.int .u64 (es N f i).x3) := hS.out.rg 3 _ rfl
   have sz := SZ.out
   have BW : Below w.heap.size w wr := below_tr HB.out (hS.out.bel.mono (by omega))
   have GX := Hn BW
   clear BW
   clear hS
   go_wp2_with fail
   have BF := below_tr GX.out (below_grown (base := w.heap.size) (gb_setCells (w.heap.size + 1) [.int .u64 (es N f i).x0, .int .u64 (es N f i).x1, .int .u64 (es N f i).x2, .int .u64 (es N f i).x3] 0 wr) (by have := GX.out.size; omega) (fun k hk => by have := Option.some.inj hk; omega))
   refine bodyPost_ret (v := .agg #[.int .u64 (es N f i).x0, .int .u64 (es N f i).x1, .int .u64 (es N f i).x2, .int .u64 (es N f i).x3]) (by simp [results, Tryz.results60, go_sem, a0, a1, a2, a3]) rfl ⟨rfl, BF⟩
end Ci
end Go.Proofs.YtljmgfclhbadjaaGreatDoor
namespace Go.Proofs.YtljmgfclhbadjaaGreatDoor
set_option maxRecDepth 100000
set_option maxHeartbeats 16000000
open Go.RowKit
set_option linter.unusedVariables false
set_option linter.unusedSimpArgs false
open Cm (Wr Tm co bf Ls lf ins Eqm)
namespace Ci
theorem i6n : (Tryz.prog.info? 139).map (·.size) = some 6 := by kernel_rfl
theorem one6n (tb : Nat) (l r o v : Sl) : ([.slice none 0 0, .slice (some ⟨tb, 0, none⟩) 1 1, .slice l.p l.n l.c, .slice r.p r.n r.c, .slice o.p o.n o.c, .slice v.p v.n v.c] : List Value).toArray.all (·.oneCell') = true := by simp [Value.oneCell']
theorem build1S (w : World) : (Instr.buildSlice 41 1 #[(0, .agg #[.int .u64 1, .int .u64 0, .int .u64 0, .int .u64 0])]).run Tryz.prog w = .ok (.slice (some ⟨w.heap.size, 0, none⟩) 1 1) (w.alloc (.cells #[.int .u64 1, .int .u64 0, .int .u64 0, .int .u64 0] 53)) := by kernel_rfl
theorem wp_build1S {w : World} {o : Oper} {a : Act} {K : Act → World → Prop} {Q : Exit → Act → World → Prop} (x0 : Operand) (ho : o.op = .buildSlice 41 1 #[(0, x0)]) (h0 : a.eval x0 = .agg #[.int .u64 1, .int .u64 0, .int .u64 0, .int .u64 0]) (h : ∀ (tb : Nat) (wq : World), tb = w.heap.size → wq = w.alloc (.cells #[.int .u64 1, .int .u64 0, .int .u64 0, .int .u64 0] 53) → K (a.put o.dst (.slice (some ⟨tb, 0, none⟩) 1 1)) wq) : o.wp Tryz.prog a w K Q := by
 have hr := build1S w
 unfold Oper.wp execOp
 simp only [ho, Sem.run_bind, Sem.run_pure, Result.andThen_ok, List.map_toArray, List.map_cons, List.map_nil, h0, hr]
 exact h _ _ rfl rfl
def nb1o_0 : Oper := oO 3 (Op.call { callee := Callee.value (Operand.func 120), args := #[Operand.const (Value.int IntKind.u64 1)], argTypes := #[25] }) 53 "numbers.go:24" #[]
def nb1o_1 : Oper := oO 4 (Op.buildSlice 41 1 #[(0, Operand.tmp 3)]) 41 "numbers.go:24" #[DD 0]
def nb1o_2 : Oper := oO 5 (Op.fieldAddr 43 (Operand.tmp 1) 0) 0 "numbers.go:24" #[]
def nb1o_3 : Oper := oO 6 (Op.load 41 (Operand.tmp 5)) 41 "numbers.go:24" #[DD 2]
def nb1o_4 : Oper := oO 7 (Op.fieldAddr 43 (Operand.tmp 1) 1) 0 "numbers.go:24" #[]
def nb1o_5 : Oper := oO 8 (Op.load 41 (Operand.tmp 7)) 41 "numbers.go:24" #[DD 4]
def nb1o_6 : Oper := oO 9 (Op.fieldAddr 43 (Operand.tmp 1) 2) 0 "numbers.go:24" #[]
def nb1o_7 : Oper := oO 10 (Op.load 41 (Operand.tmp 9)) 41 "numbers.go:24" #[DD 6]
def nb1o_8 : Oper := oO 11 (Op.fieldAddr 43 (Operand.tmp 1) 3) 0 "numbers.go:24" #[]
def nb1o_9 : Oper := oO 12 (Op.load 41 (Operand.tmp 11)) 41 "numbers.go:24" #[DD 8]
def nb1o_10 : Oper := oO 13 (Op.build 139 #[(1, Operand.tmp 4), (2, Operand.tmp 6), (3, Operand.tmp 8), (4, Operand.tmp 10), (5, Operand.tmp 12)]) 139 "numbers.go:24" #[DD 1, DD 3, DD 5, DD 7, DD 9]
def nb1o_11 : Oper := oN (Op.store 139 (Operand.tmp 2) (Operand.tmp 13)) "numbers.go:24" #[DD 10, CH 0, PH 0, PH 1, PH 2, PH 3, PH 4, PH 5, PH 6, PH 7, PH 8, PH 9, PH 10]
def nb1o : Array Oper := #[nb1o_0, nb1o_1, nb1o_2, nb1o_3, nb1o_4, nb1o_5, nb1o_6, nb1o_7, nb1o_8, nb1o_9, nb1o_10, nb1o_11]
theorem nb1 (Q : Exit → Act → World → Prop) (ab rb : Nat) (l r o v : Sl) (u0 u3 u4 u5 u6 u7 u8 u9 u10 u11 u12 u13 : Value) (W : World)
  (neA : some ab ≠ some rb) (c0 : W.cell? ⟨ab, 0, none⟩ = some (.slice l.p l.n l.c)) (c1 : W.cell? ⟨ab, 1, none⟩ = some (.slice r.p r.n r.c)) (c2 : W.cell? ⟨ab, 2, none⟩ = some (.slice o.p o.n o.c)) (c3 : W.cell? ⟨ab, 3, none⟩ = some (.slice v.p v.n v.c)) (th : W.there rb 0 6) (RL : Hid (rb < W.heap.size))
  (C1 : Hid (∀ y, Calls Tryz.prog 120 #[.int .u64 1] y fun e w' => e = .returned (.agg #[.int .u64 1, .int .u64 0, .int .u64 0, .int .u64 0]) ∧ Below y.heap.size y w'))
  (HQ : Hid (∀ (wz : World) (tb : Nat), W.grownBy wz (some rb) → wz.rangeAt tb 0 [.int .u64 1, .int .u64 0, .int .u64 0, .int .u64 0] → (∃ wy, World.there wy rb 0 6 ∧ wz = wy.setCells rb 0 [.slice none 0 0, .slice (some ⟨tb, 0, none⟩) 1 1, .slice l.p l.n l.c, .slice r.p r.n r.c, .slice o.p o.n o.c, .slice v.p v.n v.c]) → Q .normal ⟨#[u0, .pointer (some ⟨ab, 0, none⟩), .pointer (some ⟨rb, 0, none⟩), .agg #[.int .u64 1, .int .u64 0, .int .u64 0, .int .u64 0], .slice (some ⟨tb, 0, none⟩) 1 1, .pointer (some ⟨ab, 0, none⟩), .slice l.p l.n l.c, .pointer (some ⟨ab, 1, none⟩), .slice r.p r.n r.c, .pointer (some ⟨ab, 2, none⟩), .slice o.p o.n o.c, .pointer (some ⟨ab, 3, none⟩), .slice v.p v.n v.c, .agg #[.slice none 0 0, .slice (some ⟨tb, 0, none⟩) 1 1, .slice l.p l.n l.c, .slice r.p r.n r.c, .slice o.p o.n o.c, .slice v.p v.n v.c]], []⟩ wz)) : (Code.region 1 nb1o true).wp Tryz.prog Q ⟨#[u0, .pointer (some ⟨ab, 0, none⟩), .pointer (some ⟨rb, 0, none⟩), u3, u4, u5, u6, u7, u8, u9, u10, u11, u12, u13], []⟩ W := by
 have TH := Hn (there_bl th (bl_drew W))
 clear th
 unfold nb1o
 refine wp_region_noPanic ?_
 refine wp_region_held_drew (S := fun x => W.grownBy x (some rb)) (by kernel_rfl) (gbI (bl_drew W) _) (fun hH0 => ?_)
 refine tj 2 nb1o_2 (.pointer (some ⟨ab, 0, none⟩)) hH0 (fun w0 hSw => ?_) ?_
 ·(unfold nb1o_2 oO; clear hSw; go_simp)
 simp only [nb1o_2, oO, Act.put, sA, sB, sC]
 refine tj 4 nb1o_4 (.pointer (some ⟨ab, 1, none⟩)) hH0 (fun w0 hSw => ?_) ?_
 ·(unfold nb1o_4 oO; clear hSw; go_simp)
 simp only [nb1o_4, oO, Act.put, sA, sB, sC]
 refine tj 6 nb1o_6 (.pointer (some ⟨ab, 2, none⟩)) hH0 (fun w0 hSw => ?_) ?_
 ·(unfold nb1o_6 oO; clear hSw; go_simp)
 simp only [nb1o_6, oO, Act.put, sA, sB, sC]
 refine tj 8 nb1o_8 (.pointer (some ⟨ab, 3, none⟩)) hH0 (fun w0 hSw => ?_) ?_
 ·(unfold nb1o_8 oO; clear hSw; go_simp)
 simp only [nb1o_8, oO, Act.put, sA, sB, sC]
 refine tj 3 nb1o_3 (.slice l.p l.n l.c) hH0 (fun w0 hSw => ?_) ?_
 ·(unfold nb1o_3 oO; have hS : W.grownBy w0 (some rb) := hSw; have a0 := hS.cell c0 neA; clear hS hSw; go_simp)
 simp only [nb1o_3, oO, Act.put, sA, sB, sC]
 refine tj 5 nb1o_5 (.slice r.p r.n r.c) hH0 (fun w0 hSw => ?_) ?_
 ·(unfold nb1o_5 oO; have hS : W.grownBy w0 (some rb) := hSw; have a0 := hS.cell c1 neA; clear hS hSw; go_simp)
 simp only [nb1o_5, oO, Act.put, sA, sB, sC]
 refine tj 7 nb1o_7 (.slice o.p o.n o.c) hH0 (fun w0 hSw => ?_) ?_
 ·(unfold nb1o_7 oO; have hS : W.grownBy w0 (some rb) := hSw; have a0 := hS.cell c2 neA; clear hS hSw; go_simp)
 simp only [nb1o_7, oO, Act.put, sA, sB, sC]
 refine tj 9 nb1o_9 (.slice v.p v.n v.c) hH0 (fun w0 hSw => ?_) ?_
 ·(unfold nb1o_9 oO; have hS : W.grownBy w0 (some rb) := hSw; have a0 := hS.cell c3 neA; clear hS hSw; go_simp)
 simp only [nb1o_9, oO, Act.put, sA, sB, sC]
 refine ar [0] ?_
 refine ac nb1o_0 (fun K hK => ?_) AllReadyH.nil
 unfold nb1o_0 oO
 have HH := Hn hH0
 clear hH0
 go_simp
 refine (C1.out _).mono ?_
 rintro e wn1 ⟨rfl, hb⟩
 have SN := Hn (HH.out.trans (gbI hb _))
 replace TH := Hn (there_bl TH.out hb)
 clear HH C1 hb
 go_wp2_with fail
 refine hK.out _ _ SN.out (fun hH1 => ?_)
 clear hK K SN
 refine ar [1] ?_
 refine ac nb1o_1 (fun K hK => ?_) AllReadyH.nil
 unfold nb1o_1 oO
 have HH := Hn hH1
 clear hH1
 refine wp_build1S _ rfl rfl (fun tb wn2 htb hwq => ?_)
 have SN := Hn (by rw [hwq]; exact HH.out.trans (gbI (bl_alloc _ _) _) : W.grownBy wn2 (some rb))
 replace TH := Hn (by rw [hwq]; exact there_bl TH.out (bl_alloc _ _) : wn2.there rb 0 6)
 have ON := Hn (by rw [htb, hwq]; exact range_newM _ [.int .u64 1, .int .u64 0, .int .u64 0, .int .u64 0] _ : wn2.rangeAt tb 0 [.int .u64 1, .int .u64 0, .int .u64 0, .int .u64 0])
 have NE := Hn (by rw [htb]; intro e; have := HH.out.size; have := RL.out; omega : tb ≠ rb)
 clear HH htb hwq
 simp only [Act.put, sA, sB, sC]
 refine hK.out _ _ SN.out (fun hH2 => ?_)
 clear hK K SN
 refine tj 10 nb1o_10 (.agg #[.slice none 0 0, .slice (some ⟨tb, 0, none⟩) 1 1, .slice l.p l.n l.c, .slice r.p r.n r.c, .slice o.p o.n o.c, .slice v.p v.n v.c]) hH2 (fun w0 hSw => ?_) ?_
 ·(unfold nb1o_10 oO; clear hSw; go_simp)
 simp only [nb1o_10, oO, Act.put, sA, sB, sC]
 refine ar [11] ?_
 refine ac nb1o_11 (fun K hK => ?_) AllReadyH.nil
 unfold nb1o_11 oN
 have HH := Hn hH2
 clear hH2
 refine wp_storeE 139 _ _ rfl rb 0 ([.slice none 0 0, .slice (some ⟨tb, 0, none⟩) 1 1, .slice l.p l.n l.c, .slice r.p r.n r.c, .slice o.p o.n o.c, .slice v.p v.n v.c]) (by rfl) (by rfl) TH.out i6n (one6n _ _ _ _ _) rfl (fun wn3 hw => ?_)
 have SN := Hn (HH.out.trans (gb_setCells rb [.slice none 0 0, .slice (some ⟨tb, 0, none⟩) 1 1, .slice l.p l.n l.c, .slice r.p r.n r.c, .slice o.p o.n o.c, .slice v.p v.n v.c] 0 _))
 replace ON := Hn (fun j u hu => (gb_setCells rb [.slice none 0 0, .slice (some ⟨tb, 0, none⟩) 1 1, .slice l.p l.n l.c, .slice r.p r.n r.c, .slice o.p o.n o.c, .slice v.p v.n v.c] 0 _).cell (ON.out j u hu) (fun e => NE.out (Option.some.inj e)))
 have FE := Hn ((⟨_, TH.out, hw⟩ : ∃ wy, World.there wy rb 0 6 ∧ _ = wy.setCells rb 0 [.slice none 0 0, .slice (some ⟨tb, 0, none⟩) 1 1, .slice l.p l.n l.c, .slice r.p r.n r.c, .slice o.p o.n o.c, .slice v.p v.n v.c]))
 rw [← hw] at SN ON
 clear HH hw
 refine hK.out _ _ SN.out (fun hH3 => ?_)
 clear hK K SN
 have HH := Hn hH3
 have FQ := Hn (HQ.out _ tb HH.out ON.out FE.out)
 refine wpAnyH_done (by kernel_rfl) ?_ _
 refine NoPanic.normal ?_
 exact FQ.out
def nms (b : Nat) (l r o v : Sl) : Nat → Sl
 | 1 => ⟨some ⟨b, 0, none⟩, 1, 1, fun _ => lst 1⟩
 | 2 => l
 | 3 => r
 | 4 => o
 | 5 => v
 | _ => ⟨none, 0, 0, fun _ => ⟨0, 0, 0, 0⟩⟩
theorem one_at {w : World} {b : Nat} (h : w.rangeAt b 0 [.int .u64 1, .int .u64 0, .int .u64 0, .int .u64 0]) (l r o v : Sl) : (nms b l r o v 1).at w := by
 have e : lst 1 = ⟨1, 0, 0, 0⟩ := one_is
 refine ⟨⟨b, 0, fun _ => rfl, fun _ => ?_⟩, fun k hk => lst_ok _⟩
 have key : ∀ k, k < 1 → k = 0 := fun k hk => by omega
 refine ⟨fun k hk => ?_, fun k hk => ?_, fun k hk => ?_, fun k hk => ?_⟩
 ·obtain rfl := key k hk
  show World.cell? w ⟨b, 0 + 0 * 4, none⟩ = some (Value.int .u64 (lst 1).x0)
  rw [e]; exact h 0 _ rfl
 ·obtain rfl := key k hk
  show World.cell? w ⟨b, 0 + 0 * 4 + 1, none⟩ = some (Value.int .u64 (lst 1).x1)
  rw [e]; exact h 1 _ rfl
 ·obtain rfl := key k hk
  show World.cell? w ⟨b, 0 + 0 * 4 + 2, none⟩ = some (Value.int .u64 (lst 1).x2)
  rw [e]; exact h 2 _ rfl
 ·obtain rfl := key k hk
  show World.cell? w ⟨b, 0 + 0 * 4 + 3, none⟩ = some (Value.int .u64 (lst 1).x3)
  rw [e]; exact h 3 _ rfl
theorem numbers_any (l r o v : Sl) (w : World) : Calls Tryz.prog 57 #[.agg #[l.v, r.v, o.v, v.v]] w fun e w' => ∃ b, e = .returned (.agg #[(nms b l r o v 0).v, (nms b l r o v 1).v, (nms b l r o v 2).v, (nms b l r o v 3).v, (nms b l r o v 4).v, (nms b l r o v 5).v]) ∧ (nms b l r o v 1).at w' ∧ Below w.heap.size w w' := by
 simp only [Sl.v, nms]
 have C := fun y => fix (R := ⟨1, 0, 0, 0⟩) (Int_any 1 y (by unfold Sm.Wd; omega)) one_is
 simp only [E4.v] at C
 have C1 := Hn C
 clear C
 have BA := bl_alloc2 w (.cells #[.slice l.p l.n l.c, .slice r.p r.n r.c, .slice o.p o.n o.c, .slice v.p v.n v.c] 43) (.cells #[.slice none 0 0, .slice none 0 0, .slice none 0 0, .slice none 0 0, .slice none 0 0, .slice none 0 0] 139)
 have c0 : ((w.alloc (.cells #[.slice l.p l.n l.c, .slice r.p r.n r.c, .slice o.p o.n o.c, .slice v.p v.n v.c] 43)).alloc (.cells #[.slice none 0 0, .slice none 0 0, .slice none 0 0, .slice none 0 0, .slice none 0 0, .slice none 0 0] 139)).cell? ⟨w.heap.size, 0, none⟩ = some (.slice l.p l.n l.c) := by go_simp
 have c1 : ((w.alloc (.cells #[.slice l.p l.n l.c, .slice r.p r.n r.c, .slice o.p o.n o.c, .slice v.p v.n v.c] 43)).alloc (.cells #[.slice none 0 0, .slice none 0 0, .slice none 0 0, .slice none 0 0, .slice none 0 0, .slice none 0 0] 139)).cell? ⟨w.heap.size, 1, none⟩ = some (.slice r.p r.n r.c) := by go_simp
 have c2 : ((w.alloc (.cells #[.slice l.p l.n l.c, .slice r.p r.n r.c, .slice o.p o.n o.c, .slice v.p v.n v.c] 43)).alloc (.cells #[.slice none 0 0, .slice none 0 0, .slice none 0 0, .slice none 0 0, .slice none 0 0, .slice none 0 0] 139)).cell? ⟨w.heap.size, 2, none⟩ = some (.slice o.p o.n o.c) := by go_simp
 have c3 : ((w.alloc (.cells #[.slice l.p l.n l.c, .slice r.p r.n r.c, .slice o.p o.n o.c, .slice v.p v.n v.c] 43)).alloc (.cells #[.slice none 0 0, .slice none 0 0, .slice none 0 0, .slice none 0 0, .slice none 0 0, .slice none 0 0] 139)).cell? ⟨w.heap.size, 3, none⟩ = some (.slice v.p v.n v.c) := by go_simp
 have th := there_newM (w.alloc (.cells #[.slice l.p l.n l.c, .slice r.p r.n r.c, .slice o.p o.n o.c, .slice v.p v.n v.c] 43)) [.slice none 0 0, .slice none 0 0, .slice none 0 0, .slice none 0 0, .slice none 0 0, .slice none 0 0] 139
 simp only [World.size_alloc, List.length_cons, List.length_nil] at th
 have RL : Hid (w.heap.size + 1 < ((w.alloc (.cells #[.slice l.p l.n l.c, .slice r.p r.n r.c, .slice o.p o.n o.c, .slice v.p v.n v.c] 43)).alloc (.cells #[.slice none 0 0, .slice none 0 0, .slice none 0 0, .slice none 0 0, .slice none 0 0, .slice none 0 0] 139)).heap.size) := Hn (by simp only [World.size_alloc]; omega)
 have HB := Hn BA
 have neA : some w.heap.size ≠ some (w.heap.size + 1) := fun e => by have := Option.some.inj e; omega
 clear BA
 go_enter Tryz.func57, Tryz.ntmps57
 go_upto_region 1 with fail
 generalize ((w.alloc (.cells #[.slice l.p l.n l.c, .slice r.p r.n r.c, .slice o.p o.n o.c, .slice v.p v.n v.c] 43)).alloc (.cells #[.slice none 0 0, .slice none 0 0, .slice none 0 0, .slice none 0 0, .slice none 0 0, .slice none 0 0] 139)) = w2 at *
 refine nb1 _ w.heap.size (w.heap.size + 1) l r o v _ _ _ _ _ _ _ _ _ _ _ _ w2 neA c0 c1 c2 c3 th RL C1 (Hn ?_)
 rintro wz tb hg hon ⟨wy, hty, hwz⟩
 have R := World.rangeAt_setCells_same wy (w.heap.size + 1) 0 [.slice none 0 0, .slice (some ⟨tb, 0, none⟩) 1 1, .slice l.p l.n l.c, .slice r.p r.n r.c, .slice o.p o.n o.c, .slice v.p v.n v.c] hty
 rw [← hwz] at R
 have r0 := R 0 _ rfl
 have r1 := R 1 _ rfl
 have r2 := R 2 _ rfl
 have r3 := R 3 _ rfl
 have r4 := R 4 _ rfl
 have r5 := R 5 _ rfl
 simp only [Nat.zero_add] at r0 r1 r2 r3 r4 r5
 have HG := Hn hg
 have ON := Hn hon
 clear R hwz hg c0 c1 c2 c3 th hty hon
 go_wp2_with fail
 refine bodyPost_ret (v := .agg #[.slice none 0 0, .slice (some ⟨tb, 0, none⟩) 1 1, .slice l.p l.n l.c, .slice r.p r.n r.c, .slice o.p o.n o.c, .slice v.p v.n v.c]) (by simp [results, Tryz.results57, go_sem, r0, r1, r2, r3, r4, r5]) rfl ⟨tb, rfl, one_at ON.out l r o v, ?_⟩
 exact HB.out.grown HG.out HB.out.size (fun k hk => by obtain rfl := Option.some.inj hk; exact Nat.le_succ _)
theorem Values_any {base : Nat} {w : World} {s m Kg : Nat} {vv : Value} {vs : List Value} {Q : List (List Tm)} (h : Sy base w s m Kg vv vs Q) : Calls Tryz.prog 79 #[.pointer (some ⟨s, 0, none⟩)] w fun e w' => e = .returned (.int .i64 (m : Int)) ∧ w' = w := by
 have C := Hn (none_any h)
 have c0 := h.c0
 clear h
 go_enter Tryz.func79, Tryz.ntmps79
 go_wp2_with (go_at_call 43; refine C.out.mono ?_; rintro e w1 ⟨rfl, rfl⟩)
 refine bodyPost_ret (v := .int .i64 (m : Int)) (by simp [results, Tryz.results79, go_sem]) rfl ⟨rfl, rfl⟩
def cn (m Kg : Nat) : Nat → Nat
 | 1 => 1 | 2 => Kg | 3 => Kg | 4 => Kg | 5 => m | _ => 0
theorem cn_ct (m Kg k : Nat) : ((cn m Kg k : Nat) : Int) = ct m Kg k := by
 unfold cn ct
 split <;> simp_all
def ftB (N : Nat → Sl) (m Kg : Nat) : Bool := (List.range 6).all fun k => decide ((N k).n = cn m Kg k)
theorem ftB_iff (N : Nat → Sl) (m Kg : Nat) : ftB N m Kg = true ↔ ∀ k, k < 6 → (N k).n = cn m Kg k := by
 unfold ftB
 rw [List.all_eq_true]
 simp [List.mem_range]
theorem ix_run0 (m Kg i : Nat) (h2 : i < 6) (y : World) : (Instr.index 215 (.agg #[.int .i64 0, .int .i64 1, .int .i64 (Kg : Int), .int .i64 (Kg : Int), .int .i64 (Kg : Int), .int .i64 (m : Int)]) (.int .i64 (i : Int))).run Tryz.prog y = .ok (.int .i64 ((cn m Kg i : Nat) : Int)) y := by
 have hi : Tryz.prog.info? 3 = some (Tryz.prog.info? 3).get! := by kernel_rfl
 refine run_index_arrC (n := 6) (e := 3) (by kernel_rfl) (by kernel_rfl) hi (by kernel_rfl) (by omega) ?_
 match i, h2 with
 | 0, _ => rfl
 | 1, _ => rfl
 | 2, _ => rfl
 | 3, _ => rfl
 | 4, _ => rfl
 | 5, _ => rfl
theorem fits_any {base : Nat} {w : World} {s m Kg : Nat} {vv : Value} {vs : List Value} {Q : List (List Tm)} (h : Sy base w s m Kg vv vs Q) (N : Nat → Sl) : Calls Tryz.prog 58 #[.pointer (some ⟨s, 0, none⟩), .agg #[(N 0).v, (N 1).v, (N 2).v, (N 3).v, (N 4).v, (N 5).v]] w fun e w' => e = .returned (.bool (ftB N m Kg)) ∧ Below w.heap.size w w' := by
 have BA := bl_alloc w (.cells #[(N 0).v, (N 1).v, (N 2).v, (N 3).v, (N 4).v, (N 5).v] 139)
 have C := Hn (counts_any (h.keep BA))
 have NC : Hid (∀ k, k < 6 → (w.alloc (.cells #[(N 0).v, (N 1).v, (N 2).v, (N 3).v, (N 4).v, (N 5).v] 139)).cell? ⟨w.heap.size, k, none⟩ = some (N k).v) := Hn (fun k hk => by
  match k, hk with
  | 0, _ => go_simp
  | 1, _ => go_simp
  | 2, _ => go_simp
  | 3, _ => go_simp
  | 4, _ => go_simp
  | 5, _ => go_simp)
 have HB := Hn BA
 clear h BA
 go_enter Tryz.func58, Tryz.ntmps58
 go_upto_region 1 with fail
 generalize w.alloc (.cells #[(N 0).v, (N 1).v, (N 2).v, (N 3).v, (N 4).v, (N 5).v] 139) = w2 at *
 go_upto_region 2 with (go_at_call 121; refine C.out.mono ?_; rintro e w3 ⟨rfl, hb⟩; have B3 := Hn (bl_trans HB.out hb); have N3 : Hid (∀ k, k < 6 → w3.cell? ⟨w.heap.size, k, none⟩ = some (N k).v) := Hn (fun k hk => cell_keep (NC.out k hk) hb); clear hb)
 clear C NC HB
 go_loopw [9] (fun iv w' => ∃ i : Nat, i ≤ 6 ∧ iv = .int .i64 (i : Int) ∧ Hid ((∀ k, k < i → (N k).n = cn m Kg k) ∧ w' = w3)) (fun i _ => 6 - (intOf i).toNat)
 case atStart => exact ⟨0, by omega, rfl, Hn ⟨fun k hk => by omega, rfl⟩⟩
 case round =>
  obtain ⟨i, hi, rfl, hR⟩ := hrel
  obtain rfl := hR.out.2
  by_cases hin : i < 6
  ·have i1 : (i : Int) < 6 := by omega
   have i0 : (0 : Int) ≤ (i : Int) := by omega
   have w9 : IntKind.i64.wrap ((i : Int) + 1) = (i : Int) + 1 := IntWalk.i64_in _ (by omega)
   have ix := fun y => ix_run0 m Kg i hin y
   have nc := N3.out i hin
   unfold Sl.v at nc
   by_cases he : (N i).n = cn m Kg i
   ·have hne : ((cn m Kg i : Nat) : Int) = ((cn m Kg i : Nat) : Int) := rfl
    rw [he] at nc
    have PN : Hid ((∀ k, k < i + 1 → (N k).n = cn m Kg k) ∧ wr = wr) := Hn ⟨fun k hk => by
     rcases Nat.lt_or_ge k i with h | h
     ·exact hR.out.1 k h
     ·obtain rfl : k = i := by omega
      exact he, rfl⟩
    clear hR he
    generalize cn m Kg i = q at *
    generalize (N i).p = pi at *
    generalize (N i).c = ci at *
    go_wp2_with fail
    go_roundw
    case rel => exact ⟨i + 1, by omega, by go_num, Hn ⟨PN.out.1, trivial⟩⟩
    case measure => simp [intOf]; omega
   ·have hne : ¬ ((N i).n : Int) = ((cn m Kg i : Nat) : Int) := by omega
    have fb : ftB N m Kg = false := by
     rw [Bool.eq_false_iff]
     exact fun h => he ((ftB_iff N m Kg).1 h i hin)
    clear hR he
    generalize cn m Kg i = q at *
    generalize (N i).p = pi at *
    generalize (N i).c = ci at *
    generalize (N i).n = ni at *
    go_wp2_with fail
    refine bodyPost_ret (v := .bool false) (by simp [results, Tryz.results58, go_sem]) rfl ⟨by rw [fb], B3.out⟩
  ·obtain rfl : i = 6 := by omega
   have fb : ftB N m Kg = true := (ftB_iff N m Kg).2 hR.out.1
   clear hR
   go_wp2_with fail
   refine bodyPost_ret (v := .bool true) (by simp [results, Tryz.results58, go_sem]) rfl ⟨by rw [fb], B3.out⟩
end Ci
end Go.Proofs.YtljmgfclhbadjaaGreatDoor
namespace Go.Proofs.YtljmgfclhbadjaaGreatDoor
open Go.RowKit
set_option linter.unusedVariables false
set_option linter.unusedSimpArgs false
open Cm (Wr Tm co bf Ls lf ins Eqm)
namespace Ci
set_option maxRecDepth 100000
set_option maxHeartbeats 4000000
theorem an_at {p : Nat → Bool} {n : Nat} (h : an p n = false) : ∀ k, k < n → p k = false := by
 induction n with
 | zero => intro k hk; omega
 | succ n ih =>
  simp only [an, Bool.or_eq_false_iff] at h
  intro k hk
  rcases Nat.lt_or_ge k n with h1 | h1
  ·first | exact ih h.1 k h1 | exact ih h.2 k h1
  ·obtain rfl : k = n := by omega
   first | exact h.2 | exact h.1
theorem nm_at {m Kg n : Nat} {f : Nat → Trm} (h : nm m Kg n f = true) : ∀ k, k < n → hs m Kg (f k).q = true := fun k hk => by
 unfold nm at h
 have h1 : an (fun k => !hs m Kg (f k).q) n = false := by simpa using h
 have := an_at h1 k hk
 simpa using this
theorem nm_of_hs {N : Nat → Sl} {m Kg : Nat} {q : Wr} (hf : ftB N m Kg = true) (h : hs m Kg q = true) : Nm N q := by
 unfold hs at h
 simp only [Bool.and_eq_true, decide_eq_true_eq] at h
 obtain ⟨h1, h2, h3, h4⟩ := h
 refine ⟨by omega, h2, h3, ?_⟩
 rw [(ftB_iff N m Kg).1 hf q.1.toNat (by omega), cn_ct]
 exact h4
theorem ins_lenC (t : Tm) : ∀ X : List Tm, (ins Sm.L X t).length ≤ X.length + 1
 | [] => by unfold ins; split <;> simp
 | x :: X => by
  have := ins_lenC t X
  unfold ins
  split
  ·split <;> simp <;> omega
  ·split
   ·split <;> simp <;> omega
   ·simp; omega
theorem lf_lenC (X : List Tm) : (lf Sm.L X).length ≤ X.length := by
 have g : ∀ (Y Z : List Tm), (Y.foldl (ins Sm.L) Z).length ≤ Z.length + Y.length := by
  intro Y
  induction Y with
  | nil => intro Z; simp
  | cons y Y ih => intro Z; have := ih (ins Sm.L Z y); have := ins_lenC y Z; simp only [List.foldl_cons, List.length_cons]; omega
 have := g X []
 simpa [lf] using this
theorem frozen_keepC {w w' : World} {a : Addr} {q : Bool} (h : w.frozen? a = q) (hl : a.block < w.heap.size) (hb : Below w.heap.size w w') : w'.frozen? a = q := (hb.frozen (p := a) hl).trans h
theorem nms_g (b : Nat) (l r o v : Sl) (k : Nat) : (nms b l r o v k).g = (nms 0 l r o v k).g := by
 unfold nms
 split <;> rfl
theorem nms_n (b : Nat) (l r o v : Sl) (k : Nat) : (nms b l r o v k).n = (nms 0 l r o v k).n := by
 unfold nms
 split <;> rfl
theorem nms_ft (b : Nat) (l r o v : Sl) (m Kg : Nat) : ftB (nms b l r o v) m Kg = ftB (nms 0 l r o v) m Kg := by
 unfold ftB
 congr 1
 funext k
 rw [nms_n]
theorem nms_es (b : Nat) (l r o v : Sl) (f : Nat → Trm) : ∀ i, es (nms b l r o v) f i = es (nms 0 l r o v) f i
 | 0 => rfl
 | i + 1 => by
  unfold es
  rw [nms_es b l r o v f i]
  unfold nw
  rw [nms_g]
theorem nms_at {b : Nat} {l r o v : Sl} {w : World} (h1 : (nms b l r o v 1).at w) (hl : l.at w) (hr : r.at w) (ho : o.at w) (hv : v.at w) : ∀ k, k < 6 → (nms b l r o v k).at w := fun k hk => by
 match k, hk with
 | 0, _ => exact ⟨⟨0, 0, fun h => absurd h (Nat.lt_irrefl 0), fun h => absurd h (Nat.lt_irrefl 0)⟩, fun k hk => absurd hk (Nat.not_lt_zero k)⟩
 | 1, _ => exact h1
 | 2, _ => exact hl
 | 3, _ => exact hr
 | 4, _ => exact ho
 | 5, _ => exact hv
def evE (N : Nat → Sl) (m Kg : Nat) (X : List Tm) : Int := if ftB N m Kg = true then (if nm m Kg X.length (ft X) = true then 0 else 200) else 2
def evS (N : Nat → Sl) (m Kg : Nat) (X : List Tm) : E4 := if ftB N m Kg = true then (if nm m Kg X.length (ft X) = true then es N (ft X) X.length else ⟨0, 0, 0, 0⟩) else ⟨0, 0, 0, 0⟩
theorem Eval_any {base : Nat} {w : World} {s m Kg : Nat} {vv : Value} {vs : List Value} {Q : List (List Tm)} (h : Sy base w s m Kg vv vs Q) (hT : Tb w) (l r o v : Sl) (hl : l.at w) (hr : r.at w) (ho : o.at w) (hv : v.at w) (P : Option Addr) (n c : Nat) (f : Nat → Trm) (hn : n ≤ 2932031007402) (hf : ∀ k, k < n → (f k).a.ok) (hL : Lt w P n f) :
  Calls Tryz.prog 138 #[.pointer (some ⟨s, 0, none⟩), .agg #[l.v, r.v, o.v, v.v], .slice P n c] w fun e w' => e = .returned (.tuple #[.agg #[.int .u64 (evS (nms 0 l r o v) m Kg (lf Sm.L (glL n f))).x0, .int .u64 (evS (nms 0 l r o v) m Kg (lf Sm.L (glL n f))).x1, .int .u64 (evS (nms 0 l r o v) m Kg (lf Sm.L (glL n f))).x2, .int .u64 (evS (nms 0 l r o v) m Kg (lf Sm.L (glL n f))).x3], .int .i64 (evE (nms 0 l r o v) m Kg (lf Sm.L (glL n f)))]) ∧ Below w.heap.size w w' := by
 have BA := bl_alloc2 w (.cells #[.slice l.p l.n l.c, .slice r.p r.n r.c, .slice o.p o.n o.c, .slice v.p v.n v.c] 43) (.cells #[.int .u64 0, .int .u64 0, .int .u64 0, .int .u64 0] 53)
 have C0 := Hn (none_any (h.keep BA))
 have C1 := Hn (fun y => numbers_any l r o v y)
 have C2 := Hn (fun y (hb : Below w.heap.size w y) => Least_lin P n c f y (hT.keep hb) hn hf (hL.keep hb))
 have c0 : ((w.alloc (.cells #[.slice l.p l.n l.c, .slice r.p r.n r.c, .slice o.p o.n o.c, .slice v.p v.n v.c] 43)).alloc (.cells #[.int .u64 0, .int .u64 0, .int .u64 0, .int .u64 0] 53)).cell? ⟨w.heap.size, 0, none⟩ = some (.slice l.p l.n l.c) := by go_simp
 have c1 : ((w.alloc (.cells #[.slice l.p l.n l.c, .slice r.p r.n r.c, .slice o.p o.n o.c, .slice v.p v.n v.c] 43)).alloc (.cells #[.int .u64 0, .int .u64 0, .int .u64 0, .int .u64 0] 53)).cell? ⟨w.heap.size, 1, none⟩ = some (.slice r.p r.n r.c) := by go_simp
 have c2 : ((w.alloc (.cells #[.slice l.p l.n l.c, .slice r.p r.n r.c, .slice o.p o.n o.c, .slice v.p v.n v.c] 43)).alloc (.cells #[.int .u64 0, .int .u64 0, .int .u64 0, .int .u64 0] 53)).cell? ⟨w.heap.size, 2, none⟩ = some (.slice o.p o.n o.c) := by go_simp
 have c3 : ((w.alloc (.cells #[.slice l.p l.n l.c, .slice r.p r.n r.c, .slice o.p o.n o.c, .slice v.p v.n v.c] 43)).alloc (.cells #[.int .u64 0, .int .u64 0, .int .u64 0, .int .u64 0] 53)).cell? ⟨w.heap.size, 3, none⟩ = some (.slice v.p v.n v.c) := by go_simp
 have a0 : ((w.alloc (.cells #[.slice l.p l.n l.c, .slice r.p r.n r.c, .slice o.p o.n o.c, .slice v.p v.n v.c] 43)).alloc (.cells #[.int .u64 0, .int .u64 0, .int .u64 0, .int .u64 0] 53)).cell? ⟨w.heap.size + 1, 0, none⟩ = some (.int .u64 0) := by go_simp
 have f0 : ((w.alloc (.cells #[.slice l.p l.n l.c, .slice r.p r.n r.c, .slice o.p o.n o.c, .slice v.p v.n v.c] 43)).alloc (.cells #[.int .u64 0, .int .u64 0, .int .u64 0, .int .u64 0] 53)).frozen? ⟨w.heap.size + 1, 0, none⟩ = false := by go_simp
 have a1 : ((w.alloc (.cells #[.slice l.p l.n l.c, .slice r.p r.n r.c, .slice o.p o.n o.c, .slice v.p v.n v.c] 43)).alloc (.cells #[.int .u64 0, .int .u64 0, .int .u64 0, .int .u64 0] 53)).cell? ⟨w.heap.size + 1, 1, none⟩ = some (.int .u64 0) := by go_simp
 have f1 : ((w.alloc (.cells #[.slice l.p l.n l.c, .slice r.p r.n r.c, .slice o.p o.n o.c, .slice v.p v.n v.c] 43)).alloc (.cells #[.int .u64 0, .int .u64 0, .int .u64 0, .int .u64 0] 53)).frozen? ⟨w.heap.size + 1, 1, none⟩ = false := by go_simp
 have a2 : ((w.alloc (.cells #[.slice l.p l.n l.c, .slice r.p r.n r.c, .slice o.p o.n o.c, .slice v.p v.n v.c] 43)).alloc (.cells #[.int .u64 0, .int .u64 0, .int .u64 0, .int .u64 0] 53)).cell? ⟨w.heap.size + 1, 2, none⟩ = some (.int .u64 0) := by go_simp
 have f2 : ((w.alloc (.cells #[.slice l.p l.n l.c, .slice r.p r.n r.c, .slice o.p o.n o.c, .slice v.p v.n v.c] 43)).alloc (.cells #[.int .u64 0, .int .u64 0, .int .u64 0, .int .u64 0] 53)).frozen? ⟨w.heap.size + 1, 2, none⟩ = false := by go_simp
 have a3 : ((w.alloc (.cells #[.slice l.p l.n l.c, .slice r.p r.n r.c, .slice o.p o.n o.c, .slice v.p v.n v.c] 43)).alloc (.cells #[.int .u64 0, .int .u64 0, .int .u64 0, .int .u64 0] 53)).cell? ⟨w.heap.size + 1, 3, none⟩ = some (.int .u64 0) := by go_simp
 have f3 : ((w.alloc (.cells #[.slice l.p l.n l.c, .slice r.p r.n r.c, .slice o.p o.n o.c, .slice v.p v.n v.c] 43)).alloc (.cells #[.int .u64 0, .int .u64 0, .int .u64 0, .int .u64 0] 53)).frozen? ⟨w.heap.size + 1, 3, none⟩ = false := by go_simp
 have RL : w.heap.size + 1 < ((w.alloc (.cells #[.slice l.p l.n l.c, .slice r.p r.n r.c, .slice o.p o.n o.c, .slice v.p v.n v.c] 43)).alloc (.cells #[.int .u64 0, .int .u64 0, .int .u64 0, .int .u64 0] 53)).heap.size := by simp only [World.size_alloc]; omega
 have HB := Hn BA
 have HH := Hn h
 have HA := Hn (And.intro hl (And.intro hr (And.intro ho hv)))
 have HT := Hn hT
 have HN := Hn hn
 clear BA hn hf hL h hl hr ho hv hT
 simp only [Sl.v] at C1 ⊢
 go_enter Tryz.func138, Tryz.ntmps138
 go_upto_region 1 with fail
 generalize ((w.alloc (.cells #[.slice l.p l.n l.c, .slice r.p r.n r.c, .slice o.p o.n o.c, .slice v.p v.n v.c] 43)).alloc (.cells #[.int .u64 0, .int .u64 0, .int .u64 0, .int .u64 0] 53)) = w2 at *
 have FF := Hn (And.intro f0 (And.intro f1 (And.intro f2 f3)))
 have AA := Hn (And.intro a0 (And.intro a1 (And.intro a2 a3)))
 clear f0 f1 f2 f3 a0 a1 a2 a3
 go_upto_region 3 with (go_at_call 43; refine C0.out.mono ?_; rintro e w1 ⟨rfl, rfl⟩)
 clear C0
 go_upto_region 4 with (first | (go_at_call 57; refine (C1.out _).mono ?_; rintro e w3 ⟨b, rfl, h1, hb⟩; have O1 := Hn h1; have B3 := Hn (bl_trans HB.out hb); have BB3 := Hn hb; clear hb h1 C1) | (go_at_call 47; refine (C2.out _ B3.out).mono ?_; rintro e w4 ⟨vX, rfl, hq⟩; obtain ⟨PX, cX, rfl, _⟩ := own_shT hq.1; have B4 := Hn (bl_trans B3.out hq.2.1); have BB4 := Hn (bl_trans BB3.out hq.2.1); have O4 := Hn (O1.out.keep hq.2.1); have LX := Hn (own_lts hq.1); clear hq C2))
 have eF := nms_ft b l r o v m Kg
 have eS := nms_es b l r o v
 have eN : Hid (∀ k, k < 6 → (nms b l r o v k).at w4) := Hn (nms_at O4.out (HA.out.1.keep B4.out) (HA.out.2.1.keep B4.out) (HA.out.2.2.1.keep B4.out) (HA.out.2.2.2.keep B4.out))
 have EF := Hn eF
 have ES := Hn eS
 clear eF eS O1 O4 HA
 generalize nms b l r o v = N at *
 have BA := bl_alloc w4 (.cells #[.slice (N 0).p (N 0).n (N 0).c, .slice (N 1).p (N 1).n (N 1).c, .slice (N 2).p (N 2).n (N 2).c, .slice (N 3).p (N 3).n (N 3).c, .slice (N 4).p (N 4).n (N 4).c, .slice (N 5).p (N 5).n (N 5).c] 139)
 have d0 : (w4.alloc (.cells #[.slice (N 0).p (N 0).n (N 0).c, .slice (N 1).p (N 1).n (N 1).c, .slice (N 2).p (N 2).n (N 2).c, .slice (N 3).p (N 3).n (N 3).c, .slice (N 4).p (N 4).n (N 4).c, .slice (N 5).p (N 5).n (N 5).c] 139)).cell? ⟨w4.heap.size, 0, none⟩ = some (.slice (N 0).p (N 0).n (N 0).c) := by go_simp
 have d1 : (w4.alloc (.cells #[.slice (N 0).p (N 0).n (N 0).c, .slice (N 1).p (N 1).n (N 1).c, .slice (N 2).p (N 2).n (N 2).c, .slice (N 3).p (N 3).n (N 3).c, .slice (N 4).p (N 4).n (N 4).c, .slice (N 5).p (N 5).n (N 5).c] 139)).cell? ⟨w4.heap.size, 1, none⟩ = some (.slice (N 1).p (N 1).n (N 1).c) := by go_simp
 have d2 : (w4.alloc (.cells #[.slice (N 0).p (N 0).n (N 0).c, .slice (N 1).p (N 1).n (N 1).c, .slice (N 2).p (N 2).n (N 2).c, .slice (N 3).p (N 3).n (N 3).c, .slice (N 4).p (N 4).n (N 4).c, .slice (N 5).p (N 5).n (N 5).c] 139)).cell? ⟨w4.heap.size, 2, none⟩ = some (.slice (N 2).p (N 2).n (N 2).c) := by go_simp
 have d3 : (w4.alloc (.cells #[.slice (N 0).p (N 0).n (N 0).c, .slice (N 1).p (N 1).n (N 1).c, .slice (N 2).p (N 2).n (N 2).c, .slice (N 3).p (N 3).n (N 3).c, .slice (N 4).p (N 4).n (N 4).c, .slice (N 5).p (N 5).n (N 5).c] 139)).cell? ⟨w4.heap.size, 3, none⟩ = some (.slice (N 3).p (N 3).n (N 3).c) := by go_simp
 have d4 : (w4.alloc (.cells #[.slice (N 0).p (N 0).n (N 0).c, .slice (N 1).p (N 1).n (N 1).c, .slice (N 2).p (N 2).n (N 2).c, .slice (N 3).p (N 3).n (N 3).c, .slice (N 4).p (N 4).n (N 4).c, .slice (N 5).p (N 5).n (N 5).c] 139)).cell? ⟨w4.heap.size, 4, none⟩ = some (.slice (N 4).p (N 4).n (N 4).c) := by go_simp
 have d5 : (w4.alloc (.cells #[.slice (N 0).p (N 0).n (N 0).c, .slice (N 1).p (N 1).n (N 1).c, .slice (N 2).p (N 2).n (N 2).c, .slice (N 3).p (N 3).n (N 3).c, .slice (N 4).p (N 4).n (N 4).c, .slice (N 5).p (N 5).n (N 5).c] 139)).cell? ⟨w4.heap.size, 5, none⟩ = some (.slice (N 5).p (N 5).n (N 5).c) := by go_simp
 have B5 := Hn (bl_trans B4.out BA)
 have BB5 := Hn (bl_trans BB4.out BA)
 have N5 : Hid (∀ k, k < 6 → (N k).at (w4.alloc (.cells #[.slice (N 0).p (N 0).n (N 0).c, .slice (N 1).p (N 1).n (N 1).c, .slice (N 2).p (N 2).n (N 2).c, .slice (N 3).p (N 3).n (N 3).c, .slice (N 4).p (N 4).n (N 4).c, .slice (N 5).p (N 5).n (N 5).c] 139))) := Hn (fun k hk => (eN.out k hk).keep BA)
 have L5 := Hn (LX.out.keep BA)
 have lx := lf_lenC (glL n f)
 rw [show (glL n f).length = n by simp [glL]] at lx
 clear BA B4 BB4 LX eN B3 BB3 c0 c1 c2 c3
 generalize w4.alloc (.cells #[.slice (N 0).p (N 0).n (N 0).c, .slice (N 1).p (N 1).n (N 1).c, .slice (N 2).p (N 2).n (N 2).c, .slice (N 3).p (N 3).n (N 3).c, .slice (N 4).p (N 4).n (N 4).c, .slice (N 5).p (N 5).n (N 5).c] 139) = w5 at *
 generalize w4.heap.size = nb at *
 have C3 := fits_any (HH.out.keep B5.out) N
 have C4 := fun y (hb : Below w5.heap.size w5 y) => names_any (HH.out.keep (bl_trans B5.out hb)) PX (lf Sm.L (glL n f)).length cX (ft (lf Sm.L (glL n f))) (by have := HN.out; omega) (L5.out.keep hb)
 simp only [Sl.v] at C3
 replace C3 := Hn C3
 replace C4 := Hn C4
 by_cases hF : ftB N m Kg = true
 ·rw [hF] at C3
  by_cases hM : nm m Kg (lf Sm.L (glL n f)).length (ft (lf Sm.L (glL n f))) = true
  ·rw [hM] at C4
   have C5 := fun y (hb : Below w5.heap.size w5 y) => nsum_any N PX (lf Sm.L (glL n f)).length cX (ft (lf Sm.L (glL n f))) y (HT.out.keep (bl_trans B5.out hb)) (by have := HN.out; omega) (fun k hk => (N5.out k hk).keep hb) (fun k hk => lst_ok _) (fun k hk => nm_of_hs hF (nm_at hM k hk)) (L5.out.keep hb)
   simp only [Sl.v] at C5
   replace C5 := Hn C5
   have eE : evE (nms 0 l r o v) m Kg (lf Sm.L (glL n f)) = 0 := by unfold evE; rw [← EF.out, if_pos hF, if_pos hM]
   have eS : evS (nms 0 l r o v) m Kg (lf Sm.L (glL n f)) = es N (ft (lf Sm.L (glL n f))) (lf Sm.L (glL n f)).length := by unfold evS; rw [← EF.out, if_pos hF, if_pos hM, ES.out]
   have EE := Hn (And.intro eE eS)
   clear hF hM eE eS EF ES
   go_upto_region 6 with (go_at_call 58; refine C3.out.mono ?_; rintro e w6 ⟨rfl, hb⟩; have B6 := Hn hb; clear hb)
   clear C3
   go_upto_region 8 with (go_at_call 48; refine (C4.out _ B6.out).mono ?_; rintro e w7 ⟨rfl, hb⟩; have B7 := Hn (bl_trans B6.out hb); clear hb)
   clear C4
   have x0 := cell_keep d0 B7.out
   have x1 := cell_keep d1 B7.out
   have x2 := cell_keep d2 B7.out
   have x3 := cell_keep d3 B7.out
   have x4 := cell_keep d4 B7.out
   have x5 := cell_keep d5 B7.out
   clear d0 d1 d2 d3 d4 d5
   generalize es N (ft (lf Sm.L (glL n f))) (lf Sm.L (glL n f)).length = rv at *
   go_wp2_with (go_at_call 60; refine (C5.out _ B7.out).mono ?_; rintro e w8 ⟨rfl, hb⟩; have B8 := bl_trans BB5.out (bl_trans B7.out hb); have g0 := cell_keep AA.out.1 B8; have h0 := frozen_keepC FF.out.1 RL B8; have g1 := cell_keep AA.out.2.1 B8; have h1 := frozen_keepC FF.out.2.1 RL B8; have g2 := cell_keep AA.out.2.2.1 B8; have h2 := frozen_keepC FF.out.2.2.1 RL B8; have g3 := cell_keep AA.out.2.2.2 B8; have h3 := frozen_keepC FF.out.2.2.2 RL B8; have HB8 := Hn B8; clear hb B8)
   have BF := below_tr (bl_trans HB.out HB8.out) (below_grown (base := w.heap.size) (gb_setCells (w.heap.size + 1) [.int .u64 rv.x0, .int .u64 rv.x1, .int .u64 rv.x2, .int .u64 rv.x3] 0 w8) (by have := (bl_trans HB.out HB8.out).size; omega) (fun k hk => by have := Option.some.inj hk; omega))
   refine bodyPost_ret (v := .tuple #[.agg #[.int .u64 rv.x0, .int .u64 rv.x1, .int .u64 rv.x2, .int .u64 rv.x3], .int .i64 0]) (by simp [results, Tryz.results138, go_sem, g0, g1, g2, g3]) rfl ⟨?_, BF⟩
   rw [EE.out.1, EE.out.2]
  ·have hM2 : nm m Kg (lf Sm.L (glL n f)).length (ft (lf Sm.L (glL n f))) = false := by simpa using hM
   rw [hM2] at C4
   have eE : evE (nms 0 l r o v) m Kg (lf Sm.L (glL n f)) = 200 := by unfold evE; rw [← EF.out, if_pos hF, if_neg hM]
   have eS : evS (nms 0 l r o v) m Kg (lf Sm.L (glL n f)) = ⟨0, 0, 0, 0⟩ := by unfold evS; rw [← EF.out, if_pos hF, if_neg hM]
   have EE := Hn (And.intro eE eS)
   clear hF hM hM2 eE eS EF ES
   go_upto_region 6 with (go_at_call 58; refine C3.out.mono ?_; rintro e w6 ⟨rfl, hb⟩; have B6 := Hn hb; clear hb)
   clear C3
   go_wp2_with (go_at_call 48; refine (C4.out _ B6.out).mono ?_; rintro e w7 ⟨rfl, hb⟩; have B8 := bl_trans BB5.out (bl_trans B6.out hb); have g0 := cell_keep AA.out.1 B8; have h0 := frozen_keepC FF.out.1 RL B8; have g1 := cell_keep AA.out.2.1 B8; have h1 := frozen_keepC FF.out.2.1 RL B8; have g2 := cell_keep AA.out.2.2.1 B8; have h2 := frozen_keepC FF.out.2.2.1 RL B8; have g3 := cell_keep AA.out.2.2.2 B8; have h3 := frozen_keepC FF.out.2.2.2 RL B8; have HB8 := Hn B8; clear hb B8)
   have BF := below_tr (bl_trans HB.out HB8.out) (below_grown (base := w.heap.size) (gb_setCells (w.heap.size + 1) [.int .u64 0, .int .u64 0, .int .u64 0, .int .u64 0] 0 w7) (by have := (bl_trans HB.out HB8.out).size; omega) (fun k hk => by have := Option.some.inj hk; omega))
   refine bodyPost_ret (v := .tuple #[.agg #[.int .u64 0, .int .u64 0, .int .u64 0, .int .u64 0], .int .i64 200]) (by simp [results, Tryz.results138, go_sem, g0, g1, g2, g3]) rfl ⟨?_, BF⟩
   rw [EE.out.1, EE.out.2]
 ·have hF2 : ftB N m Kg = false := by simpa using hF
  rw [hF2] at C3
  have eE : evE (nms 0 l r o v) m Kg (lf Sm.L (glL n f)) = 2 := by unfold evE; rw [← EF.out, if_neg hF]
  have eS : evS (nms 0 l r o v) m Kg (lf Sm.L (glL n f)) = ⟨0, 0, 0, 0⟩ := by unfold evS; rw [← EF.out, if_neg hF]
  have EE := Hn (And.intro eE eS)
  clear hF hF2 eE eS EF ES
  go_wp2_with (go_at_call 58; refine C3.out.mono ?_; rintro e w7 ⟨rfl, hb⟩; have B8 := bl_trans BB5.out hb; have g0 := cell_keep AA.out.1 B8; have h0 := frozen_keepC FF.out.1 RL B8; have g1 := cell_keep AA.out.2.1 B8; have h1 := frozen_keepC FF.out.2.1 RL B8; have g2 := cell_keep AA.out.2.2.1 B8; have h2 := frozen_keepC FF.out.2.2.1 RL B8; have g3 := cell_keep AA.out.2.2.2 B8; have h3 := frozen_keepC FF.out.2.2.2 RL B8; have HB8 := Hn B8; clear hb B8)
  have BF := below_tr (bl_trans HB.out HB8.out) (below_grown (base := w.heap.size) (gb_setCells (w.heap.size + 1) [.int .u64 0, .int .u64 0, .int .u64 0, .int .u64 0] 0 w7) (by have := (bl_trans HB.out HB8.out).size; omega) (fun k hk => by have := Option.some.inj hk; omega))
  refine bodyPost_ret (v := .tuple #[.agg #[.int .u64 0, .int .u64 0, .int .u64 0, .int .u64 0], .int .i64 2]) (by simp [results, Tryz.results138, go_sem, g0, g1, g2, g3]) rfl ⟨?_, BF⟩
  rw [EE.out.1, EE.out.2]
end Ci
end Go.Proofs.YtljmgfclhbadjaaGreatDoor
