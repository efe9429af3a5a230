import Derived.Test.YthngomhhafoamaaGreatDoorAz
set_option linter.unusedVariables false
set_option linter.unusedSimpArgs false
set_option maxRecDepth 100000
set_option maxHeartbeats 16000000
namespace Go.Proofs.YthngomhhafoamaaGreatDoor
open Go.RowKit
open Cm (Wr Tm co bf Ls lf ins Eqm)
namespace Ci
def vl (N : Nat → Sl) : List Tm → Int
 | [] => 0
 | x :: X => x.2 * (nw N x.1).n + vl N X
theorem vl_app (N : Nat → Sl) (X Y : List Tm) : vl N (X ++ Y) = vl N X + vl N Y := by
 induction X with
 | nil => simp [vl]
 | cons x X ih => simp only [List.cons_append, vl, ih]; omega
theorem vl_ins (N : Nat → Sl) (t : Tm) : ∀ X : List Tm, vl N (ins Sm.L X t) % Sm.L = (vl N X + t.2 * (nw N t.1).n) % Sm.L
 | [] => by
  unfold ins
  split
  ·rename_i h
   simp only [vl]
   rw [Int.zero_add, Int.mul_emod, h]
   simp
  ·simp only [vl]
   rw [Int.add_zero, Int.zero_add, Int.mul_emod, Int.emod_emod_of_dvd _ (Int.dvd_refl _), ← Int.mul_emod]
 | x :: X => by
  unfold ins
  have ih := vl_ins N t X
  split
  ·rename_i e
   split
   ·rename_i h
    simp only [vl]
    rw [e, show x.2 * (nw N t.1).n + vl N X + t.2 * (nw N t.1).n = vl N X + (x.2 + t.2) * (nw N t.1).n by rw [Int.add_mul]; omega, Int.add_emod, Int.mul_emod, h]
    simp
   ·simp only [vl]
    rw [e, Int.add_emod, Int.mul_emod, Int.emod_emod_of_dvd _ (Int.dvd_refl _), ← Int.mul_emod, ← Int.add_emod]
    congr 1
    rw [Int.add_mul]
    omega
  ·split
   ·split
    ·rename_i h
     simp only [vl]
     rw [Int.add_emod (x.2 * _ + _), Int.mul_emod t.2, h]
     simp
    ·simp only [vl]
     rw [Int.add_emod, Int.mul_emod (t.2 % Sm.L), Int.emod_emod_of_dvd _ (Int.dvd_refl _), ← Int.mul_emod, ← Int.add_emod]
     congr 1
     omega
   ·simp only [vl]
    rw [Int.add_emod, ih, ← Int.add_emod]
    congr 1
    omega
theorem vl_lf (N : Nat → Sl) (Y : List Tm) : vl N (lf Sm.L Y) % Sm.L = vl N Y % Sm.L := by
 have h : ∀ (Y X : List Tm), vl N (Y.foldl (ins Sm.L) X) % Sm.L = (vl N X + vl N Y) % Sm.L := by
  intro Y
  induction Y with
  | nil => intro X; simp [vl]
  | cons y Y ih =>
   intro X
   rw [List.foldl_cons, ih, Int.add_emod, vl_ins, ← Int.add_emod]
   simp only [vl]
   congr 1
   omega
 have := h Y []
 simpa [lf, vl] using this
theorem vl_neg (N : Nat → Sl) (n : Nat) (f : Nat → Trm) : vl N (glN n f) = -vl N (glL n f) := by
 induction n with
 | zero => rfl
 | succ n ih =>
  rw [glN_succ, glL_succ, vl_app, vl_app, ih]
  simp only [vl]
  rw [Int.neg_mul]
  omega
theorem glft_at (X : List Tm) : glL X.length (ft X) = X.map fun x => (x.1, x.2 % Sm.L) := by
 apply List.ext_getElem
 ·simp [glL]
 ·intro i h1 h2
  have hi : i < X.length := by simpa [glL] using h1
  simp only [glL, List.getElem_map, List.getElem_range]
  rw [ft_get hi]
  simp [tmOf, lst_n]
theorem glft_ls {X : List Tm} (h : Ls Sm.L X) : glL X.length (ft X) = X := by
 rw [glft_at]
 apply List.ext_getElem
 ·simp
 ·intro i h1 h2
  simp only [List.getElem_map]
  have := h.nz X[i] (List.getElem_mem h2)
  exact Prod.ext rfl (Int.emod_eq_of_lt (by omega) this.2)
theorem tot_vl (N : Nat → Sl) (n : Nat) (f : Nat → Trm) : tot (fun k => (f k).a.n * (nw N (f k).q).n) n = vl N (glL n f) := by
 induction n with
 | zero => rfl
 | succ n ih =>
  rw [glL_succ, vl_app, ← ih]
  simp [tot, vl]
theorem es_vl (N : Nat → Sl) {X : List Tm} (h : Ls Sm.L X) : es N (ft X) X.length = lst (vl N X) := by
 rw [es_is, tot_vl, glft_ls h]
theorem nm_iff {m K : Nat} {Y : List Tm} : nm m K (lf Sm.L Y).length (ft (lf Sm.L Y)) = true ↔ ∀ q, co Y q % Sm.L ≠ 0 → hs m K q = true := by
 constructor
 ·intro h q hq
  obtain ⟨y, hy, e⟩ := wire_lf hq
  rw [← e]
  exact nm_mem h y hy
 ·intro h
  exact nm_true (fun x hx => h x.1 (lf_wire hx))
theorem emod_add_zero {a b : Int} (h1 : a % Sm.L = 0) (h2 : b % Sm.L = 0) : (a + b) % Sm.L = 0 := by rw [Int.add_emod, h1, h2]; rfl
theorem co_mul (k : E4) (n : Nat) (f : Nat → Trm) (q : Wr) : co (glM k n f) q = k.n * co (glL n f) q := by
 induction n with
 | zero => simp [glM, glL, Cm.co_nil]
 | succ n ih =>
  rw [glM_succ, glL_succ, Cm.co_app, Cm.co_app, ih, Int.mul_add]
  simp only [Cm.co_cons, Cm.co_nil]
  split <;> simp
end Ci
end Go.Proofs.YthngomhhafoamaaGreatDoor
namespace Go.Proofs.YthngomhhafoamaaGreatDoor
open Go.RowKit
open Cm (Wr Tm co bf Ls lf ins Eqm)
namespace Ci
theorem gb_new {w w2 w3 : World} {a b : Nat} (h : w.grownBy w2 (some a)) (k : w2.grownBy w3 (some b)) (hb : w.heap.size ≤ b) : w.grownBy w3 (some a) :=
 ⟨k.os.trans h.os, k.tape.trans h.tape, k.output.trans h.output, Nat.le_trans h.size k.size, fun i hi hne => (k.block i (Nat.lt_of_lt_of_le hi h.size) (fun e => by have := Option.some.inj e; omega)).trans (h.block i hi hne)⟩
theorem gz_frozen {w w' : World} {b : Nat} {p : Addr} {q : Bool} (h : w.grownBy w' (some b)) (hne : some p.block ≠ some b) (hl : p.block < w.heap.size) (hf : w.frozen? p = q) : w'.frozen? p = q := by
 unfold World.frozen? at hf ⊢
 rw [h.block p.block hl hne]
 exact hf
def pYz20 : String := "outright.go:54"
def nx4o_0 : Oper := oO 11 (Op.load 25 (Operand.tmp 1)) 25 pYz20 #[]
def nx4o_1 : Oper := oO 12 (Op.load 3 (Operand.tmp 0)) 3 pYz20 #[]
def nx4o_2 : Oper := oO 13 (Op.load 25 (Operand.tmp 1)) 25 pYz20 #[]
def nx4o_3 : Oper := oO 14 (Op.call { callee := Callee.builtin Builtin.len, args := #[Operand.tmp 13], argTypes := #[25] }) 3 pYz20 #[DD 2]
def nx4o_4 : Oper := oO 15 (Op.binOp BinOp.rem 3 (Operand.tmp 12) (Operand.tmp 14) 3) 3 pYz20 #[DD 1, DD 3]
def nx4o_5 : Oper := oO 16 (Op.indexAddr 25 (Operand.tmp 11) (Operand.tmp 15)) 0 pYz20 #[DD 0, DD 4]
def nx4o_6 : Oper := oO 17 (Op.load 35 (Operand.tmp 16)) 35 pYz20 #[DD 5]
def nx4o_7 : Oper := oO 18 (Op.load 3 (Operand.tmp 0)) 3 pYz20 #[]
def nx4o_8 : Oper := oO 19 (Op.load 25 (Operand.tmp 1)) 25 pYz20 #[]
def nx4o_9 : Oper := oO 20 (Op.call { callee := Callee.builtin Builtin.len, args := #[Operand.tmp 19], argTypes := #[25] }) 3 pYz20 #[DD 8]
def nx4o_10 : Oper := oO 21 (Op.binOp BinOp.quo 3 (Operand.tmp 18) (Operand.tmp 20) 3) 3 pYz20 #[DD 7, DD 9]
def nx4o_11 : Oper := oO 22 (Op.convert 3 33 (Operand.tmp 21)) 33 pYz20 #[DD 10]
def nx4o_12 : Oper := oO 23 (Op.call { callee := Callee.value (Operand.func 9), args := #[Operand.tmp 22], argTypes := #[33] }) 35 pYz20 #[DD 11]
def nx4o_13 : Oper := oO 24 (Op.call { callee := Callee.value (Operand.func 8), args := #[Operand.tmp 17, Operand.tmp 23], argTypes := #[35, 35] }) 35 pYz20 #[DD 6, DD 12, CH 12]
def nx4o_14 : Oper := oN (Op.store 35 (Operand.tmp 2) (Operand.tmp 24)) pYz20 #[DD 13, CH 13, PH 0, PH 1, PH 2, PH 3, PH 4, PH 5, PH 6, PH 7, PH 8, PH 9, PH 10, PH 11, PH 12, PH 13]
def nx4o : Array Oper := #[nx4o_0, nx4o_1, nx4o_2, nx4o_3, nx4o_4, nx4o_5, nx4o_6, nx4o_7, nx4o_8, nx4o_9, nx4o_10, nx4o_11, nx4o_12, nx4o_13, nx4o_14]
theorem nx4 (Q : Exit → Act → World → Prop) (ab lb rb eb eo n c k j q : Nat) (e u r : E4) (u3 u4 u5 u6 u7 u8 u9 aa ad ae ag ah ai aj ak al am an ao ap aq au : Value) (W : World)
  (n0 : (0 : Int) < (n : Int)) (nz : ¬ (n : Int) = 0) (nz2 : ¬ n = 0) (j0 : (0 : Int) ≤ (j : Int)) (j1 : (j : Int) < (n : Int)) (hr : Int.tmod (k : Int) (n : Int) = (j : Int)) (hq : Int.tdiv (k : Int) (n : Int) = (q : Int)) (wj : IntKind.i64.wrap (j : Int) = (j : Int)) (wq : IntKind.i64.wrap (q : Int) = (q : Int)) (wu : IntKind.u64.wrap (q : Int) = (q : Int))
  (nel : lb ≠ rb) (nea : ab ≠ rb) (nee : eb ≠ rb) (l0 : W.cell? ⟨lb, 0, none⟩ = some (.slice (some ⟨eb, eo, none⟩) n c)) (a0 : W.cell? ⟨ab, 0, none⟩ = some (.int .i64 (k : Int))) (e0 : W.cell? ⟨eb, eo + j * 4, none⟩ = some (.int .u64 e.x0)) (e1 : W.cell? ⟨eb, eo + j * 4 + 1, none⟩ = some (.int .u64 e.x1)) (e2 : W.cell? ⟨eb, eo + j * 4 + 2, none⟩ = some (.int .u64 e.x2)) (e3 : W.cell? ⟨eb, eo + j * 4 + 3, none⟩ = some (.int .u64 e.x3)) (th : W.there rb 0 4)
  (C1 : Hid (∀ y, W.grownBy y (some rb) → Calls Tryz.prog 9 #[.int .u64 (q : Int)] y fun e w' => e = .returned (.agg #[.int .u64 u.x0, .int .u64 u.x1, .int .u64 u.x2, .int .u64 u.x3]) ∧ Below y.heap.size y w'))
  (C2 : Hid (∀ y, W.grownBy y (some rb) → Calls Tryz.prog 8 #[.agg #[.int .u64 e.x0, .int .u64 e.x1, .int .u64 e.x2, .int .u64 e.x3], .agg #[.int .u64 u.x0, .int .u64 u.x1, .int .u64 u.x2, .int .u64 u.x3]] y fun e w' => e = .returned (.agg #[.int .u64 r.x0, .int .u64 r.x1, .int .u64 r.x2, .int .u64 r.x3]) ∧ Below y.heap.size y w'))
  (HQ : Hid (∀ (wz : World), (∃ wy, W.grownBy wy (some rb) ∧ wy.there rb 0 4 ∧ wz = wy.setCells rb 0 [.int .u64 r.x0, .int .u64 r.x1, .int .u64 r.x2, .int .u64 r.x3]) → Q .normal ⟨#[.pointer (some ⟨ab, 0, none⟩), .pointer (some ⟨lb, 0, none⟩), .pointer (some ⟨rb, 0, none⟩), u3, u4, u5, u6, u7, u8, u9, aa, .slice (some ⟨eb, eo, none⟩) n c, .int .i64 (k : Int), .slice (some ⟨eb, eo, none⟩) n c, .int .i64 (n : Int), .int .i64 (j : Int), .pointer (some ⟨eb, eo + j * 4, none⟩), .agg #[.int .u64 e.x0, .int .u64 e.x1, .int .u64 e.x2, .int .u64 e.x3], .int .i64 (k : Int), .slice (some ⟨eb, eo, none⟩) n c, .int .i64 (n : Int), .int .i64 (q : Int), .int .u64 (q : Int), .agg #[.int .u64 u.x0, .int .u64 u.x1, .int .u64 u.x2, .int .u64 u.x3], .agg #[.int .u64 r.x0, .int .u64 r.x1, .int .u64 r.x2, .int .u64 r.x3]], []⟩ wz)) : (Code.region 4 nx4o true).wp Tryz.prog Q ⟨#[.pointer (some ⟨ab, 0, none⟩), .pointer (some ⟨lb, 0, none⟩), .pointer (some ⟨rb, 0, none⟩), u3, u4, u5, u6, u7, u8, u9, aa, ad, ae, ag, ah, ai, aj, ak, al, am, an, ao, ap, aq, au], []⟩ W := by
 have TH := Hn (there_bl th (bl_drew W))
 clear th
 unfold nx4o
 refine wp_region_noPanic ?_
 refine wp_region_held_drew (S := fun x => W.grownBy x (some rb)) (by kernel_rfl) (gbI (bl_drew W) _) (fun hH0 => ?_)
 refine tj 0 nx4o_0 (.slice (some ⟨eb, eo, none⟩) n c) hH0 (fun w0 hSw => ?_) ?_
 ·(unfold nx4o_0 oO; have hS : W.grownBy w0 (some rb) := hSw; have a0 := hS.cell l0 (fun e => nel (Option.some.inj e)); clear hS hSw; go_simp)
 simp only [nx4o_0, oO, Act.put, sA, sB, sC]
 refine tj 1 nx4o_1 (.int .i64 (k : Int)) hH0 (fun w0 hSw => ?_) ?_
 ·(unfold nx4o_1 oO; have hS : W.grownBy w0 (some rb) := hSw; have a0 := hS.cell a0 (fun e => nea (Option.some.inj e)); clear hS hSw; go_simp)
 simp only [nx4o_1, oO, Act.put, sA, sB, sC]
 refine tj 2 nx4o_2 (.slice (some ⟨eb, eo, none⟩) n c) hH0 (fun w0 hSw => ?_) ?_
 ·(unfold nx4o_2 oO; have hS : W.grownBy w0 (some rb) := hSw; have a0 := hS.cell l0 (fun e => nel (Option.some.inj e)); clear hS hSw; go_simp)
 simp only [nx4o_2, oO, Act.put, sA, sB, sC]
 refine tj 7 nx4o_7 (.int .i64 (k : Int)) hH0 (fun w0 hSw => ?_) ?_
 ·(unfold nx4o_7 oO; have hS : W.grownBy w0 (some rb) := hSw; have a0 := hS.cell a0 (fun e => nea (Option.some.inj e)); clear hS hSw; go_simp)
 simp only [nx4o_7, oO, Act.put, sA, sB, sC]
 refine tj 8 nx4o_8 (.slice (some ⟨eb, eo, none⟩) n c) hH0 (fun w0 hSw => ?_) ?_
 ·(unfold nx4o_8 oO; have hS : W.grownBy w0 (some rb) := hSw; have a0 := hS.cell l0 (fun e => nel (Option.some.inj e)); clear hS hSw; go_simp)
 simp only [nx4o_8, oO, Act.put, sA, sB, sC]
 refine tj 3 nx4o_3 (.int .i64 (n : Int)) hH0 (fun w0 hSw => ?_) ?_
 ·(unfold nx4o_3 oO; clear hSw; go_simp)
 simp only [nx4o_3, oO, Act.put, sA, sB, sC]
 refine tj 9 nx4o_9 (.int .i64 (n : Int)) hH0 (fun w0 hSw => ?_) ?_
 ·(unfold nx4o_9 oO; clear hSw; go_simp)
 simp only [nx4o_9, oO, Act.put, sA, sB, sC]
 refine tj 4 nx4o_4 (.int .i64 (j : Int)) hH0 (fun w0 hSw => ?_) ?_
 ·(unfold nx4o_4 oO; clear hSw; go_simp)
 simp only [nx4o_4, oO, Act.put, sA, sB, sC]
 refine tj 10 nx4o_10 (.int .i64 (q : Int)) hH0 (fun w0 hSw => ?_) ?_
 ·(unfold nx4o_10 oO; clear hSw; go_simp)
 simp only [nx4o_10, oO, Act.put, sA, sB, sC]
 refine tj 5 nx4o_5 (.pointer (some ⟨eb, eo + j * 4, none⟩)) hH0 (fun w0 hSw => ?_) ?_
 ·(unfold nx4o_5 oO; clear hSw; go_simp)
 simp only [nx4o_5, oO, Act.put, sA, sB, sC]
 refine tj 11 nx4o_11 (.int .u64 (q : Int)) hH0 (fun w0 hSw => ?_) ?_
 ·(unfold nx4o_11 oO; clear hSw; go_simp)
 simp only [nx4o_11, oO, Act.put, sA, sB, sC]
 refine tj 6 nx4o_6 (.agg #[.int .u64 e.x0, .int .u64 e.x1, .int .u64 e.x2, .int .u64 e.x3]) hH0 (fun w0 hSw => ?_) ?_
 ·(unfold nx4o_6 oO; have hS : W.grownBy w0 (some rb) := hSw; have a0 := hS.cell e0 (fun e => nee (Option.some.inj e)); have a1 := hS.cell e1 (fun e => nee (Option.some.inj e)); have a2 := hS.cell e2 (fun e => nee (Option.some.inj e)); have a3 := hS.cell e3 (fun e => nee (Option.some.inj e)); clear hS hSw; go_simp)
 simp only [nx4o_6, oO, Act.put, sA, sB, sC]
 refine ar [12] ?_
 refine ac nx4o_12 (fun K hK => ?_) AllReadyH.nil
 unfold nx4o_12 oO
 have HH := Hn hH0
 clear hH0
 go_simp
 refine (C1.out _ HH.out).mono ?_
 rintro e wn1 ⟨rfl, hb⟩
 replace TH := Hn (there_bl TH.out hb)
 have SN := Hn (HH.out.trans (gbI hb _))
 clear HH C1 hb
 go_wp2_with fail
 refine hK.out _ _ SN.out (fun hH1 => ?_)
 clear hK K SN
 refine ar [13] ?_
 refine ac nx4o_13 (fun K hK => ?_) AllReadyH.nil
 unfold nx4o_13 oO
 have HH := Hn hH1
 clear hH1
 go_simp
 refine (C2.out _ HH.out).mono ?_
 rintro e wn2 ⟨rfl, hb⟩
 replace TH := Hn (there_bl TH.out hb)
 have SN := Hn (HH.out.trans (gbI hb _))
 clear HH C2 hb
 go_wp2_with fail
 refine hK.out _ _ SN.out (fun hH2 => ?_)
 clear hK K SN
 refine ar [14] ?_
 refine ac nx4o_14 (fun K hK => ?_) AllReadyH.nil
 unfold nx4o_14 oN
 have HH := Hn hH2
 clear hH2
 refine wp_storeE 35 _ _ rfl rb 0 ([.int .u64 r.x0, .int .u64 r.x1, .int .u64 r.x2, .int .u64 r.x3]) (by rfl) (by rfl) TH.out i4_s (one4 r) rfl (fun wn3 hw => ?_)
 have SN := Hn (HH.out.trans (gb_setCells rb [.int .u64 r.x0, .int .u64 r.x1, .int .u64 r.x2, .int .u64 r.x3] 0 _))
 have FE := Hn ((⟨_, HH.out, TH.out, hw⟩ : ∃ wy, W.grownBy wy (some rb) ∧ wy.there rb 0 4 ∧ _ = wy.setCells rb 0 [.int .u64 r.x0, .int .u64 r.x1, .int .u64 r.x2, .int .u64 r.x3]))
 rw [← hw] at SN
 clear HH hw
 refine hK.out _ _ SN.out (fun hH3 => ?_)
 clear hK K SN
 have HH := Hn hH3
 have FQ := Hn (HQ.out _ FE.out)
 refine wpAnyH_done (by kernel_rfl) ?_ _
 refine NoPanic.normal ?_
 exact FQ.out
theorem next_any (w0 : World) (ab lb k : Nat) (l : Sl) (lp : Option Addr) (elp : l.p = lp) (w : World) (hT : Tb w0) (hat : l.at w0) (lo : w0.heap.size ≤ ab) (bel : Below w0.heap.size w0 w) (ne : lb ≠ ab) (hk : k ≤ 1000000) (hln : l.n ≤ 1048576) (ha : w.cell? ⟨ab, 0, none⟩ = some (.int .i64 (k : Int))) (hfz : w.frozen? ⟨ab, 0, none⟩ = false) (hl : w.cell? ⟨lb, 0, none⟩ = some (.slice l.p l.n l.c)) :
  Calls Tryz.prog 26 #[.pointer (some ⟨ab, 0, none⟩), .pointer (some ⟨lb, 0, none⟩)] w fun e w' => ∃ r : E4, e = .returned (.agg #[.int .u64 r.x0, .int .u64 r.x1, .int .u64 r.x2, .int .u64 r.x3]) ∧ r.ok ∧ w.grownBy w' (some ab) ∧ w'.cell? ⟨ab, 0, none⟩ = some (.int .i64 ((k + 1 : Nat) : Int)) ∧ w'.frozen? ⟨ab, 0, none⟩ = false := by
 have w9 : IntKind.i64.wrap ((k : Int) + 1) = (k : Int) + 1 := IntWalk.i64_in _ (by omega)
 have hab : ab < w.heap.size := World.block_lt_of_cell? w _ ha
 have hlb : lb < w.heap.size := World.block_lt_of_cell? w _ hl
 rw [elp] at hl
 have HT := Hn hT
 have HA := Hn hat
 have HB := Hn bel
 have HK := Hn (And.intro hk hln)
 clear hT hat bel hk hln
 go_enter Tryz.func26, Tryz.ntmps26
 go_upto_region 2 with fail
 have SS : (w.setCell ⟨ab, 0, none⟩ (.int .i64 ((k : Int) + 1))).heap.size = w.heap.size := World.size_setCell _ _ _
 have a0 : ((w.setCell ⟨ab, 0, none⟩ (.int .i64 ((k : Int) + 1))).alloc (.cells #[.int .u64 0, .int .u64 0, .int .u64 0, .int .u64 0] 35)).cell? ⟨ab, 0, none⟩ = some (.int .i64 ((k : Int) + 1)) := by go_simp
 have l0 : ((w.setCell ⟨ab, 0, none⟩ (.int .i64 ((k : Int) + 1))).alloc (.cells #[.int .u64 0, .int .u64 0, .int .u64 0, .int .u64 0] 35)).cell? ⟨lb, 0, none⟩ = some (.slice lp l.n l.c) := by go_simp
 have f0 : ((w.setCell ⟨ab, 0, none⟩ (.int .i64 ((k : Int) + 1))).alloc (.cells #[.int .u64 0, .int .u64 0, .int .u64 0, .int .u64 0] 35)).frozen? ⟨ab, 0, none⟩ = false := by go_simp
 have z0 : ((w.setCell ⟨ab, 0, none⟩ (.int .i64 ((k : Int) + 1))).alloc (.cells #[.int .u64 0, .int .u64 0, .int .u64 0, .int .u64 0] 35)).cell? ⟨w.heap.size, 0, none⟩ = some (.int .u64 0) := by go_simp
 have y0 : ((w.setCell ⟨ab, 0, none⟩ (.int .i64 ((k : Int) + 1))).alloc (.cells #[.int .u64 0, .int .u64 0, .int .u64 0, .int .u64 0] 35)).frozen? ⟨w.heap.size, 0, none⟩ = false := by go_simp
 have z1 : ((w.setCell ⟨ab, 0, none⟩ (.int .i64 ((k : Int) + 1))).alloc (.cells #[.int .u64 0, .int .u64 0, .int .u64 0, .int .u64 0] 35)).cell? ⟨w.heap.size, 1, none⟩ = some (.int .u64 0) := by go_simp
 have y1 : ((w.setCell ⟨ab, 0, none⟩ (.int .i64 ((k : Int) + 1))).alloc (.cells #[.int .u64 0, .int .u64 0, .int .u64 0, .int .u64 0] 35)).frozen? ⟨w.heap.size, 1, none⟩ = false := by go_simp
 have z2 : ((w.setCell ⟨ab, 0, none⟩ (.int .i64 ((k : Int) + 1))).alloc (.cells #[.int .u64 0, .int .u64 0, .int .u64 0, .int .u64 0] 35)).cell? ⟨w.heap.size, 2, none⟩ = some (.int .u64 0) := by go_simp
 have y2 : ((w.setCell ⟨ab, 0, none⟩ (.int .i64 ((k : Int) + 1))).alloc (.cells #[.int .u64 0, .int .u64 0, .int .u64 0, .int .u64 0] 35)).frozen? ⟨w.heap.size, 2, none⟩ = false := by go_simp
 have z3 : ((w.setCell ⟨ab, 0, none⟩ (.int .i64 ((k : Int) + 1))).alloc (.cells #[.int .u64 0, .int .u64 0, .int .u64 0, .int .u64 0] 35)).cell? ⟨w.heap.size, 3, none⟩ = some (.int .u64 0) := by go_simp
 have y3 : ((w.setCell ⟨ab, 0, none⟩ (.int .i64 ((k : Int) + 1))).alloc (.cells #[.int .u64 0, .int .u64 0, .int .u64 0, .int .u64 0] 35)).frozen? ⟨w.heap.size, 3, none⟩ = false := by go_simp
 have th : ((w.setCell ⟨ab, 0, none⟩ (.int .i64 ((k : Int) + 1))).alloc (.cells #[.int .u64 0, .int .u64 0, .int .u64 0, .int .u64 0] 35)).there w.heap.size 0 4 := by
  have := there_newM (w.setCell ⟨ab, 0, none⟩ (.int .i64 ((k : Int) + 1))) [.int .u64 0, .int .u64 0, .int .u64 0, .int .u64 0] 35
  rwa [SS] at this
 have GW : w.grownBy ((w.setCell ⟨ab, 0, none⟩ (.int .i64 ((k : Int) + 1))).alloc (.cells #[.int .u64 0, .int .u64 0, .int .u64 0, .int .u64 0] 35)) (some ab) := ⟨rfl, rfl, rfl, by rw [World.size_alloc, SS]; omega, fun i hi hne => by
  rw [heap_alloc_old _ _ (by rw [SS]; exact hi)]
  exact heap_setCell_other w ⟨ab, 0, none⟩ i _ (fun e => hne (by rw [e]))⟩
 have BW : Below w0.heap.size w0 ((w.setCell ⟨ab, 0, none⟩ (.int .i64 ((k : Int) + 1))).alloc (.cells #[.int .u64 0, .int .u64 0, .int .u64 0, .int .u64 0] 35)) := HB.out.grown GW HB.out.size (fun i hi => by obtain rfl := Option.some.inj hi; exact lo)
 have HG := Hn GW
 have BW2 := Hn BW
 clear GW BW ha hfz hl SS
 generalize ((w.setCell ⟨ab, 0, none⟩ (.int .i64 ((k : Int) + 1))).alloc (.cells #[.int .u64 0, .int .u64 0, .int .u64 0, .int .u64 0] 35)) = w2 at *
 by_cases h0 : l.n = 0
 ·have CI := fun y => fix (R := lst ((k : Int) + 1)) (Int_any ((k : Int) + 1) y (by have := HK.out; unfold Sm.Wd; omega)) rfl
  simp only [E4.v] at CI
  obtain ⟨u, hu⟩ : ∃ u, lst ((k : Int) + 1) = u := ⟨_, rfl⟩
  rw [hu] at CI
  have ou : u.ok := hu ▸ lst_ok _
  replace CI := Hn CI
  rw [h0] at l0
  have wu : IntKind.u64.wrap ((k : Int) + 1) = (k : Int) + 1 := by have := HK.out.1; rw [IntKind.wrap_u64]; omega
  clear th hu
  go_wp2_with (go_at_call 9; refine (CI.out _).mono ?_; rintro e w3 ⟨rfl, hb⟩; have a3 := cell_keep a0 hb; have f3 := (hb.frozen (p := ⟨ab, 0, none⟩) (by have := HG.out.size; show ab < w2.heap.size; omega)).trans f0; have G3 := Hn (HG.out.trans (gbI hb _)); have b0 := cell_keep z0 hb; have b1 := cell_keep z1 hb; have b2 := cell_keep z2 hb; have b3 := cell_keep z3 hb; have g0 := (hb.frozen (p := ⟨w.heap.size, 0, none⟩) (World.block_lt_of_cell? w2 _ z0)).trans y0; have g1 := (hb.frozen (p := ⟨w.heap.size, 1, none⟩) (World.block_lt_of_cell? w2 _ z1)).trans y1; have g2 := (hb.frozen (p := ⟨w.heap.size, 2, none⟩) (World.block_lt_of_cell? w2 _ z2)).trans y2; have g3 := (hb.frozen (p := ⟨w.heap.size, 3, none⟩) (World.block_lt_of_cell? w2 _ z3)).trans y3; clear hb z0 z1 z2 z3 y0 y1 y2 y3 a0 f0)
  have GF : w.grownBy (w3.setCells w.heap.size 0 [.int .u64 u.x0, .int .u64 u.x1, .int .u64 u.x2, .int .u64 u.x3]) (some ab) := gb_new G3.out (gb_setCells w.heap.size [.int .u64 u.x0, .int .u64 u.x1, .int .u64 u.x2, .int .u64 u.x3] 0 w3) (Nat.le_refl _)
  refine bodyPost_ret (v := .agg #[.int .u64 u.x0, .int .u64 u.x1, .int .u64 u.x2, .int .u64 u.x3]) (by simp [results, Tryz.results26, go_sem, b0, b1, b2, b3]) rfl ⟨u, rfl, ou, GF, ?_, ?_⟩
  ·have hne : some ab ≠ some w.heap.size := fun e => by have := Option.some.inj e; omega
   have := (gb_setCells w.heap.size [.int .u64 u.x0, .int .u64 u.x1, .int .u64 u.x2, .int .u64 u.x3] 0 w3).cell a3 hne
   exact this
  ·have : (w3.setCells w.heap.size 0 [.int .u64 u.x0, .int .u64 u.x1, .int .u64 u.x2, .int .u64 u.x3]).frozen? ⟨ab, 0, none⟩ = false := by rw [World.frozen?_setCells]; exact f3
   exact this
 ·obtain ⟨eb, eo, h1, h2⟩ := HA.out.at'
  obtain rfl := elp.symm.trans (h1 (by omega))
  have hr4 := h2 (by omega)
  have n0 : 0 < l.n := by omega
  obtain ⟨j, hj⟩ : ∃ j, (k + 1) % l.n = j := ⟨_, rfl⟩
  obtain ⟨q, hq⟩ : ∃ q, (k + 1) / l.n = q := ⟨_, rfl⟩
  have jl : j < l.n := hj ▸ Nat.mod_lt _ n0
  have ql : q ≤ k + 1 := hq ▸ Nat.div_le_self _ _
  have hr : Int.tmod ((k : Int) + 1) (l.n : Int) = (j : Int) := by
   rw [← hj]; exact (Int.ofNat_tmod (k + 1) l.n).symm
  have hq2 : Int.tdiv ((k : Int) + 1) (l.n : Int) = (q : Int) := by
   rw [← hq]; exact (Int.ofNat_tdiv (k + 1) l.n).symm
  have le : eb < w0.heap.size := World.block_lt_of_cell? w0 _ (hr4.c0 j jl)
  have r5 := hr4.keep BW2.out
  have oe := HA.out.ok j jl
  have AL : ∀ y, w2.grownBy y (some w.heap.size) → Below w0.heap.size w0 y := fun y hy => BW2.out.grown hy BW2.out.size (fun i hi => by have := Option.some.inj hi; have := HB.out.size; omega)
  obtain ⟨u, hu⟩ : ∃ u, lst (q : Int) = u := ⟨_, rfl⟩
  obtain ⟨rv, hrv⟩ : ∃ rv, lst ((l.g j).n + u.n) = rv := ⟨_, rfl⟩
  have orv : rv.ok := hrv ▸ lst_ok _
  have C1 := fun y (hy : w2.grownBy y (some w.heap.size)) => fix (R := lst (q : Int)) (Int_any (q : Int) y (by have := HK.out.1; unfold Sm.Wd; omega)) rfl
  have C2 := fun y (hy : w2.grownBy y (some w.heap.size)) => fix (R := lst ((l.g j).n + u.n)) (Add_any (l.g j) u y (HT.out.keep (AL y hy)) oe (hu ▸ lst_ok _)) rfl
  rw [hu] at C1
  rw [hrv] at C2
  simp only [E4.v] at C1 C2
  replace C1 := Hn C1
  replace C2 := Hn C2
  have e0 := r5.c0 j jl
  have e1 := r5.c1 j jl
  have e2 := r5.c2 j jl
  have e3 := r5.c3 j jl
  have wj : IntKind.i64.wrap (j : Int) = (j : Int) := IntWalk.i64_in _ (by have := HK.out; omega)
  have wq : IntKind.i64.wrap (q : Int) = (q : Int) := IntWalk.i64_in _ (by have := HK.out; omega)
  have wu : IntKind.u64.wrap (q : Int) = (q : Int) := by have := HK.out.1; rw [IntKind.wrap_u64]; omega
  have kc : ((k + 1 : Nat) : Int) = (k : Int) + 1 := by omega
  have hwz : w0.heap.size ≤ w.heap.size := HB.out.size
  clear r5 hr4 h1 h2 hj hq hu hrv oe AL
  generalize l.g j = ev at *
  have LN := Hn n0
  generalize l.n = n at *
  generalize l.c = c at *
  have nz2 : ¬ n = 0 := by have := LN.out; omega
  have nz1 : ¬ (n : Int) = 0 := by omega
  have np : (0 : Int) < (n : Int) := by omega
  rw [← kc] at a0 hr hq2
  go_upto_region 4 with fail
  refine nx4 _ ab lb w.heap.size eb eo n c (k + 1) j q ev u rv _ _ _ _ _ _ _ _ _ _ _ _ _ _ _ _ _ _ _ _ _ _ w2 np nz1 nz2 (by omega) (by omega) hr hq2 wj wq wu (by omega) (by omega) (by omega) l0 a0 e0 e1 e2 e3 th C1 C2 (Hn ?_)
  intro wz hz
  obtain ⟨wy, hy, hty, hwz2⟩ := hz
  have R := World.rangeAt_setCells_same wy w.heap.size 0 [.int .u64 rv.x0, .int .u64 rv.x1, .int .u64 rv.x2, .int .u64 rv.x3] hty
  rw [← hwz2] at R
  have r0 := R 0 _ rfl
  have r1 := R 1 _ rfl
  have r2 := R 2 _ rfl
  have r3 := R 3 _ rfl
  simp only [Nat.zero_add] at r0 r1 r2 r3
  have gz : w2.grownBy wz (some w.heap.size) := by rw [hwz2]; exact hy.trans (gb_setCells _ _ 0 _)
  have hne : some ab ≠ some w.heap.size := fun e => by have := Option.some.inj e; omega
  have GF := Hn (gb_new HG.out gz (Nat.le_refl _))
  have af := Hn (gz.cell a0 hne)
  have ff := Hn (gz_frozen gz hne (by have := HG.out.size; show ab < w2.heap.size; omega) f0)
  clear R hwz2 hy hty gz C1 C2 th a0 l0 e0 e1 e2 e3 z0 z1 z2 z3 y0 y1 y2 y3 f0
  go_wp2_with fail
  refine bodyPost_ret (v := .agg #[.int .u64 rv.x0, .int .u64 rv.x1, .int .u64 rv.x2, .int .u64 rv.x3]) (by simp [results, Tryz.results26, go_sem, r0, r1, r2, r3]) rfl ⟨rv, rfl, orv, GF.out, af.out, ff.out⟩
end Ci
end Go.Proofs.YthngomhhafoamaaGreatDoor
