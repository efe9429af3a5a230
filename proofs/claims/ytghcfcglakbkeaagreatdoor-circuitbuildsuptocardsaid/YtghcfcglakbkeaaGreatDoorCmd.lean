import Derived.Test.YtghcfcglakbkeaaGreatDoorCmc
namespace Go.Proofs.YtghcfcglakbkeaaGreatDoor
set_option maxRecDepth 100000
set_option maxHeartbeats 16000000
open Go.RowKit
set_option linter.unusedVariables false
set_option linter.unusedSimpArgs false
open Cm (Wr Tm co bf Ls lf ins Eqm)
namespace Ci
theorem bl_drew (w : World) : Below w.heap.size w w.drew := Below.drew (Below.refl _ _)
theorem gbI {w w' : World} (h : Below w.heap.size w w') (row : Option Nat) : w.grownBy w' row := ⟨h.os, h.tape, h.output, h.size, fun k hk _ => h.block k hk⟩
theorem below_grown {w w' : World} {row : Option Nat} {base : Nat} (hg : w.grownBy w' row) (hb : base ≤ w.heap.size) (hr : ∀ k, row = some k → base ≤ k) : Below base w w' :=
 ⟨hg.os, hg.tape, hg.output, hg.size, fun k hk => hg.block k (by omega) (fun e => by have := hr k e.symm; omega)⟩
theorem fix {F : Nat} {args : Array Value} {w : World} {n : Int} {R : E4} (c : Calls Tryz.prog F args w (fun e w' => ∃ r : E4, e = .returned r.v ∧ r.is n ∧ Below w.heap.size w w')) (h : lst n = R) :
  Calls Tryz.prog F args w fun e w' => e = .returned R.v ∧ Below w.heap.size w w' := c.mono fun e w' ⟨r, he, hr, hb⟩ => ⟨by rw [he, hr, h], hb⟩
theorem mp_ne {w : World} {b a o : Nat} {M : List Tm} {v : Value} (h : Mp w b M) (hc : w.cell? ⟨a, o, none⟩ = some v) : some a ≠ some b := fun e => by
 obtain ⟨es, clock, hb, _⟩ := h
 have e := Option.some.inj e
 subst e
 simp [World.cell?, hb] at hc
theorem mp_cell {w w' : World} {b a o : Nat} {M : List Tm} {v : Value} (h : Mp w b M) (hg : w.grownBy w' (some b)) (hc : w.cell? ⟨a, o, none⟩ = some v) : w'.cell? ⟨a, o, none⟩ = some v := hg.cell hc (mp_ne h hc)
theorem mp_rt {w w' : World} {b sb so n : Nat} {M : List Tm} {f : Nat → Trm} (h : Mp w b M) (hg : w.grownBy w' (some b)) (hc : Rt w sb so n f) : Rt w' sb so n f :=
 ⟨fun k hk => mp_cell h hg (hc.c0 k hk), fun k hk => mp_cell h hg (hc.c1 k hk), fun k hk => mp_cell h hg (hc.c2 k hk), fun k hk => mp_cell h hg (hc.c3 k hk), fun k hk => mp_cell h hg (hc.c4 k hk), fun k hk => mp_cell h hg (hc.c5 k hk)⟩
theorem mp_lt {w w' : World} {b n : Nat} {P : Option Addr} {M : List Tm} {f : Nat → Trm} (h : Mp w b M) (hg : w.grownBy w' (some b)) (hc : Lt w P n f) : Lt w' P n f := by
 obtain ⟨sb, so, h1, h2⟩ := hc
 exact ⟨sb, so, h1, fun hl => mp_rt h hg (h2 hl)⟩
theorem mp_tb {w w' : World} {b : Nat} {M : List Tm} (h : Mp w b M) (hg : w.grownBy w' (some b)) (hT : Tb w) : Tb w' := by
 obtain ⟨h0, h1, h2, h3, h4, h5, h6, h7, h8, h9, h10, h11⟩ := hT
 exact ⟨mp_cell h hg h0, mp_cell h hg h1, mp_cell h hg h2, mp_cell h hg h3, mp_cell h hg h4, mp_cell h hg h5, mp_cell h hg h6, mp_cell h hg h7, mp_cell h hg h8, mp_cell h hg h9, mp_cell h hg h10, mp_cell h hg h11⟩
theorem wp_mapPut {op : Oper} {a : Act} {w : World} {K : Act → World → Prop} {Q : Exit → Act → World → Prop} (m x v : Operand) (ho : op.op = .mapUpdate 132 m x v) (b : Nat) (M : List Tm) (qk qi : Int) (r : E4) (n : Int) (hm : a.eval m = .map (some b)) (hx : a.eval x = .agg #[.int .i64 qk, .int .i64 qi]) (hv : a.eval v = r.v) (hr : lst n = r) (hM : Mp w b M)
  (h : ∀ w' M', Mp w' b M' → (∀ p, co M' p = if p = (qk, qi) then n % Sm.L else co M p) → M'.length ≤ M.length + 1 → w.grownBy w' (some b) → K (a.put op.dst undef) w') : op.wp Tryz.prog a w K Q := by
 subst hr
 obtain ⟨w', M', hrun, h1, h2, h3, h4⟩ := hM.put (qk, qi) n
 unfold wv at hrun
 have hk := h w' M' h1 h2 h3 h4
 clear h
 unfold Oper.wp
 simp [execOp, ho, hm, hx, hv, hrun, Result.andThen]
 exact hk
def Pd (w : World) (b : Nat) (M X : List Tm) (k : Nat) (w' : World) : Prop := w.grownBy w' (some b) ∧ ∃ M', Mp w' b M' ∧ (∀ p, co M' p % Sm.L = (co M p + co X p) % Sm.L) ∧ M'.length ≤ M.length + k
theorem gb_tr {a b c : World} {row : Option Nat} (h : a.grownBy b row) (k : b.grownBy c row) : a.grownBy c row := ⟨k.os.trans h.os, k.tape.trans h.tape, k.output.trans h.output, Nat.le_trans h.size k.size, fun i hi hn => (k.block i (Nat.lt_of_lt_of_le hi h.size) hn).trans (h.block i hi hn)⟩
theorem wp_look {op : Oper} {a : Act} {w : World} {K : Act → World → Prop} {Q : Exit → Act → World → Prop} (m x : Operand) (ho : op.op = .lookup 132 m x false) (b : Nat) (M : List Tm) (qk qi : Int) (z : E4) (hm : a.eval m = .map (some b)) (hx : a.eval x = .agg #[.int .i64 qk, .int .i64 qi]) (hM : Mp w b M) (hz : lst (co M (qk, qi)) = z)
  (h : K (a.put op.dst z.v) w) : op.wp Tryz.prog a w K Q := by
 subst hz
 have hrun := hM.look (qk, qi)
 unfold wv at hrun
 unfold Oper.wp execOp
 simp only [ho, hm, hx, hrun, Result.andThen, Sem.run_bind, Result.andThen_ok]
 exact h
def pCmd0 : String := "lin.go:46"
def put3Lo_0 : Oper := oO 14 (Op.move (Operand.tmp 0)) 132 pCmd0 #[]
def put3Lo_1 : Oper := oO 15 (Op.fieldAddr 123 (Operand.tmp 7) 0) 0 pCmd0 #[]
def put3Lo_2 : Oper := oO 16 (Op.load 79 (Operand.tmp 15)) 79 pCmd0 #[DD 1]
def put3Lo_3 : Oper := oO 17 (Op.move (Operand.tmp 0)) 132 pCmd0 #[]
def put3Lo_4 : Oper := oO 18 (Op.fieldAddr 123 (Operand.tmp 7) 0) 0 pCmd0 #[]
def put3Lo_5 : Oper := oO 19 (Op.load 79 (Operand.tmp 18)) 79 pCmd0 #[DD 4]
def put3Lo_6 : Oper := oO 20 (Op.lookup 132 (Operand.tmp 17) (Operand.tmp 19) false) 41 pCmd0 #[DD 3, DD 5]
def put3Lo_7 : Oper := oO 21 (Op.move (Operand.tmp 2)) 110 pCmd0 #[]
def put3Lo_8 : Oper := oO 22 (Op.fieldAddr 123 (Operand.tmp 7) 1) 0 pCmd0 #[]
def put3Lo_9 : Oper := oO 23 (Op.load 41 (Operand.tmp 22)) 41 pCmd0 #[DD 8]
def put3Lo_10 : Oper := oO 24 (Op.call { callee := Callee.value (Operand.tmp 21), args := #[Operand.tmp 23], argTypes := #[41] }) 41 pCmd0 #[DD 7, DD 9]
def put3Lo_11 : Oper := oO 25 (Op.call { callee := Callee.value (Operand.func 86), args := #[Operand.tmp 20, Operand.tmp 24], argTypes := #[41, 41] }) 41 pCmd0 #[DD 6, DD 10, CH 10]
def put3Lo_12 : Oper := oN (Op.mapUpdate 132 (Operand.tmp 14) (Operand.tmp 16) (Operand.tmp 25)) pCmd0 #[DD 0, DD 2, DD 11, CH 11, PH 0, PH 1, PH 2, PH 3, PH 4, PH 5, PH 6, PH 7, PH 8, PH 9, PH 10, PH 11]
def put3Lo : Array Oper := #[put3Lo_0, put3Lo_1, put3Lo_2, put3Lo_3, put3Lo_4, put3Lo_5, put3Lo_6, put3Lo_7, put3Lo_8, put3Lo_9, put3Lo_10, put3Lo_11, put3Lo_12]
theorem put3L (Q : Exit → Act → World → Prop) (b T : Nat) (M : List Tm) (qk qi nn : Int) (z a u r : E4) (u1 u3 u4 u5 u6 u8 u9 aa ab ad ae af ag ah ai aj ak al am an ao ap aq au : Value) (W : World)
  (neT : some T ≠ some b) (t0 : W.cell? ⟨T, 0, none⟩ = some (.int .i64 qk)) (t1 : W.cell? ⟨T, 1, none⟩ = some (.int .i64 qi)) (t2 : W.cell? ⟨T, 2, none⟩ = some (.int .u64 a.x0)) (t3 : W.cell? ⟨T, 3, none⟩ = some (.int .u64 a.x1)) (t4 : W.cell? ⟨T, 4, none⟩ = some (.int .u64 a.x2)) (t5 : W.cell? ⟨T, 5, none⟩ = some (.int .u64 a.x3))
  (HZ : Hid (lst (co M (qk, qi)) = z)) (mp : Mp W b M) (HR : Hid (lst nn = r))
  (C10 : Hid (∀ y, W.grownBy y (some b) → Calls Tryz.prog 115 #[.agg #[.int .u64 a.x0, .int .u64 a.x1, .int .u64 a.x2, .int .u64 a.x3]] y fun e w' => e = .returned (.agg #[.int .u64 u.x0, .int .u64 u.x1, .int .u64 u.x2, .int .u64 u.x3]) ∧ Below y.heap.size y w'))
  (C11 : Hid (∀ y, W.grownBy y (some b) → Calls Tryz.prog 86 #[.agg #[.int .u64 z.x0, .int .u64 z.x1, .int .u64 z.x2, .int .u64 z.x3], .agg #[.int .u64 u.x0, .int .u64 u.x1, .int .u64 u.x2, .int .u64 u.x3]] y fun e w' => e = .returned (.agg #[.int .u64 r.x0, .int .u64 r.x1, .int .u64 r.x2, .int .u64 r.x3]) ∧ Below y.heap.size y w'))
  (HQ : Hid (∀ (wz : World), W.grownBy wz (some b) → (∃ M1, Mp wz b M1 ∧ (∀ p, co M1 p = if p = (qk, qi) then nn % Sm.L else co M p) ∧ M1.length ≤ M.length + 1) → Q .normal ⟨#[.map (some b), u1, .func (.func 115) #[] #[], u3, u4, u5, u6, .pointer (some ⟨T, 0, none⟩), u8, u9, aa, ab, ad, ae, .map (some b), .pointer (some ⟨T, 0, none⟩), .agg #[.int .i64 qk, .int .i64 qi], .map (some b), .pointer (some ⟨T, 0, none⟩), .agg #[.int .i64 qk, .int .i64 qi], .agg #[.int .u64 z.x0, .int .u64 z.x1, .int .u64 z.x2, .int .u64 z.x3], .func (.func 115) #[] #[], .pointer (some ⟨T, 2, none⟩), .agg #[.int .u64 a.x0, .int .u64 a.x1, .int .u64 a.x2, .int .u64 a.x3], .agg #[.int .u64 u.x0, .int .u64 u.x1, .int .u64 u.x2, .int .u64 u.x3], .agg #[.int .u64 r.x0, .int .u64 r.x1, .int .u64 r.x2, .int .u64 r.x3], au], []⟩ wz)) : (Code.region 3 put3Lo true).wp Tryz.prog Q ⟨#[.map (some b), u1, .func (.func 115) #[] #[], u3, u4, u5, u6, .pointer (some ⟨T, 0, none⟩), u8, u9, aa, ab, ad, ae, af, ag, ah, ai, aj, ak, al, am, an, ao, ap, aq, au], []⟩ W := by
 have MP := Hn (mp.keep (bl_drew W))
 clear mp
 unfold put3Lo
 refine wp_region_noPanic ?_
 refine wp_region_held_drew (S := fun x => W.grownBy x (some b)) (by kernel_rfl) (gbI (bl_drew W) _) (fun hH0 => ?_)
 refine tj 0 put3Lo_0 (.map (some b)) hH0 (fun w0 hSw => ?_) ?_
 ·(unfold put3Lo_0 oO; clear hSw; go_simp)
 simp only [put3Lo_0, oO, Act.put, sA, sB, sC]
 refine tj 1 put3Lo_1 (.pointer (some ⟨T, 0, none⟩)) hH0 (fun w0 hSw => ?_) ?_
 ·(unfold put3Lo_1 oO; clear hSw; go_simp)
 simp only [put3Lo_1, oO, Act.put, sA, sB, sC]
 refine tj 3 put3Lo_3 (.map (some b)) hH0 (fun w0 hSw => ?_) ?_
 ·(unfold put3Lo_3 oO; clear hSw; go_simp)
 simp only [put3Lo_3, oO, Act.put, sA, sB, sC]
 refine tj 4 put3Lo_4 (.pointer (some ⟨T, 0, none⟩)) hH0 (fun w0 hSw => ?_) ?_
 ·(unfold put3Lo_4 oO; clear hSw; go_simp)
 simp only [put3Lo_4, oO, Act.put, sA, sB, sC]
 refine tj 7 put3Lo_7 (.func (.func 115) #[] #[]) hH0 (fun w0 hSw => ?_) ?_
 ·(unfold put3Lo_7 oO; clear hSw; go_simp)
 simp only [put3Lo_7, oO, Act.put, sA, sB, sC]
 refine tj 8 put3Lo_8 (.pointer (some ⟨T, 2, none⟩)) hH0 (fun w0 hSw => ?_) ?_
 ·(unfold put3Lo_8 oO; clear hSw; go_simp)
 simp only [put3Lo_8, oO, Act.put, sA, sB, sC]
 refine tj 2 put3Lo_2 (.agg #[.int .i64 qk, .int .i64 qi]) hH0 (fun w0 hSw => ?_) ?_
 ·(unfold put3Lo_2 oO; have hS : W.grownBy w0 (some b) := hSw; have a0 := hS.cell t0 neT; have a1 := hS.cell t1 neT; clear hS hSw; go_simp)
 simp only [put3Lo_2, oO, Act.put, sA, sB, sC]
 refine tj 5 put3Lo_5 (.agg #[.int .i64 qk, .int .i64 qi]) hH0 (fun w0 hSw => ?_) ?_
 ·(unfold put3Lo_5 oO; have hS : W.grownBy w0 (some b) := hSw; have a0 := hS.cell t0 neT; have a1 := hS.cell t1 neT; clear hS hSw; go_simp)
 simp only [put3Lo_5, oO, Act.put, sA, sB, sC]
 refine tj 9 put3Lo_9 (.agg #[.int .u64 a.x0, .int .u64 a.x1, .int .u64 a.x2, .int .u64 a.x3]) hH0 (fun w0 hSw => ?_) ?_
 ·(unfold put3Lo_9 oO; have hS : W.grownBy w0 (some b) := hSw; have a0 := hS.cell t2 neT; have a1 := hS.cell t3 neT; have a2 := hS.cell t4 neT; have a3 := hS.cell t5 neT; clear hS hSw; go_simp)
 simp only [put3Lo_9, oO, Act.put, sA, sB, sC]
 refine ar [6, 10] ?_
 refine ac put3Lo_6 (fun K hK => ?_) (ac put3Lo_10 (fun K hK => ?_) AllReadyH.nil)
 ·unfold put3Lo_6 oO
  have HH := Hn hH0
  clear hH0
  refine wp_look _ _ rfl b M qk qi z rfl rfl MP.out HZ.out ?_
  simp only [Act.put, sA, sB, sC]
  have SN := HH
  clear HH
  refine hK.out _ _ SN.out (fun hH1 => ?_)
  clear hK K SN
  refine ar [10] ?_
  refine ac put3Lo_10 (fun K hK => ?_) AllReadyH.nil
  unfold put3Lo_10 oO
  have HH := Hn hH1
  clear hH1
  go_simp
  refine (C10.out _ HH.out).mono ?_
  rintro e wn2 ⟨rfl, hb⟩
  have SN := Hn (gb_tr HH.out (gbI hb _))
  replace MP := Hn (MP.out.keep hb)
  clear HH C10 hb
  go_wp2_with fail
  refine hK.out _ _ SN.out (fun hH2 => ?_)
  clear hK K SN
  refine ar [11] ?_
  refine ac put3Lo_11 (fun K hK => ?_) AllReadyH.nil
  unfold put3Lo_11 oO
  have HH := Hn hH2
  clear hH2
  go_simp
  refine (C11.out _ HH.out).mono ?_
  rintro e wn3 ⟨rfl, hb⟩
  have SN := Hn (gb_tr HH.out (gbI hb _))
  replace MP := Hn (MP.out.keep hb)
  clear HH C11 hb
  go_wp2_with fail
  refine hK.out _ _ SN.out (fun hH3 => ?_)
  clear hK K SN
  refine ar [12] ?_
  refine ac put3Lo_12 (fun K hK => ?_) AllReadyH.nil
  unfold put3Lo_12 oN
  have HH := Hn hH3
  clear hH3
  refine wp_mapPut _ _ _ rfl b M qk qi r nn rfl rfl rfl HR.out MP.out (fun wn4 M1 hM1 hco hle hg => ?_)
  have SN := Hn (gb_tr HH.out hg)
  have FE := Hn ((⟨M1, hM1, hco, hle⟩ : ∃ M1, Mp _ b M1 ∧ (∀ p, co M1 p = if p = (qk, qi) then nn % Sm.L else co M p) ∧ M1.length ≤ M.length + 1))
  clear HH hM1 hco hle hg
  simp only [Act.put, sA, sB, sC]
  refine hK.out _ _ SN.out (fun hH4 => ?_)
  clear hK K SN
  have HH := Hn hH4
  have FQ := Hn (HQ.out _ HH.out FE.out)
  refine wpAnyH_done (by kernel_rfl) ?_ _
  refine NoPanic.normal ?_
  exact FQ.out
 ·unfold put3Lo_10 oO
  have HH := Hn hH0
  clear hH0
  go_simp
  refine (C10.out _ HH.out).mono ?_
  rintro e wn1 ⟨rfl, hb⟩
  have SN := Hn (gb_tr HH.out (gbI hb _))
  replace MP := Hn (MP.out.keep hb)
  clear HH C10 hb
  go_wp2_with fail
  refine hK.out _ _ SN.out (fun hH1 => ?_)
  clear hK K SN
  refine ar [6] ?_
  refine ac put3Lo_6 (fun K hK => ?_) AllReadyH.nil
  unfold put3Lo_6 oO
  have HH := Hn hH1
  clear hH1
  refine wp_look _ _ rfl b M qk qi z rfl rfl MP.out HZ.out ?_
  simp only [Act.put, sA, sB, sC]
  have SN := HH
  clear HH
  refine hK.out _ _ SN.out (fun hH2 => ?_)
  clear hK K SN
  refine ar [11] ?_
  refine ac put3Lo_11 (fun K hK => ?_) AllReadyH.nil
  unfold put3Lo_11 oO
  have HH := Hn hH2
  clear hH2
  go_simp
  refine (C11.out _ HH.out).mono ?_
  rintro e wn3 ⟨rfl, hb⟩
  have SN := Hn (gb_tr HH.out (gbI hb _))
  replace MP := Hn (MP.out.keep hb)
  clear HH C11 hb
  go_wp2_with fail
  refine hK.out _ _ SN.out (fun hH3 => ?_)
  clear hK K SN
  refine ar [12] ?_
  refine ac put3Lo_12 (fun K hK => ?_) AllReadyH.nil
  unfold put3Lo_12 oN
  have HH := Hn hH3
  clear hH3
  refine wp_mapPut _ _ _ rfl b M qk qi r nn rfl rfl rfl HR.out MP.out (fun wn4 M1 hM1 hco hle hg => ?_)
  have SN := Hn (gb_tr HH.out hg)
  have FE := Hn ((⟨M1, hM1, hco, hle⟩ : ∃ M1, Mp _ b M1 ∧ (∀ p, co M1 p = if p = (qk, qi) then nn % Sm.L else co M p) ∧ M1.length ≤ M.length + 1))
  clear HH hM1 hco hle hg
  simp only [Act.put, sA, sB, sC]
  refine hK.out _ _ SN.out (fun hH4 => ?_)
  clear hK K SN
  have HH := Hn hH4
  have FQ := Hn (HQ.out _ HH.out FE.out)
  refine wpAnyH_done (by kernel_rfl) ?_ _
  refine NoPanic.normal ?_
  exact FQ.out
def glL (n : Nat) (f : Nat → Trm) : List Tm := (List.range n).map fun k => ((f k).q, (f k).a.n)
theorem glL_succ (n : Nat) (f : Nat → Trm) : glL (n + 1) f = glL n f ++ [((f n).q, (f n).a.n)] := by simp [glL, List.range_succ]
theorem putL_any (P : Option Addr) (n c b : Nat) (M : List Tm) (f : Nat → Trm) (w : World) (hT : Tb w) (hn : n ≤ 4398046510976) (hf : ∀ k, k < n → (f k).a.ok) (hL : Lt w P n f) (hM : Mp w b M) :
  Calls Tryz.prog 114 #[.map (some b), .slice P n c, .func (.func 115) #[] #[]] w fun e w' => e = .returned (.tuple #[]) ∧ Pd w b M (glL n f) n w' := by
 have M0 : Hid (Mp w b M) := Hn hM
 have R0 : Hid (Pd w b M (glL 0 f) 0 w) := Hn ⟨World.grownBy.refl _ _, M, hM, fun p => by simp [glL, Cm.co_nil], by omega⟩
 have HN := Hn hn
 have HL := Hn hL
 have HT := Hn hT
 have HF := Hn hf
 clear hM hn hL hT hf
 go_enter Tryz.func114, Tryz.ntmps114
 go_wp2_with fail
 go_loopw [10] (fun iv w' => ∃ i : Nat, i ≤ n ∧ iv = .int .i64 i ∧ Hid (Pd w b M (glL i f) i w')) (fun i _ => n - (intOf i).toNat)
 case atStart => exact ⟨0, by omega, rfl, R0⟩
 case round =>
  clear R0
  obtain ⟨i, hi, rfl, hR⟩ := hrel
  by_cases hin : i < n
  ·have i0 : (0 : Int) ≤ (i : Int) := by omega
   have i1 : (i : Int) < (n : Int) := by omega
   have w9 : IntKind.i64.wrap ((i : Int) + 1) = (i : Int) + 1 := IntWalk.i64_in _ (by have := HN.out; omega)
   obtain ⟨gw, M1, hM1, hco1, hle1⟩ := hR.out
   obtain ⟨sb, so, e1, e2⟩ := HL.out
   obtain rfl := e1 (by omega)
   have rx := mp_rt M0.out gw (e2 (by omega))
   have x0 := rx.c0 i hin
   have x1 := rx.c1 i hin
   have x2 := rx.c2 i hin
   have x3 := rx.c3 i hin
   have x4 := rx.c4 i hin
   have x5 := rx.c5 i hin
   have oa := HF.out i hin
   have G1 := Hn gw
   have P1 := Hn hM1
   have Q1 := Hn hco1
   have L1 := Hn hle1
   have FS := Hn (glL_succ i f)
   clear rx e1 e2 hR gw hM1 hco1 hle1
   generalize f i = fi at *
   obtain ⟨⟨qk, qi⟩, a⟩ := fi
   simp only at x0 x1 x2 x3 x4 x5 oa FS
   have OA := Hn oa
   have HX := Hn x0
   clear oa
   go_upto_region 3 with fail
   clear x0 x1 x2 x3 x4 x5
   have t0 : (wr.alloc (.cells #[.int .i64 qk, .int .i64 qi, .int .u64 a.x0, .int .u64 a.x1, .int .u64 a.x2, .int .u64 a.x3] 123)).cell? ⟨wr.heap.size, 0, none⟩ = some (.int .i64 qk) := by go_simp
   have t1 : (wr.alloc (.cells #[.int .i64 qk, .int .i64 qi, .int .u64 a.x0, .int .u64 a.x1, .int .u64 a.x2, .int .u64 a.x3] 123)).cell? ⟨wr.heap.size, 1, none⟩ = some (.int .i64 qi) := by go_simp
   have t2 : (wr.alloc (.cells #[.int .i64 qk, .int .i64 qi, .int .u64 a.x0, .int .u64 a.x1, .int .u64 a.x2, .int .u64 a.x3] 123)).cell? ⟨wr.heap.size, 2, none⟩ = some (.int .u64 a.x0) := by go_simp
   have t3 : (wr.alloc (.cells #[.int .i64 qk, .int .i64 qi, .int .u64 a.x0, .int .u64 a.x1, .int .u64 a.x2, .int .u64 a.x3] 123)).cell? ⟨wr.heap.size, 3, none⟩ = some (.int .u64 a.x1) := by go_simp
   have t4 : (wr.alloc (.cells #[.int .i64 qk, .int .i64 qi, .int .u64 a.x0, .int .u64 a.x1, .int .u64 a.x2, .int .u64 a.x3] 123)).cell? ⟨wr.heap.size, 4, none⟩ = some (.int .u64 a.x2) := by go_simp
   have t5 : (wr.alloc (.cells #[.int .i64 qk, .int .i64 qi, .int .u64 a.x0, .int .u64 a.x1, .int .u64 a.x2, .int .u64 a.x3] 123)).cell? ⟨wr.heap.size, 5, none⟩ = some (.int .u64 a.x3) := by go_simp
   have BA := bl_alloc wr (.cells #[.int .i64 qk, .int .i64 qi, .int .u64 a.x0, .int .u64 a.x1, .int .u64 a.x2, .int .u64 a.x3] 123)
   generalize hT9 : wr.heap.size = T9 at *
   have P2 := Hn (P1.out.keep (by rw [hT9]; exact BA))
   have neT : some T9 ≠ some b := fun e => by have := P1.out.lt; have := Option.some.inj e; omega
   have G2 := Hn (gb_tr G1.out (gbI (by rw [hT9]; exact BA) (some b)))
   clear BA
   generalize wr.alloc (.cells #[.int .i64 qk, .int .i64 qi, .int .u64 a.x0, .int .u64 a.x1, .int .u64 a.x2, .int .u64 a.x3] 123) = wa at *
   obtain ⟨z, hz⟩ : ∃ z, lst (co M1 (qk, qi)) = z := ⟨_, rfl⟩
   obtain ⟨u, hu⟩ : ∃ u, lst (a.n) = u := ⟨_, rfl⟩
   obtain ⟨r, hr⟩ : ∃ r, lst (z.n + u.n) = r := ⟨_, rfl⟩
   have TB : ∀ v, wa.grownBy v (some b) → Tb v := fun v hv => mp_tb M0.out (gb_tr G2.out hv) HT.out
   have C10 := Hn (fun v (hv : wa.grownBy v (some b)) => have T := TB v hv; have oa := OA.out; fix (R := u) (Least_any a v T oa) hu)
   have C11 := Hn (fun v (hv : wa.grownBy v (some b)) => fix (R := r) (Add_any z u v (TB v hv) (hz ▸ lst_ok _) (hu ▸ lst_ok _)) hr)
   refine put3L _ b T9 M1 qk qi (z.n + u.n) z a u r _ _ _ _ _ _ _ _ _ _ _ _ _ _ _ _ _ _ _ _ _ _ _ _ wa neT t0 t1 t2 t3 t4 t5 (Hn hz) P2.out (Hn hr) C10 C11 (Hn ?_)
   intro wz gz ⟨M2, hM2, hco2, hle2⟩
   have PN : Hid (Pd w b M (glL (i + 1) f) (i + 1) wz) := Hn ⟨gb_tr G2.out gz, M2, hM2, fun p => by
    rw [hco2 p, FS.out, Cm.co_app, Cm.co_cons, Cm.co_nil]
    have q1 := Q1.out p
    by_cases hp : p = (qk, qi)
    ·subst hp
     rw [if_pos rfl, if_pos rfl, ← hz, ← hu, lst_n, lst_n, mod_add2, Int.emod_emod_of_dvd _ (Int.dvd_refl _), Int.add_emod, q1, ← Int.add_emod]
     congr 1
     omega
    ·rw [if_neg hp, if_neg (fun e => hp e.symm), q1]
     congr 1
     omega, by have := L1.out; omega⟩
   clear C10 C11 TB gz hM2 hco2 hle2 t0 t1 t2 t3 t4 t5 hz hu hr
   go_wp2_with fail
   go_roundw
   case rel => exact ⟨i + 1, by omega, by go_num, PN⟩
   case measure => simp [intOf]; omega
  ·obtain rfl : i = n := by omega
   have lq : ¬ (i : Int) < (i : Int) := by omega
   have PN := hR
   clear hR
   go_wp2_with fail
   go_end0
   exact ⟨rfl, PN.out⟩
def put3No : Array Oper := #[put3Lo_0,
 put3Lo_1,
 put3Lo_2,
 put3Lo_3,
 put3Lo_4,
 put3Lo_5,
 put3Lo_6,
 put3Lo_7,
 put3Lo_8,
 put3Lo_9,
 put3Lo_10,
 put3Lo_11,
 put3Lo_12]
theorem put3N (Q : Exit → Act → World → Prop) (b T : Nat) (M : List Tm) (qk qi nn : Int) (z a u r : E4) (u1 u3 u4 u5 u6 u8 u9 aa ab ad ae af ag ah ai aj ak al am an ao ap aq au : Value) (W : World)
  (neT : some T ≠ some b) (t0 : W.cell? ⟨T, 0, none⟩ = some (.int .i64 qk)) (t1 : W.cell? ⟨T, 1, none⟩ = some (.int .i64 qi)) (t2 : W.cell? ⟨T, 2, none⟩ = some (.int .u64 a.x0)) (t3 : W.cell? ⟨T, 3, none⟩ = some (.int .u64 a.x1)) (t4 : W.cell? ⟨T, 4, none⟩ = some (.int .u64 a.x2)) (t5 : W.cell? ⟨T, 5, none⟩ = some (.int .u64 a.x3))
  (HZ : Hid (lst (co M (qk, qi)) = z)) (mp : Mp W b M) (HR : Hid (lst nn = r))
  (C10 : Hid (∀ y, W.grownBy y (some b) → Calls Tryz.prog 87 #[.agg #[.int .u64 a.x0, .int .u64 a.x1, .int .u64 a.x2, .int .u64 a.x3]] y fun e w' => e = .returned (.agg #[.int .u64 u.x0, .int .u64 u.x1, .int .u64 u.x2, .int .u64 u.x3]) ∧ Below y.heap.size y w'))
  (C11 : Hid (∀ y, W.grownBy y (some b) → Calls Tryz.prog 86 #[.agg #[.int .u64 z.x0, .int .u64 z.x1, .int .u64 z.x2, .int .u64 z.x3], .agg #[.int .u64 u.x0, .int .u64 u.x1, .int .u64 u.x2, .int .u64 u.x3]] y fun e w' => e = .returned (.agg #[.int .u64 r.x0, .int .u64 r.x1, .int .u64 r.x2, .int .u64 r.x3]) ∧ Below y.heap.size y w'))
  (HQ : Hid (∀ (wz : World), W.grownBy wz (some b) → (∃ M1, Mp wz b M1 ∧ (∀ p, co M1 p = if p = (qk, qi) then nn % Sm.L else co M p) ∧ M1.length ≤ M.length + 1) → Q .normal ⟨#[.map (some b), u1, .func (.func 87) #[] #[], u3, u4, u5, u6, .pointer (some ⟨T, 0, none⟩), u8, u9, aa, ab, ad, ae, .map (some b), .pointer (some ⟨T, 0, none⟩), .agg #[.int .i64 qk, .int .i64 qi], .map (some b), .pointer (some ⟨T, 0, none⟩), .agg #[.int .i64 qk, .int .i64 qi], .agg #[.int .u64 z.x0, .int .u64 z.x1, .int .u64 z.x2, .int .u64 z.x3], .func (.func 87) #[] #[], .pointer (some ⟨T, 2, none⟩), .agg #[.int .u64 a.x0, .int .u64 a.x1, .int .u64 a.x2, .int .u64 a.x3], .agg #[.int .u64 u.x0, .int .u64 u.x1, .int .u64 u.x2, .int .u64 u.x3], .agg #[.int .u64 r.x0, .int .u64 r.x1, .int .u64 r.x2, .int .u64 r.x3], au], []⟩ wz)) : (Code.region 3 put3No true).wp Tryz.prog Q ⟨#[.map (some b), u1, .func (.func 87) #[] #[], u3, u4, u5, u6, .pointer (some ⟨T, 0, none⟩), u8, u9, aa, ab, ad, ae, af, ag, ah, ai, aj, ak, al, am, an, ao, ap, aq, au], []⟩ W := by
 have MP := Hn (mp.keep (bl_drew W))
 clear mp
 unfold put3No
 refine wp_region_noPanic ?_
 refine wp_region_held_drew (S := fun x => W.grownBy x (some b)) (by kernel_rfl) (gbI (bl_drew W) _) (fun hH0 => ?_)
 refine tj 0 put3Lo_0 (.map (some b)) hH0 (fun w0 hSw => ?_) ?_
 ·(unfold put3Lo_0 oO; clear hSw; go_simp)
 simp only [put3Lo_0, oO, Act.put, sA, sB, sC]
 refine tj 1 put3Lo_1 (.pointer (some ⟨T, 0, none⟩)) hH0 (fun w0 hSw => ?_) ?_
 ·(unfold put3Lo_1 oO; clear hSw; go_simp)
 simp only [put3Lo_1, oO, Act.put, sA, sB, sC]
 refine tj 3 put3Lo_3 (.map (some b)) hH0 (fun w0 hSw => ?_) ?_
 ·(unfold put3Lo_3 oO; clear hSw; go_simp)
 simp only [put3Lo_3, oO, Act.put, sA, sB, sC]
 refine tj 4 put3Lo_4 (.pointer (some ⟨T, 0, none⟩)) hH0 (fun w0 hSw => ?_) ?_
 ·(unfold put3Lo_4 oO; clear hSw; go_simp)
 simp only [put3Lo_4, oO, Act.put, sA, sB, sC]
 refine tj 7 put3Lo_7 (.func (.func 87) #[] #[]) hH0 (fun w0 hSw => ?_) ?_
 ·(unfold put3Lo_7 oO; clear hSw; go_simp)
 simp only [put3Lo_7, oO, Act.put, sA, sB, sC]
 refine tj 8 put3Lo_8 (.pointer (some ⟨T, 2, none⟩)) hH0 (fun w0 hSw => ?_) ?_
 ·(unfold put3Lo_8 oO; clear hSw; go_simp)
 simp only [put3Lo_8, oO, Act.put, sA, sB, sC]
 refine tj 2 put3Lo_2 (.agg #[.int .i64 qk, .int .i64 qi]) hH0 (fun w0 hSw => ?_) ?_
 ·(unfold put3Lo_2 oO; have hS : W.grownBy w0 (some b) := hSw; have a0 := hS.cell t0 neT; have a1 := hS.cell t1 neT; clear hS hSw; go_simp)
 simp only [put3Lo_2, oO, Act.put, sA, sB, sC]
 refine tj 5 put3Lo_5 (.agg #[.int .i64 qk, .int .i64 qi]) hH0 (fun w0 hSw => ?_) ?_
 ·(unfold put3Lo_5 oO; have hS : W.grownBy w0 (some b) := hSw; have a0 := hS.cell t0 neT; have a1 := hS.cell t1 neT; clear hS hSw; go_simp)
 simp only [put3Lo_5, oO, Act.put, sA, sB, sC]
 refine tj 9 put3Lo_9 (.agg #[.int .u64 a.x0, .int .u64 a.x1, .int .u64 a.x2, .int .u64 a.x3]) hH0 (fun w0 hSw => ?_) ?_
 ·(unfold put3Lo_9 oO; have hS : W.grownBy w0 (some b) := hSw; have a0 := hS.cell t2 neT; have a1 := hS.cell t3 neT; have a2 := hS.cell t4 neT; have a3 := hS.cell t5 neT; clear hS hSw; go_simp)
 simp only [put3Lo_9, oO, Act.put, sA, sB, sC]
 refine ar [6, 10] ?_
 refine ac put3Lo_6 (fun K hK => ?_) (ac put3Lo_10 (fun K hK => ?_) AllReadyH.nil)
 ·unfold put3Lo_6 oO
  have HH := Hn hH0
  clear hH0
  refine wp_look _ _ rfl b M qk qi z rfl rfl MP.out HZ.out ?_
  simp only [Act.put, sA, sB, sC]
  have SN := HH
  clear HH
  refine hK.out _ _ SN.out (fun hH1 => ?_)
  clear hK K SN
  refine ar [10] ?_
  refine ac put3Lo_10 (fun K hK => ?_) AllReadyH.nil
  unfold put3Lo_10 oO
  have HH := Hn hH1
  clear hH1
  go_simp
  refine (C10.out _ HH.out).mono ?_
  rintro e wn2 ⟨rfl, hb⟩
  have SN := Hn (gb_tr HH.out (gbI hb _))
  replace MP := Hn (MP.out.keep hb)
  clear HH C10 hb
  go_wp2_with fail
  refine hK.out _ _ SN.out (fun hH2 => ?_)
  clear hK K SN
  refine ar [11] ?_
  refine ac put3Lo_11 (fun K hK => ?_) AllReadyH.nil
  unfold put3Lo_11 oO
  have HH := Hn hH2
  clear hH2
  go_simp
  refine (C11.out _ HH.out).mono ?_
  rintro e wn3 ⟨rfl, hb⟩
  have SN := Hn (gb_tr HH.out (gbI hb _))
  replace MP := Hn (MP.out.keep hb)
  clear HH C11 hb
  go_wp2_with fail
  refine hK.out _ _ SN.out (fun hH3 => ?_)
  clear hK K SN
  refine ar [12] ?_
  refine ac put3Lo_12 (fun K hK => ?_) AllReadyH.nil
  unfold put3Lo_12 oN
  have HH := Hn hH3
  clear hH3
  refine wp_mapPut _ _ _ rfl b M qk qi r nn rfl rfl rfl HR.out MP.out (fun wn4 M1 hM1 hco hle hg => ?_)
  have SN := Hn (gb_tr HH.out hg)
  have FE := Hn ((⟨M1, hM1, hco, hle⟩ : ∃ M1, Mp _ b M1 ∧ (∀ p, co M1 p = if p = (qk, qi) then nn % Sm.L else co M p) ∧ M1.length ≤ M.length + 1))
  clear HH hM1 hco hle hg
  simp only [Act.put, sA, sB, sC]
  refine hK.out _ _ SN.out (fun hH4 => ?_)
  clear hK K SN
  have HH := Hn hH4
  have FQ := Hn (HQ.out _ HH.out FE.out)
  refine wpAnyH_done (by kernel_rfl) ?_ _
  refine NoPanic.normal ?_
  exact FQ.out
 ·unfold put3Lo_10 oO
  have HH := Hn hH0
  clear hH0
  go_simp
  refine (C10.out _ HH.out).mono ?_
  rintro e wn1 ⟨rfl, hb⟩
  have SN := Hn (gb_tr HH.out (gbI hb _))
  replace MP := Hn (MP.out.keep hb)
  clear HH C10 hb
  go_wp2_with fail
  refine hK.out _ _ SN.out (fun hH1 => ?_)
  clear hK K SN
  refine ar [6] ?_
  refine ac put3Lo_6 (fun K hK => ?_) AllReadyH.nil
  unfold put3Lo_6 oO
  have HH := Hn hH1
  clear hH1
  refine wp_look _ _ rfl b M qk qi z rfl rfl MP.out HZ.out ?_
  simp only [Act.put, sA, sB, sC]
  have SN := HH
  clear HH
  refine hK.out _ _ SN.out (fun hH2 => ?_)
  clear hK K SN
  refine ar [11] ?_
  refine ac put3Lo_11 (fun K hK => ?_) AllReadyH.nil
  unfold put3Lo_11 oO
  have HH := Hn hH2
  clear hH2
  go_simp
  refine (C11.out _ HH.out).mono ?_
  rintro e wn3 ⟨rfl, hb⟩
  have SN := Hn (gb_tr HH.out (gbI hb _))
  replace MP := Hn (MP.out.keep hb)
  clear HH C11 hb
  go_wp2_with fail
  refine hK.out _ _ SN.out (fun hH3 => ?_)
  clear hK K SN
  refine ar [12] ?_
  refine ac put3Lo_12 (fun K hK => ?_) AllReadyH.nil
  unfold put3Lo_12 oN
  have HH := Hn hH3
  clear hH3
  refine wp_mapPut _ _ _ rfl b M qk qi r nn rfl rfl rfl HR.out MP.out (fun wn4 M1 hM1 hco hle hg => ?_)
  have SN := Hn (gb_tr HH.out hg)
  have FE := Hn ((⟨M1, hM1, hco, hle⟩ : ∃ M1, Mp _ b M1 ∧ (∀ p, co M1 p = if p = (qk, qi) then nn % Sm.L else co M p) ∧ M1.length ≤ M.length + 1))
  clear HH hM1 hco hle hg
  simp only [Act.put, sA, sB, sC]
  refine hK.out _ _ SN.out (fun hH4 => ?_)
  clear hK K SN
  have HH := Hn hH4
  have FQ := Hn (HQ.out _ HH.out FE.out)
  refine wpAnyH_done (by kernel_rfl) ?_ _
  refine NoPanic.normal ?_
  exact FQ.out
def glN (n : Nat) (f : Nat → Trm) : List Tm := (List.range n).map fun k => ((f k).q, -(f k).a.n)
theorem glN_succ (n : Nat) (f : Nat → Trm) : glN (n + 1) f = glN n f ++ [((f n).q, -(f n).a.n)] := by simp [glN, List.range_succ]
theorem putN_any (P : Option Addr) (n c b : Nat) (M : List Tm) (f : Nat → Trm) (w : World) (hT : Tb w) (hn : n ≤ 4398046510976) (hf : ∀ k, k < n → (f k).a.ok) (hL : Lt w P n f) (hM : Mp w b M) :
  Calls Tryz.prog 114 #[.map (some b), .slice P n c, .func (.func 87) #[] #[]] w fun e w' => e = .returned (.tuple #[]) ∧ Pd w b M (glN n f) n w' := by
 have M0 : Hid (Mp w b M) := Hn hM
 have R0 : Hid (Pd w b M (glN 0 f) 0 w) := Hn ⟨World.grownBy.refl _ _, M, hM, fun p => by simp [glN, Cm.co_nil], by omega⟩
 have HN := Hn hn
 have HL := Hn hL
 have HT := Hn hT
 have HF := Hn hf
 clear hM hn hL hT hf
 go_enter Tryz.func114, Tryz.ntmps114
 go_wp2_with fail
 go_loopw [10] (fun iv w' => ∃ i : Nat, i ≤ n ∧ iv = .int .i64 i ∧ Hid (Pd w b M (glN i f) i w')) (fun i _ => n - (intOf i).toNat)
 case atStart => exact ⟨0, by omega, rfl, R0⟩
 case round =>
  clear R0
  obtain ⟨i, hi, rfl, hR⟩ := hrel
  by_cases hin : i < n
  ·have i0 : (0 : Int) ≤ (i : Int) := by omega
   have i1 : (i : Int) < (n : Int) := by omega
   have w9 : IntKind.i64.wrap ((i : Int) + 1) = (i : Int) + 1 := IntWalk.i64_in _ (by have := HN.out; omega)
   obtain ⟨gw, M1, hM1, hco1, hle1⟩ := hR.out
   obtain ⟨sb, so, e1, e2⟩ := HL.out
   obtain rfl := e1 (by omega)
   have rx := mp_rt M0.out gw (e2 (by omega))
   have x0 := rx.c0 i hin
   have x1 := rx.c1 i hin
   have x2 := rx.c2 i hin
   have x3 := rx.c3 i hin
   have x4 := rx.c4 i hin
   have x5 := rx.c5 i hin
   have oa := HF.out i hin
   have G1 := Hn gw
   have P1 := Hn hM1
   have Q1 := Hn hco1
   have L1 := Hn hle1
   have FS := Hn (glN_succ i f)
   clear rx e1 e2 hR gw hM1 hco1 hle1
   generalize f i = fi at *
   obtain ⟨⟨qk, qi⟩, a⟩ := fi
   simp only at x0 x1 x2 x3 x4 x5 oa FS
   have OA := Hn oa
   have HX := Hn x0
   clear oa
   go_upto_region 3 with fail
   clear x0 x1 x2 x3 x4 x5
   have t0 : (wr.alloc (.cells #[.int .i64 qk, .int .i64 qi, .int .u64 a.x0, .int .u64 a.x1, .int .u64 a.x2, .int .u64 a.x3] 123)).cell? ⟨wr.heap.size, 0, none⟩ = some (.int .i64 qk) := by go_simp
   have t1 : (wr.alloc (.cells #[.int .i64 qk, .int .i64 qi, .int .u64 a.x0, .int .u64 a.x1, .int .u64 a.x2, .int .u64 a.x3] 123)).cell? ⟨wr.heap.size, 1, none⟩ = some (.int .i64 qi) := by go_simp
   have t2 : (wr.alloc (.cells #[.int .i64 qk, .int .i64 qi, .int .u64 a.x0, .int .u64 a.x1, .int .u64 a.x2, .int .u64 a.x3] 123)).cell? ⟨wr.heap.size, 2, none⟩ = some (.int .u64 a.x0) := by go_simp
   have t3 : (wr.alloc (.cells #[.int .i64 qk, .int .i64 qi, .int .u64 a.x0, .int .u64 a.x1, .int .u64 a.x2, .int .u64 a.x3] 123)).cell? ⟨wr.heap.size, 3, none⟩ = some (.int .u64 a.x1) := by go_simp
   have t4 : (wr.alloc (.cells #[.int .i64 qk, .int .i64 qi, .int .u64 a.x0, .int .u64 a.x1, .int .u64 a.x2, .int .u64 a.x3] 123)).cell? ⟨wr.heap.size, 4, none⟩ = some (.int .u64 a.x2) := by go_simp
   have t5 : (wr.alloc (.cells #[.int .i64 qk, .int .i64 qi, .int .u64 a.x0, .int .u64 a.x1, .int .u64 a.x2, .int .u64 a.x3] 123)).cell? ⟨wr.heap.size, 5, none⟩ = some (.int .u64 a.x3) := by go_simp
   have BA := bl_alloc wr (.cells #[.int .i64 qk, .int .i64 qi, .int .u64 a.x0, .int .u64 a.x1, .int .u64 a.x2, .int .u64 a.x3] 123)
   generalize hT9 : wr.heap.size = T9 at *
   have P2 := Hn (P1.out.keep (by rw [hT9]; exact BA))
   have neT : some T9 ≠ some b := fun e => by have := P1.out.lt; have := Option.some.inj e; omega
   have G2 := Hn (gb_tr G1.out (gbI (by rw [hT9]; exact BA) (some b)))
   clear BA
   generalize wr.alloc (.cells #[.int .i64 qk, .int .i64 qi, .int .u64 a.x0, .int .u64 a.x1, .int .u64 a.x2, .int .u64 a.x3] 123) = wa at *
   obtain ⟨z, hz⟩ : ∃ z, lst (co M1 (qk, qi)) = z := ⟨_, rfl⟩
   obtain ⟨u, hu⟩ : ∃ u, lst (-a.n) = u := ⟨_, rfl⟩
   obtain ⟨r, hr⟩ : ∃ r, lst (z.n + u.n) = r := ⟨_, rfl⟩
   have TB : ∀ v, wa.grownBy v (some b) → Tb v := fun v hv => mp_tb M0.out (gb_tr G2.out hv) HT.out
   have C10 := Hn (fun v (hv : wa.grownBy v (some b)) => have T := TB v hv; have oa := OA.out; fix (R := u) (Neg_any a v T oa) hu)
   have C11 := Hn (fun v (hv : wa.grownBy v (some b)) => fix (R := r) (Add_any z u v (TB v hv) (hz ▸ lst_ok _) (hu ▸ lst_ok _)) hr)
   refine put3N _ b T9 M1 qk qi (z.n + u.n) z a u r _ _ _ _ _ _ _ _ _ _ _ _ _ _ _ _ _ _ _ _ _ _ _ _ wa neT t0 t1 t2 t3 t4 t5 (Hn hz) P2.out (Hn hr) C10 C11 (Hn ?_)
   intro wz gz ⟨M2, hM2, hco2, hle2⟩
   have PN : Hid (Pd w b M (glN (i + 1) f) (i + 1) wz) := Hn ⟨gb_tr G2.out gz, M2, hM2, fun p => by
    rw [hco2 p, FS.out, Cm.co_app, Cm.co_cons, Cm.co_nil]
    have q1 := Q1.out p
    by_cases hp : p = (qk, qi)
    ·subst hp
     rw [if_pos rfl, if_pos rfl, ← hz, ← hu, lst_n, lst_n, mod_add2, Int.emod_emod_of_dvd _ (Int.dvd_refl _), Int.add_emod, q1, ← Int.add_emod]
     congr 1
     omega
    ·rw [if_neg hp, if_neg (fun e => hp e.symm), q1]
     congr 1
     omega, by have := L1.out; omega⟩
   clear C10 C11 TB gz hM2 hco2 hle2 t0 t1 t2 t3 t4 t5 hz hu hr
   go_wp2_with fail
   go_roundw
   case rel => exact ⟨i + 1, by omega, by go_num, PN⟩
   case measure => simp [intOf]; omega
  ·obtain rfl : i = n := by omega
   have lq : ¬ (i : Int) < (i : Int) := by omega
   have PN := hR
   clear hR
   go_wp2_with fail
   go_end0
   exact ⟨rfl, PN.out⟩
end Ci
end Go.Proofs.YtghcfcglakbkeaaGreatDoor
