import Derived.Test.YtebmaneogekhjaaGreatDoorTk
import Derived.Test.YtebmaneogekhjaaGreatDoorCmn
namespace Go.Proofs.YtebmaneogekhjaaGreatDoor
open Go.RowKit
set_option linter.unusedVariables false
set_option linter.unusedSimpArgs false
open Cm (Wr Tm co bf Ls lf ins Eqm)
namespace Ci
set_option maxRecDepth 100000
set_option maxHeartbeats 4000000
theorem range_bl {w w' : World} {b o : Nat} {cs : List Value} (h : w.rangeAt b o cs) (hb : Below w.heap.size w w') : w'.rangeAt b o cs := fun j v hv => cell_keep (h j v hv) hb
theorem there_set {w : World} {b n : Nat} (h : w.there b 0 n) (c o : Nat) (vs : List Value) : (w.setCells c o vs).there b 0 n := fun j hj =>
 ⟨World.isSome_setCells c vs o w _ (h j hj).1, by rw [World.frozen?_setCells]; exact (h j hj).2⟩
theorem range_newM (w : World) (cs : List Value) (t : TypeId) : (w.alloc (.cells cs.toArray t)).rangeAt w.heap.size 0 cs := fun j v hv => by
 rw [cell_of_row _ _ (0 + j) cs.toArray t (0, 0) (heap_alloc_new w _), Nat.zero_add]
 simpa using hv
theorem below_tr {n : Nat} {w1 w2 w3 : World} (h1 : Below n w1 w2) (h2 : Below n w2 w3) : Below n w1 w3 := ⟨h2.os.trans h1.os, h2.tape.trans h1.tape, h2.output.trans h1.output, Nat.le_trans h1.size h2.size, fun k hk => (h2.block k hk).trans (h1.block k hk)⟩
theorem i4_s : (Tryz.prog.info? 47).map (·.size) = some 4 := by kernel_rfl
theorem one4 (p : E4) : ([.int .u64 p.x0, .int .u64 p.x1, .int .u64 p.x2, .int .u64 p.x3] : List Value).toArray.all (·.oneCell') = true := by simp [Value.oneCell']
structure R4 (w : World) (b o n : Nat) (g : Nat → E4) : Prop where
 c0 : ∀ k, k < n → w.cell? ⟨b, o + k * 4, none⟩ = some (.int .u64 (g k).x0)
 c1 : ∀ k, k < n → w.cell? ⟨b, o + k * 4 + 1, none⟩ = some (.int .u64 (g k).x1)
 c2 : ∀ k, k < n → w.cell? ⟨b, o + k * 4 + 2, none⟩ = some (.int .u64 (g k).x2)
 c3 : ∀ k, k < n → w.cell? ⟨b, o + k * 4 + 3, none⟩ = some (.int .u64 (g k).x3)
theorem R4.keep {w w' : World} {b o n : Nat} {g : Nat → E4} (h : R4 w b o n g) (hb : Below w.heap.size w w') : R4 w' b o n g := ⟨fun k hk => cell_keep (h.c0 k hk) hb, fun k hk => cell_keep (h.c1 k hk) hb, fun k hk => cell_keep (h.c2 k hk) hb, fun k hk => cell_keep (h.c3 k hk) hb⟩
structure Sl where
 p : Option Addr
 n : Nat
 c : Nat
 g : Nat → E4
def Sl.v (s : Sl) : Value := .slice s.p s.n s.c
structure Sl.at (s : Sl) (w : World) : Prop where
 at' : ∃ b o : Nat, (0 < s.n → s.p = some ⟨b, o, none⟩) ∧ (0 < s.n → R4 w b o s.n s.g)
 ok : ∀ k, k < s.n → (s.g k).ok
theorem Sl.at.keep {s : Sl} {w w' : World} (h : s.at w) (hb : Below w.heap.size w w') : s.at w' := ⟨by obtain ⟨b, o, h1, h2⟩ := h.at'; exact ⟨b, o, h1, fun hn => (h2 hn).keep hb⟩, h.ok⟩
def nw (N : Nat → Sl) (q : Wr) : E4 := (N q.1.toNat).g q.2.toNat
structure Nm (N : Nat → Sl) (q : Wr) : Prop where
 k0 : 0 ≤ q.1
 k1 : q.1 < 6
 i0 : 0 ≤ q.2
 i1 : q.2 < ((N q.1.toNat).n : Int)
def tot (h : Nat → Int) : Nat → Int
 | 0 => 0
 | i + 1 => tot h i + h i
def es (N : Nat → Sl) (f : Nat → Trm) : Nat → E4
 | 0 => ⟨0, 0, 0, 0⟩
 | i + 1 => lst ((es N f i).n + (lst ((f i).a.n * (nw N (f i).q).n)).n)
theorem es_is (N : Nat → Sl) (f : Nat → Trm) : ∀ i, es N f i = lst (tot (fun k => (f k).a.n * (nw N (f k).q).n) i)
 | 0 => by
  show (⟨0, 0, 0, 0⟩ : E4) = lst 0
  exact (int_is 0 (by unfold Sm.Wd; omega)).symm
 | i + 1 => by
  show lst ((es N f i).n + (lst ((f i).a.n * (nw N (f i).q).n)).n) = _
  have e := es_is N f i
  rw [e]
  show _ = lst (tot _ i + _)
  refine lst_congr ?_
  rw [lst_n, lst_n, Int.emod_add_emod, Int.add_emod_emod]
theorem es_ok (N : Nat → Sl) (f : Nat → Trm) (i : Nat) : (es N f i).ok := by rw [es_is]; exact lst_ok _
def ea5o_0 : Oper := { dst := some 14, op := Op.load 47 (Operand.tmp 5), type := 47, pos := "numbers.go:50", after := #[], guard := none }
def ea5o_1 : Oper := { dst := some 15, op := Op.fieldAddr 126 (Operand.tmp 7) 1, type := 0, pos := "numbers.go:50", after := #[], guard := none }
def ea5o_2 : Oper := { dst := some 16, op := Op.load 47 (Operand.tmp 15), type := 47, pos := "numbers.go:50", after := #[{ on := 1, ground := Ground.data }], guard := none }
def ea5o_3 : Oper := { dst := some 17, op := Op.fieldAddr 126 (Operand.tmp 7) 0, type := 0, pos := "numbers.go:50", after := #[], guard := none }
def ea5o_4 : Oper := { dst := some 18, op := Op.fieldAddr 90 (Operand.tmp 17) 0, type := 0, pos := "numbers.go:50", after := #[{ on := 3, ground := Ground.data }], guard := none }
def ea5o_5 : Oper := { dst := some 19, op := Op.load 3 (Operand.tmp 18), type := 3, pos := "numbers.go:50", after := #[{ on := 4, ground := Ground.data }], guard := none }
def ea5o_6 : Oper := { dst := some 20, op := Op.indexAddr 99 (Operand.tmp 2) (Operand.tmp 19), type := 0, pos := "numbers.go:50", after := #[{ on := 5, ground := Ground.data }], guard := none }
def ea5o_7 : Oper := { dst := some 21, op := Op.load 57 (Operand.tmp 20), type := 57, pos := "numbers.go:50", after := #[{ on := 6, ground := Ground.data }], guard := none }
def ea5o_8 : Oper := { dst := some 22, op := Op.fieldAddr 126 (Operand.tmp 7) 0, type := 0, pos := "numbers.go:50", after := #[], guard := none }
def ea5o_9 : Oper := { dst := some 23, op := Op.fieldAddr 90 (Operand.tmp 22) 1, type := 0, pos := "numbers.go:50", after := #[{ on := 8, ground := Ground.data }], guard := none }
def ea5o_10 : Oper := { dst := some 24, op := Op.load 3 (Operand.tmp 23), type := 3, pos := "numbers.go:50", after := #[{ on := 9, ground := Ground.data }], guard := none }
def ea5o_11 : Oper := { dst := some 25, op := Op.indexAddr 57 (Operand.tmp 21) (Operand.tmp 24), type := 0, pos := "numbers.go:50", after := #[{ on := 7, ground := Ground.data }, { on := 10, ground := Ground.data }], guard := none }
def ea5o_12 : Oper := { dst := some 26, op := Op.load 47 (Operand.tmp 25), type := 47, pos := "numbers.go:50", after := #[{ on := 11, ground := Ground.data }], guard := none }
def ea5o_13 : Oper := { dst := some 27, op := Op.call { callee := Callee.value (Operand.func 86), args := #[Operand.tmp 16, Operand.tmp 26], argTypes := #[47, 47] }, type := 47, pos := "numbers.go:50", after := #[{ on := 2, ground := Ground.data }, { on := 12, ground := Ground.data }], guard := none }
def ea5o_14 : Oper := { dst := some 28, op := Op.call { callee := Callee.value (Operand.func 88), args := #[Operand.tmp 14, Operand.tmp 27], argTypes := #[47, 47] }, type := 47, pos := "numbers.go:50", after := #[{ on := 0, ground := Ground.data }, { on := 13, ground := Ground.data }, { on := 13, ground := Ground.chain }], guard := none }
def ea5o_15 : Oper := { dst := none, op := Op.store 47 (Operand.tmp 5) (Operand.tmp 28), type := 0, pos := "numbers.go:50", after := #[{ on := 14, ground := Ground.data }, { on := 14, ground := Ground.chain }, { on := 0, ground := Ground.phase }, { on := 1, ground := Ground.phase }, { on := 2, ground := Ground.phase }, { on := 3, ground := Ground.phase }, { on := 4, ground := Ground.phase }, { on := 5, ground := Ground.phase }, { on := 6, ground := Ground.phase }, { on := 7, ground := Ground.phase }, { on := 8, ground := Ground.phase }, { on := 9, ground := Ground.phase }, { on := 10, ground := Ground.phase }, { on := 11, ground := Ground.phase }, { on := 12, ground := Ground.phase }, { on := 13, ground := Ground.phase }, { on := 14, ground := Ground.phase }], guard := none }
def ea5o : Array Oper := #[ea5o_0, ea5o_1, ea5o_2, ea5o_3, ea5o_4, ea5o_5, ea5o_6, ea5o_7, ea5o_8, ea5o_9, ea5o_10, ea5o_11, ea5o_12, ea5o_13, ea5o_14, ea5o_15]
set_option maxRecDepth 100000 in
set_option maxHeartbeats 16000000 in
theorem ea5 (Q : Exit → Act → World → Prop) (nb sb tb kk ii eb eo en ec : Nat) (z p e u r : E4) (u0 u1 u3 u4 u6 u8 u9 u10 u11 u12 u13 u14 u15 u16 u17 u18 u19 u20 u21 u22 u23 u24 u25 u26 u27 u28 u29 u30 : Value) (W : World)
  (i0 : (0 : Int) ≤ (kk : Int)) (i1 : (kk : Int) < 6) (j0 : (0 : Int) ≤ (ii : Int)) (j1 : (ii : Int) < (en : Int)) (ne1 : tb ≠ sb) (ne2 : nb ≠ sb) (ne3 : eb ≠ sb) (rg : W.rangeAt sb 0 [.int .u64 z.x0, .int .u64 z.x1, .int .u64 z.x2, .int .u64 z.x3]) (th : W.there sb 0 4)
  (t0 : W.cell? ⟨tb, 0, none⟩ = some (.int .i64 (kk : Int))) (t1 : W.cell? ⟨tb, 1, none⟩ = some (.int .i64 (ii : Int))) (t2 : W.cell? ⟨tb, 2, none⟩ = some (.int .u64 p.x0)) (t3 : W.cell? ⟨tb, 3, none⟩ = some (.int .u64 p.x1)) (t4 : W.cell? ⟨tb, 4, none⟩ = some (.int .u64 p.x2)) (t5 : W.cell? ⟨tb, 5, none⟩ = some (.int .u64 p.x3))
  (n0 : W.cell? ⟨nb, kk, none⟩ = some (.slice (some ⟨eb, eo, none⟩) en ec)) (e0 : W.cell? ⟨eb, eo + ii * 4, none⟩ = some (.int .u64 e.x0)) (e1 : W.cell? ⟨eb, eo + ii * 4 + 1, none⟩ = some (.int .u64 e.x1)) (e2 : W.cell? ⟨eb, eo + ii * 4 + 2, none⟩ = some (.int .u64 e.x2)) (e3 : W.cell? ⟨eb, eo + ii * 4 + 3, none⟩ = some (.int .u64 e.x3))
  (C9 : Hid (∀ y, W.grownBy y (some sb) → Calls Tryz.prog 86 #[.agg #[.int .u64 p.x0, .int .u64 p.x1, .int .u64 p.x2, .int .u64 p.x3], .agg #[.int .u64 e.x0, .int .u64 e.x1, .int .u64 e.x2, .int .u64 e.x3]] y fun e w' => e = .returned (.agg #[.int .u64 u.x0, .int .u64 u.x1, .int .u64 u.x2, .int .u64 u.x3]) ∧ Below y.heap.size y w'))
  (C10 : Hid (∀ y, W.grownBy y (some sb) → Calls Tryz.prog 88 #[.agg #[.int .u64 z.x0, .int .u64 z.x1, .int .u64 z.x2, .int .u64 z.x3], .agg #[.int .u64 u.x0, .int .u64 u.x1, .int .u64 u.x2, .int .u64 u.x3]] y fun e w' => e = .returned (.agg #[.int .u64 r.x0, .int .u64 r.x1, .int .u64 r.x2, .int .u64 r.x3]) ∧ Below y.heap.size y w'))
  (HQ : Hid (∀ (wz : World), (∃ wy, W.grownBy wy (some sb) ∧ wy.there sb 0 4 ∧ wz = wy.setCells sb 0 [.int .u64 r.x0, .int .u64 r.x1, .int .u64 r.x2, .int .u64 r.x3]) → Q .normal ⟨#[u0, u1, .pointer (some ⟨nb, 0, none⟩), u3, u4, .pointer (some ⟨sb, 0, none⟩), u6, .pointer (some ⟨tb, 0, none⟩), u8, u9, u10, u11, u12, u13, .agg #[.int .u64 z.x0, .int .u64 z.x1, .int .u64 z.x2, .int .u64 z.x3], .pointer (some ⟨tb, 2, none⟩), .agg #[.int .u64 p.x0, .int .u64 p.x1, .int .u64 p.x2, .int .u64 p.x3], .pointer (some ⟨tb, 0, none⟩), .pointer (some ⟨tb, 0, none⟩), .int .i64 (kk : Int), .pointer (some ⟨nb, kk, none⟩), .slice (some ⟨eb, eo, none⟩) en ec, .pointer (some ⟨tb, 0, none⟩), .pointer (some ⟨tb, 1, none⟩), .int .i64 (ii : Int), .pointer (some ⟨eb, eo + ii * 4, none⟩), .agg #[.int .u64 e.x0, .int .u64 e.x1, .int .u64 e.x2, .int .u64 e.x3], .agg #[.int .u64 u.x0, .int .u64 u.x1, .int .u64 u.x2, .int .u64 u.x3], .agg #[.int .u64 r.x0, .int .u64 r.x1, .int .u64 r.x2, .int .u64 r.x3], u29, u30], []⟩ wz)) : (Code.region 5 ea5o true).wp Tryz.prog Q ⟨#[u0, u1, .pointer (some ⟨nb, 0, none⟩), u3, u4, .pointer (some ⟨sb, 0, none⟩), u6, .pointer (some ⟨tb, 0, none⟩), u8, u9, u10, u11, u12, u13, u14, u15, u16, u17, u18, u19, u20, u21, u22, u23, u24, u25, u26, u27, u28, u29, u30], []⟩ W := by
 have RG := hidden (range_bl rg (bl_drew W))
 have TH := hidden (there_bl th (bl_drew W))
 clear rg th
 unfold ea5o
 refine wp_region_noPanic ?_
 refine wp_region_held_drew (S := fun x => W.grownBy x (some sb)) (by kernel_rfl) (gbI (bl_drew W) _) (fun hH0 => ?_)
 refine tk 1 ea5o_1 (.pointer (some ⟨tb, 2, none⟩)) rfl (by kernel_rfl) hH0 rfl (fun w0 hSw => ?_) ?_
 ·(unfold ea5o_1; clear hSw; go_simp)
 simp only [ea5o_1, Act.put, sA, sB, sC]
 refine tk 3 ea5o_3 (.pointer (some ⟨tb, 0, none⟩)) rfl (by kernel_rfl) hH0 rfl (fun w0 hSw => ?_) ?_
 ·(unfold ea5o_3; clear hSw; go_simp)
 simp only [ea5o_3, Act.put, sA, sB, sC]
 refine tk 8 ea5o_8 (.pointer (some ⟨tb, 0, none⟩)) rfl (by kernel_rfl) hH0 rfl (fun w0 hSw => ?_) ?_
 ·(unfold ea5o_8; clear hSw; go_simp)
 simp only [ea5o_8, Act.put, sA, sB, sC]
 refine tk 2 ea5o_2 (.agg #[.int .u64 p.x0, .int .u64 p.x1, .int .u64 p.x2, .int .u64 p.x3]) rfl (by kernel_rfl) hH0 rfl (fun w0 hSw => ?_) ?_
 ·(unfold ea5o_2; have hS : W.grownBy w0 (some sb) := hSw; have a0 := hS.cell t2 (fun e => ne1 (Option.some.inj e)); have a1 := hS.cell t3 (fun e => ne1 (Option.some.inj e)); have a2 := hS.cell t4 (fun e => ne1 (Option.some.inj e)); have a3 := hS.cell t5 (fun e => ne1 (Option.some.inj e)); clear hS hSw; go_simp)
 simp only [ea5o_2, Act.put, sA, sB, sC]
 refine tk 4 ea5o_4 (.pointer (some ⟨tb, 0, none⟩)) rfl (by kernel_rfl) hH0 rfl (fun w0 hSw => ?_) ?_
 ·(unfold ea5o_4; clear hSw; go_simp)
 simp only [ea5o_4, Act.put, sA, sB, sC]
 refine tk 9 ea5o_9 (.pointer (some ⟨tb, 1, none⟩)) rfl (by kernel_rfl) hH0 rfl (fun w0 hSw => ?_) ?_
 ·(unfold ea5o_9; clear hSw; go_simp)
 simp only [ea5o_9, Act.put, sA, sB, sC]
 refine tk 5 ea5o_5 (.int .i64 (kk : Int)) rfl (by kernel_rfl) hH0 rfl (fun w0 hSw => ?_) ?_
 ·(unfold ea5o_5; have hS : W.grownBy w0 (some sb) := hSw; have a0 := hS.cell t0 (fun e => ne1 (Option.some.inj e)); clear hS hSw; go_simp)
 simp only [ea5o_5, Act.put, sA, sB, sC]
 refine tk 10 ea5o_10 (.int .i64 (ii : Int)) rfl (by kernel_rfl) hH0 rfl (fun w0 hSw => ?_) ?_
 ·(unfold ea5o_10; have hS : W.grownBy w0 (some sb) := hSw; have a0 := hS.cell t1 (fun e => ne1 (Option.some.inj e)); clear hS hSw; go_simp)
 simp only [ea5o_10, Act.put, sA, sB, sC]
 refine tk 6 ea5o_6 (.pointer (some ⟨nb, kk, none⟩)) rfl (by kernel_rfl) hH0 rfl (fun w0 hSw => ?_) ?_
 ·(unfold ea5o_6; clear hSw; go_simp)
 simp only [ea5o_6, Act.put, sA, sB, sC]
 refine tk 7 ea5o_7 (.slice (some ⟨eb, eo, none⟩) en ec) rfl (by kernel_rfl) hH0 rfl (fun w0 hSw => ?_) ?_
 ·(unfold ea5o_7; have hS : W.grownBy w0 (some sb) := hSw; have a0 := hS.cell n0 (fun e => ne2 (Option.some.inj e)); clear hS hSw; go_simp)
 simp only [ea5o_7, Act.put, sA, sB, sC]
 refine tk 11 ea5o_11 (.pointer (some ⟨eb, eo + ii * 4, none⟩)) rfl (by kernel_rfl) hH0 rfl (fun w0 hSw => ?_) ?_
 ·(unfold ea5o_11; clear hSw; go_simp)
 simp only [ea5o_11, Act.put, sA, sB, sC]
 refine tk 12 ea5o_12 (.agg #[.int .u64 e.x0, .int .u64 e.x1, .int .u64 e.x2, .int .u64 e.x3]) rfl (by kernel_rfl) hH0 rfl (fun w0 hSw => ?_) ?_
 ·(unfold ea5o_12; have hS : W.grownBy w0 (some sb) := hSw; have a0 := hS.cell e0 (fun e => ne3 (Option.some.inj e)); have a1 := hS.cell e1 (fun e => ne3 (Option.some.inj e)); have a2 := hS.cell e2 (fun e => ne3 (Option.some.inj e)); have a3 := hS.cell e3 (fun e => ne3 (Option.some.inj e)); clear hS hSw; go_simp)
 simp only [ea5o_12, Act.put, sA, sB, sC]
 refine wpAnyH_ready (rs := [0, 13]) (by kernel_rfl) (by simp) ?_
 refine AllReadyH.cons (o := ea5o_0) rfl (fun K hK => ?_) (AllReadyH.cons (o := ea5o_13) rfl (fun K hK => ?_) AllReadyH.nil)
 ·unfold ea5o_0
  have HH := hidden hH0
  clear hH0
  refine wp_load_mid 47 _ rfl sb 0 (by rfl) [.int .u64 z.x0, .int .u64 z.x1, .int .u64 z.x2, .int .u64 z.x3] _ RG.out Tryz.underlying47 rfl i4_s ?_
  simp only [Act.put, sA, sB, sC]
  have SN := HH
  clear HH
  refine hK.out _ _ SN.out (fun hH1 => ?_)
  clear hK K SN
  refine wpAnyH_ready (rs := [13]) (by kernel_rfl) (by simp) ?_
  refine AllReadyH.cons (o := ea5o_13) rfl (fun K hK => ?_) AllReadyH.nil
  unfold ea5o_13
  have HH := hidden hH1
  clear hH1
  go_simp
  refine (C9.out _ HH.out).mono ?_
  rintro e wn2 ⟨rfl, hb⟩
  replace RG := hidden (range_bl RG.out hb)
  replace TH := hidden (there_bl TH.out hb)
  have SN := hidden (HH.out.trans (gbI hb _))
  clear HH C9 hb
  go_wp2_with fail
  refine hK.out _ _ SN.out (fun hH2 => ?_)
  clear hK K SN
  refine wpAnyH_ready (rs := [14]) (by kernel_rfl) (by simp) ?_
  refine AllReadyH.cons (o := ea5o_14) rfl (fun K hK => ?_) AllReadyH.nil
  unfold ea5o_14
  have HH := hidden hH2
  clear hH2
  go_simp
  refine (C10.out _ HH.out).mono ?_
  rintro e wn3 ⟨rfl, hb⟩
  replace RG := hidden (range_bl RG.out hb)
  replace TH := hidden (there_bl TH.out hb)
  have SN := hidden (HH.out.trans (gbI hb _))
  clear HH C10 hb
  go_wp2_with fail
  refine hK.out _ _ SN.out (fun hH3 => ?_)
  clear hK K SN
  refine wpAnyH_ready (rs := [15]) (by kernel_rfl) (by simp) ?_
  refine AllReadyH.cons (o := ea5o_15) rfl (fun K hK => ?_) AllReadyH.nil
  unfold ea5o_15
  have HH := hidden hH3
  clear hH3
  refine wp_storeE 47 _ _ rfl sb 0 ([.int .u64 r.x0, .int .u64 r.x1, .int .u64 r.x2, .int .u64 r.x3]) (by rfl) (by rfl) TH.out i4_s (one4 r) rfl (fun wn4 hw => ?_)
  have SN := hidden (HH.out.trans (gb_setCells sb [.int .u64 r.x0, .int .u64 r.x1, .int .u64 r.x2, .int .u64 r.x3] 0 _))
  have FE := hidden ((⟨_, HH.out, TH.out, hw⟩ : ∃ wy, W.grownBy wy (some sb) ∧ wy.there sb 0 4 ∧ _ = wy.setCells sb 0 [.int .u64 r.x0, .int .u64 r.x1, .int .u64 r.x2, .int .u64 r.x3]))
  rw [← hw] at SN
  clear HH hw
  refine hK.out _ _ SN.out (fun hH4 => ?_)
  clear hK K SN
  have HH := hidden hH4
  have FQ := hidden (HQ.out _ FE.out)
  refine wpAnyH_done (by kernel_rfl) ?_ _
  refine NoPanic.normal ?_
  exact FQ.out
 ·unfold ea5o_13
  have HH := hidden hH0
  clear hH0
  go_simp
  refine (C9.out _ HH.out).mono ?_
  rintro e wn1 ⟨rfl, hb⟩
  replace RG := hidden (range_bl RG.out hb)
  replace TH := hidden (there_bl TH.out hb)
  have SN := hidden (HH.out.trans (gbI hb _))
  clear HH C9 hb
  go_wp2_with fail
  refine hK.out _ _ SN.out (fun hH1 => ?_)
  clear hK K SN
  refine wpAnyH_ready (rs := [0]) (by kernel_rfl) (by simp) ?_
  refine AllReadyH.cons (o := ea5o_0) rfl (fun K hK => ?_) AllReadyH.nil
  unfold ea5o_0
  have HH := hidden hH1
  clear hH1
  refine wp_load_mid 47 _ rfl sb 0 (by rfl) [.int .u64 z.x0, .int .u64 z.x1, .int .u64 z.x2, .int .u64 z.x3] _ RG.out Tryz.underlying47 rfl i4_s ?_
  simp only [Act.put, sA, sB, sC]
  have SN := HH
  clear HH
  refine hK.out _ _ SN.out (fun hH2 => ?_)
  clear hK K SN
  refine wpAnyH_ready (rs := [14]) (by kernel_rfl) (by simp) ?_
  refine AllReadyH.cons (o := ea5o_14) rfl (fun K hK => ?_) AllReadyH.nil
  unfold ea5o_14
  have HH := hidden hH2
  clear hH2
  go_simp
  refine (C10.out _ HH.out).mono ?_
  rintro e wn3 ⟨rfl, hb⟩
  replace RG := hidden (range_bl RG.out hb)
  replace TH := hidden (there_bl TH.out hb)
  have SN := hidden (HH.out.trans (gbI hb _))
  clear HH C10 hb
  go_wp2_with fail
  refine hK.out _ _ SN.out (fun hH3 => ?_)
  clear hK K SN
  refine wpAnyH_ready (rs := [15]) (by kernel_rfl) (by simp) ?_
  refine AllReadyH.cons (o := ea5o_15) rfl (fun K hK => ?_) AllReadyH.nil
  unfold ea5o_15
  have HH := hidden hH3
  clear hH3
  refine wp_storeE 47 _ _ rfl sb 0 ([.int .u64 r.x0, .int .u64 r.x1, .int .u64 r.x2, .int .u64 r.x3]) (by rfl) (by rfl) TH.out i4_s (one4 r) rfl (fun wn4 hw => ?_)
  have SN := hidden (HH.out.trans (gb_setCells sb [.int .u64 r.x0, .int .u64 r.x1, .int .u64 r.x2, .int .u64 r.x3] 0 _))
  have FE := hidden ((⟨_, HH.out, TH.out, hw⟩ : ∃ wy, W.grownBy wy (some sb) ∧ wy.there sb 0 4 ∧ _ = wy.setCells sb 0 [.int .u64 r.x0, .int .u64 r.x1, .int .u64 r.x2, .int .u64 r.x3]))
  rw [← hw] at SN
  clear HH hw
  refine hK.out _ _ SN.out (fun hH4 => ?_)
  clear hK K SN
  have HH := hidden hH4
  have FQ := hidden (HQ.out _ FE.out)
  refine wpAnyH_done (by kernel_rfl) ?_ _
  refine NoPanic.normal ?_
  exact FQ.out
structure Es (w w3 : World) (sb : Nat) (r : E4) (x : World) : Prop where
 bel : Below sb w3 x
 rg : x.rangeAt sb 0 [.int .u64 r.x0, .int .u64 r.x1, .int .u64 r.x2, .int .u64 r.x3]
 th : x.there sb 0 4
theorem nsum_any (N : Nat → Sl) (P : Option Addr) (m c : Nat) (f : Nat → Trm) (w : World) (hT : Tb w) (hm : m ≤ 2932031007402) (hN : ∀ k, k < 6 → (N k).at w) (hf : ∀ k, k < m → (f k).a.ok) (hq : ∀ k, k < m → Nm N (f k).q) (hL : Lt w P m f) :
  Calls Tryz.prog 50 #[.agg #[(N 0).v, (N 1).v, (N 2).v, (N 3).v, (N 4).v, (N 5).v], .slice P m c] w fun e w' => e = .returned (.agg #[.int .u64 (es N f m).x0, .int .u64 (es N f m).x1, .int .u64 (es N f m).x2, .int .u64 (es N f m).x3]) ∧ Below w.heap.size w w' := by
 have B1 := bl_alloc w (.cells #[(N 0).v, (N 1).v, (N 2).v, (N 3).v, (N 4).v, (N 5).v] 99)
 have B3 := bl_trans B1 (bl_alloc2 (w.alloc (.cells #[(N 0).v, (N 1).v, (N 2).v, (N 3).v, (N 4).v, (N 5).v] 99)) (.cells #[.int .u64 0, .int .u64 0, .int .u64 0, .int .u64 0] 47) (.cells #[.int .u64 0, .int .u64 0, .int .u64 0, .int .u64 0] 47))
 have HN := hidden hN
 have HF := hidden hf
 have HQ := hidden hq
 have HT := hidden hT
 have HM := hidden hm
 have HL := hidden hL
 clear hN hf hq hT hm hL
 go_enter Tryz.func50, Tryz.ntmps50
 go_upto_region 2 with fail
 have S0 : Hid (Es w (((w.alloc (.cells #[(N 0).v, (N 1).v, (N 2).v, (N 3).v, (N 4).v, (N 5).v] 99)).alloc (.cells #[.int .u64 0, .int .u64 0, .int .u64 0, .int .u64 0] 47)).alloc (.cells #[.int .u64 0, .int .u64 0, .int .u64 0, .int .u64 0] 47)) (w.heap.size + 1 + 1) (es N f 0) (((w.alloc (.cells #[(N 0).v, (N 1).v, (N 2).v, (N 3).v, (N 4).v, (N 5).v] 99)).alloc (.cells #[.int .u64 0, .int .u64 0, .int .u64 0, .int .u64 0] 47)).alloc (.cells #[.int .u64 0, .int .u64 0, .int .u64 0, .int .u64 0] 47))) := hidden ⟨Below.refl _ _, by
  have := range_newM ((w.alloc (.cells #[(N 0).v, (N 1).v, (N 2).v, (N 3).v, (N 4).v, (N 5).v] 99)).alloc (.cells #[.int .u64 0, .int .u64 0, .int .u64 0, .int .u64 0] 47)) [.int .u64 0, .int .u64 0, .int .u64 0, .int .u64 0] 47
  simpa [World.size_alloc, es] using this, by
  have := there_newM ((w.alloc (.cells #[(N 0).v, (N 1).v, (N 2).v, (N 3).v, (N 4).v, (N 5).v] 99)).alloc (.cells #[.int .u64 0, .int .u64 0, .int .u64 0, .int .u64 0] 47)) [.int .u64 0, .int .u64 0, .int .u64 0, .int .u64 0] 47
  simpa [World.size_alloc] using this⟩
 have NC : Hid (∀ k, k < 6 → (((w.alloc (.cells #[(N 0).v, (N 1).v, (N 2).v, (N 3).v, (N 4).v, (N 5).v] 99)).alloc (.cells #[.int .u64 0, .int .u64 0, .int .u64 0, .int .u64 0] 47)).alloc (.cells #[.int .u64 0, .int .u64 0, .int .u64 0, .int .u64 0] 47)).cell? ⟨w.heap.size, k, none⟩ = some (N k).v) := hidden (fun k hk => by
  match k, hk with
  | 0, _ => go_simp
  | 1, _ => go_simp
  | 2, _ => go_simp
  | 3, _ => go_simp
  | 4, _ => go_simp
  | 5, _ => go_simp)
 have e0 : (((w.alloc (.cells #[(N 0).v, (N 1).v, (N 2).v, (N 3).v, (N 4).v, (N 5).v] 99)).alloc (.cells #[.int .u64 0, .int .u64 0, .int .u64 0, .int .u64 0] 47)).alloc (.cells #[.int .u64 0, .int .u64 0, .int .u64 0, .int .u64 0] 47)).cell? ⟨w.heap.size + 1, 0, none⟩ = some (.int .u64 0) := by go_simp
 have f0 : (((w.alloc (.cells #[(N 0).v, (N 1).v, (N 2).v, (N 3).v, (N 4).v, (N 5).v] 99)).alloc (.cells #[.int .u64 0, .int .u64 0, .int .u64 0, .int .u64 0] 47)).alloc (.cells #[.int .u64 0, .int .u64 0, .int .u64 0, .int .u64 0] 47)).frozen? ⟨w.heap.size + 1, 0, none⟩ = false := by go_simp
 have e1 : (((w.alloc (.cells #[(N 0).v, (N 1).v, (N 2).v, (N 3).v, (N 4).v, (N 5).v] 99)).alloc (.cells #[.int .u64 0, .int .u64 0, .int .u64 0, .int .u64 0] 47)).alloc (.cells #[.int .u64 0, .int .u64 0, .int .u64 0, .int .u64 0] 47)).cell? ⟨w.heap.size + 1, 1, none⟩ = some (.int .u64 0) := by go_simp
 have f1 : (((w.alloc (.cells #[(N 0).v, (N 1).v, (N 2).v, (N 3).v, (N 4).v, (N 5).v] 99)).alloc (.cells #[.int .u64 0, .int .u64 0, .int .u64 0, .int .u64 0] 47)).alloc (.cells #[.int .u64 0, .int .u64 0, .int .u64 0, .int .u64 0] 47)).frozen? ⟨w.heap.size + 1, 1, none⟩ = false := by go_simp
 have e2 : (((w.alloc (.cells #[(N 0).v, (N 1).v, (N 2).v, (N 3).v, (N 4).v, (N 5).v] 99)).alloc (.cells #[.int .u64 0, .int .u64 0, .int .u64 0, .int .u64 0] 47)).alloc (.cells #[.int .u64 0, .int .u64 0, .int .u64 0, .int .u64 0] 47)).cell? ⟨w.heap.size + 1, 2, none⟩ = some (.int .u64 0) := by go_simp
 have f2 : (((w.alloc (.cells #[(N 0).v, (N 1).v, (N 2).v, (N 3).v, (N 4).v, (N 5).v] 99)).alloc (.cells #[.int .u64 0, .int .u64 0, .int .u64 0, .int .u64 0] 47)).alloc (.cells #[.int .u64 0, .int .u64 0, .int .u64 0, .int .u64 0] 47)).frozen? ⟨w.heap.size + 1, 2, none⟩ = false := by go_simp
 have e3 : (((w.alloc (.cells #[(N 0).v, (N 1).v, (N 2).v, (N 3).v, (N 4).v, (N 5).v] 99)).alloc (.cells #[.int .u64 0, .int .u64 0, .int .u64 0, .int .u64 0] 47)).alloc (.cells #[.int .u64 0, .int .u64 0, .int .u64 0, .int .u64 0] 47)).cell? ⟨w.heap.size + 1, 3, none⟩ = some (.int .u64 0) := by go_simp
 have f3 : (((w.alloc (.cells #[(N 0).v, (N 1).v, (N 2).v, (N 3).v, (N 4).v, (N 5).v] 99)).alloc (.cells #[.int .u64 0, .int .u64 0, .int .u64 0, .int .u64 0] 47)).alloc (.cells #[.int .u64 0, .int .u64 0, .int .u64 0, .int .u64 0] 47)).frozen? ⟨w.heap.size + 1, 3, none⟩ = false := by go_simp
 have SZ : Hid ((((w.alloc (.cells #[(N 0).v, (N 1).v, (N 2).v, (N 3).v, (N 4).v, (N 5).v] 99)).alloc (.cells #[.int .u64 0, .int .u64 0, .int .u64 0, .int .u64 0] 47)).alloc (.cells #[.int .u64 0, .int .u64 0, .int .u64 0, .int .u64 0] 47)).heap.size = w.heap.size + 1 + 1 + 1) := hidden (by simp only [World.size_alloc])
 generalize (((w.alloc (.cells #[(N 0).v, (N 1).v, (N 2).v, (N 3).v, (N 4).v, (N 5).v] 99)).alloc (.cells #[.int .u64 0, .int .u64 0, .int .u64 0, .int .u64 0] 47)).alloc (.cells #[.int .u64 0, .int .u64 0, .int .u64 0, .int .u64 0] 47)) = w3 at *
 have HB := hidden B3
 clear B1 B3
 go_upto_region 3 with fail
 go_loopw [10] (fun iv w' => ∃ i : Nat, i ≤ m ∧ iv = .int .i64 (i : Int) ∧ Hid (Es w w3 (w.heap.size + 1 + 1) (es N f i) w')) (fun i _ => m - (intOf i).toNat)
 case atStart => exact ⟨0, by omega, rfl, S0⟩
 case round =>
  clear S0
  obtain ⟨i, hi, rfl, hS⟩ := hrel
  by_cases hin : i < m
  ·have i0' : (0 : Int) ≤ (i : Int) := by omega
   have i1' : (i : Int) < (m : Int) := by omega
   have w9 : IntKind.i64.wrap ((i : Int) + 1) = (i : Int) + 1 := IntWalk.i64_in _ (by have := HM.out; omega)
   have sz := SZ.out
   have sr := hS.out.bel.size
   have BW : Below w.heap.size w wr := below_tr HB.out (hS.out.bel.mono (by omega))
   obtain ⟨xb, xo, hPs, hRt⟩ := HL.out
   obtain rfl := hPs (by omega)
   have rt := (hRt (by omega)).keep BW
   have a0 := rt.c0 i hin
   have a1 := rt.c1 i hin
   have a2 := rt.c2 i hin
   have a3 := rt.c3 i hin
   have a4 := rt.c4 i hin
   have a5 := rt.c5 i hin
   have hq := HQ.out i hin
   have oa := HF.out i hin
   obtain ⟨kk, hkk⟩ : ∃ kk : Nat, (f i).q.1 = (kk : Int) := ⟨(f i).q.1.toNat, by have := hq.k0; omega⟩
   obtain ⟨ii, hii⟩ : ∃ ii : Nat, (f i).q.2 = (ii : Int) := ⟨(f i).q.2.toNat, by have := hq.i0; omega⟩
   have k6 : kk < 6 := by have := hq.k1; omega
   have en : nw N (f i).q = (N kk).g ii := by unfold nw; rw [hkk, hii]; rfl
   have iin : ii < (N kk).n := by have := hq.i1; rw [hkk, hii] at this; simp at this; omega
   have hE := HN.out kk k6
   have oe := hE.ok ii iin
   obtain ⟨eb, eo, h1, h2⟩ := hE.at'
   have pe := h1 (by omega)
   have re := (h2 (by omega)).keep BW
   have nc := (hS.out.bel.cell (p := ⟨w.heap.size, kk, none⟩) (by show w.heap.size < w.heap.size + 1 + 1; omega)).trans (NC.out kk k6)
   unfold Sl.v at nc
   rw [pe] at nc
   rw [hkk] at a0
   rw [hii] at a1
   have hr : lst ((es N f i).n + (lst ((f i).a.n * ((N kk).g ii).n)).n) = es N f (i + 1) := by rw [← en]; rfl
   have oz := es_ok N f i
   have RG := hS.out.rg
   have TH := hS.out.th
   have BS := hidden hS.out.bel
   have le : eb < w.heap.size := World.block_lt_of_cell? w _ ((h2 (by omega)).c0 ii iin)
   have y0 := re.c0 ii iin
   have y1 := re.c1 ii iin
   have y2 := re.c2 ii iin
   have y3 := re.c3 ii iin
   clear hq rt hRt hPs re h1 h2 hE en pe hkk hii
   generalize (f i).a = p at *
   generalize (N kk).g ii = ev at *
   generalize (N kk).n = en at *
   generalize (N kk).c = ec at *
   generalize hv : es N f (i + 1) = rv at hr
   have HE := hidden hv
   clear hv hS
   generalize es N f i = z at *
   go_upto_region 5 with fail
   have BA := bl_alloc wr (.cells #[.int .i64 (kk : Int), .int .i64 (ii : Int), .int .u64 p.x0, .int .u64 p.x1, .int .u64 p.x2, .int .u64 p.x3] 126)
   have t0 : (wr.alloc (.cells #[.int .i64 (kk : Int), .int .i64 (ii : Int), .int .u64 p.x0, .int .u64 p.x1, .int .u64 p.x2, .int .u64 p.x3] 126)).cell? ⟨wr.heap.size, 0, none⟩ = some (.int .i64 (kk : Int)) := by go_simp
   have t1 : (wr.alloc (.cells #[.int .i64 (kk : Int), .int .i64 (ii : Int), .int .u64 p.x0, .int .u64 p.x1, .int .u64 p.x2, .int .u64 p.x3] 126)).cell? ⟨wr.heap.size, 1, none⟩ = some (.int .i64 (ii : Int)) := by go_simp
   have t2 : (wr.alloc (.cells #[.int .i64 (kk : Int), .int .i64 (ii : Int), .int .u64 p.x0, .int .u64 p.x1, .int .u64 p.x2, .int .u64 p.x3] 126)).cell? ⟨wr.heap.size, 2, none⟩ = some (.int .u64 p.x0) := by go_simp
   have t3 : (wr.alloc (.cells #[.int .i64 (kk : Int), .int .i64 (ii : Int), .int .u64 p.x0, .int .u64 p.x1, .int .u64 p.x2, .int .u64 p.x3] 126)).cell? ⟨wr.heap.size, 3, none⟩ = some (.int .u64 p.x1) := by go_simp
   have t4 : (wr.alloc (.cells #[.int .i64 (kk : Int), .int .i64 (ii : Int), .int .u64 p.x0, .int .u64 p.x1, .int .u64 p.x2, .int .u64 p.x3] 126)).cell? ⟨wr.heap.size, 4, none⟩ = some (.int .u64 p.x2) := by go_simp
   have t5 : (wr.alloc (.cells #[.int .i64 (kk : Int), .int .i64 (ii : Int), .int .u64 p.x0, .int .u64 p.x1, .int .u64 p.x2, .int .u64 p.x3] 126)).cell? ⟨wr.heap.size, 5, none⟩ = some (.int .u64 p.x3) := by go_simp
   have nc2 := cell_keep nc BA
   have z0 := cell_keep y0 BA
   have z1 := cell_keep y1 BA
   have z2 := cell_keep y2 BA
   have z3 := cell_keep y3 BA
   have RG2 := range_bl RG BA
   have TH2 := there_bl TH BA
   have BW2 := bl_trans BW BA
   have BS2 : Hid (Below (w.heap.size + 1 + 1) w3 (wr.alloc (.cells #[.int .i64 (kk : Int), .int .i64 (ii : Int), .int .u64 p.x0, .int .u64 p.x1, .int .u64 p.x2, .int .u64 p.x3] 126))) := hidden (below_tr BS.out (BA.mono (by omega)))
   have tbn : wr.heap.size ≠ w.heap.size + 1 + 1 := by omega
   have sz5 := BS2.out.size
   clear nc y0 y1 y2 y3 RG TH BW BS BA a0 a1 a2 a3 a4 a5 sr
   generalize wr.alloc (.cells #[.int .i64 (kk : Int), .int .i64 (ii : Int), .int .u64 p.x0, .int .u64 p.x1, .int .u64 p.x2, .int .u64 p.x3] 126) = w5 at *
   generalize wr.heap.size = tb at *
   obtain ⟨u, hu⟩ : ∃ u, lst (p.n * ev.n) = u := ⟨_, rfl⟩
   have NS : ∀ wy, w5.grownBy wy (some (w.heap.size + 1 + 1)) → wy.there (w.heap.size + 1 + 1) 0 4 → Es w w3 (w.heap.size + 1 + 1) rv (wy.setCells (w.heap.size + 1 + 1) 0 [.int .u64 rv.x0, .int .u64 rv.x1, .int .u64 rv.x2, .int .u64 rv.x3]) := fun wy hy ht => by
    have b1 : Below (w.heap.size + 1 + 1) w3 wy := below_tr BS2.out (below_grown hy (by omega) (fun k hk => by have := Option.some.inj hk; omega))
    exact ⟨below_tr b1 (below_grown (gb_setCells _ _ 0 _) (by have := b1.size; omega) (fun k hk => by have := Option.some.inj hk; omega)), World.rangeAt_setCells_same wy (w.heap.size + 1 + 1) 0 _ ht, there_set ht _ 0 _⟩
   have AL : ∀ y, w5.grownBy y (some (w.heap.size + 1 + 1)) → Below w.heap.size w y := fun y hy => BW2.grown hy BW2.size (fun j hj => by obtain rfl := Option.some.inj hj; omega)
   have C9 := fun y (hy : w5.grownBy y (some (w.heap.size + 1 + 1))) => fix (R := lst (p.n * ev.n)) (Mul_any p ev y (HT.out.keep (AL y hy)) oa oe) rfl
   rw [hu] at hr C9
   have C10 := fun y (hy : w5.grownBy y (some (w.heap.size + 1 + 1))) => fix (R := lst (z.n + u.n)) (Add_any z u y (HT.out.keep (AL y hy)) oz (hu ▸ lst_ok _)) rfl
   rw [hr] at C10
   simp only [E4.v] at C9 C10
   replace C9 := hidden C9
   replace C10 := hidden C10
   refine ea5 _ w.heap.size (w.heap.size + 1 + 1) tb kk ii eb eo en ec z p ev u rv _ _ _ _ _ _ _ _ _ _ _ _ _ _ _ _ _ _ _ _ _ _ _ _ _ _ _ _ w5 (by omega) (by omega) (by omega) (by omega) tbn (by omega) (by omega) RG2 TH2 t0 t1 t2 t3 t4 t5 nc2 z0 z1 z2 z3 C9 C10 (hidden ?_)
   intro wz hz
   have PN : Hid (Es w w3 (w.heap.size + 1 + 1) rv wz) := hidden (by
    obtain ⟨wy, hy, hty, rfl⟩ := hz
    exact NS wy hy hty)
   clear C9 C10 AL hz RG2 TH2 NS t0 t1 t2 t3 t4 t5 nc2 z0 z1 z2 z3
   go_wp2_with fail
   go_roundw
   case rel => exact ⟨i + 1, by omega, by go_num, by rw [HE.out]; exact PN⟩
   case measure => simp [intOf]; omega
  ·obtain rfl : i = m := by omega
   have lq : ¬ (i : Int) < (i : Int) := by omega
   have a0 := (hS.out.bel.cell (p := ⟨w.heap.size + 1, 0, none⟩) (Nat.lt_succ_self _)).trans e0
   have g0 := (hS.out.bel.frozen (p := ⟨w.heap.size + 1, 0, none⟩) (Nat.lt_succ_self _)).trans f0
   have t0 : wr.cell? ⟨w.heap.size + 1 + 1, 0, none⟩ = some (.int .u64 (es N f i).x0) := hS.out.rg 0 _ rfl
   have a1 := (hS.out.bel.cell (p := ⟨w.heap.size + 1, 1, none⟩) (Nat.lt_succ_self _)).trans e1
   have g1 := (hS.out.bel.frozen (p := ⟨w.heap.size + 1, 1, none⟩) (Nat.lt_succ_self _)).trans f1
   have t1 : wr.cell? ⟨w.heap.size + 1 + 1, 1, none⟩ = some (.int .u64 (es N f i).x1) := hS.out.rg 1 _ rfl
   have a2 := (hS.out.bel.cell (p := ⟨w.heap.size + 1, 2, none⟩) (Nat.lt_succ_self _)).trans e2
   have g2 := (hS.out.bel.frozen (p := ⟨w.heap.size + 1, 2, none⟩) (Nat.lt_succ_self _)).trans f2
   have t2 : wr.cell? ⟨w.heap.size + 1 + 1, 2, none⟩ = some (.int .u64 (es N f i).x2) := hS.out.rg 2 _ rfl
   have a3 := (hS.out.bel.cell (p := ⟨w.heap.size + 1, 3, none⟩) (Nat.lt_succ_self _)).trans e3
   have g3 := (hS.out.bel.frozen (p := ⟨w.heap.size + 1, 3, none⟩) (Nat.lt_succ_self _)).trans f3
   have t3 : wr.cell? ⟨w.heap.size + 1 + 1, 3, none⟩ = some (.int .u64 (es N f i).x3) := hS.out.rg 3 _ rfl
   have sz := SZ.out
   have BW : Below w.heap.size w wr := below_tr HB.out (hS.out.bel.mono (by omega))
   have GX := hidden BW
   clear BW
   clear hS
   go_wp2_with fail
   have BF := below_tr GX.out (below_grown (base := w.heap.size) (gb_setCells (w.heap.size + 1) [.int .u64 (es N f i).x0, .int .u64 (es N f i).x1, .int .u64 (es N f i).x2, .int .u64 (es N f i).x3] 0 wr) (by have := GX.out.size; omega) (fun k hk => by have := Option.some.inj hk; omega))
   refine bodyPost_ret (v := .agg #[.int .u64 (es N f i).x0, .int .u64 (es N f i).x1, .int .u64 (es N f i).x2, .int .u64 (es N f i).x3]) (by simp [results, Tryz.results50, go_sem, a0, a1, a2, a3]) rfl ⟨rfl, BF⟩
end Ci
end Go.Proofs.YtebmaneogekhjaaGreatDoor
