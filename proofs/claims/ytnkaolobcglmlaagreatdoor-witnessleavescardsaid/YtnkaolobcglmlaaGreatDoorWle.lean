import Derived.Test.YtnkaolobcglmlaaGreatDoorTk
import Derived.Test.YtnkaolobcglmlaaGreatDoorWld
namespace Go.Proofs.YtnkaolobcglmlaaGreatDoor
open Go.RowKit
set_option linter.unusedVariables false
set_option linter.unusedSimpArgs false
open Cm (Wr Tm co bf Ls lf ins Eqm)
namespace Ci
set_option maxRecDepth 100000
set_option maxHeartbeats 8000000
def ev12o_0 : Oper := { dst := some 33, op := Op.load 62 (Operand.tmp 9), type := 62, pos := "circuit.go:282", after := #[], guard := none }
def ev12o_1 : Oper := { dst := some 34, op := Op.move (Operand.tmp 10), type := 69, pos := "circuit.go:282", after := #[], guard := none }
def ev12o_2 : Oper := { dst := some 35, op := Op.move (Operand.tmp 11), type := 3, pos := "circuit.go:282", after := #[], guard := none }
def ev12o_3 : Oper := { dst := some 36, op := Op.indexAddr 69 (Operand.tmp 34) (Operand.tmp 35), type := 0, pos := "circuit.go:282", after := #[{ on := 1, ground := Ground.data }, { on := 2, ground := Ground.data }], guard := none }
def ev12o_4 : Oper := { dst := some 37, op := Op.fieldAddr 86 (Operand.tmp 36) 1, type := 0, pos := "circuit.go:282", after := #[{ on := 3, ground := Ground.data }], guard := none }
def ev12o_5 : Oper := { dst := some 38, op := Op.load 62 (Operand.tmp 37), type := 62, pos := "circuit.go:282", after := #[{ on := 4, ground := Ground.data }], guard := none }
def ev12o_6 : Oper := { dst := some 39, op := Op.load 39 (Operand.tmp 4), type := 39, pos := "circuit.go:282", after := #[], guard := none }
def ev12o_7 : Oper := { dst := some 40, op := Op.move (Operand.tmp 10), type := 69, pos := "circuit.go:282", after := #[], guard := none }
def ev12o_8 : Oper := { dst := some 41, op := Op.move (Operand.tmp 11), type := 3, pos := "circuit.go:282", after := #[], guard := none }
def ev12o_9 : Oper := { dst := some 42, op := Op.indexAddr 69 (Operand.tmp 40) (Operand.tmp 41), type := 0, pos := "circuit.go:282", after := #[{ on := 7, ground := Ground.data }, { on := 8, ground := Ground.data }], guard := none }
def ev12o_10 : Oper := { dst := some 43, op := Op.fieldAddr 86 (Operand.tmp 42) 0, type := 0, pos := "circuit.go:282", after := #[{ on := 9, ground := Ground.data }], guard := none }
def ev12o_11 : Oper := { dst := some 44, op := Op.load 51 (Operand.tmp 43), type := 51, pos := "circuit.go:282", after := #[{ on := 10, ground := Ground.data }], guard := none }
def ev12o_12 : Oper := { dst := some 45, op := Op.call { callee := Callee.value (Operand.func 39), args := #[Operand.tmp 39, Operand.tmp 44], argTypes := #[39, 51] }, type := 62, pos := "circuit.go:282", after := #[{ on := 6, ground := Ground.data }, { on := 11, ground := Ground.data }], guard := none }
def ev12o_13 : Oper := { dst := some 46, op := Op.call { callee := Callee.value (Operand.func 35), args := #[Operand.tmp 38, Operand.tmp 45], argTypes := #[62, 62] }, type := 62, pos := "circuit.go:282", after := #[{ on := 5, ground := Ground.data }, { on := 12, ground := Ground.data }, { on := 12, ground := Ground.chain }], guard := none }
def ev12o_14 : Oper := { dst := some 47, op := Op.call { callee := Callee.value (Operand.func 38), args := #[Operand.tmp 33, Operand.tmp 46], argTypes := #[62, 62] }, type := 62, pos := "circuit.go:282", after := #[{ on := 0, ground := Ground.data }, { on := 13, ground := Ground.data }, { on := 13, ground := Ground.chain }], guard := none }
def ev12o_15 : Oper := { dst := none, op := Op.store 62 (Operand.tmp 9) (Operand.tmp 47), type := 0, pos := "circuit.go:282", after := #[{ on := 14, ground := Ground.data }, { on := 14, ground := Ground.chain }, { on := 0, ground := Ground.phase }, { on := 1, ground := Ground.phase }, { on := 2, ground := Ground.phase }, { on := 3, ground := Ground.phase }, { on := 4, ground := Ground.phase }, { on := 5, ground := Ground.phase }, { on := 6, ground := Ground.phase }, { on := 7, ground := Ground.phase }, { on := 8, ground := Ground.phase }, { on := 9, ground := Ground.phase }, { on := 10, ground := Ground.phase }, { on := 11, ground := Ground.phase }, { on := 12, ground := Ground.phase }, { on := 13, ground := Ground.phase }, { on := 14, ground := Ground.phase }], guard := none }
def ev12o : Array Oper := #[ev12o_0, ev12o_1, ev12o_2, ev12o_3, ev12o_4, ev12o_5, ev12o_6, ev12o_7, ev12o_8, ev12o_9, ev12o_10, ev12o_11, ev12o_12, ev12o_13, ev12o_14, ev12o_15]
set_option maxRecDepth 100000 in
set_option maxHeartbeats 16000000 in
theorem ev12 (Q : Exit → Act → World → Prop) (ab nb lb n c k Kg m : Nat) (PL PR PO PV : Option Addr) (cL cR cO cV : Nat) (qk qi : Int) (n4 p r g t : E4) (u0 u1 u2 u3 u5 u6 u7 u8 u12 u13 u14 u15 u16 u17 u18 u19 u20 u21 u22 u23 u24 u25 u26 u27 u28 u29 u30 u31 u32 u33 u34 u35 u36 u37 u38 u39 u40 u41 u42 u43 u44 u45 u46 u47 u48 : Value) (W : World)
  (k0 : (0 : Int) ≤ (k : Int)) (k1 : (k : Int) < (n : Int)) (nl : lb ≠ nb) (na : ab ≠ nb) (rg : W.rangeAt nb 0 [.int .u64 n4.x0, .int .u64 n4.x1, .int .u64 n4.x2, .int .u64 n4.x3]) (hb0 : W.heap[nb]? = some (.cells #[.int .u64 n4.x0, .int .u64 n4.x1, .int .u64 n4.x2, .int .u64 n4.x3] 62 (0, 0))) (th : W.there nb 0 4)
  (q0 : W.cell? ⟨lb, k * 6, none⟩ = some (.int .i64 qk)) (q1 : W.cell? ⟨lb, k * 6 + 1, none⟩ = some (.int .i64 qi)) (p0 : W.cell? ⟨lb, k * 6 + 2, none⟩ = some (.int .u64 p.x0)) (p1 : W.cell? ⟨lb, k * 6 + 2 + 1, none⟩ = some (.int .u64 p.x1)) (p2 : W.cell? ⟨lb, k * 6 + 2 + 2, none⟩ = some (.int .u64 p.x2)) (p3 : W.cell? ⟨lb, k * 6 + 2 + 3, none⟩ = some (.int .u64 p.x3))
  (b0 : W.cell? ⟨ab, 0, none⟩ = some (.slice PL Kg cL)) (b1 : W.cell? ⟨ab, 1, none⟩ = some (.slice PR Kg cR)) (b2 : W.cell? ⟨ab, 2, none⟩ = some (.slice PO Kg cO)) (b3 : W.cell? ⟨ab, 3, none⟩ = some (.slice PV m cV))
  (C1 : Hid (∀ y, W.grownBy y (some nb) → Calls Tryz.prog 39 #[.agg #[.slice PL Kg cL, .slice PR Kg cR, .slice PO Kg cO, .slice PV m cV], .agg #[.int .i64 qk, .int .i64 qi]] y fun e w' => e = .returned (.agg #[.int .u64 r.x0, .int .u64 r.x1, .int .u64 r.x2, .int .u64 r.x3]) ∧ Below y.heap.size y w'))
  (C2 : Hid (∀ y, Calls Tryz.prog 35 #[.agg #[.int .u64 p.x0, .int .u64 p.x1, .int .u64 p.x2, .int .u64 p.x3], .agg #[.int .u64 r.x0, .int .u64 r.x1, .int .u64 r.x2, .int .u64 r.x3]] y fun e w' => e = .returned (.agg #[.int .u64 g.x0, .int .u64 g.x1, .int .u64 g.x2, .int .u64 g.x3]) ∧ Below y.heap.size y w'))
  (C3 : Hid (∀ x, Calls Tryz.prog 38 #[.agg #[.int .u64 n4.x0, .int .u64 n4.x1, .int .u64 n4.x2, .int .u64 n4.x3], .agg #[.int .u64 g.x0, .int .u64 g.x1, .int .u64 g.x2, .int .u64 g.x3]] x fun e w' => e = .returned (.agg #[.int .u64 t.x0, .int .u64 t.x1, .int .u64 t.x2, .int .u64 t.x3]) ∧ Below x.heap.size x w'))
  (HQ : Hid (∀ (wz : World), (∃ wy, (W.grownBy wy (some nb) ∧ wy.heap[nb]? = some (.cells #[.int .u64 n4.x0, .int .u64 n4.x1, .int .u64 n4.x2, .int .u64 n4.x3] 62 (0, 0))) ∧ wz = wy.setCells nb 0 [.int .u64 t.x0, .int .u64 t.x1, .int .u64 t.x2, .int .u64 t.x3]) → Q .normal ⟨#[u0, u1, u2, u3, .pointer (some ⟨ab, 0, none⟩), u5, u6, u7, u8, .pointer (some ⟨nb, 0, none⟩), .slice (some ⟨lb, 0, none⟩) n c, .int .i64 (k : Int), u12, u13, u14, u15, u16, u17, u18, u19, u20, u21, u22, u23, u24, u25, u26, u27, u28, u29, u30, u31, u32, .agg #[.int .u64 n4.x0, .int .u64 n4.x1, .int .u64 n4.x2, .int .u64 n4.x3], .slice (some ⟨lb, 0, none⟩) n c, .int .i64 (k : Int), .pointer (some ⟨lb, k * 6, none⟩), .pointer (some ⟨lb, k * 6 + 2, none⟩), .agg #[.int .u64 p.x0, .int .u64 p.x1, .int .u64 p.x2, .int .u64 p.x3], .agg #[.slice PL Kg cL, .slice PR Kg cR, .slice PO Kg cO, .slice PV m cV], .slice (some ⟨lb, 0, none⟩) n c, .int .i64 (k : Int), .pointer (some ⟨lb, k * 6, none⟩), .pointer (some ⟨lb, k * 6, none⟩), .agg #[.int .i64 qk, .int .i64 qi], .agg #[.int .u64 r.x0, .int .u64 r.x1, .int .u64 r.x2, .int .u64 r.x3], .agg #[.int .u64 g.x0, .int .u64 g.x1, .int .u64 g.x2, .int .u64 g.x3], .agg #[.int .u64 t.x0, .int .u64 t.x1, .int .u64 t.x2, .int .u64 t.x3], u48], []⟩ wz)) : (Code.region 12 ev12o true).wp Tryz.prog Q ⟨#[u0, u1, u2, u3, .pointer (some ⟨ab, 0, none⟩), u5, u6, u7, u8, .pointer (some ⟨nb, 0, none⟩), .slice (some ⟨lb, 0, none⟩) n c, .int .i64 (k : Int), u12, u13, u14, u15, u16, u17, u18, u19, u20, u21, u22, u23, u24, u25, u26, u27, u28, u29, u30, u31, u32, u33, u34, u35, u36, u37, u38, u39, u40, u41, u42, u43, u44, u45, u46, u47, u48], []⟩ W := by
 have RG := hidden (range_bl rg (bl_drew W))
 have HB := hidden (((bl_drew W).block nb (Array.getElem?_eq_some_iff.1 hb0).1).trans hb0)
 have TH := hidden (there_bl th (bl_drew W))
 clear rg th hb0
 unfold ev12o
 refine wp_region_noPanic ?_
 refine wp_region_held_drew (S := fun x => W.grownBy x (some nb)) (by kernel_rfl) (gbI (bl_drew W) _) (fun hH0 => ?_)
 refine tk 1 ev12o_1 (.slice (some ⟨lb, 0, none⟩) n c) rfl (by kernel_rfl) hH0 rfl (fun w0 hSw => ?_) ?_
 ·(unfold ev12o_1; clear hSw; go_simp)
 simp only [ev12o_1, Act.put, sA, sB, sC]
 refine tk 2 ev12o_2 (.int .i64 (k : Int)) rfl (by kernel_rfl) hH0 rfl (fun w0 hSw => ?_) ?_
 ·(unfold ev12o_2; clear hSw; go_simp)
 simp only [ev12o_2, Act.put, sA, sB, sC]
 refine tk 6 ev12o_6 (.agg #[.slice PL Kg cL, .slice PR Kg cR, .slice PO Kg cO, .slice PV m cV]) rfl (by kernel_rfl) hH0 rfl (fun w0 hSw => ?_) ?_
 ·(unfold ev12o_6; have hS : W.grownBy w0 (some nb) := hSw; have a0 := hS.cell b0 (fun e => na (Option.some.inj e)); have a1 := hS.cell b1 (fun e => na (Option.some.inj e)); have a2 := hS.cell b2 (fun e => na (Option.some.inj e)); have a3 := hS.cell b3 (fun e => na (Option.some.inj e)); clear hS hSw; go_simp)
 simp only [ev12o_6, Act.put, sA, sB, sC]
 refine tk 7 ev12o_7 (.slice (some ⟨lb, 0, none⟩) n c) rfl (by kernel_rfl) hH0 rfl (fun w0 hSw => ?_) ?_
 ·(unfold ev12o_7; clear hSw; go_simp)
 simp only [ev12o_7, Act.put, sA, sB, sC]
 refine tk 8 ev12o_8 (.int .i64 (k : Int)) rfl (by kernel_rfl) hH0 rfl (fun w0 hSw => ?_) ?_
 ·(unfold ev12o_8; clear hSw; go_simp)
 simp only [ev12o_8, Act.put, sA, sB, sC]
 refine tk 3 ev12o_3 (.pointer (some ⟨lb, k * 6, none⟩)) rfl (by kernel_rfl) hH0 rfl (fun w0 hSw => ?_) ?_
 ·(unfold ev12o_3; clear hSw; go_simp)
 simp only [ev12o_3, Act.put, sA, sB, sC]
 refine tk 9 ev12o_9 (.pointer (some ⟨lb, k * 6, none⟩)) rfl (by kernel_rfl) hH0 rfl (fun w0 hSw => ?_) ?_
 ·(unfold ev12o_9; clear hSw; go_simp)
 simp only [ev12o_9, Act.put, sA, sB, sC]
 refine tk 4 ev12o_4 (.pointer (some ⟨lb, k * 6 + 2, none⟩)) rfl (by kernel_rfl) hH0 rfl (fun w0 hSw => ?_) ?_
 ·(unfold ev12o_4; clear hSw; go_simp)
 simp only [ev12o_4, Act.put, sA, sB, sC]
 refine tk 10 ev12o_10 (.pointer (some ⟨lb, k * 6, none⟩)) rfl (by kernel_rfl) hH0 rfl (fun w0 hSw => ?_) ?_
 ·(unfold ev12o_10; clear hSw; go_simp)
 simp only [ev12o_10, Act.put, sA, sB, sC]
 refine tk 5 ev12o_5 (.agg #[.int .u64 p.x0, .int .u64 p.x1, .int .u64 p.x2, .int .u64 p.x3]) rfl (by kernel_rfl) hH0 rfl (fun w0 hSw => ?_) ?_
 ·(unfold ev12o_5; have hS : W.grownBy w0 (some nb) := hSw; have a0 := hS.cell p0 (fun e => nl (Option.some.inj e)); have a1 := hS.cell p1 (fun e => nl (Option.some.inj e)); have a2 := hS.cell p2 (fun e => nl (Option.some.inj e)); have a3 := hS.cell p3 (fun e => nl (Option.some.inj e)); clear hS hSw; go_simp)
 simp only [ev12o_5, Act.put, sA, sB, sC]
 refine tk 11 ev12o_11 (.agg #[.int .i64 qk, .int .i64 qi]) rfl (by kernel_rfl) hH0 rfl (fun w0 hSw => ?_) ?_
 ·(unfold ev12o_11; have hS : W.grownBy w0 (some nb) := hSw; have a0 := hS.cell q0 (fun e => nl (Option.some.inj e)); have a1 := hS.cell q1 (fun e => nl (Option.some.inj e)); clear hS hSw; go_simp)
 simp only [ev12o_11, Act.put, sA, sB, sC]
 refine wpAnyH_ready (rs := [0, 12]) (by kernel_rfl) (by simp) ?_
 refine AllReadyH.cons (o := ev12o_0) rfl (fun K hK => ?_) (AllReadyH.cons (o := ev12o_12) rfl (fun K hK => ?_) AllReadyH.nil)
 ·unfold ev12o_0
  have HH := hidden hH0
  clear hH0
  refine wp_load_mid 62 _ rfl nb 0 (by rfl) [.int .u64 n4.x0, .int .u64 n4.x1, .int .u64 n4.x2, .int .u64 n4.x3] _ RG.out Tryz.underlying62 rfl i4R ?_
  simp only [Act.put, sA, sB, sC]
  have SN := HH
  clear HH
  refine hK.out _ _ SN.out (fun hH1 => ?_)
  clear hK K SN
  refine wpAnyH_ready (rs := [12]) (by kernel_rfl) (by simp) ?_
  refine AllReadyH.cons (o := ev12o_12) rfl (fun K hK => ?_) AllReadyH.nil
  unfold ev12o_12
  have HH := hidden hH1
  clear hH1
  go_simp
  refine (C1.out _ HH.out).mono ?_
  rintro e wn2 ⟨rfl, hb⟩
  replace RG := hidden (range_bl RG.out hb)
  replace HB := hidden ((hb.block _ (Array.getElem?_eq_some_iff.1 HB.out).1).trans HB.out)
  replace TH := hidden (there_bl TH.out hb)
  have SN := hidden (HH.out.trans (gbI hb _))
  clear HH C1 hb
  go_wp2_with fail
  refine hK.out _ _ SN.out (fun hH2 => ?_)
  clear hK K SN
  refine wpAnyH_ready (rs := [13]) (by kernel_rfl) (by simp) ?_
  refine AllReadyH.cons (o := ev12o_13) rfl (fun K hK => ?_) AllReadyH.nil
  unfold ev12o_13
  have HH := hidden hH2
  clear hH2
  go_simp
  refine (C2.out _).mono ?_
  rintro e wn3 ⟨rfl, hb⟩
  replace RG := hidden (range_bl RG.out hb)
  replace HB := hidden ((hb.block _ (Array.getElem?_eq_some_iff.1 HB.out).1).trans HB.out)
  replace TH := hidden (there_bl TH.out hb)
  have SN := hidden (HH.out.trans (gbI hb _))
  clear HH C2 hb
  go_wp2_with fail
  refine hK.out _ _ SN.out (fun hH3 => ?_)
  clear hK K SN
  refine wpAnyH_ready (rs := [14]) (by kernel_rfl) (by simp) ?_
  refine AllReadyH.cons (o := ev12o_14) rfl (fun K hK => ?_) AllReadyH.nil
  unfold ev12o_14
  have HH := hidden hH3
  clear hH3
  go_simp
  refine (C3.out _).mono ?_
  rintro e wn4 ⟨rfl, hb⟩
  replace RG := hidden (range_bl RG.out hb)
  replace HB := hidden ((hb.block _ (Array.getElem?_eq_some_iff.1 HB.out).1).trans HB.out)
  replace TH := hidden (there_bl TH.out hb)
  have SN := hidden (HH.out.trans (gbI hb _))
  clear HH C3 hb
  go_wp2_with fail
  refine hK.out _ _ SN.out (fun hH4 => ?_)
  clear hK K SN
  refine wpAnyH_ready (rs := [15]) (by kernel_rfl) (by simp) ?_
  refine AllReadyH.cons (o := ev12o_15) rfl (fun K hK => ?_) AllReadyH.nil
  unfold ev12o_15
  have HH := hidden hH4
  clear hH4
  refine wp_storeE 62 _ _ rfl nb 0 ([.int .u64 t.x0, .int .u64 t.x1, .int .u64 t.x2, .int .u64 t.x3]) (by rfl) (by rfl) TH.out i4R (one4R t) rfl (fun wn5 hw => ?_)
  have SN := hidden (HH.out.trans (gb_setCells nb [.int .u64 t.x0, .int .u64 t.x1, .int .u64 t.x2, .int .u64 t.x3] 0 _))
  have FE := hidden ((⟨_, ⟨HH.out, HB.out⟩, hw⟩ : ∃ wy, (W.grownBy wy (some nb) ∧ wy.heap[nb]? = some (.cells #[.int .u64 n4.x0, .int .u64 n4.x1, .int .u64 n4.x2, .int .u64 n4.x3] 62 (0, 0))) ∧ _ = wy.setCells nb 0 [.int .u64 t.x0, .int .u64 t.x1, .int .u64 t.x2, .int .u64 t.x3]))
  rw [← hw] at SN
  clear HH hw
  refine hK.out _ _ SN.out (fun hH5 => ?_)
  clear hK K SN
  have HH := hidden hH5
  have FQ := hidden (HQ.out _ FE.out)
  refine wpAnyH_done (by kernel_rfl) ?_ _
  refine NoPanic.normal ?_
  exact FQ.out
 ·unfold ev12o_12
  have HH := hidden hH0
  clear hH0
  go_simp
  refine (C1.out _ HH.out).mono ?_
  rintro e wn1 ⟨rfl, hb⟩
  replace RG := hidden (range_bl RG.out hb)
  replace HB := hidden ((hb.block _ (Array.getElem?_eq_some_iff.1 HB.out).1).trans HB.out)
  replace TH := hidden (there_bl TH.out hb)
  have SN := hidden (HH.out.trans (gbI hb _))
  clear HH C1 hb
  go_wp2_with fail
  refine hK.out _ _ SN.out (fun hH1 => ?_)
  clear hK K SN
  refine wpAnyH_ready (rs := [0, 13]) (by kernel_rfl) (by simp) ?_
  refine AllReadyH.cons (o := ev12o_0) rfl (fun K hK => ?_) (AllReadyH.cons (o := ev12o_13) rfl (fun K hK => ?_) AllReadyH.nil)
  ·unfold ev12o_0
   have HH := hidden hH1
   clear hH1
   refine wp_load_mid 62 _ rfl nb 0 (by rfl) [.int .u64 n4.x0, .int .u64 n4.x1, .int .u64 n4.x2, .int .u64 n4.x3] _ RG.out Tryz.underlying62 rfl i4R ?_
   simp only [Act.put, sA, sB, sC]
   have SN := HH
   clear HH
   refine hK.out _ _ SN.out (fun hH2 => ?_)
   clear hK K SN
   refine wpAnyH_ready (rs := [13]) (by kernel_rfl) (by simp) ?_
   refine AllReadyH.cons (o := ev12o_13) rfl (fun K hK => ?_) AllReadyH.nil
   unfold ev12o_13
   have HH := hidden hH2
   clear hH2
   go_simp
   refine (C2.out _).mono ?_
   rintro e wn3 ⟨rfl, hb⟩
   replace RG := hidden (range_bl RG.out hb)
   replace HB := hidden ((hb.block _ (Array.getElem?_eq_some_iff.1 HB.out).1).trans HB.out)
   replace TH := hidden (there_bl TH.out hb)
   have SN := hidden (HH.out.trans (gbI hb _))
   clear HH C2 hb
   go_wp2_with fail
   refine hK.out _ _ SN.out (fun hH3 => ?_)
   clear hK K SN
   refine wpAnyH_ready (rs := [14]) (by kernel_rfl) (by simp) ?_
   refine AllReadyH.cons (o := ev12o_14) rfl (fun K hK => ?_) AllReadyH.nil
   unfold ev12o_14
   have HH := hidden hH3
   clear hH3
   go_simp
   refine (C3.out _).mono ?_
   rintro e wn4 ⟨rfl, hb⟩
   replace RG := hidden (range_bl RG.out hb)
   replace HB := hidden ((hb.block _ (Array.getElem?_eq_some_iff.1 HB.out).1).trans HB.out)
   replace TH := hidden (there_bl TH.out hb)
   have SN := hidden (HH.out.trans (gbI hb _))
   clear HH C3 hb
   go_wp2_with fail
   refine hK.out _ _ SN.out (fun hH4 => ?_)
   clear hK K SN
   refine wpAnyH_ready (rs := [15]) (by kernel_rfl) (by simp) ?_
   refine AllReadyH.cons (o := ev12o_15) rfl (fun K hK => ?_) AllReadyH.nil
   unfold ev12o_15
   have HH := hidden hH4
   clear hH4
   refine wp_storeE 62 _ _ rfl nb 0 ([.int .u64 t.x0, .int .u64 t.x1, .int .u64 t.x2, .int .u64 t.x3]) (by rfl) (by rfl) TH.out i4R (one4R t) rfl (fun wn5 hw => ?_)
   have SN := hidden (HH.out.trans (gb_setCells nb [.int .u64 t.x0, .int .u64 t.x1, .int .u64 t.x2, .int .u64 t.x3] 0 _))
   have FE := hidden ((⟨_, ⟨HH.out, HB.out⟩, hw⟩ : ∃ wy, (W.grownBy wy (some nb) ∧ wy.heap[nb]? = some (.cells #[.int .u64 n4.x0, .int .u64 n4.x1, .int .u64 n4.x2, .int .u64 n4.x3] 62 (0, 0))) ∧ _ = wy.setCells nb 0 [.int .u64 t.x0, .int .u64 t.x1, .int .u64 t.x2, .int .u64 t.x3]))
   rw [← hw] at SN
   clear HH hw
   refine hK.out _ _ SN.out (fun hH5 => ?_)
   clear hK K SN
   have HH := hidden hH5
   have FQ := hidden (HQ.out _ FE.out)
   refine wpAnyH_done (by kernel_rfl) ?_ _
   refine NoPanic.normal ?_
   exact FQ.out
  ·unfold ev12o_13
   have HH := hidden hH1
   clear hH1
   go_simp
   refine (C2.out _).mono ?_
   rintro e wn2 ⟨rfl, hb⟩
   replace RG := hidden (range_bl RG.out hb)
   replace HB := hidden ((hb.block _ (Array.getElem?_eq_some_iff.1 HB.out).1).trans HB.out)
   replace TH := hidden (there_bl TH.out hb)
   have SN := hidden (HH.out.trans (gbI hb _))
   clear HH C2 hb
   go_wp2_with fail
   refine hK.out _ _ SN.out (fun hH2 => ?_)
   clear hK K SN
   refine wpAnyH_ready (rs := [0]) (by kernel_rfl) (by simp) ?_
   refine AllReadyH.cons (o := ev12o_0) rfl (fun K hK => ?_) AllReadyH.nil
   unfold ev12o_0
   have HH := hidden hH2
   clear hH2
   refine wp_load_mid 62 _ rfl nb 0 (by rfl) [.int .u64 n4.x0, .int .u64 n4.x1, .int .u64 n4.x2, .int .u64 n4.x3] _ RG.out Tryz.underlying62 rfl i4R ?_
   simp only [Act.put, sA, sB, sC]
   have SN := HH
   clear HH
   refine hK.out _ _ SN.out (fun hH3 => ?_)
   clear hK K SN
   refine wpAnyH_ready (rs := [14]) (by kernel_rfl) (by simp) ?_
   refine AllReadyH.cons (o := ev12o_14) rfl (fun K hK => ?_) AllReadyH.nil
   unfold ev12o_14
   have HH := hidden hH3
   clear hH3
   go_simp
   refine (C3.out _).mono ?_
   rintro e wn4 ⟨rfl, hb⟩
   replace RG := hidden (range_bl RG.out hb)
   replace HB := hidden ((hb.block _ (Array.getElem?_eq_some_iff.1 HB.out).1).trans HB.out)
   replace TH := hidden (there_bl TH.out hb)
   have SN := hidden (HH.out.trans (gbI hb _))
   clear HH C3 hb
   go_wp2_with fail
   refine hK.out _ _ SN.out (fun hH4 => ?_)
   clear hK K SN
   refine wpAnyH_ready (rs := [15]) (by kernel_rfl) (by simp) ?_
   refine AllReadyH.cons (o := ev12o_15) rfl (fun K hK => ?_) AllReadyH.nil
   unfold ev12o_15
   have HH := hidden hH4
   clear hH4
   refine wp_storeE 62 _ _ rfl nb 0 ([.int .u64 t.x0, .int .u64 t.x1, .int .u64 t.x2, .int .u64 t.x3]) (by rfl) (by rfl) TH.out i4R (one4R t) rfl (fun wn5 hw => ?_)
   have SN := hidden (HH.out.trans (gb_setCells nb [.int .u64 t.x0, .int .u64 t.x1, .int .u64 t.x2, .int .u64 t.x3] 0 _))
   have FE := hidden ((⟨_, ⟨HH.out, HB.out⟩, hw⟩ : ∃ wy, (W.grownBy wy (some nb) ∧ wy.heap[nb]? = some (.cells #[.int .u64 n4.x0, .int .u64 n4.x1, .int .u64 n4.x2, .int .u64 n4.x3] 62 (0, 0))) ∧ _ = wy.setCells nb 0 [.int .u64 t.x0, .int .u64 t.x1, .int .u64 t.x2, .int .u64 t.x3]))
   rw [← hw] at SN
   clear HH hw
   refine hK.out _ _ SN.out (fun hH5 => ?_)
   clear hK K SN
   have HH := hidden hH5
   have FQ := hidden (HQ.out _ FE.out)
   refine wpAnyH_done (by kernel_rfl) ?_ _
   refine NoPanic.normal ?_
   exact FQ.out
theorem set4h {w : World} {nb : Nat} {p t : E4} (h : w.heap[nb]? = some (.cells #[.int .u64 p.x0, .int .u64 p.x1, .int .u64 p.x2, .int .u64 p.x3] 62 (0, 0))) : (w.setCells nb 0 [.int .u64 t.x0, .int .u64 t.x1, .int .u64 t.x2, .int .u64 t.x3]).heap[nb]? = some (.cells #[.int .u64 t.x0, .int .u64 t.x1, .int .u64 t.x2, .int .u64 t.x3] 62 (0, 0)) := by
 have h0 := heap_setCell_same w nb 0 _ 62 (.int .u64 t.x0) h
 have h1 := heap_setCell_same _ nb 1 _ 62 (.int .u64 t.x1) h0
 have h2 := heap_setCell_same _ nb 2 _ 62 (.int .u64 t.x2) h1
 have h3 := heap_setCell_same _ nb 3 _ 62 (.int .u64 t.x3) h2
 exact h3
theorem own_kp {w w' : World} {base' sz nb : Nat} {e T : TypeId} {u : Value} {n : Nat} {xs : List Value} {arr : Array Value} (ho : w.ownsRow base' e sz u n xs) (hs : w.heap[nb]? = some (.cells arr T (0, 0))) (hne : e ≠ T) (hg : w.grownBy w' (some nb)) : w'.ownsRow base' e sz u n xs := ⟨ho.1, by
 rcases ho.2 with h0 | ⟨g, c, cur, h1, h2, h3, h4⟩
 ·exact .inl h0
 ·refine .inr ⟨g, c, cur, h1, h2, (hg.block g (Array.getElem?_eq_some_iff.1 h3).1 (fun e' => ?_)).trans h3, h4⟩
  have e' := Option.some.inj e'
  subst e'
  rw [hs] at h3
  simp only [Option.some.injEq, Obj.cells.injEq] at h3
  exact hne h3.2.1.symm⟩
structure Ev (w : World) (ab rb nb : Nat) (A : Array Value) (vl : Value) (X : List Tm) (z : Int) (x : World) : Prop where
 bl : Below w.heap.size w x
 ha : x.heap[ab]? = some (.cells A 39 (0, 0))
 hr : x.heap[rb]? = some (.cells #[.int .u64 0, .int .u64 0, .int .u64 0, .int .u64 0] 62 (0, 0))
 hn : x.heap[nb]? = some (.cells #[.int .u64 (lst z).x0, .int .u64 (lst z).x1, .int .u64 (lst z).x2, .int .u64 (lst z).x3] 62 (0, 0))
 ol : x.ownsRow 0 86 6 vl X.length (tls X)
theorem Ev.step {w : World} {ab rb nb : Nat} {A : Array Value} {vl : Value} {X : List Tm} {z z' : Int} {x wz : World} (h : Ev w ab rb nb A vl X z x) (hz : ∃ wy, (x.grownBy wy (some nb) ∧ wy.heap[nb]? = some (.cells #[.int .u64 (lst z).x0, .int .u64 (lst z).x1, .int .u64 (lst z).x2, .int .u64 (lst z).x3] 62 (0, 0))) ∧ wz = wy.setCells nb 0 [.int .u64 (lst z').x0, .int .u64 (lst z').x1, .int .u64 (lst z').x2, .int .u64 (lst z').x3]) (h1 : w.heap.size ≤ nb) (h2 : ab ≠ nb) (h3 : rb ≠ nb) : Ev w ab rb nb A vl X z' wz := by
 obtain ⟨wy, ⟨hg, hb⟩, rfl⟩ := hz
 have hg2 := hg.trans (gb_setCells nb [.int .u64 (lst z').x0, .int .u64 (lst z').x1, .int .u64 (lst z').x2, .int .u64 (lst z').x3] 0 wy)
 exact ⟨h.bl.grown hg2 h.bl.size (fun k hk => by have := Option.some.inj hk; omega), (hg2.block _ (Array.getElem?_eq_some_iff.1 h.ha).1 (fun e => h2 (Option.some.inj e))).trans h.ha, (hg2.block _ (Array.getElem?_eq_some_iff.1 h.hr).1 (fun e => h3 (Option.some.inj e))).trans h.hr, set4h (p := lst z) hb, own_kp h.ol h.hn (by decide) hg2⟩
theorem rng4 {x : World} {nb : Nat} {p : E4} (h : x.heap[nb]? = some (.cells #[.int .u64 p.x0, .int .u64 p.x1, .int .u64 p.x2, .int .u64 p.x3] 62 (0, 0))) : x.rangeAt nb 0 [.int .u64 p.x0, .int .u64 p.x1, .int .u64 p.x2, .int .u64 p.x3] ∧ x.there nb 0 4 := by
 have hc := fun j => cell_of_row x nb j _ 62 (0, 0) h
 refine ⟨fun j v hj => ?_, fun j hj => ⟨?_, ?_⟩⟩
 ·rw [Nat.zero_add, hc]
  simpa using hj
 ·rw [Nat.zero_add, hc]
  have : j = 0 ∨ j = 1 ∨ j = 2 ∨ j = 3 := by omega
  rcases this with rfl | rfl | rfl | rfl <;> rfl
 ·unfold World.frozen?
  rw [h]
  simp
theorem Eval_any {base : Nat} {w : World} {s m Kg : Nat} {v : Value} {vs : List Value} {Q : List (List Tm)} (h : Dy base w s m Kg v vs Q) {b0 : Nat} {L R O V : List Int} (PL PR PO PV : Option Addr) (cL cR cO cV : Nat) (hA : Ag b0 w Kg m (.slice PL Kg cL) (.slice PR Kg cR) (.slice PO Kg cO) (.slice PV m cV) L R O V) (P : Option Addr) (c : Nat) (Y : List Tm) (hY : Y.length ≤ 1048576) (hL : Lt w P Y.length (ft Y)) (hw : ∀ y ∈ Y, hs m Kg y.1 = true) : Calls Tryz.prog 17 #[.pointer (some ⟨s, 0, none⟩), .agg #[.slice PL Kg cL, .slice PR Kg cR, .slice PO Kg cO, .slice PV m cV], .slice P Y.length c] w fun e w' => (∃ z : Int, e = .returned (.tuple #[.agg #[.int .u64 (lst z).x0, .int .u64 (lst z).x1, .int .u64 (lst z).x2, .int .u64 (lst z).x3], .int .i64 0])) ∧ Below w.heap.size w w' := by
 have hx : ∀ y ∈ lf Sm.L Y, hs m Kg y.1 = true := fun x hx => by obtain ⟨y, hy, e⟩ := lf_mem hx; rw [e]; exact hw y hy
 have XL : Hid ((lf Sm.L Y).length ≤ 1048576) := hidden (by have := fold_len Sm.L Y []; simp at this; unfold lf; omega)
 have CF := hidden (fun y (hy : Below w.heap.size w y) => Fits_any (h.keep hy) PL PR PO PV cL cR cO cV)
 have CK := hidden (fun y (hy : Below w.heap.size w y) => Known_any (h.keep hy) P c Y (by omega) (hL.keep hy))
 rw [nm_lf hw] at CK
 have CL := hidden (fun y (hy : Below w.heap.size w y) => dLeast_any P c Y y (by omega) (hL.keep hy))
 have HX := hidden hx
 have HA := hidden hA
 have BA := hidden (bl_trans (bl_alloc w (.cells #[.slice PL Kg cL, .slice PR Kg cR, .slice PO Kg cO, .slice PV m cV] 39)) (bl_alloc _ (.cells #[.int .u64 0, .int .u64 0, .int .u64 0, .int .u64 0] 62)))
 have HH1 : Hid (((w.alloc (.cells #[.slice PL Kg cL, .slice PR Kg cR, .slice PO Kg cO, .slice PV m cV] 39)).alloc (.cells #[.int .u64 0, .int .u64 0, .int .u64 0, .int .u64 0] 62)).heap[w.heap.size]? = some (.cells #[.slice PL Kg cL, .slice PR Kg cR, .slice PO Kg cO, .slice PV m cV] 39 (0, 0)) ∧ ((w.alloc (.cells #[.slice PL Kg cL, .slice PR Kg cR, .slice PO Kg cO, .slice PV m cV] 39)).alloc (.cells #[.int .u64 0, .int .u64 0, .int .u64 0, .int .u64 0] 62)).heap[w.heap.size + 1]? = some (.cells #[.int .u64 0, .int .u64 0, .int .u64 0, .int .u64 0] 62 (0, 0))) := hidden (by refine ⟨?_, ?_⟩ <;> simp only [World.alloc, Array.getElem?_push, Array.size_push] <;> (repeat first | rw [if_pos trivial] | rw [if_pos rfl] | rw [if_neg (by omega)]))
 clear hx hY hL hw h hA
 generalize lf Sm.L Y = X at *
 generalize Y.length = ny at *
 go_enter Tryz.func17, Tryz.ntmps17
 go_upto_region 1 with fail
 generalize ((w.alloc (.cells #[.slice PL Kg cL, .slice PR Kg cR, .slice PO Kg cO, .slice PV m cV] 39)).alloc (.cells #[.int .u64 0, .int .u64 0, .int .u64 0, .int .u64 0] 62)) = w1 at *
 have a0 := cell_of_row w1 w.heap.size 0 _ 39 (0, 0) HH1.out.1
 have a1 := cell_of_row w1 w.heap.size 1 _ 39 (0, 0) HH1.out.1
 have a2 := cell_of_row w1 w.heap.size 2 _ 39 (0, 0) HH1.out.1
 have a3 := cell_of_row w1 w.heap.size 3 _ 39 (0, 0) HH1.out.1
 simp at a0 a1 a2 a3
 replace CF := hidden (CF.out w1 BA.out)
 go_upto_region 2 with (go_at_call 37; refine CF.out.mono ?_; rintro e w2 ⟨rfl, hb⟩; have B2 := hidden (bl_trans BA.out hb); have H2 := hidden (And.intro ((hb.block _ (Array.getElem?_eq_some_iff.1 HH1.out.1).1).trans HH1.out.1) ((hb.block _ (Array.getElem?_eq_some_iff.1 HH1.out.2).1).trans HH1.out.2)); clear hb)
 clear a0 a1 a2 a3 CF HH1 BA
 replace CK := hidden (CK.out w2 B2.out)
 go_upto_region 5 with (go_at_call 28; refine CK.out.mono ?_; rintro e w3 ⟨rfl, hb⟩; have B3 := hidden (bl_trans B2.out hb); have H3 := hidden (And.intro ((hb.block _ (Array.getElem?_eq_some_iff.1 H2.out.1).1).trans H2.out.1) ((hb.block _ (Array.getElem?_eq_some_iff.1 H2.out.2).1).trans H2.out.2)); clear hb)
 clear CK H2 B2
 go_upto_region 8 with fail
 have BN := bl_alloc w3 (.cells #[.int .u64 0, .int .u64 0, .int .u64 0, .int .u64 0] 62)
 have H4 : Hid (((w3.alloc (.cells #[.int .u64 0, .int .u64 0, .int .u64 0, .int .u64 0] 62)).heap[w.heap.size]? = some (.cells #[.slice PL Kg cL, .slice PR Kg cR, .slice PO Kg cO, .slice PV m cV] 39 (0, 0)) ∧ (w3.alloc (.cells #[.int .u64 0, .int .u64 0, .int .u64 0, .int .u64 0] 62)).heap[w.heap.size + 1]? = some (.cells #[.int .u64 0, .int .u64 0, .int .u64 0, .int .u64 0] 62 (0, 0))) ∧ (w3.alloc (.cells #[.int .u64 0, .int .u64 0, .int .u64 0, .int .u64 0] 62)).heap[w3.heap.size]? = some (.cells #[.int .u64 0, .int .u64 0, .int .u64 0, .int .u64 0] 62 (0, 0))) := hidden ⟨And.intro ((BN.block _ (Array.getElem?_eq_some_iff.1 H3.out.1).1).trans H3.out.1) ((BN.block _ (Array.getElem?_eq_some_iff.1 H3.out.2).1).trans H3.out.2), heap_alloc_new w3 _⟩
 have B4 := hidden (bl_trans B3.out BN)
 have z3 : w.heap.size + 1 < w3.heap.size := (Array.getElem?_eq_some_iff.1 H3.out.2).1
 have ZN := hidden z3
 clear z3 BN H3 B3
 generalize hnb : w3.heap.size = nb at *
 generalize w3.alloc (.cells #[.int .u64 0, .int .u64 0, .int .u64 0, .int .u64 0] 62) = w4 at *
 clear hnb
 replace CL := hidden (CL.out w4 B4.out)
 go_upto_region 9 with (go_at_call 29; refine CL.out.mono ?_; rintro e w5 ⟨v5, rfl, hd⟩; have E5 : Hid (Ev w w.heap.size (w.heap.size + 1) nb #[.slice PL Kg cL, .slice PR Kg cR, .slice PO Kg cO, .slice PV m cV] v5 X 0 w5) := hidden ⟨bl_trans B4.out hd.2, (hd.2.block _ (Array.getElem?_eq_some_iff.1 H4.out.1.1).1).trans H4.out.1.1, (hd.2.block _ (Array.getElem?_eq_some_iff.1 H4.out.1.2).1).trans H4.out.1.2, by rw [zero_lst]; exact (hd.2.block _ (Array.getElem?_eq_some_iff.1 H4.out.2).1).trans H4.out.2, own_monoT hd.1 (Nat.zero_le _)⟩; clear hd)
 have _t := E5
 clear _t CL H4 B4
 obtain ⟨P5, c5, e5, _⟩ := own_sh2 E5.out.ol
 subst e5
 go_upto_region 10 with fail
 go_loopw [11] (fun iv w' => ∃ i : Nat, i ≤ X.length ∧ iv = .int .i64 (i : Int) ∧ Hid (∃ z, Ev w w.heap.size (w.heap.size + 1) nb #[.slice PL Kg cL, .slice PR Kg cR, .slice PO Kg cO, .slice PV m cV] (.slice P5 X.length c5) X z w')) (fun i _ => X.length - (intOf i).toNat)
 case atStart => exact ⟨0, by omega, rfl, hidden ⟨0, E5.out⟩⟩
 case round =>
  clear E5
  obtain ⟨i, hi, rfl, hR⟩ := hrel
  obtain ⟨z, hE⟩ := hR.out
  have EE := hidden hE
  clear hR hE
  by_cases hin : i < X.length
  ·have i1 : (i : Int) < (X.length : Int) := by omega
   have w9 : IntKind.i64.wrap ((i : Int) + 1) = (i : Int) + 1 := IntWalk.i64_in _ (by have := XL.out; omega)
   obtain ⟨b, c6, e6⟩ := own_at EE.out.ol (by omega)
   have e7 := (Value.slice.inj e6).1
   subst e7
   clear e6
   have rt := own_rt (c := c5) EE.out.ol
   obtain ⟨q0, q1, p0, p1, p2, p3⟩ : _ ∧ _ ∧ _ ∧ _ ∧ _ ∧ _ := ⟨rt.c0 i hin, rt.c1 i hin, rt.c2 i hin, rt.c3 i hin, rt.c4 i hin, rt.c5 i hin⟩
   simp only [Nat.zero_add] at q0 q1 p0 p1 p2 p3
   have hm : X.getD i ((0, 0), 0) ∈ X := by rw [List.getD_eq_getElem?_getD, List.getElem?_eq_getElem hin]; exact List.getElem_mem hin
   have hq := HX.out _ hm
   unfold ft tmOf at q0 q1 p0 p1 p2 p3
   generalize X.getD i ((0, 0), 0) = T at *
   obtain ⟨⟨tk, ti⟩, tc⟩ := T
   obtain ⟨zk, hzk⟩ := wire_any HA.out.ll HA.out.lr HA.out.lo HA.out.lv (tk, ti) hq
   have WK := hidden hzk
   have RN := rng4 (p := lst z) EE.out.hn
   have b0' := cell_of_row wr w.heap.size 0 _ 39 (0, 0) EE.out.ha
   have b1' := cell_of_row wr w.heap.size 1 _ 39 (0, 0) EE.out.ha
   have b2' := cell_of_row wr w.heap.size 2 _ 39 (0, 0) EE.out.ha
   have b3' := cell_of_row wr w.heap.size 3 _ 39 (0, 0) EE.out.ha
   simp only [List.getElem?_toArray, List.getElem?_cons_zero, List.getElem?_cons_succ] at b0' b1' b2' b3'
   have nl : b ≠ nb := fun e => by
    obtain ⟨cur, hcur⟩ := own_blk EE.out.ol (k := b) rfl
    rw [e, EE.out.hn] at hcur
    simp only [Option.some.injEq, Obj.cells.injEq] at hcur
    exact absurd hcur.2.1 (by decide)
   have zn := ZN.out
   clear hzk hm hq rt
   go_upto_region 12 with fail
   refine ev12 _ w.heap.size nb b X.length c5 i Kg m PL PR PO PV cL cR cO cV tk ti (lst z) (lst tc) (lst zk) (lst (tc * zk)) (lst (z + tc * zk)) _ _ _ _ _ _ _ _ _ _ _ _ _ _ _ _ _ _ _ _ _ _ _ _ _ _ _ _ _ _ _ _ _ _ _ _ _ _ _ _ _ _ _ _ _ wr (by omega) i1 nl (by omega) RN.1 EE.out.hn RN.2 q0 q1 p0 p1 p2 p3 b0' b1' b2' b3' (hidden (fun y hy => WK.out y b0 PL PR PO PV cL cR cO cV (HA.out.keep (EE.out.bl.grown hy EE.out.bl.size (fun k hk => by have := Option.some.inj hk; omega))))) (hidden (fun y => rMul_any tc zk y)) (hidden (fun y => rAdd_any z (tc * zk) y)) (hidden ?_)
   intro wz hz
   have PN : Hid (∃ z, Ev w w.heap.size (w.heap.size + 1) nb #[.slice PL Kg cL, .slice PR Kg cR, .slice PO Kg cO, .slice PV m cV] (.slice (some ⟨b, 0, none⟩) X.length c5) X z wz) := hidden ⟨_, EE.out.step hz (by omega) (by omega) (by omega)⟩
   clear hz EE RN b0' b1' b2' b3' q0 q1 p0 p1 p2 p3 WK nl zn
   go_wp2_with fail
   go_roundw
   case rel => exact ⟨i + 1, by omega, by go_num, PN⟩
   case measure => simp [intOf]; omega
  ·obtain rfl : i = X.length := by omega
   have lq : ¬ (X.length : Int) < (X.length : Int) := by omega
   have n0 := cell_of_row wr nb 0 _ 62 (0, 0) EE.out.hn
   have n1 := cell_of_row wr nb 1 _ 62 (0, 0) EE.out.hn
   have n2 := cell_of_row wr nb 2 _ 62 (0, 0) EE.out.hn
   have n3 := cell_of_row wr nb 3 _ 62 (0, 0) EE.out.hn
   have r0 := cell_of_row wr (w.heap.size + 1) 0 _ 62 (0, 0) EE.out.hr
   have r1 := cell_of_row wr (w.heap.size + 1) 1 _ 62 (0, 0) EE.out.hr
   have r2 := cell_of_row wr (w.heap.size + 1) 2 _ 62 (0, 0) EE.out.hr
   have r3 := cell_of_row wr (w.heap.size + 1) 3 _ 62 (0, 0) EE.out.hr
   have ff : ∀ j, wr.frozen? ⟨w.heap.size + 1, j, none⟩ = false := fun j => by unfold World.frozen?; rw [EE.out.hr]; simp
   have f0 := ff 0
   have f1 := ff 1
   have f2 := ff 2
   have f3 := ff 3
   simp only [List.getElem?_toArray, List.getElem?_cons_zero, List.getElem?_cons_succ] at n0 n1 n2 n3 r0 r1 r2 r3
   have BE := hidden EE.out.bl
   clear EE ff
   generalize hz0 : (lst z).x0 = y0 at *
   generalize hz1 : (lst z).x1 = y1 at *
   generalize hz2 : (lst z).x2 = y2 at *
   generalize hz3 : (lst z).x3 = y3 at *
   have HZ := hidden (And.intro hz0 (And.intro hz1 (And.intro hz2 hz3)))
   clear hz0 hz1 hz2 hz3
   go_wp2_with fail
   refine bodyPost_ret (v := .tuple #[.agg #[.int .u64 y0, .int .u64 y1, .int .u64 y2, .int .u64 y3], .int .i64 0]) (by simp [results, Tryz.results17, go_sem, r0, r1, r2, r3]) rfl ⟨⟨z, by rw [HZ.out.1, HZ.out.2.1, HZ.out.2.2.1, HZ.out.2.2.2]⟩, ?_⟩
   exact bl_cell (bl_cell (bl_cell (bl_cell BE.out (by omega)) (by omega)) (by omega)) (by omega)
end Ci
end Go.Proofs.YtnkaolobcglmlaaGreatDoor
