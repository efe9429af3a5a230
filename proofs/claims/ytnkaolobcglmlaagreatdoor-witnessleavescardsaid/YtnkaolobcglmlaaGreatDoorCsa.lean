import Derived.Test.YtnkaolobcglmlaaGreatDoorTk
import Derived.Test.YtnkaolobcglmlaaGreatDoorCmi
import Derived.Test.YtnkaolobcglmlaaGreatDoorSra
import Derived.Test.YtnkaolobcglmlaaGreatDoorSrm
namespace Go.Proofs.YtnkaolobcglmlaaGreatDoor
open Go.RowKit
set_option linter.unusedVariables false
set_option linter.unusedSimpArgs false
open Cm (Wr Tm co bf Ls lf ins Eqm)
namespace Ci
set_option maxRecDepth 100000
set_option maxHeartbeats 4000000
theorem same_zeroR (n : Int) : (lst n).same zero4 = decide (n % Sm.L = 0) := by
 by_cases h : n % Sm.L = 0
 ·rw [decide_eq_true h]; exact (E4.same_iff _ _).2 ((zero_is n).2 h)
 ·rw [decide_eq_false h]
  exact Bool.eq_false_iff.2 (fun e => h ((zero_is n).1 ((E4.same_iff _ _).1 e)))
set_option maxRecDepth 100000 in
set_option maxHeartbeats 16000000 in
theorem before_any (p q : Wr) (w : World) : Calls Tryz.prog 73 #[.agg #[.int .i64 p.1, .int .i64 p.2], .agg #[.int .i64 q.1, .int .i64 q.2]] w fun e w' => e = .returned (.bool (bf p q)) ∧ Below w.heap.size w w' := by
 obtain ⟨p1, p2⟩ := p
 obtain ⟨q1, q2⟩ := q
 simp only
 have HB := hidden (bl_trans (bl_alloc w (.cells #[.int .i64 p1, .int .i64 p2] 51)) (bl_alloc (w.alloc (.cells #[.int .i64 p1, .int .i64 p2] 51)) (.cells #[.int .i64 q1, .int .i64 q2] 51)))
 by_cases h1 : p1 < q1
 ·have hb : bf (p1, p2) (q1, q2) = true := by simp [bf, h1]
  rw [hb]
  clear hb
  go_enter Tryz.func73, Tryz.ntmps73
  go_wp2_with fail
  exact bodyPost_ret (v := .bool true) (by simp [results, Tryz.results73, go_sem]) rfl ⟨rfl, HB.out⟩
 ·by_cases h2 : p1 = q1
  ·subst h2
   have hl : ¬ p1 < p1 := by omega
   by_cases h3 : p2 < q2
   ·have hb : bf (p1, p2) (p1, q2) = true := by simp [bf, h3]
    rw [hb]
    clear hb h1
    go_enter Tryz.func73, Tryz.ntmps73
    go_wp2_with fail
    exact bodyPost_ret (v := .bool true) (by simp [results, Tryz.results73, go_sem]) rfl ⟨rfl, HB.out⟩
   ·have hb : bf (p1, p2) (p1, q2) = false := by simp [bf, h3]
    rw [hb]
    clear hb h1
    go_enter Tryz.func73, Tryz.ntmps73
    go_wp2_with fail
    exact bodyPost_ret (v := .bool false) (by simp [results, Tryz.results73, go_sem]) rfl ⟨rfl, HB.out⟩
  ·have hb : bf (p1, p2) (q1, q2) = false := by simp [bf, h1, h2]
   rw [hb]
   clear hb
   go_enter Tryz.func73, Tryz.ntmps73
   go_wp2_with fail
   exact bodyPost_ret (v := .bool false) (by simp [results, Tryz.results73, go_sem]) rfl ⟨rfl, HB.out⟩
theorem i4R : (Tryz.prog.info? 62).map (·.size) = some 4 := by kernel_rfl
theorem undRS : Tryz.prog.underlying 62 = some (.array 4 22) := by kernel_rfl
theorem one4R (p : E4) : ([.int .u64 p.x0, .int .u64 p.x1, .int .u64 p.x2, .int .u64 p.x3] : List Value).toArray.all (·.oneCell') = true := by simp [Value.oneCell']
theorem range_blR {w w' : World} {b o : Nat} {cs : List Value} (h : w.rangeAt b o cs) (hb : Below w.heap.size w w') : w'.rangeAt b o cs := fun j v hv => cell_keep (h j v hv) hb
def pt7o_0 : Oper := { dst := some 26, op := Op.move (Operand.tmp 0), type := 69, pos := "circuit.go:36", after := #[], guard := none }
def pt7o_1 : Oper := { dst := some 27, op := Op.move (Operand.tmp 7), type := 3, pos := "circuit.go:36", after := #[], guard := none }
def pt7o_2 : Oper := { dst := some 28, op := Op.indexAddr 69 (Operand.tmp 26) (Operand.tmp 27), type := 0, pos := "circuit.go:36", after := #[{ on := 0, ground := Ground.data }, { on := 1, ground := Ground.data }], guard := none }
def pt7o_3 : Oper := { dst := some 29, op := Op.fieldAddr 86 (Operand.tmp 28) 1, type := 0, pos := "circuit.go:36", after := #[{ on := 2, ground := Ground.data }], guard := none }
def pt7o_4 : Oper := { dst := some 30, op := Op.load 62 (Operand.tmp 29), type := 62, pos := "circuit.go:36", after := #[{ on := 3, ground := Ground.data }], guard := none }
def pt7o_5 : Oper := { dst := some 31, op := Op.fieldAddr 86 (Operand.tmp 3) 1, type := 0, pos := "circuit.go:36", after := #[], guard := none }
def pt7o_6 : Oper := { dst := some 32, op := Op.load 62 (Operand.tmp 31), type := 62, pos := "circuit.go:36", after := #[{ on := 5, ground := Ground.data }], guard := none }
def pt7o_7 : Oper := { dst := some 33, op := Op.call { callee := Callee.value (Operand.func 38), args := #[Operand.tmp 30, Operand.tmp 32], argTypes := #[62, 62] }, type := 62, pos := "circuit.go:36", after := #[{ on := 4, ground := Ground.data }, { on := 6, ground := Ground.data }], guard := none }
def pt7o_8 : Oper := { dst := some 34, op := Op.fieldAddr 86 (Operand.tmp 3) 1, type := 0, pos := "circuit.go:36", after := #[{ on := 0, ground := Ground.phase }, { on := 1, ground := Ground.phase }, { on := 2, ground := Ground.phase }, { on := 3, ground := Ground.phase }, { on := 4, ground := Ground.phase }, { on := 5, ground := Ground.phase }, { on := 6, ground := Ground.phase }, { on := 7, ground := Ground.phase }], guard := none }
def pt7o_9 : Oper := { dst := none, op := Op.store 62 (Operand.tmp 34) (Operand.tmp 33), type := 0, pos := "circuit.go:36", after := #[{ on := 8, ground := Ground.data }, { on := 7, ground := Ground.data }, { on := 7, ground := Ground.chain }, { on := 0, ground := Ground.phase }, { on := 1, ground := Ground.phase }, { on := 2, ground := Ground.phase }, { on := 3, ground := Ground.phase }, { on := 4, ground := Ground.phase }, { on := 5, ground := Ground.phase }, { on := 6, ground := Ground.phase }, { on := 7, ground := Ground.phase }], guard := none }
def pt7o : Array Oper := #[pt7o_0, pt7o_1, pt7o_2, pt7o_3, pt7o_4, pt7o_5, pt7o_6, pt7o_7, pt7o_8, pt7o_9]
set_option maxRecDepth 100000 in
set_option maxHeartbeats 16000000 in
theorem pt7 (Q : Exit → Act → World → Prop) (sb so n c b i : Nat) (p k r : E4) (u1 u2 u4 u5 u6 u8 u9 u10 u11 u12 u13 u14 u15 u16 u17 u18 u19 u20 u21 u22 u23 u24 u25 u26 u27 u28 u29 u30 u31 u32 u33 u34 u35 u36 u37 u38 u39 u40 u41 u42 u43 u44 u45 u46 u47 u48 u49 u50 u51 u52 u53 u54 u55 u56 u57 u58 u59 u60 u61 u62 u63 u64 u65 u66 u67 u68 u69 u70 u71 u72 u73 u74 u75 u76 u77 u78 u79 u80 u81 u82 : Value) (W : World)
  (i0 : (0 : Int) ≤ (i : Int)) (i1 : (i : Int) < (n : Int)) (neS : sb ≠ b) (rg : W.rangeAt b 2 [.int .u64 k.x0, .int .u64 k.x1, .int .u64 k.x2, .int .u64 k.x3]) (th : W.there b 2 4) (cp0 : W.cell? ⟨sb, so + i * 6 + 2, none⟩ = some (.int .u64 p.x0)) (cp1 : W.cell? ⟨sb, so + i * 6 + 3, none⟩ = some (.int .u64 p.x1)) (cp2 : W.cell? ⟨sb, so + i * 6 + 4, none⟩ = some (.int .u64 p.x2)) (cp3 : W.cell? ⟨sb, so + i * 6 + 5, none⟩ = some (.int .u64 p.x3))
  (C7 : Hid (∀ y, Calls Tryz.prog 38 #[.agg #[.int .u64 p.x0, .int .u64 p.x1, .int .u64 p.x2, .int .u64 p.x3], .agg #[.int .u64 k.x0, .int .u64 k.x1, .int .u64 k.x2, .int .u64 k.x3]] y fun e w' => e = .returned (.agg #[.int .u64 r.x0, .int .u64 r.x1, .int .u64 r.x2, .int .u64 r.x3]) ∧ Below y.heap.size y w'))
  (HQ : Hid (∀ (wz : World), (∃ wy, Below W.heap.size W wy ∧ wz = wy.setCells b 2 [.int .u64 r.x0, .int .u64 r.x1, .int .u64 r.x2, .int .u64 r.x3]) → Q .normal ⟨#[.slice (some ⟨sb, so, none⟩) n c, u1, u2, .pointer (some ⟨b, 0, none⟩), u4, u5, u6, .int .i64 (i : Int), u8, u9, u10, u11, u12, u13, u14, u15, u16, u17, u18, u19, u20, u21, u22, u23, u24, u25, .slice (some ⟨sb, so, none⟩) n c, .int .i64 (i : Int), .pointer (some ⟨sb, so + i * 6, none⟩), .pointer (some ⟨sb, so + i * 6 + 2, none⟩), .agg #[.int .u64 p.x0, .int .u64 p.x1, .int .u64 p.x2, .int .u64 p.x3], .pointer (some ⟨b, 2, none⟩), .agg #[.int .u64 k.x0, .int .u64 k.x1, .int .u64 k.x2, .int .u64 k.x3], .agg #[.int .u64 r.x0, .int .u64 r.x1, .int .u64 r.x2, .int .u64 r.x3], .pointer (some ⟨b, 2, none⟩), u35, u36, u37, u38, u39, u40, u41, u42, u43, u44, u45, u46, u47, u48, u49, u50, u51, u52, u53, u54, u55, u56, u57, u58, u59, u60, u61, u62, u63, u64, u65, u66, u67, u68, u69, u70, u71, u72, u73, u74, u75, u76, u77, u78, u79, u80, u81, u82], []⟩ wz)) : (Code.region 7 pt7o true).wp Tryz.prog Q ⟨#[.slice (some ⟨sb, so, none⟩) n c, u1, u2, .pointer (some ⟨b, 0, none⟩), u4, u5, u6, .int .i64 (i : Int), u8, u9, u10, u11, u12, u13, u14, u15, u16, u17, u18, u19, u20, u21, u22, u23, u24, u25, u26, u27, u28, u29, u30, u31, u32, u33, u34, u35, u36, u37, u38, u39, u40, u41, u42, u43, u44, u45, u46, u47, u48, u49, u50, u51, u52, u53, u54, u55, u56, u57, u58, u59, u60, u61, u62, u63, u64, u65, u66, u67, u68, u69, u70, u71, u72, u73, u74, u75, u76, u77, u78, u79, u80, u81, u82], []⟩ W := by
 have BB := hidden (bl_drew W)
 have RG := hidden (range_blR rg (bl_drew W))
 have TH := hidden (there_bl th (bl_drew W))
 clear rg th
 unfold pt7o
 refine wp_region_noPanic ?_
 refine wp_region_held_drew (S := fun x => W.grownBy x (some b)) (by kernel_rfl) (gbI (bl_drew W) _) (fun hH0 => ?_)
 refine Go.Proofs.YtnkaolobcglmlaaGreatDoor.tk 0 pt7o_0 (.slice (some ⟨sb, so, none⟩) n c) rfl (by kernel_rfl) hH0 rfl (fun w0 hSw => ?_) ?_
 ·(unfold pt7o_0; clear hSw; go_simp)
 simp only [pt7o_0, Act.put, sA, sB, sC]
 refine Go.Proofs.YtnkaolobcglmlaaGreatDoor.tk 1 pt7o_1 (.int .i64 (i : Int)) rfl (by kernel_rfl) hH0 rfl (fun w0 hSw => ?_) ?_
 ·(unfold pt7o_1; clear hSw; go_simp)
 simp only [pt7o_1, Act.put, sA, sB, sC]
 refine Go.Proofs.YtnkaolobcglmlaaGreatDoor.tk 5 pt7o_5 (.pointer (some ⟨b, 2, none⟩)) rfl (by kernel_rfl) hH0 rfl (fun w0 hSw => ?_) ?_
 ·(unfold pt7o_5; clear hSw; go_simp)
 simp only [pt7o_5, Act.put, sA, sB, sC]
 refine Go.Proofs.YtnkaolobcglmlaaGreatDoor.tk 2 pt7o_2 (.pointer (some ⟨sb, so + i * 6, none⟩)) rfl (by kernel_rfl) hH0 rfl (fun w0 hSw => ?_) ?_
 ·(unfold pt7o_2; clear hSw; go_simp)
 simp only [pt7o_2, Act.put, sA, sB, sC]
 refine Go.Proofs.YtnkaolobcglmlaaGreatDoor.tk 3 pt7o_3 (.pointer (some ⟨sb, so + i * 6 + 2, none⟩)) rfl (by kernel_rfl) hH0 rfl (fun w0 hSw => ?_) ?_
 ·(unfold pt7o_3; clear hSw; go_simp)
 simp only [pt7o_3, Act.put, sA, sB, sC]
 refine Go.Proofs.YtnkaolobcglmlaaGreatDoor.tk 4 pt7o_4 (.agg #[.int .u64 p.x0, .int .u64 p.x1, .int .u64 p.x2, .int .u64 p.x3]) rfl (by kernel_rfl) hH0 rfl (fun w0 hSw => ?_) ?_
 ·(unfold pt7o_4; have hS : W.grownBy w0 (some b) := hSw; have a0 := hS.cell cp0 (fun e => neS (Option.some.inj e)); have a1 := hS.cell cp1 (fun e => neS (Option.some.inj e)); have a2 := hS.cell cp2 (fun e => neS (Option.some.inj e)); have a3 := hS.cell cp3 (fun e => neS (Option.some.inj e)); clear hS hSw; go_simp)
 simp only [pt7o_4, Act.put, sA, sB, sC]
 refine wpAnyH_ready (rs := [6]) (by kernel_rfl) (by simp) ?_
 refine AllReadyH.cons (o := pt7o_6) rfl (fun K hK => ?_) AllReadyH.nil
 unfold pt7o_6
 have HH := hidden hH0
 clear hH0
 refine wp_load_mid 62 _ rfl b 2 (by rfl) [.int .u64 k.x0, .int .u64 k.x1, .int .u64 k.x2, .int .u64 k.x3] _ RG.out undRS rfl i4R ?_
 simp only [Act.put, sA, sB, sC]
 have SN := HH
 clear HH
 refine hK.out _ _ SN.out (fun hH1 => ?_)
 clear hK K SN
 refine wpAnyH_ready (rs := [7]) (by kernel_rfl) (by simp) ?_
 refine AllReadyH.cons (o := pt7o_7) rfl (fun K hK => ?_) AllReadyH.nil
 unfold pt7o_7
 have HH := hidden hH1
 clear hH1
 go_simp
 refine (C7.out _).mono ?_
 rintro e wn2 ⟨rfl, hb⟩
 replace RG := hidden (range_blR RG.out hb)
 replace TH := hidden (there_bl TH.out hb)
 replace BB := hidden (bl_trans BB.out hb)
 have SN := hidden (HH.out.trans (gbI hb _))
 clear HH C7 hb
 go_wp2_with fail
 refine hK.out _ _ SN.out (fun hH2 => ?_)
 clear hK K SN
 refine Go.Proofs.YtnkaolobcglmlaaGreatDoor.tk 8 pt7o_8 (.pointer (some ⟨b, 2, none⟩)) rfl (by kernel_rfl) hH2 rfl (fun w0 hSw => ?_) ?_
 ·(unfold pt7o_8; clear hSw; go_simp)
 simp only [pt7o_8, Act.put, sA, sB, sC]
 refine wpAnyH_ready (rs := [9]) (by kernel_rfl) (by simp) ?_
 refine AllReadyH.cons (o := pt7o_9) rfl (fun K hK => ?_) AllReadyH.nil
 unfold pt7o_9
 have HH := hidden hH2
 clear hH2
 refine wp_storeE 62 _ _ rfl b 2 ([.int .u64 r.x0, .int .u64 r.x1, .int .u64 r.x2, .int .u64 r.x3]) (by rfl) (by rfl) TH.out i4R (one4R r) rfl (fun wn3 hw => ?_)
 have SN := hidden (HH.out.trans (gb_setCells b [.int .u64 r.x0, .int .u64 r.x1, .int .u64 r.x2, .int .u64 r.x3] 2 _))
 have FE := hidden ((⟨_, BB.out, hw⟩ : ∃ wy, Below W.heap.size W wy ∧ _ = wy.setCells b 2 [.int .u64 r.x0, .int .u64 r.x1, .int .u64 r.x2, .int .u64 r.x3]))
 rw [← hw] at SN
 clear HH hw
 refine hK.out _ _ SN.out (fun hH3 => ?_)
 clear hK K SN
 have HH := hidden hH3
 have FQ := hidden (HQ.out _ FE.out)
 refine wpAnyH_done (by kernel_rfl) ?_ _
 refine NoPanic.normal ?_
 exact FQ.out
def pt11o_0 : Oper := { dst := some 43, op := Op.move (Operand.tmp 6), type := 4, pos := "circuit.go:43", after := #[], guard := none }
def pt11o_1 : Oper := { dst := some 44, op := Op.unOp UnOp.not 4 (Operand.tmp 43), type := 4, pos := "circuit.go:43", after := #[{ on := 0, ground := Ground.data }], guard := none }
def pt11o_2 : Oper := { dst := some 45, op := Op.move (Operand.tmp 44), type := 4, pos := "circuit.go:43", after := #[{ on := 1, ground := Ground.data }], guard := none }
def pt11o_3 : Oper := { dst := some 46, op := Op.fieldAddr 86 (Operand.tmp 3) 0, type := 0, pos := "circuit.go:43", after := #[{ on := 2, ground := Ground.guard }], guard := some (2, true) }
def pt11o_4 : Oper := { dst := some 47, op := Op.load 51 (Operand.tmp 46), type := 51, pos := "circuit.go:43", after := #[{ on := 3, ground := Ground.data }, { on := 2, ground := Ground.guard }], guard := some (2, true) }
def pt11o_5 : Oper := { dst := some 48, op := Op.move (Operand.tmp 0), type := 69, pos := "circuit.go:43", after := #[{ on := 2, ground := Ground.guard }], guard := some (2, true) }
def pt11o_6 : Oper := { dst := some 49, op := Op.move (Operand.tmp 7), type := 3, pos := "circuit.go:43", after := #[{ on := 2, ground := Ground.guard }], guard := some (2, true) }
def pt11o_7 : Oper := { dst := some 50, op := Op.indexAddr 69 (Operand.tmp 48) (Operand.tmp 49), type := 0, pos := "circuit.go:43", after := #[{ on := 5, ground := Ground.data }, { on := 6, ground := Ground.data }, { on := 2, ground := Ground.guard }], guard := some (2, true) }
def pt11o_8 : Oper := { dst := some 51, op := Op.fieldAddr 86 (Operand.tmp 50) 0, type := 0, pos := "circuit.go:43", after := #[{ on := 7, ground := Ground.data }, { on := 2, ground := Ground.guard }], guard := some (2, true) }
def pt11o_9 : Oper := { dst := some 52, op := Op.load 51 (Operand.tmp 51), type := 51, pos := "circuit.go:43", after := #[{ on := 8, ground := Ground.data }, { on := 2, ground := Ground.guard }], guard := some (2, true) }
def pt11o_10 : Oper := { dst := some 53, op := Op.call { callee := Callee.value (Operand.func 73), args := #[Operand.tmp 47, Operand.tmp 52], argTypes := #[51, 51] }, type := 4, pos := "circuit.go:43", after := #[{ on := 4, ground := Ground.data }, { on := 9, ground := Ground.data }, { on := 2, ground := Ground.chain }, { on := 2, ground := Ground.guard }], guard := some (2, true) }
def pt11o_11 : Oper := { dst := some 54, op := Op.pick (Operand.tmp 45) (Operand.tmp 53) (Operand.const (Value.bool false)), type := 4, pos := "circuit.go:43", after := #[{ on := 2, ground := Ground.data }, { on := 10, ground := Ground.data }], guard := none }
def pt11o : Array Oper := #[pt11o_0, pt11o_1, pt11o_2, pt11o_3, pt11o_4, pt11o_5, pt11o_6, pt11o_7, pt11o_8, pt11o_9, pt11o_10, pt11o_11]
set_option maxRecDepth 100000 in
set_option maxHeartbeats 16000000 in
theorem pt11 (Q : Exit → Act → World → Prop) (sb so n c b i : Nat) (tk ti qk qi : Int) (bb : Bool) (u1 u2 u4 u5 u8 u9 u10 u11 u12 u13 u14 u15 u16 u17 u18 u19 u20 u21 u22 u23 u24 u25 u26 u27 u28 u29 u30 u31 u32 u33 u34 u35 u36 u37 u38 u39 u40 u41 u42 u43 u44 u45 u46 u47 u48 u49 u50 u51 u52 u53 u54 u55 u56 u57 u58 u59 u60 u61 u62 u63 u64 u65 u66 u67 u68 u69 u70 u71 u72 u73 u74 u75 u76 u77 u78 u79 u80 u81 u82 : Value) (W : World)
  (i0 : (0 : Int) ≤ (i : Int)) (i1 : (i : Int) < (n : Int)) (t0 : W.cell? ⟨b, 0, none⟩ = some (.int .i64 tk)) (t1 : W.cell? ⟨b, 1, none⟩ = some (.int .i64 ti)) (c0 : W.cell? ⟨sb, so + i * 6, none⟩ = some (.int .i64 qk)) (c1 : W.cell? ⟨sb, so + i * 6 + 1, none⟩ = some (.int .i64 qi))
  (C1 : Hid (∀ y, Calls Tryz.prog 73 #[.agg #[.int .i64 tk, .int .i64 ti], .agg #[.int .i64 qk, .int .i64 qi]] y fun e w' => e = .returned (.bool bb) ∧ Below y.heap.size y w'))
  (HQ : Hid (∀ (wz : World), Below W.heap.size W wz → Q .normal ⟨#[.slice (some ⟨sb, so, none⟩) n c, u1, u2, .pointer (some ⟨b, 0, none⟩), u4, u5, .bool false, .int .i64 (i : Int), u8, u9, u10, u11, u12, u13, u14, u15, u16, u17, u18, u19, u20, u21, u22, u23, u24, u25, u26, u27, u28, u29, u30, u31, u32, u33, u34, u35, u36, u37, u38, u39, u40, u41, u42, .bool false, .bool true, .bool true, .pointer (some ⟨b, 0, none⟩), .agg #[.int .i64 tk, .int .i64 ti], .slice (some ⟨sb, so, none⟩) n c, .int .i64 (i : Int), .pointer (some ⟨sb, so + i * 6, none⟩), .pointer (some ⟨sb, so + i * 6, none⟩), .agg #[.int .i64 qk, .int .i64 qi], .bool bb, .bool bb, u55, u56, u57, u58, u59, u60, u61, u62, u63, u64, u65, u66, u67, u68, u69, u70, u71, u72, u73, u74, u75, u76, u77, u78, u79, u80, u81, u82], []⟩ wz)) : (Code.region 11 pt11o true).wp Tryz.prog Q ⟨#[.slice (some ⟨sb, so, none⟩) n c, u1, u2, .pointer (some ⟨b, 0, none⟩), u4, u5, .bool false, .int .i64 (i : Int), u8, u9, u10, u11, u12, u13, u14, u15, u16, u17, u18, u19, u20, u21, u22, u23, u24, u25, u26, u27, u28, u29, u30, u31, u32, u33, u34, u35, u36, u37, u38, u39, u40, u41, u42, u43, u44, u45, u46, u47, u48, u49, u50, u51, u52, u53, u54, u55, u56, u57, u58, u59, u60, u61, u62, u63, u64, u65, u66, u67, u68, u69, u70, u71, u72, u73, u74, u75, u76, u77, u78, u79, u80, u81, u82], []⟩ W := by
 unfold pt11o
 refine wp_region_noPanic ?_
 refine wp_region_held_drew (S := fun x => Below W.heap.size W x) (by kernel_rfl) (bl_drew W) (fun hH0 => ?_)
 refine Go.Proofs.YtnkaolobcglmlaaGreatDoor.tk 0 pt11o_0 (.bool false) rfl (by kernel_rfl) hH0 rfl (fun w0 hSw => ?_) ?_
 ·(unfold pt11o_0; clear hSw; go_simp)
 simp only [pt11o_0, Act.put, sA, sB, sC]
 refine Go.Proofs.YtnkaolobcglmlaaGreatDoor.tk 1 pt11o_1 (.bool true) rfl (by kernel_rfl) hH0 rfl (fun w0 hSw => ?_) ?_
 ·(unfold pt11o_1; clear hSw; go_simp)
 simp only [pt11o_1, Act.put, sA, sB, sC]
 refine Go.Proofs.YtnkaolobcglmlaaGreatDoor.tk 2 pt11o_2 (.bool true) rfl (by kernel_rfl) hH0 rfl (fun w0 hSw => ?_) ?_
 ·(unfold pt11o_2; clear hSw; go_simp)
 simp only [pt11o_2, Act.put, sA, sB, sC]
 refine Go.Proofs.YtnkaolobcglmlaaGreatDoor.tk 3 pt11o_3 (.pointer (some ⟨b, 0, none⟩)) rfl (by kernel_rfl) hH0 rfl (fun w0 hSw => ?_) ?_
 ·(unfold pt11o_3; clear hSw; go_simp)
 simp only [pt11o_3, Act.put, sA, sB, sC]
 refine Go.Proofs.YtnkaolobcglmlaaGreatDoor.tk 5 pt11o_5 (.slice (some ⟨sb, so, none⟩) n c) rfl (by kernel_rfl) hH0 rfl (fun w0 hSw => ?_) ?_
 ·(unfold pt11o_5; clear hSw; go_simp)
 simp only [pt11o_5, Act.put, sA, sB, sC]
 refine Go.Proofs.YtnkaolobcglmlaaGreatDoor.tk 6 pt11o_6 (.int .i64 (i : Int)) rfl (by kernel_rfl) hH0 rfl (fun w0 hSw => ?_) ?_
 ·(unfold pt11o_6; clear hSw; go_simp)
 simp only [pt11o_6, Act.put, sA, sB, sC]
 refine Go.Proofs.YtnkaolobcglmlaaGreatDoor.tk 4 pt11o_4 (.agg #[.int .i64 tk, .int .i64 ti]) rfl (by kernel_rfl) hH0 rfl (fun w0 hSw => ?_) ?_
 ·(unfold pt11o_4; have hS : Below W.heap.size W w0 := hSw; have a0 := cell_keep t0 hS; have a1 := cell_keep t1 hS; clear hS hSw; go_simp)
 simp only [pt11o_4, Act.put, sA, sB, sC]
 refine Go.Proofs.YtnkaolobcglmlaaGreatDoor.tk 7 pt11o_7 (.pointer (some ⟨sb, so + i * 6, none⟩)) rfl (by kernel_rfl) hH0 rfl (fun w0 hSw => ?_) ?_
 ·(unfold pt11o_7; clear hSw; go_simp)
 simp only [pt11o_7, Act.put, sA, sB, sC]
 refine Go.Proofs.YtnkaolobcglmlaaGreatDoor.tk 8 pt11o_8 (.pointer (some ⟨sb, so + i * 6, none⟩)) rfl (by kernel_rfl) hH0 rfl (fun w0 hSw => ?_) ?_
 ·(unfold pt11o_8; clear hSw; go_simp)
 simp only [pt11o_8, Act.put, sA, sB, sC]
 refine Go.Proofs.YtnkaolobcglmlaaGreatDoor.tk 9 pt11o_9 (.agg #[.int .i64 qk, .int .i64 qi]) rfl (by kernel_rfl) hH0 rfl (fun w0 hSw => ?_) ?_
 ·(unfold pt11o_9; have hS : Below W.heap.size W w0 := hSw; have a0 := cell_keep c0 hS; have a1 := cell_keep c1 hS; clear hS hSw; go_simp)
 simp only [pt11o_9, Act.put, sA, sB, sC]
 refine wpAnyH_ready (rs := [10]) (by kernel_rfl) (by simp) ?_
 refine AllReadyH.cons (o := pt11o_10) rfl (fun K hK => ?_) AllReadyH.nil
 unfold pt11o_10
 have HH := hidden hH0
 clear hH0
 go_simp
 refine (C1.out _).mono ?_
 rintro e wn1 ⟨rfl, hb⟩
 have SN := hidden (bl_trans HH.out hb)
 clear HH C1 hb
 go_wp2_with fail
 refine hK.out _ _ SN.out (fun hH1 => ?_)
 clear hK K SN
 refine Go.Proofs.YtnkaolobcglmlaaGreatDoor.tk 11 pt11o_11 (.bool bb) rfl (by kernel_rfl) hH1 rfl (fun w0 hSw => ?_) ?_
 ·(unfold pt11o_11; clear hSw; go_simp)
 simp only [pt11o_11, Act.put, sA, sB, sC]
 have HH := hidden hH1
 have FQ := hidden (HQ.out _ HH.out)
 refine wpAnyH_done (by kernel_rfl) ?_ _
 refine NoPanic.normal ?_
 exact FQ.out
def pt6to_0 : Oper := { dst := some 14, op := Op.move (Operand.tmp 6), type := 4, pos := "circuit.go:35", after := #[], guard := none }
def pt6to_1 : Oper := { dst := some 15, op := Op.unOp UnOp.not 4 (Operand.tmp 14), type := 4, pos := "circuit.go:35", after := #[{ on := 0, ground := Ground.data }], guard := none }
def pt6to_2 : Oper := { dst := some 16, op := Op.move (Operand.tmp 15), type := 4, pos := "circuit.go:35", after := #[{ on := 1, ground := Ground.data }], guard := none }
def pt6to_3 : Oper := { dst := some 17, op := Op.move (Operand.tmp 0), type := 69, pos := "circuit.go:35", after := #[{ on := 2, ground := Ground.guard }], guard := some (2, true) }
def pt6to_4 : Oper := { dst := some 18, op := Op.move (Operand.tmp 7), type := 3, pos := "circuit.go:35", after := #[{ on := 2, ground := Ground.guard }], guard := some (2, true) }
def pt6to_5 : Oper := { dst := some 19, op := Op.indexAddr 69 (Operand.tmp 17) (Operand.tmp 18), type := 0, pos := "circuit.go:35", after := #[{ on := 3, ground := Ground.data }, { on := 4, ground := Ground.data }, { on := 2, ground := Ground.guard }], guard := some (2, true) }
def pt6to_6 : Oper := { dst := some 20, op := Op.fieldAddr 86 (Operand.tmp 19) 0, type := 0, pos := "circuit.go:35", after := #[{ on := 5, ground := Ground.data }, { on := 2, ground := Ground.guard }], guard := some (2, true) }
def pt6to_7 : Oper := { dst := some 21, op := Op.load 51 (Operand.tmp 20), type := 51, pos := "circuit.go:35", after := #[{ on := 6, ground := Ground.data }, { on := 2, ground := Ground.guard }], guard := some (2, true) }
def pt6to_8 : Oper := { dst := some 22, op := Op.fieldAddr 86 (Operand.tmp 3) 0, type := 0, pos := "circuit.go:35", after := #[{ on := 2, ground := Ground.guard }], guard := some (2, true) }
def pt6to_9 : Oper := { dst := some 23, op := Op.load 51 (Operand.tmp 22), type := 51, pos := "circuit.go:35", after := #[{ on := 8, ground := Ground.data }, { on := 2, ground := Ground.guard }], guard := some (2, true) }
def pt6to_10 : Oper := { dst := some 24, op := Op.binOp BinOp.eql 51 (Operand.tmp 21) (Operand.tmp 23) 51, type := 4, pos := "circuit.go:35", after := #[{ on := 7, ground := Ground.data }, { on := 9, ground := Ground.data }, { on := 2, ground := Ground.guard }], guard := some (2, true) }
def pt6to_11 : Oper := { dst := some 25, op := Op.pick (Operand.tmp 16) (Operand.tmp 24) (Operand.const (Value.bool false)), type := 4, pos := "circuit.go:35", after := #[{ on := 2, ground := Ground.data }, { on := 10, ground := Ground.data }], guard := none }
def pt6to : Array Oper := #[pt6to_0, pt6to_1, pt6to_2, pt6to_3, pt6to_4, pt6to_5, pt6to_6, pt6to_7, pt6to_8, pt6to_9, pt6to_10, pt6to_11]
set_option maxRecDepth 100000 in
set_option maxHeartbeats 16000000 in
theorem pt6t (Q : Exit → Act → World → Prop) (sb so n c b i : Nat) (u1 u2 u4 u5 u8 u9 u10 u11 u12 u13 u14 u15 u16 u17 u18 u19 u20 u21 u22 u23 u24 u25 u26 u27 u28 u29 u30 u31 u32 u33 u34 u35 u36 u37 u38 u39 u40 u41 u42 u43 u44 u45 u46 u47 u48 u49 u50 u51 u52 u53 u54 u55 u56 u57 u58 u59 u60 u61 u62 u63 u64 u65 u66 u67 u68 u69 u70 u71 u72 u73 u74 u75 u76 u77 u78 u79 u80 u81 u82 : Value) (W : World)
  
  (HQ : Hid (∀ (wz : World), Below W.heap.size W wz → Q .normal ⟨#[.slice (some ⟨sb, so, none⟩) n c, u1, u2, .pointer (some ⟨b, 0, none⟩), u4, u5, .bool true, .int .i64 (i : Int), u8, u9, u10, u11, u12, u13, .bool true, .bool false, .bool false, undef, undef, undef, undef, undef, undef, undef, undef, .bool false, u26, u27, u28, u29, u30, u31, u32, u33, u34, u35, u36, u37, u38, u39, u40, u41, u42, u43, u44, u45, u46, u47, u48, u49, u50, u51, u52, u53, u54, u55, u56, u57, u58, u59, u60, u61, u62, u63, u64, u65, u66, u67, u68, u69, u70, u71, u72, u73, u74, u75, u76, u77, u78, u79, u80, u81, u82], []⟩ wz)) : (Code.region 6 pt6to true).wp Tryz.prog Q ⟨#[.slice (some ⟨sb, so, none⟩) n c, u1, u2, .pointer (some ⟨b, 0, none⟩), u4, u5, .bool true, .int .i64 (i : Int), u8, u9, u10, u11, u12, u13, u14, u15, u16, u17, u18, u19, u20, u21, u22, u23, u24, u25, u26, u27, u28, u29, u30, u31, u32, u33, u34, u35, u36, u37, u38, u39, u40, u41, u42, u43, u44, u45, u46, u47, u48, u49, u50, u51, u52, u53, u54, u55, u56, u57, u58, u59, u60, u61, u62, u63, u64, u65, u66, u67, u68, u69, u70, u71, u72, u73, u74, u75, u76, u77, u78, u79, u80, u81, u82], []⟩ W := by
 unfold pt6to
 refine wp_region_noPanic ?_
 refine wp_region_held_drew (S := fun x => Below W.heap.size W x) (by kernel_rfl) (bl_drew W) (fun hH0 => ?_)
 refine Go.Proofs.YtnkaolobcglmlaaGreatDoor.tk 0 pt6to_0 (.bool true) rfl (by kernel_rfl) hH0 rfl (fun w0 hSw => ?_) ?_
 ·(unfold pt6to_0; clear hSw; go_simp)
 simp only [pt6to_0, Act.put, sA, sB, sC]
 refine Go.Proofs.YtnkaolobcglmlaaGreatDoor.tk 1 pt6to_1 (.bool false) rfl (by kernel_rfl) hH0 rfl (fun w0 hSw => ?_) ?_
 ·(unfold pt6to_1; clear hSw; go_simp)
 simp only [pt6to_1, Act.put, sA, sB, sC]
 refine Go.Proofs.YtnkaolobcglmlaaGreatDoor.tk 2 pt6to_2 (.bool false) rfl (by kernel_rfl) hH0 rfl (fun w0 hSw => ?_) ?_
 ·(unfold pt6to_2; clear hSw; go_simp)
 simp only [pt6to_2, Act.put, sA, sB, sC]
 refine wpAnyH_take (i := 3) (oi := pt6to_3) (v := undef) rfl (by kernel_rfl) (by kernel_rfl) (by kernel_rfl) (fun _ _ _ h => h) (Or.inr ⟨by rfl, rfl⟩) hH0 ?_
 simp only [pt6to_3, Act.put, sA, sB, sC]
 refine wpAnyH_take (i := 4) (oi := pt6to_4) (v := undef) rfl (by kernel_rfl) (by kernel_rfl) (by kernel_rfl) (fun _ _ _ h => h) (Or.inr ⟨by rfl, rfl⟩) hH0 ?_
 simp only [pt6to_4, Act.put, sA, sB, sC]
 refine wpAnyH_take (i := 8) (oi := pt6to_8) (v := undef) rfl (by kernel_rfl) (by kernel_rfl) (by kernel_rfl) (fun _ _ _ h => h) (Or.inr ⟨by rfl, rfl⟩) hH0 ?_
 simp only [pt6to_8, Act.put, sA, sB, sC]
 refine wpAnyH_take (i := 5) (oi := pt6to_5) (v := undef) rfl (by kernel_rfl) (by kernel_rfl) (by kernel_rfl) (fun _ _ _ h => h) (Or.inr ⟨by rfl, rfl⟩) hH0 ?_
 simp only [pt6to_5, Act.put, sA, sB, sC]
 refine wpAnyH_take (i := 9) (oi := pt6to_9) (v := undef) rfl (by kernel_rfl) (by kernel_rfl) (by kernel_rfl) (fun _ _ _ h => h) (Or.inr ⟨by rfl, rfl⟩) hH0 ?_
 simp only [pt6to_9, Act.put, sA, sB, sC]
 refine wpAnyH_take (i := 6) (oi := pt6to_6) (v := undef) rfl (by kernel_rfl) (by kernel_rfl) (by kernel_rfl) (fun _ _ _ h => h) (Or.inr ⟨by rfl, rfl⟩) hH0 ?_
 simp only [pt6to_6, Act.put, sA, sB, sC]
 refine wpAnyH_take (i := 7) (oi := pt6to_7) (v := undef) rfl (by kernel_rfl) (by kernel_rfl) (by kernel_rfl) (fun _ _ _ h => h) (Or.inr ⟨by rfl, rfl⟩) hH0 ?_
 simp only [pt6to_7, Act.put, sA, sB, sC]
 refine wpAnyH_take (i := 10) (oi := pt6to_10) (v := undef) rfl (by kernel_rfl) (by kernel_rfl) (by kernel_rfl) (fun _ _ _ h => h) (Or.inr ⟨by rfl, rfl⟩) hH0 ?_
 simp only [pt6to_10, Act.put, sA, sB, sC]
 refine Go.Proofs.YtnkaolobcglmlaaGreatDoor.tk 11 pt6to_11 (.bool false) rfl (by kernel_rfl) hH0 rfl (fun w0 hSw => ?_) ?_
 ·(unfold pt6to_11; clear hSw; go_simp)
 simp only [pt6to_11, Act.put, sA, sB, sC]
 have HH := hidden hH0
 have FQ := hidden (HQ.out _ HH.out)
 refine wpAnyH_done (by kernel_rfl) ?_ _
 refine NoPanic.normal ?_
 exact FQ.out
def pt6fo : Array Oper := #[{ dst := some 14, op := Op.move (Operand.tmp 6), type := 4, pos := "circuit.go:35", after := #[], guard := none },
 { dst := some 15, op := Op.unOp UnOp.not 4 (Operand.tmp 14), type := 4, pos := "circuit.go:35", after := #[{ on := 0, ground := Ground.data }], guard := none },
 { dst := some 16, op := Op.move (Operand.tmp 15), type := 4, pos := "circuit.go:35", after := #[{ on := 1, ground := Ground.data }], guard := none },
 { dst := some 17, op := Op.move (Operand.tmp 0), type := 69, pos := "circuit.go:35", after := #[{ on := 2, ground := Ground.guard }], guard := some (2, true) },
 { dst := some 18, op := Op.move (Operand.tmp 7), type := 3, pos := "circuit.go:35", after := #[{ on := 2, ground := Ground.guard }], guard := some (2, true) },
 { dst := some 19, op := Op.indexAddr 69 (Operand.tmp 17) (Operand.tmp 18), type := 0, pos := "circuit.go:35", after := #[{ on := 3, ground := Ground.data }, { on := 4, ground := Ground.data }, { on := 2, ground := Ground.guard }], guard := some (2, true) },
 { dst := some 20, op := Op.fieldAddr 86 (Operand.tmp 19) 0, type := 0, pos := "circuit.go:35", after := #[{ on := 5, ground := Ground.data }, { on := 2, ground := Ground.guard }], guard := some (2, true) },
 { dst := some 21, op := Op.load 51 (Operand.tmp 20), type := 51, pos := "circuit.go:35", after := #[{ on := 6, ground := Ground.data }, { on := 2, ground := Ground.guard }], guard := some (2, true) },
 { dst := some 22, op := Op.fieldAddr 86 (Operand.tmp 3) 0, type := 0, pos := "circuit.go:35", after := #[{ on := 2, ground := Ground.guard }], guard := some (2, true) },
 { dst := some 23, op := Op.load 51 (Operand.tmp 22), type := 51, pos := "circuit.go:35", after := #[{ on := 8, ground := Ground.data }, { on := 2, ground := Ground.guard }], guard := some (2, true) },
 { dst := some 24, op := Op.binOp BinOp.eql 51 (Operand.tmp 21) (Operand.tmp 23) 51, type := 4, pos := "circuit.go:35", after := #[{ on := 7, ground := Ground.data }, { on := 9, ground := Ground.data }, { on := 2, ground := Ground.guard }], guard := some (2, true) },
 { dst := some 25, op := Op.pick (Operand.tmp 16) (Operand.tmp 24) (Operand.const (Value.bool false)), type := 4, pos := "circuit.go:35", after := #[{ on := 2, ground := Ground.data }, { on := 10, ground := Ground.data }], guard := none }]
set_option maxRecDepth 100000 in
set_option maxHeartbeats 16000000 in
theorem pt6f (Q : Exit → Act → World → Prop) (sb so n c b i : Nat) (tk ti qk qi : Int) (bb : Bool) (u1 u2 u4 u5 u8 u9 u10 u11 u12 u13 u14 u15 u16 u17 u18 u19 u20 u21 u22 u23 u24 u25 u26 u27 u28 u29 u30 u31 u32 u33 u34 u35 u36 u37 u38 u39 u40 u41 u42 u43 u44 u45 u46 u47 u48 u49 u50 u51 u52 u53 u54 u55 u56 u57 u58 u59 u60 u61 u62 u63 u64 u65 u66 u67 u68 u69 u70 u71 u72 u73 u74 u75 u76 u77 u78 u79 u80 u81 u82 : Value) (W : World)
  (i0 : (0 : Int) ≤ (i : Int)) (i1 : (i : Int) < (n : Int)) (t0 : W.cell? ⟨b, 0, none⟩ = some (.int .i64 tk)) (t1 : W.cell? ⟨b, 1, none⟩ = some (.int .i64 ti)) (c0 : W.cell? ⟨sb, so + i * 6, none⟩ = some (.int .i64 qk)) (c1 : W.cell? ⟨sb, so + i * 6 + 1, none⟩ = some (.int .i64 qi))
  (EQ : Hid (bb = decide ((qk, qi) = (tk, ti))))
  (HQ : Hid (∀ (wz : World), Below W.heap.size W wz → Q .normal ⟨#[.slice (some ⟨sb, so, none⟩) n c, u1, u2, .pointer (some ⟨b, 0, none⟩), u4, u5, .bool false, .int .i64 (i : Int), u8, u9, u10, u11, u12, u13, .bool false, .bool true, .bool true, .slice (some ⟨sb, so, none⟩) n c, .int .i64 (i : Int), .pointer (some ⟨sb, so + i * 6, none⟩), .pointer (some ⟨sb, so + i * 6, none⟩), .agg #[.int .i64 qk, .int .i64 qi], .pointer (some ⟨b, 0, none⟩), .agg #[.int .i64 tk, .int .i64 ti], .bool bb, .bool bb, u26, u27, u28, u29, u30, u31, u32, u33, u34, u35, u36, u37, u38, u39, u40, u41, u42, u43, u44, u45, u46, u47, u48, u49, u50, u51, u52, u53, u54, u55, u56, u57, u58, u59, u60, u61, u62, u63, u64, u65, u66, u67, u68, u69, u70, u71, u72, u73, u74, u75, u76, u77, u78, u79, u80, u81, u82], []⟩ wz)) : (Code.region 6 pt6fo true).wp Tryz.prog Q ⟨#[.slice (some ⟨sb, so, none⟩) n c, u1, u2, .pointer (some ⟨b, 0, none⟩), u4, u5, .bool false, .int .i64 (i : Int), u8, u9, u10, u11, u12, u13, u14, u15, u16, u17, u18, u19, u20, u21, u22, u23, u24, u25, u26, u27, u28, u29, u30, u31, u32, u33, u34, u35, u36, u37, u38, u39, u40, u41, u42, u43, u44, u45, u46, u47, u48, u49, u50, u51, u52, u53, u54, u55, u56, u57, u58, u59, u60, u61, u62, u63, u64, u65, u66, u67, u68, u69, u70, u71, u72, u73, u74, u75, u76, u77, u78, u79, u80, u81, u82], []⟩ W := by
 unfold pt6fo
 refine wp_region_noPanic ?_
 refine wp_region_held_drew (S := fun x => Below W.heap.size W x) (by kernel_rfl) (bl_drew W) (fun hH0 => ?_)
 refine Go.Proofs.YtnkaolobcglmlaaGreatDoor.tk 0 pt6to_0 (.bool false) rfl (by kernel_rfl) hH0 rfl (fun w0 hSw => ?_) ?_
 ·(unfold pt6to_0; clear hSw; go_simp)
 simp only [pt6to_0, Act.put, sA, sB, sC]
 refine Go.Proofs.YtnkaolobcglmlaaGreatDoor.tk 1 pt6to_1 (.bool true) rfl (by kernel_rfl) hH0 rfl (fun w0 hSw => ?_) ?_
 ·(unfold pt6to_1; clear hSw; go_simp)
 simp only [pt6to_1, Act.put, sA, sB, sC]
 refine Go.Proofs.YtnkaolobcglmlaaGreatDoor.tk 2 pt6to_2 (.bool true) rfl (by kernel_rfl) hH0 rfl (fun w0 hSw => ?_) ?_
 ·(unfold pt6to_2; clear hSw; go_simp)
 simp only [pt6to_2, Act.put, sA, sB, sC]
 refine Go.Proofs.YtnkaolobcglmlaaGreatDoor.tk 3 pt6to_3 (.slice (some ⟨sb, so, none⟩) n c) rfl (by kernel_rfl) hH0 rfl (fun w0 hSw => ?_) ?_
 ·(unfold pt6to_3; clear hSw; go_simp)
 simp only [pt6to_3, Act.put, sA, sB, sC]
 refine Go.Proofs.YtnkaolobcglmlaaGreatDoor.tk 4 pt6to_4 (.int .i64 (i : Int)) rfl (by kernel_rfl) hH0 rfl (fun w0 hSw => ?_) ?_
 ·(unfold pt6to_4; clear hSw; go_simp)
 simp only [pt6to_4, Act.put, sA, sB, sC]
 refine Go.Proofs.YtnkaolobcglmlaaGreatDoor.tk 8 pt6to_8 (.pointer (some ⟨b, 0, none⟩)) rfl (by kernel_rfl) hH0 rfl (fun w0 hSw => ?_) ?_
 ·(unfold pt6to_8; clear hSw; go_simp)
 simp only [pt6to_8, Act.put, sA, sB, sC]
 refine Go.Proofs.YtnkaolobcglmlaaGreatDoor.tk 5 pt6to_5 (.pointer (some ⟨sb, so + i * 6, none⟩)) rfl (by kernel_rfl) hH0 rfl (fun w0 hSw => ?_) ?_
 ·(unfold pt6to_5; clear hSw; go_simp)
 simp only [pt6to_5, Act.put, sA, sB, sC]
 refine Go.Proofs.YtnkaolobcglmlaaGreatDoor.tk 9 pt6to_9 (.agg #[.int .i64 tk, .int .i64 ti]) rfl (by kernel_rfl) hH0 rfl (fun w0 hSw => ?_) ?_
 ·(unfold pt6to_9; have hS : Below W.heap.size W w0 := hSw; have a0 := cell_keep t0 hS; have a1 := cell_keep t1 hS; clear hS hSw; go_simp)
 simp only [pt6to_9, Act.put, sA, sB, sC]
 refine Go.Proofs.YtnkaolobcglmlaaGreatDoor.tk 6 pt6to_6 (.pointer (some ⟨sb, so + i * 6, none⟩)) rfl (by kernel_rfl) hH0 rfl (fun w0 hSw => ?_) ?_
 ·(unfold pt6to_6; clear hSw; go_simp)
 simp only [pt6to_6, Act.put, sA, sB, sC]
 refine Go.Proofs.YtnkaolobcglmlaaGreatDoor.tk 7 pt6to_7 (.agg #[.int .i64 qk, .int .i64 qi]) rfl (by kernel_rfl) hH0 rfl (fun w0 hSw => ?_) ?_
 ·(unfold pt6to_7; have hS : Below W.heap.size W w0 := hSw; have a0 := cell_keep c0 hS; have a1 := cell_keep c1 hS; clear hS hSw; go_simp)
 simp only [pt6to_7, Act.put, sA, sB, sC]
 refine Go.Proofs.YtnkaolobcglmlaaGreatDoor.tk 10 pt6to_10 (.bool bb) rfl (by kernel_rfl) hH0 rfl (fun w0 hSw => ?_) ?_
 ·(unfold pt6to_10; clear hSw; go_simp; rw [EQ.out]; by_cases h1 : qk = tk <;> by_cases h2 : qi = ti <;> simp [h1, h2])
 simp only [pt6to_10, Act.put, sA, sB, sC]
 refine Go.Proofs.YtnkaolobcglmlaaGreatDoor.tk 11 pt6to_11 (.bool bb) rfl (by kernel_rfl) hH0 rfl (fun w0 hSw => ?_) ?_
 ·(unfold pt6to_11; clear hSw; go_simp)
 simp only [pt6to_11, Act.put, sA, sB, sC]
 have HH := hidden hH0
 have FQ := hidden (HQ.out _ HH.out)
 refine wpAnyH_done (by kernel_rfl) ?_ _
 refine NoPanic.normal ?_
 exact FQ.out
def pt11to : Array Oper := #[{ dst := some 43, op := Op.move (Operand.tmp 6), type := 4, pos := "circuit.go:43", after := #[], guard := none },
 { dst := some 44, op := Op.unOp UnOp.not 4 (Operand.tmp 43), type := 4, pos := "circuit.go:43", after := #[{ on := 0, ground := Ground.data }], guard := none },
 { dst := some 45, op := Op.move (Operand.tmp 44), type := 4, pos := "circuit.go:43", after := #[{ on := 1, ground := Ground.data }], guard := none },
 { dst := some 46, op := Op.fieldAddr 86 (Operand.tmp 3) 0, type := 0, pos := "circuit.go:43", after := #[{ on := 2, ground := Ground.guard }], guard := some (2, true) },
 { dst := some 47, op := Op.load 51 (Operand.tmp 46), type := 51, pos := "circuit.go:43", after := #[{ on := 3, ground := Ground.data }, { on := 2, ground := Ground.guard }], guard := some (2, true) },
 { dst := some 48, op := Op.move (Operand.tmp 0), type := 69, pos := "circuit.go:43", after := #[{ on := 2, ground := Ground.guard }], guard := some (2, true) },
 { dst := some 49, op := Op.move (Operand.tmp 7), type := 3, pos := "circuit.go:43", after := #[{ on := 2, ground := Ground.guard }], guard := some (2, true) },
 { dst := some 50, op := Op.indexAddr 69 (Operand.tmp 48) (Operand.tmp 49), type := 0, pos := "circuit.go:43", after := #[{ on := 5, ground := Ground.data }, { on := 6, ground := Ground.data }, { on := 2, ground := Ground.guard }], guard := some (2, true) },
 { dst := some 51, op := Op.fieldAddr 86 (Operand.tmp 50) 0, type := 0, pos := "circuit.go:43", after := #[{ on := 7, ground := Ground.data }, { on := 2, ground := Ground.guard }], guard := some (2, true) },
 { dst := some 52, op := Op.load 51 (Operand.tmp 51), type := 51, pos := "circuit.go:43", after := #[{ on := 8, ground := Ground.data }, { on := 2, ground := Ground.guard }], guard := some (2, true) },
 { dst := some 53, op := Op.call { callee := Callee.value (Operand.func 73), args := #[Operand.tmp 47, Operand.tmp 52], argTypes := #[51, 51] }, type := 4, pos := "circuit.go:43", after := #[{ on := 4, ground := Ground.data }, { on := 9, ground := Ground.data }, { on := 2, ground := Ground.chain }, { on := 2, ground := Ground.guard }], guard := some (2, true) },
 { dst := some 54, op := Op.pick (Operand.tmp 45) (Operand.tmp 53) (Operand.const (Value.bool false)), type := 4, pos := "circuit.go:43", after := #[{ on := 2, ground := Ground.data }, { on := 10, ground := Ground.data }], guard := none }]
set_option maxRecDepth 100000 in
set_option maxHeartbeats 16000000 in
theorem pt11t (Q : Exit → Act → World → Prop) (sb so n c b i : Nat) (u1 u2 u4 u5 u8 u9 u10 u11 u12 u13 u14 u15 u16 u17 u18 u19 u20 u21 u22 u23 u24 u25 u26 u27 u28 u29 u30 u31 u32 u33 u34 u35 u36 u37 u38 u39 u40 u41 u42 u43 u44 u45 u46 u47 u48 u49 u50 u51 u52 u53 u54 u55 u56 u57 u58 u59 u60 u61 u62 u63 u64 u65 u66 u67 u68 u69 u70 u71 u72 u73 u74 u75 u76 u77 u78 u79 u80 u81 u82 : Value) (W : World)
  
  (HQ : Hid (∀ (wz : World), Below W.heap.size W wz → Q .normal ⟨#[.slice (some ⟨sb, so, none⟩) n c, u1, u2, .pointer (some ⟨b, 0, none⟩), u4, u5, .bool true, .int .i64 (i : Int), u8, u9, u10, u11, u12, u13, u14, u15, u16, u17, u18, u19, u20, u21, u22, u23, u24, u25, u26, u27, u28, u29, u30, u31, u32, u33, u34, u35, u36, u37, u38, u39, u40, u41, u42, .bool true, .bool false, .bool false, undef, undef, undef, undef, undef, undef, undef, undef, .bool false, u55, u56, u57, u58, u59, u60, u61, u62, u63, u64, u65, u66, u67, u68, u69, u70, u71, u72, u73, u74, u75, u76, u77, u78, u79, u80, u81, u82], []⟩ wz)) : (Code.region 11 pt11to true).wp Tryz.prog Q ⟨#[.slice (some ⟨sb, so, none⟩) n c, u1, u2, .pointer (some ⟨b, 0, none⟩), u4, u5, .bool true, .int .i64 (i : Int), u8, u9, u10, u11, u12, u13, u14, u15, u16, u17, u18, u19, u20, u21, u22, u23, u24, u25, u26, u27, u28, u29, u30, u31, u32, u33, u34, u35, u36, u37, u38, u39, u40, u41, u42, u43, u44, u45, u46, u47, u48, u49, u50, u51, u52, u53, u54, u55, u56, u57, u58, u59, u60, u61, u62, u63, u64, u65, u66, u67, u68, u69, u70, u71, u72, u73, u74, u75, u76, u77, u78, u79, u80, u81, u82], []⟩ W := by
 unfold pt11to
 refine wp_region_noPanic ?_
 refine wp_region_held_drew (S := fun x => Below W.heap.size W x) (by kernel_rfl) (bl_drew W) (fun hH0 => ?_)
 refine Go.Proofs.YtnkaolobcglmlaaGreatDoor.tk 0 pt11o_0 (.bool true) rfl (by kernel_rfl) hH0 rfl (fun w0 hSw => ?_) ?_
 ·(unfold pt11o_0; clear hSw; go_simp)
 simp only [pt11o_0, Act.put, sA, sB, sC]
 refine Go.Proofs.YtnkaolobcglmlaaGreatDoor.tk 1 pt11o_1 (.bool false) rfl (by kernel_rfl) hH0 rfl (fun w0 hSw => ?_) ?_
 ·(unfold pt11o_1; clear hSw; go_simp)
 simp only [pt11o_1, Act.put, sA, sB, sC]
 refine Go.Proofs.YtnkaolobcglmlaaGreatDoor.tk 2 pt11o_2 (.bool false) rfl (by kernel_rfl) hH0 rfl (fun w0 hSw => ?_) ?_
 ·(unfold pt11o_2; clear hSw; go_simp)
 simp only [pt11o_2, Act.put, sA, sB, sC]
 refine wpAnyH_take (i := 3) (oi := pt11o_3) (v := undef) rfl (by kernel_rfl) (by kernel_rfl) (by kernel_rfl) (fun _ _ _ h => h) (Or.inr ⟨by rfl, rfl⟩) hH0 ?_
 simp only [pt11o_3, Act.put, sA, sB, sC]
 refine wpAnyH_take (i := 5) (oi := pt11o_5) (v := undef) rfl (by kernel_rfl) (by kernel_rfl) (by kernel_rfl) (fun _ _ _ h => h) (Or.inr ⟨by rfl, rfl⟩) hH0 ?_
 simp only [pt11o_5, Act.put, sA, sB, sC]
 refine wpAnyH_take (i := 6) (oi := pt11o_6) (v := undef) rfl (by kernel_rfl) (by kernel_rfl) (by kernel_rfl) (fun _ _ _ h => h) (Or.inr ⟨by rfl, rfl⟩) hH0 ?_
 simp only [pt11o_6, Act.put, sA, sB, sC]
 refine wpAnyH_take (i := 4) (oi := pt11o_4) (v := undef) rfl (by kernel_rfl) (by kernel_rfl) (by kernel_rfl) (fun _ _ _ h => h) (Or.inr ⟨by rfl, rfl⟩) hH0 ?_
 simp only [pt11o_4, Act.put, sA, sB, sC]
 refine wpAnyH_take (i := 7) (oi := pt11o_7) (v := undef) rfl (by kernel_rfl) (by kernel_rfl) (by kernel_rfl) (fun _ _ _ h => h) (Or.inr ⟨by rfl, rfl⟩) hH0 ?_
 simp only [pt11o_7, Act.put, sA, sB, sC]
 refine wpAnyH_take (i := 8) (oi := pt11o_8) (v := undef) rfl (by kernel_rfl) (by kernel_rfl) (by kernel_rfl) (fun _ _ _ h => h) (Or.inr ⟨by rfl, rfl⟩) hH0 ?_
 simp only [pt11o_8, Act.put, sA, sB, sC]
 refine wpAnyH_take (i := 9) (oi := pt11o_9) (v := undef) rfl (by kernel_rfl) (by kernel_rfl) (by kernel_rfl) (fun _ _ _ h => h) (Or.inr ⟨by rfl, rfl⟩) hH0 ?_
 simp only [pt11o_9, Act.put, sA, sB, sC]
 refine wpAnyH_ready (rs := [10]) (by kernel_rfl) (by simp) ?_
 refine AllReadyH.cons (o := pt11o_10) rfl (fun K hK => ?_) AllReadyH.nil
 unfold pt11o_10
 refine Eq.mpr (if_neg (by exact fun h => Bool.false_ne_true h)) ?_
 refine hK.out _ _ hH0 (fun hzz => ?_)
 clear hK K hzz
 simp only [Act.put, sA, sB, sC]
 refine Go.Proofs.YtnkaolobcglmlaaGreatDoor.tk 11 pt11o_11 (.bool false) rfl (by kernel_rfl) hH0 rfl (fun w0 hSw => ?_) ?_
 ·(unfold pt11o_11; clear hSw; go_simp)
 simp only [pt11o_11, Act.put, sA, sB, sC]
 have HH := hidden hH0
 have FQ := hidden (HQ.out _ HH.out)
 refine wpAnyH_done (by kernel_rfl) ?_ _
 refine NoPanic.normal ?_
 exact FQ.out
end Ci
end Go.Proofs.YtnkaolobcglmlaaGreatDoor
