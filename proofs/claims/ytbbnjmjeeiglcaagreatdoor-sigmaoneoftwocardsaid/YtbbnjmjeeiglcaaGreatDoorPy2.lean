import Derived.Test.YtbbnjmjeeiglcaaGreatDoorPy1
import Derived.RangeFuncNested
import Derived.RangeFuncBound
import Derived.RangeFuncCalls
import Derived.RangeFuncLeaves
import Derived.Shelf.Abstract
import Derived.Shelf.RegionOpen
import Derived.WalkKit
import Derived.OwnWalkIn
import Derived.TacticsInMore
import Derived.LoopNIn
import Derived.LoopIn
set_option maxRecDepth 100000
set_option maxHeartbeats 32000000
set_option linter.unusedVariables false
set_option linter.unusedSimpArgs false
namespace Go.Proofs.YtbbnjmjeeiglcaaGreatDoor.Li
open Go.RowKit
theorem Pl.made (w : World) (K : Nat) (t : TypeId) : Pl (w.alloc (.cells (madeCells #[.int .u64 0, .int .u64 0, .int .u64 0, .int .u64 0, .bool false] (K * 5)) t)) w.heap.size K (fun _ => false) (fun _ _ => 0) := by
 have h : ∀ o, o < K * 5 → (w.alloc (.cells (madeCells #[.int .u64 0, .int .u64 0, .int .u64 0, .int .u64 0, .bool false] (K * 5)) t)).cell? ⟨w.heap.size, o, none⟩ = some (if o % 5 = 4 then .bool false else .int .u64 0) := fun o ho => by
  rw [cell_of_row (w.alloc (.cells (madeCells #[.int .u64 0, .int .u64 0, .int .u64 0, .int .u64 0, .bool false] (K * 5)) t)) w.heap.size o _ t (0, 0) (heap_alloc_new w _)]
  have h2 : o % 5 = 0 ∨ o % 5 = 1 ∨ o % 5 = 2 ∨ o % 5 = 3 ∨ o % 5 = 4 := by omega
  rcases h2 with h2 | h2 | h2 | h2 | h2 <;> simp [madeCells, ho, h2]
 refine ⟨fun i hi => ⟨⟨0, 0, 0, 0⟩, range4 ?_ ?_ ?_ ?_, ?_, fun e => by simp at e⟩, fun i hi _ t => zero_lst, fun o ho => by go_simp, by simp⟩
 ·rw [h _ (by omega), if_neg (by omega)]
 ·rw [h _ (by omega), if_neg (by omega)]
 ·rw [h _ (by omega), if_neg (by omega)]
 ·rw [h _ (by omega), if_neg (by omega)]
 ·rw [h _ (by omega), if_pos (by omega)]
def st11o_0 : Oper := { dst := some 47, op := Op.move (Operand.tmp 0), type := 139, pos := "ways.go:72", after := #[], guard := none }
def st11o_1 : Oper := { dst := some 48, op := Op.move (Operand.tmp 7), type := 144, pos := "ways.go:72", after := #[], guard := none }
def st11o_2 : Oper := { dst := some 49, op := Op.move (Operand.tmp 13), type := 3, pos := "ways.go:72", after := #[], guard := none }
def st11o_3 : Oper := { dst := some 50, op := Op.indexAddr 144 (Operand.tmp 48) (Operand.tmp 49), type := 0, pos := "ways.go:72", after := #[{ on := 1, ground := Ground.data }, { on := 2, ground := Ground.data }], guard := none }
def st11o_4 : Oper := { dst := some 51, op := Op.move (Operand.tmp 12), type := 41, pos := "ways.go:72", after := #[], guard := none }
def st11o_5 : Oper := { dst := some 52, op := Op.move (Operand.tmp 14), type := 3, pos := "ways.go:72", after := #[], guard := none }
def st11o_6 : Oper := { dst := some 53, op := Op.binOp BinOp.sub 3 (Operand.tmp 52) (Operand.const (Value.int IntKind.i64 1)) 3, type := 3, pos := "ways.go:72", after := #[{ on := 5, ground := Ground.data }], guard := none }
def st11o_7 : Oper := { dst := some 54, op := Op.indexAddr 41 (Operand.tmp 51) (Operand.tmp 53), type := 0, pos := "ways.go:72", after := #[{ on := 4, ground := Ground.data }, { on := 6, ground := Ground.data }], guard := none }
def st11o_8 : Oper := { dst := some 55, op := Op.load 39 (Operand.tmp 54), type := 39, pos := "ways.go:72", after := #[{ on := 7, ground := Ground.data }], guard := none }
def st11o_9 : Oper := { dst := some 56, op := Op.call { callee := Callee.value (Operand.func 71), args := #[Operand.tmp 47, Operand.tmp 50, Operand.tmp 55], argTypes := #[139, 151, 39] }, type := 0, pos := "ways.go:72", after := #[{ on := 0, ground := Ground.data }, { on := 3, ground := Ground.data }, { on := 8, ground := Ground.data }], guard := none }
def st11o : Array Oper := #[st11o_0, st11o_1, st11o_2, st11o_3, st11o_4, st11o_5, st11o_6, st11o_7, st11o_8, st11o_9]
theorem st11 (Q : Exit → Act → World → Prop) (H D K M T i d : Nat) (z : Int) (p : E4) (RW : World → Prop) (u1 u2 u3 u4 u5 u6 u8 u9 u10 u11 u15 u16 u17 u18 u19 u20 u21 u22 u23 u24 u25 u26 u27 u28 u29 u30 u31 u32 u33 u34 u35 u36 u37 u38 u39 u40 u41 u42 u43 u44 u45 u46 u47 u48 u49 u50 u51 u52 u53 u54 u55 u56 u57 u58 u59 u60 u61 u62 u63 u64 u65 u66 u67 u68 u69 u70 u71 u72 u73 u74 u75 u76 u77 u78 : Value) (W : World)
  (cm : W.rangeAt M (d * 4) [.int .u64 p.x0, .int .u64 p.x1, .int .u64 p.x2, .int .u64 p.x3]) (i0 : (0 : Int) ≤ (i : Int)) (i1 : (i : Int) < (K : Int)) (d0 : (0 : Int) ≤ (d : Int)) (d1 : (d : Int) < (T : Int)) (wz1 : IntKind.i64.wrap (z - 1) = (d : Int))
  (C9 : Hid (Calls Tryz.prog 71 #[.pointer (some ⟨H, 0, none⟩), .pointer (some ⟨D, i * 5, none⟩), .agg #[.int .u64 p.x0, .int .u64 p.x1, .int .u64 p.x2, .int .u64 p.x3]] W.drew fun e w' => e = .returned (.tuple #[]) ∧ w'.rangeAt M (d * 4) [.int .u64 p.x0, .int .u64 p.x1, .int .u64 p.x2, .int .u64 p.x3] ∧ RW w'))
  (HQ : Hid (∀ (wz : World), RW wz → Q .normal ⟨#[.pointer (some ⟨H, 0, none⟩), u1, u2, u3, u4, u5, u6, .slice (some ⟨D, 0, none⟩) K K, u8, u9, u10, u11, .slice (some ⟨M, 0, none⟩) T T, .int .i64 (i : Int), .int .i64 z, u15, u16, u17, u18, u19, u20, u21, u22, u23, u24, u25, u26, u27, u28, u29, u30, u31, u32, u33, u34, u35, u36, u37, u38, u39, u40, u41, u42, u43, u44, u45, u46, .pointer (some ⟨H, 0, none⟩), .slice (some ⟨D, 0, none⟩) K K, .int .i64 (i : Int), .pointer (some ⟨D, i * 5, none⟩), .slice (some ⟨M, 0, none⟩) T T, .int .i64 z, .int .i64 (d : Int), .pointer (some ⟨M, d * 4, none⟩), .agg #[.int .u64 p.x0, .int .u64 p.x1, .int .u64 p.x2, .int .u64 p.x3], .tuple #[], u57, u58, u59, u60, u61, u62, u63, u64, u65, u66, u67, u68, u69, u70, u71, u72, u73, u74, u75, u76, u77, u78], []⟩ wz)) : (Code.region 11 st11o true).wp Tryz.prog Q ⟨#[.pointer (some ⟨H, 0, none⟩), u1, u2, u3, u4, u5, u6, .slice (some ⟨D, 0, none⟩) K K, u8, u9, u10, u11, .slice (some ⟨M, 0, none⟩) T T, .int .i64 (i : Int), .int .i64 z, u15, u16, u17, u18, u19, u20, u21, u22, u23, u24, u25, u26, u27, u28, u29, u30, u31, u32, u33, u34, u35, u36, u37, u38, u39, u40, u41, u42, u43, u44, u45, u46, u47, u48, u49, u50, u51, u52, u53, u54, u55, u56, u57, u58, u59, u60, u61, u62, u63, u64, u65, u66, u67, u68, u69, u70, u71, u72, u73, u74, u75, u76, u77, u78], []⟩ W := by
 have UL : Hid (Tryz.prog.underlying 39 = some _) := hidden Tryz.underlying39
 have IL : Hid ((Tryz.prog.info? 39).map (·.size) = some ([.int .u64 p.x0, .int .u64 p.x1, .int .u64 p.x2, .int .u64 p.x3] : List Value).length) := hidden (by kernel_rfl)
 unfold st11o
 refine wp_region_noPanic ?_
 refine wp_region_held_drew (S := fun x => x.rangeAt M (d * 4) [.int .u64 p.x0, .int .u64 p.x1, .int .u64 p.x2, .int .u64 p.x3]) (by kernel_rfl) (range_bl cm (bl_drew W)) (fun hH0 => ?_)
 refine tk 0 st11o_0 (.pointer (some ⟨H, 0, none⟩)) rfl (by kernel_rfl) hH0 rfl (fun w0 hSw => ?_) ?_
 ·(unfold st11o_0; clear hSw; go_simp)
 simp only [st11o_0, Act.put, sA, sB, sC]
 refine tk 1 st11o_1 (.slice (some ⟨D, 0, none⟩) K K) rfl (by kernel_rfl) hH0 rfl (fun w0 hSw => ?_) ?_
 ·(unfold st11o_1; clear hSw; go_simp)
 simp only [st11o_1, Act.put, sA, sB, sC]
 refine tk 2 st11o_2 (.int .i64 (i : Int)) rfl (by kernel_rfl) hH0 rfl (fun w0 hSw => ?_) ?_
 ·(unfold st11o_2; clear hSw; go_simp)
 simp only [st11o_2, Act.put, sA, sB, sC]
 refine tk 4 st11o_4 (.slice (some ⟨M, 0, none⟩) T T) rfl (by kernel_rfl) hH0 rfl (fun w0 hSw => ?_) ?_
 ·(unfold st11o_4; clear hSw; go_simp)
 simp only [st11o_4, Act.put, sA, sB, sC]
 refine tk 5 st11o_5 (.int .i64 z) rfl (by kernel_rfl) hH0 rfl (fun w0 hSw => ?_) ?_
 ·(unfold st11o_5; clear hSw; go_simp)
 simp only [st11o_5, Act.put, sA, sB, sC]
 refine tk 3 st11o_3 (.pointer (some ⟨D, i * 5, none⟩)) rfl (by kernel_rfl) hH0 rfl (fun w0 hSw => ?_) ?_
 ·(unfold st11o_3; clear hSw; go_simp)
 simp only [st11o_3, Act.put, sA, sB, sC]
 refine tk 6 st11o_6 (.int .i64 (d : Int)) rfl (by kernel_rfl) hH0 rfl (fun w0 hSw => ?_) ?_
 ·(unfold st11o_6; clear hSw; go_simp)
 simp only [st11o_6, Act.put, sA, sB, sC]
 refine tk 7 st11o_7 (.pointer (some ⟨M, d * 4, none⟩)) rfl (by kernel_rfl) hH0 rfl (fun w0 hSw => ?_) ?_
 ·(unfold st11o_7; clear hSw; go_simp)
 simp only [st11o_7, Act.put, sA, sB, sC]
 refine wpAnyH_take (i := 8) (oi := st11o_8) (v := .agg ([.int .u64 p.x0, .int .u64 p.x1, .int .u64 p.x2, .int .u64 p.x3]).toArray) rfl (by kernel_rfl) (by kernel_rfl) (by kernel_rfl) (fun _ _ _ h => h) (yieldsIf_load_mid (by rfl) 39 _ rfl (M) (d * 4) rfl ([.int .u64 p.x0, .int .u64 p.x1, .int .u64 p.x2, .int .u64 p.x3]) _ (fun w0 hSw => hSw) UL.out rfl IL.out) hH0 ?_
 simp only [st11o_8, Act.put, sA, sB, sC]
 refine wpAnyH_ready (rs := [9]) (by kernel_rfl) (by simp) ?_
 refine AllReadyH.cons (o := st11o_9) rfl (fun K hK => ?_) AllReadyH.nil
 unfold st11o_9
 have HH := hidden hH0
 clear hH0
 go_simp
 refine (C9.out).mono ?_
 rintro e wn1 ⟨rfl, hm, hr⟩
 have RR := hidden (hr)
 have SN := hidden (hm)
 clear HH C9 hm hr
 go_wp2_with fail
 refine hK.out _ _ SN.out (fun hH1 => ?_)
 clear hK K SN
 have HH := hidden hH1
 have FQ := hidden (HQ.out _ RR.out)
 refine wpAnyH_done (by kernel_rfl) ?_ _
 refine NoPanic.normal ?_
 exact FQ.out
def st13o_0 : Oper := { dst := some 60, op := Op.move (Operand.tmp 0), type := 139, pos := "ways.go:74", after := #[], guard := none }
def st13o_1 : Oper := { dst := some 61, op := Op.move (Operand.tmp 7), type := 144, pos := "ways.go:74", after := #[], guard := none }
def st13o_2 : Oper := { dst := some 62, op := Op.move (Operand.tmp 13), type := 3, pos := "ways.go:74", after := #[], guard := none }
def st13o_3 : Oper := { dst := some 63, op := Op.indexAddr 144 (Operand.tmp 61) (Operand.tmp 62), type := 0, pos := "ways.go:74", after := #[{ on := 1, ground := Ground.data }, { on := 2, ground := Ground.data }], guard := none }
def st13o_4 : Oper := { dst := some 64, op := Op.move (Operand.tmp 12), type := 41, pos := "ways.go:74", after := #[], guard := none }
def st13o_5 : Oper := { dst := some 65, op := Op.move (Operand.tmp 14), type := 3, pos := "ways.go:74", after := #[], guard := none }
def st13o_6 : Oper := { dst := some 66, op := Op.unOp UnOp.neg 3 (Operand.tmp 65), type := 3, pos := "ways.go:74", after := #[{ on := 5, ground := Ground.data }], guard := none }
def st13o_7 : Oper := { dst := some 67, op := Op.binOp BinOp.sub 3 (Operand.tmp 66) (Operand.const (Value.int IntKind.i64 1)) 3, type := 3, pos := "ways.go:74", after := #[{ on := 6, ground := Ground.data }], guard := none }
def st13o_8 : Oper := { dst := some 68, op := Op.indexAddr 41 (Operand.tmp 64) (Operand.tmp 67), type := 0, pos := "ways.go:74", after := #[{ on := 4, ground := Ground.data }, { on := 7, ground := Ground.data }], guard := none }
def st13o_9 : Oper := { dst := some 69, op := Op.load 39 (Operand.tmp 68), type := 39, pos := "ways.go:74", after := #[{ on := 8, ground := Ground.data }], guard := none }
def st13o_10 : Oper := { dst := some 70, op := Op.makeInterface 39 (Operand.tmp 69), type := 20, pos := "ways.go:74", after := #[{ on := 9, ground := Ground.data }], guard := none }
def st13o_11 : Oper := { dst := some 71, op := Op.call { callee := Callee.invoke (Operand.tmp 70) "Neg", args := #[], argTypes := #[] }, type := 39, pos := "ways.go:74", after := #[{ on := 10, ground := Ground.data }], guard := none }
def st13o_12 : Oper := { dst := some 72, op := Op.call { callee := Callee.value (Operand.func 71), args := #[Operand.tmp 60, Operand.tmp 63, Operand.tmp 71], argTypes := #[139, 151, 39] }, type := 0, pos := "ways.go:74", after := #[{ on := 0, ground := Ground.data }, { on := 3, ground := Ground.data }, { on := 11, ground := Ground.data }, { on := 11, ground := Ground.chain }], guard := none }
def st13o : Array Oper := #[st13o_0, st13o_1, st13o_2, st13o_3, st13o_4, st13o_5, st13o_6, st13o_7, st13o_8, st13o_9, st13o_10, st13o_11, st13o_12]
theorem st13 (Q : Exit → Act → World → Prop) (H D K M T i d : Nat) (z : Int) (p : E4) (RW : World → Prop) (y : E4) (zn : Int) (u1 u2 u3 u4 u5 u6 u8 u9 u10 u11 u15 u16 u17 u18 u19 u20 u21 u22 u23 u24 u25 u26 u27 u28 u29 u30 u31 u32 u33 u34 u35 u36 u37 u38 u39 u40 u41 u42 u43 u44 u45 u46 u47 u48 u49 u50 u51 u52 u53 u54 u55 u56 u57 u58 u59 u60 u61 u62 u63 u64 u65 u66 u67 u68 u69 u70 u71 u72 u73 u74 u75 u76 u77 u78 : Value) (W : World)
  (cm : W.rangeAt M (d * 4) [.int .u64 p.x0, .int .u64 p.x1, .int .u64 p.x2, .int .u64 p.x3]) (i0 : (0 : Int) ≤ (i : Int)) (i1 : (i : Int) < (K : Int)) (d0 : (0 : Int) ≤ (d : Int)) (d1 : (d : Int) < (T : Int)) (wz0 : IntKind.i64.wrap (-z) = zn) (wz1 : IntKind.i64.wrap (zn - 1) = (d : Int)) (mt : ∀ w, (method 362 39 (.agg #[.int .u64 p.x0, .int .u64 p.x1, .int .u64 p.x2, .int .u64 p.x3]) "Neg").run Tryz.prog w = .ok (131, .agg #[.int .u64 p.x0, .int .u64 p.x1, .int .u64 p.x2, .int .u64 p.x3]) w)
  (C11 : Hid (Calls Tryz.prog 131 #[.agg #[.int .u64 p.x0, .int .u64 p.x1, .int .u64 p.x2, .int .u64 p.x3]] W.drew fun e w' => e = .returned (.agg #[.int .u64 y.x0, .int .u64 y.x1, .int .u64 y.x2, .int .u64 y.x3]) ∧ Below W.drew.heap.size W.drew w'))
  (C12 : Hid (∀ (x : World), Below W.drew.heap.size W.drew x → Calls Tryz.prog 71 #[.pointer (some ⟨H, 0, none⟩), .pointer (some ⟨D, i * 5, none⟩), .agg #[.int .u64 y.x0, .int .u64 y.x1, .int .u64 y.x2, .int .u64 y.x3]] x fun e w' => e = .returned (.tuple #[]) ∧ w'.rangeAt M (d * 4) [.int .u64 p.x0, .int .u64 p.x1, .int .u64 p.x2, .int .u64 p.x3] ∧ RW w'))
  (HQ : Hid (∀ (wz : World), RW wz → Q .normal ⟨#[.pointer (some ⟨H, 0, none⟩), u1, u2, u3, u4, u5, u6, .slice (some ⟨D, 0, none⟩) K K, u8, u9, u10, u11, .slice (some ⟨M, 0, none⟩) T T, .int .i64 (i : Int), .int .i64 z, u15, u16, u17, u18, u19, u20, u21, u22, u23, u24, u25, u26, u27, u28, u29, u30, u31, u32, u33, u34, u35, u36, u37, u38, u39, u40, u41, u42, u43, u44, u45, u46, u47, u48, u49, u50, u51, u52, u53, u54, u55, u56, u57, u58, u59, .pointer (some ⟨H, 0, none⟩), .slice (some ⟨D, 0, none⟩) K K, .int .i64 (i : Int), .pointer (some ⟨D, i * 5, none⟩), .slice (some ⟨M, 0, none⟩) T T, .int .i64 z, .int .i64 zn, .int .i64 (d : Int), .pointer (some ⟨M, d * 4, none⟩), .agg #[.int .u64 p.x0, .int .u64 p.x1, .int .u64 p.x2, .int .u64 p.x3], .iface 39 (.agg #[.int .u64 p.x0, .int .u64 p.x1, .int .u64 p.x2, .int .u64 p.x3]), .agg #[.int .u64 y.x0, .int .u64 y.x1, .int .u64 y.x2, .int .u64 y.x3], .tuple #[], u73, u74, u75, u76, u77, u78], []⟩ wz)) : (Code.region 13 st13o true).wp Tryz.prog Q ⟨#[.pointer (some ⟨H, 0, none⟩), u1, u2, u3, u4, u5, u6, .slice (some ⟨D, 0, none⟩) K K, u8, u9, u10, u11, .slice (some ⟨M, 0, none⟩) T T, .int .i64 (i : Int), .int .i64 z, u15, u16, u17, u18, u19, u20, u21, u22, u23, u24, u25, u26, u27, u28, u29, u30, u31, u32, u33, u34, u35, u36, u37, u38, u39, u40, u41, u42, u43, u44, u45, u46, u47, u48, u49, u50, u51, u52, u53, u54, u55, u56, u57, u58, u59, u60, u61, u62, u63, u64, u65, u66, u67, u68, u69, u70, u71, u72, u73, u74, u75, u76, u77, u78], []⟩ W := by
 have UL : Hid (Tryz.prog.underlying 39 = some _) := hidden Tryz.underlying39
 have IL : Hid ((Tryz.prog.info? 39).map (·.size) = some ([.int .u64 p.x0, .int .u64 p.x1, .int .u64 p.x2, .int .u64 p.x3] : List Value).length) := hidden (by kernel_rfl)
 unfold st13o
 refine wp_region_noPanic ?_
 refine wp_region_held_drew (S := fun x => x.rangeAt M (d * 4) [.int .u64 p.x0, .int .u64 p.x1, .int .u64 p.x2, .int .u64 p.x3]) (by kernel_rfl) (range_bl cm (bl_drew W)) (fun hH0 => ?_)
 refine tk 0 st13o_0 (.pointer (some ⟨H, 0, none⟩)) rfl (by kernel_rfl) hH0 rfl (fun w0 hSw => ?_) ?_
 ·(unfold st13o_0; clear hSw; go_simp)
 simp only [st13o_0, Act.put, sA, sB, sC]
 refine tk 1 st13o_1 (.slice (some ⟨D, 0, none⟩) K K) rfl (by kernel_rfl) hH0 rfl (fun w0 hSw => ?_) ?_
 ·(unfold st13o_1; clear hSw; go_simp)
 simp only [st13o_1, Act.put, sA, sB, sC]
 refine tk 2 st13o_2 (.int .i64 (i : Int)) rfl (by kernel_rfl) hH0 rfl (fun w0 hSw => ?_) ?_
 ·(unfold st13o_2; clear hSw; go_simp)
 simp only [st13o_2, Act.put, sA, sB, sC]
 refine tk 4 st13o_4 (.slice (some ⟨M, 0, none⟩) T T) rfl (by kernel_rfl) hH0 rfl (fun w0 hSw => ?_) ?_
 ·(unfold st13o_4; clear hSw; go_simp)
 simp only [st13o_4, Act.put, sA, sB, sC]
 refine tk 5 st13o_5 (.int .i64 z) rfl (by kernel_rfl) hH0 rfl (fun w0 hSw => ?_) ?_
 ·(unfold st13o_5; clear hSw; go_simp)
 simp only [st13o_5, Act.put, sA, sB, sC]
 refine tk 3 st13o_3 (.pointer (some ⟨D, i * 5, none⟩)) rfl (by kernel_rfl) hH0 rfl (fun w0 hSw => ?_) ?_
 ·(unfold st13o_3; clear hSw; go_simp)
 simp only [st13o_3, Act.put, sA, sB, sC]
 refine tk 6 st13o_6 (.int .i64 zn) rfl (by kernel_rfl) hH0 rfl (fun w0 hSw => ?_) ?_
 ·(unfold st13o_6; clear hSw; go_simp)
 simp only [st13o_6, Act.put, sA, sB, sC]
 refine tk 7 st13o_7 (.int .i64 (d : Int)) rfl (by kernel_rfl) hH0 rfl (fun w0 hSw => ?_) ?_
 ·(unfold st13o_7; clear hSw; go_simp)
 simp only [st13o_7, Act.put, sA, sB, sC]
 refine tk 8 st13o_8 (.pointer (some ⟨M, d * 4, none⟩)) rfl (by kernel_rfl) hH0 rfl (fun w0 hSw => ?_) ?_
 ·(unfold st13o_8; clear hSw; go_simp)
 simp only [st13o_8, Act.put, sA, sB, sC]
 refine wpAnyH_take (i := 9) (oi := st13o_9) (v := .agg ([.int .u64 p.x0, .int .u64 p.x1, .int .u64 p.x2, .int .u64 p.x3]).toArray) rfl (by kernel_rfl) (by kernel_rfl) (by kernel_rfl) (fun _ _ _ h => h) (yieldsIf_load_mid (by rfl) 39 _ rfl (M) (d * 4) rfl ([.int .u64 p.x0, .int .u64 p.x1, .int .u64 p.x2, .int .u64 p.x3]) _ (fun w0 hSw => hSw) UL.out rfl IL.out) hH0 ?_
 simp only [st13o_9, Act.put, sA, sB, sC]
 refine tk 10 st13o_10 (.iface 39 (.agg #[.int .u64 p.x0, .int .u64 p.x1, .int .u64 p.x2, .int .u64 p.x3])) rfl (by kernel_rfl) hH0 rfl (fun w0 hSw => ?_) ?_
 ·(unfold st13o_10; clear hSw; go_simp)
 simp only [st13o_10, Act.put, sA, sB, sC]
 refine wpAnyH_ready (rs := [11]) (by kernel_rfl) (by simp) ?_
 refine AllReadyH.cons (o := st13o_11) rfl (fun K hK => ?_) AllReadyH.nil
 unfold st13o_11
 have HH := hidden hH0
 clear hH0
 go_simp
 refine (C11.out).mono ?_
 rintro e wn1 ⟨rfl, hb⟩
 have BB := hidden (hb)
 have SN := hidden (range_bl HH.out hb)
 clear HH C11 hb
 go_wp2_with fail
 refine hK.out _ _ SN.out (fun hH1 => ?_)
 clear hK K SN
 refine wpAnyH_ready (rs := [12]) (by kernel_rfl) (by simp) ?_
 refine AllReadyH.cons (o := st13o_12) rfl (fun K hK => ?_) AllReadyH.nil
 unfold st13o_12
 have HH := hidden hH1
 clear hH1
 go_simp
 refine (C12.out _ BB.out).mono ?_
 rintro e wn2 ⟨rfl, hm, hr⟩
 have RR := hidden (hr)
 have SN := hidden (hm)
 clear HH C12 hm hr
 go_wp2_with fail
 refine hK.out _ _ SN.out (fun hH2 => ?_)
 clear hK K SN
 have HH := hidden hH2
 have FQ := hidden (HQ.out _ RR.out)
 refine wpAnyH_done (by kernel_rfl) ?_ _
 refine NoPanic.normal ?_
 exact FQ.out
def st6o_0 : Oper := { dst := some 31, op := Op.move (Operand.tmp 0), type := 139, pos := "ways.go:68", after := #[], guard := none }
def st6o_1 : Oper := { dst := some 32, op := Op.fieldAddr 106 (Operand.tmp 9) 1, type := 0, pos := "ways.go:68", after := #[], guard := none }
def st6o_2 : Oper := { dst := some 33, op := Op.load 39 (Operand.tmp 32), type := 39, pos := "ways.go:68", after := #[{ on := 1, ground := Ground.data }], guard := none }
def st6o_3 : Oper := { dst := some 34, op := Op.move (Operand.tmp 10), type := 145, pos := "ways.go:68", after := #[], guard := none }
def st6o_4 : Oper := { dst := some 35, op := Op.call { callee := Callee.value (Operand.func 70), args := #[Operand.tmp 34], argTypes := #[145] }, type := 3, pos := "ways.go:68", after := #[{ on := 3, ground := Ground.data }], guard := none }
def st6o_5 : Oper := { dst := some 36, op := Op.call { callee := Callee.value (Operand.func 69), args := #[Operand.tmp 31, Operand.tmp 33, Operand.tmp 35], argTypes := #[139, 39, 3] }, type := 41, pos := "ways.go:68", after := #[{ on := 0, ground := Ground.data }, { on := 2, ground := Ground.data }, { on := 4, ground := Ground.data }, { on := 4, ground := Ground.chain }], guard := none }
def st6o_6 : Oper := { dst := some 12, op := Op.assign (Operand.tmp 36), type := 41, pos := "ways.go:68", after := #[{ on := 5, ground := Ground.data }, { on := 5, ground := Ground.chain }, { on := 0, ground := Ground.phase }, { on := 1, ground := Ground.phase }, { on := 2, ground := Ground.phase }, { on := 3, ground := Ground.phase }, { on := 4, ground := Ground.phase }, { on := 5, ground := Ground.phase }], guard := none }
def st6o : Array Oper := #[st6o_0, st6o_1, st6o_2, st6o_3, st6o_4, st6o_5, st6o_6]
theorem st6 (Q : Exit → Act → World → Prop) (H T9 B K : Nat) (p : E4) (TP : Nat → Prop) (RW : Nat → Nat → World → Prop) (u1 u2 u3 u4 u5 u6 u7 u8 u11 u12 u13 u14 u15 u16 u17 u18 u19 u20 u21 u22 u23 u24 u25 u26 u27 u28 u29 u30 u31 u32 u33 u34 u35 u36 u37 u38 u39 u40 u41 u42 u43 u44 u45 u46 u47 u48 u49 u50 u51 u52 u53 u54 u55 u56 u57 u58 u59 u60 u61 u62 u63 u64 u65 u66 u67 u68 u69 u70 u71 u72 u73 u74 u75 u76 u77 u78 : Value) (W : World)
  (cm : W.rangeAt T9 4 [.int .u64 p.x0, .int .u64 p.x1, .int .u64 p.x2, .int .u64 p.x3])
  (C4 : Hid (Calls Tryz.prog 70 #[.slice (some ⟨B, 0, none⟩) K K] W.drew fun e w' => ∃ T : Nat, e = .returned (.int .i64 (T : Int)) ∧ TP T ∧ Below W.drew.heap.size W.drew w'))
  (C5 : Hid (∀ (x : World) (T : Nat), TP T → Below W.drew.heap.size W.drew x → Calls Tryz.prog 69 #[.pointer (some ⟨H, 0, none⟩), .agg #[.int .u64 p.x0, .int .u64 p.x1, .int .u64 p.x2, .int .u64 p.x3], .int .i64 (T : Int)] x fun e w' => ∃ M : Nat, e = .returned (.slice (some ⟨M, 0, none⟩) T T) ∧ w'.rangeAt T9 4 [.int .u64 p.x0, .int .u64 p.x1, .int .u64 p.x2, .int .u64 p.x3] ∧ RW T M w'))
  (HQ : Hid (∀ (T M : Nat) (wz : World), TP T → RW T M wz → Q .normal ⟨#[.pointer (some ⟨H, 0, none⟩), u1, u2, u3, u4, u5, u6, u7, u8, .pointer (some ⟨T9, 0, none⟩), .slice (some ⟨B, 0, none⟩) K K, u11, .slice (some ⟨M, 0, none⟩) T T, u13, u14, u15, u16, u17, u18, u19, u20, u21, u22, u23, u24, u25, u26, u27, u28, u29, u30, .pointer (some ⟨H, 0, none⟩), .pointer (some ⟨T9, 4, none⟩), .agg #[.int .u64 p.x0, .int .u64 p.x1, .int .u64 p.x2, .int .u64 p.x3], .slice (some ⟨B, 0, none⟩) K K, .int .i64 (T : Int), .slice (some ⟨M, 0, none⟩) T T, u37, u38, u39, u40, u41, u42, u43, u44, u45, u46, u47, u48, u49, u50, u51, u52, u53, u54, u55, u56, u57, u58, u59, u60, u61, u62, u63, u64, u65, u66, u67, u68, u69, u70, u71, u72, u73, u74, u75, u76, u77, u78], []⟩ wz)) : (Code.region 6 st6o true).wp Tryz.prog Q ⟨#[.pointer (some ⟨H, 0, none⟩), u1, u2, u3, u4, u5, u6, u7, u8, .pointer (some ⟨T9, 0, none⟩), .slice (some ⟨B, 0, none⟩) K K, u11, u12, u13, u14, u15, u16, u17, u18, u19, u20, u21, u22, u23, u24, u25, u26, u27, u28, u29, u30, u31, u32, u33, u34, u35, u36, u37, u38, u39, u40, u41, u42, u43, u44, u45, u46, u47, u48, u49, u50, u51, u52, u53, u54, u55, u56, u57, u58, u59, u60, u61, u62, u63, u64, u65, u66, u67, u68, u69, u70, u71, u72, u73, u74, u75, u76, u77, u78], []⟩ W := by
 have UL : Hid (Tryz.prog.underlying 39 = some _) := hidden Tryz.underlying39
 have IL : Hid ((Tryz.prog.info? 39).map (·.size) = some ([.int .u64 p.x0, .int .u64 p.x1, .int .u64 p.x2, .int .u64 p.x3] : List Value).length) := hidden (by kernel_rfl)
 unfold st6o
 refine wp_region_noPanic ?_
 refine wp_region_held_drew (S := fun x => x.rangeAt T9 4 [.int .u64 p.x0, .int .u64 p.x1, .int .u64 p.x2, .int .u64 p.x3]) (by kernel_rfl) (range_bl cm (bl_drew W)) (fun hH0 => ?_)
 refine tk 0 st6o_0 (.pointer (some ⟨H, 0, none⟩)) rfl (by kernel_rfl) hH0 rfl (fun w0 hSw => ?_) ?_
 ·(unfold st6o_0; clear hSw; go_simp)
 simp only [st6o_0, Act.put, sA, sB, sC]
 refine tk 1 st6o_1 (.pointer (some ⟨T9, 4, none⟩)) rfl (by kernel_rfl) hH0 rfl (fun w0 hSw => ?_) ?_
 ·(unfold st6o_1; clear hSw; go_simp)
 simp only [st6o_1, Act.put, sA, sB, sC]
 refine tk 3 st6o_3 (.slice (some ⟨B, 0, none⟩) K K) rfl (by kernel_rfl) hH0 rfl (fun w0 hSw => ?_) ?_
 ·(unfold st6o_3; clear hSw; go_simp)
 simp only [st6o_3, Act.put, sA, sB, sC]
 refine wpAnyH_take (i := 2) (oi := st6o_2) (v := .agg ([.int .u64 p.x0, .int .u64 p.x1, .int .u64 p.x2, .int .u64 p.x3]).toArray) rfl (by kernel_rfl) (by kernel_rfl) (by kernel_rfl) (fun _ _ _ h => h) (yieldsIf_load_mid (by rfl) 39 _ rfl (T9) (4) rfl ([.int .u64 p.x0, .int .u64 p.x1, .int .u64 p.x2, .int .u64 p.x3]) _ (fun w0 hSw => hSw) UL.out rfl IL.out) hH0 ?_
 simp only [st6o_2, Act.put, sA, sB, sC]
 refine wpAnyH_ready (rs := [4]) (by kernel_rfl) (by simp) ?_
 refine AllReadyH.cons (o := st6o_4) rfl (fun K hK => ?_) AllReadyH.nil
 unfold st6o_4
 have HH := hidden hH0
 clear hH0
 go_simp
 refine (C4.out).mono ?_
 rintro e wn1 ⟨T, rfl, ht, hb⟩
 have HT := hidden (ht)
 have B4 := hidden (hb)
 have SN := hidden (range_bl HH.out hb)
 clear HH C4 ht hb
 go_wp2_with fail
 refine hK.out _ _ SN.out (fun hH1 => ?_)
 clear hK K SN
 refine wpAnyH_ready (rs := [5]) (by kernel_rfl) (by simp) ?_
 refine AllReadyH.cons (o := st6o_5) rfl (fun K hK => ?_) AllReadyH.nil
 unfold st6o_5
 have HH := hidden hH1
 clear hH1
 go_simp
 refine (C5.out _ T HT.out B4.out).mono ?_
 rintro e wn2 ⟨M, rfl, hm, hr⟩
 have RR := hidden (hr)
 have SN := hidden (hm)
 clear HH C5 hm hr
 go_wp2_with fail
 refine hK.out _ _ SN.out (fun hH2 => ?_)
 clear hK K SN
 refine tk 6 st6o_6 (.slice (some ⟨M, 0, none⟩) T T) rfl (by kernel_rfl) hH2 rfl (fun w0 hSw => ?_) ?_
 ·(unfold st6o_6; clear hSw; go_simp)
 simp only [st6o_6, Act.put, sA, sB, sC]
 have HH := hidden hH2
 have FQ := hidden (HQ.out T M _ HT.out RR.out)
 refine wpAnyH_done (by kernel_rfl) ?_ _
 refine NoPanic.normal ?_
 exact FQ.out
end Go.Proofs.YtbbnjmjeeiglcaaGreatDoor.Li
namespace Go.Proofs.YtbbnjmjeeiglcaaGreatDoor
open Go.RowKit
def sw (g : Nat → Int) (w : Nat) : Nat → Int
 | 0 => 0
 | n + 1 => sw g w n + g n * 2 ^ (w * n)
theorem mod_more (N : Int) (hN : 0 ≤ N) (p m : Nat) : N % 2 ^ (p + m) = N % 2 ^ p + win N p m * 2 ^ p := by
 obtain ⟨n, rfl⟩ := Int.eq_ofNat_of_zero_le hN
 unfold win
 have e2 : (n : Int) % 2 ^ (p + m) = ((n % 2 ^ (p + m) : Nat) : Int) := by simp
 have e3 : (n : Int) % 2 ^ p = ((n % 2 ^ p : Nat) : Int) := by simp
 have e4 : (n : Int) / 2 ^ p % 2 ^ m = ((n / 2 ^ p % 2 ^ m : Nat) : Int) := by simp
 rw [e2, e3, e4, Nat.pow_add, Nat.mod_mul, Int.natCast_add, Int.natCast_mul, Int.mul_comm]
 simp
theorem dg_eq (N : Int) (m i : Nat) : dg N m i = win N (m * i) m + dgc N m i - dgc N m (i + 1) * 2 ^ m := by
 unfold dg
 rw [dgc]
 split <;> omega
theorem dg_sum (N : Int) (hN : 0 ≤ N) (m i : Nat) : sw (dg N m) m i + dgc N m i * 2 ^ (m * i) = N % 2 ^ (m * i) := by
 induction i with
 | zero => simp [sw, dgc, Int.emod_one]
 | succ i ih =>
  rw [sw, dg_eq, show m * (i + 1) = m * i + m by rw [Nat.mul_succ], mod_more N hN, ← ih, Int.pow_add]
  generalize (2 : Int) ^ (m * i) = P
  generalize (2 : Int) ^ m = M
  generalize dgc N m (i + 1) = c'
  generalize dgc N m i = c
  generalize win N (m * i) m = W
  generalize sw (dg N m) m i = s
  rw [Int.sub_mul, Int.add_mul, show c' * (P * M) = c' * M * P by rw [Int.mul_comm P, Int.mul_assoc]]
  omega
theorem pow_le (a b : Nat) (h : a ≤ b) : (2 : Int) ^ a ≤ 2 ^ b := by
 rw [p2mul a b h]
 have h1 := Int.mul_le_mul_of_nonneg_left (c := 2 ^ a) (show (1 : Int) ≤ 2 ^ (b - a) by have := p2pos (b - a); omega) (by have := p2pos a; omega)
 rw [Int.mul_one] at h1
 exact h1
theorem win_top_bd (N : Int) (hN : 0 ≤ N) (h : N < 2 ^ 253) (p m : Nat) (hp : p ≤ 253) (hm : 254 ≤ p + m) : win N p m < 2 ^ (m - 1) := by
 have hq : N / 2 ^ p < 2 ^ (253 - p) := by
  apply Int.ediv_lt_of_lt_mul (p2pos p)
  rw [Int.mul_comm, ← p2mul p 253 hp]
  exact h
 have hl := pow_le (253 - p) (m - 1) (by omega)
 have h0 : 0 ≤ N / 2 ^ p := Int.ediv_nonneg hN (by have := p2pos p; omega)
 unfold win
 have := Int.emod_lt_of_pos (N / 2 ^ p) (p2pos m)
 have h2 : N / 2 ^ p % 2 ^ m ≤ N / 2 ^ p := by
  have e := Int.emod_add_mul_ediv (N / 2 ^ p) (2 ^ m)
  have : 0 ≤ 2 ^ m * (N / 2 ^ p / 2 ^ m) := Int.mul_nonneg (by have := p2pos m; omega) (Int.ediv_nonneg h0 (by have := p2pos m; omega))
  omega
 omega
theorem dg_all (N : Int) (hN : 0 ≤ N) (h : N < 2 ^ 253) (m : Nat) (hm : 1 ≤ m) : sw (dg N m) m (253 / m + 1) = N := by
 have hd := Nat.div_add_mod 253 m
 have hr := Nat.mod_lt 253 (show 0 < m by omega)
 have e := dg_sum N hN m (253 / m + 1)
 have hz : dgc N m (253 / m + 1) = 0 := by
  rw [dgc]
  have h1 := win_top_bd N hN h (m * (253 / m)) m (by omega) (by omega)
  have h2 := dgc_bd N m (253 / m)
  rw [if_neg (by omega)]
 have hl : N < 2 ^ (m * (253 / m + 1)) := by
  have := pow_le 253 (m * (253 / m + 1)) (by rw [Nat.mul_succ]; omega)
  omega
 rw [hz, Int.zero_mul, Int.add_zero, Int.emod_eq_of_lt hN hl] at e
 exact e
theorem dg_range (N : Int) (m i : Nat) (hm : 1 ≤ m) : -(2 ^ (m - 1)) < dg N m i ∧ dg N m i ≤ 2 ^ (m - 1) := by
 have hb := win_bd N (m * i) m
 have hc := dgc_bd N m i
 have hM : (2 : Int) ^ m = 2 * 2 ^ (m - 1) := p2mul 1 m hm
 have hp := p2pos (m - 1)
 unfold dg
 split <;> omega
theorem lst_253 (n : Int) : 0 ≤ (lst n).n ∧ (lst n).n < 2 ^ 253 := by
 have h := mod_bd n
 rw [lst_n]
 have : Sm.L < 2 ^ 253 := by decide
 omega
def tot (f : Nat → Int) : Nat → Int
 | 0 => 0
 | n + 1 => tot f n + f n
theorem Rwi.gb {w w' : World} {b n H : Nat} {f : Nat → Int} (h : Rwi w b n f) (hg : w.grownBy w' (some H)) (hn : b ≠ H) : Rwi w' b n f :=
 ⟨fun j hj => hg.cell (h.c j hj) (fun e => hn (Option.some.inj e)), fun j hj => (gb_frozen_some hg (by rw [h.c j hj]; rfl) hn).trans (h.fr j hj), Nat.lt_of_lt_of_le h.lt hg.size⟩
end Go.Proofs.YtbbnjmjeeiglcaaGreatDoor
namespace Go.Proofs.YtbbnjmjeeiglcaaGreatDoor.Li
open Go.RowKit
structure Tm (w : World) (L lo N : Nat) (ks : Nat → E4) (fs : Nat → Nat → Int) : Prop where
 c : ∀ i, i < N → w.rangeAt L (lo + i * 8) [.int .u64 (ks i).x0, .int .u64 (ks i).x1, .int .u64 (ks i).x2, .int .u64 (ks i).x3]
 ok : ∀ i, i < N → (ks i).ok
 p : ∀ i, i < N → ∃ z : E4, w.rangeAt L (lo + i * 8 + 4) [.int .u64 z.x0, .int .u64 z.x1, .int .u64 z.x2, .int .u64 z.x3] ∧ z.ok ∧ ∀ t, lst z.n = lst (fs i t)
theorem no64R {w w' : World} {H b o : Nat} {z : E4} (h : w.rangeAt b o [.int .u64 z.x0, .int .u64 z.x1, .int .u64 z.x2, .int .u64 z.x3]) (hH : Hd w H) (hg : w.grownBy w' (some H)) : w'.rangeAt b o [.int .u64 z.x0, .int .u64 z.x1, .int .u64 z.x2, .int .u64 z.x3] := by
 refine range_gb h hg (fun e => ?_)
 subst e
 exact hH.no64 (h 0 _ rfl)
theorem Tm.hand {w w' : World} {L lo N H : Nat} {ks : Nat → E4} {fs : Nat → Nat → Int} (h : Tm w L lo N ks fs) (hH : Hd w H) (hg : w.grownBy w' (some H)) : Tm w' L lo N ks fs := by
 refine ⟨fun i hi => no64R (h.c i hi) hH hg, h.ok, fun i hi => ?_⟩
 obtain ⟨z, h1, h2⟩ := h.p i hi
 exact ⟨z, no64R h1 hH hg, h2⟩
theorem Tm.keep {w w' : World} {L lo N : Nat} {ks : Nat → E4} {fs : Nat → Nat → Int} (h : Tm w L lo N ks fs) (hb : Below w.heap.size w w') : Tm w' L lo N ks fs := by
 refine ⟨fun i hi => range_bl (h.c i hi) hb, h.ok, fun i hi => ?_⟩
 obtain ⟨z, h1, h2⟩ := h.p i hi
 exact ⟨z, range_bl h1 hb, h2⟩
def Sd (w1 w' : World) (H D K M T B m : Nat) (d : Nat → Int) (f : Nat → Int) (x : Nat → Nat → Int) (i : Nat) : Prop := (∃ s, Pl w' D K s (fun q t => x q t + if q < i then d q * f t else 0)) ∧ Hd w' H ∧ Tb w' ∧ w1.grownBy w' (some H) ∧ Ml w' M T T f ∧ Rwi w' B K d
theorem Sd.step {w1 w' w2 : World} {H D K M T B m i : Nat} {d f g : Nat → Int} {x : Nat → Nat → Int} {s s' : Nat → Bool} (h : Sd w1 w' H D K M T B m d f x i) (hD : w1.heap.size ≤ D) (hDH : D ≠ H) (hMD : M ≠ D) (hMH : M ≠ H) (hBD : B ≠ D) (hBH : B ≠ H) (htb : 0 ≠ D) (hP0 : Pl w' D K s (fun q t => x q t + if q < i then d q * f t else 0)) (hP : Pl w2 D K s' (fun j => if j = i then (fun t => (x i t + if i < i then d i * f t else 0) + g t) else (fun t => x j t + if j < i then d j * f t else 0))) (hg : ∀ t, lst (g t) = lst (d i * f t)) (hH : Hd w2 H) (hm : ∃ wm, w'.grownBy wm (some H) ∧ Hd wm H ∧ wm.grownBy w2 (some D)) : Sd w1 w2 H D K M T B m d f x (i + 1) := by
 obtain ⟨-, h2, h3, h4, h5, h6⟩ := h
 obtain ⟨wm, g1, hm1, g2⟩ := hm
 have tb : 0 ≠ H := h2.tb h3
 refine ⟨⟨s', hP.congr (fun j hj t => ?_)⟩, hH, (h3.keep0 g1 tb).keep0 g2 htb, ?_, (h5.gb g1 hMH).gb g2 hMD, (h6.gb g1 hBH).gb g2 hBD⟩
 ·by_cases e : j = i
  ·subst e
   simp only [if_pos, Nat.lt_irrefl, if_false, if_pos (Nat.lt_succ_self j), Int.add_zero]
   exact lst_two rfl (hg t)
  ·simp only [if_neg e]
   by_cases e2 : j < i
   ·rw [if_pos e2, if_pos (show j < i + 1 by omega)]
   ·rw [if_neg e2, if_neg (show ¬ j < i + 1 by omega)]
 ·have a := h4.trans g1
  exact ⟨g2.os.trans a.os, g2.tape.trans a.tape, g2.output.trans a.output, Nat.le_trans a.size g2.size, fun k hk hn => (g2.block k (Nat.lt_of_lt_of_le hk a.size) (fun e => by have := Option.some.inj e; omega)).trans (a.block k hk hn)⟩
theorem Sd.idle {w1 w' : World} {H D K M T B m i : Nat} {d f : Nat → Int} {x : Nat → Nat → Int} (h : Sd w1 w' H D K M T B m d f x i) (hd : d i = 0) : Sd w1 w' H D K M T B m d f x (i + 1) := by
 obtain ⟨⟨s, h1⟩, h2⟩ := h
 refine ⟨⟨s, h1.congr (fun j hj t => ?_)⟩, h2⟩
 by_cases e : j = i
 ·subst e; rw [if_neg (Nat.lt_irrefl j), if_pos (Nat.lt_succ_self j), hd, Int.zero_mul]
 ·by_cases e2 : j < i
  ·rw [if_pos e2, if_pos (show j < i + 1 by omega)]
  ·rw [if_neg e2, if_neg (show ¬ j < i + 1 by omega)]
end Go.Proofs.YtbbnjmjeeiglcaaGreatDoor.Li
namespace Go.Proofs.YtbbnjmjeeiglcaaGreatDoor
open Go.RowKit
theorem tot_congr {f g : Nat → Int} (n : Nat) (h : ∀ i, i < n → f i = g i) : tot f n = tot g n := by
 induction n with
 | zero => rfl
 | succ n ih => rw [tot, tot, ih (fun i hi => h i (by omega)), h n (by omega)]
theorem tot_mul (c : Int) (f : Nat → Int) (n : Nat) : c * tot f n = tot (fun q => c * f q) n := by
 induction n with
 | zero => rw [tot, tot, Int.mul_zero]
 | succ n ih => rw [tot, tot, Int.mul_add, ih]
theorem tot_add (f g : Nat → Int) (n : Nat) : tot (fun q => f q + g q) n = tot f n + tot g n := by
 induction n with
 | zero => rw [tot, tot, tot, Int.add_zero]
 | succ n ih => rw [tot, tot, tot, ih]; omega
theorem tot_comm (a : Nat → Nat → Int) (K N : Nat) : tot (fun i => tot (fun q => a i q) N) K = tot (fun q => tot (fun i => a i q) K) N := by
 induction K with
 | zero =>
  rw [tot]
  induction N with
  | zero => rfl
  | succ N ih => rw [tot, ← ih, tot]; rfl
 | succ K ih =>
  rw [tot, ih, ← tot_add]
  rfl
theorem sw_tot (g : Nat → Int) (m K : Nat) (y : Int) : tot (fun i => 2 ^ (m * i) * (g i * y)) K = sw g m K * y := by
 induction K with
 | zero => rw [tot, sw, Int.zero_mul]
 | succ K ih => rw [tot, sw, ih, Int.add_mul, ← Int.mul_assoc, Int.mul_comm (2 ^ (m * K)) (g K)]
theorem lst_tot {f g : Nat → Int} (n : Nat) (h : ∀ i, i < n → lst (f i) = lst (g i)) : lst (tot f n) = lst (tot g n) := by
 induction n with
 | zero => rfl
 | succ n ih => rw [tot, tot]; exact lst_two (ih (fun i hi => h i (by omega))) (h n (by omega))
theorem straus_sum (m N : Nat) (hm : 1 ≤ m) (ks : Nat → E4) (fs : Nat → Nat → Int) (t : Nat) :
  lst (tot (fun i => 2 ^ (m * i) * tot (fun q => dg (lst (ks q).n).n m i * fs q t) N) (253 / m + 1)) = lst (tot (fun q => (ks q).n * fs q t) N) := by
 have e : tot (fun i => 2 ^ (m * i) * tot (fun q => dg (lst (ks q).n).n m i * fs q t) N) (253 / m + 1) = tot (fun q => (lst (ks q).n).n * fs q t) N := by
  rw [tot_congr (g := fun i => tot (fun q => 2 ^ (m * i) * (dg (lst (ks q).n).n m i * fs q t)) N) _ (fun i _ => tot_mul _ _ _), tot_comm]
  refine tot_congr _ (fun q _ => ?_)
  rw [sw_tot, dg_all _ (lst_253 _).1 (lst_253 _).2 m hm]
 rw [e]
 exact lst_tot _ (fun q _ => lst_mul _ _)
end Go.Proofs.YtbbnjmjeeiglcaaGreatDoor
namespace Go.Proofs.YtbbnjmjeeiglcaaGreatDoor.Li
open Go.RowKit
theorem pinfo3 : (Tryz.prog.info? 153).map (fun i => (i.zero, i.size, i.bytes)) = some (some (.agg #[.int .u64 0, .int .u64 0, .int .u64 0, .int .u64 0, .bool false]), 5, 40) := by kernel_rfl
def Hp (w w' : World) (H : Nat) (e : Ending) (x : Nat → Int) : Prop := ∃ r : E4, e = .returned (.agg #[.int .u64 r.x0, .int .u64 r.x1, .int .u64 r.x2, .int .u64 r.x3]) ∧ (r.ok ∧ ∀ t, lst r.n = lst (x t)) ∧ Hd w' H ∧ w.grownBy w' (some H)
def St2 (w1 w' : World) (H D K m : Nat) (ks : Nat → E4) (fs : Nat → Nat → Int) (j : Nat) : Prop := (∃ s, Pl w' D K s (fun i t => tot (fun q => dg (lst (ks q).n).n m i * fs q t) j)) ∧ Hd w' H ∧ Tb w' ∧ w1.grownBy w' (some H)
theorem straus_any (H m N L lo cap : Nat) (ks : Nat → E4) (fs : Nat → Nat → Int) (w : World) (hm1 : 1 ≤ m) (hm : m ≤ 8) (hN : N ≤ 8192) (hT : Tb w) (hH : Hd w H) (hTm : Tm w L lo N ks fs)
  (hJ : ∀ (x : World) (D : Nat) (s : Nat → Bool) (xx : Nat → Nat → Int), Tb x → Hd x H → Pl x D (253 / m + 1) s xx → D ≠ H → Calls Tryz.prog 72 #[.pointer (some ⟨H, 0, none⟩), .int .i64 (m : Int), .slice (some ⟨D, 0, none⟩) (253 / m + 1) (253 / m + 1)] x fun e w' => Hp x w' H e (fun t => tot (fun i => 2 ^ (m * i) * xx i t) (253 / m + 1))) :
  Calls Tryz.prog 66 #[.pointer (some ⟨H, 0, none⟩), .int .i64 (m : Int), .slice (some ⟨L, lo, none⟩) N cap] w fun e w' => Hp w w' H e (fun t => tot (fun i => 2 ^ (m * i) * tot (fun q => dg (lst (ks q).n).n m i * fs q t) N) (253 / m + 1)) := by
 have k1 : 253 / m + 1 ≤ 254 := by have := Nat.div_le_self 253 m; omega
 have PC := hidden (places_any m hm1 (by omega))
 obtain ⟨K, hK⟩ : ∃ K, 253 / m + 1 = K := ⟨_, rfl⟩
 rw [hK] at hJ PC k1 ⊢
 have nn0 : (0 : Int) ≤ (K : Int) := by omega
 obtain ⟨i0, hi, hz0, hz1, hz2⟩ := info_parts pinfo3
 have hmk := fun w => run_make (P := Tryz.prog) w 144 153 i0 (.agg #[.int .u64 0, .int .u64 0, .int .u64 0, .int .u64 0, .bool false]) (by kernel_rfl) hi hz0 .i64 .i64 (K : Int) (K : Int) (by omega) (Int.le_refl _) (by rw [hz2]; omega) (by omega)
 have tn : ((K : Int)).toNat = K := by omega
 simp only [tn, hz1, Value.cells] at hmk
 clear tn hi hz0 hz1 hz2
 have LH := hidden hH.lt
 have B1 := bl_alloc w (.cells #[.int .u64 0, .int .u64 0, .int .u64 0, .int .u64 0] 39)
 have e6 : (w.alloc (.cells #[.int .u64 0, .int .u64 0, .int .u64 0, .int .u64 0] 39)).rangeAt w.heap.size 0 [.int .u64 0, .int .u64 0, .int .u64 0, .int .u64 0] := range_newM w [.int .u64 0, .int .u64 0, .int .u64 0, .int .u64 0] 39
 have f6 : ∀ j, j < 4 → (w.alloc (.cells #[.int .u64 0, .int .u64 0, .int .u64 0, .int .u64 0] 39)).frozen? ⟨w.heap.size, j, none⟩ = false := fun j _ => by go_simp
 have S1 : (w.alloc (.cells #[.int .u64 0, .int .u64 0, .int .u64 0, .int .u64 0] 39)).heap.size = w.heap.size + 1 := by simp only [World.size_alloc]
 have H1 := hH.keep B1
 have T1 := hT.keep B1
 have M1 := hTm.keep B1
 obtain ⟨w1, hw1⟩ : ∃ w1, w.alloc (.cells #[.int .u64 0, .int .u64 0, .int .u64 0, .int .u64 0] 39) = w1 := ⟨_, rfl⟩
 rw [hw1] at B1 e6 S1 H1 T1 M1
 simp only [hw1] at f6
 have W1 : Hid (w1.rangeAt w.heap.size 0 [.int .u64 0, .int .u64 0, .int .u64 0, .int .u64 0] ∧ (∀ j, j < 4 → w1.frozen? ⟨w.heap.size, j, none⟩ = false) ∧ w1.heap.size = w.heap.size + 1 ∧ Hd w1 H ∧ Tb w1 ∧ Tm w1 L lo N ks fs ∧ Below w.heap.size w w1) := hidden ⟨e6, f6, S1, H1, T1, M1, B1⟩
 have ZJ := hidden hJ
 have HN : Hid (1 ≤ m ∧ m ≤ 8 ∧ N ≤ 8192 ∧ K ≤ 254 ∧ 253 / m + 1 = K) := hidden ⟨hm1, hm, hN, k1, hK⟩
 clear e6 f6 S1 H1 T1 M1 B1 hT hH hTm hJ hm1 hm hN k1 hK
 go_enter Tryz.func66, Tryz.ntmps66
 go_upto_region 1 with fail
 go_upto_region 2 with (first | (go_at_call 64; refine (PC.out _).mono ?_; rintro e wa ⟨rfl, ha⟩; have BA := hidden ha; clear ha PC))
 clear hmk hw1
 have ST : Hid (St2 w1 (wa.alloc (.cells (madeCells #[.int .u64 0, .int .u64 0, .int .u64 0, .int .u64 0, .bool false] (K * 5)) 153)) H wa.heap.size K m ks fs 0) := hidden (by
  have b := bl_trans BA.out (bl_alloc wa (.cells (madeCells #[.int .u64 0, .int .u64 0, .int .u64 0, .int .u64 0, .bool false] (K * 5)) 153))
  exact ⟨⟨_, Pl.made wa K 153⟩, W1.out.2.2.2.1.keep b, W1.out.2.2.2.2.1.keep b, gbI b _⟩)
 have HD : Hid (w1.heap.size ≤ wa.heap.size) := hidden BA.out.size
 generalize wa.alloc (.cells (madeCells #[.int .u64 0, .int .u64 0, .int .u64 0, .int .u64 0, .bool false] (K * 5)) 153) = w2 at *
 generalize wa.heap.size = D at *
 clear BA
 go_wp2_with fail
 go_loopw [20] (fun jv w' => ∃ j : Nat, j ≤ N ∧ jv = .int .i64 j ∧ Hid (St2 w1 w' H D K m ks fs j)) (fun j _ => N - (intOf j).toNat)
 case atStart => exact ⟨0, by omega, rfl, ST⟩
 case round =>
  clear ST
  obtain ⟨j, hj, rfl, ST⟩ := hrel
  by_cases hjn : j < N
  ·have jj0 : (0 : Int) ≤ (j : Int) := by omega
   have jj1 : (j : Int) < (N : Int) := by omega
   have w9 : IntKind.i64.wrap ((j : Int) + 1) = (j : Int) + 1 := IntWalk.i64_in _ (by have := HN.out; omega)
   have HJN := hidden hjn
   have TM := W1.out.2.2.2.2.2.1.hand W1.out.2.2.2.1 ST.out.2.2.2
   have xr := TM.c j hjn
   have x0 : wr.cell? ⟨L, lo + j * 8, none⟩ = some (.int .u64 (ks j).x0) := xr 0 _ rfl
   have x1 : wr.cell? ⟨L, lo + j * 8 + 1, none⟩ = some (.int .u64 (ks j).x1) := xr 1 _ rfl
   have x2 : wr.cell? ⟨L, lo + j * 8 + 2, none⟩ = some (.int .u64 (ks j).x2) := xr 2 _ rfl
   have x3 : wr.cell? ⟨L, lo + j * 8 + 3, none⟩ = some (.int .u64 (ks j).x3) := xr 3 _ rfl
   clear xr
   obtain ⟨p, x4, xf⟩ := TM.p j hjn
   have y0 : wr.cell? ⟨L, lo + j * 8 + 4, none⟩ = some (.int .u64 p.x0) := x4 0 _ rfl
   have y1 : wr.cell? ⟨L, lo + j * 8 + 5, none⟩ = some (.int .u64 p.x1) := x4 1 _ rfl
   have y2 : wr.cell? ⟨L, lo + j * 8 + 6, none⟩ = some (.int .u64 p.x2) := x4 2 _ rfl
   have y3 : wr.cell? ⟨L, lo + j * 8 + 7, none⟩ = some (.int .u64 p.x3) := x4 3 _ rfl
   have xo := TM.ok j hjn
   clear TM
   obtain ⟨z, hz⟩ : ∃ z, ks j = z := ⟨_, rfl⟩
   rw [hz] at x0 x1 x2 x3 xo
   have HZ := hidden hz
   obtain ⟨f, hf⟩ : ∃ f, fs j = f := ⟨_, rfl⟩
   rw [hf] at xf
   have HF := hidden hf
   have DI := hidden (fun x T => Digits_in z m x T xo HN.out.1 (by have := HN.out; omega))
   simp only [HN.out.2.2.2.2, E4.v] at DI
   obtain ⟨d, hd⟩ : ∃ d, dg (lst z.n).n m = d := ⟨_, rfl⟩
   rw [hd] at DI
   have DR : Hid (∀ q, -(2 ^ (m - 1)) ≤ d q ∧ d q ≤ 2 ^ (m - 1)) := hidden (fun q => by rw [← hd]; have := dg_range (lst z.n).n m q HN.out.1; omega)
   have HDD := hidden hd
   have B2 := bl_alloc wr (.cells #[.int .u64 z.x0, .int .u64 z.x1, .int .u64 z.x2, .int .u64 z.x3, .int .u64 p.x0, .int .u64 p.x1, .int .u64 p.x2, .int .u64 p.x3] 106)
   have T2 := hidden (ST.out.2.2.1.keep B2)
   have c4 : (wr.alloc (.cells #[.int .u64 z.x0, .int .u64 z.x1, .int .u64 z.x2, .int .u64 z.x3, .int .u64 p.x0, .int .u64 p.x1, .int .u64 p.x2, .int .u64 p.x3] 106)).rangeAt wr.heap.size 4 [.int .u64 p.x0, .int .u64 p.x1, .int .u64 p.x2, .int .u64 p.x3] := range4 (by go_simp) (by go_simp) (by go_simp) (by go_simp)
   have C4 := hidden c4
   have XF := hidden xf
   have HB2 := hidden B2
   clear hz hf hd xo c4 B2 xf hjn hj
   go_upto_region 6 with (first | (go_at_call 68; refine (DI.out _ T2.out).mono ?_; rintro e wb ⟨B, rfl, hB, hR, hb⟩; have RB := hidden hR; have GB := hidden hB; have BB := hidden hb; clear hR hB hb DI))
   generalize (wr.alloc (.cells #[.int .u64 z.x0, .int .u64 z.x1, .int .u64 z.x2, .int .u64 z.x3, .int .u64 p.x0, .int .u64 p.x1, .int .u64 p.x2, .int .u64 p.x3] 106)) = wr2 at *
   clear x0 x1 x2 x3 x4 y0 y1 y2 y3
   have B3 := hidden (bl_trans HB2.out BB.out)
   have NB : Hid (H < wr.heap.size ∧ D < wr.heap.size ∧ D ≠ H ∧ w1.heap.size ≤ D ∧ wr.heap.size ≤ wr2.heap.size ∧ wr2.heap.size ≤ B ∧ 0 < w1.heap.size) := hidden (by
    obtain ⟨⟨s, hP⟩, hH, -⟩ := ST.out
    have h1 := LH.out; have h2 := W1.out.2.2.1; have h3 := HD.out
    have h4 := World.block_lt_of_cell? w1 _ W1.out.2.2.2.2.1.1
    exact ⟨hH.lt, hP.lt, by omega, h3, HB2.out.size, GB.out, h4⟩)
   have P2 : Hid ((2 : Int) ^ (m - 1) ≤ 128 ∧ (0 : Int) ≤ 2 ^ (m - 1)) := hidden (by
    have h1 := pow_le (m - 1) 7 (by have := HN.out; omega)
    have h2 := pow_le 0 (m - 1) (by omega)
    simp at h1 h2
    omega)
   obtain ⟨X, hX⟩ : ∃ X, (fun (i t : Nat) => tot (fun q => dg (lst (ks q).n).n m i * fs q t) j) = X := ⟨_, rfl⟩
   have HX := hidden hX
   refine st6 _ H wr.heap.size B K p (fun T => (T : Int) ≤ 128 ∧ ∀ q, q < K → -(T : Int) ≤ d q ∧ d q ≤ (T : Int)) (fun T M w' => Sd w1 w' H D K M T B m d f X 0 ∧ M ≠ D ∧ M ≠ H) _ _ _ _ _ _ _ _ _ _ _ _ _ _ _ _ _ _ _ _ _ _ _ _ _ _ _ _ _ _ _ _ _ _ _ _ _ _ _ _ _ _ _ _ _ _ _ _ _ _ _ _ _ _ _ _ _ _ _ _ _ _ _ _ _ _ _ _ _ _ _ _ _ _ _ _ wb (range_bl C4.out BB.out) (hidden ?_) (hidden ?_) (hidden ?_)
   ·refine (greatest_any B K d (2 ^ (m - 1)) (fun q _ => DR.out q) P2.out.2 (by have := P2.out; omega) (by have := HN.out; omega) wb.drew RB.out.drew).mono ?_
    rintro e w' ⟨t, rfl, h0, h1, h2, hb⟩
    refine ⟨t.toNat, by rw [Int.toNat_of_nonneg h0], ⟨by have := P2.out; omega, fun q hq => ?_⟩, hb⟩
    have := h2 q hq
    omega
   ·intro x T hTT hx
    have B4 := bl_trans (bl_trans B3.out (bl_drew wb)) hx
    obtain ⟨⟨s, hP⟩, hH, hT, hg⟩ := ST.out
    have hPx := hP.keep B4
    have hHx := hH.keep B4
    have hTx := hT.keep B4
    refine (multiples_any H T p f x hTx hHx XF.out (by have := hTT.1; omega)).mono ?_
    rintro e w' ⟨M, rfl, hM0, hM, hHm, hgm⟩
    have nb := NB.out
    have sx := B4.size
    have sz3 := B3.out.size
    refine ⟨M, rfl, range_gb (range_bl (range_bl C4.out BB.out) (bl_trans (bl_drew wb) hx)) hgm (show wr.heap.size ≠ H by omega), ⟨⟨s, (hPx.hand hgm nb.2.2.1).congr (fun i hi t => ?_)⟩, hHm, hTx.keep0 hgm (hHx.tb hTx), (hg.trans (gbI B4 _)).trans hgm, hM, (RB.out.keep (bl_trans (bl_drew wb) hx)).gb hgm (by omega)⟩, by omega, by omega⟩
    rw [← HX.out, if_neg (Nat.not_lt_zero i), Int.add_zero]
   ·intro T M wz hTT hRW
    have SD := hidden hRW.1
    have NM := hidden hRW.2
    have HTT := hidden hTT
    clear hTT hRW hX B3 BB RB C4 HB2 T2 XF
    go_wp2_with fail
    go_loopw [39] (fun iv w' => ∃ i : Nat, i ≤ K ∧ iv = .int .i64 i ∧ Hid (Sd w1 w' H D K M T B m d f X i)) (fun i _ => K - (intOf i).toNat)
    case atStart => exact ⟨0, by omega, rfl, SD⟩
    case round =>
     clear SD
     obtain ⟨i, hi, rfl, SD⟩ := hrel
     by_cases hik : i < K
     ·have ii0 : (0 : Int) ≤ (i : Int) := by omega
      have ii1 : (i : Int) < (K : Int) := by omega
      have w8 : IntKind.i64.wrap ((i : Int) + 1) = (i : Int) + 1 := IntWalk.i64_in _ (by have := HN.out; omega)
      have c0 := SD.out.2.2.2.2.2.c i hik
      have bd := HTT.out.2 i hik
      obtain ⟨y, hy⟩ : ∃ y, d i = y := ⟨_, rfl⟩
      rw [hy] at c0 bd
      have HY := hidden hy
      have HIK := hidden hik
      have t128 := HTT.out.1
      clear hy hi
      by_cases hy0 : y = 0
      ·subst hy0
       have SN := hidden (SD.out.idle HY.out)
       clear SD bd t128
       go_wp2_with fail
       go_roundw
       case rel => exact ⟨i + 1, by have := HIK.out; omega, by go_num, SN⟩
       case measure => have := HIK.out; simp [intOf]; omega
      ·by_cases hyp : 0 < y
       ·obtain ⟨g, hg⟩ : ∃ g : Nat, y = (g : Int) + 1 := ⟨(y - 1).toNat, by omega⟩
        obtain ⟨gm, RM, hgm0⟩ := SD.out.2.2.2.2.1
        have m0 := Rm.range RM (show g < T by omega)
        have m1 := hgm0 g (by omega)
        clear RM hgm0
        generalize gm g = p1 at m0 m1
        have wy : IntKind.i64.wrap (y - 1) = (g : Int) := by rw [show y - 1 = (g : Int) by omega]; exact IntWalk.i64_in _ (by omega)
        have g1 : (g : Int) < (T : Int) := by omega
        have M1 := hidden m1
        have HG := hidden hg
        clear m1 hg bd t128
        go_upto_region 11 with fail
        refine st11 _ H D K M T i g y p1 (fun w' => Sd w1 w' H D K M T B m d f X (i + 1)) _ _ _ _ _ _ _ _ _ _ _ _ _ _ _ _ _ _ _ _ _ _ _ _ _ _ _ _ _ _ _ _ _ _ _ _ _ _ _ _ _ _ _ _ _ _ _ _ _ _ _ _ _ _ _ _ _ _ _ _ _ _ _ _ _ _ _ _ _ _ _ _ _ _ wr m0 ii0 ii1 (by omega) g1 wy (hidden ?_) (hidden ?_)
        ·obtain ⟨⟨s, hP⟩, hH, hT, hgr, hM, hR⟩ := SD.out
         have bb := bl_drew wr
         have SDd : Sd w1 wr.drew H D K M T B m d f X i := ⟨⟨s, hP.keep bb⟩, hH.keep bb, hT.keep bb, hgr.trans (gbI bb _), hM.keep bb, hR.keep bb⟩
         refine (lay_pl H D K i _ s _ _ wr.drew (hT.keep bb) (hH.keep bb) M1.out (hP.keep bb) HIK.out NB.out.2.2.1).mono ?_
         rintro e w' ⟨rfl, hP2, hH2, hex⟩
         refine ⟨rfl, ?_, SDd.step (by have := NB.out; omega) NB.out.2.2.1 NM.out.1 NM.out.2 (by have := NB.out; omega) (by have := NB.out; omega) (by have := NB.out; omega) (hP.keep bb) hP2 (fun t => by rw [HY.out, HG.out]) hH2 hex⟩
         obtain ⟨wm, q1, -, q2⟩ := hex
         exact range_gb (range_gb (range_bl m0 bb) q1 NM.out.2) q2 NM.out.1
        ·intro wz2 hS
         have SN := hidden hS
         clear hS SD m0 M1
         go_wp2_with fail
         go_roundw
         case rel => exact ⟨i + 1, by have := HIK.out; omega, by go_num, SN⟩
         case measure => have := HIK.out; simp [intOf]; omega
       ·have hyn : y < 0 := by omega
        have hyq : ¬ y > 0 := by omega
        obtain ⟨g, hg⟩ : ∃ g : Nat, -y = (g : Int) + 1 := ⟨(-y - 1).toNat, by omega⟩
        obtain ⟨gm, RM, hgm0⟩ := SD.out.2.2.2.2.1
        have m0 := Rm.range RM (show g < T by omega)
        have m1 := hgm0 g (by omega)
        clear RM hgm0
        generalize gm g = p1 at m0 m1
        have wy0 : IntKind.i64.wrap (-y) = -y := IntWalk.i64_in _ (by omega)
        have wy : IntKind.i64.wrap (-y - 1) = (g : Int) := by rw [show -y - 1 = (g : Int) by omega]; exact IntWalk.i64_in _ (by omega)
        have g1 : (g : Int) < (T : Int) := by omega
        have M1 := hidden m1
        have HG := hidden hg
        clear m1 hg bd t128
        go_upto_region 13 with fail
        refine st13 _ H D K M T i g y p1 (fun w' => Sd w1 w' H D K M T B m d f X (i + 1)) (lst (-p1.n)) (-y) _ _ _ _ _ _ _ _ _ _ _ _ _ _ _ _ _ _ _ _ _ _ _ _ _ _ _ _ _ _ _ _ _ _ _ _ _ _ _ _ _ _ _ _ _ _ _ _ _ _ _ _ _ _ _ _ _ _ _ _ _ _ _ _ _ _ _ _ _ _ _ _ _ _ wr m0 ii0 ii1 (by omega) g1 wy0 wy (mt_Neg p1) (hidden ?_) (hidden ?_) (hidden ?_)
        ·exact lNeg_any p1 M1.out.1 wr.drew (SD.out.2.2.1.keep (bl_drew wr))
        ·intro x hb
         have hF : (lst (-p1.n)).ok ∧ ∀ t, lst (lst (-p1.n)).n = lst (-(((g : Int) + 1) * f t)) := ⟨lst_ok _, fun t => by rw [lst_n']; exact lst_oneN (M1.out.2 t)⟩
         obtain ⟨⟨s, hP⟩, hH, hT, hgr, hM, hR⟩ := SD.out
         have bb := bl_trans (bl_drew wr) hb
         have SDd : Sd w1 x H D K M T B m d f X i := ⟨⟨s, hP.keep bb⟩, hH.keep bb, hT.keep bb, hgr.trans (gbI bb _), hM.keep bb, hR.keep bb⟩
         refine (lay_pl H D K i _ s _ _ x (hT.keep bb) (hH.keep bb) hF (hP.keep bb) HIK.out NB.out.2.2.1).mono ?_
         rintro e w' ⟨rfl, hP2, hH2, hex⟩
         refine ⟨rfl, ?_, SDd.step (by have := NB.out; omega) NB.out.2.2.1 NM.out.1 NM.out.2 (by have := NB.out; omega) (by have := NB.out; omega) (by have := NB.out; omega) (hP.keep bb) hP2 (fun t => by rw [HY.out, show y = -((g : Int) + 1) by have := HG.out; omega, Int.neg_mul]) hH2 hex⟩
         obtain ⟨wm, q1, -, q2⟩ := hex
         exact range_gb (range_gb (range_bl m0 bb) q1 NM.out.2) q2 NM.out.1
        ·intro wz2 hS
         have SN := hidden hS
         clear hS SD m0 M1
         go_wp2_with fail
         go_roundw
         case rel => exact ⟨i + 1, by have := HIK.out; omega, by go_num, SN⟩
         case measure => have := HIK.out; simp [intOf]; omega
     ·have hik : K = i := by omega
      subst hik
      have lq : ¬ (K : Int) < (K : Int) := by omega
      have SN : Hid (St2 w1 _ H D K m ks fs (j + 1)) := hidden (by
       obtain ⟨⟨s, hP⟩, hH, hT, hg, -⟩ := SD.out
       exact ⟨⟨s, hP.congr (fun q hq t => by rw [if_pos hq, ← HX.out, ← HDD.out, ← HZ.out, ← HF.out]; rfl)⟩, hH, hT, hg⟩)
      clear SD
      go_wp2_with fail
      go_roundw
      case rel => exact ⟨j + 1, by have := HJN.out; omega, by go_num, SN⟩
      case measure => have := HJN.out; simp [intOf]; omega
  ·have hjn : N = j := by omega
   subst hjn
   have lq : ¬ (N : Int) < (N : Int) := by omega
   obtain ⟨⟨s, hP⟩, hH, hT, hg⟩ := ST.out
   have neDH : D ≠ H := by have := LH.out; have := HD.out; have := W1.out.2.2.1; omega
   have CJ := hidden (ZJ.out wr D s _ hT hH hP neDH)
   have nH : w.heap.size ≠ H := by have := LH.out; omega
   have q6 := range_gb W1.out.1 hg nH
   have q7 : ∀ j, j < 4 → wr.frozen? ⟨w.heap.size, j, none⟩ = false := fun j hj => by
    have c : (w1.cell? ⟨w.heap.size, j, none⟩).isSome = true := by
     match j, hj with
     | 0, _ => rw [show (⟨w.heap.size, 0, none⟩ : Addr) = ⟨w.heap.size, 0 + 0, none⟩ from rfl, W1.out.1 0 _ rfl]; rfl
     | 1, _ => rw [show (⟨w.heap.size, 1, none⟩ : Addr) = ⟨w.heap.size, 0 + 1, none⟩ from rfl, W1.out.1 1 _ rfl]; rfl
     | 2, _ => rw [show (⟨w.heap.size, 2, none⟩ : Addr) = ⟨w.heap.size, 0 + 2, none⟩ from rfl, W1.out.1 2 _ rfl]; rfl
     | 3, _ => rw [show (⟨w.heap.size, 3, none⟩ : Addr) = ⟨w.heap.size, 0 + 3, none⟩ from rfl, W1.out.1 3 _ rfl]; rfl
    exact (gb_frozen_some hg c nH).trans (W1.out.2.1 j hj)
   have GW := hidden ((gbI W1.out.2.2.2.2.2.2 (some H)).trans hg)
   have Q7 := hidden (And.intro q6 q7)
   have HH := hidden hH
   clear hP hH hT hg ST q6 q7
   go_wp2_with (first | (go_at_call 72; refine CJ.out.mono ?_; rintro e wb ⟨r, rfl, hr, hHb, hgb⟩; have q0 : wb.cell? ⟨w.heap.size, 0, none⟩ = _ := range_gb Q7.out.1 hgb nH 0 _ rfl; have q1 : wb.cell? ⟨w.heap.size, 1, none⟩ = _ := range_gb Q7.out.1 hgb nH 1 _ rfl; have q2 : wb.cell? ⟨w.heap.size, 2, none⟩ = _ := range_gb Q7.out.1 hgb nH 2 _ rfl; have q3 : wb.cell? ⟨w.heap.size, 3, none⟩ = _ := range_gb Q7.out.1 hgb nH 3 _ rfl; have g0 := (gb_frozen_some hgb (by rw [show wr.cell? ⟨w.heap.size, 0, none⟩ = _ from Q7.out.1 0 _ rfl]; rfl) nH).trans (Q7.out.2 0 (by omega)); have g1 := (gb_frozen_some hgb (by rw [show wr.cell? ⟨w.heap.size, 1, none⟩ = _ from Q7.out.1 1 _ rfl]; rfl) nH).trans (Q7.out.2 1 (by omega)); have g2 := (gb_frozen_some hgb (by rw [show wr.cell? ⟨w.heap.size, 2, none⟩ = _ from Q7.out.1 2 _ rfl]; rfl) nH).trans (Q7.out.2 2 (by omega)); have g3 := (gb_frozen_some hgb (by rw [show wr.cell? ⟨w.heap.size, 3, none⟩ = _ from Q7.out.1 3 _ rfl]; rfl) nH).trans (Q7.out.2 3 (by omega)); have FA := hidden hr; have HB := hidden hHb; have GB := hidden hgb; clear hr hHb hgb CJ))
   refine bodyPost_ret (v := .agg #[.int .u64 r.x0, .int .u64 r.x1, .int .u64 r.x2, .int .u64 r.x3]) (by simp [results, Tryz.results66, go_sem, q0, q1, q2, q3]) rfl ⟨r, rfl, FA.out, (((HB.out.far nH).far nH).far nH).far nH, gb_box (gb_box (gb_box (gb_box (GW.out.trans GB.out) (Nat.le_refl _)) (Nat.le_refl _)) (Nat.le_refl _)) (Nat.le_refl _)⟩
end Go.Proofs.YtbbnjmjeeiglcaaGreatDoor.Li
namespace Go.Proofs.YtbbnjmjeeiglcaaGreatDoor
open Go.RowKit Go.Shelf
attribute [local go_sem] Oper.semAt_some
def KD (D Bs : Nat) (W W' : World) : Prop := (∀ o, W'.cell? ⟨D, o, none⟩ = W.cell? ⟨D, o, none⟩) ∧ W'.cell? ⟨Bs, 0, none⟩ = W.cell? ⟨Bs, 0, none⟩
theorem KD.trans {D Bs : Nat} {A B C : World} (h1 : KD D Bs A B) (h2 : KD D Bs B C) : KD D Bs A C := ⟨fun o => (h2.1 o).trans (h1.1 o), h2.2.trans h1.2⟩
def down (K k : Nat) : List Nat := (List.range k).map (fun q => K - 1 - q)
theorem down_succ (K k : Nat) : down K (k + 1) = down K k ++ [K - 1 - k] := by simp [down, List.range_succ]
theorem down_length (K k : Nat) : (down K k).length = k := by simp [down]
open Go.RowKit Go.Shelf
def ac (m : Nat) (xx : Nat → Nat → Int) (l : List Nat) (t : Nat) : Int := l.foldl (fun a x => 2 ^ m * a + xx x t) 0
theorem ac_snoc (m : Nat) (xx : Nat → Nat → Int) (l : List Nat) (x t : Nat) : ac m xx (l ++ [x]) t = 2 ^ m * ac m xx l t + xx x t := by simp [ac]
theorem tot_first (f : Nat → Int) (n : Nat) : tot f (n + 1) = f 0 + tot (fun i => f (i + 1)) n := by
 induction n with
 | zero => simp [tot]
 | succ n ih => rw [tot, ih, tot]; omega
theorem ac_down (m K : Nat) (xx : Nat → Nat → Int) (t : Nat) : ∀ k, k ≤ K → ac m xx (down K k) t = tot (fun i => 2 ^ (m * i) * xx (K - k + i) t) k := by
 intro k
 induction k with
 | zero => intro _; simp [down, ac, tot]
 | succ k ih =>
  intro hk
  rw [down_succ, ac_snoc, ih (by omega), tot_first, tot_mul]
  have e : K - (k + 1) + 0 = K - 1 - k := by omega
  rw [e, Nat.mul_zero, Int.pow_zero, Int.one_mul, Int.add_comm]
  congr 1
  refine tot_congr _ (fun i hi => ?_)
  rw [← Int.mul_assoc, ← Int.pow_add, show m + m * i = m * (i + 1) by rw [Nat.mul_add, Nat.mul_one, Nat.add_comm], show K - (k + 1) + (i + 1) = K - k + i by omega]
theorem ac_all (m K : Nat) (xx : Nat → Nat → Int) (t : Nat) : ac m xx (down K K) t = tot (fun i => 2 ^ (m * i) * xx i t) K := by
 rw [ac_down m K xx t K (Nat.le_refl _)]
 refine tot_congr _ (fun i _ => ?_)
 rw [Nat.sub_self, Nat.zero_add]
theorem KD.putObj {D Bs n : Nat} (hD : D < n) (hB : Bs < n) (W : World) (l : Nat) (o o' : Obj) (hl : n ≤ l) : KD D Bs W (W.putObj l o') := by
 have g := grownBy_putObj' W l o'
 have k : ∀ a : Addr, a.block < n → (W.putObj l o').cell? a = W.cell? a := fun a ha => by
  by_cases h : a.block < W.heap.size
  ·exact World.cell?_of_block (g.block a.block h (fun e => by have := Option.some.inj e; omega))
  ·have h1 : W.heap[a.block]? = none := Array.getElem?_eq_none (by omega)
   have h2 : (W.putObj l o').heap[a.block]? = none := by
    refine Array.getElem?_eq_none ?_
    simp [World.putObj]
    omega
   exact World.cell?_of_block (h2.trans h1.symm)
 exact ⟨fun o => k _ hD, k _ hB⟩
theorem KD.gb {D Bs H : Nat} {W wa : World} (hg : W.grownBy wa (some H)) (hD : D < W.heap.size) (hB : Bs < W.heap.size) (h1 : D ≠ H) (h2 : Bs ≠ H) : KD D Bs W wa := ⟨fun o => World.cell?_of_block (hg.block D hD (fun e => h1 (Option.some.inj e))), World.cell?_of_block (hg.block Bs hB (fun e => h2 (Option.some.inj e)))⟩
theorem KD.set {D Bs q o : Nat} {W : World} {v : Value} (h1 : q ≠ D) (h2 : q ≠ Bs) : KD D Bs W (W.setCell ⟨q, o, none⟩ v) := ⟨fun _ => World.cell?_setCell_far _ _ _ _ h1, World.cell?_setCell_far _ _ _ _ h2⟩
end Go.Proofs.YtbbnjmjeeiglcaaGreatDoor
namespace Go.Proofs.YtbbnjmjeeiglcaaGreatDoor.Li
open Go.RowKit Go.Shelf
attribute [local go_sem] Oper.semAt_some
theorem back1_in (F : Fence) (n : Nat) (hf : F.fn 104) (hro : F.round = none) (hn : 1 ≤ n) (l Bs D K : Nat) (hK : K ≤ 300) (zf : Nat → E4) (s : Nat → Bool) (J Jx : List Nat → World → Prop)
  (hY : ∀ pre (x : Nat) W, x < K → J pre W → pre.length < K → YieldAt F (n - 1) Tryz.prog l #[.int .i64 (x : Int), .agg #[.int .u64 (zf x).x0, .int .u64 (zf x).x1, .int .u64 (zf x).x2, .int .u64 (zf x).x3, .bool (s x)]] W fun e W' =>
   (e = .returned (.bool true) ∧ J (pre ++ [x]) W' ∧ KD D Bs W W') ∨ (e = .returned (.bool false) ∧ Jx (pre ++ [x]) W'))
  (W : World) (hBs : W.cell? ⟨Bs, 0, none⟩ = some (.slice (some ⟨D, 0, none⟩) K K)) (hc : ∀ x, x < K → W.rangeAt D (x * 5) [.int .u64 (zf x).x0, .int .u64 (zf x).x1, .int .u64 (zf x).x2, .int .u64 (zf x).x3] ∧ W.cell? ⟨D, x * 5 + 4, none⟩ = some (.bool (s x))) (h0 : J [] W) :
  CallsIn F n Tryz.prog 104 #[.func (.yield l) #[] #[], .pointer (some ⟨Bs, 0, none⟩)] W fun e W' => (∃ v, e = .returned v) ∧ ((∃ ys, ys = down K K ∧ J ys W') ∨ (∃ pre, True ∧ Jx pre W')) := by
 refine callsIn_of_wp Tryz.func104 rfl hf ?_ hro
 simp only [Tryz.ntmps104, List.size_toArray, List.length_cons, List.length_nil, Nat.reduceAdd, Nat.reduceSub, Array.replicate_succ, Array.replicate_zero, List.push_toArray, List.append_toArray, List.nil_append, List.cons_append]
 have w0 : IntKind.i64.wrap ((K : Int) - 1) = (K : Int) - 1 := IntWalk.i64_in _ (by omega)
 gi_wp2
 gi_loopw [3] (fun i wr => ∃ k : Nat, k ≤ K ∧ i = .int .i64 ((K : Int) - 1 - k) ∧ J (down K k) wr ∧ KD D Bs W wr)
  (fun i _ => (intOf i + 1).toNat)
 case atStart => exact ⟨0, Nat.zero_le _, by simp, h0, fun _ => rfl, rfl⟩
 case round =>
  obtain ⟨k, hk, rfl, hJs, hnx⟩ := hrel
  by_cases hlt : k < K
  ·obtain ⟨x, hx⟩ : ∃ x : Nat, K - 1 - k = x := ⟨_, rfl⟩
   have hxK : x < K := by omega
   have hxi : (K : Int) - 1 - k = (x : Int) := by omega
   rw [hxi]
   have cb := hnx.2.trans hBs
   have c0 := (hnx.1 (x * 5)).trans ((hc x hxK).1 0 _ rfl)
   have c1 := (hnx.1 (x * 5 + 1)).trans ((hc x hxK).1 1 _ rfl)
   have c2 := (hnx.1 (x * 5 + 2)).trans ((hc x hxK).1 2 _ rfl)
   have c3 := (hnx.1 (x * 5 + 3)).trans ((hc x hxK).1 3 _ rfl)
   have c4 := (hnx.1 (x * 5 + 4)).trans (hc x hxK).2
   have x0 : (0 : Int) ≤ (x : Int) := by omega
   have x1 : (x : Int) < (K : Int) := by omega
   have wx : IntKind.i64.wrap ((x : Int) - 1) = (x : Int) - 1 := IntWalk.i64_in _ (by omega)
   obtain ⟨fn, tmps, assign, body, hy, hR⟩ := hY _ x wr hxK hJs (by rw [down_length]; exact hlt)
   gi_wp2
   refine hR.mono ?_
   rintro e W3 (⟨rfl, hJ3, hk3⟩ | ⟨rfl, hJx3⟩)
   ·gi_wp2
    go_roundw
    case rel => exact ⟨k + 1, by omega, by simp; omega, by rw [down_succ, hx]; exact hJ3, hnx.trans hk3⟩
    case measure => (simp [intOf] <;> omega)
   ·gi_wp2
    refine bodyPost_ret (results_none rfl _ _ _) rfl ?_
    exact ⟨⟨_, rfl⟩, .inr ⟨_, trivial, hJx3⟩⟩
  ·obtain rfl : k = K := by omega
   have q0 : ¬ (0 : Int) ≤ (k : Int) - 1 - (k : Int) := by omega
   have q1 : (k : Int) - 1 - (k : Int) = -1 := by omega
   gi_wp2
   go_end0
   first | exact ⟨⟨_, rfl⟩, .inl ⟨_, rfl, hJs⟩⟩ | exact ⟨⟨_, rfl⟩, .inl hJs⟩
theorem back_stops (F : Fence) (n : Nat) (hf : F.fn 104) (hro : F.round = none) (hn : 1 ≤ n) (Bs D K : Nat) (hK : K ≤ 300) (zf : Nat → E4) (s : Nat → Bool) (w : World) (hBs : w.cell? ⟨Bs, 0, none⟩ = some (.slice (some ⟨D, 0, none⟩) K K)) (hc : ∀ x, x < K → w.rangeAt D (x * 5) [.int .u64 (zf x).x0, .int .u64 (zf x).x1, .int .u64 (zf x).x2, .int .u64 (zf x).x3] ∧ w.cell? ⟨D, x * 5 + 4, none⟩ = some (.bool (s x))) :
  SeqStopsK (α := {x : Nat // x < K}) F n Tryz.prog 104 #[.pointer (some ⟨Bs, 0, none⟩)] (fun y => #[.int .i64 (y.1 : Int), .agg #[.int .u64 (zf y.1).x0, .int .u64 (zf y.1).x1, .int .u64 (zf y.1).x2, .int .u64 (zf y.1).x3, .bool (s y.1)]]) (KD D Bs) (fun xs => xs.map (·.1) = down K K) (fun _ => True) K w := by
 intro l J Jx W hW hJ hJx hY h0
 refine (back1_in F n hf hro hn l Bs D K hK zf s (fun pre W => ∃ q : List {x : Nat // x < K}, q.map (·.1) = pre ∧ J q W) (fun pre W => ∃ q : List {x : Nat // x < K}, q.map (·.1) = pre ∧ Jx q W) ?_ W (cell_keep hBs hW) (fun x hx => ⟨range_bl (hc x hx).1 hW, cell_keep (hc x hx).2 hW⟩) ⟨[], rfl, h0⟩).mono ?_
 ·rintro pre x W1 hx ⟨q, rfl, hq⟩ hl
  refine (hY q ⟨x, hx⟩ W1 hq (by simpa using hl)).mono ?_
  rintro e W' (⟨rfl, h1, h2⟩ | ⟨rfl, h1⟩)
  ·exact .inl ⟨rfl, ⟨_, by simp, h1⟩, h2⟩
  ·exact .inr ⟨rfl, _, by simp, h1⟩
 ·rintro e W' ⟨h1, (⟨ys, h2, q, h3, h4⟩ | ⟨pre, -, q, h3, h4⟩)⟩
  ·exact ⟨h1, .inl ⟨q, h3.trans h2, h4⟩⟩
  ·exact ⟨h1, .inr ⟨q, trivial, h4⟩⟩
structure Jn (w W : World) (H m : Nat) (b : Bool) (y : Nat → Int) : Prop where
 t3 : W.cell? ⟨w.heap.size, 0, none⟩ = some (.pointer (some ⟨H, 0, none⟩))
 t4 : W.cell? ⟨w.heap.size + 1, 0, none⟩ = some (.int .i64 (m : Int))
 t6 : W.rangeAt (w.heap.size + 1 + 1) 0 [.int .u64 0, .int .u64 0, .int .u64 0, .int .u64 0]
 f6 : ∀ j, j < 4 → W.frozen? ⟨w.heap.size + 1 + 1, j, none⟩ = false
 t7 : ∃ z : E4, W.rangeAt (w.heap.size + 1 + 1 + 1) 0 [.int .u64 z.x0, .int .u64 z.x1, .int .u64 z.x2, .int .u64 z.x3] ∧ z.ok ∧ ∀ t, lst z.n = lst (y t)
 f7 : ∀ j, j < 4 → W.frozen? ⟨w.heap.size + 1 + 1 + 1, j, none⟩ = false
 t8 : W.cell? ⟨w.heap.size + 1 + 1 + 1 + 1, 0, none⟩ = some (.bool b)
 f8 : W.frozen? ⟨w.heap.size + 1 + 1 + 1 + 1, 0, none⟩ = false
 hd : Hd W H
 tb : Tb W
 gr : w.grownBy W (some H)
 lt : H < w.heap.size
theorem some4 {W : World} {b j : Nat} {v0 v1 v2 v3 : Value} (h : W.rangeAt b 0 [v0, v1, v2, v3]) (hj : j < 4) : (W.cell? ⟨b, j, none⟩).isSome = true := by
 match j, hj with
 | 0, _ => rw [show W.cell? ⟨b, 0, none⟩ = _ from h 0 _ rfl]; rfl
 | 1, _ => rw [show W.cell? ⟨b, 1, none⟩ = _ from h 1 _ rfl]; rfl
 | 2, _ => rw [show W.cell? ⟨b, 2, none⟩ = _ from h 2 _ rfl]; rfl
 | 3, _ => rw [show W.cell? ⟨b, 3, none⟩ = _ from h 3 _ rfl]; rfl
theorem Jn.own {w W W' : World} {H m : Nat} {b : Bool} {y : Nat → Int} {row : Option Nat} (h : Jn w W H m b y) (hg : W.grownBy W' row) (hr : ∀ r, row = some r → w.heap.size ≤ r ∧ ∃ o : Obj, W.heap[r]? = some o ∧ o.isCells = false) : Jn w W' H m b y := by
 have hr2 : ∀ r, row = some r → ∃ o : Obj, W.heap[r]? = some o ∧ o.isCells = false := fun r e => (hr r e).2
 have k : ∀ (a : Addr) (v : Value), W.cell? a = some v → W'.cell? a = some v := fun a v hv => cell_kept hv hg hr2
 have fk : ∀ (a : Addr) (v : Value), W.cell? a = some v → W'.frozen? a = W.frozen? a := fun a v hv => frozen_kept hv hg hr2
 have rk : ∀ {b o : Nat} {cs : List Value}, W.rangeAt b o cs → W'.rangeAt b o cs := fun hh j v hv => k _ _ (hh j v hv)
 have fs : ∀ {b j : Nat}, (W.cell? ⟨b, j, none⟩).isSome = true → W'.frozen? ⟨b, j, none⟩ = W.frozen? ⟨b, j, none⟩ := fun hh => by
  obtain ⟨v, hv⟩ := Option.isSome_iff_exists.1 hh
  exact fk _ _ hv
 obtain ⟨z, h7, h7f⟩ := h.t7
 have hb : ∀ k, k < w.heap.size → some k ≠ row := fun k hk e => by have := (hr k e.symm).1; omega
 refine ⟨k _ _ h.t3, k _ _ h.t4, rk h.t6, fun j hj => (fs (some4 h.t6 hj)).trans (h.f6 j hj), ⟨z, rk h7, h7f⟩, fun j hj => (fs (some4 h7 hj)).trans (h.f7 j hj), k _ _ h.t8, (fk _ _ h.t8).trans h.f8, ?_, ?_, ?_, h.lt⟩
 ·obtain ⟨x, z, a0, a1, b0, b1, a2⟩ := h.hd
  have hB := hg.block H h.hd.lt (hb H h.lt)
  exact ⟨x, z, k _ _ a0, k _ _ a1, (fk _ _ a0).trans b0, (fk _ _ a1).trans b1, fun o ho => (World.cell?_of_block hB).trans (a2 o ho)⟩
 ·obtain ⟨a0, a1, a2, a3, a4, a5, a6, a7, a8, a9, a10, a11⟩ := h.tb
  exact ⟨k _ _ a0, k _ _ a1, k _ _ a2, k _ _ a3, k _ _ a4, k _ _ a5, k _ _ a6, k _ _ a7, k _ _ a8, k _ _ a9, k _ _ a10, k _ _ a11⟩
 ·have a := h.gr
  exact ⟨hg.os.trans a.os, hg.tape.trans a.tape, hg.output.trans a.output, Nat.le_trans a.size hg.size, fun q hq hn => (hg.block q (Nat.lt_of_lt_of_le hq a.size) (hb q hq)).trans (a.block q hq hn)⟩
theorem Jn.hand {w W wa : World} {H m : Nat} {b : Bool} {y : Nat → Int} (h : Jn w W H m b y) (hg : W.grownBy wa (some H)) (hd : Hd wa H) (hHw : Hd w H) (hTw : Tb w) : Jn w wa H m b y := by
 have lH := h.lt
 have gr := h.gr.trans hg
 have rk : ∀ {q o : Nat} {cs : List Value}, W.rangeAt q o cs → q ≠ H → wa.rangeAt q o cs := fun hh hn => range_gb hh hg hn
 obtain ⟨z, h7, h7f⟩ := h.t7
 exact ⟨hg.cell h.t3 (fun e => absurd (Option.some.inj e) (show w.heap.size ≠ H by omega)), hg.cell h.t4 (fun e => absurd (Option.some.inj e) (show w.heap.size + 1 ≠ H by omega)), rk h.t6 (by omega), fun j hj => (gb_frozen_some hg (some4 h.t6 hj) (by omega)).trans (h.f6 j hj), ⟨z, rk h7 (by omega), h7f⟩, fun j hj => (gb_frozen_some hg (some4 h7 hj) (by omega)).trans (h.f7 j hj), hg.cell h.t8 (fun e => absurd (Option.some.inj e) (show w.heap.size + 1 + 1 + 1 + 1 ≠ H by omega)), (gb_frozen_some hg (by rw [h.t8]; rfl) (by omega)).trans h.f8, hd, hTw.keep0 gr (hHw.tb hTw), gr, lH⟩
theorem Jn.sum {w W : World} {H m : Nat} {b : Bool} {y y2 : Nat → Int} {r : E4} (h : Jn w W H m b y) (hr : r.ok ∧ ∀ t, lst r.n = lst (y2 t)) (hHw : Hd w H) (hTw : Tb w) : Jn w (setS W (w.heap.size + 1 + 1 + 1) 0 r) H m b y2 := by
 have lH := h.lt
 obtain ⟨z, h7, -⟩ := h.t7
 have nH : w.heap.size + 1 + 1 + 1 ≠ H := by omega
 have th : W.there (w.heap.size + 1 + 1 + 1) 0 4 := there4 h7 (fun j hj => by rw [Nat.zero_add]; exact h.f7 j hj)
 have o7 : ∀ (a : Addr) (v : Value), a.block ≠ w.heap.size + 1 + 1 + 1 → W.cell? a = some v → (setS W (w.heap.size + 1 + 1 + 1) 0 r).cell? a = some v := fun a v hq hv => by rw [setS_far0 _ _ _ _ _ hq]; exact hv
 have gr : w.grownBy (setS W (w.heap.size + 1 + 1 + 1) 0 r) (some H) := by unfold setS; exact gb_box (gb_box (gb_box (gb_box h.gr (by omega)) (by omega)) (by omega)) (by omega)
 refine ⟨o7 _ _ (by simp only; omega) h.t3, o7 _ _ (by simp only; omega) h.t4, fun j v hv => o7 _ _ (by simp only; omega) (h.t6 j v hv), fun j hj => by rw [setS_frozen]; exact h.f6 j hj, ⟨r, World.rangeAt_setCells_same W (w.heap.size + 1 + 1 + 1) 0 [.int .u64 r.x0, .int .u64 r.x1, .int .u64 r.x2, .int .u64 r.x3] th, hr⟩, fun j hj => by rw [setS_frozen]; exact h.f7 j hj, o7 _ _ (by simp only; omega) h.t8, by rw [setS_frozen]; exact h.f8, ?_, hTw.keep0 gr (hHw.tb hTw), gr, lH⟩
 unfold setS; exact (((h.hd.far nH).far nH).far nH).far nH
theorem Jn.mark {w W : World} {H m : Nat} {b : Bool} {y : Nat → Int} (h : Jn w W H m b y) (hHw : Hd w H) (hTw : Tb w) : Jn w (W.setCell ⟨w.heap.size + 1 + 1 + 1 + 1, 0, none⟩ (.bool true)) H m true y := by
 have lH := h.lt
 obtain ⟨z, h7, h7f⟩ := h.t7
 have o7 : ∀ (a : Addr) (v : Value), a.block ≠ w.heap.size + 1 + 1 + 1 + 1 → W.cell? a = some v → (W.setCell ⟨w.heap.size + 1 + 1 + 1 + 1, 0, none⟩ (.bool true)).cell? a = some v := fun a v hq hv => by rw [World.cell?_setCell_far _ _ _ _ (fun e => hq e.symm)]; exact hv
 have gr : w.grownBy (W.setCell ⟨w.heap.size + 1 + 1 + 1 + 1, 0, none⟩ (.bool true)) (some H) := gb_box h.gr (by omega)
 exact ⟨o7 _ _ (by simp only; omega) h.t3, o7 _ _ (by simp only; omega) h.t4, fun j v hv => o7 _ _ (by simp only; omega) (h.t6 j v hv), fun j hj => by rw [World.frozen?_setCell]; exact h.f6 j hj, ⟨z, fun j v hv => o7 _ _ (by simp only; omega) (h7 j v hv), h7f⟩, fun j hj => by rw [World.frozen?_setCell]; exact h.f7 j hj, World.cell?_setCell_same _ _ _ h.t8, by rw [World.frozen?_setCell]; exact h.f8, h.hd.far (by omega), hTw.keep0 gr (hHw.tb hTw), gr, lH⟩
def JI (w W : World) (H m : Nat) (xx : Nat → Nat → Int) (pre : List Nat) : Prop := ∃ b y, Jn w W H m b y ∧ (b = false → ∀ t, lst (y t) = zero4) ∧ ∀ t, lst (y t) = lst (ac m xx pre t)
theorem KD.setS4 {D Bs q o : Nat} {W : World} {r : E4} (h1 : q ≠ D) (h2 : q ≠ Bs) : KD D Bs W (setS W q o r) := ⟨fun _ => setS_far0 _ _ _ _ _ (fun e => h1 e.symm), setS_far0 _ _ _ _ _ (fun e => h2 e.symm)⟩
theorem keeps_setS (W : World) (q o : Nat) (r : E4) (n : Nat) : KeepsFrom n W (setS W q o r) := by
 unfold setS
 exact (((KeepsOthers.setCell _ _ _).trans (KeepsOthers.setCell _ _ _)).trans ((KeepsOthers.setCell _ _ _).trans (KeepsOthers.setCell _ _ _))).from _
open Go.RowKit Go.Shelf
attribute [local go_sem] Oper.semAt_some
theorem back_any (D K : Nat) (w : World) : Calls Tryz.prog 82 #[.slice (some ⟨D, 0, none⟩) K K] w fun e w' => e = .returned (.func (.func 104) #[] #[.pointer (some ⟨w.heap.size, 0, none⟩)]) ∧ w' = w.alloc (.cells #[.slice (some ⟨D, 0, none⟩) K K] 144) := by
 go_enter Tryz.func82, Tryz.ntmps82
 go_wp2_with fail
 exact bodyPost_ret (v := .func (.func 104) #[] #[.pointer (some ⟨w.heap.size, 0, none⟩)]) (by simp [results, Tryz.results82, go_sem]) rfl ⟨rfl, rfl⟩
theorem join_any (H m D K : Nat) (s : Nat → Bool) (xx : Nat → Nat → Int) (w : World) (hm : m ≤ 8) (hK : K ≤ 254) (hT : Tb w) (hH : Hd w H) (hP : Pl w D K s xx) (neDH : D ≠ H) :
  Calls Tryz.prog 72 #[.pointer (some ⟨H, 0, none⟩), .int .i64 (m : Int), .slice (some ⟨D, 0, none⟩) K K] w fun e w' => Hp w w' H e (fun t => tot (fun i => 2 ^ (m * i) * xx i t) K) := by
 have hc' : ∀ i, ∃ z : E4, i < K → w.rangeAt D (i * 5) [.int .u64 z.x0, .int .u64 z.x1, .int .u64 z.x2, .int .u64 z.x3] ∧ w.cell? ⟨D, i * 5 + 4, none⟩ = some (.bool (s i)) ∧ (s i = true → z.ok ∧ ∀ t, lst z.n = lst (xx i t)) := fun i => by
  by_cases hi : i < K
  ·obtain ⟨z, h⟩ := hP.c i hi
   exact ⟨z, fun _ => h⟩
  ·exact ⟨zero4, fun h => absurd h hi⟩
 obtain ⟨zf, hg⟩ := Classical.axiomOfChoice hc'
 clear hc'
 have BC := hidden (fun x => callsIn_wide (n := 2) |>.2 (back_any D K x))
 refine callsIn_wide (n := 3) |>.1 ?_
 refine callsIn_of_wp_marks Tryz.func72 rfl trivial ?_ rfl
 simp only [Tryz.ntmps72, List.size_toArray, List.length_cons, List.length_nil, Nat.reduceAdd, Nat.reduceSub, Array.replicate_succ, Array.replicate_zero, List.push_toArray, List.append_toArray, List.nil_append, List.cons_append]
 gi_wp2_with (refine ⟨trivial, ?_⟩; gi_at_call 82; refine (BC.out _).mono ?_; rintro e w' ⟨rfl, rfl⟩)
 have hsz : ((((((w.alloc (.cells #[.pointer (some ⟨H, 0, none⟩)] 139)).alloc (.cells #[.int .i64 (m : Int)] 3)).alloc (.cells #[.int .u64 0, .int .u64 0, .int .u64 0, .int .u64 0] 39)).alloc (.cells #[.int .u64 0, .int .u64 0, .int .u64 0, .int .u64 0] 39)).alloc (.cells #[.bool false] 4)).alloc (.cells #[.slice (some ⟨D, 0, none⟩) K K] 144)).heap.size = w.heap.size + 1 + 1 + 1 + 1 + 1 + 1 := by simp only [World.size_alloc]
 have c3 : ((((((w.alloc (.cells #[.pointer (some ⟨H, 0, none⟩)] 139)).alloc (.cells #[.int .i64 (m : Int)] 3)).alloc (.cells #[.int .u64 0, .int .u64 0, .int .u64 0, .int .u64 0] 39)).alloc (.cells #[.int .u64 0, .int .u64 0, .int .u64 0, .int .u64 0] 39)).alloc (.cells #[.bool false] 4)).alloc (.cells #[.slice (some ⟨D, 0, none⟩) K K] 144)).cell? ⟨w.heap.size, 0, none⟩ = some (.pointer (some ⟨H, 0, none⟩)) := by go_simp
 have c4 : ((((((w.alloc (.cells #[.pointer (some ⟨H, 0, none⟩)] 139)).alloc (.cells #[.int .i64 (m : Int)] 3)).alloc (.cells #[.int .u64 0, .int .u64 0, .int .u64 0, .int .u64 0] 39)).alloc (.cells #[.int .u64 0, .int .u64 0, .int .u64 0, .int .u64 0] 39)).alloc (.cells #[.bool false] 4)).alloc (.cells #[.slice (some ⟨D, 0, none⟩) K K] 144)).cell? ⟨w.heap.size + 1, 0, none⟩ = some (.int .i64 (m : Int)) := by go_simp
 have a0 : ((((((w.alloc (.cells #[.pointer (some ⟨H, 0, none⟩)] 139)).alloc (.cells #[.int .i64 (m : Int)] 3)).alloc (.cells #[.int .u64 0, .int .u64 0, .int .u64 0, .int .u64 0] 39)).alloc (.cells #[.int .u64 0, .int .u64 0, .int .u64 0, .int .u64 0] 39)).alloc (.cells #[.bool false] 4)).alloc (.cells #[.slice (some ⟨D, 0, none⟩) K K] 144)).cell? ⟨w.heap.size + 1 + 1, 0, none⟩ = some (.int .u64 0) := by go_simp
 have a1 : ((((((w.alloc (.cells #[.pointer (some ⟨H, 0, none⟩)] 139)).alloc (.cells #[.int .i64 (m : Int)] 3)).alloc (.cells #[.int .u64 0, .int .u64 0, .int .u64 0, .int .u64 0] 39)).alloc (.cells #[.int .u64 0, .int .u64 0, .int .u64 0, .int .u64 0] 39)).alloc (.cells #[.bool false] 4)).alloc (.cells #[.slice (some ⟨D, 0, none⟩) K K] 144)).cell? ⟨w.heap.size + 1 + 1, 1, none⟩ = some (.int .u64 0) := by go_simp
 have a2 : ((((((w.alloc (.cells #[.pointer (some ⟨H, 0, none⟩)] 139)).alloc (.cells #[.int .i64 (m : Int)] 3)).alloc (.cells #[.int .u64 0, .int .u64 0, .int .u64 0, .int .u64 0] 39)).alloc (.cells #[.int .u64 0, .int .u64 0, .int .u64 0, .int .u64 0] 39)).alloc (.cells #[.bool false] 4)).alloc (.cells #[.slice (some ⟨D, 0, none⟩) K K] 144)).cell? ⟨w.heap.size + 1 + 1, 2, none⟩ = some (.int .u64 0) := by go_simp
 have a3 : ((((((w.alloc (.cells #[.pointer (some ⟨H, 0, none⟩)] 139)).alloc (.cells #[.int .i64 (m : Int)] 3)).alloc (.cells #[.int .u64 0, .int .u64 0, .int .u64 0, .int .u64 0] 39)).alloc (.cells #[.int .u64 0, .int .u64 0, .int .u64 0, .int .u64 0] 39)).alloc (.cells #[.bool false] 4)).alloc (.cells #[.slice (some ⟨D, 0, none⟩) K K] 144)).cell? ⟨w.heap.size + 1 + 1, 3, none⟩ = some (.int .u64 0) := by go_simp
 have b0 : ((((((w.alloc (.cells #[.pointer (some ⟨H, 0, none⟩)] 139)).alloc (.cells #[.int .i64 (m : Int)] 3)).alloc (.cells #[.int .u64 0, .int .u64 0, .int .u64 0, .int .u64 0] 39)).alloc (.cells #[.int .u64 0, .int .u64 0, .int .u64 0, .int .u64 0] 39)).alloc (.cells #[.bool false] 4)).alloc (.cells #[.slice (some ⟨D, 0, none⟩) K K] 144)).cell? ⟨w.heap.size + 1 + 1 + 1, 0, none⟩ = some (.int .u64 0) := by go_simp
 have b1 : ((((((w.alloc (.cells #[.pointer (some ⟨H, 0, none⟩)] 139)).alloc (.cells #[.int .i64 (m : Int)] 3)).alloc (.cells #[.int .u64 0, .int .u64 0, .int .u64 0, .int .u64 0] 39)).alloc (.cells #[.int .u64 0, .int .u64 0, .int .u64 0, .int .u64 0] 39)).alloc (.cells #[.bool false] 4)).alloc (.cells #[.slice (some ⟨D, 0, none⟩) K K] 144)).cell? ⟨w.heap.size + 1 + 1 + 1, 1, none⟩ = some (.int .u64 0) := by go_simp
 have b2 : ((((((w.alloc (.cells #[.pointer (some ⟨H, 0, none⟩)] 139)).alloc (.cells #[.int .i64 (m : Int)] 3)).alloc (.cells #[.int .u64 0, .int .u64 0, .int .u64 0, .int .u64 0] 39)).alloc (.cells #[.int .u64 0, .int .u64 0, .int .u64 0, .int .u64 0] 39)).alloc (.cells #[.bool false] 4)).alloc (.cells #[.slice (some ⟨D, 0, none⟩) K K] 144)).cell? ⟨w.heap.size + 1 + 1 + 1, 2, none⟩ = some (.int .u64 0) := by go_simp
 have b3 : ((((((w.alloc (.cells #[.pointer (some ⟨H, 0, none⟩)] 139)).alloc (.cells #[.int .i64 (m : Int)] 3)).alloc (.cells #[.int .u64 0, .int .u64 0, .int .u64 0, .int .u64 0] 39)).alloc (.cells #[.int .u64 0, .int .u64 0, .int .u64 0, .int .u64 0] 39)).alloc (.cells #[.bool false] 4)).alloc (.cells #[.slice (some ⟨D, 0, none⟩) K K] 144)).cell? ⟨w.heap.size + 1 + 1 + 1, 3, none⟩ = some (.int .u64 0) := by go_simp
 have c8 : ((((((w.alloc (.cells #[.pointer (some ⟨H, 0, none⟩)] 139)).alloc (.cells #[.int .i64 (m : Int)] 3)).alloc (.cells #[.int .u64 0, .int .u64 0, .int .u64 0, .int .u64 0] 39)).alloc (.cells #[.int .u64 0, .int .u64 0, .int .u64 0, .int .u64 0] 39)).alloc (.cells #[.bool false] 4)).alloc (.cells #[.slice (some ⟨D, 0, none⟩) K K] 144)).cell? ⟨w.heap.size + 1 + 1 + 1 + 1, 0, none⟩ = some (.bool false) := by go_simp
 have c9 : ((((((w.alloc (.cells #[.pointer (some ⟨H, 0, none⟩)] 139)).alloc (.cells #[.int .i64 (m : Int)] 3)).alloc (.cells #[.int .u64 0, .int .u64 0, .int .u64 0, .int .u64 0] 39)).alloc (.cells #[.int .u64 0, .int .u64 0, .int .u64 0, .int .u64 0] 39)).alloc (.cells #[.bool false] 4)).alloc (.cells #[.slice (some ⟨D, 0, none⟩) K K] 144)).cell? ⟨w.heap.size + 1 + 1 + 1 + 1 + 1, 0, none⟩ = some (.slice (some ⟨D, 0, none⟩) K K) := by go_simp
 have f6 : ∀ j, j < 4 → ((((((w.alloc (.cells #[.pointer (some ⟨H, 0, none⟩)] 139)).alloc (.cells #[.int .i64 (m : Int)] 3)).alloc (.cells #[.int .u64 0, .int .u64 0, .int .u64 0, .int .u64 0] 39)).alloc (.cells #[.int .u64 0, .int .u64 0, .int .u64 0, .int .u64 0] 39)).alloc (.cells #[.bool false] 4)).alloc (.cells #[.slice (some ⟨D, 0, none⟩) K K] 144)).frozen? ⟨w.heap.size + 1 + 1, j, none⟩ = false := fun j _ => by go_simp
 have f7 : ∀ j, j < 4 → ((((((w.alloc (.cells #[.pointer (some ⟨H, 0, none⟩)] 139)).alloc (.cells #[.int .i64 (m : Int)] 3)).alloc (.cells #[.int .u64 0, .int .u64 0, .int .u64 0, .int .u64 0] 39)).alloc (.cells #[.int .u64 0, .int .u64 0, .int .u64 0, .int .u64 0] 39)).alloc (.cells #[.bool false] 4)).alloc (.cells #[.slice (some ⟨D, 0, none⟩) K K] 144)).frozen? ⟨w.heap.size + 1 + 1 + 1, j, none⟩ = false := fun j _ => by go_simp
 have f8 : ((((((w.alloc (.cells #[.pointer (some ⟨H, 0, none⟩)] 139)).alloc (.cells #[.int .i64 (m : Int)] 3)).alloc (.cells #[.int .u64 0, .int .u64 0, .int .u64 0, .int .u64 0] 39)).alloc (.cells #[.int .u64 0, .int .u64 0, .int .u64 0, .int .u64 0] 39)).alloc (.cells #[.bool false] 4)).alloc (.cells #[.slice (some ⟨D, 0, none⟩) K K] 144)).frozen? ⟨w.heap.size + 1 + 1 + 1 + 1, 0, none⟩ = false := by go_simp
 have BB : Below w.heap.size w ((((((w.alloc (.cells #[.pointer (some ⟨H, 0, none⟩)] 139)).alloc (.cells #[.int .i64 (m : Int)] 3)).alloc (.cells #[.int .u64 0, .int .u64 0, .int .u64 0, .int .u64 0] 39)).alloc (.cells #[.int .u64 0, .int .u64 0, .int .u64 0, .int .u64 0] 39)).alloc (.cells #[.bool false] 4)).alloc (.cells #[.slice (some ⟨D, 0, none⟩) K K] 144)) := bl_trans (bl_trans (bl_trans (bl_trans (bl_trans (bl_alloc w _) (bl_alloc _ _)) (bl_alloc _ _)) (bl_alloc _ _)) (bl_alloc _ _)) (bl_alloc _ _)
 obtain ⟨W0, hW0⟩ : ∃ W0, ((((((w.alloc (.cells #[.pointer (some ⟨H, 0, none⟩)] 139)).alloc (.cells #[.int .i64 (m : Int)] 3)).alloc (.cells #[.int .u64 0, .int .u64 0, .int .u64 0, .int .u64 0] 39)).alloc (.cells #[.int .u64 0, .int .u64 0, .int .u64 0, .int .u64 0] 39)).alloc (.cells #[.bool false] 4)).alloc (.cells #[.slice (some ⟨D, 0, none⟩) K K] 144)) = W0 := ⟨_, rfl⟩
 rw [hW0] at hsz c3 c4 a0 a1 a2 a3 b0 b1 b2 b3 c8 c9 f8 BB ⊢
 simp only [hW0] at f6 f7
 clear hW0 BC
 have lH := hH.lt
 have lD := hP.lt
 have J0 : Jn w W0 H m false (fun _ => 0) := ⟨c3, c4, range4 (p := ⟨0, 0, 0, 0⟩) a0 a1 a2 a3, f6, ⟨⟨0, 0, 0, 0⟩, range4 b0 b1 b2 b3, z4ok, fun t => congrArg lst z4n⟩, f7, c8, f8, hH.keep BB, hT.keep BB, gbI BB _, lH⟩
 refine wpIn_rangeFunc_ownH (α := {x : Nat // x < K}) rfl (by omega) (gf := 104) (lb := #[.pointer (some ⟨w.heap.size + 1 + 1 + 1 + 1 + 1, 0, none⟩)]) rfl trivial (enters_of Tryz.func104 (by kernel_rfl) rfl)
  (back_stops Fence.wide 2 trivial rfl (by omega) (w.heap.size + 1 + 1 + 1 + 1 + 1) D K (by omega) zf s W0 c9 (fun x hx => ⟨range_bl (hg x hx).1 BB, cell_keep (hg x hx).2.1 BB⟩)) (fun h1 h2 => h1.trans h2) (fun W l o o' hl _ _ _ => KD.putObj (n := W0.heap.size) (by omega) (by omega) W l o o' hl) (Below.refl _ _) (fun _ => rfl)
  (fun pre W => JI w W H m xx (pre.map (·.1)) ∧ w.heap.size + 1 + 1 + 1 + 1 + 1 + 1 ≤ W.heap.size)
  (fun _ _ _ => False)
  (fun pre X Y row hs hgr hr => by
   obtain ⟨⟨b, y, h1, hbz, h2⟩, h3⟩ := hs
   exact ⟨⟨b, y, h1.own hgr (fun r e => ⟨by have := (hr r e).1; omega, (hr r e).2⟩), hbz, h2⟩, Nat.le_trans h3 hgr.size⟩)
  (fun _ _ _ _ _ hs _ _ => hs)
  ⟨⟨false, _, J0, fun _ _ => zero_lst, fun t => rfl⟩, by omega⟩
  (fun x a' W => ∃ Bx, w.heap.size + 1 + 1 + 1 + 1 + 1 + 1 ≤ Bx ∧ W.rangeAt Bx 0 [.int .u64 (zf x.1).x0, .int .u64 (zf x.1).x1, .int .u64 (zf x.1).x2, .int .u64 (zf x.1).x3] ∧ W.cell? ⟨Bx, 4, none⟩ = some (.bool (s x.1)) ∧ a' = { tmps := #[.pointer (some ⟨H, 0, none⟩), .int .i64 (m : Int), .slice (some ⟨D, 0, none⟩) K K, .pointer (some ⟨w.heap.size, 0, none⟩), .pointer (some ⟨w.heap.size + 1, 0, none⟩), undef, .pointer (some ⟨w.heap.size + 1 + 1, 0, none⟩), .pointer (some ⟨w.heap.size + 1 + 1 + 1, 0, none⟩), .pointer (some ⟨w.heap.size + 1 + 1 + 1 + 1, 0, none⟩), undef, .pointer (some ⟨Bx, 0, none⟩), .slice (some ⟨D, 0, none⟩) K K, .func (.func 104) #[] #[.pointer (some ⟨w.heap.size + 1 + 1 + 1 + 1 + 1, 0, none⟩)], .int .i64 (x.1 : Int), .agg #[.int .u64 (zf x.1).x0, .int .u64 (zf x.1).x1, .int .u64 (zf x.1).x2, .int .u64 (zf x.1).x3, .bool (s x.1)], undef, undef, undef, undef, undef, undef, undef, undef, undef, undef, undef, undef, undef, undef, undef, undef], defers := [] })
  (fun x a' _ X Y row hs hgr hr => by
   obtain ⟨Bx, h1, h2, h3, h4⟩ := hs
   exact ⟨Bx, h1, fun j v hv => cell_kept (h2 j v hv) hgr (fun r e => (hr r e).2), cell_kept h3 hgr (fun r e => (hr r e).2), h4⟩)
  ?assign ?body ?done ?stop
 case assign =>
  rintro l pre x W K0 ⟨⟨b, y, h1, hbz, h2⟩, h3⟩ hK0
  have nb := bl_alloc W (.cells #[.int .u64 (zf x.1).x0, .int .u64 (zf x.1).x1, .int .u64 (zf x.1).x2, .int .u64 (zf x.1).x3, .bool (s x.1)] 153)
  have q0 : (W.alloc (.cells #[.int .u64 (zf x.1).x0, .int .u64 (zf x.1).x1, .int .u64 (zf x.1).x2, .int .u64 (zf x.1).x3, .bool (s x.1)] 153)).cell? ⟨W.heap.size, 0, none⟩ = some (.int .u64 (zf x.1).x0) := by go_simp
  have q1 : (W.alloc (.cells #[.int .u64 (zf x.1).x0, .int .u64 (zf x.1).x1, .int .u64 (zf x.1).x2, .int .u64 (zf x.1).x3, .bool (s x.1)] 153)).cell? ⟨W.heap.size, 1, none⟩ = some (.int .u64 (zf x.1).x1) := by go_simp
  have q2 : (W.alloc (.cells #[.int .u64 (zf x.1).x0, .int .u64 (zf x.1).x1, .int .u64 (zf x.1).x2, .int .u64 (zf x.1).x3, .bool (s x.1)] 153)).cell? ⟨W.heap.size, 2, none⟩ = some (.int .u64 (zf x.1).x2) := by go_simp
  have q3 : (W.alloc (.cells #[.int .u64 (zf x.1).x0, .int .u64 (zf x.1).x1, .int .u64 (zf x.1).x2, .int .u64 (zf x.1).x3, .bool (s x.1)] 153)).cell? ⟨W.heap.size, 3, none⟩ = some (.int .u64 (zf x.1).x3) := by go_simp
  have q4 : (W.alloc (.cells #[.int .u64 (zf x.1).x0, .int .u64 (zf x.1).x1, .int .u64 (zf x.1).x2, .int .u64 (zf x.1).x3, .bool (s x.1)] 153)).cell? ⟨W.heap.size, 4, none⟩ = some (.bool (s x.1)) := by go_simp
  gi_wp2
  exact hK0 _ _ ((KeepsOthers.alloc _ _).from _) ⟨fun o => (bcell nb).1 D o (by have := h1.gr.size; omega), (bcell nb).1 _ 0 (by omega)⟩ ⟨⟨b, y, h1.own (gbI nb none) (fun r e => by cases e), hbz, h2⟩, Nat.le_trans h3 nb.size⟩ ⟨W.heap.size, h3, range4 q0 q1 q2 q3, q4, rfl⟩
 case body =>
  rintro l pre x a' W hl ⟨r, hr⟩ ⟨⟨b, y, h1, hbz, h2⟩, h3⟩ ⟨Bx, hBx, x0, x1, rfl⟩ hlt
  have t3 := h1.t3
  have t4 := h1.t4
  have t8 := h1.t8
  have hzq := (hg x.1 x.2).2.2
  generalize zf x.1 = zx at x0 hzq ⊢
  cases b with
  | false =>
   have hJ := h1
   have hy1 : ∀ t, lst (y t) = lst (2 ^ m * ac m xx (List.map (fun x => x.val) pre) t) := fun t => by
    have e := hbz rfl t
    rw [e, lst_twoM (rfl : lst (2 ^ m) = lst (2 ^ m)) ((h2 t).symm.trans (e.trans zero_lst.symm)), Int.mul_zero, zero_lst]
   have X0 : W.cell? ⟨Bx, 0, none⟩ = some (.int .u64 zx.x0) := x0 0 _ rfl
   have X1 : W.cell? ⟨Bx, 1, none⟩ = some (.int .u64 zx.x1) := x0 1 _ rfl
   have X2 : W.cell? ⟨Bx, 2, none⟩ = some (.int .u64 zx.x2) := x0 2 _ rfl
   have X3 : W.cell? ⟨Bx, 3, none⟩ = some (.int .u64 zx.x3) := x0 3 _ rfl
   have X4 := x1
   have KF := KeepsFrom.refl W0.heap.size W
   have KK : KD D (w.heap.size + 1 + 1 + 1 + 1 + 1) W W := ⟨fun _ => rfl, rfl⟩
   have SZ := h3
   clear x0 x1
   cases hsx : s x.1 with
   | false =>
    rw [hsx] at X4
    clear t3 t4 t8
    have t8 := hJ.t8
    have fin : ∀ t, lst (y t) = lst (ac m xx (List.map (fun x => x.val) (pre ++ [x])) t) := fun t => by rw [List.map_append, List.map_cons, List.map_nil, ac_snoc, hy1 t]; have := hP.z x.1 x.2 hsx t; rw [← Int.add_zero (2 ^ m * ac m xx (List.map (fun x => x.val) pre) t)]; exact lst_two (by rw [Int.add_zero]) (zero_lst.trans this.symm)
    gi_wp2
    exact ⟨by first | exact KF | (rw [← hsz]; exact KF), KK, ⟨_, _, hJ, (fun _ => hbz (by simp)), fin⟩, SZ⟩
   | true =>
    rw [hsx] at X4
    clear t3 t4 t8
    have t3 := hJ.t3
    have t8 := hJ.t8
    have hzx := hzq hsx
    obtain ⟨z7, r7, hz7⟩ := id hJ.t7
    have s0 : W.cell? ⟨w.heap.size + 1 + 1 + 1, 0, none⟩ = some (.int .u64 z7.x0) := r7 0 _ rfl
    have s1 : W.cell? ⟨w.heap.size + 1 + 1 + 1, 1, none⟩ = some (.int .u64 z7.x1) := r7 1 _ rfl
    have s2 : W.cell? ⟨w.heap.size + 1 + 1 + 1, 2, none⟩ = some (.int .u64 z7.x2) := r7 2 _ rfl
    have s3 : W.cell? ⟨w.heap.size + 1 + 1 + 1, 3, none⟩ = some (.int .u64 z7.x3) := r7 3 _ rfl
    obtain ⟨r, hr⟩ : ∃ r, lst (z7.n + zx.n) = r := ⟨_, rfl⟩
    have CA := callsIn_wide (n := 0) |>.2 (hadd H z7 zx W hJ.tb hJ.hd hz7.1 hzx.1)
    rw [hr] at CA
    unfold E4.v at CA
    have HR : Hid (r.ok ∧ ∀ t, lst r.n = lst (y t + xx x.1 t)) := hidden (by rw [← hr]; exact ⟨lst_ok _, fun t => by rw [lst_n']; exact lst_two (hz7.2 t) (hzx.2 t)⟩)
    clear hr r7 hz7
    gi_wp2_with (refine ⟨trivial, ?_⟩; gi_at_call 58; refine (CallsIn.inRound l CA).mono ?_; rintro e wa ⟨rfl, hda, hga⟩; have JA := hJ.hand hga hda hH hT; obtain ⟨z8, r8, -⟩ := id JA.t7; have u0 : wa.cell? ⟨w.heap.size + 1 + 1 + 1, 0, none⟩ = some (.int .u64 z8.x0) := r8 0 _ rfl; have u1 : wa.cell? ⟨w.heap.size + 1 + 1 + 1, 1, none⟩ = some (.int .u64 z8.x1) := r8 1 _ rfl; have u2 : wa.cell? ⟨w.heap.size + 1 + 1 + 1, 2, none⟩ = some (.int .u64 z8.x2) := r8 2 _ rfl; have u3 : wa.cell? ⟨w.heap.size + 1 + 1 + 1, 3, none⟩ = some (.int .u64 z8.x3) := r8 3 _ rfl; have v0 := JA.f7 0 (by omega); have v1 := JA.f7 1 (by omega); have v2 := JA.f7 2 (by omega); have v3 := JA.f7 3 (by omega); have u8 := JA.t8; have v8 := JA.f8; have HJA := hidden JA; have HGA := hidden hga; clear CA JA r8 hda hga s0 s1 s2 s3 X0 X1 X2 X3 X4 t3 t8)
    have hga := HGA.out
    have J2 : Jn w ((setS wa (w.heap.size + 1 + 1 + 1) 0 r).setCell ⟨w.heap.size + 1 + 1 + 1 + 1, 0, none⟩ (.bool true)) H m true (fun t => y t + xx x.1 t) := (HJA.out.sum HR.out hH hT).mark hH hT
    unfold setS at J2
    exact ⟨(KF.trans (KeepsFrom.of_grownBy hga (fun q e => by have := Option.some.inj e; omega))).trans ((keeps_setS wa _ 0 r _).trans ((KeepsOthers.setCell _ _ _).from _)), ((KK.trans (KD.gb hga (by omega) (by omega) neDH (by omega))).trans (KD.setS4 (by omega) (by omega))).trans (KD.set (by omega) (by omega)), ⟨true, _, J2, (fun e => by simp at e), fun t => by rw [List.map_append, List.map_cons, List.map_nil, ac_snoc]; exact lst_two (hy1 t) rfl⟩, by have := hga.size; simp; omega⟩
  | true =>
   gi_wp2
   gi_loopw [17] (fun kv W' => ∃ k : Nat, k ≤ m ∧ kv = .int .i64 k ∧ ∃ y', Jn w W' H m true y' ∧ (∀ t, lst (y' t) = lst (2 ^ k * y t)) ∧ W'.rangeAt Bx 0 [.int .u64 zx.x0, .int .u64 zx.x1, .int .u64 zx.x2, .int .u64 zx.x3] ∧ W'.cell? ⟨Bx, 4, none⟩ = some (.bool (s x.1)) ∧ KeepsFrom W0.heap.size W W' ∧ KD D (w.heap.size + 1 + 1 + 1 + 1 + 1) W W' ∧ w.heap.size + 1 + 1 + 1 + 1 + 1 + 1 ≤ W'.heap.size) (fun k _ => m - (intOf k).toNat)
   case atStart => exact ⟨0, Nat.zero_le _, rfl, y, h1, fun t => by rw [Int.pow_zero, Int.one_mul], x0, x1, KeepsFrom.refl _ _, ⟨fun _ => rfl, rfl⟩, h3⟩
   case round =>
    obtain ⟨k, hk, rfl, y', hJ, hyk, XR, X4, KF, KK, SZ⟩ := hrel
    by_cases hkm : k < m
    ·have k0 : (k : Int) < (m : Int) := by omega
     have w9 : IntKind.i64.wrap ((k : Int) + 1) = (k : Int) + 1 := IntWalk.i64_in _ (by omega)
     clear t3 t4 t8 x0 x1
     have t3 := hJ.t3
     obtain ⟨z7, r7, hz7⟩ := id hJ.t7
     have s0 : wr.cell? ⟨w.heap.size + 1 + 1 + 1, 0, none⟩ = some (.int .u64 z7.x0) := r7 0 _ rfl
     have s1 : wr.cell? ⟨w.heap.size + 1 + 1 + 1, 1, none⟩ = some (.int .u64 z7.x1) := r7 1 _ rfl
     have s2 : wr.cell? ⟨w.heap.size + 1 + 1 + 1, 2, none⟩ = some (.int .u64 z7.x2) := r7 2 _ rfl
     have s3 : wr.cell? ⟨w.heap.size + 1 + 1 + 1, 3, none⟩ = some (.int .u64 z7.x3) := r7 3 _ rfl
     obtain ⟨r, hr⟩ : ∃ r, lst (z7.n + z7.n) = r := ⟨_, rfl⟩
     have CA := callsIn_wide (n := 0) |>.2 (hdouble H z7 wr hJ.tb hJ.hd hz7.1)
     rw [hr] at CA
     unfold E4.v at CA
     have HR : Hid (r.ok ∧ ∀ t, lst r.n = lst (2 ^ (k + 1) * y t)) := hidden (by
      rw [← hr]
      refine ⟨lst_ok _, fun t => ?_⟩
      have e7 := (hz7.2 t).trans (hyk t)
      rw [lst_n', lst_two e7 e7, ← Int.two_mul, ← Int.mul_assoc, Int.pow_succ, Int.mul_comm 2])
     clear hr r7 hz7
     gi_wp2_with (refine ⟨trivial, ?_⟩; gi_at_call 81; refine (CallsIn.inRound l CA).mono ?_; rintro e wa ⟨rfl, hda, hga⟩; have JA := hJ.hand hga hda hH hT; obtain ⟨z8, r8, -⟩ := id JA.t7; have u0 : wa.cell? ⟨w.heap.size + 1 + 1 + 1, 0, none⟩ = some (.int .u64 z8.x0) := r8 0 _ rfl; have u1 : wa.cell? ⟨w.heap.size + 1 + 1 + 1, 1, none⟩ = some (.int .u64 z8.x1) := r8 1 _ rfl; have u2 : wa.cell? ⟨w.heap.size + 1 + 1 + 1, 2, none⟩ = some (.int .u64 z8.x2) := r8 2 _ rfl; have u3 : wa.cell? ⟨w.heap.size + 1 + 1 + 1, 3, none⟩ = some (.int .u64 z8.x3) := r8 3 _ rfl; have v0 := JA.f7 0 (by omega); have v1 := JA.f7 1 (by omega); have v2 := JA.f7 2 (by omega); have v3 := JA.f7 3 (by omega); have HJA := hidden JA; have HGA := hidden hga; clear CA JA r8 hda hga s0 s1 s2 s3)
     have hga := HGA.out
     have J2 := HJA.out.sum HR.out hH hT
     have XR2 : (setS wa (w.heap.size + 1 + 1 + 1) 0 r).rangeAt Bx 0 [.int .u64 zx.x0, .int .u64 zx.x1, .int .u64 zx.x2, .int .u64 zx.x3] := fun j v hv => by rw [setS_far0 _ _ _ _ _ (by simp only; omega)]; exact range_gb XR hga (show Bx ≠ H by omega) j v hv
     have X42 : (setS wa (w.heap.size + 1 + 1 + 1) 0 r).cell? ⟨Bx, 4, none⟩ = some (.bool (s x.1)) := by rw [setS_far0 _ _ _ _ _ (by simp only; omega)]; exact hga.cell X4 (fun e => absurd (Option.some.inj e) (show Bx ≠ H by omega))
     have KF2 := (KF.trans (KeepsFrom.of_grownBy hga (fun q e => by have := Option.some.inj e; omega))).trans (keeps_setS wa (w.heap.size + 1 + 1 + 1) 0 r W0.heap.size)
     have KK2 := (KK.trans (KD.gb hga (by omega) (by omega) neDH (by omega))).trans (KD.setS4 (q := w.heap.size + 1 + 1 + 1) (o := 0) (r := r) (by omega) (by omega))
     have SZ2 : w.heap.size + 1 + 1 + 1 + 1 + 1 + 1 ≤ (setS wa (w.heap.size + 1 + 1 + 1) 0 r).heap.size := by rw [setS_size]; have := hga.size; omega
     unfold setS at J2 XR2 X42 KF2 KK2 SZ2
     go_roundw
     case rel => exact ⟨k + 1, by omega, by go_num, _, J2, fun t => rfl, XR2, X42, KF2, KK2, SZ2⟩
     case measure => simp [intOf]; omega
    ·obtain rfl : k = m := by omega
     have k0 : ¬ (k : Int) < (k : Int) := by omega
     have hy1 : ∀ t, lst (y' t) = lst (2 ^ k * ac k xx (List.map (fun x => x.val) pre) t) := fun t => (hyk t).trans (lst_twoM rfl (h2 t))
     have X0 : wr.cell? ⟨Bx, 0, none⟩ = some (.int .u64 zx.x0) := XR 0 _ rfl
     have X1 : wr.cell? ⟨Bx, 1, none⟩ = some (.int .u64 zx.x1) := XR 1 _ rfl
     have X2 : wr.cell? ⟨Bx, 2, none⟩ = some (.int .u64 zx.x2) := XR 2 _ rfl
     have X3 : wr.cell? ⟨Bx, 3, none⟩ = some (.int .u64 zx.x3) := XR 3 _ rfl
     clear x0 x1 XR
     cases hsx : s x.1 with
     | false =>
      rw [hsx] at X4
      clear t3 t4 t8
      have t8 := hJ.t8
      have fin : ∀ t, lst (y' t) = lst (ac k xx (List.map (fun x => x.val) (pre ++ [x])) t) := fun t => by rw [List.map_append, List.map_cons, List.map_nil, ac_snoc, hy1 t]; have := hP.z x.1 x.2 hsx t; rw [← Int.add_zero (2 ^ k * ac k xx (List.map (fun x => x.val) pre) t)]; exact lst_two (by rw [Int.add_zero]) (zero_lst.trans this.symm)
      gi_wp2
      exact ⟨by first | exact KF | (rw [← hsz]; exact KF), KK, ⟨_, _, hJ, (fun e => by simp at e), fin⟩, SZ⟩
     | true =>
      rw [hsx] at X4
      clear t3 t4 t8
      have t3 := hJ.t3
      have t8 := hJ.t8
      have hzx := hzq hsx
      obtain ⟨z7, r7, hz7⟩ := id hJ.t7
      have s0 : wr.cell? ⟨w.heap.size + 1 + 1 + 1, 0, none⟩ = some (.int .u64 z7.x0) := r7 0 _ rfl
      have s1 : wr.cell? ⟨w.heap.size + 1 + 1 + 1, 1, none⟩ = some (.int .u64 z7.x1) := r7 1 _ rfl
      have s2 : wr.cell? ⟨w.heap.size + 1 + 1 + 1, 2, none⟩ = some (.int .u64 z7.x2) := r7 2 _ rfl
      have s3 : wr.cell? ⟨w.heap.size + 1 + 1 + 1, 3, none⟩ = some (.int .u64 z7.x3) := r7 3 _ rfl
      obtain ⟨r, hr⟩ : ∃ r, lst (z7.n + zx.n) = r := ⟨_, rfl⟩
      have CA := callsIn_wide (n := 0) |>.2 (hadd H z7 zx wr hJ.tb hJ.hd hz7.1 hzx.1)
      rw [hr] at CA
      unfold E4.v at CA
      have HR : Hid (r.ok ∧ ∀ t, lst r.n = lst (y' t + xx x.1 t)) := hidden (by rw [← hr]; exact ⟨lst_ok _, fun t => by rw [lst_n']; exact lst_two (hz7.2 t) (hzx.2 t)⟩)
      clear hr r7 hz7
      gi_wp2_with (refine ⟨trivial, ?_⟩; gi_at_call 58; refine (CallsIn.inRound l CA).mono ?_; rintro e wa ⟨rfl, hda, hga⟩; have JA := hJ.hand hga hda hH hT; obtain ⟨z8, r8, -⟩ := id JA.t7; have u0 : wa.cell? ⟨w.heap.size + 1 + 1 + 1, 0, none⟩ = some (.int .u64 z8.x0) := r8 0 _ rfl; have u1 : wa.cell? ⟨w.heap.size + 1 + 1 + 1, 1, none⟩ = some (.int .u64 z8.x1) := r8 1 _ rfl; have u2 : wa.cell? ⟨w.heap.size + 1 + 1 + 1, 2, none⟩ = some (.int .u64 z8.x2) := r8 2 _ rfl; have u3 : wa.cell? ⟨w.heap.size + 1 + 1 + 1, 3, none⟩ = some (.int .u64 z8.x3) := r8 3 _ rfl; have v0 := JA.f7 0 (by omega); have v1 := JA.f7 1 (by omega); have v2 := JA.f7 2 (by omega); have v3 := JA.f7 3 (by omega); have u8 := JA.t8; have v8 := JA.f8; have HJA := hidden JA; have HGA := hidden hga; clear CA JA r8 hda hga s0 s1 s2 s3 X0 X1 X2 X3 X4 t3 t8)
      have hga := HGA.out
      have J2 : Jn w ((setS wa (w.heap.size + 1 + 1 + 1) 0 r).setCell ⟨w.heap.size + 1 + 1 + 1 + 1, 0, none⟩ (.bool true)) H k true (fun t => y' t + xx x.1 t) := (HJA.out.sum HR.out hH hT).mark hH hT
      unfold setS at J2
      exact ⟨(KF.trans (KeepsFrom.of_grownBy hga (fun q e => by have := Option.some.inj e; omega))).trans ((keeps_setS wa _ 0 r _).trans ((KeepsOthers.setCell _ _ _).from _)), ((KK.trans (KD.gb hga (by omega) (by omega) neDH (by omega))).trans (KD.setS4 (by omega) (by omega))).trans (KD.set (by omega) (by omega)), ⟨true, _, J2, (fun e => by simp at e), fun t => by rw [List.map_append, List.map_cons, List.map_nil, ac_snoc]; exact lst_two (hy1 t) rfl⟩, by have := hga.size; simp; omega⟩
 case done =>
  rintro Dd xs W hDd hS ⟨⟨b, y, h1, hbz, h2⟩, h3⟩ hKd
  obtain ⟨z, h7, hz⟩ := id h1.t7
  have s0 : W.cell? ⟨w.heap.size + 1 + 1 + 1, 0, none⟩ = some (.int .u64 z.x0) := h7 0 _ rfl
  have s1 : W.cell? ⟨w.heap.size + 1 + 1 + 1, 1, none⟩ = some (.int .u64 z.x1) := h7 1 _ rfl
  have s2 : W.cell? ⟨w.heap.size + 1 + 1 + 1, 2, none⟩ = some (.int .u64 z.x2) := h7 2 _ rfl
  have s3 : W.cell? ⟨w.heap.size + 1 + 1 + 1, 3, none⟩ = some (.int .u64 z.x3) := h7 3 _ rfl
  have u0 : W.cell? ⟨w.heap.size + 1 + 1, 0, none⟩ = some (.int .u64 0) := h1.t6 0 _ rfl
  have u1 : W.cell? ⟨w.heap.size + 1 + 1, 1, none⟩ = some (.int .u64 0) := h1.t6 1 _ rfl
  have u2 : W.cell? ⟨w.heap.size + 1 + 1, 2, none⟩ = some (.int .u64 0) := h1.t6 2 _ rfl
  have u3 : W.cell? ⟨w.heap.size + 1 + 1, 3, none⟩ = some (.int .u64 0) := h1.t6 3 _ rfl
  have v0 := h1.f6 0 (by omega)
  have v1 := h1.f6 1 (by omega)
  have v2 := h1.f6 2 (by omega)
  have v3 := h1.f6 3 (by omega)
  have th : W.there (w.heap.size + 1 + 1) 0 4 := there4 (p := ⟨0, 0, 0, 0⟩) h1.t6 (fun j hj => by rw [Nat.zero_add]; exact h1.f6 j hj)
  have RZ : ((((W.setCell ⟨w.heap.size + 1 + 1, 0, none⟩ (.int .u64 z.x0)).setCell ⟨w.heap.size + 1 + 1, 1, none⟩ (.int .u64 z.x1)).setCell ⟨w.heap.size + 1 + 1, 2, none⟩ (.int .u64 z.x2)).setCell ⟨w.heap.size + 1 + 1, 3, none⟩ (.int .u64 z.x3)).rangeAt (w.heap.size + 1 + 1) 0 [.int .u64 z.x0, .int .u64 z.x1, .int .u64 z.x2, .int .u64 z.x3] := World.rangeAt_setCells_same W (w.heap.size + 1 + 1) 0 [.int .u64 z.x0, .int .u64 z.x1, .int .u64 z.x2, .int .u64 z.x3] th
  have hK' : ((((W.setCell ⟨w.heap.size + 1 + 1, 0, none⟩ (.int .u64 z.x0)).setCell ⟨w.heap.size + 1 + 1, 1, none⟩ (.int .u64 z.x1)).setCell ⟨w.heap.size + 1 + 1, 2, none⟩ (.int .u64 z.x2)).setCell ⟨w.heap.size + 1 + 1, 3, none⟩ (.int .u64 z.x3)).heap[Dd]? = some (.deferred (some [])) := (((KeepsOthers.setCell W ⟨w.heap.size + 1 + 1, 0, none⟩ (.int .u64 z.x0)).trans (KeepsOthers.setCell _ ⟨w.heap.size + 1 + 1, 1, none⟩ (.int .u64 z.x1))).trans ((KeepsOthers.setCell _ ⟨w.heap.size + 1 + 1, 2, none⟩ (.int .u64 z.x2)).trans (KeepsOthers.setCell _ ⟨w.heap.size + 1 + 1, 3, none⟩ (.int .u64 z.x3)))).same Dd _ hKd rfl
  have gr : w.grownBy ((((W.setCell ⟨w.heap.size + 1 + 1, 0, none⟩ (.int .u64 z.x0)).setCell ⟨w.heap.size + 1 + 1, 1, none⟩ (.int .u64 z.x1)).setCell ⟨w.heap.size + 1 + 1, 2, none⟩ (.int .u64 z.x2)).setCell ⟨w.heap.size + 1 + 1, 3, none⟩ (.int .u64 z.x3)) (some H) := gb_box (gb_box (gb_box (gb_box h1.gr (by omega)) (by omega)) (by omega)) (by omega)
  have nH : w.heap.size + 1 + 1 ≠ H := by omega
  have hdx : Hd ((((W.setCell ⟨w.heap.size + 1 + 1, 0, none⟩ (.int .u64 z.x0)).setCell ⟨w.heap.size + 1 + 1, 1, none⟩ (.int .u64 z.x1)).setCell ⟨w.heap.size + 1 + 1, 2, none⟩ (.int .u64 z.x2)).setCell ⟨w.heap.size + 1 + 1, 3, none⟩ (.int .u64 z.x3)) H := (((h1.hd.far nH).far nH).far nH).far nH
  gi_wp2
  refine ⟨by simp, .inl ⟨_, _, rfl, run_takeDeferred hK', ?_⟩⟩
  generalize ((((W.setCell ⟨w.heap.size + 1 + 1, 0, none⟩ (.int .u64 z.x0)).setCell ⟨w.heap.size + 1 + 1, 1, none⟩ (.int .u64 z.x1)).setCell ⟨w.heap.size + 1 + 1, 2, none⟩ (.int .u64 z.x2)).setCell ⟨w.heap.size + 1 + 1, 3, none⟩ (.int .u64 z.x3)) = W4 at *
  have gp := grownBy_putObj' W4 Dd (.deferred none)
  have kp : ∀ (a : Addr) (v : Value), W4.cell? a = some v → (W4.putObj Dd (.deferred none)).cell? a = some v := fun a v hv => cell_kept hv gp (fun r e => by cases e; exact ⟨_, hK', rfl⟩)
  have e0 : (W4.putObj Dd (.deferred none)).cell? ⟨w.heap.size + 1 + 1, 0, none⟩ = _ := kp _ _ (RZ 0 _ rfl)
  have e1 : (W4.putObj Dd (.deferred none)).cell? ⟨w.heap.size + 1 + 1, 1, none⟩ = _ := kp _ _ (RZ 1 _ rfl)
  have e2 : (W4.putObj Dd (.deferred none)).cell? ⟨w.heap.size + 1 + 1, 2, none⟩ = _ := kp _ _ (RZ 2 _ rfl)
  have e3 : (W4.putObj Dd (.deferred none)).cell? ⟨w.heap.size + 1 + 1, 3, none⟩ = _ := kp _ _ (RZ 3 _ rfl)
  have nDd : ∀ q, q < w.heap.size → some q ≠ some Dd := fun q hq e => by have := Option.some.inj e; omega
  refine ⟨.agg #[.int .u64 z.x0, .int .u64 z.x1, .int .u64 z.x2, .int .u64 z.x3], ?_, z, rfl, ⟨hz.1, fun t => by rw [hz.2 t, h2 t, hS, ac_all]⟩, ?_, ?_⟩
  ·simp [results, Tryz.results72, go_sem, e0, e1, e2, e3]
  ·obtain ⟨q1, q2, a0, a1, b0, b1, a2⟩ := id hdx
   have hB := gp.block H hdx.lt (nDd H lH)
   exact ⟨q1, q2, kp _ _ a0, kp _ _ a1, (World.frozen?_of_block hB).trans b0, (World.frozen?_of_block hB).trans b1, fun o ho => (World.cell?_of_block hB).trans (a2 o ho)⟩
  ·exact ⟨gp.os.trans gr.os, gp.tape.trans gr.tape, gp.output.trans gr.output, Nat.le_trans gr.size gp.size, fun q hq hn => (gp.block q (Nat.lt_of_lt_of_le hq gr.size) (nDd q hq)).trans (gr.block q hq hn)⟩
 case stop =>
  rintro Dd c pre W _ _ h _
  exact h.elim
end Go.Proofs.YtbbnjmjeeiglcaaGreatDoor.Li
namespace Go.Proofs.YtbbnjmjeeiglcaaGreatDoor
open Go.RowKit
def cst1 (n : Int) (m : Nat) : Int := if m = 1 then n * 255 + 254 else if m = 2 then n * 129 + 254 else if m = 3 then n * 89 + 255 else if m = 4 then n * 72 + 256 else if m = 5 then n * 67 + 255 else if m = 6 then n * 75 + 258 else if m = 7 then n * 101 + 259 else if m = 8 then n * 160 + 256 else 0
def cst2 (n : Int) (m : Nat) : Int := if m = 1 then 254 * (n + 1 + 1) else if m = 2 then 127 * (n + 2 + 2) else if m = 3 then 85 * (n + 4 + 3) else if m = 4 then 64 * (n + 8 + 4) else if m = 5 then 51 * (n + 16 + 5) else if m = 6 then 43 * (n + 32 + 6) else if m = 7 then 37 * (n + 64 + 7) else if m = 8 then 32 * (n + 128 + 8) else if m = 9 then 29 * (n + 256 + 9) else if m = 10 then 26 * (n + 512 + 10) else if m = 11 then 24 * (n + 1024 + 11) else if m = 12 then 22 * (n + 2048 + 12) else 0
theorem few_many (N : Nat) (hN : N ≤ 50) (b1 b2 : Nat) (h1 : 1 ≤ b2) (h2 : b2 ≤ 12) (h : ∀ m, 1 ≤ m → m ≤ 8 → cst1 N b1 ≤ cst1 N m) : cst1 N b1 < cst2 N b2 := by
 have h4 : cst1 N b1 ≤ (N : Int) * 72 + 256 := h 4 (by omega) (by omega)
 have h5 : cst1 N b1 ≤ (N : Int) * 67 + 255 := h 5 (by omega) (by omega)
 obtain rfl | rfl | rfl | rfl | rfl | rfl | rfl | rfl | rfl | rfl | rfl | rfl : b2 = 1 ∨ b2 = 2 ∨ b2 = 3 ∨ b2 = 4 ∨ b2 = 5 ∨ b2 = 6 ∨ b2 = 7 ∨ b2 = 8 ∨ b2 = 9 ∨ b2 = 10 ∨ b2 = 11 ∨ b2 = 12 := by omega
 ·show cst1 N b1 < 254 * ((N : Int) + 1 + 1); omega
 ·show cst1 N b1 < 127 * ((N : Int) + 2 + 2); omega
 ·show cst1 N b1 < 85 * ((N : Int) + 4 + 3); omega
 ·show cst1 N b1 < 64 * ((N : Int) + 8 + 4); omega
 ·show cst1 N b1 < 51 * ((N : Int) + 16 + 5); omega
 ·show cst1 N b1 < 43 * ((N : Int) + 32 + 6); omega
 ·show cst1 N b1 < 37 * ((N : Int) + 64 + 7); omega
 ·show cst1 N b1 < 32 * ((N : Int) + 128 + 8); omega
 ·show cst1 N b1 < 29 * ((N : Int) + 256 + 9); omega
 ·show cst1 N b1 < 26 * ((N : Int) + 512 + 10); omega
 ·show cst1 N b1 < 24 * ((N : Int) + 1024 + 11); omega
 ·show cst1 N b1 < 22 * ((N : Int) + 2048 + 12); omega
end Go.Proofs.YtbbnjmjeeiglcaaGreatDoor
namespace Go.Proofs.YtbbnjmjeeiglcaaGreatDoor.Li
open Go.RowKit
theorem cost1_1 (n X : Nat) (hn : n ≤ 8192) (w : World) (hX : w.cell? ⟨X, 0, none⟩ = some (.int .i64 (n : Int))) :
  Calls Tryz.prog 63 #[.int .i64 1, .pointer (some ⟨X, 0, none⟩)] w fun e w' => e = .returned (.int .i64 ((n : Int) * 255 + 254)) ∧ Below w.heap.size w w' := by
 have w1 : IntKind.i64.wrap ((n : Int) * 255) = (n : Int) * 255 := IntWalk.i64_in _ (by omega)
 have w2 : IntKind.i64.wrap ((n : Int) * 255 + 254) = (n : Int) * 255 + 254 := IntWalk.i64_in _ (by omega)
 go_enter Tryz.func63, Tryz.ntmps63
 go_upto_region 1 with fail
 refine co1 _ X n 1 0 1 254 255 _ 254 _ _ _ _ _ _ _ _ _ _ _ _ _ _ _ w hX (IntWalk.i64_in _ (by omega)) (fun _ => rfl) (IntWalk.i64_in _ (by omega)) w1 (IntWalk.i64_in _ (by omega)) w2 (hidden places_1) (hidden ?_)
 intro wz hz
 have BF := hidden hz
 clear hz
 go_wp2_with fail
 refine bodyPost_ret (v := .int .i64 ((n : Int) * 255 + 254)) (by simp [results, Tryz.results63, go_sem]) rfl ⟨rfl, BF.out⟩
theorem cost1_2 (n X : Nat) (hn : n ≤ 8192) (w : World) (hX : w.cell? ⟨X, 0, none⟩ = some (.int .i64 (n : Int))) :
  Calls Tryz.prog 63 #[.int .i64 2, .pointer (some ⟨X, 0, none⟩)] w fun e w' => e = .returned (.int .i64 ((n : Int) * 129 + 254)) ∧ Below w.heap.size w w' := by
 have w1 : IntKind.i64.wrap ((n : Int) * 129) = (n : Int) * 129 := IntWalk.i64_in _ (by omega)
 have w2 : IntKind.i64.wrap ((n : Int) * 129 + 254) = (n : Int) * 129 + 254 := IntWalk.i64_in _ (by omega)
 go_enter Tryz.func63, Tryz.ntmps63
 go_upto_region 1 with fail
 refine co1 _ X n 2 1 2 127 129 _ 254 _ _ _ _ _ _ _ _ _ _ _ _ _ _ _ w hX (IntWalk.i64_in _ (by omega)) (fun _ => rfl) (IntWalk.i64_in _ (by omega)) w1 (IntWalk.i64_in _ (by omega)) w2 (hidden places_2) (hidden ?_)
 intro wz hz
 have BF := hidden hz
 clear hz
 go_wp2_with fail
 refine bodyPost_ret (v := .int .i64 ((n : Int) * 129 + 254)) (by simp [results, Tryz.results63, go_sem]) rfl ⟨rfl, BF.out⟩
theorem cost1_3 (n X : Nat) (hn : n ≤ 8192) (w : World) (hX : w.cell? ⟨X, 0, none⟩ = some (.int .i64 (n : Int))) :
  Calls Tryz.prog 63 #[.int .i64 3, .pointer (some ⟨X, 0, none⟩)] w fun e w' => e = .returned (.int .i64 ((n : Int) * 89 + 255)) ∧ Below w.heap.size w w' := by
 have w1 : IntKind.i64.wrap ((n : Int) * 89) = (n : Int) * 89 := IntWalk.i64_in _ (by omega)
 have w2 : IntKind.i64.wrap ((n : Int) * 89 + 255) = (n : Int) * 89 + 255 := IntWalk.i64_in _ (by omega)
 go_enter Tryz.func63, Tryz.ntmps63
 go_upto_region 1 with fail
 refine co1 _ X n 3 2 4 85 89 _ 255 _ _ _ _ _ _ _ _ _ _ _ _ _ _ _ w hX (IntWalk.i64_in _ (by omega)) (fun _ => rfl) (IntWalk.i64_in _ (by omega)) w1 (IntWalk.i64_in _ (by omega)) w2 (hidden places_3) (hidden ?_)
 intro wz hz
 have BF := hidden hz
 clear hz
 go_wp2_with fail
 refine bodyPost_ret (v := .int .i64 ((n : Int) * 89 + 255)) (by simp [results, Tryz.results63, go_sem]) rfl ⟨rfl, BF.out⟩
theorem cost1_4 (n X : Nat) (hn : n ≤ 8192) (w : World) (hX : w.cell? ⟨X, 0, none⟩ = some (.int .i64 (n : Int))) :
  Calls Tryz.prog 63 #[.int .i64 4, .pointer (some ⟨X, 0, none⟩)] w fun e w' => e = .returned (.int .i64 ((n : Int) * 72 + 256)) ∧ Below w.heap.size w w' := by
 have w1 : IntKind.i64.wrap ((n : Int) * 72) = (n : Int) * 72 := IntWalk.i64_in _ (by omega)
 have w2 : IntKind.i64.wrap ((n : Int) * 72 + 256) = (n : Int) * 72 + 256 := IntWalk.i64_in _ (by omega)
 go_enter Tryz.func63, Tryz.ntmps63
 go_upto_region 1 with fail
 refine co1 _ X n 4 3 8 64 72 _ 256 _ _ _ _ _ _ _ _ _ _ _ _ _ _ _ w hX (IntWalk.i64_in _ (by omega)) (fun _ => rfl) (IntWalk.i64_in _ (by omega)) w1 (IntWalk.i64_in _ (by omega)) w2 (hidden places_4) (hidden ?_)
 intro wz hz
 have BF := hidden hz
 clear hz
 go_wp2_with fail
 refine bodyPost_ret (v := .int .i64 ((n : Int) * 72 + 256)) (by simp [results, Tryz.results63, go_sem]) rfl ⟨rfl, BF.out⟩
theorem cost1_5 (n X : Nat) (hn : n ≤ 8192) (w : World) (hX : w.cell? ⟨X, 0, none⟩ = some (.int .i64 (n : Int))) :
  Calls Tryz.prog 63 #[.int .i64 5, .pointer (some ⟨X, 0, none⟩)] w fun e w' => e = .returned (.int .i64 ((n : Int) * 67 + 255)) ∧ Below w.heap.size w w' := by
 have w1 : IntKind.i64.wrap ((n : Int) * 67) = (n : Int) * 67 := IntWalk.i64_in _ (by omega)
 have w2 : IntKind.i64.wrap ((n : Int) * 67 + 255) = (n : Int) * 67 + 255 := IntWalk.i64_in _ (by omega)
 go_enter Tryz.func63, Tryz.ntmps63
 go_upto_region 1 with fail
 refine co1 _ X n 5 4 16 51 67 _ 255 _ _ _ _ _ _ _ _ _ _ _ _ _ _ _ w hX (IntWalk.i64_in _ (by omega)) (fun _ => rfl) (IntWalk.i64_in _ (by omega)) w1 (IntWalk.i64_in _ (by omega)) w2 (hidden places_5) (hidden ?_)
 intro wz hz
 have BF := hidden hz
 clear hz
 go_wp2_with fail
 refine bodyPost_ret (v := .int .i64 ((n : Int) * 67 + 255)) (by simp [results, Tryz.results63, go_sem]) rfl ⟨rfl, BF.out⟩
theorem cost1_6 (n X : Nat) (hn : n ≤ 8192) (w : World) (hX : w.cell? ⟨X, 0, none⟩ = some (.int .i64 (n : Int))) :
  Calls Tryz.prog 63 #[.int .i64 6, .pointer (some ⟨X, 0, none⟩)] w fun e w' => e = .returned (.int .i64 ((n : Int) * 75 + 258)) ∧ Below w.heap.size w w' := by
 have w1 : IntKind.i64.wrap ((n : Int) * 75) = (n : Int) * 75 := IntWalk.i64_in _ (by omega)
 have w2 : IntKind.i64.wrap ((n : Int) * 75 + 258) = (n : Int) * 75 + 258 := IntWalk.i64_in _ (by omega)
 go_enter Tryz.func63, Tryz.ntmps63
 go_upto_region 1 with fail
 refine co1 _ X n 6 5 32 43 75 _ 258 _ _ _ _ _ _ _ _ _ _ _ _ _ _ _ w hX (IntWalk.i64_in _ (by omega)) (fun _ => rfl) (IntWalk.i64_in _ (by omega)) w1 (IntWalk.i64_in _ (by omega)) w2 (hidden places_6) (hidden ?_)
 intro wz hz
 have BF := hidden hz
 clear hz
 go_wp2_with fail
 refine bodyPost_ret (v := .int .i64 ((n : Int) * 75 + 258)) (by simp [results, Tryz.results63, go_sem]) rfl ⟨rfl, BF.out⟩
theorem cost1_7 (n X : Nat) (hn : n ≤ 8192) (w : World) (hX : w.cell? ⟨X, 0, none⟩ = some (.int .i64 (n : Int))) :
  Calls Tryz.prog 63 #[.int .i64 7, .pointer (some ⟨X, 0, none⟩)] w fun e w' => e = .returned (.int .i64 ((n : Int) * 101 + 259)) ∧ Below w.heap.size w w' := by
 have w1 : IntKind.i64.wrap ((n : Int) * 101) = (n : Int) * 101 := IntWalk.i64_in _ (by omega)
 have w2 : IntKind.i64.wrap ((n : Int) * 101 + 259) = (n : Int) * 101 + 259 := IntWalk.i64_in _ (by omega)
 go_enter Tryz.func63, Tryz.ntmps63
 go_upto_region 1 with fail
 refine co1 _ X n 7 6 64 37 101 _ 259 _ _ _ _ _ _ _ _ _ _ _ _ _ _ _ w hX (IntWalk.i64_in _ (by omega)) (fun _ => rfl) (IntWalk.i64_in _ (by omega)) w1 (IntWalk.i64_in _ (by omega)) w2 (hidden places_7) (hidden ?_)
 intro wz hz
 have BF := hidden hz
 clear hz
 go_wp2_with fail
 refine bodyPost_ret (v := .int .i64 ((n : Int) * 101 + 259)) (by simp [results, Tryz.results63, go_sem]) rfl ⟨rfl, BF.out⟩
theorem cost1_8 (n X : Nat) (hn : n ≤ 8192) (w : World) (hX : w.cell? ⟨X, 0, none⟩ = some (.int .i64 (n : Int))) :
  Calls Tryz.prog 63 #[.int .i64 8, .pointer (some ⟨X, 0, none⟩)] w fun e w' => e = .returned (.int .i64 ((n : Int) * 160 + 256)) ∧ Below w.heap.size w w' := by
 have w1 : IntKind.i64.wrap ((n : Int) * 160) = (n : Int) * 160 := IntWalk.i64_in _ (by omega)
 have w2 : IntKind.i64.wrap ((n : Int) * 160 + 256) = (n : Int) * 160 + 256 := IntWalk.i64_in _ (by omega)
 go_enter Tryz.func63, Tryz.ntmps63
 go_upto_region 1 with fail
 refine co1 _ X n 8 7 128 32 160 _ 256 _ _ _ _ _ _ _ _ _ _ _ _ _ _ _ w hX (IntWalk.i64_in _ (by omega)) (fun _ => rfl) (IntWalk.i64_in _ (by omega)) w1 (IntWalk.i64_in _ (by omega)) w2 (hidden places_8) (hidden ?_)
 intro wz hz
 have BF := hidden hz
 clear hz
 go_wp2_with fail
 refine bodyPost_ret (v := .int .i64 ((n : Int) * 160 + 256)) (by simp [results, Tryz.results63, go_sem]) rfl ⟨rfl, BF.out⟩
theorem cost2_1 (n X : Nat) (hn : n ≤ 8192) (w : World) (hX : w.cell? ⟨X, 0, none⟩ = some (.int .i64 (n : Int))) :
  Calls Tryz.prog 65 #[.int .i64 1, .pointer (some ⟨X, 0, none⟩)] w fun e w' => e = .returned (.int .i64 (254 * ((n : Int) + 1 + 1))) ∧ Below w.heap.size w w' := by
 have w1 : IntKind.i64.wrap ((n : Int) + 1) = (n : Int) + 1 := IntWalk.i64_in _ (by omega)
 have w2 : IntKind.i64.wrap ((n : Int) + 1 + 1) = (n : Int) + 1 + 1 := IntWalk.i64_in _ (by omega)
 have w3 : IntKind.i64.wrap (254 * ((n : Int) + 1 + 1)) = 254 * ((n : Int) + 1 + 1) := IntWalk.i64_in _ (by omega)
 go_enter Tryz.func65, Tryz.ntmps65
 go_upto_region 1 with fail
 refine co2 _ X n 1 0 1 254 _ _ _ _ _ _ _ _ _ _ _ _ _ _ w hX (IntWalk.i64_in _ (by omega)) (fun _ => rfl) w1 w2 w3 (hidden places_1) (hidden ?_)
 intro wz hz
 have BF := hidden hz
 clear hz w1 w2 w3
 go_wp2_with fail
 refine bodyPost_ret (v := .int .i64 (254 * ((n : Int) + 1 + 1))) (by simp [results, Tryz.results65, go_sem]) rfl ⟨rfl, BF.out⟩
theorem cost2_2 (n X : Nat) (hn : n ≤ 8192) (w : World) (hX : w.cell? ⟨X, 0, none⟩ = some (.int .i64 (n : Int))) :
  Calls Tryz.prog 65 #[.int .i64 2, .pointer (some ⟨X, 0, none⟩)] w fun e w' => e = .returned (.int .i64 (127 * ((n : Int) + 2 + 2))) ∧ Below w.heap.size w w' := by
 have w1 : IntKind.i64.wrap ((n : Int) + 2) = (n : Int) + 2 := IntWalk.i64_in _ (by omega)
 have w2 : IntKind.i64.wrap ((n : Int) + 2 + 2) = (n : Int) + 2 + 2 := IntWalk.i64_in _ (by omega)
 have w3 : IntKind.i64.wrap (127 * ((n : Int) + 2 + 2)) = 127 * ((n : Int) + 2 + 2) := IntWalk.i64_in _ (by omega)
 go_enter Tryz.func65, Tryz.ntmps65
 go_upto_region 1 with fail
 refine co2 _ X n 2 1 2 127 _ _ _ _ _ _ _ _ _ _ _ _ _ _ w hX (IntWalk.i64_in _ (by omega)) (fun _ => rfl) w1 w2 w3 (hidden places_2) (hidden ?_)
 intro wz hz
 have BF := hidden hz
 clear hz w1 w2 w3
 go_wp2_with fail
 refine bodyPost_ret (v := .int .i64 (127 * ((n : Int) + 2 + 2))) (by simp [results, Tryz.results65, go_sem]) rfl ⟨rfl, BF.out⟩
theorem cost2_3 (n X : Nat) (hn : n ≤ 8192) (w : World) (hX : w.cell? ⟨X, 0, none⟩ = some (.int .i64 (n : Int))) :
  Calls Tryz.prog 65 #[.int .i64 3, .pointer (some ⟨X, 0, none⟩)] w fun e w' => e = .returned (.int .i64 (85 * ((n : Int) + 4 + 3))) ∧ Below w.heap.size w w' := by
 have w1 : IntKind.i64.wrap ((n : Int) + 4) = (n : Int) + 4 := IntWalk.i64_in _ (by omega)
 have w2 : IntKind.i64.wrap ((n : Int) + 4 + 3) = (n : Int) + 4 + 3 := IntWalk.i64_in _ (by omega)
 have w3 : IntKind.i64.wrap (85 * ((n : Int) + 4 + 3)) = 85 * ((n : Int) + 4 + 3) := IntWalk.i64_in _ (by omega)
 go_enter Tryz.func65, Tryz.ntmps65
 go_upto_region 1 with fail
 refine co2 _ X n 3 2 4 85 _ _ _ _ _ _ _ _ _ _ _ _ _ _ w hX (IntWalk.i64_in _ (by omega)) (fun _ => rfl) w1 w2 w3 (hidden places_3) (hidden ?_)
 intro wz hz
 have BF := hidden hz
 clear hz w1 w2 w3
 go_wp2_with fail
 refine bodyPost_ret (v := .int .i64 (85 * ((n : Int) + 4 + 3))) (by simp [results, Tryz.results65, go_sem]) rfl ⟨rfl, BF.out⟩
theorem cost2_4 (n X : Nat) (hn : n ≤ 8192) (w : World) (hX : w.cell? ⟨X, 0, none⟩ = some (.int .i64 (n : Int))) :
  Calls Tryz.prog 65 #[.int .i64 4, .pointer (some ⟨X, 0, none⟩)] w fun e w' => e = .returned (.int .i64 (64 * ((n : Int) + 8 + 4))) ∧ Below w.heap.size w w' := by
 have w1 : IntKind.i64.wrap ((n : Int) + 8) = (n : Int) + 8 := IntWalk.i64_in _ (by omega)
 have w2 : IntKind.i64.wrap ((n : Int) + 8 + 4) = (n : Int) + 8 + 4 := IntWalk.i64_in _ (by omega)
 have w3 : IntKind.i64.wrap (64 * ((n : Int) + 8 + 4)) = 64 * ((n : Int) + 8 + 4) := IntWalk.i64_in _ (by omega)
 go_enter Tryz.func65, Tryz.ntmps65
 go_upto_region 1 with fail
 refine co2 _ X n 4 3 8 64 _ _ _ _ _ _ _ _ _ _ _ _ _ _ w hX (IntWalk.i64_in _ (by omega)) (fun _ => rfl) w1 w2 w3 (hidden places_4) (hidden ?_)
 intro wz hz
 have BF := hidden hz
 clear hz w1 w2 w3
 go_wp2_with fail
 refine bodyPost_ret (v := .int .i64 (64 * ((n : Int) + 8 + 4))) (by simp [results, Tryz.results65, go_sem]) rfl ⟨rfl, BF.out⟩
theorem cost2_5 (n X : Nat) (hn : n ≤ 8192) (w : World) (hX : w.cell? ⟨X, 0, none⟩ = some (.int .i64 (n : Int))) :
  Calls Tryz.prog 65 #[.int .i64 5, .pointer (some ⟨X, 0, none⟩)] w fun e w' => e = .returned (.int .i64 (51 * ((n : Int) + 16 + 5))) ∧ Below w.heap.size w w' := by
 have w1 : IntKind.i64.wrap ((n : Int) + 16) = (n : Int) + 16 := IntWalk.i64_in _ (by omega)
 have w2 : IntKind.i64.wrap ((n : Int) + 16 + 5) = (n : Int) + 16 + 5 := IntWalk.i64_in _ (by omega)
 have w3 : IntKind.i64.wrap (51 * ((n : Int) + 16 + 5)) = 51 * ((n : Int) + 16 + 5) := IntWalk.i64_in _ (by omega)
 go_enter Tryz.func65, Tryz.ntmps65
 go_upto_region 1 with fail
 refine co2 _ X n 5 4 16 51 _ _ _ _ _ _ _ _ _ _ _ _ _ _ w hX (IntWalk.i64_in _ (by omega)) (fun _ => rfl) w1 w2 w3 (hidden places_5) (hidden ?_)
 intro wz hz
 have BF := hidden hz
 clear hz w1 w2 w3
 go_wp2_with fail
 refine bodyPost_ret (v := .int .i64 (51 * ((n : Int) + 16 + 5))) (by simp [results, Tryz.results65, go_sem]) rfl ⟨rfl, BF.out⟩
theorem cost2_6 (n X : Nat) (hn : n ≤ 8192) (w : World) (hX : w.cell? ⟨X, 0, none⟩ = some (.int .i64 (n : Int))) :
  Calls Tryz.prog 65 #[.int .i64 6, .pointer (some ⟨X, 0, none⟩)] w fun e w' => e = .returned (.int .i64 (43 * ((n : Int) + 32 + 6))) ∧ Below w.heap.size w w' := by
 have w1 : IntKind.i64.wrap ((n : Int) + 32) = (n : Int) + 32 := IntWalk.i64_in _ (by omega)
 have w2 : IntKind.i64.wrap ((n : Int) + 32 + 6) = (n : Int) + 32 + 6 := IntWalk.i64_in _ (by omega)
 have w3 : IntKind.i64.wrap (43 * ((n : Int) + 32 + 6)) = 43 * ((n : Int) + 32 + 6) := IntWalk.i64_in _ (by omega)
 go_enter Tryz.func65, Tryz.ntmps65
 go_upto_region 1 with fail
 refine co2 _ X n 6 5 32 43 _ _ _ _ _ _ _ _ _ _ _ _ _ _ w hX (IntWalk.i64_in _ (by omega)) (fun _ => rfl) w1 w2 w3 (hidden places_6) (hidden ?_)
 intro wz hz
 have BF := hidden hz
 clear hz w1 w2 w3
 go_wp2_with fail
 refine bodyPost_ret (v := .int .i64 (43 * ((n : Int) + 32 + 6))) (by simp [results, Tryz.results65, go_sem]) rfl ⟨rfl, BF.out⟩
theorem cost2_7 (n X : Nat) (hn : n ≤ 8192) (w : World) (hX : w.cell? ⟨X, 0, none⟩ = some (.int .i64 (n : Int))) :
  Calls Tryz.prog 65 #[.int .i64 7, .pointer (some ⟨X, 0, none⟩)] w fun e w' => e = .returned (.int .i64 (37 * ((n : Int) + 64 + 7))) ∧ Below w.heap.size w w' := by
 have w1 : IntKind.i64.wrap ((n : Int) + 64) = (n : Int) + 64 := IntWalk.i64_in _ (by omega)
 have w2 : IntKind.i64.wrap ((n : Int) + 64 + 7) = (n : Int) + 64 + 7 := IntWalk.i64_in _ (by omega)
 have w3 : IntKind.i64.wrap (37 * ((n : Int) + 64 + 7)) = 37 * ((n : Int) + 64 + 7) := IntWalk.i64_in _ (by omega)
 go_enter Tryz.func65, Tryz.ntmps65
 go_upto_region 1 with fail
 refine co2 _ X n 7 6 64 37 _ _ _ _ _ _ _ _ _ _ _ _ _ _ w hX (IntWalk.i64_in _ (by omega)) (fun _ => rfl) w1 w2 w3 (hidden places_7) (hidden ?_)
 intro wz hz
 have BF := hidden hz
 clear hz w1 w2 w3
 go_wp2_with fail
 refine bodyPost_ret (v := .int .i64 (37 * ((n : Int) + 64 + 7))) (by simp [results, Tryz.results65, go_sem]) rfl ⟨rfl, BF.out⟩
theorem cost2_8 (n X : Nat) (hn : n ≤ 8192) (w : World) (hX : w.cell? ⟨X, 0, none⟩ = some (.int .i64 (n : Int))) :
  Calls Tryz.prog 65 #[.int .i64 8, .pointer (some ⟨X, 0, none⟩)] w fun e w' => e = .returned (.int .i64 (32 * ((n : Int) + 128 + 8))) ∧ Below w.heap.size w w' := by
 have w1 : IntKind.i64.wrap ((n : Int) + 128) = (n : Int) + 128 := IntWalk.i64_in _ (by omega)
 have w2 : IntKind.i64.wrap ((n : Int) + 128 + 8) = (n : Int) + 128 + 8 := IntWalk.i64_in _ (by omega)
 have w3 : IntKind.i64.wrap (32 * ((n : Int) + 128 + 8)) = 32 * ((n : Int) + 128 + 8) := IntWalk.i64_in _ (by omega)
 go_enter Tryz.func65, Tryz.ntmps65
 go_upto_region 1 with fail
 refine co2 _ X n 8 7 128 32 _ _ _ _ _ _ _ _ _ _ _ _ _ _ w hX (IntWalk.i64_in _ (by omega)) (fun _ => rfl) w1 w2 w3 (hidden places_8) (hidden ?_)
 intro wz hz
 have BF := hidden hz
 clear hz w1 w2 w3
 go_wp2_with fail
 refine bodyPost_ret (v := .int .i64 (32 * ((n : Int) + 128 + 8))) (by simp [results, Tryz.results65, go_sem]) rfl ⟨rfl, BF.out⟩
theorem cost2_9 (n X : Nat) (hn : n ≤ 8192) (w : World) (hX : w.cell? ⟨X, 0, none⟩ = some (.int .i64 (n : Int))) :
  Calls Tryz.prog 65 #[.int .i64 9, .pointer (some ⟨X, 0, none⟩)] w fun e w' => e = .returned (.int .i64 (29 * ((n : Int) + 256 + 9))) ∧ Below w.heap.size w w' := by
 have w1 : IntKind.i64.wrap ((n : Int) + 256) = (n : Int) + 256 := IntWalk.i64_in _ (by omega)
 have w2 : IntKind.i64.wrap ((n : Int) + 256 + 9) = (n : Int) + 256 + 9 := IntWalk.i64_in _ (by omega)
 have w3 : IntKind.i64.wrap (29 * ((n : Int) + 256 + 9)) = 29 * ((n : Int) + 256 + 9) := IntWalk.i64_in _ (by omega)
 go_enter Tryz.func65, Tryz.ntmps65
 go_upto_region 1 with fail
 refine co2 _ X n 9 8 256 29 _ _ _ _ _ _ _ _ _ _ _ _ _ _ w hX (IntWalk.i64_in _ (by omega)) (fun _ => rfl) w1 w2 w3 (hidden places_9) (hidden ?_)
 intro wz hz
 have BF := hidden hz
 clear hz w1 w2 w3
 go_wp2_with fail
 refine bodyPost_ret (v := .int .i64 (29 * ((n : Int) + 256 + 9))) (by simp [results, Tryz.results65, go_sem]) rfl ⟨rfl, BF.out⟩
theorem cost2_10 (n X : Nat) (hn : n ≤ 8192) (w : World) (hX : w.cell? ⟨X, 0, none⟩ = some (.int .i64 (n : Int))) :
  Calls Tryz.prog 65 #[.int .i64 10, .pointer (some ⟨X, 0, none⟩)] w fun e w' => e = .returned (.int .i64 (26 * ((n : Int) + 512 + 10))) ∧ Below w.heap.size w w' := by
 have w1 : IntKind.i64.wrap ((n : Int) + 512) = (n : Int) + 512 := IntWalk.i64_in _ (by omega)
 have w2 : IntKind.i64.wrap ((n : Int) + 512 + 10) = (n : Int) + 512 + 10 := IntWalk.i64_in _ (by omega)
 have w3 : IntKind.i64.wrap (26 * ((n : Int) + 512 + 10)) = 26 * ((n : Int) + 512 + 10) := IntWalk.i64_in _ (by omega)
 go_enter Tryz.func65, Tryz.ntmps65
 go_upto_region 1 with fail
 refine co2 _ X n 10 9 512 26 _ _ _ _ _ _ _ _ _ _ _ _ _ _ w hX (IntWalk.i64_in _ (by omega)) (fun _ => rfl) w1 w2 w3 (hidden places_10) (hidden ?_)
 intro wz hz
 have BF := hidden hz
 clear hz w1 w2 w3
 go_wp2_with fail
 refine bodyPost_ret (v := .int .i64 (26 * ((n : Int) + 512 + 10))) (by simp [results, Tryz.results65, go_sem]) rfl ⟨rfl, BF.out⟩
theorem cost2_11 (n X : Nat) (hn : n ≤ 8192) (w : World) (hX : w.cell? ⟨X, 0, none⟩ = some (.int .i64 (n : Int))) :
  Calls Tryz.prog 65 #[.int .i64 11, .pointer (some ⟨X, 0, none⟩)] w fun e w' => e = .returned (.int .i64 (24 * ((n : Int) + 1024 + 11))) ∧ Below w.heap.size w w' := by
 have w1 : IntKind.i64.wrap ((n : Int) + 1024) = (n : Int) + 1024 := IntWalk.i64_in _ (by omega)
 have w2 : IntKind.i64.wrap ((n : Int) + 1024 + 11) = (n : Int) + 1024 + 11 := IntWalk.i64_in _ (by omega)
 have w3 : IntKind.i64.wrap (24 * ((n : Int) + 1024 + 11)) = 24 * ((n : Int) + 1024 + 11) := IntWalk.i64_in _ (by omega)
 go_enter Tryz.func65, Tryz.ntmps65
 go_upto_region 1 with fail
 refine co2 _ X n 11 10 1024 24 _ _ _ _ _ _ _ _ _ _ _ _ _ _ w hX (IntWalk.i64_in _ (by omega)) (fun _ => rfl) w1 w2 w3 (hidden places_11) (hidden ?_)
 intro wz hz
 have BF := hidden hz
 clear hz w1 w2 w3
 go_wp2_with fail
 refine bodyPost_ret (v := .int .i64 (24 * ((n : Int) + 1024 + 11))) (by simp [results, Tryz.results65, go_sem]) rfl ⟨rfl, BF.out⟩
theorem cost2_12 (n X : Nat) (hn : n ≤ 8192) (w : World) (hX : w.cell? ⟨X, 0, none⟩ = some (.int .i64 (n : Int))) :
  Calls Tryz.prog 65 #[.int .i64 12, .pointer (some ⟨X, 0, none⟩)] w fun e w' => e = .returned (.int .i64 (22 * ((n : Int) + 2048 + 12))) ∧ Below w.heap.size w w' := by
 have w1 : IntKind.i64.wrap ((n : Int) + 2048) = (n : Int) + 2048 := IntWalk.i64_in _ (by omega)
 have w2 : IntKind.i64.wrap ((n : Int) + 2048 + 12) = (n : Int) + 2048 + 12 := IntWalk.i64_in _ (by omega)
 have w3 : IntKind.i64.wrap (22 * ((n : Int) + 2048 + 12)) = 22 * ((n : Int) + 2048 + 12) := IntWalk.i64_in _ (by omega)
 go_enter Tryz.func65, Tryz.ntmps65
 go_upto_region 1 with fail
 refine co2 _ X n 12 11 2048 22 _ _ _ _ _ _ _ _ _ _ _ _ _ _ w hX (IntWalk.i64_in _ (by omega)) (fun _ => rfl) w1 w2 w3 (hidden places_12) (hidden ?_)
 intro wz hz
 have BF := hidden hz
 clear hz w1 w2 w3
 go_wp2_with fail
 refine bodyPost_ret (v := .int .i64 (22 * ((n : Int) + 2048 + 12))) (by simp [results, Tryz.results65, go_sem]) rfl ⟨rfl, BF.out⟩
theorem least_1 (C : Nat → Int) (T X : Nat) (hT1 : 1 ≤ T) (hT : T ≤ 12) (w : World) (hC : ∀ m : Nat, 1 ≤ m → m ≤ T → ∀ x, Below w.heap.size w x → Calls Tryz.prog 63 #[.int .i64 (m : Int), .pointer (some ⟨X, 0, none⟩)] x fun e w' => e = .returned (.int .i64 (C m)) ∧ Below x.heap.size x w') :
  Calls Tryz.prog 62 #[.int .i64 (T : Int), .func (.func 63) #[] #[.pointer (some ⟨X, 0, none⟩)]] w fun e w' => ∃ b : Nat, e = .returned (.tuple #[.int .i64 (b : Int), .int .i64 (C b)]) ∧ 1 ≤ b ∧ b ≤ T ∧ (∀ m, 1 ≤ m → m ≤ T → C b ≤ C m) ∧ Below w.heap.size w w' := by
 have HC := hidden hC
 have HT : Hid (1 ≤ T ∧ T ≤ 12) := hidden ⟨hT1, hT⟩
 have C1 := hidden (hC 1 (by omega) hT1 w (Below.refl _ _))
 simp only [Int.natCast_one] at C1
 clear hC hT1 hT
 go_enter Tryz.func62, Tryz.ntmps62
 go_wp2_with (first | (go_at_call 63; refine C1.out.mono ?_; rintro e wa ⟨rfl, ha⟩; have B1 := hidden ha; clear ha))
 go_loopw [6, 7, 8] (fun bv lv mv w' => ∃ b m : Nat, bv = .int .i64 (b : Int) ∧ lv = .int .i64 (C b) ∧ mv = .int .i64 (m : Int) ∧ Hid (1 ≤ b ∧ b < m ∧ 2 ≤ m ∧ m ≤ T + 1 ∧ (∀ k, 1 ≤ k → k < m → C b ≤ C k) ∧ Below w.heap.size w w')) (fun _ _ m _ => T + 1 - (intOf m).toNat)
 case atStart => exact ⟨1, 2, rfl, rfl, rfl, hidden ⟨by omega, by omega, by omega, by have := HT.out; omega, fun k h1 h2 => by rw [show k = 1 by omega]; exact Int.le_refl _, B1.out⟩⟩
 case round =>
  obtain ⟨b, m, rfl, rfl, rfl, ST⟩ := hrel
  by_cases hm : m ≤ T
  ·have m1 : (m : Int) ≤ (T : Int) := by omega
   have w9 : IntKind.i64.wrap ((m : Int) + 1) = (m : Int) + 1 := IntWalk.i64_in _ (by have := HT.out; omega)
   have CM := hidden (HC.out m (by have := ST.out; omega) hm wr ST.out.2.2.2.2.2)
   have HM := hidden hm
   obtain ⟨cm, hcm⟩ : ∃ c, C m = c := ⟨_, rfl⟩
   obtain ⟨cb, hcb⟩ : ∃ c, C b = c := ⟨_, rfl⟩
   rw [hcm] at CM
   have HCM := hidden hcm
   have HCB := hidden hcb
   rw [hcb]
   clear hm hcm hcb
   by_cases hlt : cm < cb
   ·go_wp2_with (first | (go_at_call 63; refine CM.out.mono ?_; rintro e wb ⟨rfl, hb⟩; have B2 := hidden (bl_trans ST.out.2.2.2.2.2 hb); clear hb))
    go_roundw
    case rel => exact ⟨m, m + 1, rfl, by rw [HCM.out], by go_num, hidden ⟨by have := ST.out; omega, by omega, by have := ST.out; omega, by have := HM.out; omega, fun k h1 h2 => by
     by_cases e : k = m
     ·subst e; exact Int.le_refl _
     ·have := ST.out.2.2.2.2.1 k h1 (by omega); have := HCM.out; have := HCB.out; omega, B2.out⟩⟩
    case measure => have := HM.out; simp [intOf]; omega
   ·go_wp2_with (first | (go_at_call 63; refine CM.out.mono ?_; rintro e wb ⟨rfl, hb⟩; have B2 := hidden (bl_trans ST.out.2.2.2.2.2 hb); clear hb))
    go_roundw
    case rel => exact ⟨b, m + 1, rfl, by rw [HCB.out], by go_num, hidden ⟨by have := ST.out; omega, by have := ST.out; omega, by have := ST.out; omega, by have := HM.out; omega, fun k h1 h2 => by
     by_cases e : k = m
     ·subst e; have := HCM.out; have := HCB.out; omega
     ·exact ST.out.2.2.2.2.1 k h1 (by omega), B2.out⟩⟩
    case measure => have := HM.out; simp [intOf]; omega
  ·have m1 : ¬ (m : Int) ≤ (T : Int) := by omega
   have HM := hidden hm
   clear hm
   go_wp2_with fail
   refine bodyPost_ret (v := .tuple #[.int .i64 (b : Int), .int .i64 (C b)]) (by simp [results, Tryz.results62, go_sem]) rfl ⟨b, rfl, ST.out.1, by have := ST.out; omega, fun k h1 h2 => ST.out.2.2.2.2.1 k h1 (by have := HM.out; omega), ST.out.2.2.2.2.2⟩
theorem least_2 (C : Nat → Int) (T X : Nat) (hT1 : 1 ≤ T) (hT : T ≤ 12) (w : World) (hC : ∀ m : Nat, 1 ≤ m → m ≤ T → ∀ x, Below w.heap.size w x → Calls Tryz.prog 65 #[.int .i64 (m : Int), .pointer (some ⟨X, 0, none⟩)] x fun e w' => e = .returned (.int .i64 (C m)) ∧ Below x.heap.size x w') :
  Calls Tryz.prog 62 #[.int .i64 (T : Int), .func (.func 65) #[] #[.pointer (some ⟨X, 0, none⟩)]] w fun e w' => ∃ b : Nat, e = .returned (.tuple #[.int .i64 (b : Int), .int .i64 (C b)]) ∧ 1 ≤ b ∧ b ≤ T ∧ (∀ m, 1 ≤ m → m ≤ T → C b ≤ C m) ∧ Below w.heap.size w w' := by
 have HC := hidden hC
 have HT : Hid (1 ≤ T ∧ T ≤ 12) := hidden ⟨hT1, hT⟩
 have C1 := hidden (hC 1 (by omega) hT1 w (Below.refl _ _))
 simp only [Int.natCast_one] at C1
 clear hC hT1 hT
 go_enter Tryz.func62, Tryz.ntmps62
 go_wp2_with (first | (go_at_call 65; refine C1.out.mono ?_; rintro e wa ⟨rfl, ha⟩; have B1 := hidden ha; clear ha))
 go_loopw [6, 7, 8] (fun bv lv mv w' => ∃ b m : Nat, bv = .int .i64 (b : Int) ∧ lv = .int .i64 (C b) ∧ mv = .int .i64 (m : Int) ∧ Hid (1 ≤ b ∧ b < m ∧ 2 ≤ m ∧ m ≤ T + 1 ∧ (∀ k, 1 ≤ k → k < m → C b ≤ C k) ∧ Below w.heap.size w w')) (fun _ _ m _ => T + 1 - (intOf m).toNat)
 case atStart => exact ⟨1, 2, rfl, rfl, rfl, hidden ⟨by omega, by omega, by omega, by have := HT.out; omega, fun k h1 h2 => by rw [show k = 1 by omega]; exact Int.le_refl _, B1.out⟩⟩
 case round =>
  obtain ⟨b, m, rfl, rfl, rfl, ST⟩ := hrel
  by_cases hm : m ≤ T
  ·have m1 : (m : Int) ≤ (T : Int) := by omega
   have w9 : IntKind.i64.wrap ((m : Int) + 1) = (m : Int) + 1 := IntWalk.i64_in _ (by have := HT.out; omega)
   have CM := hidden (HC.out m (by have := ST.out; omega) hm wr ST.out.2.2.2.2.2)
   have HM := hidden hm
   obtain ⟨cm, hcm⟩ : ∃ c, C m = c := ⟨_, rfl⟩
   obtain ⟨cb, hcb⟩ : ∃ c, C b = c := ⟨_, rfl⟩
   rw [hcm] at CM
   have HCM := hidden hcm
   have HCB := hidden hcb
   rw [hcb]
   clear hm hcm hcb
   by_cases hlt : cm < cb
   ·go_wp2_with (first | (go_at_call 65; refine CM.out.mono ?_; rintro e wb ⟨rfl, hb⟩; have B2 := hidden (bl_trans ST.out.2.2.2.2.2 hb); clear hb))
    go_roundw
    case rel => exact ⟨m, m + 1, rfl, by rw [HCM.out], by go_num, hidden ⟨by have := ST.out; omega, by omega, by have := ST.out; omega, by have := HM.out; omega, fun k h1 h2 => by
     by_cases e : k = m
     ·subst e; exact Int.le_refl _
     ·have := ST.out.2.2.2.2.1 k h1 (by omega); have := HCM.out; have := HCB.out; omega, B2.out⟩⟩
    case measure => have := HM.out; simp [intOf]; omega
   ·go_wp2_with (first | (go_at_call 65; refine CM.out.mono ?_; rintro e wb ⟨rfl, hb⟩; have B2 := hidden (bl_trans ST.out.2.2.2.2.2 hb); clear hb))
    go_roundw
    case rel => exact ⟨b, m + 1, rfl, by rw [HCB.out], by go_num, hidden ⟨by have := ST.out; omega, by have := ST.out; omega, by have := ST.out; omega, by have := HM.out; omega, fun k h1 h2 => by
     by_cases e : k = m
     ·subst e; have := HCM.out; have := HCB.out; omega
     ·exact ST.out.2.2.2.2.1 k h1 (by omega), B2.out⟩⟩
    case measure => have := HM.out; simp [intOf]; omega
  ·have m1 : ¬ (m : Int) ≤ (T : Int) := by omega
   have HM := hidden hm
   clear hm
   go_wp2_with fail
   refine bodyPost_ret (v := .tuple #[.int .i64 (b : Int), .int .i64 (C b)]) (by simp [results, Tryz.results62, go_sem]) rfl ⟨b, rfl, ST.out.1, by have := ST.out; omega, fun k h1 h2 => ST.out.2.2.2.2.1 k h1 (by have := HM.out; omega), ST.out.2.2.2.2.2⟩
theorem cost1_all (n X : Nat) (hn : n ≤ 8192) (m : Nat) (h1 : 1 ≤ m) (h2 : m ≤ 8) (w : World) (hX : w.cell? ⟨X, 0, none⟩ = some (.int .i64 (n : Int))) :
  Calls Tryz.prog 63 #[.int .i64 (m : Int), .pointer (some ⟨X, 0, none⟩)] w fun e w' => e = .returned (.int .i64 (cst1 n m)) ∧ Below w.heap.size w w' := by
 obtain rfl | rfl | rfl | rfl | rfl | rfl | rfl | rfl : m = 1 ∨ m = 2 ∨ m = 3 ∨ m = 4 ∨ m = 5 ∨ m = 6 ∨ m = 7 ∨ m = 8 := by omega
 ·exact cost1_1 n X hn w hX
 ·exact cost1_2 n X hn w hX
 ·exact cost1_3 n X hn w hX
 ·exact cost1_4 n X hn w hX
 ·exact cost1_5 n X hn w hX
 ·exact cost1_6 n X hn w hX
 ·exact cost1_7 n X hn w hX
 ·exact cost1_8 n X hn w hX
theorem cost2_all (n X : Nat) (hn : n ≤ 8192) (m : Nat) (h1 : 1 ≤ m) (h2 : m ≤ 12) (w : World) (hX : w.cell? ⟨X, 0, none⟩ = some (.int .i64 (n : Int))) :
  Calls Tryz.prog 65 #[.int .i64 (m : Int), .pointer (some ⟨X, 0, none⟩)] w fun e w' => e = .returned (.int .i64 (cst2 n m)) ∧ Below w.heap.size w w' := by
 obtain rfl | rfl | rfl | rfl | rfl | rfl | rfl | rfl | rfl | rfl | rfl | rfl : m = 1 ∨ m = 2 ∨ m = 3 ∨ m = 4 ∨ m = 5 ∨ m = 6 ∨ m = 7 ∨ m = 8 ∨ m = 9 ∨ m = 10 ∨ m = 11 ∨ m = 12 := by omega
 ·exact cost2_1 n X hn w hX
 ·exact cost2_2 n X hn w hX
 ·exact cost2_3 n X hn w hX
 ·exact cost2_4 n X hn w hX
 ·exact cost2_5 n X hn w hX
 ·exact cost2_6 n X hn w hX
 ·exact cost2_7 n X hn w hX
 ·exact cost2_8 n X hn w hX
 ·exact cost2_9 n X hn w hX
 ·exact cost2_10 n X hn w hX
 ·exact cost2_11 n X hn w hX
 ·exact cost2_12 n X hn w hX
theorem cheapest_any (H N L lo cap : Nat) (ks : Nat → E4) (fs : Nat → Nat → Int) (w : World) (hN : N ≤ 50) (hT : Tb w) (hH : Hd w H) (hTm : Tm w L lo N ks fs) :
  Calls Tryz.prog 59 #[.pointer (some ⟨H, 0, none⟩), .slice (some ⟨L, lo, none⟩) N cap] w fun e w' => Hp w w' H e (fun t => tot (fun q => (ks q).n * fs q t) N) := by
 have B2 := bl_alloc2 w (.cells #[.int .u64 0, .int .u64 0, .int .u64 0, .int .u64 0] 39) (.cells #[.int .i64 (N : Int)] 3)
 have e4 : ((w.alloc (.cells #[.int .u64 0, .int .u64 0, .int .u64 0, .int .u64 0] 39)).alloc (.cells #[.int .i64 (N : Int)] 3)).rangeAt w.heap.size 0 [.int .u64 0, .int .u64 0, .int .u64 0, .int .u64 0] := range_bl (range_newM w [.int .u64 0, .int .u64 0, .int .u64 0, .int .u64 0] 39) (bl_alloc _ _)
 have f4 : ∀ j, j < 4 → ((w.alloc (.cells #[.int .u64 0, .int .u64 0, .int .u64 0, .int .u64 0] 39)).alloc (.cells #[.int .i64 (N : Int)] 3)).frozen? ⟨w.heap.size, j, none⟩ = false := fun j _ => by go_simp
 have e5 : ((w.alloc (.cells #[.int .u64 0, .int .u64 0, .int .u64 0, .int .u64 0] 39)).alloc (.cells #[.int .i64 (N : Int)] 3)).cell? ⟨w.heap.size + 1, 0, none⟩ = some (.int .i64 (N : Int)) := by go_simp
 obtain ⟨w2, hw2⟩ : ∃ w2, ((w.alloc (.cells #[.int .u64 0, .int .u64 0, .int .u64 0, .int .u64 0] 39)).alloc (.cells #[.int .i64 (N : Int)] 3)) = w2 := ⟨_, rfl⟩
 rw [hw2] at B2 e4 e5
 simp only [hw2] at f4
 have LH := hidden hH.lt
 have L1 := hidden (least_1 (fun m => cst1 N m) 8 (w.heap.size + 1) (by omega) (by omega) w2 (fun m h1 h2 x hx => cost1_all N (w.heap.size + 1) (by omega) m h1 h2 x (cell_keep e5 hx)))
 have L2 := hidden (fun (x : World) (hx : Below w2.heap.size w2 x) => least_2 (fun m => cst2 N m) 12 (w.heap.size + 1) (by omega) (by omega) x (fun m h1 h2 x' hx' => cost2_all N (w.heap.size + 1) (by omega) m h1 h2 x' (cell_keep e5 (bl_trans hx hx'))))
 have SS := hidden (fun (m : Nat) (h1 : 1 ≤ m) (h2 : m ≤ 8) (x : World) (hx : Below w2.heap.size w2 x) => straus_any H m N L lo cap ks fs x h1 h2 (by omega) (hT.keep (bl_trans B2 hx)) (hH.keep (bl_trans B2 hx)) (hTm.keep (bl_trans B2 hx)) (fun y D s xx a b c d => join_any H m D (253 / m + 1) s xx y h2 (by have := Nat.div_le_self 253 m; omega) a b c d))
 have FM := hidden (few_many N hN)
 have E4 := hidden (And.intro e4 f4)
 have HB := hidden B2
 clear hT hH hTm hN e4 f4 e5 B2
 simp only [show ((8 : Nat) : Int) = 8 from rfl] at L1
 simp only [show ((12 : Nat) : Int) = 12 from rfl] at L2
 have n4 : w.heap.size ≠ H := by have := LH.out; omega
 go_enter Tryz.func59, Tryz.ntmps59
 go_upto_region 2 with fail
 go_wp2_with (first
  | (go_at_call 62; refine L1.out.mono ?_; rintro e wa ⟨b1, rfl, h11, h12, h13, ha⟩; have A1 : Hid (1 ≤ b1 ∧ b1 ≤ 8 ∧ (∀ m, 1 ≤ m → m ≤ 8 → cst1 N b1 ≤ cst1 N m) ∧ Below w2.heap.size w2 wa) := hidden ⟨h11, h12, h13, ha⟩; clear h11 h12 h13 ha L1)
  | (go_at_call 62; refine (L2.out _ A1.out.2.2.2).mono ?_; rintro e wb ⟨b2, rfl, h21, h22, -, hb⟩; have lt := FM.out b1 b2 h21 h22 A1.out.2.2.1; have A2 := hidden (bl_trans A1.out.2.2.2 hb); clear h21 h22 hb L2)
  | (go_at_call 66; refine (SS.out b1 A1.out.1 A1.out.2.1 _ A2.out).mono ?_; rintro e wc ⟨r, rfl, hr, hHc, hgc⟩; have RB := range_bl E4.out.1 A2.out; have RC := range_gb RB hgc n4; have q0 : wc.cell? ⟨w.heap.size, 0, none⟩ = some (.int .u64 0) := RC 0 _ rfl; have q1 : wc.cell? ⟨w.heap.size, 1, none⟩ = some (.int .u64 0) := RC 1 _ rfl; have q2 : wc.cell? ⟨w.heap.size, 2, none⟩ = some (.int .u64 0) := RC 2 _ rfl; have q3 : wc.cell? ⟨w.heap.size, 3, none⟩ = some (.int .u64 0) := RC 3 _ rfl
     have lt0 := World.block_lt_of_cell? _ _ (E4.out.1 0 _ rfl); have fz : ∀ j, j < 4 → wc.frozen? ⟨w.heap.size, j, none⟩ = false := (fun j hj => (gb_frozen_some hgc (some4 RB hj) n4).trans (((bcell A2.out).2 _ j lt0).trans (E4.out.2 j hj))); have v0 := fz 0 (by omega); have v1 := fz 1 (by omega); have v2 := fz 2 (by omega); have v3 := fz 3 (by omega); have RR := hidden (And.intro hr (And.intro hHc hgc)); clear hr hHc hgc SS RB RC fz lt0))
 obtain ⟨hr, hHc, hgc⟩ := RR.out
 have BW := bl_trans HB.out A2.out
 refine bodyPost_ret (v := .agg #[.int .u64 r.x0, .int .u64 r.x1, .int .u64 r.x2, .int .u64 r.x3]) (by simp [results, Tryz.results59, go_sem, q0, q1, q2, q3]) rfl ⟨r, rfl, ⟨hr.1, fun t => (hr.2 t).trans (straus_sum b1 N A1.out.1 ks fs t)⟩, (((hHc.far n4).far n4).far n4).far n4, gb_box (gb_box (gb_box (gb_box ((gbI BW _).trans hgc) (Nat.le_refl _)) (Nat.le_refl _)) (Nat.le_refl _)) (Nat.le_refl _)⟩
end Go.Proofs.YtbbnjmjeeiglcaaGreatDoor.Li
namespace Go.Proofs.YtbbnjmjeeiglcaaGreatDoor
open Go.RowKit Go.Shelf
attribute [local go_sem] Oper.semAt_some
def KB (B1 B2 : Nat) (W W' : World) : Prop := W'.cell? ⟨B1, 0, none⟩ = W.cell? ⟨B1, 0, none⟩ ∧ W'.cell? ⟨B2, 0, none⟩ = W.cell? ⟨B2, 0, none⟩
end Go.Proofs.YtbbnjmjeeiglcaaGreatDoor
namespace Go.Proofs.YtbbnjmjeeiglcaaGreatDoor.Li
open Go.RowKit Go.Shelf
attribute [local go_sem] Oper.semAt_some
theorem chunk_any (L lo N cap : Nat) (w : World) : Calls Tryz.prog 57 #[.slice (some ⟨L, lo, none⟩) N cap, .int .i64 8192] w fun e w' => e = .returned (.func (.func 61) #[] #[.pointer (some ⟨w.heap.size, 0, none⟩), .pointer (some ⟨w.heap.size + 1, 0, none⟩)]) ∧ w' = (w.alloc (.cells #[.slice (some ⟨L, lo, none⟩) N cap] 101)).alloc (.cells #[.int .i64 8192] 3) := by
 go_enter Tryz.func57, Tryz.ntmps57
 go_wp2_with fail
 exact bodyPost_ret (v := .func (.func 61) #[] #[.pointer (some ⟨w.heap.size, 0, none⟩), .pointer (some ⟨w.heap.size + 1, 0, none⟩)]) (by simp [results, Tryz.results57, go_sem]) rfl ⟨rfl, rfl⟩
theorem chunk_stops (F : Fence) (n : Nat) (hf : F.fn 61) (hro : F.round = none) (hn : 1 ≤ n) (B1 B2 L lo N cap : Nat) (hN0 : 1 ≤ N) (hN : N ≤ 50) (hcap : N ≤ cap) (w : World) (c1 : w.cell? ⟨B1, 0, none⟩ = some (.slice (some ⟨L, lo, none⟩) N cap)) (c2 : w.cell? ⟨B2, 0, none⟩ = some (.int .i64 8192)) :
  SeqStopsK (α := Unit) F n Tryz.prog 61 #[.pointer (some ⟨B1, 0, none⟩), .pointer (some ⟨B2, 0, none⟩)] (fun _ => #[.slice (some ⟨L, lo, none⟩) N N]) (KB B1 B2) (fun xs => xs = [()]) (fun _ => True) 1 w := by
 intro l J Jx W hW hJ hJx hY h0
 have d1 := cell_keep c1 hW
 have d2 := cell_keep c2 hW
 clear c1 c2
 show CallsIn F n Tryz.prog 61 #[.func (.yield l) #[] #[], .pointer (some ⟨B1, 0, none⟩), .pointer (some ⟨B2, 0, none⟩)] W _
 refine callsIn_of_wp Tryz.func61 rfl hf ?_ hro
 simp only [Tryz.ntmps61, List.size_toArray, List.length_cons, List.length_nil, Nat.reduceAdd, Nat.reduceSub, Array.replicate_succ, Array.replicate_zero, List.push_toArray, List.append_toArray, List.nil_append, List.cons_append]
 gi_wp2
 gi_loopw [4] (fun i wr => (i = .int .i64 0 ∧ J [] wr ∧ KB B1 B2 W wr) ∨ (i = .int .i64 8192 ∧ J [()] wr ∧ KB B1 B2 W wr))
  (fun i _ => (8192 - intOf i).toNat)
 case atStart => exact .inl ⟨rfl, h0, rfl, rfl⟩
 case round =>
  obtain ⟨rfl, hJs, hk⟩ | ⟨rfl, hJs, hk⟩ := hrel
  ·have e1 := hk.1.trans d1
   have e2 := hk.2.trans d2
   have p0 : (0 : Int) < (N : Int) := by omega
   have p1 : (N : Int) < 8192 := by omega
   have p2 : (N : Int) ≤ (cap : Int) := by omega
   have p3 : (0 : Int) ≤ (N : Int) := by omega
   have w1 : IntKind.i64.wrap (0 + (N : Int)) = (N : Int) := by rw [Int.zero_add]; exact IntWalk.i64_in _ (by omega)
   have w2 : IntKind.i64.wrap (N : Int) = (N : Int) := IntWalk.i64_in _ (by omega)
   have w3 : IntKind.i64.wrap (0 + 8192) = 8192 := IntWalk.i64_in _ (by omega)
   have hJd : J [] wr.drew := hJ [] wr wr.drew none hJs (gbI (bl_drew wr) none) (fun r e => by cases e)
   obtain ⟨fn, tmps, assign, body, hy, hR⟩ := hY [] () wr.drew hJd (by simp)
   have e1d : wr.drew.cell? ⟨B1, 0, none⟩ = some (.slice (some ⟨L, lo, none⟩) N cap) := cell_keep e1 (bl_drew _)
   have e2d : wr.drew.cell? ⟨B2, 0, none⟩ = some (.int .i64 8192) := cell_keep e2 (bl_drew _)
   gi_wp2
   gi_region
   all_goals
    gi_wp2
    refine hR.mono ?_
    rintro e W3 (⟨rfl, hJ3, hk3⟩ | ⟨rfl, hJx3⟩)
    ·have e3 := hk3.2.trans e2d
     gi_wp2
     go_roundw
     case rel => exact .inr ⟨by go_num, hJ3, ⟨hk3.1.trans (e1d.trans d1.symm), hk3.2.trans (e2d.trans d2.symm)⟩⟩
     case measure => simp [intOf]
    ·gi_wp2
     refine bodyPost_ret (results_none rfl _ _ _) rfl ?_
     exact ⟨⟨_, rfl⟩, .inr ⟨_, trivial, hJx3⟩⟩
  ·have e1 := hk.1.trans d1
   have p1 : ¬ (8192 : Int) < (N : Int) := by omega
   gi_wp2
   go_end0
   first | exact ⟨⟨_, rfl⟩, .inl ⟨_, rfl, hJs⟩⟩ | exact ⟨⟨_, rfl⟩, .inl hJs⟩
end Go.Proofs.YtbbnjmjeeiglcaaGreatDoor.Li
namespace Go.Proofs.YtbbnjmjeeiglcaaGreatDoor
open Go.RowKit Go.Shelf
attribute [local go_sem] Oper.semAt_some
theorem KB.gb {B1 B2 H : Nat} {W wa : World} (hg : W.grownBy wa (some H)) (h1 : B1 < W.heap.size) (h2 : B2 < W.heap.size) (n1 : B1 ≠ H) (n2 : B2 ≠ H) : KB B1 B2 W wa := ⟨World.cell?_of_block (hg.block B1 h1 (fun e => n1 (Option.some.inj e))), World.cell?_of_block (hg.block B2 h2 (fun e => n2 (Option.some.inj e)))⟩
theorem KB.trans {B1 B2 : Nat} {A B C : World} (h1 : KB B1 B2 A B) (h2 : KB B1 B2 B C) : KB B1 B2 A C := ⟨h2.1.trans h1.1, h2.2.trans h1.2⟩
theorem KB.putObj {B1 B2 n : Nat} (h1 : B1 < n) (h2 : B2 < n) (W : World) (l : Nat) (o o' : Obj) (hl : n ≤ l) : KB B1 B2 W (W.putObj l o') := by
 have h := (KD.putObj h1 h2 W l o o' hl)
 exact ⟨h.1 0, h.2⟩
theorem Hd.new (w : World) (t : TypeId) (k : Nat) (hk : k = w.heap.size) : Hd (w.alloc (.cells #[.int .i64 0, .int .i64 0] t)) k := by
 subst hk
 refine ⟨0, 0, by go_simp, by go_simp, by go_simp, by go_simp, fun o ho => ?_⟩
 rw [cell_of_row _ _ _ _ _ (0, 0) (heap_alloc_new w _)]
 exact Array.getElem?_eq_none (by simpa using ho)
end Go.Proofs.YtbbnjmjeeiglcaaGreatDoor
namespace Go.Proofs.YtbbnjmjeeiglcaaGreatDoor.Li
open Go.RowKit Go.Shelf
attribute [local go_sem] Oper.semAt_some
structure Sn (w W : World) (X : Int) (b : Bool) : Prop where
 t2 : W.rangeAt (w.heap.size) 0 [.int .u64 0, .int .u64 0, .int .u64 0, .int .u64 0]
 f2 : ∀ j, j < 4 → W.frozen? ⟨w.heap.size, j, none⟩ = false
 t3 : W.cell? ⟨w.heap.size + 1, 0, none⟩ = some (.int .i64 0)
 f3 : W.frozen? ⟨w.heap.size + 1, 0, none⟩ = false
 u3 : W.cell? ⟨w.heap.size + 1, 1, none⟩ = some (.int .i64 0)
 g3 : W.frozen? ⟨w.heap.size + 1, 1, none⟩ = false
 hd : Hd W (w.heap.size + 1 + 1)
 t5 : ∃ z : E4, W.rangeAt (w.heap.size + 1 + 1 + 1) 0 [.int .u64 z.x0, .int .u64 z.x1, .int .u64 z.x2, .int .u64 z.x3] ∧ (b = false → z = zero4) ∧ (b = true → z = lst X)
 f5 : ∀ j, j < 4 → W.frozen? ⟨w.heap.size + 1 + 1 + 1, j, none⟩ = false
 bl : Below w.heap.size w W
theorem Sn.own {w W W' : World} {X : Int} {b : Bool} {row : Option Nat} (h : Sn w W X b) (hg : W.grownBy W' row) (hr : ∀ r, row = some r → w.heap.size ≤ r ∧ ∃ o : Obj, W.heap[r]? = some o ∧ o.isCells = false) : Sn w W' X b := by
 have hr2 : ∀ r, row = some r → ∃ o : Obj, W.heap[r]? = some o ∧ o.isCells = false := fun r e => (hr r e).2
 have k : ∀ (a : Addr) (v : Value), W.cell? a = some v → W'.cell? a = some v := fun a v hv => cell_kept hv hg hr2
 have fk : ∀ (a : Addr) (v : Value), W.cell? a = some v → W'.frozen? a = W.frozen? a := fun a v hv => frozen_kept hv hg hr2
 have rk : ∀ {b o : Nat} {cs : List Value}, W.rangeAt b o cs → W'.rangeAt b o cs := fun hh j v hv => k _ _ (hh j v hv)
 have fs : ∀ {b j : Nat}, (W.cell? ⟨b, j, none⟩).isSome = true → W'.frozen? ⟨b, j, none⟩ = W.frozen? ⟨b, j, none⟩ := fun hh => by
  obtain ⟨v, hv⟩ := Option.isSome_iff_exists.1 hh
  exact fk _ _ hv
 obtain ⟨z, h7, h7f⟩ := h.t5
 have hb : ∀ k, k < w.heap.size → some k ≠ row := fun k hk e => by have := (hr k e.symm).1; omega
 refine ⟨rk h.t2, fun j hj => (fs (some4 h.t2 hj)).trans (h.f2 j hj), k _ _ h.t3, (fk _ _ h.t3).trans h.f3, k _ _ h.u3, (fk _ _ h.u3).trans h.g3, ?_, ⟨z, rk h7, h7f⟩, fun j hj => (fs (some4 h7 hj)).trans (h.f5 j hj), ?_⟩
 ·obtain ⟨x, z, a0, a1, b0, b1, a2⟩ := h.hd
  have hB : W'.heap[w.heap.size + 1 + 1]? = W.heap[w.heap.size + 1 + 1]? := by
   refine hg.block _ h.hd.lt (fun e => ?_)
   obtain ⟨o, ho, hc⟩ := hr2 _ e.symm
   rw [World.cell?, ho] at a0
   cases o <;> simp_all [Obj.isCells]
  exact ⟨x, z, k _ _ a0, k _ _ a1, (fk _ _ a0).trans b0, (fk _ _ a1).trans b1, fun o ho => (World.cell?_of_block hB).trans (a2 o ho)⟩
 ·have a := h.bl
  exact ⟨hg.os.trans a.os, hg.tape.trans a.tape, hg.output.trans a.output, Nat.le_trans a.size hg.size, fun q hq => (hg.block q (Nat.lt_of_lt_of_le hq a.size) (hb q hq)).trans (a.block q hq)⟩
theorem Sn.put {w W wb : World} {X : Int} {r : E4} (h : Sn w W X false) (hg : W.grownBy wb (some (w.heap.size + 1 + 1))) (hd : Hd wb (w.heap.size + 1 + 1)) (hr : r = lst X) : Sn w (setS wb (w.heap.size + 1 + 1 + 1) 0 r) X true := by
 have k0 : ∀ (a : Addr) (v : Value), a.block ≠ w.heap.size + 1 + 1 → W.cell? a = some v → wb.cell? a = some v := fun a v ha hv => hg.cell hv (fun e => ha (Option.some.inj e))
 have k1 : ∀ (q o : Nat), q ≠ w.heap.size + 1 + 1 → (W.cell? ⟨q, o, none⟩).isSome = true → wb.frozen? ⟨q, o, none⟩ = W.frozen? ⟨q, o, none⟩ := fun q o ha hv => gb_frozen_some hg hv ha
 obtain ⟨z, h7, -⟩ := h.t5
 have s7 : wb.rangeAt (w.heap.size + 1 + 1 + 1) 0 [.int .u64 z.x0, .int .u64 z.x1, .int .u64 z.x2, .int .u64 z.x3] := range_gb h7 hg (by omega)
 have th : wb.there (w.heap.size + 1 + 1 + 1) 0 4 := there4 s7 (fun j hj => by rw [Nat.zero_add, k1 _ _ (by omega) (some4 h7 hj)]; exact h.f5 j hj)
 have o7 : ∀ (a : Addr) (v : Value), a.block ≠ w.heap.size + 1 + 1 + 1 → wb.cell? a = some v → (setS wb (w.heap.size + 1 + 1 + 1) 0 r).cell? a = some v := fun a v hq hv => by rw [setS_far0 _ _ _ _ _ hq]; exact hv
 have n3 : w.heap.size + 1 + 1 + 1 ≠ w.heap.size + 1 + 1 := by omega
 refine ⟨fun j v hv => o7 _ _ (by simp only; omega) (k0 _ _ (by simp only; omega) (h.t2 j v hv)), fun j hj => by rw [setS_frozen, k1 _ _ (by omega) (some4 h.t2 hj)]; exact h.f2 j hj, o7 _ _ (by simp only; omega) (k0 _ _ (by simp only; omega) h.t3), by rw [setS_frozen, k1 _ _ (by omega) (by rw [h.t3]; rfl)]; exact h.f3, o7 _ _ (by simp only; omega) (k0 _ _ (by simp only; omega) h.u3), by rw [setS_frozen, k1 _ _ (by omega) (by rw [h.u3]; rfl)]; exact h.g3, ?_, ⟨r, World.rangeAt_setCells_same wb (w.heap.size + 1 + 1 + 1) 0 [.int .u64 r.x0, .int .u64 r.x1, .int .u64 r.x2, .int .u64 r.x3] th, fun e => by simp at e, fun _ => hr⟩, fun j hj => by rw [setS_frozen, k1 _ _ (by omega) (some4 h7 hj)]; exact h.f5 j hj, ?_⟩
 ·unfold setS; exact (((hd.far n3).far n3).far n3).far n3
 ·unfold setS
  exact ((((h.bl.grown hg h.bl.size (fun j hj => by obtain rfl := Option.some.inj hj; omega)).setCell (by simp only; omega) _).setCell (by simp only; omega) _).setCell (by simp only; omega) _).setCell (by simp only; omega) _
theorem sn_drew {w W : World} {X : Int} {b : Bool} (h : Sn w W X b) : Sn w W.drew X b := h.own (gbI (bl_drew W) none) (fun r e => by cases e)
theorem def_set {W : World} {Dd : Nat} (h : W.heap[Dd]? = some (.deferred (some []))) (a : Addr) (v : Value) : (W.setCell a v).heap[Dd]? = some (.deferred (some [])) := (KeepsOthers.setCell W a v).same Dd _ h rfl
theorem def_drew {W : World} {Dd : Nat} (h : W.heap[Dd]? = some (.deferred (some []))) : W.drew.heap[Dd]? = some (.deferred (some [])) := h
theorem KB.setS4 {B1 B2 q o : Nat} {W : World} {r : E4} (h1 : q ≠ B1) (h2 : q ≠ B2) : KB B1 B2 W (setS W q o r) := ⟨setS_far0 _ _ _ _ _ (fun e => h1 e.symm), setS_far0 _ _ _ _ _ (fun e => h2 e.symm)⟩
theorem fsum_any (L lo N cap : Nat) (ks : Nat → E4) (fs : Nat → Nat → Int) (w : World) (hN0 : 1 ≤ N) (hN : N ≤ 50) (hcap : N ≤ cap) (hT : Tb w) (hTm : Tm w L lo N ks fs) :
  Calls Tryz.prog 55 #[.slice (some ⟨L, lo, none⟩) N cap] w fun e w' => ∃ z1 z2 : Int, e = .returned (.tuple #[(lst (tot (fun q => (ks q).n * fs q 0) N)).v, .agg #[.int .i64 z1, .int .i64 z2]]) ∧ Below w.heap.size w w' := by
 have BC := hidden (fun x => callsIn_wide (n := 2) |>.2 (chunk_any L lo N cap x))
 refine callsIn_wide (n := 3) |>.1 ?_
 refine callsIn_of_wp_marks Tryz.func55 rfl trivial ?_ rfl
 simp only [Tryz.ntmps55, List.size_toArray, List.length_cons, List.length_nil, Nat.reduceAdd, Nat.reduceSub, Array.replicate_succ, Array.replicate_zero, List.push_toArray, List.append_toArray, List.nil_append, List.cons_append]
 gi_wp2_with (refine ⟨trivial, ?_⟩; gi_at_call 57; refine (BC.out _).mono ?_; rintro e w' ⟨rfl, rfl⟩)
 have hsz : ((((((w.alloc (.cells #[.int .u64 0, .int .u64 0, .int .u64 0, .int .u64 0] 39)).alloc (.cells #[.int .i64 0, .int .i64 0] 119)).alloc (.cells #[.int .i64 0, .int .i64 0] 132)).alloc (.cells #[.int .u64 0, .int .u64 0, .int .u64 0, .int .u64 0] 39)).alloc (.cells #[.slice (some ⟨L, lo, none⟩) N cap] 101)).alloc (.cells #[.int .i64 8192] 3)).heap.size = w.heap.size + 1 + 1 + 1 + 1 + 1 + 1 := by simp only [World.size_alloc]
 have a0 : ((((((w.alloc (.cells #[.int .u64 0, .int .u64 0, .int .u64 0, .int .u64 0] 39)).alloc (.cells #[.int .i64 0, .int .i64 0] 119)).alloc (.cells #[.int .i64 0, .int .i64 0] 132)).alloc (.cells #[.int .u64 0, .int .u64 0, .int .u64 0, .int .u64 0] 39)).alloc (.cells #[.slice (some ⟨L, lo, none⟩) N cap] 101)).alloc (.cells #[.int .i64 8192] 3)).cell? ⟨w.heap.size, 0, none⟩ = some (.int .u64 0) := by go_simp
 have a1 : ((((((w.alloc (.cells #[.int .u64 0, .int .u64 0, .int .u64 0, .int .u64 0] 39)).alloc (.cells #[.int .i64 0, .int .i64 0] 119)).alloc (.cells #[.int .i64 0, .int .i64 0] 132)).alloc (.cells #[.int .u64 0, .int .u64 0, .int .u64 0, .int .u64 0] 39)).alloc (.cells #[.slice (some ⟨L, lo, none⟩) N cap] 101)).alloc (.cells #[.int .i64 8192] 3)).cell? ⟨w.heap.size, 1, none⟩ = some (.int .u64 0) := by go_simp
 have a2 : ((((((w.alloc (.cells #[.int .u64 0, .int .u64 0, .int .u64 0, .int .u64 0] 39)).alloc (.cells #[.int .i64 0, .int .i64 0] 119)).alloc (.cells #[.int .i64 0, .int .i64 0] 132)).alloc (.cells #[.int .u64 0, .int .u64 0, .int .u64 0, .int .u64 0] 39)).alloc (.cells #[.slice (some ⟨L, lo, none⟩) N cap] 101)).alloc (.cells #[.int .i64 8192] 3)).cell? ⟨w.heap.size, 2, none⟩ = some (.int .u64 0) := by go_simp
 have a3 : ((((((w.alloc (.cells #[.int .u64 0, .int .u64 0, .int .u64 0, .int .u64 0] 39)).alloc (.cells #[.int .i64 0, .int .i64 0] 119)).alloc (.cells #[.int .i64 0, .int .i64 0] 132)).alloc (.cells #[.int .u64 0, .int .u64 0, .int .u64 0, .int .u64 0] 39)).alloc (.cells #[.slice (some ⟨L, lo, none⟩) N cap] 101)).alloc (.cells #[.int .i64 8192] 3)).cell? ⟨w.heap.size, 3, none⟩ = some (.int .u64 0) := by go_simp
 have c3 : ((((((w.alloc (.cells #[.int .u64 0, .int .u64 0, .int .u64 0, .int .u64 0] 39)).alloc (.cells #[.int .i64 0, .int .i64 0] 119)).alloc (.cells #[.int .i64 0, .int .i64 0] 132)).alloc (.cells #[.int .u64 0, .int .u64 0, .int .u64 0, .int .u64 0] 39)).alloc (.cells #[.slice (some ⟨L, lo, none⟩) N cap] 101)).alloc (.cells #[.int .i64 8192] 3)).cell? ⟨w.heap.size + 1, 0, none⟩ = some (.int .i64 0) := by go_simp
 have d3 : ((((((w.alloc (.cells #[.int .u64 0, .int .u64 0, .int .u64 0, .int .u64 0] 39)).alloc (.cells #[.int .i64 0, .int .i64 0] 119)).alloc (.cells #[.int .i64 0, .int .i64 0] 132)).alloc (.cells #[.int .u64 0, .int .u64 0, .int .u64 0, .int .u64 0] 39)).alloc (.cells #[.slice (some ⟨L, lo, none⟩) N cap] 101)).alloc (.cells #[.int .i64 8192] 3)).cell? ⟨w.heap.size + 1, 1, none⟩ = some (.int .i64 0) := by go_simp
 have b0 : ((((((w.alloc (.cells #[.int .u64 0, .int .u64 0, .int .u64 0, .int .u64 0] 39)).alloc (.cells #[.int .i64 0, .int .i64 0] 119)).alloc (.cells #[.int .i64 0, .int .i64 0] 132)).alloc (.cells #[.int .u64 0, .int .u64 0, .int .u64 0, .int .u64 0] 39)).alloc (.cells #[.slice (some ⟨L, lo, none⟩) N cap] 101)).alloc (.cells #[.int .i64 8192] 3)).cell? ⟨w.heap.size + 1 + 1 + 1, 0, none⟩ = some (.int .u64 0) := by go_simp
 have b1 : ((((((w.alloc (.cells #[.int .u64 0, .int .u64 0, .int .u64 0, .int .u64 0] 39)).alloc (.cells #[.int .i64 0, .int .i64 0] 119)).alloc (.cells #[.int .i64 0, .int .i64 0] 132)).alloc (.cells #[.int .u64 0, .int .u64 0, .int .u64 0, .int .u64 0] 39)).alloc (.cells #[.slice (some ⟨L, lo, none⟩) N cap] 101)).alloc (.cells #[.int .i64 8192] 3)).cell? ⟨w.heap.size + 1 + 1 + 1, 1, none⟩ = some (.int .u64 0) := by go_simp
 have b2 : ((((((w.alloc (.cells #[.int .u64 0, .int .u64 0, .int .u64 0, .int .u64 0] 39)).alloc (.cells #[.int .i64 0, .int .i64 0] 119)).alloc (.cells #[.int .i64 0, .int .i64 0] 132)).alloc (.cells #[.int .u64 0, .int .u64 0, .int .u64 0, .int .u64 0] 39)).alloc (.cells #[.slice (some ⟨L, lo, none⟩) N cap] 101)).alloc (.cells #[.int .i64 8192] 3)).cell? ⟨w.heap.size + 1 + 1 + 1, 2, none⟩ = some (.int .u64 0) := by go_simp
 have b3 : ((((((w.alloc (.cells #[.int .u64 0, .int .u64 0, .int .u64 0, .int .u64 0] 39)).alloc (.cells #[.int .i64 0, .int .i64 0] 119)).alloc (.cells #[.int .i64 0, .int .i64 0] 132)).alloc (.cells #[.int .u64 0, .int .u64 0, .int .u64 0, .int .u64 0] 39)).alloc (.cells #[.slice (some ⟨L, lo, none⟩) N cap] 101)).alloc (.cells #[.int .i64 8192] 3)).cell? ⟨w.heap.size + 1 + 1 + 1, 3, none⟩ = some (.int .u64 0) := by go_simp
 have c6 : ((((((w.alloc (.cells #[.int .u64 0, .int .u64 0, .int .u64 0, .int .u64 0] 39)).alloc (.cells #[.int .i64 0, .int .i64 0] 119)).alloc (.cells #[.int .i64 0, .int .i64 0] 132)).alloc (.cells #[.int .u64 0, .int .u64 0, .int .u64 0, .int .u64 0] 39)).alloc (.cells #[.slice (some ⟨L, lo, none⟩) N cap] 101)).alloc (.cells #[.int .i64 8192] 3)).cell? ⟨w.heap.size + 1 + 1 + 1 + 1, 0, none⟩ = some (.slice (some ⟨L, lo, none⟩) N cap) := by go_simp
 have c7 : ((((((w.alloc (.cells #[.int .u64 0, .int .u64 0, .int .u64 0, .int .u64 0] 39)).alloc (.cells #[.int .i64 0, .int .i64 0] 119)).alloc (.cells #[.int .i64 0, .int .i64 0] 132)).alloc (.cells #[.int .u64 0, .int .u64 0, .int .u64 0, .int .u64 0] 39)).alloc (.cells #[.slice (some ⟨L, lo, none⟩) N cap] 101)).alloc (.cells #[.int .i64 8192] 3)).cell? ⟨w.heap.size + 1 + 1 + 1 + 1 + 1, 0, none⟩ = some (.int .i64 8192) := by go_simp
 have f2 : ∀ j, j < 4 → ((((((w.alloc (.cells #[.int .u64 0, .int .u64 0, .int .u64 0, .int .u64 0] 39)).alloc (.cells #[.int .i64 0, .int .i64 0] 119)).alloc (.cells #[.int .i64 0, .int .i64 0] 132)).alloc (.cells #[.int .u64 0, .int .u64 0, .int .u64 0, .int .u64 0] 39)).alloc (.cells #[.slice (some ⟨L, lo, none⟩) N cap] 101)).alloc (.cells #[.int .i64 8192] 3)).frozen? ⟨w.heap.size, j, none⟩ = false := fun j _ => by go_simp
 have f3 : ((((((w.alloc (.cells #[.int .u64 0, .int .u64 0, .int .u64 0, .int .u64 0] 39)).alloc (.cells #[.int .i64 0, .int .i64 0] 119)).alloc (.cells #[.int .i64 0, .int .i64 0] 132)).alloc (.cells #[.int .u64 0, .int .u64 0, .int .u64 0, .int .u64 0] 39)).alloc (.cells #[.slice (some ⟨L, lo, none⟩) N cap] 101)).alloc (.cells #[.int .i64 8192] 3)).frozen? ⟨w.heap.size + 1, 0, none⟩ = false := by go_simp
 have g3 : ((((((w.alloc (.cells #[.int .u64 0, .int .u64 0, .int .u64 0, .int .u64 0] 39)).alloc (.cells #[.int .i64 0, .int .i64 0] 119)).alloc (.cells #[.int .i64 0, .int .i64 0] 132)).alloc (.cells #[.int .u64 0, .int .u64 0, .int .u64 0, .int .u64 0] 39)).alloc (.cells #[.slice (some ⟨L, lo, none⟩) N cap] 101)).alloc (.cells #[.int .i64 8192] 3)).frozen? ⟨w.heap.size + 1, 1, none⟩ = false := by go_simp
 have f5 : ∀ j, j < 4 → ((((((w.alloc (.cells #[.int .u64 0, .int .u64 0, .int .u64 0, .int .u64 0] 39)).alloc (.cells #[.int .i64 0, .int .i64 0] 119)).alloc (.cells #[.int .i64 0, .int .i64 0] 132)).alloc (.cells #[.int .u64 0, .int .u64 0, .int .u64 0, .int .u64 0] 39)).alloc (.cells #[.slice (some ⟨L, lo, none⟩) N cap] 101)).alloc (.cells #[.int .i64 8192] 3)).frozen? ⟨w.heap.size + 1 + 1 + 1, j, none⟩ = false := fun j _ => by go_simp
 have H4 : Hd ((((((w.alloc (.cells #[.int .u64 0, .int .u64 0, .int .u64 0, .int .u64 0] 39)).alloc (.cells #[.int .i64 0, .int .i64 0] 119)).alloc (.cells #[.int .i64 0, .int .i64 0] 132)).alloc (.cells #[.int .u64 0, .int .u64 0, .int .u64 0, .int .u64 0] 39)).alloc (.cells #[.slice (some ⟨L, lo, none⟩) N cap] 101)).alloc (.cells #[.int .i64 8192] 3)) (w.heap.size + 1 + 1) := (Hd.new ((w.alloc (.cells #[.int .u64 0, .int .u64 0, .int .u64 0, .int .u64 0] 39)).alloc (.cells #[.int .i64 0, .int .i64 0] 119)) 132 (w.heap.size + 1 + 1) (by simp only [World.size_alloc])).keep (bl_trans (bl_trans (bl_alloc _ _) (bl_alloc _ _)) (bl_alloc _ _))
 have BB : Below w.heap.size w ((((((w.alloc (.cells #[.int .u64 0, .int .u64 0, .int .u64 0, .int .u64 0] 39)).alloc (.cells #[.int .i64 0, .int .i64 0] 119)).alloc (.cells #[.int .i64 0, .int .i64 0] 132)).alloc (.cells #[.int .u64 0, .int .u64 0, .int .u64 0, .int .u64 0] 39)).alloc (.cells #[.slice (some ⟨L, lo, none⟩) N cap] 101)).alloc (.cells #[.int .i64 8192] 3)) := bl_trans (bl_trans (bl_trans (bl_trans (bl_trans (bl_alloc w _) (bl_alloc _ _)) (bl_alloc _ _)) (bl_alloc _ _)) (bl_alloc _ _)) (bl_alloc _ _)
 obtain ⟨W0, hW0⟩ : ∃ W0, ((((((w.alloc (.cells #[.int .u64 0, .int .u64 0, .int .u64 0, .int .u64 0] 39)).alloc (.cells #[.int .i64 0, .int .i64 0] 119)).alloc (.cells #[.int .i64 0, .int .i64 0] 132)).alloc (.cells #[.int .u64 0, .int .u64 0, .int .u64 0, .int .u64 0] 39)).alloc (.cells #[.slice (some ⟨L, lo, none⟩) N cap] 101)).alloc (.cells #[.int .i64 8192] 3)) = W0 := ⟨_, rfl⟩
 rw [hW0] at hsz a0 a1 a2 a3 c3 d3 b0 b1 b2 b3 c6 c7 f3 g3 BB H4 ⊢
 simp only [hW0] at f2 f5
 clear hW0 BC
 have S0 : Sn w W0 (tot (fun q => (ks q).n * fs q 0) N) false := ⟨range4 (p := ⟨0, 0, 0, 0⟩) a0 a1 a2 a3, f2, c3, f3, d3, g3, H4, ⟨zero4, range4 (p := ⟨0, 0, 0, 0⟩) b0 b1 b2 b3, fun _ => rfl, fun e => by simp at e⟩, f5, BB⟩
 refine wpIn_rangeFunc_ownH (α := Unit) rfl (by omega) (gf := 61) (lb := #[.pointer (some ⟨w.heap.size + 1 + 1 + 1 + 1, 0, none⟩), .pointer (some ⟨w.heap.size + 1 + 1 + 1 + 1 + 1, 0, none⟩)]) rfl trivial (enters_of Tryz.func61 (by kernel_rfl) rfl)
  (chunk_stops Fence.wide 2 trivial rfl (by omega) (w.heap.size + 1 + 1 + 1 + 1) (w.heap.size + 1 + 1 + 1 + 1 + 1) L lo N cap hN0 hN hcap W0 c6 c7) (fun h1 h2 => h1.trans h2) (fun W l o o' hl _ _ _ => KB.putObj (n := W0.heap.size) (by omega) (by omega) W l o o' hl) (Below.refl _ _) (fun _ => rfl)
  (fun pre W => Sn w W (tot (fun q => (ks q).n * fs q 0) N) (!pre.isEmpty) ∧ w.heap.size + 1 + 1 + 1 + 1 + 1 + 1 ≤ W.heap.size)
  (fun _ _ _ => False)
  (fun pre X Y row hs hgr hr => ⟨hs.1.own hgr (fun r e => ⟨by have := (hr r e).1; omega, (hr r e).2⟩), Nat.le_trans hs.2 hgr.size⟩)
  (fun _ _ _ _ _ hs _ _ => hs)
  ⟨S0, by omega⟩
  (fun x a' W => a' = { tmps := #[.slice (some ⟨L, lo, none⟩) N cap, undef, .pointer (some ⟨w.heap.size, 0, none⟩), .pointer (some ⟨w.heap.size + 1, 0, none⟩), .pointer (some ⟨w.heap.size + 1 + 1, 0, none⟩), .pointer (some ⟨w.heap.size + 1 + 1 + 1, 0, none⟩), .slice (some ⟨L, lo, none⟩) N N, .slice (some ⟨L, lo, none⟩) N cap, .func (.func 61) #[] #[.pointer (some ⟨w.heap.size + 1 + 1 + 1 + 1, 0, none⟩), .pointer (some ⟨w.heap.size + 1 + 1 + 1 + 1 + 1, 0, none⟩)], .slice (some ⟨L, lo, none⟩) N N, undef, undef, undef, undef, undef, undef, undef], defers := [] })
  (fun x a' _ X Y row hs hgr hr => hs)
  ?assign ?body ?done ?stop
 case assign =>
  rintro l pre x W K0 hI hK0
  gi_wp2
  exact hK0 _ _ (KeepsFrom.refl _ _) ⟨rfl, rfl⟩ hI rfl
 case body =>
  rintro l pre x a' W hl ⟨r, hr⟩ ⟨h1, h3⟩ rfl hlt
  obtain rfl : pre = [] := by
   cases pre with
   | nil => rfl
   | cons a b => simp at hlt
  have h1d := sn_drew h1
  have B1 := bl_drew W
  have TT := hT.keep h1d.bl
  obtain ⟨z0, r5, zz, -⟩ := id h1d.t5
  obtain rfl := zz rfl
  have z50 : W.drew.cell? ⟨w.heap.size + 1 + 1 + 1, 0, none⟩ = some (.int .u64 0) := r5 0 _ rfl
  have z51 : W.drew.cell? ⟨w.heap.size + 1 + 1 + 1, 1, none⟩ = some (.int .u64 0) := r5 1 _ rfl
  have z52 : W.drew.cell? ⟨w.heap.size + 1 + 1 + 1, 2, none⟩ = some (.int .u64 0) := r5 2 _ rfl
  have z53 : W.drew.cell? ⟨w.heap.size + 1 + 1 + 1, 3, none⟩ = some (.int .u64 0) := r5 3 _ rfl
  have R5 := hidden r5
  have F5 := hidden h1d.f5
  have CA := hidden (callsIn_wide (n := 0) |>.2 (cheapest_any (w.heap.size + 1 + 1) N L lo N ks fs W.drew hN TT h1d.hd (hTm.keep h1d.bl)))
  have TB := hidden (h1d.hd.tb TT)
  have HTT := hidden TT
  have SZ : Hid (w.heap.size + 1 + 1 + 1 + 1 + 1 + 1 ≤ W.drew.heap.size) := hidden (Nat.le_trans h3 B1.size)
  have HS := hidden h1d
  have n3 : w.heap.size + 1 + 1 + 1 ≠ w.heap.size + 1 + 1 := by omega
  clear h1 h1d B1 TT zz r5
  gi_wp2
  gi_region_with (first
   | (refine ⟨trivial, ?_⟩; gi_at_call 59; refine (CallsIn.inRound l CA.out).mono ?_; rintro e wa ⟨rr, rfl, hrr, hda, hga⟩; have ra := range_gb R5.out hga n3; have u0 : wa.cell? ⟨w.heap.size + 1 + 1 + 1, 0, none⟩ = some (.int .u64 0) := ra 0 _ rfl; have u1 : wa.cell? ⟨w.heap.size + 1 + 1 + 1, 1, none⟩ = some (.int .u64 0) := ra 1 _ rfl; have u2 : wa.cell? ⟨w.heap.size + 1 + 1 + 1, 2, none⟩ = some (.int .u64 0) := ra 2 _ rfl; have u3 : wa.cell? ⟨w.heap.size + 1 + 1 + 1, 3, none⟩ = some (.int .u64 0) := ra 3 _ rfl; have CB := hidden (callsIn_wide (n := 0) |>.2 (hadd (w.heap.size + 1 + 1) zero4 rr wa (HTT.out.keep0 hga TB.out) hda z4ok hrr.1)); obtain ⟨q, hq⟩ : ∃ q, lst (zero4.n + rr.n) = q := ⟨_, rfl⟩; rw [hq] at CB; unfold E4.v zero4 at CB; have HQ : Hid (q = lst (tot (fun q => (ks q).n * fs q 0) N)) := hidden (by rw [← hq, z4n, Int.zero_add]; exact hrr.2 0); have HA := hidden hga; have RA := hidden ra; have FA : Hid (∀ j, j < 4 → wa.frozen? ⟨w.heap.size + 1 + 1 + 1, j, none⟩ = false) := hidden (fun j hj => (gb_frozen_some hga (some4 R5.out hj) n3).trans (F5.out j hj)); clear hrr hda hga CA ra hq)
   | (refine ⟨trivial, ?_⟩; gi_at_call 58; refine (CallsIn.inRound l CB.out).mono ?_; rintro e wb ⟨rfl, hdb, hgb⟩; have rb := range_gb RA.out hgb n3; have x0 : wb.cell? ⟨w.heap.size + 1 + 1 + 1, 0, none⟩ = some (.int .u64 0) := rb 0 _ rfl; have x1 : wb.cell? ⟨w.heap.size + 1 + 1 + 1, 1, none⟩ = some (.int .u64 0) := rb 1 _ rfl; have x2 : wb.cell? ⟨w.heap.size + 1 + 1 + 1, 2, none⟩ = some (.int .u64 0) := rb 2 _ rfl; have x3 : wb.cell? ⟨w.heap.size + 1 + 1 + 1, 3, none⟩ = some (.int .u64 0) := rb 3 _ rfl; have fb : ∀ j, j < 4 → wb.frozen? ⟨w.heap.size + 1 + 1 + 1, j, none⟩ = false := (fun j hj => (gb_frozen_some hgb (some4 RA.out hj) n3).trans (FA.out j hj)); have y0 := fb 0 (by omega); have y1 := fb 1 (by omega); have y2 := fb 2 (by omega); have y3 := fb 3 (by omega); have HB := hidden (And.intro hdb hgb); clear hdb hgb CB rb fb))
  all_goals
   gi_wp2
   obtain ⟨hdb, hgb⟩ := HB.out
   have gAB := HA.out.trans hgb
   have szW := SZ.out
   have hsA := HA.out.size
   have P1 := HS.out.put gAB hdb HQ.out
   have P2 : KeepsFrom W0.heap.size W (setS wb (w.heap.size + 1 + 1 + 1) 0 q) := ((KeepsFrom.of_grownBy (gbI (bl_drew W) none) (fun q e => by cases e)).trans (KeepsFrom.of_grownBy gAB (fun q e => by have := Option.some.inj e; omega))).trans (keeps_setS wb (w.heap.size + 1 + 1 + 1) 0 q W0.heap.size)
   have P3 := KB.trans (KB.trans (show KB (w.heap.size + 1 + 1 + 1 + 1) (w.heap.size + 1 + 1 + 1 + 1 + 1) W W.drew from ⟨rfl, rfl⟩) (KB.gb gAB (by omega) (by omega) (by omega) (by omega))) (KB.setS4 (q := w.heap.size + 1 + 1 + 1) (o := 0) (r := q) (by omega) (by omega))
   have P4 : w.heap.size + 1 + 1 + 1 + 1 + 1 + 1 ≤ (setS wb (w.heap.size + 1 + 1 + 1) 0 q).heap.size := by rw [setS_size]; have := gAB.size; omega
   unfold setS at P1 P2 P3 P4
   exact ⟨P2, P3, P1, P4⟩
 case done =>
  rintro Dd xs W hDd hS ⟨h1, h3⟩ hKd
  obtain rfl := hS
  obtain ⟨z, h7, -, hz⟩ := id h1.t5
  have HZ := hidden (hz rfl)
  clear hz
  have s0 : W.cell? ⟨w.heap.size + 1 + 1 + 1, 0, none⟩ = some (.int .u64 z.x0) := h7 0 _ rfl
  have s1 : W.cell? ⟨w.heap.size + 1 + 1 + 1, 1, none⟩ = some (.int .u64 z.x1) := h7 1 _ rfl
  have s2 : W.cell? ⟨w.heap.size + 1 + 1 + 1, 2, none⟩ = some (.int .u64 z.x2) := h7 2 _ rfl
  have s3 : W.cell? ⟨w.heap.size + 1 + 1 + 1, 3, none⟩ = some (.int .u64 z.x3) := h7 3 _ rfl
  have u0 : W.cell? ⟨w.heap.size, 0, none⟩ = some (.int .u64 0) := h1.t2 0 _ rfl
  have u1 : W.cell? ⟨w.heap.size, 1, none⟩ = some (.int .u64 0) := h1.t2 1 _ rfl
  have u2 : W.cell? ⟨w.heap.size, 2, none⟩ = some (.int .u64 0) := h1.t2 2 _ rfl
  have u3' : W.cell? ⟨w.heap.size, 3, none⟩ = some (.int .u64 0) := h1.t2 3 _ rfl
  have v0 := h1.f2 0 (by omega)
  have v1 := h1.f2 1 (by omega)
  have v2 := h1.f2 2 (by omega)
  have v3 := h1.f2 3 (by omega)
  have t3 := h1.t3
  have u3 := h1.u3
  have f3 := h1.f3
  have g3 := h1.g3
  obtain ⟨z1, z2, q1, q2, q3⟩ := id h1.hd
  gi_wp2
  gi_region
  all_goals
   gi_wp2
   have hK0 : (((((((W.setCell ⟨w.heap.size, 0, none⟩ (.int .u64 z.x0)).setCell ⟨w.heap.size, 1, none⟩ (.int .u64 z.x1)).setCell ⟨w.heap.size, 2, none⟩ (.int .u64 z.x2)).setCell ⟨w.heap.size, 3, none⟩ (.int .u64 z.x3)).setCell ⟨w.heap.size + 1, 0, none⟩ (.int .i64 z1)).setCell ⟨w.heap.size + 1, 1, none⟩ (.int .i64 z2))).heap[Dd]? = some (.deferred (some [])) := def_set (def_set (def_set (def_set (def_set (def_set hKd _ _) _ _) _ _) _ _) _ _) _ _
   have hK' : (((((((W.setCell ⟨w.heap.size, 0, none⟩ (.int .u64 z.x0)).setCell ⟨w.heap.size, 1, none⟩ (.int .u64 z.x1)).setCell ⟨w.heap.size, 2, none⟩ (.int .u64 z.x2)).setCell ⟨w.heap.size, 3, none⟩ (.int .u64 z.x3)).setCell ⟨w.heap.size + 1, 0, none⟩ (.int .i64 z1)).setCell ⟨w.heap.size + 1, 1, none⟩ (.int .i64 z2)).drew).heap[Dd]? = some (.deferred (some [])) := def_drew hK0
   refine ⟨by simp, .inl ⟨_, _, rfl, run_takeDeferred hK', ?_⟩⟩
   have a0 : (((((((W.setCell ⟨w.heap.size, 0, none⟩ (.int .u64 z.x0)).setCell ⟨w.heap.size, 1, none⟩ (.int .u64 z.x1)).setCell ⟨w.heap.size, 2, none⟩ (.int .u64 z.x2)).setCell ⟨w.heap.size, 3, none⟩ (.int .u64 z.x3)).setCell ⟨w.heap.size + 1, 0, none⟩ (.int .i64 z1)).setCell ⟨w.heap.size + 1, 1, none⟩ (.int .i64 z2)).drew).cell? ⟨w.heap.size, 0, none⟩ = some (.int .u64 z.x0) := by go_simp
   have a1 : (((((((W.setCell ⟨w.heap.size, 0, none⟩ (.int .u64 z.x0)).setCell ⟨w.heap.size, 1, none⟩ (.int .u64 z.x1)).setCell ⟨w.heap.size, 2, none⟩ (.int .u64 z.x2)).setCell ⟨w.heap.size, 3, none⟩ (.int .u64 z.x3)).setCell ⟨w.heap.size + 1, 0, none⟩ (.int .i64 z1)).setCell ⟨w.heap.size + 1, 1, none⟩ (.int .i64 z2)).drew).cell? ⟨w.heap.size, 1, none⟩ = some (.int .u64 z.x1) := by go_simp
   have a2 : (((((((W.setCell ⟨w.heap.size, 0, none⟩ (.int .u64 z.x0)).setCell ⟨w.heap.size, 1, none⟩ (.int .u64 z.x1)).setCell ⟨w.heap.size, 2, none⟩ (.int .u64 z.x2)).setCell ⟨w.heap.size, 3, none⟩ (.int .u64 z.x3)).setCell ⟨w.heap.size + 1, 0, none⟩ (.int .i64 z1)).setCell ⟨w.heap.size + 1, 1, none⟩ (.int .i64 z2)).drew).cell? ⟨w.heap.size, 2, none⟩ = some (.int .u64 z.x2) := by go_simp
   have a3 : (((((((W.setCell ⟨w.heap.size, 0, none⟩ (.int .u64 z.x0)).setCell ⟨w.heap.size, 1, none⟩ (.int .u64 z.x1)).setCell ⟨w.heap.size, 2, none⟩ (.int .u64 z.x2)).setCell ⟨w.heap.size, 3, none⟩ (.int .u64 z.x3)).setCell ⟨w.heap.size + 1, 0, none⟩ (.int .i64 z1)).setCell ⟨w.heap.size + 1, 1, none⟩ (.int .i64 z2)).drew).cell? ⟨w.heap.size, 3, none⟩ = some (.int .u64 z.x3) := by go_simp
   have a4 : (((((((W.setCell ⟨w.heap.size, 0, none⟩ (.int .u64 z.x0)).setCell ⟨w.heap.size, 1, none⟩ (.int .u64 z.x1)).setCell ⟨w.heap.size, 2, none⟩ (.int .u64 z.x2)).setCell ⟨w.heap.size, 3, none⟩ (.int .u64 z.x3)).setCell ⟨w.heap.size + 1, 0, none⟩ (.int .i64 z1)).setCell ⟨w.heap.size + 1, 1, none⟩ (.int .i64 z2)).drew).cell? ⟨w.heap.size + 1, 0, none⟩ = some (.int .i64 z1) := by go_simp
   have a5 : (((((((W.setCell ⟨w.heap.size, 0, none⟩ (.int .u64 z.x0)).setCell ⟨w.heap.size, 1, none⟩ (.int .u64 z.x1)).setCell ⟨w.heap.size, 2, none⟩ (.int .u64 z.x2)).setCell ⟨w.heap.size, 3, none⟩ (.int .u64 z.x3)).setCell ⟨w.heap.size + 1, 0, none⟩ (.int .i64 z1)).setCell ⟨w.heap.size + 1, 1, none⟩ (.int .i64 z2)).drew).cell? ⟨w.heap.size + 1, 1, none⟩ = some (.int .i64 z2) := by go_simp
   have B4 : Below w.heap.size w (((((((W.setCell ⟨w.heap.size, 0, none⟩ (.int .u64 z.x0)).setCell ⟨w.heap.size, 1, none⟩ (.int .u64 z.x1)).setCell ⟨w.heap.size, 2, none⟩ (.int .u64 z.x2)).setCell ⟨w.heap.size, 3, none⟩ (.int .u64 z.x3)).setCell ⟨w.heap.size + 1, 0, none⟩ (.int .i64 z1)).setCell ⟨w.heap.size + 1, 1, none⟩ (.int .i64 z2)).drew) := ((((((h1.bl.setCell (Nat.le_refl _) _).setCell (Nat.le_refl _) _).setCell (Nat.le_refl _) _).setCell (Nat.le_refl _) _).setCell (by simp only; omega) _).setCell (by simp only; omega) _).drew
   generalize (((((((W.setCell ⟨w.heap.size, 0, none⟩ (.int .u64 z.x0)).setCell ⟨w.heap.size, 1, none⟩ (.int .u64 z.x1)).setCell ⟨w.heap.size, 2, none⟩ (.int .u64 z.x2)).setCell ⟨w.heap.size, 3, none⟩ (.int .u64 z.x3)).setCell ⟨w.heap.size + 1, 0, none⟩ (.int .i64 z1)).setCell ⟨w.heap.size + 1, 1, none⟩ (.int .i64 z2)).drew) = W4 at *
   have gp := grownBy_putObj' W4 Dd (.deferred none)
   have kp : ∀ (a : Addr) (v : Value), W4.cell? a = some v → (W4.putObj Dd (.deferred none)).cell? a = some v := fun a v hv => cell_kept hv gp (fun r e => by cases e; exact ⟨_, hK', rfl⟩)
   have e0 := kp _ _ a0
   have e1 := kp _ _ a1
   have e2 := kp _ _ a2
   have e3 := kp _ _ a3
   have e4 := kp _ _ a4
   have e5 := kp _ _ a5
   rw [← HZ.out]
   unfold E4.v
   refine ⟨.tuple #[.agg #[.int .u64 z.x0, .int .u64 z.x1, .int .u64 z.x2, .int .u64 z.x3], .agg #[.int .i64 z1, .int .i64 z2]], ?_, z1, z2, rfl, B4.grown gp B4.size (fun j hj => by obtain rfl := Option.some.inj hj; omega)⟩
   simp [results, Tryz.results55, go_sem, e0, e1, e2, e3, e4, e5]
 case stop =>
  rintro Dd c pre W _ _ h _
  exact h.elim
end Go.Proofs.YtbbnjmjeeiglcaaGreatDoor.Li
namespace Go.Proofs.YtbbnjmjeeiglcaaGreatDoor
open Go.RowKit
theorem stands_L (R I g n cR cI cn : Nat) (w : World) (hn : 1 ≤ n) (hr : w.cell? ⟨R, 0, none⟩ = some (.slice (some ⟨g, 0, none⟩) n cn)) :
  Calls Tryz.prog 44 #[.agg #[.slice (some ⟨R, 0, none⟩) 1 cR, .slice (some ⟨I, 0, none⟩) 1 cI]] w fun e w' => e = .returned (.bool true) ∧ Below w.heap.size w w' := by
 have B0 := bl_alloc w (.cells #[.slice (some ⟨R, 0, none⟩) 1 cR, .slice (some ⟨I, 0, none⟩) 1 cI] 43)
 have e0 : (w.alloc (.cells #[.slice (some ⟨R, 0, none⟩) 1 cR, .slice (some ⟨I, 0, none⟩) 1 cI] 43)).cell? ⟨w.heap.size, 0, none⟩ = some (.slice (some ⟨R, 0, none⟩) 1 cR) := by go_simp
 have e1 : (w.alloc (.cells #[.slice (some ⟨R, 0, none⟩) 1 cR, .slice (some ⟨I, 0, none⟩) 1 cI] 43)).cell? ⟨w.heap.size, 1, none⟩ = some (.slice (some ⟨I, 0, none⟩) 1 cI) := by go_simp
 have r0 := cell_keep hr B0
 have n0 : ¬ (n : Int) = 0 := by omega
 have n1 : ¬ n = 0 := by omega
 clear hr
 go_enter Tryz.func44, Tryz.ntmps44
 go_upto_region 1 with fail
 generalize (w.alloc (.cells #[.slice (some ⟨R, 0, none⟩) 1 cR, .slice (some ⟨I, 0, none⟩) 1 cI] 43)) = w1 at *
 go_wp2_with fail
 go_loopw [21] (fun iv w' => ∃ i : Nat, i ≤ 1 ∧ iv = .int .i64 i ∧ w' = w1) (fun i _ => 1 - (intOf i).toNat)
 case atStart => exact ⟨0, by omega, rfl, rfl⟩
 case round =>
  obtain ⟨i, hi, rfl, rfl⟩ := hrel
  by_cases hin : i = 0
  ·subst hin
   go_wp2_with fail
   go_roundw
   case rel => exact ⟨1, by omega, by go_num, by simp⟩
   case measure => simp [intOf]
  ·obtain rfl : i = 1 := by omega
   go_wp2_with fail
   refine bodyPost_ret (v := .bool true) (by simp [results, Tryz.results44, go_sem]) rfl ⟨rfl, B0⟩
theorem fits_L (R I g n cR cI cn T cx : Nat) (Px : Option Addr) (w : World) (hn : 1 ≤ n) (hr : w.cell? ⟨R, 0, none⟩ = some (.slice (some ⟨g, 0, none⟩) n cn)) (ht : w.cell? ⟨T, 0, none⟩ = some (.slice Px n cx)) :
  Calls Tryz.prog 25 #[.agg #[.slice (some ⟨R, 0, none⟩) 1 cR, .slice (some ⟨I, 0, none⟩) 1 cI], .slice (some ⟨T, 0, none⟩) 1 1] w fun e w' => e = .returned (.bool true) ∧ Below w.heap.size w w' := by
 have B0 := bl_alloc w (.cells #[.slice (some ⟨R, 0, none⟩) 1 cR, .slice (some ⟨I, 0, none⟩) 1 cI] 43)
 have e0 : (w.alloc (.cells #[.slice (some ⟨R, 0, none⟩) 1 cR, .slice (some ⟨I, 0, none⟩) 1 cI] 43)).cell? ⟨w.heap.size, 0, none⟩ = some (.slice (some ⟨R, 0, none⟩) 1 cR) := by go_simp
 have e1 : (w.alloc (.cells #[.slice (some ⟨R, 0, none⟩) 1 cR, .slice (some ⟨I, 0, none⟩) 1 cI] 43)).cell? ⟨w.heap.size, 1, none⟩ = some (.slice (some ⟨I, 0, none⟩) 1 cI) := by go_simp
 have r0 := cell_keep hr B0
 have t0 := cell_keep ht B0
 have SC := hidden (stands_L R I g n cR cI cn (w.alloc (.cells #[.slice (some ⟨R, 0, none⟩) 1 cR, .slice (some ⟨I, 0, none⟩) 1 cI] 43)) hn r0)
 clear hr ht
 go_enter Tryz.func25, Tryz.ntmps25
 go_upto_region 1 with fail
 generalize (w.alloc (.cells #[.slice (some ⟨R, 0, none⟩) 1 cR, .slice (some ⟨I, 0, none⟩) 1 cI] 43)) = w1 at *
 go_wp2_with (first | (go_at_call 44; refine SC.out.mono ?_; rintro e wa ⟨rfl, ha⟩; have a0 := cell_keep e0 ha; have a1 := cell_keep r0 ha; have a2 := cell_keep t0 ha; have BA := hidden (bl_trans B0 ha); clear SC ha e0 e1 r0 t0))
 go_loopw [12] (fun iv w' => ∃ i : Nat, i ≤ 1 ∧ iv = .int .i64 i ∧ w' = wa) (fun i _ => 1 - (intOf i).toNat)
 case atStart => exact ⟨0, by omega, rfl, rfl⟩
 case round =>
  obtain ⟨i, hi, rfl, rfl⟩ := hrel
  by_cases hin : i = 0
  ·subst hin
   go_wp2_with fail
   go_roundw
   case rel => exact ⟨1, by omega, by go_num, by simp⟩
   case measure => simp [intOf]
  ·obtain rfl : i = 1 := by omega
   go_wp2_with fail
   refine bodyPost_ret (v := .bool true) (by simp [results, Tryz.results25, go_sem]) rfl ⟨rfl, BA.out⟩
theorem lSame_any (a b : E4) (w : World) (hT : Tb w) (ha : a.ok) (hb : b.ok) :
  Calls Tryz.prog 132 #[.agg #[.int .u64 a.x0, .int .u64 a.x1, .int .u64 a.x2, .int .u64 a.x3], .agg #[.int .u64 b.x0, .int .u64 b.x1, .int .u64 b.x2, .int .u64 b.x3]] w fun e w' => e = .returned (.bool ((lst a.n).same (lst b.n))) ∧ Below w.heap.size w w' := by
 have B0 := bl_alloc2 w (.cells #[.int .u64 a.x0, .int .u64 a.x1, .int .u64 a.x2, .int .u64 a.x3] 39) (.cells #[.int .u64 b.x0, .int .u64 b.x1, .int .u64 b.x2, .int .u64 b.x3] 39)
 have a0 : ((w.alloc (.cells #[.int .u64 a.x0, .int .u64 a.x1, .int .u64 a.x2, .int .u64 a.x3] 39)).alloc (.cells #[.int .u64 b.x0, .int .u64 b.x1, .int .u64 b.x2, .int .u64 b.x3] 39)).cell? ⟨w.heap.size, 0, none⟩ = some (.int .u64 a.x0) := by go_simp
 have a1 : ((w.alloc (.cells #[.int .u64 a.x0, .int .u64 a.x1, .int .u64 a.x2, .int .u64 a.x3] 39)).alloc (.cells #[.int .u64 b.x0, .int .u64 b.x1, .int .u64 b.x2, .int .u64 b.x3] 39)).cell? ⟨w.heap.size, 1, none⟩ = some (.int .u64 a.x1) := by go_simp
 have a2 : ((w.alloc (.cells #[.int .u64 a.x0, .int .u64 a.x1, .int .u64 a.x2, .int .u64 a.x3] 39)).alloc (.cells #[.int .u64 b.x0, .int .u64 b.x1, .int .u64 b.x2, .int .u64 b.x3] 39)).cell? ⟨w.heap.size, 2, none⟩ = some (.int .u64 a.x2) := by go_simp
 have a3 : ((w.alloc (.cells #[.int .u64 a.x0, .int .u64 a.x1, .int .u64 a.x2, .int .u64 a.x3] 39)).alloc (.cells #[.int .u64 b.x0, .int .u64 b.x1, .int .u64 b.x2, .int .u64 b.x3] 39)).cell? ⟨w.heap.size, 3, none⟩ = some (.int .u64 a.x3) := by go_simp
 have b0 : ((w.alloc (.cells #[.int .u64 a.x0, .int .u64 a.x1, .int .u64 a.x2, .int .u64 a.x3] 39)).alloc (.cells #[.int .u64 b.x0, .int .u64 b.x1, .int .u64 b.x2, .int .u64 b.x3] 39)).cell? ⟨w.heap.size + 1, 0, none⟩ = some (.int .u64 b.x0) := by go_simp
 have b1 : ((w.alloc (.cells #[.int .u64 a.x0, .int .u64 a.x1, .int .u64 a.x2, .int .u64 a.x3] 39)).alloc (.cells #[.int .u64 b.x0, .int .u64 b.x1, .int .u64 b.x2, .int .u64 b.x3] 39)).cell? ⟨w.heap.size + 1, 1, none⟩ = some (.int .u64 b.x1) := by go_simp
 have b2 : ((w.alloc (.cells #[.int .u64 a.x0, .int .u64 a.x1, .int .u64 a.x2, .int .u64 a.x3] 39)).alloc (.cells #[.int .u64 b.x0, .int .u64 b.x1, .int .u64 b.x2, .int .u64 b.x3] 39)).cell? ⟨w.heap.size + 1, 2, none⟩ = some (.int .u64 b.x2) := by go_simp
 have b3 : ((w.alloc (.cells #[.int .u64 a.x0, .int .u64 a.x1, .int .u64 a.x2, .int .u64 a.x3] 39)).alloc (.cells #[.int .u64 b.x0, .int .u64 b.x1, .int .u64 b.x2, .int .u64 b.x3] 39)).cell? ⟨w.heap.size + 1, 3, none⟩ = some (.int .u64 b.x3) := by go_simp
 have SP := hidden (Same_any a b ((w.alloc (.cells #[.int .u64 a.x0, .int .u64 a.x1, .int .u64 a.x2, .int .u64 a.x3] 39)).alloc (.cells #[.int .u64 b.x0, .int .u64 b.x1, .int .u64 b.x2, .int .u64 b.x3] 39)) (hT.keep B0) ha hb)
 generalize (lst a.n).same (lst b.n) = s at *
 unfold E4.v at SP
 go_enter Tryz.func132, Tryz.ntmps132
 go_upto_region 1 with fail
 generalize ((w.alloc (.cells #[.int .u64 a.x0, .int .u64 a.x1, .int .u64 a.x2, .int .u64 a.x3] 39)).alloc (.cells #[.int .u64 b.x0, .int .u64 b.x1, .int .u64 b.x2, .int .u64 b.x3] 39)) = w1 at *
 go_wp2_with (first | (go_at_call 14; refine SP.out.mono ?_; rintro e wa ⟨rfl, hc⟩; have BA := hidden (bl_trans B0 hc); clear hc SP))
 refine bodyPost_ret (v := .bool s) (by simp [results, Tryz.results132, go_sem]) rfl ⟨rfl, BA.out⟩
theorem mt_SameL (p : E4) (w : World) : (method 362 39 (.agg #[.int .u64 p.x0, .int .u64 p.x1, .int .u64 p.x2, .int .u64 p.x3]) "Same").run Tryz.prog w = .ok (132, .agg #[.int .u64 p.x0, .int .u64 p.x1, .int .u64 p.x2, .int .u64 p.x3]) w := by kernel_rfl
theorem equal_L (A B cA cB : Nat) (p q : E4) (b : Bool) (w : World) (ha0 : w.cell? ⟨A, 0, none⟩ = some (.int .u64 p.x0)) (ha1 : w.cell? ⟨A, 1, none⟩ = some (.int .u64 p.x1)) (ha2 : w.cell? ⟨A, 2, none⟩ = some (.int .u64 p.x2)) (ha3 : w.cell? ⟨A, 3, none⟩ = some (.int .u64 p.x3)) (hb0 : w.cell? ⟨B, 0, none⟩ = some (.int .u64 q.x0)) (hb1 : w.cell? ⟨B, 1, none⟩ = some (.int .u64 q.x1)) (hb2 : w.cell? ⟨B, 2, none⟩ = some (.int .u64 q.x2)) (hb3 : w.cell? ⟨B, 3, none⟩ = some (.int .u64 q.x3))
  (hS : ∀ x, Below w.heap.size w x → Calls Tryz.prog 132 #[.agg #[.int .u64 p.x0, .int .u64 p.x1, .int .u64 p.x2, .int .u64 p.x3], .agg #[.int .u64 q.x0, .int .u64 q.x1, .int .u64 q.x2, .int .u64 q.x3]] x fun e w' => e = .returned (.bool b) ∧ Below x.heap.size x w') :
  Calls Tryz.prog 43 #[.slice (some ⟨A, 0, none⟩) 1 cA, .slice (some ⟨B, 0, none⟩) 1 cB, .func (.methodOf 39 "Same") #[] #[]] w fun e w' => e = .returned (.bool b) ∧ Below w.heap.size w w' := by
 have B2 := bl_alloc2 w (.cells #[.int .u64 p.x0, .int .u64 p.x1, .int .u64 p.x2, .int .u64 p.x3] 39) (.cells #[.int .u64 q.x0, .int .u64 q.x1, .int .u64 q.x2, .int .u64 q.x3] 39)
 have CS := hidden (hS ((w.alloc (.cells #[.int .u64 p.x0, .int .u64 p.x1, .int .u64 p.x2, .int .u64 p.x3] 39)).alloc (.cells #[.int .u64 q.x0, .int .u64 q.x1, .int .u64 q.x2, .int .u64 q.x3] 39)) B2)
 have m1 := mt_SameL p
 have kha0 := cell_keep ha0 (bl_alloc w (.cells #[.int .u64 p.x0, .int .u64 p.x1, .int .u64 p.x2, .int .u64 p.x3] 39))
 have kha1 := cell_keep ha1 (bl_alloc w (.cells #[.int .u64 p.x0, .int .u64 p.x1, .int .u64 p.x2, .int .u64 p.x3] 39))
 have kha2 := cell_keep ha2 (bl_alloc w (.cells #[.int .u64 p.x0, .int .u64 p.x1, .int .u64 p.x2, .int .u64 p.x3] 39))
 have kha3 := cell_keep ha3 (bl_alloc w (.cells #[.int .u64 p.x0, .int .u64 p.x1, .int .u64 p.x2, .int .u64 p.x3] 39))
 have khb0 := cell_keep hb0 (bl_alloc w (.cells #[.int .u64 p.x0, .int .u64 p.x1, .int .u64 p.x2, .int .u64 p.x3] 39))
 have khb1 := cell_keep hb1 (bl_alloc w (.cells #[.int .u64 p.x0, .int .u64 p.x1, .int .u64 p.x2, .int .u64 p.x3] 39))
 have khb2 := cell_keep hb2 (bl_alloc w (.cells #[.int .u64 p.x0, .int .u64 p.x1, .int .u64 p.x2, .int .u64 p.x3] 39))
 have khb3 := cell_keep hb3 (bl_alloc w (.cells #[.int .u64 p.x0, .int .u64 p.x1, .int .u64 p.x2, .int .u64 p.x3] 39))
 clear hS
 go_enter Tryz.func43, Tryz.ntmps43
 go_wp2_with fail
 go_loopw [17] (fun iv w' => ∃ i : Nat, (i = 0 ∧ w' = w ∨ i = 1 ∧ b = true ∧ Hid (Below w.heap.size w w')) ∧ iv = .int .i64 i) (fun i _ => 1 - (intOf i).toNat)
 case atStart => exact ⟨0, .inl ⟨rfl, rfl⟩, rfl⟩
 case round =>
  obtain ⟨i, ⟨rfl, rfl⟩ | ⟨rfl, hb1, BW⟩, rfl⟩ := hrel
  ·cases b with
   | true =>
    go_wp2_with (first | (go_at_call 132; refine CS.out.mono ?_; rintro e wa ⟨rfl, hc⟩; have BA := hidden (bl_trans B2 hc); clear hc CS))
    go_roundw
    case rel => exact ⟨1, .inr ⟨rfl, by simp, BA⟩, by go_num⟩
    case measure => simp [intOf]
   | false =>
    go_wp2_with (first | (go_at_call 132; refine CS.out.mono ?_; rintro e wa ⟨rfl, hc⟩; have BA := hidden (bl_trans B2 hc); clear hc CS))
    refine bodyPost_ret (v := .bool false) (by simp [results, Tryz.results43, go_sem]) rfl ⟨rfl, BA.out⟩
  ·subst hb1
   go_wp2_with fail
   refine bodyPost_ret (v := .bool true) (by simp [results, Tryz.results43, go_sem]) rfl ⟨rfl, BW.out⟩
end Go.Proofs.YtbbnjmjeeiglcaaGreatDoor
namespace Go.Proofs.YtbbnjmjeeiglcaaGreatDoor.Li
open Go.RowKit
def tvl (K G : Nat → E4) (j : Nat) : Value := if j % 8 = 0 then .int .u64 (K (j / 8)).x0 else if j % 8 = 1 then .int .u64 (K (j / 8)).x1 else if j % 8 = 2 then .int .u64 (K (j / 8)).x2 else if j % 8 = 3 then .int .u64 (K (j / 8)).x3 else if j % 8 = 4 then .int .u64 (G (j / 8)).x0 else if j % 8 = 5 then .int .u64 (G (j / 8)).x1 else if j % 8 = 6 then .int .u64 (G (j / 8)).x2 else .int .u64 (G (j / 8)).x3
theorem tvl0 (K G : Nat → E4) (k : Nat) : tvl K G (k * 8) = .int .u64 (K k).x0 := by unfold tvl; rw [if_pos (by omega), show (k * 8) / 8 = k by omega]
theorem tvl1 (K G : Nat → E4) (k : Nat) : tvl K G (k * 8 + 1) = .int .u64 (K k).x1 := by unfold tvl; rw [if_neg (by omega), if_pos (by omega), show (k * 8 + 1) / 8 = k by omega]
theorem tvl2 (K G : Nat → E4) (k : Nat) : tvl K G (k * 8 + 2) = .int .u64 (K k).x2 := by unfold tvl; rw [if_neg (by omega), if_neg (by omega), if_pos (by omega), show (k * 8 + 2) / 8 = k by omega]
theorem tvl3 (K G : Nat → E4) (k : Nat) : tvl K G (k * 8 + 3) = .int .u64 (K k).x3 := by unfold tvl; rw [if_neg (by omega), if_neg (by omega), if_neg (by omega), if_pos (by omega), show (k * 8 + 3) / 8 = k by omega]
theorem tvl4 (K G : Nat → E4) (k : Nat) : tvl K G (k * 8 + 4) = .int .u64 (G k).x0 := by unfold tvl; rw [if_neg (by omega), if_neg (by omega), if_neg (by omega), if_neg (by omega), if_pos (by omega), show (k * 8 + 4) / 8 = k by omega]
theorem tvl5 (K G : Nat → E4) (k : Nat) : tvl K G (k * 8 + 5) = .int .u64 (G k).x1 := by unfold tvl; rw [if_neg (by omega), if_neg (by omega), if_neg (by omega), if_neg (by omega), if_neg (by omega), if_pos (by omega), show (k * 8 + 5) / 8 = k by omega]
theorem tvl6 (K G : Nat → E4) (k : Nat) : tvl K G (k * 8 + 6) = .int .u64 (G k).x2 := by unfold tvl; rw [if_neg (by omega), if_neg (by omega), if_neg (by omega), if_neg (by omega), if_neg (by omega), if_neg (by omega), if_pos (by omega), show (k * 8 + 6) / 8 = k by omega]
theorem tvl7 (K G : Nat → E4) (k : Nat) : tvl K G (k * 8 + 7) = .int .u64 (G k).x3 := by unfold tvl; rw [if_neg (by omega), if_neg (by omega), if_neg (by omega), if_neg (by omega), if_neg (by omega), if_neg (by omega), if_neg (by omega), show (k * 8 + 7) / 8 = k by omega]
theorem tvl_step (K G : Nat → E4) (f : Nat → Value) (k : Nat) (h : ∀ j, j < k * 8 → f j = tvl K G j) (j : Nat) (hj : j < (k + 1) * 8) : (if j = k * 8 + 7 then .int .u64 (G k).x3 else if j = k * 8 + 6 then .int .u64 (G k).x2 else if j = k * 8 + 5 then .int .u64 (G k).x1 else if j = k * 8 + 4 then .int .u64 (G k).x0 else if j = k * 8 + 3 then .int .u64 (K k).x3 else if j = k * 8 + 2 then .int .u64 (K k).x2 else if j = k * 8 + 1 then .int .u64 (K k).x1 else if j = k * 8 then .int .u64 (K k).x0 else f j) = tvl K G j := by
 by_cases e7 : j = k * 8 + 7
 ·rw [if_pos e7, e7, tvl7]
 ·rw [if_neg e7]
  by_cases e6 : j = k * 8 + 6
  ·rw [if_pos e6, e6, tvl6]
  ·rw [if_neg e6]
   by_cases e5 : j = k * 8 + 5
   ·rw [if_pos e5, e5, tvl5]
   ·rw [if_neg e5]
    by_cases e4 : j = k * 8 + 4
    ·rw [if_pos e4, e4, tvl4]
    ·rw [if_neg e4]
     by_cases e3 : j = k * 8 + 3
     ·rw [if_pos e3, e3, tvl3]
     ·rw [if_neg e3]
      by_cases e2 : j = k * 8 + 2
      ·rw [if_pos e2, e2, tvl2]
      ·rw [if_neg e2]
       by_cases e1 : j = k * 8 + 1
       ·rw [if_pos e1, e1, tvl1]
       ·rw [if_neg e1]
        by_cases e0 : j = k * 8
        ·rw [if_pos e0, e0, tvl0]
        ·rw [if_neg e0]
         exact h j (by omega)
theorem tinfoL : (Tryz.prog.info? 106).map (fun i => (i.zero, i.size, i.bytes)) = some (some (.agg #[.int .u64 0, .int .u64 0, .int .u64 0, .int .u64 0, .int .u64 0, .int .u64 0, .int .u64 0, .int .u64 0]), 8, 64) := by kernel_rfl
theorem zip_any (P0 : Option Addr) (g L c0 c1 : Nat) (K G : Nat → E4) (w : World) (hL : L ≤ 64) (h0 : Lm w P0 L K) (h1 : Rl w g 0 L G) :
  Calls Tryz.prog 45 #[.slice P0 L c0, .slice (some ⟨g, 0, none⟩) L c1] w fun e w' => ∃ t : Nat, e = .returned (.tuple #[.slice (some ⟨t, 0, none⟩) L L, .int .i64 0]) ∧ w.heap.size ≤ t ∧ w'.rowIs t 106 (L * 8) (tvl K G) ∧ Below w.heap.size w w' := by
 have H0 := hidden h0
 have H1 := hidden h1
 have HL := hidden hL
 have nn0 : (0 : Int) ≤ (L : Int) := by omega
 obtain ⟨i0, hi, hz0, hz1, hz2⟩ := info_parts tinfoL
 have hmk := fun w => run_make (P := Tryz.prog) w 101 106 i0 (.agg #[.int .u64 0, .int .u64 0, .int .u64 0, .int .u64 0, .int .u64 0, .int .u64 0, .int .u64 0, .int .u64 0]) (by kernel_rfl) hi hz0 .i64 .i64 (L : Int) (L : Int) (by omega) (Int.le_refl _) (by rw [hz2]; omega) (by omega)
 simp only [Int.toNat_natCast, hz1, Value.cells] at hmk
 have R0 : Hid (∃ f, (w.alloc (.cells (madeCells #[.int .u64 0, .int .u64 0, .int .u64 0, .int .u64 0, .int .u64 0, .int .u64 0, .int .u64 0, .int .u64 0] (L * 8)) 106)).rowIs w.heap.size 106 (L * 8) f) := hidden ⟨fun j => (madeCells #[.int .u64 0, .int .u64 0, .int .u64 0, .int .u64 0, .int .u64 0, .int .u64 0, .int .u64 0, .int .u64 0] (L * 8)).getD j undef, _, heap_alloc_new w _, by simp [size_madeCells], fun i hi => by
  have : i < (madeCells #[.int .u64 0, .int .u64 0, .int .u64 0, .int .u64 0, .int .u64 0, .int .u64 0, .int .u64 0, .int .u64 0] (L * 8)).size := by simp [size_madeCells]; omega
  simp [Array.getD, this]⟩
 have B0 := hidden (bl_alloc w (.cells (madeCells #[.int .u64 0, .int .u64 0, .int .u64 0, .int .u64 0, .int .u64 0, .int .u64 0, .int .u64 0, .int .u64 0] (L * 8)) 106))
 clear h0 h1 hL hi hz0 hz1 hz2
 go_enter Tryz.func45, Tryz.ntmps45
 go_wp2_with fail
 clear hmk
 go_loopw [18] (fun kv w' => ∃ (k : Nat) (f : Nat → Value), k ≤ L ∧ kv = .int .i64 (k : Int) ∧ Hid (∀ j, j < k * 8 → f j = tvl K G j) ∧ Hid (w'.rowIs w.heap.size 106 (L * 8) f) ∧ Hid (Below w.heap.size w w')) (fun k _ => L - (intOf k).toNat)
 case atStart => obtain ⟨f, hf⟩ := R0.out; exact ⟨0, f, by omega, rfl, hidden (fun j hj => absurd hj (by omega)), hidden hf, B0⟩
 case round =>
  clear R0 B0
  obtain ⟨k, f, hk, rfl, hq, hR, hB⟩ := hrel
  by_cases hkn : k < L
  ·have k0 : (0 : Int) ≤ (k : Int) := by omega
   have k1 : (k : Int) < (L : Int) := by omega
   have w9 : IntKind.i64.wrap ((k : Int) + 1) = (k : Int) + 1 := IntWalk.i64_in _ (by have := HL.out; omega)
   have bd := bl_trans hB.out (drew_blW wr)
   obtain ⟨sb, so, h1, h2⟩ := H0.out
   obtain rfl := h1 (by omega)
   have rx := (h2 (by omega)).keep bd
   have ry := H1.out.keep bd
   have x0 := rx.c0 k hkn; have x1 := rx.c1 k hkn; have x2 := rx.c2 k hkn; have x3 := rx.c3 k hkn
   have y0 := ry.c0 k hkn; have y1 := ry.c1 k hkn; have y2 := ry.c2 k hkn; have y3 := ry.c3 k hkn
   rw [Nat.zero_add] at y0 y1 y2 y3
   have rt := hR.out.drew
   have d0 := rt.cell (show k * 8 < L * 8 by omega)
   have b0 := hR.out.cell (show k * 8 < L * 8 by omega)
   have f0 := rt.frozen (k * 8)
   have q0 := hR.out.frozen (k * 8)
   have d1 := rt.cell (show k * 8 + 1 < L * 8 by omega)
   have b1 := hR.out.cell (show k * 8 + 1 < L * 8 by omega)
   have f1 := rt.frozen (k * 8 + 1)
   have q1 := hR.out.frozen (k * 8 + 1)
   have d2 := rt.cell (show k * 8 + 2 < L * 8 by omega)
   have b2 := hR.out.cell (show k * 8 + 2 < L * 8 by omega)
   have f2 := rt.frozen (k * 8 + 2)
   have q2 := hR.out.frozen (k * 8 + 2)
   have d3 := rt.cell (show k * 8 + 3 < L * 8 by omega)
   have b3 := hR.out.cell (show k * 8 + 3 < L * 8 by omega)
   have f3 := rt.frozen (k * 8 + 3)
   have q3 := hR.out.frozen (k * 8 + 3)
   have d4 := rt.cell (show k * 8 + 4 < L * 8 by omega)
   have b4 := hR.out.cell (show k * 8 + 4 < L * 8 by omega)
   have f4 := rt.frozen (k * 8 + 4)
   have q4 := hR.out.frozen (k * 8 + 4)
   have d5 := rt.cell (show k * 8 + 5 < L * 8 by omega)
   have b5 := hR.out.cell (show k * 8 + 5 < L * 8 by omega)
   have f5 := rt.frozen (k * 8 + 5)
   have q5 := hR.out.frozen (k * 8 + 5)
   have d6 := rt.cell (show k * 8 + 6 < L * 8 by omega)
   have b6 := hR.out.cell (show k * 8 + 6 < L * 8 by omega)
   have f6 := rt.frozen (k * 8 + 6)
   have q6 := hR.out.frozen (k * 8 + 6)
   have d7 := rt.cell (show k * 8 + 7 < L * 8 by omega)
   have b7 := hR.out.cell (show k * 8 + 7 < L * 8 by omega)
   have f7 := rt.frozen (k * 8 + 7)
   have q7 := hR.out.frozen (k * 8 + 7)
   have YR := hidden ((((((((hR.out.set (k * 8) (.int .u64 (K k).x0)).set (k * 8 + 1) (.int .u64 (K k).x1)).set (k * 8 + 2) (.int .u64 (K k).x2)).set (k * 8 + 3) (.int .u64 (K k).x3)).set (k * 8 + 4) (.int .u64 (G k).x0)).set (k * 8 + 5) (.int .u64 (G k).x1)).set (k * 8 + 6) (.int .u64 (G k).x2)).set (k * 8 + 7) (.int .u64 (G k).x3)).drew
   have YB := hidden (bl_trans ((((((((hB.out.setCell (p := ⟨w.heap.size, k * 8, none⟩) (Nat.le_refl _) (.int .u64 (K k).x0)).setCell (p := ⟨w.heap.size, k * 8 + 1, none⟩) (Nat.le_refl _) (.int .u64 (K k).x1)).setCell (p := ⟨w.heap.size, k * 8 + 2, none⟩) (Nat.le_refl _) (.int .u64 (K k).x2)).setCell (p := ⟨w.heap.size, k * 8 + 3, none⟩) (Nat.le_refl _) (.int .u64 (K k).x3)).setCell (p := ⟨w.heap.size, k * 8 + 4, none⟩) (Nat.le_refl _) (.int .u64 (G k).x0)).setCell (p := ⟨w.heap.size, k * 8 + 5, none⟩) (Nat.le_refl _) (.int .u64 (G k).x1)).setCell (p := ⟨w.heap.size, k * 8 + 6, none⟩) (Nat.le_refl _) (.int .u64 (G k).x2)).setCell (p := ⟨w.heap.size, k * 8 + 7, none⟩) (Nat.le_refl _) (.int .u64 (G k).x3)) (drew_blW _))
   have NQ := hidden (tvl_step K G f k hq.out)
   generalize K k = a at x0 x1 x2 x3 YR YB NQ
   generalize G k = c at y0 y1 y2 y3 YR YB NQ
   generalize f (k * 8) = e0 at *
   generalize f (k * 8 + 1) = e1 at *
   generalize f (k * 8 + 2) = e2 at *
   generalize f (k * 8 + 3) = e3 at *
   generalize f (k * 8 + 4) = e4 at *
   generalize f (k * 8 + 5) = e5 at *
   generalize f (k * 8 + 6) = e6 at *
   generalize f (k * 8 + 7) = e7 at *
   clear h1 h2 rx ry rt hR hB hq bd
   go_upto_region 7 with fail
   go_region_with fail
   all_goals
    clear x0 x1 x2 x3 y0 y1 y2 y3 d0 b0 f0 q0 d1 b1 f1 q1 d2 b2 f2 q2 d3 b3 f3 q3 d4 b4 f4 q4 d5 b5 f5 q5 d6 b6 f6 q6 d7 b7 f7 q7
    go_wp2_with fail
    go_roundw
    case rel => exact ⟨k + 1, _, by omega, by go_num, NQ, YR, YB⟩
    case measure => simp [intOf]; omega
  ·obtain rfl : k = L := by omega
   have RR := hR.out
   go_wp2_with fail
   refine bodyPost_ret (v := .tuple #[.slice (some ⟨w.heap.size, 0, none⟩) k k, .int .i64 0]) (by simp [results, Tryz.results45, go_sem]) rfl ⟨w.heap.size, rfl, Nat.le_refl _, RR.congr (fun i hi => hq.out i hi), hB.out⟩
theorem total_any (L lo N cap : Nat) (ks : Nat → E4) (fs : Nat → Nat → Int) (w : World) (hN0 : 2 ≤ N) (hN : N ≤ 50) (hcap : N ≤ cap) (hT : Tb w) (hTm : Tm w L lo N ks fs) :
  Calls Tryz.prog 46 #[.slice (some ⟨L, lo, none⟩) N cap] w fun e w' => e = .returned (lst (tot (fun q => (ks q).n * fs q 0) N)).v ∧ Below w.heap.size w w' := by
 have B1 := bl_alloc w (.cells #[.int .u64 0, .int .u64 0, .int .u64 0, .int .u64 0] 39)
 have a0 : (w.alloc (.cells #[.int .u64 0, .int .u64 0, .int .u64 0, .int .u64 0] 39)).cell? ⟨w.heap.size, 0, none⟩ = some (.int .u64 0) := by go_simp
 have z0 : (w.alloc (.cells #[.int .u64 0, .int .u64 0, .int .u64 0, .int .u64 0] 39)).frozen? ⟨w.heap.size, 0, none⟩ = false := by go_simp
 have a1 : (w.alloc (.cells #[.int .u64 0, .int .u64 0, .int .u64 0, .int .u64 0] 39)).cell? ⟨w.heap.size, 1, none⟩ = some (.int .u64 0) := by go_simp
 have zz1 : (w.alloc (.cells #[.int .u64 0, .int .u64 0, .int .u64 0, .int .u64 0] 39)).frozen? ⟨w.heap.size, 1, none⟩ = false := by go_simp
 have a2 : (w.alloc (.cells #[.int .u64 0, .int .u64 0, .int .u64 0, .int .u64 0] 39)).cell? ⟨w.heap.size, 2, none⟩ = some (.int .u64 0) := by go_simp
 have zz2 : (w.alloc (.cells #[.int .u64 0, .int .u64 0, .int .u64 0, .int .u64 0] 39)).frozen? ⟨w.heap.size, 2, none⟩ = false := by go_simp
 have a3 : (w.alloc (.cells #[.int .u64 0, .int .u64 0, .int .u64 0, .int .u64 0] 39)).cell? ⟨w.heap.size, 3, none⟩ = some (.int .u64 0) := by go_simp
 have z3 : (w.alloc (.cells #[.int .u64 0, .int .u64 0, .int .u64 0, .int .u64 0] 39)).frozen? ⟨w.heap.size, 3, none⟩ = false := by go_simp
 have SM := hidden (fsum_any L lo N cap ks fs (w.alloc (.cells #[.int .u64 0, .int .u64 0, .int .u64 0, .int .u64 0] 39)) (by omega) hN hcap (hT.keep B1) (hTm.keep B1))
 have n1 : ¬ (N : Int) = 1 := by omega
 obtain ⟨r, hr⟩ : ∃ r, lst (tot (fun q => (ks q).n * fs q 0) N) = r := ⟨_, rfl⟩
 rw [hr] at SM ⊢
 unfold E4.v at SM ⊢
 clear hTm hT hr
 go_enter Tryz.func46, Tryz.ntmps46
 go_upto_region 1 with fail
 generalize (w.alloc (.cells #[.int .u64 0, .int .u64 0, .int .u64 0, .int .u64 0] 39)) = w1 at *
 go_wp2_with (first | (go_at_call 55; refine SM.out.mono ?_; rintro e wc ⟨z1, z2, rfl, hc⟩; have ga := bl_alloc2 wc (.cells #[.int .u64 r.x0, .int .u64 r.x1, .int .u64 r.x2, .int .u64 r.x3] 39) (.cells #[.int .i64 z1, .int .i64 z2] 119); have BX := bl_trans hc ga; have lt := World.block_lt_of_cell? _ _ a0; have c0 := cell_keep a0 BX; have c1 := cell_keep a1 BX; have c2 := cell_keep a2 BX; have c3 := cell_keep a3 BX; have y0 := ((bcell BX).2 _ 0 lt).trans z0; have y1 := ((bcell BX).2 _ 1 lt).trans zz1; have y2 := ((bcell BX).2 _ 2 lt).trans zz2; have y3 := ((bcell BX).2 _ 3 lt).trans z3; have HX := hidden BX; clear hc ga BX SM lt a0 a1 a2 a3 z0 zz1 zz2 z3))
 refine bodyPost_ret (v := .agg #[.int .u64 r.x0, .int .u64 r.x1, .int .u64 r.x2, .int .u64 r.x3]) (by simp [results, Tryz.results46, go_sem, c0, c1, c2, c3]) rfl ⟨rfl, ((((bl_trans B1 HX.out).setCell (Nat.le_refl _) _).setCell (Nat.le_refl _) _).setCell (Nat.le_refl _) _).setCell (Nat.le_refl _) _⟩
end Go.Proofs.YtbbnjmjeeiglcaaGreatDoor.Li
namespace Go.Proofs.YtbbnjmjeeiglcaaGreatDoor
open Go.RowKit
theorem own_keep5 {w1 w2 : World} {base n s : Nat} {e : TypeId} {v : Value} {xs : List Value} (h : w1.ownsRow base e s v n xs) (hb : Below w1.heap.size w1 w2) : w2.ownsRow base e s v n xs := h.kept (gbI hb none) (by cases v.ownBlock with | none => exact .inl rfl | some k => exact .inr (by simp))
end Go.Proofs.YtbbnjmjeeiglcaaGreatDoor
namespace Go.Proofs.YtbbnjmjeeiglcaaGreatDoor.Li
open Go.RowKit
theorem buildT (f im : E4) (w : World) : (Instr.buildSlice 101 1 #[(0, .agg #[.int .u64 f.x0, .int .u64 f.x1, .int .u64 f.x2, .int .u64 f.x3, .int .u64 im.x0, .int .u64 im.x1, .int .u64 im.x2, .int .u64 im.x3])]).run Tryz.prog w = .ok (.slice (some ⟨w.heap.size, 0, none⟩) 1 1) (w.alloc (.cells #[.int .u64 f.x0, .int .u64 f.x1, .int .u64 f.x2, .int .u64 f.x3, .int .u64 im.x0, .int .u64 im.x1, .int .u64 im.x2, .int .u64 im.x3] 106)) := by kernel_rfl
theorem new8 (w : World) (f im : E4) : ∀ j u, ([.int .u64 f.x0, .int .u64 f.x1, .int .u64 f.x2, .int .u64 f.x3, .int .u64 im.x0, .int .u64 im.x1, .int .u64 im.x2, .int .u64 im.x3] : List Value)[j]? = some u → (w.alloc (.cells #[.int .u64 f.x0, .int .u64 f.x1, .int .u64 f.x2, .int .u64 f.x3, .int .u64 im.x0, .int .u64 im.x1, .int .u64 im.x2, .int .u64 im.x3] 106)).cell? ((⟨w.heap.size, 0, none⟩ : Addr).add j) = some u := fun j u hu => by
 rw [addr_add]
 have := range_newM w [.int .u64 f.x0, .int .u64 f.x1, .int .u64 f.x2, .int .u64 f.x3, .int .u64 im.x0, .int .u64 im.x1, .int .u64 im.x2, .int .u64 im.x3] 106 j u hu
 simpa using this
theorem wp_buildT {w : World} {o : Oper} {a : Act} {K : Act → World → Prop} {Q : Exit → Act → World → Prop} (x : Operand) (ho : o.op = .buildSlice 101 1 #[(0, x)]) (f im : E4) (hx : a.eval x = .agg #[.int .u64 f.x0, .int .u64 f.x1, .int .u64 f.x2, .int .u64 f.x3, .int .u64 im.x0, .int .u64 im.x1, .int .u64 im.x2, .int .u64 im.x3]) (h : ∀ (tb : Nat) (wq : World), tb = w.heap.size → Below w.heap.size w wq → (∀ j u, ([.int .u64 f.x0, .int .u64 f.x1, .int .u64 f.x2, .int .u64 f.x3, .int .u64 im.x0, .int .u64 im.x1, .int .u64 im.x2, .int .u64 im.x3] : List Value)[j]? = some u → wq.cell? ((⟨tb, 0, none⟩ : Addr).add j) = some u) → K (a.put o.dst (.slice (some ⟨tb, 0, none⟩) 1 1)) wq) : o.wp Tryz.prog a w K Q := by
 have hr := buildT f im w
 unfold Oper.wp execOp
 simp only [ho, Sem.run_bind, Sem.run_pure, Result.andThen_ok, List.map_toArray, List.map_cons, List.map_nil, hx, hr]
 exact h _ _ rfl (bl_alloc _ _) (new8 w f im)
def si6o_0 : Oper := { dst := some 29, op := Op.move (Operand.tmp 3), type := 41, pos := "sigma.go:111", after := #[], guard := none }
def si6o_1 : Oper := { dst := some 30, op := Op.move (Operand.tmp 4), type := 3, pos := "sigma.go:111", after := #[], guard := none }
def si6o_2 : Oper := { dst := some 31, op := Op.move (Operand.tmp 6), type := 101, pos := "sigma.go:111", after := #[], guard := none }
def si6o_3 : Oper := { dst := some 32, op := Op.fieldAddr 73 (Operand.tmp 1) 1, type := 0, pos := "sigma.go:111", after := #[], guard := none }
def si6o_4 : Oper := { dst := some 33, op := Op.load 26 (Operand.tmp 32), type := 26, pos := "sigma.go:111", after := #[{ on := 3, ground := Ground.data }], guard := none }
def si6o_5 : Oper := { dst := some 34, op := Op.call { callee := Callee.value (Operand.func 47), args := #[Operand.tmp 33], argTypes := #[26] }, type := 26, pos := "sigma.go:111", after := #[{ on := 4, ground := Ground.data }], guard := none }
def si6o_6 : Oper := { dst := some 35, op := Op.fieldAddr 73 (Operand.tmp 1) 0, type := 0, pos := "sigma.go:111", after := #[], guard := none }
def si6o_7 : Oper := { dst := some 36, op := Op.fieldAddr 43 (Operand.tmp 35) 1, type := 0, pos := "sigma.go:111", after := #[{ on := 6, ground := Ground.data }], guard := none }
def si6o_8 : Oper := { dst := some 37, op := Op.load 41 (Operand.tmp 36), type := 41, pos := "sigma.go:111", after := #[{ on := 7, ground := Ground.data }], guard := none }
def si6o_9 : Oper := { dst := some 38, op := Op.move (Operand.tmp 4), type := 3, pos := "sigma.go:111", after := #[], guard := none }
def si6o_10 : Oper := { dst := some 39, op := Op.indexAddr 41 (Operand.tmp 37) (Operand.tmp 38), type := 0, pos := "sigma.go:111", after := #[{ on := 8, ground := Ground.data }, { on := 9, ground := Ground.data }], guard := none }
def si6o_11 : Oper := { dst := some 40, op := Op.load 39 (Operand.tmp 39), type := 39, pos := "sigma.go:111", after := #[{ on := 10, ground := Ground.data }], guard := none }
def si6o_12 : Oper := { dst := some 41, op := Op.build 106 #[(0, Operand.tmp 34), (1, Operand.tmp 40)], type := 106, pos := "sigma.go:111", after := #[{ on := 5, ground := Ground.data }, { on := 11, ground := Ground.data }], guard := none }
def si6o_13 : Oper := { dst := some 42, op := Op.buildSlice 101 1 #[(0, Operand.tmp 41)], type := 101, pos := "sigma.go:111", after := #[{ on := 12, ground := Ground.data }], guard := none }
def si6o_14 : Oper := { dst := some 43, op := Op.call { callee := Callee.builtin Builtin.append, args := #[Operand.tmp 31, Operand.tmp 42], argTypes := #[101, 101] }, type := 101, pos := "sigma.go:111", after := #[{ on := 2, ground := Ground.data }, { on := 13, ground := Ground.data }, { on := 5, ground := Ground.chain }], guard := none }
def si6o_15 : Oper := { dst := some 44, op := Op.call { callee := Callee.value (Operand.func 46), args := #[Operand.tmp 43], argTypes := #[101] }, type := 39, pos := "sigma.go:111", after := #[{ on := 14, ground := Ground.data }, { on := 14, ground := Ground.chain }], guard := none }
def si6o_16 : Oper := { dst := some 45, op := Op.indexAddr 41 (Operand.tmp 29) (Operand.tmp 30), type := 0, pos := "sigma.go:111", after := #[{ on := 0, ground := Ground.data }, { on := 1, ground := Ground.data }, { on := 0, ground := Ground.phase }, { on := 1, ground := Ground.phase }, { on := 2, ground := Ground.phase }, { on := 3, ground := Ground.phase }, { on := 4, ground := Ground.phase }, { on := 5, ground := Ground.phase }, { on := 6, ground := Ground.phase }, { on := 7, ground := Ground.phase }, { on := 8, ground := Ground.phase }, { on := 9, ground := Ground.phase }, { on := 10, ground := Ground.phase }, { on := 11, ground := Ground.phase }, { on := 12, ground := Ground.phase }, { on := 13, ground := Ground.phase }, { on := 14, ground := Ground.phase }, { on := 15, ground := Ground.phase }], guard := none }
def si6o_17 : Oper := { dst := none, op := Op.store 39 (Operand.tmp 45) (Operand.tmp 44), type := 0, pos := "sigma.go:111", after := #[{ on := 16, ground := Ground.data }, { on := 15, ground := Ground.data }, { on := 15, ground := Ground.chain }, { on := 0, ground := Ground.phase }, { on := 1, ground := Ground.phase }, { on := 2, ground := Ground.phase }, { on := 3, ground := Ground.phase }, { on := 4, ground := Ground.phase }, { on := 5, ground := Ground.phase }, { on := 6, ground := Ground.phase }, { on := 7, ground := Ground.phase }, { on := 8, ground := Ground.phase }, { on := 9, ground := Ground.phase }, { on := 10, ground := Ground.phase }, { on := 11, ground := Ground.phase }, { on := 12, ground := Ground.phase }, { on := 13, ground := Ground.phase }, { on := 14, ground := Ground.phase }, { on := 15, ground := Ground.phase }], guard := none }
def si6o : Array Oper := #[si6o_0, si6o_1, si6o_2, si6o_3, si6o_4, si6o_5, si6o_6, si6o_7, si6o_8, si6o_9, si6o_10, si6o_11, si6o_12, si6o_13, si6o_14, si6o_15, si6o_16, si6o_17]
theorem si6 (Q : Exit → Act → World → Prop) (B T1 I D tl n cI : Nat) (ch nz : E4) (xs : List Value) (im r : E4) (u0 u2 u5 u7 u8 u9 u10 u11 u12 u13 u14 u15 u16 u17 u18 u19 u20 u21 u22 u23 u24 u25 u26 u27 u28 u29 u30 u31 u32 u33 u34 u35 u36 u37 u38 u39 u40 u41 u42 u43 u44 u45 u46 u47 : Value) (W : World)
  (hBW : B ≤ W.heap.size) (hn : n ≤ 20) (l1 : T1 < B) (lI : I < B) (cc0 : W.cell? ⟨T1, 2, none⟩ = some (.int .u64 ch.x0)) (cc1 : W.cell? ⟨T1, 3, none⟩ = some (.int .u64 ch.x1)) (cc2 : W.cell? ⟨T1, 4, none⟩ = some (.int .u64 ch.x2)) (cc3 : W.cell? ⟨T1, 5, none⟩ = some (.int .u64 ch.x3)) (cI1 : W.cell? ⟨T1, 1, none⟩ = some (.slice (some ⟨I, 0, none⟩) 1 cI)) (im0 : W.cell? ⟨I, 0, none⟩ = some (.int .u64 im.x0)) (im1 : W.cell? ⟨I, 1, none⟩ = some (.int .u64 im.x1)) (im2 : W.cell? ⟨I, 2, none⟩ = some (.int .u64 im.x2)) (im3 : W.cell? ⟨I, 3, none⟩ = some (.int .u64 im.x3))
  (ol : W.ownsRow B 106 8 (.slice (some ⟨tl, 0, none⟩) n n) n xs) (th : W.there D 0 4) (hBD : B ≤ D) (neD : D ≠ tl)
  (C5 : Hid (∀ x, Below B W x → Calls Tryz.prog 47 #[.agg #[.int .u64 ch.x0, .int .u64 ch.x1, .int .u64 ch.x2, .int .u64 ch.x3]] x fun e w' => e = .returned (.agg #[.int .u64 nz.x0, .int .u64 nz.x1, .int .u64 nz.x2, .int .u64 nz.x3]) ∧ Below x.heap.size x w'))
  (C15 : Hid (∀ (x : World) (v2 : Value), Below B W x → x.ownsRow B 106 8 v2 (n + 1) (xs ++ [.int .u64 nz.x0, .int .u64 nz.x1, .int .u64 nz.x2, .int .u64 nz.x3, .int .u64 im.x0, .int .u64 im.x1, .int .u64 im.x2, .int .u64 im.x3]) → Calls Tryz.prog 46 #[v2] x fun e w' => e = .returned (.agg #[.int .u64 r.x0, .int .u64 r.x1, .int .u64 r.x2, .int .u64 r.x3]) ∧ Below x.heap.size x w'))
  (HQ : Hid (∀ (v2 : Value) (tb : Nat) (wz : World), (∃ wy, Below B W wy ∧ wy.there D 0 4 ∧ wz = wy.setCells D 0 [.int .u64 r.x0, .int .u64 r.x1, .int .u64 r.x2, .int .u64 r.x3]) → Q .normal ⟨#[u0, .pointer (some ⟨T1, 0, none⟩), u2, .slice (some ⟨D, 0, none⟩) 1 1, .int .i64 0, u5, .slice (some ⟨tl, 0, none⟩) n n, u7, u8, u9, u10, u11, u12, u13, u14, u15, u16, u17, u18, u19, u20, u21, u22, u23, u24, u25, u26, u27, u28, .slice (some ⟨D, 0, none⟩) 1 1, .int .i64 0, .slice (some ⟨tl, 0, none⟩) n n, .pointer (some ⟨T1, 2, none⟩), .agg #[.int .u64 ch.x0, .int .u64 ch.x1, .int .u64 ch.x2, .int .u64 ch.x3], .agg #[.int .u64 nz.x0, .int .u64 nz.x1, .int .u64 nz.x2, .int .u64 nz.x3], .pointer (some ⟨T1, 0, none⟩), .pointer (some ⟨T1, 1, none⟩), .slice (some ⟨I, 0, none⟩) 1 cI, .int .i64 0, .pointer (some ⟨I, 0, none⟩), .agg #[.int .u64 im.x0, .int .u64 im.x1, .int .u64 im.x2, .int .u64 im.x3], .agg #[.int .u64 nz.x0, .int .u64 nz.x1, .int .u64 nz.x2, .int .u64 nz.x3, .int .u64 im.x0, .int .u64 im.x1, .int .u64 im.x2, .int .u64 im.x3], .slice (some ⟨tb, 0, none⟩) 1 1, v2, .agg #[.int .u64 r.x0, .int .u64 r.x1, .int .u64 r.x2, .int .u64 r.x3], .pointer (some ⟨D, 0, none⟩), u46, u47], []⟩ wz)) : (Code.region 6 si6o true).wp Tryz.prog Q ⟨#[u0, .pointer (some ⟨T1, 0, none⟩), u2, .slice (some ⟨D, 0, none⟩) 1 1, .int .i64 0, u5, .slice (some ⟨tl, 0, none⟩) n n, u7, u8, u9, u10, u11, u12, u13, u14, u15, u16, u17, u18, u19, u20, u21, u22, u23, u24, u25, u26, u27, u28, u29, u30, u31, u32, u33, u34, u35, u36, u37, u38, u39, u40, u41, u42, u43, u44, u45, u46, u47], []⟩ W := by
 obtain ⟨i0, hi, hz0, hz1, hz2⟩ := info_parts tinfoL
 have HI := hidden hi
 have HZ0 := hidden hz0
 have HZ1 := hidden hz1
 have HZ2 := hidden hz2
 have HU : Hid (Tryz.prog.underlying 101 = some (.slice 106)) := hidden (by kernel_rfl)
 have H5 : Hid (∀ u ∈ ([.int .u64 nz.x0, .int .u64 nz.x1, .int .u64 nz.x2, .int .u64 nz.x3, .int .u64 im.x0, .int .u64 im.x1, .int .u64 im.x2, .int .u64 im.x3] : List Value), u.oneCell' = true) := hidden (by simp [Value.oneCell'])
 have OL := hidden ol.drew
 have TH := hidden (Li.there_bl th (bl_drew W))
 clear hi hz0 hz1 hz2 ol th
 unfold si6o
 refine wp_region_noPanic ?_
 refine wp_region_held_drew (S := fun x => Below B W x) (by kernel_rfl) (below_less (bl_drew W) hBW) (fun hH0 => ?_)
 refine tk 0 si6o_0 (.slice (some ⟨D, 0, none⟩) 1 1) rfl (by kernel_rfl) hH0 rfl (fun w0 hSw => ?_) ?_
 ·(unfold si6o_0; clear hSw; go_simp)
 simp only [si6o_0, Act.put, sA, sB, sC]
 refine tk 1 si6o_1 (.int .i64 0) rfl (by kernel_rfl) hH0 rfl (fun w0 hSw => ?_) ?_
 ·(unfold si6o_1; clear hSw; go_simp)
 simp only [si6o_1, Act.put, sA, sB, sC]
 refine tk 2 si6o_2 (.slice (some ⟨tl, 0, none⟩) n n) rfl (by kernel_rfl) hH0 rfl (fun w0 hSw => ?_) ?_
 ·(unfold si6o_2; clear hSw; go_simp)
 simp only [si6o_2, Act.put, sA, sB, sC]
 refine tk 3 si6o_3 (.pointer (some ⟨T1, 2, none⟩)) rfl (by kernel_rfl) hH0 rfl (fun w0 hSw => ?_) ?_
 ·(unfold si6o_3; clear hSw; go_simp)
 simp only [si6o_3, Act.put, sA, sB, sC]
 refine tk 6 si6o_6 (.pointer (some ⟨T1, 0, none⟩)) rfl (by kernel_rfl) hH0 rfl (fun w0 hSw => ?_) ?_
 ·(unfold si6o_6; clear hSw; go_simp)
 simp only [si6o_6, Act.put, sA, sB, sC]
 refine tk 9 si6o_9 (.int .i64 0) rfl (by kernel_rfl) hH0 rfl (fun w0 hSw => ?_) ?_
 ·(unfold si6o_9; clear hSw; go_simp)
 simp only [si6o_9, Act.put, sA, sB, sC]
 refine tk 4 si6o_4 (.agg #[.int .u64 ch.x0, .int .u64 ch.x1, .int .u64 ch.x2, .int .u64 ch.x3]) rfl (by kernel_rfl) hH0 rfl (fun w0 hSw => ?_) ?_
 ·(unfold si6o_4; have hS : Below B W w0 := hSw; have a0 := (hS.cell (p := ⟨T1, 2, none⟩) l1).trans cc0; have a1 := (hS.cell (p := ⟨T1, 3, none⟩) l1).trans cc1; have a2 := (hS.cell (p := ⟨T1, 4, none⟩) l1).trans cc2; have a3 := (hS.cell (p := ⟨T1, 5, none⟩) l1).trans cc3; clear hS hSw; go_simp)
 simp only [si6o_4, Act.put, sA, sB, sC]
 refine tk 7 si6o_7 (.pointer (some ⟨T1, 1, none⟩)) rfl (by kernel_rfl) hH0 rfl (fun w0 hSw => ?_) ?_
 ·(unfold si6o_7; clear hSw; go_simp)
 simp only [si6o_7, Act.put, sA, sB, sC]
 refine tk 8 si6o_8 (.slice (some ⟨I, 0, none⟩) 1 cI) rfl (by kernel_rfl) hH0 rfl (fun w0 hSw => ?_) ?_
 ·(unfold si6o_8; have hS : Below B W w0 := hSw; have a0 := (hS.cell (p := ⟨T1, 1, none⟩) l1).trans cI1; clear hS hSw; go_simp)
 simp only [si6o_8, Act.put, sA, sB, sC]
 refine tk 10 si6o_10 (.pointer (some ⟨I, 0, none⟩)) rfl (by kernel_rfl) hH0 rfl (fun w0 hSw => ?_) ?_
 ·(unfold si6o_10; clear hSw; go_simp)
 simp only [si6o_10, Act.put, sA, sB, sC]
 refine tk 11 si6o_11 (.agg #[.int .u64 im.x0, .int .u64 im.x1, .int .u64 im.x2, .int .u64 im.x3]) rfl (by kernel_rfl) hH0 rfl (fun w0 hSw => ?_) ?_
 ·(unfold si6o_11; have hS : Below B W w0 := hSw; have a0 := (hS.cell (p := ⟨I, 0, none⟩) lI).trans im0; have a1 := (hS.cell (p := ⟨I, 1, none⟩) lI).trans im1; have a2 := (hS.cell (p := ⟨I, 2, none⟩) lI).trans im2; have a3 := (hS.cell (p := ⟨I, 3, none⟩) lI).trans im3; clear hS hSw; go_simp)
 simp only [si6o_11, Act.put, sA, sB, sC]
 refine wpAnyH_ready (rs := [5]) (by kernel_rfl) (by simp) ?_
 refine AllReadyH.cons (o := si6o_5) rfl (fun K hK => ?_) AllReadyH.nil
 unfold si6o_5
 have HH := hidden hH0
 clear hH0
 go_simp
 refine (C5.out _ HH.out).mono ?_
 rintro e wn1 ⟨rfl, hb⟩
 replace OL := hidden (own_keep5 OL.out hb)
 replace TH := hidden (Li.there_bl TH.out hb)
 have SN := hidden (HH.out.trans (below_less hb (Nat.le_trans hBW HH.out.size)))
 clear HH C5 hb
 go_wp2_with fail
 refine hK.out _ _ SN.out (fun hH1 => ?_)
 clear hK K SN
 refine tk 12 si6o_12 (.agg #[.int .u64 nz.x0, .int .u64 nz.x1, .int .u64 nz.x2, .int .u64 nz.x3, .int .u64 im.x0, .int .u64 im.x1, .int .u64 im.x2, .int .u64 im.x3]) rfl (by kernel_rfl) hH1 rfl (fun w0 hSw => ?_) ?_
 ·(unfold si6o_12; clear hSw; go_simp)
 simp only [si6o_12, Act.put, sA, sB, sC]
 refine wpAnyH_ready (rs := [13]) (by kernel_rfl) (by simp) ?_
 refine AllReadyH.cons (o := si6o_13) rfl (fun K hK => ?_) AllReadyH.nil
 unfold si6o_13
 have HH := hidden hH1
 clear hH1
 refine wp_buildT (.tmp 41) rfl nz im rfl (fun tb wn2 htb hb hcb => ?_)
 replace OL := hidden (own_keep5 OL.out hb)
 replace TH := hidden (Li.there_bl TH.out hb)
 have CB := hidden (hcb)
 have SN := hidden (HH.out.trans (below_less hb (Nat.le_trans hBW HH.out.size)))
 clear HH htb hb hcb
 simp only [Act.put, sA, sB, sC]
 refine hK.out _ _ SN.out (fun hH2 => ?_)
 clear hK K SN
 refine wpAnyH_ready (rs := [14]) (by kernel_rfl) (by simp) ?_
 refine AllReadyH.cons (o := si6o_14) rfl (fun K hK => ?_) AllReadyH.nil
 unfold si6o_14
 have HH := hidden hH2
 clear hH2
 refine wp_append_own _ (.tmp 31) (.tmp 42) 101 rfl B 106 i0 (.agg #[.int .u64 0, .int .u64 0, .int .u64 0, .int .u64 0, .int .u64 0, .int .u64 0, .int .u64 0, .int .u64 0]) 8 64 HU.out HI.out HZ0.out HZ1.out HZ2.out rfl (by decide) (.slice (some ⟨tl, 0, none⟩) n n) n xs rfl OL.out ⟨tb, 0, none⟩ 1 1 [.int .u64 nz.x0, .int .u64 nz.x1, .int .u64 nz.x2, .int .u64 nz.x3, .int .u64 im.x0, .int .u64 im.x1, .int .u64 im.x2, .int .u64 im.x3] rfl (by simp) CB.out H5.out (by unfold maxLen; omega) (by omega) (Nat.le_trans hBW HH.out.size) (fun v2 wn3 hO hG _ => ?_)
 have O2 := hidden (hO)
 replace TH := hidden (there_gb TH.out hG neD)
 have SN := hidden (below_trans HH.out (below_grown hG (Nat.le_trans hBW HH.out.size) (fun k hk => (OL.out.lt k hk).1)))
 clear HH OL CB hO hG
 simp only [Act.put, sA, sB, sC]
 refine hK.out _ _ SN.out (fun hH3 => ?_)
 clear hK K SN
 refine wpAnyH_ready (rs := [15]) (by kernel_rfl) (by simp) ?_
 refine AllReadyH.cons (o := si6o_15) rfl (fun K hK => ?_) AllReadyH.nil
 unfold si6o_15
 have HH := hidden hH3
 clear hH3
 go_simp
 refine (C15.out _ v2 HH.out O2.out).mono ?_
 rintro e wn4 ⟨rfl, hb⟩
 replace TH := hidden (Li.there_bl TH.out hb)
 have SN := hidden (HH.out.trans (below_less hb (Nat.le_trans hBW HH.out.size)))
 clear HH C15 hb O2
 go_wp2_with fail
 refine hK.out _ _ SN.out (fun hH4 => ?_)
 clear hK K SN
 refine tk 16 si6o_16 (.pointer (some ⟨D, 0, none⟩)) rfl (by kernel_rfl) hH4 rfl (fun w0 hSw => ?_) ?_
 ·(unfold si6o_16; clear hSw; go_simp)
 simp only [si6o_16, Act.put, sA, sB, sC]
 refine wpAnyH_ready (rs := [17]) (by kernel_rfl) (by simp) ?_
 refine AllReadyH.cons (o := si6o_17) rfl (fun K hK => ?_) AllReadyH.nil
 unfold si6o_17
 have HH := hidden hH4
 clear hH4
 refine wp_storeE 39 _ _ rfl D 0 ([.int .u64 r.x0, .int .u64 r.x1, .int .u64 r.x2, .int .u64 r.x3]) (by rfl) (by rfl) TH.out i4_L (one4 r) rfl (fun wn5 hw => ?_)
 have SN := hidden (HH.out.trans (below_grown (gb_setCells D [.int .u64 r.x0, .int .u64 r.x1, .int .u64 r.x2, .int .u64 r.x3] 0 _) (Nat.le_trans hBW HH.out.size) (fun k hk => by have := Option.some.inj hk; omega)))
 have FE := hidden ((⟨_, HH.out, TH.out, hw⟩ : ∃ wy, Below B W wy ∧ wy.there D 0 4 ∧ _ = wy.setCells D 0 [.int .u64 r.x0, .int .u64 r.x1, .int .u64 r.x2, .int .u64 r.x3]))
 rw [← hw] at SN
 clear HH hw
 refine hK.out _ _ SN.out (fun hH5 => ?_)
 clear hK K SN
 have HH := hidden hH5
 have FQ := hidden (HQ.out v2 tb _ FE.out)
 refine wpAnyH_done (by kernel_rfl) ?_ _
 refine NoPanic.normal ?_
 exact FQ.out
def k1 (n : Nat) (k : Nat → E4) (z : E4) (q : Nat) : E4 := if q < n then k q else z
theorem k1_ok {n : Nat} {k : Nat → E4} {z : E4} (ok : ∀ i, i < n → (k i).ok) (hz : z.ok) (i : Nat) (_ : i < n + 1) : (k1 n k z i).ok := by
 unfold k1
 by_cases q : i < n
 ·rw [if_pos q]; exact ok i q
 ·rw [if_neg q]; exact hz
theorem k1_sum (n : Nat) (ks gs : Nat → E4) (nz im ch : E4) (hnz : lst (-ch.n) = nz) : lst (tot (fun q => (k1 n ks nz q).n * (k1 n gs im q).n) (n + 1)) = lst (tot (fun q => (ks q).n * (gs q).n) n + -ch.n * im.n) := by
 rw [tot]
 refine lst_two ?_ ?_
 ·refine congrArg lst (tot_congr _ (fun i hi => ?_))
  unfold k1; rw [if_pos hi, if_pos hi]
 ·show lst ((k1 n ks nz n).n * (k1 n gs im n).n) = _
  unfold k1
  rw [if_neg (Nat.lt_irrefl n), if_neg (Nat.lt_irrefl n), ← hnz]
  exact lst_twoM (lst_n' _) rfl
theorem tvl_congr {K K' G G' : Nat → E4} {j : Nat} (h2 : K (j / 8) = K' (j / 8)) (h3 : G (j / 8) = G' (j / 8)) : tvl K G j = tvl K' G' j := by unfold tvl; rw [h2, h3]
theorem rows_join1 (n : Nat) (ks gs : Nat → E4) (nz im : E4) : (List.range (n * 8)).map (tvl ks gs) ++ [.int .u64 nz.x0, .int .u64 nz.x1, .int .u64 nz.x2, .int .u64 nz.x3, .int .u64 im.x0, .int .u64 im.x1, .int .u64 im.x2, .int .u64 im.x3] = (List.range ((n + 1) * 8)).map (tvl (k1 n ks nz) (k1 n gs im)) := by
 refine List.ext_getElem? (fun j => ?_)
 by_cases hj : j < (n + 1) * 8
 ·rw [List.getElem?_map, List.getElem?_range hj]
  by_cases h1 : j < n * 8
  ·rw [List.getElem?_append_left (by simpa using h1), List.getElem?_map, List.getElem?_range h1]
   refine congrArg some (tvl_congr ?_ ?_)
   ·unfold k1; rw [if_pos (by omega)]
   ·unfold k1; rw [if_pos (by omega)]
  ·rw [List.getElem?_append_right (by simp; omega)]
   simp only [List.length_map, List.length_range]
   have kf : k1 n ks nz n = nz := by unfold k1; rw [if_neg (Nat.lt_irrefl n)]
   have gf : k1 n gs im n = im := by unfold k1; rw [if_neg (Nat.lt_irrefl n)]
   have e0 : j = n * 8 ∨ j = n * 8 + 1 ∨ j = n * 8 + 2 ∨ j = n * 8 + 3 ∨ j = n * 8 + 4 ∨ j = n * 8 + 5 ∨ j = n * 8 + 6 ∨ j = n * 8 + 7 := by omega
   obtain rfl | rfl | rfl | rfl | rfl | rfl | rfl | rfl := e0
   ·rw [show n * 8 - n * 8 = 0 by omega, Option.map_some, tvl0, kf]; rfl
   ·rw [show n * 8 + 1 - n * 8 = 1 by omega, Option.map_some, tvl1, kf]; rfl
   ·rw [show n * 8 + 2 - n * 8 = 2 by omega, Option.map_some, tvl2, kf]; rfl
   ·rw [show n * 8 + 3 - n * 8 = 3 by omega, Option.map_some, tvl3, kf]; rfl
   ·rw [show n * 8 + 4 - n * 8 = 4 by omega, Option.map_some, tvl4, gf]; rfl
   ·rw [show n * 8 + 5 - n * 8 = 5 by omega, Option.map_some, tvl5, gf]; rfl
   ·rw [show n * 8 + 6 - n * 8 = 6 by omega, Option.map_some, tvl6, gf]; rfl
   ·rw [show n * 8 + 7 - n * 8 = 7 by omega, Option.map_some, tvl7, gf]; rfl
 ·rw [List.getElem?_eq_none (by simp; omega), List.getElem?_eq_none (by simp; omega)]
theorem rowIs_own8 {w : World} {b L B : Nat} {t : TypeId} {f : Nat → Value} (h : w.rowIs b t (L * 8) f) (hB : B ≤ b) (hL : L ≤ 64) : w.ownsRow B t 8 (.slice (some ⟨b, 0, none⟩) L L) L ((List.range (L * 8)).map f) := by
 obtain ⟨c, h1, h2, h3⟩ := h
 refine ⟨by simp, .inr ⟨b, L, c, rfl, hB, h1, Nat.le_refl _, by unfold maxLen; omega, h2, ?_⟩⟩
 rw [← h2, ← Array.length_toList, List.take_length]
 refine List.ext_getElem? (fun i => ?_)
 by_cases hi : i < L * 8
 ·rw [Array.getElem?_toList, h3 i hi, List.getElem?_map, Array.length_toList, h2, List.getElem?_range hi]; rfl
 ·rw [Array.getElem?_toList, Array.getElem?_eq_none (by omega), List.getElem?_eq_none (by rw [List.length_map, List.length_range, Array.length_toList]; omega)]
theorem own_shape8 {w : World} {B N : Nat} {t : TypeId} {v : Value} {xs : List Value} (h : w.ownsRow B t 8 v N xs) (hN : 0 < N) : ∃ g cap, v = .slice (some ⟨g, 0, none⟩) N cap ∧ B ≤ g ∧ N ≤ cap := by
 rcases h.2 with ⟨_, h0⟩ | ⟨g, cap, cur, h1, hB, _, hnc, _⟩
 ·omega
 ·exact ⟨g, cap, h1, hB, hnc⟩
theorem own_tm8 {w : World} {B N g cap : Nat} {K G : Nat → E4} (h : w.ownsRow B 106 8 (.slice (some ⟨g, 0, none⟩) N cap) N ((List.range (N * 8)).map (tvl K G))) (ok : ∀ i, i < N → (K i).ok) (og : ∀ i, i < N → (G i).ok) : Tm w g 0 N K (fun q _ => (G q).n) := by
 have c : ∀ j, j < N * 8 → w.cell? ⟨g, j, none⟩ = some (tvl K G j) := fun j hj => by rw [h.cellAt j hj, List.getElem?_map, List.getElem?_range hj]; rfl
 refine ⟨fun i hi => ?_, ok, fun i hi => ⟨G i, ?_, og i hi, fun _ => rfl⟩⟩
 ·rw [Nat.zero_add]
  exact range4 (by rw [c _ (by omega), tvl0]) (by rw [c _ (by omega), tvl1]) (by rw [c _ (by omega), tvl2]) (by rw [c _ (by omega), tvl3])
 ·rw [Nat.zero_add]
  exact range4 (by rw [c _ (by omega), tvl4]) (by rw [show i * 8 + 4 + 1 = i * 8 + 5 from rfl, c _ (by omega), tvl5]) (by rw [show i * 8 + 4 + 2 = i * 8 + 6 from rfl, c _ (by omega), tvl6]) (by rw [show i * 8 + 4 + 3 = i * 8 + 7 from rfl, c _ (by omega), tvl7])
theorem sim_any (R I g n cR cI cn cx : Nat) (Px : Option Addr) (ch im : E4) (ks gs : Nat → E4) (w : World) (hn : n ≤ 20) (hn1 : 1 ≤ n) (hT : Tb w) (hch : ch.ok) (hl : Lm w Px n ks) (ok : ∀ i, i < n → (ks i).ok) (hr : w.cell? ⟨R, 0, none⟩ = some (.slice (some ⟨g, 0, none⟩) n cn)) (hg : Rl w g 0 n gs) (og : ∀ q, q < n → (gs q).ok) (him : w.rangeAt I 0 [.int .u64 im.x0, .int .u64 im.x1, .int .u64 im.x2, .int .u64 im.x3]) (oi : im.ok) :
  Calls Tryz.prog 29 #[.agg #[.slice (some ⟨R, 0, none⟩) 1 cR, .slice (some ⟨I, 0, none⟩) 1 cI, .int .u64 ch.x0, .int .u64 ch.x1, .int .u64 ch.x2, .int .u64 ch.x3, .slice Px n cx]] w fun e w' => ∃ D : Nat, e = .returned (.slice (some ⟨D, 0, none⟩) 1 1) ∧ w.heap.size ≤ D ∧ w'.rangeAt D 0 [.int .u64 (lst (tot (fun q => (ks q).n * (gs q).n) n + -ch.n * im.n)).x0, .int .u64 (lst (tot (fun q => (ks q).n * (gs q).n) n + -ch.n * im.n)).x1, .int .u64 (lst (tot (fun q => (ks q).n * (gs q).n) n + -ch.n * im.n)).x2, .int .u64 (lst (tot (fun q => (ks q).n * (gs q).n) n + -ch.n * im.n)).x3] ∧ Below w.heap.size w w' := by
 obtain ⟨i0, hi, hz0, hz1, hz2⟩ := info_parts linfo
 have hmk := fun w => run_make (P := Tryz.prog) w 41 39 i0 (.agg #[.int .u64 0, .int .u64 0, .int .u64 0, .int .u64 0]) (by kernel_rfl) hi hz0 .i64 .i64 1 1 (by omega) (Int.le_refl _) (by rw [hz2]; omega) (by omega)
 simp only [show ((1 : Int)).toNat = 1 from rfl, hz1, Value.cells, Nat.one_mul] at hmk
 clear hi hz0 hz1 hz2
 have B1 := bl_alloc w (.cells #[.slice (some ⟨R, 0, none⟩) 1 cR, .slice (some ⟨I, 0, none⟩) 1 cI, .int .u64 ch.x0, .int .u64 ch.x1, .int .u64 ch.x2, .int .u64 ch.x3, .slice Px n cx] 73)
 have B2 := bl_trans B1 (bl_alloc (w.alloc (.cells #[.slice (some ⟨R, 0, none⟩) 1 cR, .slice (some ⟨I, 0, none⟩) 1 cI, .int .u64 ch.x0, .int .u64 ch.x1, .int .u64 ch.x2, .int .u64 ch.x3, .slice Px n cx] 73)) (.cells (madeCells #[.int .u64 0, .int .u64 0, .int .u64 0, .int .u64 0] (4)) 39))
 have e0 : ((w.alloc (.cells #[.slice (some ⟨R, 0, none⟩) 1 cR, .slice (some ⟨I, 0, none⟩) 1 cI, .int .u64 ch.x0, .int .u64 ch.x1, .int .u64 ch.x2, .int .u64 ch.x3, .slice Px n cx] 73)).alloc (.cells (madeCells #[.int .u64 0, .int .u64 0, .int .u64 0, .int .u64 0] (4)) 39)).cell? ⟨w.heap.size, 0, none⟩ = some (.slice (some ⟨R, 0, none⟩) 1 cR) := cell_keep (by go_simp) (bl_alloc _ _)
 have e1 : ((w.alloc (.cells #[.slice (some ⟨R, 0, none⟩) 1 cR, .slice (some ⟨I, 0, none⟩) 1 cI, .int .u64 ch.x0, .int .u64 ch.x1, .int .u64 ch.x2, .int .u64 ch.x3, .slice Px n cx] 73)).alloc (.cells (madeCells #[.int .u64 0, .int .u64 0, .int .u64 0, .int .u64 0] (4)) 39)).cell? ⟨w.heap.size, 1, none⟩ = some (.slice (some ⟨I, 0, none⟩) 1 cI) := cell_keep (by go_simp) (bl_alloc _ _)
 have c0 : ((w.alloc (.cells #[.slice (some ⟨R, 0, none⟩) 1 cR, .slice (some ⟨I, 0, none⟩) 1 cI, .int .u64 ch.x0, .int .u64 ch.x1, .int .u64 ch.x2, .int .u64 ch.x3, .slice Px n cx] 73)).alloc (.cells (madeCells #[.int .u64 0, .int .u64 0, .int .u64 0, .int .u64 0] (4)) 39)).cell? ⟨w.heap.size, 2, none⟩ = some (.int .u64 ch.x0) := cell_keep (by go_simp) (bl_alloc _ _)
 have c1 : ((w.alloc (.cells #[.slice (some ⟨R, 0, none⟩) 1 cR, .slice (some ⟨I, 0, none⟩) 1 cI, .int .u64 ch.x0, .int .u64 ch.x1, .int .u64 ch.x2, .int .u64 ch.x3, .slice Px n cx] 73)).alloc (.cells (madeCells #[.int .u64 0, .int .u64 0, .int .u64 0, .int .u64 0] (4)) 39)).cell? ⟨w.heap.size, 3, none⟩ = some (.int .u64 ch.x1) := cell_keep (by go_simp) (bl_alloc _ _)
 have c2 : ((w.alloc (.cells #[.slice (some ⟨R, 0, none⟩) 1 cR, .slice (some ⟨I, 0, none⟩) 1 cI, .int .u64 ch.x0, .int .u64 ch.x1, .int .u64 ch.x2, .int .u64 ch.x3, .slice Px n cx] 73)).alloc (.cells (madeCells #[.int .u64 0, .int .u64 0, .int .u64 0, .int .u64 0] (4)) 39)).cell? ⟨w.heap.size, 4, none⟩ = some (.int .u64 ch.x2) := cell_keep (by go_simp) (bl_alloc _ _)
 have c3 : ((w.alloc (.cells #[.slice (some ⟨R, 0, none⟩) 1 cR, .slice (some ⟨I, 0, none⟩) 1 cI, .int .u64 ch.x0, .int .u64 ch.x1, .int .u64 ch.x2, .int .u64 ch.x3, .slice Px n cx] 73)).alloc (.cells (madeCells #[.int .u64 0, .int .u64 0, .int .u64 0, .int .u64 0] (4)) 39)).cell? ⟨w.heap.size, 5, none⟩ = some (.int .u64 ch.x3) := cell_keep (by go_simp) (bl_alloc _ _)
 have e6 : ((w.alloc (.cells #[.slice (some ⟨R, 0, none⟩) 1 cR, .slice (some ⟨I, 0, none⟩) 1 cI, .int .u64 ch.x0, .int .u64 ch.x1, .int .u64 ch.x2, .int .u64 ch.x3, .slice Px n cx] 73)).alloc (.cells (madeCells #[.int .u64 0, .int .u64 0, .int .u64 0, .int .u64 0] (4)) 39)).cell? ⟨w.heap.size, 6, none⟩ = some (.slice Px n cx) := cell_keep (by go_simp) (bl_alloc _ _)
 have th : ((w.alloc (.cells #[.slice (some ⟨R, 0, none⟩) 1 cR, .slice (some ⟨I, 0, none⟩) 1 cI, .int .u64 ch.x0, .int .u64 ch.x1, .int .u64 ch.x2, .int .u64 ch.x3, .slice Px n cx] 73)).alloc (.cells (madeCells #[.int .u64 0, .int .u64 0, .int .u64 0, .int .u64 0] (4)) 39)).there (w.heap.size + 1) 0 4 := by
  have := there_newM (w.alloc (.cells #[.slice (some ⟨R, 0, none⟩) 1 cR, .slice (some ⟨I, 0, none⟩) 1 cI, .int .u64 ch.x0, .int .u64 ch.x1, .int .u64 ch.x2, .int .u64 ch.x3, .slice Px n cx] 73)) (madeCells #[.int .u64 0, .int .u64 0, .int .u64 0, .int .u64 0] 4).toList 39
  simpa [World.size_alloc, size_madeCells] using this
 have rr := cell_keep hr B2
 have SZ2 : ((w.alloc (.cells #[.slice (some ⟨R, 0, none⟩) 1 cR, .slice (some ⟨I, 0, none⟩) 1 cI, .int .u64 ch.x0, .int .u64 ch.x1, .int .u64 ch.x2, .int .u64 ch.x3, .slice Px n cx] 73)).alloc (.cells (madeCells #[.int .u64 0, .int .u64 0, .int .u64 0, .int .u64 0] (4)) 39)).heap.size = w.heap.size + 1 + 1 := by simp only [World.size_alloc]
 have lI := World.block_lt_of_cell? w _ (him 0 _ rfl)
 obtain ⟨nz, hnz⟩ : ∃ nz, lst (-ch.n) = nz := ⟨_, rfl⟩
 have nzok : nz.ok := hnz ▸ lst_ok _
 obtain ⟨r, hrr⟩ : ∃ r, lst (tot (fun q => (k1 n ks nz q).n * (k1 n gs im q).n) (n + 1)) = r := ⟨_, rfl⟩
 go_enter Tryz.func29, Tryz.ntmps29
 go_upto_region 2 with fail
 generalize ((w.alloc (.cells #[.slice (some ⟨R, 0, none⟩) 1 cR, .slice (some ⟨I, 0, none⟩) 1 cI, .int .u64 ch.x0, .int .u64 ch.x1, .int .u64 ch.x2, .int .u64 ch.x3, .slice Px n cx] 73)).alloc (.cells (madeCells #[.int .u64 0, .int .u64 0, .int .u64 0, .int .u64 0] (4)) 39)) = w2 at *
 clear hmk
 have ZC := hidden (fun (x : World) (hx : Below w2.heap.size w2 x) => zip_any Px g n cx cn ks gs x (by omega) (hl.keep (bl_trans B2 hx)) (hg.keep (bl_trans B2 hx)))
 go_wp2_with fail
 go_loopw [17] (fun iv w' => ∃ i : Nat, (i = 0 ∧ w' = w2 ∨ i = 1 ∧ Hid (w'.rangeAt (w.heap.size + 1) 0 [.int .u64 r.x0, .int .u64 r.x1, .int .u64 r.x2, .int .u64 r.x3] ∧ Below w.heap.size w w')) ∧ iv = .int .i64 i) (fun i _ => 1 - (intOf i).toNat)
 case atStart => exact ⟨0, .inl ⟨rfl, rfl⟩, rfl⟩
 case round =>
  obtain ⟨i, ⟨rfl, rfl⟩ | ⟨rfl, hP⟩, rfl⟩ := hrel
  ·go_upto_region 6 with (first | (go_at_call 45; refine (ZC.out _ (Below.refl _ _)).mono ?_; rintro e wa ⟨tl, rfl, hl0, rl, ba⟩; have HA := hidden (And.intro hl0 (And.intro rl ba)); clear hl0 rl ba ZC))
   obtain ⟨hl0, rl, ba⟩ := HA.out
   have AL : ∀ x, Below (w.heap.size + 1) wa x → Below w.heap.size w x := fun x hx => below_trans (bl_trans B2 ba) (below_less hx (by omega))
   have sa := ba.size
   have tha := Li.there_bl th ba
   have ol := rowIs_own8 rl (B := w.heap.size + 1) (by omega) (by omega)
   have C5 := hidden (fun (x : World) (hx : Below (w.heap.size + 1) wa x) => fix (R := lst (-ch.n)) (Neg_any ch x (hT.keep (AL x hx)) hch) rfl)
   rw [hnz] at C5
   have rj := rows_join1 n ks gs nz im
   have C15 := hidden (fun (x : World) (v2 : Value) (hx : Below (w.heap.size + 1) wa x) (hO : x.ownsRow (w.heap.size + 1) 106 8 v2 (n + 1) ((List.range (n * 8)).map (tvl ks gs) ++ [.int .u64 nz.x0, .int .u64 nz.x1, .int .u64 nz.x2, .int .u64 nz.x3, .int .u64 im.x0, .int .u64 im.x1, .int .u64 im.x2, .int .u64 im.x3])) => show Calls Tryz.prog 46 #[v2] x fun e w' => e = .returned (.agg #[.int .u64 r.x0, .int .u64 r.x1, .int .u64 r.x2, .int .u64 r.x3]) ∧ Below x.heap.size x w' by
    rw [rj] at hO
    obtain ⟨gg, cap, rfl, hgB, hcap⟩ := own_shape8 hO (by omega)
    have TC := total_any gg 0 (n + 1) cap (k1 n ks nz) (fun q _ => (k1 n gs im q).n) x (by omega) (by omega) hcap (hT.keep (AL x hx)) (own_tm8 hO (fun i hi => k1_ok ok nzok i hi) (fun i hi => k1_ok og oi i hi))
    rw [hrr] at TC
    exact TC)
   refine si6 _ (w.heap.size + 1) w.heap.size I (w.heap.size + 1) tl n cI ch nz _ im r _ _ _ _ _ _ _ _ _ _ _ _ _ _ _ _ _ _ _ _ _ _ _ _ _ _ _ _ _ _ _ _ _ _ _ _ _ _ _ _ _ _ _ _ wa (by omega) hn (by omega) (by first | omega | (simp only at lI; omega)) (cell_keep c0 ba) (cell_keep c1 ba) (cell_keep c2 ba) (cell_keep c3 ba) (cell_keep e1 ba) (cell_keep (him 0 _ rfl) (bl_trans B2 ba)) (cell_keep (him 1 _ rfl) (bl_trans B2 ba)) (cell_keep (him 2 _ rfl) (bl_trans B2 ba)) (cell_keep (him 3 _ rfl) (bl_trans B2 ba)) ol tha (Nat.le_refl _) (by omega) C5 C15 (hidden ?_)
   intro v2 tb wz hz
   have PN : Hid (wz.rangeAt (w.heap.size + 1) 0 [.int .u64 r.x0, .int .u64 r.x1, .int .u64 r.x2, .int .u64 r.x3] ∧ Below w.heap.size w wz) := hidden (by
    obtain ⟨wy, hy, hty, rfl⟩ := hz
    exact ⟨World.rangeAt_setCells_same wy (w.heap.size + 1) 0 [.int .u64 r.x0, .int .u64 r.x1, .int .u64 r.x2, .int .u64 r.x3] hty, below_trans (AL wy hy) (below_grown (gb_setCells _ _ 0 _) (AL wy hy).size (fun j hj => by have := Option.some.inj hj; omega))⟩)
   clear C5 C15 ol tha rl rj AL HA hz
   go_wp2_with fail
   go_roundw
   case rel => exact ⟨1, .inr ⟨rfl, PN⟩, by go_num⟩
   case measure => simp [intOf]
  ·go_wp2_with fail
   obtain ⟨q1, q4⟩ := hP.out
   refine bodyPost_ret (v := .slice (some ⟨w.heap.size + 1, 0, none⟩) 1 1) (by simp [results, Tryz.results29, go_sem]) rfl ⟨w.heap.size + 1, rfl, by omega, ?_, q4⟩
   rw [← k1_sum n ks gs nz im ch hnz, hrr]
   exact q1
theorem accepts_L (R I g n cR cI cn cx : Nat) (Px : Option Addr) (ch im : E4) (ks gs : Nat → E4) (X cX : Nat) (fx : E4) (b : Bool) (w : World) (hn : n ≤ 20) (hn1 : 1 ≤ n) (hT : Tb w) (hch : ch.ok) (hl : Lm w Px n ks) (ok : ∀ i, i < n → (ks i).ok) (hr : w.cell? ⟨R, 0, none⟩ = some (.slice (some ⟨g, 0, none⟩) n cn)) (hg : Rl w g 0 n gs) (og : ∀ q, q < n → (gs q).ok) (him : w.rangeAt I 0 [.int .u64 im.x0, .int .u64 im.x1, .int .u64 im.x2, .int .u64 im.x3]) (oi : im.ok) (hX : w.rangeAt X 0 [.int .u64 fx.x0, .int .u64 fx.x1, .int .u64 fx.x2, .int .u64 fx.x3]) (ofx : fx.ok) (hb : (lst (lst (tot (fun q => (ks q).n * (gs q).n) n + -ch.n * im.n)).n).same (lst fx.n) = b) :
  Calls Tryz.prog 22 #[.agg #[.slice (some ⟨R, 0, none⟩) 1 cR, .slice (some ⟨I, 0, none⟩) 1 cI], .slice (some ⟨X, 0, none⟩) 1 cX, .agg #[.int .u64 ch.x0, .int .u64 ch.x1, .int .u64 ch.x2, .int .u64 ch.x3], .slice Px n cx] w fun e w' => e = .returned (.int .i64 (if b then 0 else 111)) ∧ Below w.heap.size w w' := by
 have B3 : Below w.heap.size w (((w.alloc (.cells #[.slice (some ⟨R, 0, none⟩) 1 cR, .slice (some ⟨I, 0, none⟩) 1 cI] 43)).alloc (.cells #[.int .u64 ch.x0, .int .u64 ch.x1, .int .u64 ch.x2, .int .u64 ch.x3] 26)).alloc (.cells #[.slice Px n cx] 23)) := bl_trans (bl_trans (bl_alloc w _) (bl_alloc _ _)) (bl_alloc _ _)
 have e0 : (((w.alloc (.cells #[.slice (some ⟨R, 0, none⟩) 1 cR, .slice (some ⟨I, 0, none⟩) 1 cI] 43)).alloc (.cells #[.int .u64 ch.x0, .int .u64 ch.x1, .int .u64 ch.x2, .int .u64 ch.x3] 26)).alloc (.cells #[.slice Px n cx] 23)).cell? ⟨w.heap.size, 0, none⟩ = some (.slice (some ⟨R, 0, none⟩) 1 cR) := by go_simp
 have e1 : (((w.alloc (.cells #[.slice (some ⟨R, 0, none⟩) 1 cR, .slice (some ⟨I, 0, none⟩) 1 cI] 43)).alloc (.cells #[.int .u64 ch.x0, .int .u64 ch.x1, .int .u64 ch.x2, .int .u64 ch.x3] 26)).alloc (.cells #[.slice Px n cx] 23)).cell? ⟨w.heap.size, 1, none⟩ = some (.slice (some ⟨I, 0, none⟩) 1 cI) := by go_simp
 have cc0 : (((w.alloc (.cells #[.slice (some ⟨R, 0, none⟩) 1 cR, .slice (some ⟨I, 0, none⟩) 1 cI] 43)).alloc (.cells #[.int .u64 ch.x0, .int .u64 ch.x1, .int .u64 ch.x2, .int .u64 ch.x3] 26)).alloc (.cells #[.slice Px n cx] 23)).cell? ⟨w.heap.size + 1, 0, none⟩ = some (.int .u64 ch.x0) := by go_simp
 have cc1 : (((w.alloc (.cells #[.slice (some ⟨R, 0, none⟩) 1 cR, .slice (some ⟨I, 0, none⟩) 1 cI] 43)).alloc (.cells #[.int .u64 ch.x0, .int .u64 ch.x1, .int .u64 ch.x2, .int .u64 ch.x3] 26)).alloc (.cells #[.slice Px n cx] 23)).cell? ⟨w.heap.size + 1, 1, none⟩ = some (.int .u64 ch.x1) := by go_simp
 have cc2 : (((w.alloc (.cells #[.slice (some ⟨R, 0, none⟩) 1 cR, .slice (some ⟨I, 0, none⟩) 1 cI] 43)).alloc (.cells #[.int .u64 ch.x0, .int .u64 ch.x1, .int .u64 ch.x2, .int .u64 ch.x3] 26)).alloc (.cells #[.slice Px n cx] 23)).cell? ⟨w.heap.size + 1, 2, none⟩ = some (.int .u64 ch.x2) := by go_simp
 have cc3 : (((w.alloc (.cells #[.slice (some ⟨R, 0, none⟩) 1 cR, .slice (some ⟨I, 0, none⟩) 1 cI] 43)).alloc (.cells #[.int .u64 ch.x0, .int .u64 ch.x1, .int .u64 ch.x2, .int .u64 ch.x3] 26)).alloc (.cells #[.slice Px n cx] 23)).cell? ⟨w.heap.size + 1, 3, none⟩ = some (.int .u64 ch.x3) := by go_simp
 have t0 : (((w.alloc (.cells #[.slice (some ⟨R, 0, none⟩) 1 cR, .slice (some ⟨I, 0, none⟩) 1 cI] 43)).alloc (.cells #[.int .u64 ch.x0, .int .u64 ch.x1, .int .u64 ch.x2, .int .u64 ch.x3] 26)).alloc (.cells #[.slice Px n cx] 23)).cell? ⟨w.heap.size + 1 + 1, 0, none⟩ = some (.slice Px n cx) := by go_simp
 have CF := hidden (fits_L R I g n cR cI cn (w.heap.size + 1 + 1) cx Px (((w.alloc (.cells #[.slice (some ⟨R, 0, none⟩) 1 cR, .slice (some ⟨I, 0, none⟩) 1 cI] 43)).alloc (.cells #[.int .u64 ch.x0, .int .u64 ch.x1, .int .u64 ch.x2, .int .u64 ch.x3] 26)).alloc (.cells #[.slice Px n cx] 23)) hn1 (cell_keep hr B3) t0)
 have CS := hidden (fun (x : World) (hx : Below w.heap.size w x) => sim_any R I g n cR cI cn cx Px ch im ks gs x hn hn1 (hT.keep hx) hch (hl.keep hx) ok (cell_keep hr hx) (hg.keep hx) og (range_bl him hx) oi)
 have SM : Hid (∀ (wb : World), Below w.heap.size w wb → ∀ y, Below wb.heap.size wb y → Calls Tryz.prog 132 #[.agg #[.int .u64 (lst (tot (fun q => (ks q).n * (gs q).n) n + -ch.n * im.n)).x0, .int .u64 (lst (tot (fun q => (ks q).n * (gs q).n) n + -ch.n * im.n)).x1, .int .u64 (lst (tot (fun q => (ks q).n * (gs q).n) n + -ch.n * im.n)).x2, .int .u64 (lst (tot (fun q => (ks q).n * (gs q).n) n + -ch.n * im.n)).x3], .agg #[.int .u64 fx.x0, .int .u64 fx.x1, .int .u64 fx.x2, .int .u64 fx.x3]] y fun e w' => e = .returned (.bool b) ∧ Below y.heap.size y w') := hidden (fun wb BB y hy => (lSame_any _ fx y (hT.keep (bl_trans BB hy)) (lst_ok _) ofx).mono (fun e w' q => ⟨by rw [q.1, hb], q.2⟩))
 have HX := hidden hX
 clear hl hr hg him hb ofx oi og hT hch ok hX
 cases b with
 | true =>
  go_enter Tryz.func22, Tryz.ntmps22
  go_wp2_with (first
   | (go_at_call 25; refine CF.out.mono ?_; rintro e wa ⟨rfl, ha⟩; have a0 := cell_keep e0 ha; have a1 := cell_keep e1 ha; have b0 := cell_keep cc0 ha; have b1 := cell_keep cc1 ha; have b2 := cell_keep cc2 ha; have b3 := cell_keep cc3 ha; have BA := hidden (bl_trans B3 ha); clear ha CF)
   | (go_at_call 29; refine (CS.out _ BA.out).mono ?_; rintro e wb ⟨D, rfl, hD, q1, hc⟩; have BB := bl_trans BA.out hc; have EQ := hidden (equal_L D X 1 cX _ fx _ wb (q1 0 _ rfl) (q1 1 _ rfl) (q1 2 _ rfl) (q1 3 _ rfl) (cell_keep (HX.out 0 _ rfl) BB) (cell_keep (HX.out 1 _ rfl) BB) (cell_keep (HX.out 2 _ rfl) BB) (cell_keep (HX.out 3 _ rfl) BB) (SM.out wb BB)); have BW := hidden BB; clear hD q1 hc BB CS)
   | (go_at_call 43; refine EQ.out.mono ?_; rintro e wc ⟨rfl, hd⟩; have BC := hidden (bl_trans BW.out hd); clear hd EQ))
  refine bodyPost_ret (v := .int .i64 0) (by simp [results, Tryz.results22, go_sem]) rfl ⟨rfl, BC.out⟩
 | false =>
  go_enter Tryz.func22, Tryz.ntmps22
  go_wp2_with (first
   | (go_at_call 25; refine CF.out.mono ?_; rintro e wa ⟨rfl, ha⟩; have a0 := cell_keep e0 ha; have a1 := cell_keep e1 ha; have b0 := cell_keep cc0 ha; have b1 := cell_keep cc1 ha; have b2 := cell_keep cc2 ha; have b3 := cell_keep cc3 ha; have BA := hidden (bl_trans B3 ha); clear ha CF)
   | (go_at_call 29; refine (CS.out _ BA.out).mono ?_; rintro e wb ⟨D, rfl, hD, q1, hc⟩; have BB := bl_trans BA.out hc; have EQ := hidden (equal_L D X 1 cX _ fx _ wb (q1 0 _ rfl) (q1 1 _ rfl) (q1 2 _ rfl) (q1 3 _ rfl) (cell_keep (HX.out 0 _ rfl) BB) (cell_keep (HX.out 1 _ rfl) BB) (cell_keep (HX.out 2 _ rfl) BB) (cell_keep (HX.out 3 _ rfl) BB) (SM.out wb BB)); have BW := hidden BB; clear hD q1 hc BB CS)
   | (go_at_call 43; refine EQ.out.mono ?_; rintro e wc ⟨rfl, hd⟩; have BC := hidden (bl_trans BW.out hd); clear hd EQ))
  refine bodyPost_ret (v := .int .i64 111) (by simp [results, Tryz.results22, go_sem]) rfl ⟨rfl, BC.out⟩
end Go.Proofs.YtbbnjmjeeiglcaaGreatDoor.Li
