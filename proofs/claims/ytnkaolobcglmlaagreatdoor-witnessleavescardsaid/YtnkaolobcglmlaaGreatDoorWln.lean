import Derived.Test.YtnkaolobcglmlaaGreatDoorTk
import Derived.Test.YtnkaolobcglmlaaGreatDoorWz
namespace Go.Proofs.YtnkaolobcglmlaaGreatDoor
open Go.RowKit
set_option linter.unusedVariables false
set_option linter.unusedSimpArgs false
open Cm (Wr Tm co bf Ls lf ins Eqm)
namespace Ci
set_option maxRecDepth 100000
set_option maxHeartbeats 8000000
theorem mdinfo : (Tryz.prog.info? 41).map (·.size) = some 10 := by kernel_rfl
theorem ok4_of {b0 rb : Nat} {x y : World} (hb : x.grownBy y (some rb)) (h0 : b0 ≤ rb) (h1 : b0 ≤ x.heap.size) {cur : Array Value} (hr : x.heap[rb]? = some (.cells cur 41 (0, 0))) : Ok4 rb b0 x y :=
 ⟨⟨hb.os, hb.tape, hb.output, hb.size, fun k hk => hb.block k (Nat.lt_of_lt_of_le hk h1) (fun e => by have := Option.some.inj e; omega)⟩, fun k cur2 e hk h2 h3 h4 => (hb.block k (Array.getElem?_eq_some_iff.1 hk).1 (fun e' => by
  have e' := Option.some.inj e'
  subst e'
  rw [hr] at hk
  simp only [Option.some.injEq, Obj.cells.injEq] at hk
  exact h2 hk.2.1.symm rfl)).trans hk⟩
structure B42 (W : World) (rb mb r K nq cv : Nat) (Pv : Option Addr) (cs : List Value) (x : World) : Prop where
 g : W.grownBy x (some rb)
 m : x.rangeAt mb 0 cs
 k : x.cell? ⟨r, 1, none⟩ = some (.int .i64 (K : Int))
 q : x.cell? ⟨r, 2, none⟩ = some (.slice Pv nq cv)
 th : x.there rb 0 10
theorem B42.keep {W : World} {rb mb r K nq cv : Nat} {Pv : Option Addr} {cs : List Value} {x y : World} (h : B42 W rb mb r K nq cv Pv cs x) (hb : Below x.heap.size x y) : B42 W rb mb r K nq cv Pv cs y :=
 ⟨h.g.trans (gbI hb _), fun j v hv => cell_keep (h.m j v hv) hb, cell_keep h.k hb, cell_keep h.q hb, there_bl h.th hb⟩
theorem B42.set {W : World} {rb mb r K nq cv : Nat} {Pv : Option Addr} {cs : List Value} {x : World} (h : B42 W rb mb r K nq cv Pv cs x) (n1 : some mb ≠ some rb) (n2 : some r ≠ some rb) : B42 W rb mb r K nq cv Pv cs (x.setCells rb 0 cs) :=
 ⟨h.g.trans (gb_setCells rb cs 0 _), fun j v hv => (gb_setCells rb cs 0 x).cell (h.m j v hv) n1, (gb_setCells rb cs 0 x).cell h.k n2, (gb_setCells rb cs 0 x).cell h.q n2, there_setM h.th rb cs⟩
def bu42o_0 : Oper := { dst := some 213, op := Op.load 41 (Operand.tmp 9), type := 41, pos := "law.go:137", after := #[], guard := none }
def bu42o_1 : Oper := { dst := some 214, op := Op.move (Operand.tmp 5), type := 32, pos := "law.go:137", after := #[], guard := none }
def bu42o_2 : Oper := { dst := some 215, op := Op.call { callee := Callee.value (Operand.func 21), args := #[Operand.tmp 214], argTypes := #[32] }, type := 3, pos := "law.go:137", after := #[{ on := 1, ground := Ground.data }], guard := none }
def bu42o_3 : Oper := { dst := some 216, op := Op.move (Operand.tmp 7), type := 33, pos := "law.go:137", after := #[], guard := none }
def bu42o_4 : Oper := { dst := some 217, op := Op.nilCheck (Operand.tmp 216), type := 0, pos := "law.go:137", after := #[{ on := 3, ground := Ground.data }], guard := none }
def bu42o_5 : Oper := { dst := some 218, op := Op.fieldAddr 79 (Operand.tmp 217) 1, type := 0, pos := "law.go:137", after := #[{ on := 4, ground := Ground.data }], guard := none }
def bu42o_6 : Oper := { dst := some 219, op := Op.load 3 (Operand.tmp 218), type := 3, pos := "law.go:137", after := #[{ on := 5, ground := Ground.data }], guard := none }
def bu42o_7 : Oper := { dst := some 220, op := Op.binOp BinOp.eql 3 (Operand.tmp 215) (Operand.tmp 219) 3, type := 4, pos := "law.go:137", after := #[{ on := 2, ground := Ground.data }, { on := 6, ground := Ground.data }], guard := none }
def bu42o_8 : Oper := { dst := some 221, op := Op.move (Operand.tmp 220), type := 4, pos := "law.go:137", after := #[{ on := 7, ground := Ground.data }, { on := 2, ground := Ground.chain }], guard := none }
def bu42o_9 : Oper := { dst := some 222, op := Op.move (Operand.tmp 5), type := 32, pos := "law.go:137", after := #[{ on := 8, ground := Ground.guard }], guard := some (8, true) }
def bu42o_10 : Oper := { dst := some 223, op := Op.call { callee := Callee.value (Operand.func 22), args := #[Operand.tmp 222], argTypes := #[32] }, type := 3, pos := "law.go:137", after := #[{ on := 9, ground := Ground.data }, { on := 8, ground := Ground.chain }, { on := 8, ground := Ground.guard }], guard := some (8, true) }
def bu42o_11 : Oper := { dst := some 224, op := Op.move (Operand.tmp 7), type := 33, pos := "law.go:137", after := #[{ on := 8, ground := Ground.guard }], guard := some (8, true) }
def bu42o_12 : Oper := { dst := some 225, op := Op.nilCheck (Operand.tmp 224), type := 0, pos := "law.go:137", after := #[{ on := 11, ground := Ground.data }, { on := 8, ground := Ground.guard }], guard := some (8, true) }
def bu42o_13 : Oper := { dst := some 226, op := Op.fieldAddr 79 (Operand.tmp 225) 2, type := 0, pos := "law.go:137", after := #[{ on := 12, ground := Ground.data }, { on := 8, ground := Ground.guard }], guard := some (8, true) }
def bu42o_14 : Oper := { dst := some 227, op := Op.load 77 (Operand.tmp 226), type := 77, pos := "law.go:137", after := #[{ on := 13, ground := Ground.data }, { on := 8, ground := Ground.guard }], guard := some (8, true) }
def bu42o_15 : Oper := { dst := some 228, op := Op.call { callee := Callee.builtin Builtin.len, args := #[Operand.tmp 227], argTypes := #[77] }, type := 3, pos := "law.go:137", after := #[{ on := 14, ground := Ground.data }, { on := 8, ground := Ground.guard }], guard := some (8, true) }
def bu42o_16 : Oper := { dst := some 229, op := Op.binOp BinOp.eql 3 (Operand.tmp 223) (Operand.tmp 228) 3, type := 4, pos := "law.go:137", after := #[{ on := 10, ground := Ground.data }, { on := 15, ground := Ground.data }, { on := 8, ground := Ground.guard }, { on := 18, ground := Ground.gcOnly Departure.lateStores }], guard := some (8, true) }
def bu42o_17 : Oper := { dst := some 230, op := Op.pick (Operand.tmp 221) (Operand.tmp 229) (Operand.const (Value.bool false)), type := 4, pos := "law.go:137", after := #[{ on := 8, ground := Ground.data }, { on := 16, ground := Ground.data }, { on := 18, ground := Ground.gcOnly Departure.lateStores }], guard := none }
def bu42o_18 : Oper := { dst := none, op := Op.store 41 (Operand.tmp 2) (Operand.tmp 213), type := 0, pos := "law.go:137", after := #[{ on := 0, ground := Ground.data }, { on := 10, ground := Ground.chain }, { on := 0, ground := Ground.phase }, { on := 1, ground := Ground.textOnly Departure.lateStores }, { on := 2, ground := Ground.textOnly Departure.lateStoresUnsure }, { on := 3, ground := Ground.textOnly Departure.lateStores }, { on := 4, ground := Ground.textOnly Departure.lateStores }, { on := 5, ground := Ground.textOnly Departure.lateStores }, { on := 6, ground := Ground.textOnly Departure.lateStores }, { on := 7, ground := Ground.textOnly Departure.lateStores }, { on := 8, ground := Ground.textOnly Departure.lateStores }, { on := 9, ground := Ground.textOnly Departure.lateStores }, { on := 10, ground := Ground.textOnly Departure.lateStoresUnsure }, { on := 11, ground := Ground.textOnly Departure.lateStores }, { on := 12, ground := Ground.textOnly Departure.lateStores }, { on := 13, ground := Ground.textOnly Departure.lateStores }, { on := 14, ground := Ground.textOnly Departure.lateStores }, { on := 15, ground := Ground.textOnly Departure.lateStoresUnsure }, { on := 16, ground := Ground.textOnly Departure.lateStores }, { on := 17, ground := Ground.textOnly Departure.lateStores }], guard := none }
def bu42o_19 : Oper := { dst := some 3, op := Op.assign (Operand.tmp 230), type := 4, pos := "law.go:137", after := #[{ on := 17, ground := Ground.data }, { on := 18, ground := Ground.chain }, { on := 0, ground := Ground.phase }, { on := 1, ground := Ground.phase }, { on := 2, ground := Ground.phase }, { on := 3, ground := Ground.phase }, { on := 4, ground := Ground.phase }, { on := 5, ground := Ground.phase }, { on := 6, ground := Ground.phase }, { on := 7, ground := Ground.phase }, { on := 8, ground := Ground.phase }, { on := 9, ground := Ground.phase }, { on := 10, ground := Ground.phase }, { on := 11, ground := Ground.phase }, { on := 12, ground := Ground.phase }, { on := 13, ground := Ground.phase }, { on := 14, ground := Ground.phase }, { on := 15, ground := Ground.phase }, { on := 16, ground := Ground.phase }, { on := 17, ground := Ground.phase }, { on := 18, ground := Ground.phase }], guard := none }
def bu42o : Array Oper := #[bu42o_0, bu42o_1, bu42o_2, bu42o_3, bu42o_4, bu42o_5, bu42o_6, bu42o_7, bu42o_8, bu42o_9, bu42o_10, bu42o_11, bu42o_12, bu42o_13, bu42o_14, bu42o_15, bu42o_16, bu42o_17, bu42o_18, bu42o_19]
set_option maxRecDepth 100000 in
set_option maxHeartbeats 16000000 in
theorem bu42 (Q : Exit → Act → World → Prop) (mb rb t r K nq cv : Nat) (Pv : Option Addr) (cs : List Value) (u0 u1 u3 u4 u6 u8 u10 u11 u12 u13 u14 u15 u16 u17 u18 u19 u20 u21 u22 u23 u24 u25 u26 u27 u28 u29 u30 u31 u32 u33 u34 u35 u36 u37 u38 u39 u40 u41 u42 u43 u44 u45 u46 u47 u48 u49 u50 u51 u52 u53 u54 u55 u56 u57 u58 u59 u60 u61 u62 u63 u64 u65 u66 u67 u68 u69 u70 u71 u72 u73 u74 u75 u76 u77 u78 u79 u80 u81 u82 u83 u84 u85 u86 u87 u88 u89 u90 u91 u92 u93 u94 u95 u96 u97 u98 u99 u100 u101 u102 u103 u104 u105 u106 u107 u108 u109 u110 u111 u112 u113 u114 u115 u116 u117 u118 u119 u120 u121 u122 u123 u124 u125 u126 u127 u128 u129 u130 u131 u132 u133 u134 u135 u136 u137 u138 u139 u140 u141 u142 u143 u144 u145 u146 u147 u148 u149 u150 u151 u152 u153 u154 u155 u156 u157 u158 u159 u160 u161 u162 u163 u164 u165 u166 u167 u168 u169 u170 u171 u172 u173 u174 u175 u176 u177 u178 u179 u180 u181 u182 u183 u184 u185 u186 u187 u188 u189 u190 u191 u192 u193 u194 u195 u196 u197 u198 u199 u200 u201 u202 u203 u204 u205 u206 u207 u208 u209 u210 u211 u212 u213 u214 u215 u216 u217 u218 u219 u220 u221 u222 u223 u224 u225 u226 u227 u228 u229 u230 : Value) (W : World)
  (C1 : Hid (∀ y, W.grownBy y (some rb) → Calls Tryz.prog 21 #[.pointer (some ⟨t, 0, none⟩)] y fun e w' => e = .returned (.int .i64 (K : Int)) ∧ Below y.heap.size y w'))
  (C2 : Hid (∀ y, W.grownBy y (some rb) → Calls Tryz.prog 22 #[.pointer (some ⟨t, 0, none⟩)] y fun e w' => e = .returned (.int .i64 (nq : Int)) ∧ Below y.heap.size y w'))
  (hr : W.rangeAt mb 0 cs) (x1 : W.cell? ⟨r, 1, none⟩ = some (.int .i64 (K : Int))) (x2 : W.cell? ⟨r, 2, none⟩ = some (.slice Pv nq cv)) (NM : Hid (some mb ≠ some rb)) (NR : Hid (some r ≠ some rb)) (HL : Hid (cs.length = 10)) (OC : Hid (cs.toArray.all (·.oneCell') = true)) (th : W.there rb 0 10)
  (HQ : Hid (∀ (wz : World), W.grownBy wz (some rb) → World.rangeAt wz rb 0 cs → Q .normal ⟨#[u0, u1, .pointer (some ⟨rb, 0, none⟩), .bool true, u4, .pointer (some ⟨t, 0, none⟩), u6, .pointer (some ⟨r, 0, none⟩), u8, .pointer (some ⟨mb, 0, none⟩), u10, u11, u12, u13, u14, u15, u16, u17, u18, u19, u20, u21, u22, u23, u24, u25, u26, u27, u28, u29, u30, u31, u32, u33, u34, u35, u36, u37, u38, u39, u40, u41, u42, u43, u44, u45, u46, u47, u48, u49, u50, u51, u52, u53, u54, u55, u56, u57, u58, u59, u60, u61, u62, u63, u64, u65, u66, u67, u68, u69, u70, u71, u72, u73, u74, u75, u76, u77, u78, u79, u80, u81, u82, u83, u84, u85, u86, u87, u88, u89, u90, u91, u92, u93, u94, u95, u96, u97, u98, u99, u100, u101, u102, u103, u104, u105, u106, u107, u108, u109, u110, u111, u112, u113, u114, u115, u116, u117, u118, u119, u120, u121, u122, u123, u124, u125, u126, u127, u128, u129, u130, u131, u132, u133, u134, u135, u136, u137, u138, u139, u140, u141, u142, u143, u144, u145, u146, u147, u148, u149, u150, u151, u152, u153, u154, u155, u156, u157, u158, u159, u160, u161, u162, u163, u164, u165, u166, u167, u168, u169, u170, u171, u172, u173, u174, u175, u176, u177, u178, u179, u180, u181, u182, u183, u184, u185, u186, u187, u188, u189, u190, u191, u192, u193, u194, u195, u196, u197, u198, u199, u200, u201, u202, u203, u204, u205, u206, u207, u208, u209, u210, u211, u212, .agg cs.toArray, .pointer (some ⟨t, 0, none⟩), .int .i64 (K : Int), .pointer (some ⟨r, 0, none⟩), .pointer (some ⟨r, 0, none⟩), .pointer (some ⟨r, 1, none⟩), .int .i64 (K : Int), .bool true, .bool true, .pointer (some ⟨t, 0, none⟩), .int .i64 (nq : Int), .pointer (some ⟨r, 0, none⟩), .pointer (some ⟨r, 0, none⟩), .pointer (some ⟨r, 2, none⟩), .slice Pv nq cv, .int .i64 (nq : Int), .bool true, .bool true], []⟩ wz)) : (Code.region 42 bu42o true).wp Tryz.prog Q ⟨#[u0, u1, .pointer (some ⟨rb, 0, none⟩), u3, u4, .pointer (some ⟨t, 0, none⟩), u6, .pointer (some ⟨r, 0, none⟩), u8, .pointer (some ⟨mb, 0, none⟩), u10, u11, u12, u13, u14, u15, u16, u17, u18, u19, u20, u21, u22, u23, u24, u25, u26, u27, u28, u29, u30, u31, u32, u33, u34, u35, u36, u37, u38, u39, u40, u41, u42, u43, u44, u45, u46, u47, u48, u49, u50, u51, u52, u53, u54, u55, u56, u57, u58, u59, u60, u61, u62, u63, u64, u65, u66, u67, u68, u69, u70, u71, u72, u73, u74, u75, u76, u77, u78, u79, u80, u81, u82, u83, u84, u85, u86, u87, u88, u89, u90, u91, u92, u93, u94, u95, u96, u97, u98, u99, u100, u101, u102, u103, u104, u105, u106, u107, u108, u109, u110, u111, u112, u113, u114, u115, u116, u117, u118, u119, u120, u121, u122, u123, u124, u125, u126, u127, u128, u129, u130, u131, u132, u133, u134, u135, u136, u137, u138, u139, u140, u141, u142, u143, u144, u145, u146, u147, u148, u149, u150, u151, u152, u153, u154, u155, u156, u157, u158, u159, u160, u161, u162, u163, u164, u165, u166, u167, u168, u169, u170, u171, u172, u173, u174, u175, u176, u177, u178, u179, u180, u181, u182, u183, u184, u185, u186, u187, u188, u189, u190, u191, u192, u193, u194, u195, u196, u197, u198, u199, u200, u201, u202, u203, u204, u205, u206, u207, u208, u209, u210, u211, u212, u213, u214, u215, u216, u217, u218, u219, u220, u221, u222, u223, u224, u225, u226, u227, u228, u229, u230], []⟩ W := by
 have UT : Hid (Tryz.prog.underlying 41 = _) := hidden Tryz.underlying41
 have IT : Hid ((Tryz.prog.info? 41).map (·.size) = some cs.length) := hidden (by rw [HL.out]; exact mdinfo)
 unfold bu42o
 refine wp_region_noPanic ?_
 refine wp_region_held_drew (S := fun x => B42 W rb mb r K nq cv Pv cs x) (by kernel_rfl) (⟨gbI (bl_drew W) _, hr, x1, x2, there_bl th (bl_drew W)⟩) (fun hH0 => ?_)
 refine wpAnyH_take (i := 0) (oi := bu42o_0) (v := .agg (cs).toArray) rfl (by kernel_rfl) (by kernel_rfl) (by kernel_rfl) (fun _ _ _ h => h) (yieldsIf_load_mid (by rfl) 41 _ rfl (mb) (0) rfl (cs) _ (fun w0 hSw => hSw.m) UT.out rfl IT.out) hH0 ?_
 simp only [bu42o_0, Act.put, sA, sB, sC]
 refine tk 1 bu42o_1 (.pointer (some ⟨t, 0, none⟩)) rfl (by kernel_rfl) hH0 rfl (fun w0 hSw => ?_) ?_
 ·(unfold bu42o_1; clear hSw; go_simp)
 simp only [bu42o_1, Act.put, sA, sB, sC]
 refine tk 3 bu42o_3 (.pointer (some ⟨r, 0, none⟩)) rfl (by kernel_rfl) hH0 rfl (fun w0 hSw => ?_) ?_
 ·(unfold bu42o_3; clear hSw; go_simp)
 simp only [bu42o_3, Act.put, sA, sB, sC]
 refine tk 4 bu42o_4 (.pointer (some ⟨r, 0, none⟩)) rfl (by kernel_rfl) hH0 rfl (fun w0 hSw => ?_) ?_
 ·(unfold bu42o_4; clear hSw; go_simp)
 simp only [bu42o_4, Act.put, sA, sB, sC]
 refine tk 5 bu42o_5 (.pointer (some ⟨r, 1, none⟩)) rfl (by kernel_rfl) hH0 rfl (fun w0 hSw => ?_) ?_
 ·(unfold bu42o_5; clear hSw; go_simp)
 simp only [bu42o_5, Act.put, sA, sB, sC]
 refine tk 6 bu42o_6 (.int .i64 (K : Int)) rfl (by kernel_rfl) hH0 rfl (fun w0 hSw => ?_) ?_
 ·(unfold bu42o_6; have hS : B42 W rb mb r K nq cv Pv cs w0 := hSw; have a0 := hS.k; clear hS hSw; go_simp)
 simp only [bu42o_6, Act.put, sA, sB, sC]
 refine wpAnyH_ready (rs := [2]) (by kernel_rfl) (by simp) ?_
 refine AllReadyH.cons (o := bu42o_2) rfl (fun K hK => ?_) AllReadyH.nil
 unfold bu42o_2
 have HH := hidden hH0
 clear hH0
 go_simp
 refine (C1.out _ HH.out.g).mono ?_
 rintro e wn1 ⟨rfl, hb⟩
 have SN := hidden (HH.out.keep hb)
 clear HH hb
 go_wp2_with fail
 refine hK.out _ _ SN.out (fun hH1 => ?_)
 clear hK K SN
 refine tk 7 bu42o_7 (.bool true) rfl (by kernel_rfl) hH1 rfl (fun w0 hSw => ?_) ?_
 ·(unfold bu42o_7; clear hSw; go_simp)
 simp only [bu42o_7, Act.put, sA, sB, sC]
 refine tk 8 bu42o_8 (.bool true) rfl (by kernel_rfl) hH1 rfl (fun w0 hSw => ?_) ?_
 ·(unfold bu42o_8; clear hSw; go_simp)
 simp only [bu42o_8, Act.put, sA, sB, sC]
 refine tk 9 bu42o_9 (.pointer (some ⟨t, 0, none⟩)) rfl (by kernel_rfl) hH1 rfl (fun w0 hSw => ?_) ?_
 ·(unfold bu42o_9; clear hSw; go_simp)
 simp only [bu42o_9, Act.put, sA, sB, sC]
 refine tk 11 bu42o_11 (.pointer (some ⟨r, 0, none⟩)) rfl (by kernel_rfl) hH1 rfl (fun w0 hSw => ?_) ?_
 ·(unfold bu42o_11; clear hSw; go_simp)
 simp only [bu42o_11, Act.put, sA, sB, sC]
 refine tk 12 bu42o_12 (.pointer (some ⟨r, 0, none⟩)) rfl (by kernel_rfl) hH1 rfl (fun w0 hSw => ?_) ?_
 ·(unfold bu42o_12; clear hSw; go_simp)
 simp only [bu42o_12, Act.put, sA, sB, sC]
 refine tk 13 bu42o_13 (.pointer (some ⟨r, 2, none⟩)) rfl (by kernel_rfl) hH1 rfl (fun w0 hSw => ?_) ?_
 ·(unfold bu42o_13; clear hSw; go_simp)
 simp only [bu42o_13, Act.put, sA, sB, sC]
 refine tk 14 bu42o_14 (.slice Pv nq cv) rfl (by kernel_rfl) hH1 rfl (fun w0 hSw => ?_) ?_
 ·(unfold bu42o_14; have hS : B42 W rb mb r K nq cv Pv cs w0 := hSw; have a0 := hS.q; clear hS hSw; go_simp)
 simp only [bu42o_14, Act.put, sA, sB, sC]
 refine tk 15 bu42o_15 (.int .i64 (nq : Int)) rfl (by kernel_rfl) hH1 rfl (fun w0 hSw => ?_) ?_
 ·(unfold bu42o_15; clear hSw; go_simp)
 simp only [bu42o_15, Act.put, sA, sB, sC]
 refine wpAnyH_ready (rs := [10]) (by kernel_rfl) (by simp) ?_
 refine AllReadyH.cons (o := bu42o_10) rfl (fun K hK => ?_) AllReadyH.nil
 unfold bu42o_10
 have HH := hidden hH1
 clear hH1
 go_simp
 refine (C2.out _ HH.out.g).mono ?_
 rintro e wn2 ⟨rfl, hb⟩
 have SN := hidden (HH.out.keep hb)
 clear HH hb
 go_wp2_with fail
 refine hK.out _ _ SN.out (fun hH2 => ?_)
 clear hK K SN
 refine tk 16 bu42o_16 (.bool true) rfl (by kernel_rfl) hH2 rfl (fun w0 hSw => ?_) ?_
 ·(unfold bu42o_16; clear hSw; go_simp)
 simp only [bu42o_16, Act.put, sA, sB, sC]
 refine tk 17 bu42o_17 (.bool true) rfl (by kernel_rfl) hH2 rfl (fun w0 hSw => ?_) ?_
 ·(unfold bu42o_17; clear hSw; go_simp)
 simp only [bu42o_17, Act.put, sA, sB, sC]
 refine wpAnyH_ready (rs := [18]) (by kernel_rfl) (by simp) ?_
 refine AllReadyH.cons (o := bu42o_18) rfl (fun K hK => ?_) AllReadyH.nil
 unfold bu42o_18
 have HH := hidden hH2
 clear hH2
 refine wp_storeE 41 _ _ rfl rb 0 (cs) (by rfl) (by rfl) (by rw [HL.out]; exact HH.out.th) (by rw [HL.out]; exact mdinfo) OC.out rfl (fun wn3 hw => ?_)
 have SN := hidden (HH.out.set NM.out NR.out)
 have RG := hidden ((by rw [hw]; exact World.rangeAt_setCells_same _ rb 0 _ (by rw [HL.out]; exact HH.out.th) : World.rangeAt wn3 rb 0 cs))
 rw [← hw] at SN
 clear HH hw
 refine hK.out _ _ SN.out (fun hH3 => ?_)
 clear hK K SN
 refine tk 19 bu42o_19 (.bool true) rfl (by kernel_rfl) hH3 rfl (fun w0 hSw => ?_) ?_
 ·(unfold bu42o_19; clear hSw; go_simp)
 simp only [bu42o_19, Act.put, sA, sB, sC]
 have HH := hidden hH3
 have FQ := hidden (HQ.out _ HH.out.g RG.out)
 refine wpAnyH_done (by kernel_rfl) ?_ _
 refine NoPanic.normal ?_
 exact FQ.out
end Ci
end Go.Proofs.YtnkaolobcglmlaaGreatDoor
