import Derived.Test.YtnkaolobcglmlaaGreatDoorTk
import Derived.Test.YtnkaolobcglmlaaGreatDoorWab
import Derived.Test.YtnkaolobcglmlaaGreatDoorSrl
namespace Go.Proofs.YtnkaolobcglmlaaGreatDoor
open Go.RowKit
set_option linter.unusedVariables false
set_option linter.unusedSimpArgs false
open Cm (Wr Tm co bf Ls lf ins Eqm)
namespace Ci
set_option maxRecDepth 100000
set_option maxHeartbeats 8000000
structure Pts (w : World) (pb po n : Nat) (a : Nat → Int) (g : Nat → E4) : Prop where
 c0 : ∀ k, k < n → w.cell? ⟨pb, po + k * 5, none⟩ = some (.int .i64 (a k))
 c1 : ∀ k, k < n → w.cell? ⟨pb, po + k * 5 + 1, none⟩ = some (.int .u64 (g k).x0)
 c2 : ∀ k, k < n → w.cell? ⟨pb, po + k * 5 + 1 + 1, none⟩ = some (.int .u64 (g k).x1)
 c3 : ∀ k, k < n → w.cell? ⟨pb, po + k * 5 + 1 + 2, none⟩ = some (.int .u64 (g k).x2)
 c4 : ∀ k, k < n → w.cell? ⟨pb, po + k * 5 + 1 + 3, none⟩ = some (.int .u64 (g k).x3)
 lo : ∀ k, k < n → -9223372036854775808 ≤ a k ∧ a k ≤ 9223372036854775807
 ok : ∀ k, k < n → (g k).ok
theorem Pts.keep {w w' : World} {pb po n : Nat} {a : Nat → Int} {g : Nat → E4} (h : Pts w pb po n a g) (hb : Below w.heap.size w w') : Pts w' pb po n a g :=
 ⟨fun k hk => cell_keep (h.c0 k hk) hb, fun k hk => cell_keep (h.c1 k hk) hb, fun k hk => cell_keep (h.c2 k hk) hb, fun k hk => cell_keep (h.c3 k hk) hb, fun k hk => cell_keep (h.c4 k hk) hb, h.lo, h.ok⟩
def Prt (w : World) (P : Option Addr) (n : Nat) (a : Nat → Int) (g : Nat → E4) : Prop := n = 0 ∨ ∃ pb po, P = some ⟨pb, po, none⟩ ∧ Pts w pb po n a g
theorem Prt.keep {w w' : World} {P : Option Addr} {n : Nat} {a : Nat → Int} {g : Nat → E4} (h : Prt w P n a g) (hb : Below w.heap.size w w') : Prt w' P n a g := by
 rcases h with h | ⟨pb, po, e, h⟩
 ·exact .inl h
 ·exact .inr ⟨pb, po, e, h.keep hb⟩
def updT (f : Nat → Trm) (i : Nat) (t : Trm) : Nat → Trm := fun k => if k = i then t else f k
theorem tvs_upd (f : Nat → Trm) (i : Nat) (t : Trm) : tvs (i + 1) (updT f i t) = tvs i f ++ t.cs := by
 rw [tvs_succ, tvs_congr (g := f) (fun k hk => by unfold updT; rw [if_neg (by omega)])]
 unfold updT
 rw [if_pos rfl]
theorem glL_upd (f : Nat → Trm) (i : Nat) (t : Trm) : glL (i + 1) (updT f i t) = glL i f ++ [(t.q, t.a.n)] := by
 rw [glL_succ]
 have : glL i (updT f i t) = glL i f := List.map_congr_left fun k hk => by
  have := List.mem_range.1 hk
  unfold updT
  rw [if_neg (by omega)]
 rw [this]
 unfold updT
 rw [if_pos rfl]
theorem upd_all {f : Nat → Trm} {i : Nat} {t : Trm} {p : Trm → Prop} (h : ∀ k, k < i → p (f k)) (ht : p t) : ∀ k, k < i + 1 → p (updT f i t k) := fun k hk => by
 unfold updT
 by_cases e : k = i
 ·rw [if_pos e]; exact ht
 ·rw [if_neg e]; exact h k (by omega)
theorem own_gr {x y : World} {b1 s1 b2 s2 : Nat} {e1 e2 : TypeId} {u1 u2 : Value} {n1 n2 : Nat} {xs1 xs2 : List Value} (h1 : x.ownsRow b1 e1 s1 u1 n1 xs1) (h2 : x.ownsRow b2 e2 s2 u2 n2 xs2) (hne : e1 ≠ e2) (hg : x.grownBy y u2.ownBlock) : y.ownsRow b1 e1 s1 u1 n1 xs1 := ⟨h1.1, by
 rcases h1.2 with h0 | ⟨g, c, cur, k1, k2, k3, k4⟩
 ·exact .inl h0
 ·refine .inr ⟨g, c, cur, k1, k2, (hg.block g (Array.getElem?_eq_some_iff.1 k3).1 (fun e => ?_)).trans k3, k4⟩
  obtain ⟨cur2, q2⟩ := own_blk h2 e.symm
  rw [q2] at k3
  simp only [Option.some.injEq, Obj.cells.injEq] at k3
  exact hne k3.2.1.symm⟩
theorem buildC6 (qk qi : Int) (p : E4) (w : World) : (Instr.buildSlice 67 1 #[(0, .agg #[.int .i64 qk, .int .i64 qi, .int .u64 p.x0, .int .u64 p.x1, .int .u64 p.x2, .int .u64 p.x3])]).run Tryz.prog w = .ok (.slice (some ⟨w.heap.size, 0, none⟩) 1 1) (w.alloc (.cells #[.int .i64 qk, .int .i64 qi, .int .u64 p.x0, .int .u64 p.x1, .int .u64 p.x2, .int .u64 p.x3] 84)) := by kernel_rfl
theorem wp_buildC6 {w : World} {o : Oper} {a : Act} {K : Act → World → Prop} {Q : Exit → Act → World → Prop} (x0 : Operand) (ho : o.op = .buildSlice 67 1 #[(0, x0)]) (qk qi : Int) (p : E4) (h0 : a.eval x0 = .agg #[.int .i64 qk, .int .i64 qi, .int .u64 p.x0, .int .u64 p.x1, .int .u64 p.x2, .int .u64 p.x3]) (h : ∀ (tb : Nat) (wq : World), tb = w.heap.size → wq = w.alloc (.cells #[.int .i64 qk, .int .i64 qi, .int .u64 p.x0, .int .u64 p.x1, .int .u64 p.x2, .int .u64 p.x3] 84) → K (a.put o.dst (.slice (some ⟨tb, 0, none⟩) 1 1)) wq) : o.wp Tryz.prog a w K Q := by
 have hr := buildC6 qk qi p w
 unfold Oper.wp execOp
 simp only [ho, Sem.run_bind, Sem.run_pure, Result.andThen_ok, List.map_toArray, List.map_cons, List.map_nil, h0, hr]
 exact h _ _ rfl rfl
def su8o_0 : Oper := { dst := some 34, op := Op.move (Operand.tmp 7), type := 67, pos := "law.go:72", after := #[], guard := none }
def su8o_1 : Oper := { dst := some 35, op := Op.fieldAddr 51 (Operand.tmp 10) 0, type := 0, pos := "law.go:72", after := #[], guard := none }
def su8o_2 : Oper := { dst := some 36, op := Op.load 3 (Operand.tmp 35), type := 3, pos := "law.go:72", after := #[{ on := 1, ground := Ground.data }], guard := none }
def su8o_3 : Oper := { dst := some 37, op := Op.fieldAddr 51 (Operand.tmp 10) 1, type := 0, pos := "law.go:72", after := #[], guard := none }
def su8o_4 : Oper := { dst := some 38, op := Op.load 3 (Operand.tmp 37), type := 3, pos := "law.go:72", after := #[{ on := 3, ground := Ground.data }], guard := none }
def su8o_5 : Oper := { dst := some 39, op := Op.build 47 #[(0, Operand.tmp 36), (1, Operand.tmp 38)], type := 47, pos := "law.go:72", after := #[{ on := 2, ground := Ground.data }, { on := 4, ground := Ground.data }], guard := none }
def su8o_6 : Oper := { dst := some 40, op := Op.move (Operand.tmp 1), type := 72, pos := "law.go:72", after := #[], guard := none }
def su8o_7 : Oper := { dst := some 41, op := Op.move (Operand.tmp 9), type := 3, pos := "law.go:72", after := #[], guard := none }
def su8o_8 : Oper := { dst := some 42, op := Op.indexAddr 72 (Operand.tmp 40) (Operand.tmp 41), type := 0, pos := "law.go:72", after := #[{ on := 6, ground := Ground.data }, { on := 7, ground := Ground.data }], guard := none }
def su8o_9 : Oper := { dst := some 43, op := Op.fieldAddr 109 (Operand.tmp 42) 1, type := 0, pos := "law.go:72", after := #[{ on := 8, ground := Ground.data }], guard := none }
def su8o_10 : Oper := { dst := some 44, op := Op.load 23 (Operand.tmp 43), type := 23, pos := "law.go:72", after := #[{ on := 9, ground := Ground.data }], guard := none }
def su8o_11 : Oper := { dst := some 45, op := Op.build 84 #[(0, Operand.tmp 39), (1, Operand.tmp 44)], type := 84, pos := "law.go:72", after := #[{ on := 5, ground := Ground.data }, { on := 10, ground := Ground.data }], guard := none }
def su8o_12 : Oper := { dst := some 46, op := Op.buildSlice 67 1 #[(0, Operand.tmp 45)], type := 67, pos := "law.go:72", after := #[{ on := 11, ground := Ground.data }], guard := none }
def su8o_13 : Oper := { dst := some 47, op := Op.call { callee := Callee.builtin Builtin.append, args := #[Operand.tmp 34, Operand.tmp 46], argTypes := #[67, 67] }, type := 67, pos := "law.go:72", after := #[{ on := 0, ground := Ground.data }, { on := 12, ground := Ground.data }], guard := none }
def su8o_14 : Oper := { dst := some 7, op := Op.assign (Operand.tmp 47), type := 67, pos := "law.go:72", after := #[{ on := 13, ground := Ground.data }, { on := 13, ground := Ground.chain }, { on := 0, ground := Ground.phase }, { on := 1, ground := Ground.phase }, { on := 2, ground := Ground.phase }, { on := 3, ground := Ground.phase }, { on := 4, ground := Ground.phase }, { on := 5, ground := Ground.phase }, { on := 6, ground := Ground.phase }, { on := 7, ground := Ground.phase }, { on := 8, ground := Ground.phase }, { on := 9, ground := Ground.phase }, { on := 10, ground := Ground.phase }, { on := 11, ground := Ground.phase }, { on := 12, ground := Ground.phase }, { on := 13, ground := Ground.phase }], guard := none }
def su8o : Array Oper := #[su8o_0, su8o_1, su8o_2, su8o_3, su8o_4, su8o_5, su8o_6, su8o_7, su8o_8, su8o_9, su8o_10, su8o_11, su8o_12, su8o_13, su8o_14]
set_option maxRecDepth 100000 in
set_option maxHeartbeats 16000000 in
theorem su8 (Q : Exit → Act → World → Prop) (B base nn pb po n c k : Nat) (qk qi : Int) (p : E4) (V : Value) (ys : List Value) (u0 u2 u3 u4 u5 u6 u8 u11 u12 u13 u14 u15 u16 u17 u18 u19 u20 u21 u22 u23 u24 u25 u26 u27 u28 u29 u30 u31 u32 u33 u34 u35 u36 u37 u38 u39 u40 u41 u42 u43 u44 u45 u46 u47 u48 u49 u50 u51 u52 u53 u54 u55 u56 u57 u58 u59 u60 : Value) (W : World)
  (ne : some B ≠ V.ownBlock) (np : some pb ≠ V.ownBlock) (k0 : (0 : Int) ≤ (k : Int)) (k1 : (k : Int) < (n : Int)) (a0 : W.cell? ⟨B, 0, none⟩ = some (.int .i64 qk)) (a1 : W.cell? ⟨B, 1, none⟩ = some (.int .i64 qi)) (p0 : W.cell? ⟨pb, po + k * 5 + 1, none⟩ = some (.int .u64 p.x0)) (p1 : W.cell? ⟨pb, po + k * 5 + 1 + 1, none⟩ = some (.int .u64 p.x1)) (p2 : W.cell? ⟨pb, po + k * 5 + 1 + 2, none⟩ = some (.int .u64 p.x2)) (p3 : W.cell? ⟨pb, po + k * 5 + 1 + 3, none⟩ = some (.int .u64 p.x3))
  (ow : W.ownsRow base 84 6 V nn ys) (MX : Hid (nn + 1 ≤ maxLen)) (BY : Hid ((nn + 1) * 48 ≤ 140737488355328)) (BS : Hid (base ≤ W.heap.size))
  (HQ : Hid (∀ (wz : World) (tb : Nat) (v4 : Value), W.grownBy wz V.ownBlock → wz.ownsRow base 84 6 v4 (nn + 1) (ys ++ [.int .i64 qk, .int .i64 qi, .int .u64 p.x0, .int .u64 p.x1, .int .u64 p.x2, .int .u64 p.x3]) → Q .normal ⟨#[u0, .slice (some ⟨pb, po, none⟩) n c, u2, u3, u4, u5, u6, v4, u8, .int .i64 (k : Int), .pointer (some ⟨B, 0, none⟩), u11, u12, u13, u14, u15, u16, u17, u18, u19, u20, u21, u22, u23, u24, u25, u26, u27, u28, u29, u30, u31, u32, u33, V, .pointer (some ⟨B, 0, none⟩), .int .i64 qk, .pointer (some ⟨B, 1, none⟩), .int .i64 qi, .agg #[.int .i64 qk, .int .i64 qi], .slice (some ⟨pb, po, none⟩) n c, .int .i64 (k : Int), .pointer (some ⟨pb, po + k * 5, none⟩), .pointer (some ⟨pb, po + k * 5 + 1, none⟩), .agg #[.int .u64 p.x0, .int .u64 p.x1, .int .u64 p.x2, .int .u64 p.x3], .agg #[.int .i64 qk, .int .i64 qi, .int .u64 p.x0, .int .u64 p.x1, .int .u64 p.x2, .int .u64 p.x3], .slice (some ⟨tb, 0, none⟩) 1 1, v4, u48, u49, u50, u51, u52, u53, u54, u55, u56, u57, u58, u59, u60], []⟩ wz)) : (Code.region 8 su8o true).wp Tryz.prog Q ⟨#[u0, .slice (some ⟨pb, po, none⟩) n c, u2, u3, u4, u5, u6, V, u8, .int .i64 (k : Int), .pointer (some ⟨B, 0, none⟩), u11, u12, u13, u14, u15, u16, u17, u18, u19, u20, u21, u22, u23, u24, u25, u26, u27, u28, u29, u30, u31, u32, u33, u34, u35, u36, u37, u38, u39, u40, u41, u42, u43, u44, u45, u46, u47, u48, u49, u50, u51, u52, u53, u54, u55, u56, u57, u58, u59, u60], []⟩ W := by
 have OW := hidden (own_keepT ow (bl_drew W))
 have HI : Hid ((Tryz.prog.info? 84) = some (Tryz.prog.info? 84).get!) := hidden (by kernel_rfl)
 have HZ0 : Hid ((Tryz.prog.info? 84).get!.zero = some (.agg #[.int .i64 0, .int .i64 0, .int .u64 0, .int .u64 0, .int .u64 0, .int .u64 0])) := hidden (by kernel_rfl)
 have HZ1 : Hid ((Tryz.prog.info? 84).get!.size = 6) := hidden (by kernel_rfl)
 have HZ2 : Hid ((Tryz.prog.info? 84).get!.bytes = 48) := hidden (by kernel_rfl)
 have T1 : Hid (Tryz.prog.underlying 67 = some (.slice 84)) := hidden (by kernel_rfl)
 clear ow
 unfold su8o
 refine wp_region_noPanic ?_
 refine wp_region_held_drew (S := fun x => W.grownBy x V.ownBlock) (by kernel_rfl) (gbI (bl_drew W) _) (fun hH0 => ?_)
 refine tk 0 su8o_0 (V) rfl (by kernel_rfl) hH0 rfl (fun w0 hSw => ?_) ?_
 ·(unfold su8o_0; clear hSw; go_simp)
 simp only [su8o_0, Act.put, sA, sB, sC]
 refine tk 1 su8o_1 (.pointer (some ⟨B, 0, none⟩)) rfl (by kernel_rfl) hH0 rfl (fun w0 hSw => ?_) ?_
 ·(unfold su8o_1; clear hSw; go_simp)
 simp only [su8o_1, Act.put, sA, sB, sC]
 refine tk 3 su8o_3 (.pointer (some ⟨B, 1, none⟩)) rfl (by kernel_rfl) hH0 rfl (fun w0 hSw => ?_) ?_
 ·(unfold su8o_3; clear hSw; go_simp)
 simp only [su8o_3, Act.put, sA, sB, sC]
 refine tk 6 su8o_6 (.slice (some ⟨pb, po, none⟩) n c) rfl (by kernel_rfl) hH0 rfl (fun w0 hSw => ?_) ?_
 ·(unfold su8o_6; clear hSw; go_simp)
 simp only [su8o_6, Act.put, sA, sB, sC]
 refine tk 7 su8o_7 (.int .i64 (k : Int)) rfl (by kernel_rfl) hH0 rfl (fun w0 hSw => ?_) ?_
 ·(unfold su8o_7; clear hSw; go_simp)
 simp only [su8o_7, Act.put, sA, sB, sC]
 refine tk 2 su8o_2 (.int .i64 qk) rfl (by kernel_rfl) hH0 rfl (fun w0 hSw => ?_) ?_
 ·(unfold su8o_2; have hS : W.grownBy w0 V.ownBlock := hSw; have a0 := hS.cell a0 ne; clear hS hSw; go_simp)
 simp only [su8o_2, Act.put, sA, sB, sC]
 refine tk 4 su8o_4 (.int .i64 qi) rfl (by kernel_rfl) hH0 rfl (fun w0 hSw => ?_) ?_
 ·(unfold su8o_4; have hS : W.grownBy w0 V.ownBlock := hSw; have a0 := hS.cell a1 ne; clear hS hSw; go_simp)
 simp only [su8o_4, Act.put, sA, sB, sC]
 refine tk 8 su8o_8 (.pointer (some ⟨pb, po + k * 5, none⟩)) rfl (by kernel_rfl) hH0 rfl (fun w0 hSw => ?_) ?_
 ·(unfold su8o_8; clear hSw; go_simp)
 simp only [su8o_8, Act.put, sA, sB, sC]
 refine tk 5 su8o_5 (.agg #[.int .i64 qk, .int .i64 qi]) rfl (by kernel_rfl) hH0 rfl (fun w0 hSw => ?_) ?_
 ·(unfold su8o_5; clear hSw; go_simp)
 simp only [su8o_5, Act.put, sA, sB, sC]
 refine tk 9 su8o_9 (.pointer (some ⟨pb, po + k * 5 + 1, none⟩)) rfl (by kernel_rfl) hH0 rfl (fun w0 hSw => ?_) ?_
 ·(unfold su8o_9; clear hSw; go_simp)
 simp only [su8o_9, Act.put, sA, sB, sC]
 refine tk 10 su8o_10 (.agg #[.int .u64 p.x0, .int .u64 p.x1, .int .u64 p.x2, .int .u64 p.x3]) rfl (by kernel_rfl) hH0 rfl (fun w0 hSw => ?_) ?_
 ·(unfold su8o_10; have hS : W.grownBy w0 V.ownBlock := hSw; have a0 := hS.cell p0 np; have a1 := hS.cell p1 np; have a2 := hS.cell p2 np; have a3 := hS.cell p3 np; clear hS hSw; go_simp)
 simp only [su8o_10, Act.put, sA, sB, sC]
 refine tk 11 su8o_11 (.agg #[.int .i64 qk, .int .i64 qi, .int .u64 p.x0, .int .u64 p.x1, .int .u64 p.x2, .int .u64 p.x3]) rfl (by kernel_rfl) hH0 rfl (fun w0 hSw => ?_) ?_
 ·(unfold su8o_11; clear hSw; go_simp)
 simp only [su8o_11, Act.put, sA, sB, sC]
 refine wpAnyH_ready (rs := [12]) (by kernel_rfl) (by simp) ?_
 refine AllReadyH.cons (o := su8o_12) rfl (fun K hK => ?_) AllReadyH.nil
 unfold su8o_12
 have HH := hidden hH0
 clear hH0
 refine wp_buildC6 _ rfl qk qi p rfl (fun tb wn1 htb hwq => ?_)
 have SN := hidden (by rw [hwq]; exact HH.out.trans (gbI (bl_alloc _ _) _) : W.grownBy wn1 V.ownBlock)
 replace OW := hidden (by rw [hwq]; exact own_keepT OW.out (bl_alloc _ _) : wn1.ownsRow base 84 6 V nn ys)
 have CN := hidden (by rw [htb, hwq]; exact cells_newT _ [.int .i64 qk, .int .i64 qi, .int .u64 p.x0, .int .u64 p.x1, .int .u64 p.x2, .int .u64 p.x3] _ : ∀ j u, ([.int .i64 qk, .int .i64 qi, .int .u64 p.x0, .int .u64 p.x1, .int .u64 p.x2, .int .u64 p.x3] : List Value)[j]? = some u → wn1.cell? ((⟨tb, 0, none⟩ : Addr).add j) = some u)
 clear HH htb hwq
 simp only [Act.put, sA, sB, sC]
 refine hK.out _ _ SN.out (fun hH1 => ?_)
 clear hK K SN
 refine wpAnyH_ready (rs := [13]) (by kernel_rfl) (by simp) ?_
 refine AllReadyH.cons (o := su8o_13) rfl (fun K hK => ?_) AllReadyH.nil
 unfold su8o_13
 have HH := hidden hH1
 clear hH1
 refine wp_append_own _ _ _ 67 rfl base 84 _ _ 6 48 T1.out HI.out HZ0.out HZ1.out HZ2.out rfl (by decide) _ nn ys rfl OW.out ⟨tb, 0, none⟩ 1 1 [.int .i64 qk, .int .i64 qi, .int .u64 p.x0, .int .u64 p.x1, .int .u64 p.x2, .int .u64 p.x3] rfl rfl CN.out (six_any _ _ _ _ _ _) MX.out BY.out (Nat.le_trans BS.out HH.out.size) (fun v4 wn2 ho hg _ => ?_)
 have SN := hidden (HH.out.trans hg)
 have FE := hidden (ho)
 clear HH ho hg
 simp only [Act.put, sA, sB, sC]
 refine hK.out _ _ SN.out (fun hH2 => ?_)
 clear hK K SN
 refine tk 14 su8o_14 (v4) rfl (by kernel_rfl) hH2 rfl (fun w0 hSw => ?_) ?_
 ·(unfold su8o_14; clear hSw; go_simp)
 simp only [su8o_14, Act.put, sA, sB, sC]
 have HH := hidden hH2
 have FQ := hidden (HQ.out _ tb v4 HH.out FE.out)
 refine wpAnyH_done (by kernel_rfl) ?_ _
 refine NoPanic.normal ?_
 exact FQ.out
def su9o_0 : Oper := { dst := some 48, op := Op.move (Operand.tmp 8), type := 69, pos := "law.go:73", after := #[], guard := none }
def su9o_1 : Oper := { dst := some 49, op := Op.load 51 (Operand.tmp 10), type := 51, pos := "law.go:73", after := #[], guard := none }
def su9o_2 : Oper := { dst := some 50, op := Op.move (Operand.tmp 1), type := 72, pos := "law.go:73", after := #[], guard := none }
def su9o_3 : Oper := { dst := some 51, op := Op.move (Operand.tmp 9), type := 3, pos := "law.go:73", after := #[], guard := none }
def su9o_4 : Oper := { dst := some 52, op := Op.indexAddr 72 (Operand.tmp 50) (Operand.tmp 51), type := 0, pos := "law.go:73", after := #[{ on := 2, ground := Ground.data }, { on := 3, ground := Ground.data }], guard := none }
def su9o_5 : Oper := { dst := some 53, op := Op.fieldAddr 109 (Operand.tmp 52) 1, type := 0, pos := "law.go:73", after := #[{ on := 4, ground := Ground.data }], guard := none }
def su9o_6 : Oper := { dst := some 54, op := Op.load 23 (Operand.tmp 53), type := 23, pos := "law.go:73", after := #[{ on := 5, ground := Ground.data }], guard := none }
def su9o_7 : Oper := { dst := some 55, op := Op.call { callee := Callee.value (Operand.func 14), args := #[Operand.tmp 54], argTypes := #[23] }, type := 62, pos := "law.go:73", after := #[{ on := 6, ground := Ground.data }], guard := none }
def su9o_8 : Oper := { dst := some 56, op := Op.build 86 #[(0, Operand.tmp 49), (1, Operand.tmp 55)], type := 86, pos := "law.go:73", after := #[{ on := 1, ground := Ground.data }, { on := 7, ground := Ground.data }], guard := none }
def su9o_9 : Oper := { dst := some 57, op := Op.buildSlice 69 1 #[(0, Operand.tmp 56)], type := 69, pos := "law.go:73", after := #[{ on := 8, ground := Ground.data }], guard := none }
def su9o_10 : Oper := { dst := some 58, op := Op.call { callee := Callee.builtin Builtin.append, args := #[Operand.tmp 48, Operand.tmp 57], argTypes := #[69, 69] }, type := 69, pos := "law.go:73", after := #[{ on := 0, ground := Ground.data }, { on := 9, ground := Ground.data }, { on := 7, ground := Ground.chain }], guard := none }
def su9o_11 : Oper := { dst := some 8, op := Op.assign (Operand.tmp 58), type := 69, pos := "law.go:73", after := #[{ on := 10, ground := Ground.data }, { on := 10, ground := Ground.chain }, { on := 0, ground := Ground.phase }, { on := 1, ground := Ground.phase }, { on := 2, ground := Ground.phase }, { on := 3, ground := Ground.phase }, { on := 4, ground := Ground.phase }, { on := 5, ground := Ground.phase }, { on := 6, ground := Ground.phase }, { on := 7, ground := Ground.phase }, { on := 8, ground := Ground.phase }, { on := 9, ground := Ground.phase }, { on := 10, ground := Ground.phase }], guard := none }
def su9o : Array Oper := #[su9o_0, su9o_1, su9o_2, su9o_3, su9o_4, su9o_5, su9o_6, su9o_7, su9o_8, su9o_9, su9o_10, su9o_11]
set_option maxRecDepth 100000 in
set_option maxHeartbeats 16000000 in
theorem su9 (Q : Exit → Act → World → Prop) (B base nn pb po n c k : Nat) (qk qi : Int) (p r : E4) (V : Value) (ys : List Value) (u0 u2 u3 u4 u5 u6 u7 u11 u12 u13 u14 u15 u16 u17 u18 u19 u20 u21 u22 u23 u24 u25 u26 u27 u28 u29 u30 u31 u32 u33 u34 u35 u36 u37 u38 u39 u40 u41 u42 u43 u44 u45 u46 u47 u48 u49 u50 u51 u52 u53 u54 u55 u56 u57 u58 u59 u60 : Value) (W : World)
  (ne : some B ≠ V.ownBlock) (np : some pb ≠ V.ownBlock) (k0 : (0 : Int) ≤ (k : Int)) (k1 : (k : Int) < (n : Int)) (a0 : W.cell? ⟨B, 0, none⟩ = some (.int .i64 qk)) (a1 : W.cell? ⟨B, 1, none⟩ = some (.int .i64 qi)) (p0 : W.cell? ⟨pb, po + k * 5 + 1, none⟩ = some (.int .u64 p.x0)) (p1 : W.cell? ⟨pb, po + k * 5 + 1 + 1, none⟩ = some (.int .u64 p.x1)) (p2 : W.cell? ⟨pb, po + k * 5 + 1 + 2, none⟩ = some (.int .u64 p.x2)) (p3 : W.cell? ⟨pb, po + k * 5 + 1 + 3, none⟩ = some (.int .u64 p.x3))
  (ow : W.ownsRow base 86 6 V nn ys) (MX : Hid (nn + 1 ≤ maxLen)) (BY : Hid ((nn + 1) * 48 ≤ 140737488355328)) (BS : Hid (base ≤ W.heap.size))
  (C1 : Hid (∀ y, Calls Tryz.prog 14 #[.agg #[.int .u64 p.x0, .int .u64 p.x1, .int .u64 p.x2, .int .u64 p.x3]] y fun e w' => e = .returned (.agg #[.int .u64 r.x0, .int .u64 r.x1, .int .u64 r.x2, .int .u64 r.x3]) ∧ Below y.heap.size y w'))
  (HQ : Hid (∀ (wz : World) (tb : Nat) (v4 : Value), W.grownBy wz V.ownBlock → wz.ownsRow base 86 6 v4 (nn + 1) (ys ++ [.int .i64 qk, .int .i64 qi, .int .u64 r.x0, .int .u64 r.x1, .int .u64 r.x2, .int .u64 r.x3]) → Q .normal ⟨#[u0, .slice (some ⟨pb, po, none⟩) n c, u2, u3, u4, u5, u6, u7, v4, .int .i64 (k : Int), .pointer (some ⟨B, 0, none⟩), u11, u12, u13, u14, u15, u16, u17, u18, u19, u20, u21, u22, u23, u24, u25, u26, u27, u28, u29, u30, u31, u32, u33, u34, u35, u36, u37, u38, u39, u40, u41, u42, u43, u44, u45, u46, u47, V, .agg #[.int .i64 qk, .int .i64 qi], .slice (some ⟨pb, po, none⟩) n c, .int .i64 (k : Int), .pointer (some ⟨pb, po + k * 5, none⟩), .pointer (some ⟨pb, po + k * 5 + 1, none⟩), .agg #[.int .u64 p.x0, .int .u64 p.x1, .int .u64 p.x2, .int .u64 p.x3], .agg #[.int .u64 r.x0, .int .u64 r.x1, .int .u64 r.x2, .int .u64 r.x3], .agg #[.int .i64 qk, .int .i64 qi, .int .u64 r.x0, .int .u64 r.x1, .int .u64 r.x2, .int .u64 r.x3], .slice (some ⟨tb, 0, none⟩) 1 1, v4, u59, u60], []⟩ wz)) : (Code.region 9 su9o true).wp Tryz.prog Q ⟨#[u0, .slice (some ⟨pb, po, none⟩) n c, u2, u3, u4, u5, u6, u7, V, .int .i64 (k : Int), .pointer (some ⟨B, 0, none⟩), u11, u12, u13, u14, u15, u16, u17, u18, u19, u20, u21, u22, u23, u24, u25, u26, u27, u28, u29, u30, u31, u32, u33, u34, u35, u36, u37, u38, u39, u40, u41, u42, u43, u44, u45, u46, u47, u48, u49, u50, u51, u52, u53, u54, u55, u56, u57, u58, u59, u60], []⟩ W := by
 have OW := hidden (own_keepT ow (bl_drew W))
 have HI : Hid ((Tryz.prog.info? 86) = some (Tryz.prog.info? 86).get!) := hidden (by kernel_rfl)
 have HZ0 : Hid ((Tryz.prog.info? 86).get!.zero = some (.agg #[.int .i64 0, .int .i64 0, .int .u64 0, .int .u64 0, .int .u64 0, .int .u64 0])) := hidden (by kernel_rfl)
 have HZ1 : Hid ((Tryz.prog.info? 86).get!.size = 6) := hidden (by kernel_rfl)
 have HZ2 : Hid ((Tryz.prog.info? 86).get!.bytes = 48) := hidden (by kernel_rfl)
 have T1 : Hid (Tryz.prog.underlying 69 = some (.slice 86)) := hidden (by kernel_rfl)
 clear ow
 unfold su9o
 refine wp_region_noPanic ?_
 refine wp_region_held_drew (S := fun x => W.grownBy x V.ownBlock) (by kernel_rfl) (gbI (bl_drew W) _) (fun hH0 => ?_)
 refine tk 0 su9o_0 (V) rfl (by kernel_rfl) hH0 rfl (fun w0 hSw => ?_) ?_
 ·(unfold su9o_0; clear hSw; go_simp)
 simp only [su9o_0, Act.put, sA, sB, sC]
 refine tk 1 su9o_1 (.agg #[.int .i64 qk, .int .i64 qi]) rfl (by kernel_rfl) hH0 rfl (fun w0 hSw => ?_) ?_
 ·(unfold su9o_1; have hS : W.grownBy w0 V.ownBlock := hSw; have a0 := hS.cell a0 ne; have a1 := hS.cell a1 ne; clear hS hSw; go_simp)
 simp only [su9o_1, Act.put, sA, sB, sC]
 refine tk 2 su9o_2 (.slice (some ⟨pb, po, none⟩) n c) rfl (by kernel_rfl) hH0 rfl (fun w0 hSw => ?_) ?_
 ·(unfold su9o_2; clear hSw; go_simp)
 simp only [su9o_2, Act.put, sA, sB, sC]
 refine tk 3 su9o_3 (.int .i64 (k : Int)) rfl (by kernel_rfl) hH0 rfl (fun w0 hSw => ?_) ?_
 ·(unfold su9o_3; clear hSw; go_simp)
 simp only [su9o_3, Act.put, sA, sB, sC]
 refine tk 4 su9o_4 (.pointer (some ⟨pb, po + k * 5, none⟩)) rfl (by kernel_rfl) hH0 rfl (fun w0 hSw => ?_) ?_
 ·(unfold su9o_4; clear hSw; go_simp)
 simp only [su9o_4, Act.put, sA, sB, sC]
 refine tk 5 su9o_5 (.pointer (some ⟨pb, po + k * 5 + 1, none⟩)) rfl (by kernel_rfl) hH0 rfl (fun w0 hSw => ?_) ?_
 ·(unfold su9o_5; clear hSw; go_simp)
 simp only [su9o_5, Act.put, sA, sB, sC]
 refine tk 6 su9o_6 (.agg #[.int .u64 p.x0, .int .u64 p.x1, .int .u64 p.x2, .int .u64 p.x3]) rfl (by kernel_rfl) hH0 rfl (fun w0 hSw => ?_) ?_
 ·(unfold su9o_6; have hS : W.grownBy w0 V.ownBlock := hSw; have a0 := hS.cell p0 np; have a1 := hS.cell p1 np; have a2 := hS.cell p2 np; have a3 := hS.cell p3 np; clear hS hSw; go_simp)
 simp only [su9o_6, Act.put, sA, sB, sC]
 refine wpAnyH_ready (rs := [7]) (by kernel_rfl) (by simp) ?_
 refine AllReadyH.cons (o := su9o_7) rfl (fun K hK => ?_) AllReadyH.nil
 unfold su9o_7
 have HH := hidden hH0
 clear hH0
 go_simp
 refine (C1.out _).mono ?_
 rintro e wn1 ⟨rfl, hb⟩
 have SN := hidden (HH.out.trans (gbI hb _))
 replace OW := hidden (own_keepT OW.out hb)
 clear HH C1 hb
 go_wp2_with fail
 refine hK.out _ _ SN.out (fun hH1 => ?_)
 clear hK K SN
 refine tk 8 su9o_8 (.agg #[.int .i64 qk, .int .i64 qi, .int .u64 r.x0, .int .u64 r.x1, .int .u64 r.x2, .int .u64 r.x3]) rfl (by kernel_rfl) hH1 rfl (fun w0 hSw => ?_) ?_
 ·(unfold su9o_8; clear hSw; go_simp)
 simp only [su9o_8, Act.put, sA, sB, sC]
 refine wpAnyH_ready (rs := [9]) (by kernel_rfl) (by simp) ?_
 refine AllReadyH.cons (o := su9o_9) rfl (fun K hK => ?_) AllReadyH.nil
 unfold su9o_9
 have HH := hidden hH1
 clear hH1
 refine wp_buildR6 _ rfl qk qi r rfl (fun tb wn2 htb hwq => ?_)
 have SN := hidden (by rw [hwq]; exact HH.out.trans (gbI (bl_alloc _ _) _) : W.grownBy wn2 V.ownBlock)
 replace OW := hidden (by rw [hwq]; exact own_keepT OW.out (bl_alloc _ _) : wn2.ownsRow base 86 6 V nn ys)
 have CN := hidden (by rw [htb, hwq]; exact cells_newT _ [.int .i64 qk, .int .i64 qi, .int .u64 r.x0, .int .u64 r.x1, .int .u64 r.x2, .int .u64 r.x3] _ : ∀ j u, ([.int .i64 qk, .int .i64 qi, .int .u64 r.x0, .int .u64 r.x1, .int .u64 r.x2, .int .u64 r.x3] : List Value)[j]? = some u → wn2.cell? ((⟨tb, 0, none⟩ : Addr).add j) = some u)
 clear HH htb hwq
 simp only [Act.put, sA, sB, sC]
 refine hK.out _ _ SN.out (fun hH2 => ?_)
 clear hK K SN
 refine wpAnyH_ready (rs := [10]) (by kernel_rfl) (by simp) ?_
 refine AllReadyH.cons (o := su9o_10) rfl (fun K hK => ?_) AllReadyH.nil
 unfold su9o_10
 have HH := hidden hH2
 clear hH2
 refine wp_append_own _ _ _ 69 rfl base 86 _ _ 6 48 T1.out HI.out HZ0.out HZ1.out HZ2.out rfl (by decide) _ nn ys rfl OW.out ⟨tb, 0, none⟩ 1 1 [.int .i64 qk, .int .i64 qi, .int .u64 r.x0, .int .u64 r.x1, .int .u64 r.x2, .int .u64 r.x3] rfl rfl CN.out (six_any _ _ _ _ _ _) MX.out BY.out (Nat.le_trans BS.out HH.out.size) (fun v4 wn3 ho hg _ => ?_)
 have SN := hidden (HH.out.trans hg)
 have FE := hidden (ho)
 clear HH ho hg
 simp only [Act.put, sA, sB, sC]
 refine hK.out _ _ SN.out (fun hH3 => ?_)
 clear hK K SN
 refine tk 11 su9o_11 (v4) rfl (by kernel_rfl) hH3 rfl (fun w0 hSw => ?_) ?_
 ·(unfold su9o_11; clear hSw; go_simp)
 simp only [su9o_11, Act.put, sA, sB, sC]
 have HH := hidden hH3
 have FQ := hidden (HQ.out _ tb v4 HH.out FE.out)
 refine wpAnyH_done (by kernel_rfl) ?_ _
 refine NoPanic.normal ?_
 exact FQ.out
def Sw2 (b0 m Kg n : Nat) (va vb : Value) (x : World) : Prop := ∃ f : Nat → Trm, x.ownsRow b0 84 6 va n (tvs n f) ∧ x.ownsRow b0 86 6 vb n (tls (glL n f)) ∧ ∀ k, k < n → (f k).a.ok ∧ hs m Kg (f k).q = true
theorem rlst (a : E4) (w : World) (ha : a.ok) : Calls Tryz.prog 14 #[.agg #[.int .u64 a.x0, .int .u64 a.x1, .int .u64 a.x2, .int .u64 a.x3]] w fun e w' => e = .returned (.agg #[.int .u64 (lst a.n).x0, .int .u64 (lst a.n).x1, .int .u64 (lst a.n).x2, .int .u64 (lst a.n).x3]) ∧ Below w.heap.size w w' := by
 have RL := fix (rleast_any a w ha) rfl
 simp only [E4.v] at RL
 exact RL
theorem own_at {w : World} {base n s : Nat} {t : TypeId} {v : Value} {xs : List Value} (h : w.ownsRow base t s v n xs) (h0 : 0 < n) : ∃ b c, v = .slice (some ⟨b, 0, none⟩) n c := by
 rcases h.2 with ⟨_, h2⟩ | ⟨g, c, cur, h1, _⟩
 ·omega
 ·exact ⟨g, c, h1⟩
theorem own_nil (w : World) (base s : Nat) (t : TypeId) : w.ownsRow base t s (.slice none 0 0) 0 [] := ⟨by simp, .inl ⟨rfl, rfl⟩⟩
theorem cell_lt {w : World} {b o : Nat} {v : Value} (h : w.cell? ⟨b, o, none⟩ = some v) : b < w.heap.size := by
 rcases Nat.lt_or_ge b w.heap.size with h' | h'
 ·exact h'
 ·have : w.heap[b]? = none := Array.getElem?_eq_none h'
  unfold World.cell? at h
  rw [this] at h
  simp at h
theorem sums_any {base : Nat} {w : World} {s m Kg : Nat} {v : Value} {vs : List Value} {Q : List (List Tm)} (h : Dy base w s m Kg v vs Q) (hm : m ≤ 16) (hK : Kg ≤ 1024) (P : Option Addr) (n c : Nat) (a : Nat → Int) (g : Nat → E4) (hP : Prt w P n a g) : Calls Tryz.prog 16 #[.pointer (some ⟨s, 0, none⟩), .slice P n c] w fun e w' => ∃ k va vb, e = .returned (.tuple #[va, vb]) ∧ k ≤ 8 ∧ Sw2 w.heap.size m Kg k va vb w' ∧ Below w.heap.size w w' := by
 have C0 := hidden (wires_any h hm hK)
 have HP := hidden hP
 clear h hm hK hP
 go_enter Tryz.func16, Tryz.ntmps16
 go_upto_region 2 with (go_at_call 36; refine C0.out.mono ?_; rintro e w1 ⟨X, v1, rfl, hW, hx0, hx1, hxa⟩; have W1 := hidden hW; have X0 := hidden hx0; have X1 := hidden hx1; have XA := hidden hxa; clear hW hx0 hx1 hxa)
 clear C0
 obtain ⟨wb, cw, e1⟩ := own_at W1.out.1 X0.out
 subst e1
 go_upto_region 5 with fail
 go_loopw [7, 8, 9] (fun va vb iv w' => ∃ i : Nat, i ≤ n ∧ i ≤ 8 ∧ iv = .int .i64 (i : Int) ∧ Hid (Wl w X (.slice (some ⟨wb, 0, none⟩) X.length cw) w' ∧ Sw2 w.heap.size m Kg i va vb w')) (fun _ _ i _ => 8 - (intOf i).toNat)
 case atStart => exact ⟨0, by omega, by omega, rfl, hidden ⟨W1.out, fun _ => ⟨(0, 0), lst 0⟩, own_nil _ _ _ _, own_nil _ _ _ _, fun k hk => absurd hk (by omega)⟩⟩
 case round =>
  clear W1
  obtain ⟨i, hi, hi8, rfl, hR⟩ := hrel
  obtain ⟨hW, f, ha, hb, hok⟩ := hR.out
  have WR := hidden hW
  have OA := hidden ha
  have OB := hidden hb
  have FO := hidden hok
  clear hR hW ha hb hok
  by_cases hin : i < n ∧ i < 8
  ·have i1 : (i : Int) < (n : Int) := by omega
   have i2 : (i : Int) < 8 := by omega
   have w9 : IntKind.i64.wrap ((i : Int) + 1) = (i : Int) + 1 := IntWalk.i64_in _ (by omega)
   have hq := HP.out
   rcases hq with hq | ⟨pb, po, e2, hq⟩
   ·omega
   subst e2
   have PK := hidden (hq.keep WR.out.2)
   have hpb : pb < w.heap.size := cell_lt (hq.c0 i hin.1)
   have p5 := PK.out.c0 i hin.1
   have CA := hidden (At_any X.length (a i) wr X0.out (by have := X1.out; omega) (hq.lo i hin.1).1 (hq.lo i hin.1).2)
   clear hq
   generalize a i = ai at *
   go_upto_region 8 with (go_at_call 6; refine CA.out.mono ?_; rintro e w2 ⟨r, rfl, hr, hw2⟩; rw [hw2]; clear hw2 w2; have hr1 : (r : Int) < (X.length : Int) := (by omega); have hr0 : (0 : Int) ≤ (r : Int) := (by omega); obtain ⟨q, hxq⟩ : ∃ q, X[r]? = some q := ⟨_, List.getElem?_eq_getElem hr⟩; have y0 := (WR.out.at hxq).1; have y1 := (WR.out.at hxq).2; have HQX := hidden (XA.out q (List.mem_of_getElem? hxq)); clear hxq)
   clear y0 y1 p5 hr1 hr0 CA
   have HB : Hid (wr.heap.size = wr.heap.size) := hidden rfl
   have b0 : (wr.alloc (.cells #[.int .i64 q.1, .int .i64 q.2] 51)).cell? ⟨wr.heap.size, 0, none⟩ = some (.int .i64 q.1) := by go_simp
   have b1 : (wr.alloc (.cells #[.int .i64 q.1, .int .i64 q.2] 51)).cell? ⟨wr.heap.size, 1, none⟩ = some (.int .i64 q.2) := by go_simp
   have BL := bl_alloc wr (.cells #[.int .i64 q.1, .int .i64 q.2] 51)
   have SZ := WR.out.2.size
   have na : ∀ k', u7.ownBlock = some k' → w.heap.size ≤ k' ∧ k' < wr.heap.size := fun k' hk' => OA.out.lt k' hk'
   have nb : ∀ k', u8.ownBlock = some k' → w.heap.size ≤ k' ∧ k' < wr.heap.size := fun k' hk' => OB.out.lt k' hk'
   replace WR : Hid (Wl w X (.slice (some ⟨wb, 0, none⟩) X.length cw) (wr.alloc (.cells #[.int .i64 q.1, .int .i64 q.2] 51))) := hidden ⟨own_keepT WR.out.1 BL, bl_trans WR.out.2 BL⟩
   replace OA := hidden (own_keepT OA.out BL)
   replace OB := hidden (own_keepT OB.out BL)
   replace PK := hidden (PK.out.keep BL)
   generalize hbz : wr.heap.size = B at *
   generalize (wr.alloc (.cells #[.int .i64 q.1, .int .i64 q.2] 51)) = w3 at *
   refine su8 _ B w.heap.size i pb po n c i q.1 q.2 (g i) _ (tvs i f) _ _ _ _ _ _ _ _ _ _ _ _ _ _ _ _ _ _ _ _ _ _ _ _ _ _ _ _ _ _ _ _ _ _ _ _ _ _ _ _ _ _ _ _ _ _ _ _ _ _ _ _ _ _ _ _ _ w3 (fun e => by have := na _ e.symm; omega) (fun e => by have := na _ e.symm; omega) (by omega) i1 b0 b1 (PK.out.c1 i hin.1) (PK.out.c2 i hin.1) (PK.out.c3 i hin.1) (PK.out.c4 i hin.1) OA.out (hidden (by unfold maxLen; omega)) (hidden (by omega)) (hidden (WR.out.2.size)) (hidden ?_)
   intro w4 tb v4 hg ho
   have nB : some B ≠ u7.ownBlock := fun e => by have := na _ e.symm; omega
   have nP : some pb ≠ u7.ownBlock := fun e => by have := na _ e.symm; omega
   have d0 := hg.cell b0 nB
   have d1 := hg.cell b1 nB
   have e0 := hg.cell (PK.out.c1 i hin.1) nP
   have e1 := hg.cell (PK.out.c2 i hin.1) nP
   have e2 := hg.cell (PK.out.c3 i hin.1) nP
   have e3 := hg.cell (PK.out.c4 i hin.1) nP
   have GO := hidden (PK.out.ok i hin.1)
   have O4 := hidden ho
   have OB4 := hidden (own_gr OB.out OA.out (by decide) hg)
   have WR4 : Hid (Wl w X (.slice (some ⟨wb, 0, none⟩) X.length cw) w4) := hidden ⟨own_gr WR.out.1 OA.out (by decide) hg, WR.out.2.grown hg WR.out.2.size (fun k' hk' => (na k' hk').1)⟩
   clear ho hg OB WR PK OA b0 b1 na BL
   go_upto_region 9 with fail
   refine su9 _ B w.heap.size i pb po n c i q.1 q.2 (g i) (lst (g i).n) _ (tls (glL i f)) _ _ _ _ _ _ _ _ _ _ _ _ _ _ _ _ _ _ _ _ _ _ _ _ _ _ _ _ _ _ _ _ _ _ _ _ _ _ _ _ _ _ _ _ _ _ _ _ _ _ _ _ _ _ _ _ _ w4 (fun e => by have := nb _ e.symm; omega) (fun e => by have := nb _ e.symm; omega) (by omega) i1 d0 d1 e0 e1 e2 e3 OB4.out (hidden (by unfold maxLen; omega)) (hidden (by omega)) (hidden (WR4.out.2.size)) (hidden (fun y => rlst (g i) y GO.out)) (hidden ?_)
   intro w5 tb5 v5 hg ho
   have PN : Hid (Wl w X (.slice (some ⟨wb, 0, none⟩) X.length cw) w5 ∧ Sw2 w.heap.size m Kg (i + 1) v4 v5 w5) := hidden ⟨⟨own_gr WR4.out.1 OB4.out (by decide) hg, WR4.out.2.grown hg WR4.out.2.size (fun k' hk' => (nb k' hk').1)⟩, updT f i ⟨q, g i⟩, by rw [tvs_upd]; exact own_gr O4.out OB4.out (by decide) hg, by rw [glL_upd, tls_snoc]; exact ho, upd_all (p := fun t => t.a.ok ∧ hs m Kg t.q = true) FO.out ⟨GO.out, HQX.out⟩⟩
   clear ho hg O4 OB4 WR4 d0 d1 e0 e1 e2 e3 GO nb FO
   go_wp2_with fail
   go_roundw
   case rel => exact ⟨i + 1, by omega, by omega, by go_num, PN⟩
   case measure => simp [intOf]; omega
  ·have PZ : Hid (∃ k va vb, (Value.tuple #[u7, u8]) = .tuple #[va, vb] ∧ k ≤ 8 ∧ Sw2 w.heap.size m Kg k va vb wr ∧ Below w.heap.size w wr) := hidden ⟨i, u7, u8, rfl, hi8, ⟨f, OA.out, OB.out, FO.out⟩, WR.out.2⟩
   have hc : ¬ ((i : Int) < (n : Int)) ∨ ((i : Int) < (n : Int) ∧ ¬ ((i : Int) < 8)) := by omega
   obtain ⟨Pa, ca, ea, _⟩ := own_sh2 OA.out
   obtain ⟨Pb, cb, eb, _⟩ := own_sh2 OB.out
   subst ea
   subst eb
   clear OA OB FO WR
   rcases hc with hc | ⟨hc, hc2⟩
   ·go_wp2_with fail
    refine bodyPost_ret (v := .tuple #[.slice Pa i ca, .slice Pb i cb]) (by simp [results, Tryz.results16, go_sem]) rfl ?_
    obtain ⟨k, va, vb, e, r⟩ := PZ.out
    exact ⟨k, va, vb, by rw [e], r⟩
   ·go_wp2_with fail
    refine bodyPost_ret (v := .tuple #[.slice Pa i ca, .slice Pb i cb]) (by simp [results, Tryz.results16, go_sem]) rfl ?_
    obtain ⟨k, va, vb, e, r⟩ := PZ.out
    exact ⟨k, va, vb, by rw [e], r⟩
end Ci
end Go.Proofs.YtnkaolobcglmlaaGreatDoor
