import Derived.Test.YtnkaolobcglmlaaGreatDoorTk
import Derived.Test.YtnkaolobcglmlaaGreatDoorWle
namespace Go.Proofs.YtnkaolobcglmlaaGreatDoor
open Go.RowKit
set_option linter.unusedVariables false
set_option linter.unusedSimpArgs false
open Cm (Wr Tm co bf Ls lf ins Eqm)
namespace Ci
set_option maxRecDepth 100000
set_option maxHeartbeats 8000000
theorem putfin {wy w' : World} {mb f base n : Nat} {arr : Array Value} {V : Value} {T M : TypeId} {xs : List Value} (hw : w' = wy.setCells mb f [V]) (hm : wy.heap[mb]? = some (.cells arr M (0, 0))) (ho : wy.ownsRow base T 4 V n xs) (hne : T ≠ M) : w'.heap[mb]? = some (.cells (arr.setIfInBounds f V) M (0, 0)) ∧ w'.ownsRow base T 4 V n xs := by
 rw [hw]
 exact ⟨heap_setCell_same _ mb f _ M _ hm, own_kp ho hm hne (gb_setCells mb [V] f _)⟩
theorem blk_gr {x y : World} {mb b2 s2 n2 : Nat} {M e2 : TypeId} {arr : Array Value} {u2 : Value} {xs2 : List Value} (hm : x.heap[mb]? = some (.cells arr M (0, 0))) (h2 : x.ownsRow b2 e2 s2 u2 n2 xs2) (hne : M ≠ e2) (hg : x.grownBy y u2.ownBlock) : y.heap[mb]? = some (.cells arr M (0, 0)) :=
 (hg.block mb (Array.getElem?_eq_some_iff.1 hm).1 (fun e => by
  obtain ⟨cur2, q2⟩ := own_blk h2 e.symm
  rw [q2] at hm
  simp only [Option.some.injEq, Obj.cells.injEq] at hm
  exact hne hm.2.1.symm)).trans hm
theorem th1 {x : World} {mb f : Nat} {M : TypeId} {arr : Array Value} {v : Value} (hm : x.heap[mb]? = some (.cells arr M (0, 0))) (hf : arr[f]? = some v) : x.there mb f 1 := fun j hj => by
 obtain rfl : j = 0 := by omega
 refine ⟨?_, ?_⟩
 ·rw [Nat.add_zero, cell_of_row x mb f _ M (0, 0) hm, hf]; rfl
 ·unfold World.frozen?
  rw [hm]
  simp
theorem four_any (p : E4) : ∀ u ∈ ([.int .u64 p.x0, .int .u64 p.x1, .int .u64 p.x2, .int .u64 p.x3] : List Value), u.oneCell' = true := by simp [Value.oneCell']
theorem buildFR (p : E4) (w : World) : (Instr.buildSlice 37 1 #[(0, .agg #[.int .u64 p.x0, .int .u64 p.x1, .int .u64 p.x2, .int .u64 p.x3])]).run Tryz.prog w = .ok (.slice (some ⟨w.heap.size, 0, none⟩) 1 1) (w.alloc (.cells #[.int .u64 p.x0, .int .u64 p.x1, .int .u64 p.x2, .int .u64 p.x3] 62)) := by kernel_rfl
theorem wp_buildFR {w : World} {o : Oper} {a : Act} {K : Act → World → Prop} {Q : Exit → Act → World → Prop} (x0 : Operand) (ho : o.op = .buildSlice 37 1 #[(0, x0)]) (p : E4) (h0 : a.eval x0 = .agg #[.int .u64 p.x0, .int .u64 p.x1, .int .u64 p.x2, .int .u64 p.x3]) (h : ∀ (tb : Nat) (wq : World), tb = w.heap.size → wq = w.alloc (.cells #[.int .u64 p.x0, .int .u64 p.x1, .int .u64 p.x2, .int .u64 p.x3] 62) → K (a.put o.dst (.slice (some ⟨tb, 0, none⟩) 1 1)) wq) : o.wp Tryz.prog a w K Q := by
 have hr := buildFR p w
 unfold Oper.wp execOp
 simp only [ho, Sem.run_bind, Sem.run_pure, Result.andThen_ok, List.map_toArray, List.map_cons, List.map_nil, h0, hr]
 exact h _ _ rfl rfl
theorem wp_loadFR {op : Oper} {a : Act} {w : World} {K : Act → World → Prop} {Q : Exit → Act → World → Prop} (x : Operand) (ho : op.op = .load 37 x) (b o n c : Nat) (p : Option Addr) (hx : a.eval x = .pointer (some ⟨b, o, none⟩)) (hc : w.cell? ⟨b, o, none⟩ = some (.slice p n c)) (h : K (a.put op.dst (.slice p n c)) w) : op.wp Tryz.prog a w K Q := by
 have hr : (loadVar 37 ⟨b, o, none⟩).run Tryz.prog w = .ok (.slice p n c) w := by
  have ha : (isAgg 37).run Tryz.prog w = .ok false w := by kernel_rfl
  unfold loadVar
  simp only [Sem.run_bind, ha, Result.andThen_ok, Bool.false_eq_true, if_false]
  simp [go_sem, hc]
 unfold Oper.wp execOp
 simp only [ho, hx, Instr.loadAt, Instr.sureAddr, Sem.run_bind, Sem.run_pure, Result.andThen_ok, hr]
 exact h
theorem i1_FR : (Tryz.prog.info? 37).map (·.size) = some 1 := by kernel_rfl
theorem wp_appFR {o : Oper} {a : Act} {w : World} {K : Act → World → Prop} {Q : Exit → Act → World → Prop} (s x : Operand) (ho : o.op = .call { callee := .builtin .append, args := #[s, x], argTypes := #[37, 37] }) (base : Nat) (v : Value) (n : Nat) (xs : List Value) (hs : a.eval s = v) (hown : w.ownsRow base 62 4 v n xs) (tb : Nat) (news : List Value) (hx : a.eval x = .slice (some ⟨tb, 0, none⟩) 1 1) (hl : news.length = 1 * 4) (hnews : ∀ j u, news[j]? = some u → w.cell? ((⟨tb, 0, none⟩ : Addr).add j) = some u) (h1 : ∀ u ∈ news, u.oneCell' = true) (hn : n ≤ 1048576) (hbase : base ≤ w.heap.size)
  (h : ∀ (P4 : Option Addr) (c4 : Nat) (w' : World), w'.ownsRow base 62 4 (.slice P4 (n + 1) c4) (n + 1) (xs ++ news) → w.grownBy w' v.ownBlock → (∀ k, (Value.slice P4 (n + 1) c4).ownBlock = some k → v.ownBlock = some k ∨ w.heap.size ≤ k) → K (a.put o.dst (.slice P4 (n + 1) c4)) w') : o.wp Tryz.prog a w K Q := by
 obtain ⟨v', w', hr, h2, h3, _, h4⟩ := run_append_own_at (P := Tryz.prog) w base 37 o.type 62 _ (.agg #[.int .u64 0, .int .u64 0, .int .u64 0, .int .u64 0]) 4 32 (by kernel_rfl) (show (Tryz.prog.info? 62) = some (Tryz.prog.info? 62).get! by kernel_rfl) (by kernel_rfl) (by kernel_rfl) (by kernel_rfl) rfl (by decide) v n xs hown ⟨tb, 0, none⟩ 1 1 news hl hnews h1 (by unfold maxLen; omega) (by omega) hbase
 obtain ⟨P4, c4, e4, _⟩ := own_sh2 h2
 subst e4
 unfold Oper.wp execOp
 simp only [ho, resolve, invoke, builtin, Sem.run_bind, Sem.run_pure, Result.andThen_ok, List.map_toArray, List.map_cons, List.map_nil, hs, hx, hr]
 refine h P4 c4 w' h2 h3 (fun k hk => ?_)
 rcases h4 with h4 | h4
 ·exact .inl (h4.symm.trans hk)
 ·rw [h4] at hk
  have := Option.some.inj hk
  exact .inr (by omega)
theorem buildFS (p : E4) (w : World) : (Instr.buildSlice 34 1 #[(0, .agg #[.int .u64 p.x0, .int .u64 p.x1, .int .u64 p.x2, .int .u64 p.x3])]).run Tryz.prog w = .ok (.slice (some ⟨w.heap.size, 0, none⟩) 1 1) (w.alloc (.cells #[.int .u64 p.x0, .int .u64 p.x1, .int .u64 p.x2, .int .u64 p.x3] 64)) := by kernel_rfl
theorem wp_buildFS {w : World} {o : Oper} {a : Act} {K : Act → World → Prop} {Q : Exit → Act → World → Prop} (x0 : Operand) (ho : o.op = .buildSlice 34 1 #[(0, x0)]) (p : E4) (h0 : a.eval x0 = .agg #[.int .u64 p.x0, .int .u64 p.x1, .int .u64 p.x2, .int .u64 p.x3]) (h : ∀ (tb : Nat) (wq : World), tb = w.heap.size → wq = w.alloc (.cells #[.int .u64 p.x0, .int .u64 p.x1, .int .u64 p.x2, .int .u64 p.x3] 64) → K (a.put o.dst (.slice (some ⟨tb, 0, none⟩) 1 1)) wq) : o.wp Tryz.prog a w K Q := by
 have hr := buildFS p w
 unfold Oper.wp execOp
 simp only [ho, Sem.run_bind, Sem.run_pure, Result.andThen_ok, List.map_toArray, List.map_cons, List.map_nil, h0, hr]
 exact h _ _ rfl rfl
theorem wp_loadFS {op : Oper} {a : Act} {w : World} {K : Act → World → Prop} {Q : Exit → Act → World → Prop} (x : Operand) (ho : op.op = .load 34 x) (b o n c : Nat) (p : Option Addr) (hx : a.eval x = .pointer (some ⟨b, o, none⟩)) (hc : w.cell? ⟨b, o, none⟩ = some (.slice p n c)) (h : K (a.put op.dst (.slice p n c)) w) : op.wp Tryz.prog a w K Q := by
 have hr : (loadVar 34 ⟨b, o, none⟩).run Tryz.prog w = .ok (.slice p n c) w := by
  have ha : (isAgg 34).run Tryz.prog w = .ok false w := by kernel_rfl
  unfold loadVar
  simp only [Sem.run_bind, ha, Result.andThen_ok, Bool.false_eq_true, if_false]
  simp [go_sem, hc]
 unfold Oper.wp execOp
 simp only [ho, hx, Instr.loadAt, Instr.sureAddr, Sem.run_bind, Sem.run_pure, Result.andThen_ok, hr]
 exact h
theorem i1_FS : (Tryz.prog.info? 34).map (·.size) = some 1 := by kernel_rfl
theorem wp_appFS {o : Oper} {a : Act} {w : World} {K : Act → World → Prop} {Q : Exit → Act → World → Prop} (s x : Operand) (ho : o.op = .call { callee := .builtin .append, args := #[s, x], argTypes := #[34, 34] }) (base : Nat) (v : Value) (n : Nat) (xs : List Value) (hs : a.eval s = v) (hown : w.ownsRow base 64 4 v n xs) (tb : Nat) (news : List Value) (hx : a.eval x = .slice (some ⟨tb, 0, none⟩) 1 1) (hl : news.length = 1 * 4) (hnews : ∀ j u, news[j]? = some u → w.cell? ((⟨tb, 0, none⟩ : Addr).add j) = some u) (h1 : ∀ u ∈ news, u.oneCell' = true) (hn : n ≤ 1048576) (hbase : base ≤ w.heap.size)
  (h : ∀ (P4 : Option Addr) (c4 : Nat) (w' : World), w'.ownsRow base 64 4 (.slice P4 (n + 1) c4) (n + 1) (xs ++ news) → w.grownBy w' v.ownBlock → (∀ k, (Value.slice P4 (n + 1) c4).ownBlock = some k → v.ownBlock = some k ∨ w.heap.size ≤ k) → K (a.put o.dst (.slice P4 (n + 1) c4)) w') : o.wp Tryz.prog a w K Q := by
 obtain ⟨v', w', hr, h2, h3, _, h4⟩ := run_append_own_at (P := Tryz.prog) w base 34 o.type 64 _ (.agg #[.int .u64 0, .int .u64 0, .int .u64 0, .int .u64 0]) 4 32 (by kernel_rfl) (show (Tryz.prog.info? 64) = some (Tryz.prog.info? 64).get! by kernel_rfl) (by kernel_rfl) (by kernel_rfl) (by kernel_rfl) rfl (by decide) v n xs hown ⟨tb, 0, none⟩ 1 1 news hl hnews h1 (by unfold maxLen; omega) (by omega) hbase
 obtain ⟨P4, c4, e4, _⟩ := own_sh2 h2
 subst e4
 unfold Oper.wp execOp
 simp only [ho, resolve, invoke, builtin, Sem.run_bind, Sem.run_pure, Result.andThen_ok, List.map_toArray, List.map_cons, List.map_nil, hs, hx, hr]
 refine h P4 c4 w' h2 h3 (fun k hk => ?_)
 rcases h4 with h4 | h4
 ·exact .inl (h4.symm.trans hk)
 ·rw [h4] at hk
  have := Option.some.inj hk
  exact .inr (by omega)
def pu2o_0 : Oper := { dst := some 10, op := Op.move (Operand.tmp 0), type := 104, pos := "law.go:81", after := #[], guard := none }
def pu2o_1 : Oper := { dst := some 11, op := Op.move (Operand.tmp 0), type := 104, pos := "law.go:81", after := #[], guard := none }
def pu2o_2 : Oper := { dst := some 12, op := Op.nilCheck (Operand.tmp 11), type := 0, pos := "law.go:81", after := #[{ on := 1, ground := Ground.data }], guard := none }
def pu2o_3 : Oper := { dst := some 13, op := Op.fieldAddr 41 (Operand.tmp 12) 3, type := 0, pos := "law.go:81", after := #[{ on := 2, ground := Ground.data }], guard := none }
def pu2o_4 : Oper := { dst := some 14, op := Op.fieldAddr 39 (Operand.tmp 13) 0, type := 0, pos := "law.go:81", after := #[{ on := 3, ground := Ground.data }], guard := none }
def pu2o_5 : Oper := { dst := some 15, op := Op.load 37 (Operand.tmp 14), type := 37, pos := "law.go:81", after := #[{ on := 4, ground := Ground.data }], guard := none }
def pu2o_6 : Oper := { dst := some 16, op := Op.load 62 (Operand.tmp 4), type := 62, pos := "law.go:81", after := #[], guard := none }
def pu2o_7 : Oper := { dst := some 17, op := Op.buildSlice 37 1 #[(0, Operand.tmp 16)], type := 37, pos := "law.go:81", after := #[{ on := 6, ground := Ground.data }], guard := none }
def pu2o_8 : Oper := { dst := some 18, op := Op.call { callee := Callee.builtin Builtin.append, args := #[Operand.tmp 15, Operand.tmp 17], argTypes := #[37, 37] }, type := 37, pos := "law.go:81", after := #[{ on := 5, ground := Ground.data }, { on := 7, ground := Ground.data }], guard := none }
def pu2o_9 : Oper := { dst := some 19, op := Op.nilCheck (Operand.tmp 10), type := 0, pos := "law.go:81", after := #[{ on := 0, ground := Ground.data }, { on := 0, ground := Ground.phase }, { on := 1, ground := Ground.phase }, { on := 2, ground := Ground.phase }, { on := 3, ground := Ground.phase }, { on := 4, ground := Ground.phase }, { on := 5, ground := Ground.phase }, { on := 6, ground := Ground.phase }, { on := 7, ground := Ground.phase }, { on := 8, ground := Ground.phase }], guard := none }
def pu2o_10 : Oper := { dst := some 20, op := Op.fieldAddr 41 (Operand.tmp 19) 3, type := 0, pos := "law.go:81", after := #[{ on := 9, ground := Ground.data }, { on := 0, ground := Ground.phase }, { on := 1, ground := Ground.phase }, { on := 2, ground := Ground.phase }, { on := 3, ground := Ground.phase }, { on := 4, ground := Ground.phase }, { on := 5, ground := Ground.phase }, { on := 6, ground := Ground.phase }, { on := 7, ground := Ground.phase }, { on := 8, ground := Ground.phase }], guard := none }
def pu2o_11 : Oper := { dst := some 21, op := Op.fieldAddr 39 (Operand.tmp 20) 0, type := 0, pos := "law.go:81", after := #[{ on := 10, ground := Ground.data }, { on := 0, ground := Ground.phase }, { on := 1, ground := Ground.phase }, { on := 2, ground := Ground.phase }, { on := 3, ground := Ground.phase }, { on := 4, ground := Ground.phase }, { on := 5, ground := Ground.phase }, { on := 6, ground := Ground.phase }, { on := 7, ground := Ground.phase }, { on := 8, ground := Ground.phase }], guard := none }
def pu2o_12 : Oper := { dst := none, op := Op.store 37 (Operand.tmp 21) (Operand.tmp 18), type := 0, pos := "law.go:81", after := #[{ on := 11, ground := Ground.data }, { on := 8, ground := Ground.data }, { on := 8, ground := Ground.chain }, { on := 0, ground := Ground.phase }, { on := 1, ground := Ground.phase }, { on := 2, ground := Ground.phase }, { on := 3, ground := Ground.phase }, { on := 4, ground := Ground.phase }, { on := 5, ground := Ground.phase }, { on := 6, ground := Ground.phase }, { on := 7, ground := Ground.phase }, { on := 8, ground := Ground.phase }], guard := none }
def pu2o : Array Oper := #[pu2o_0, pu2o_1, pu2o_2, pu2o_3, pu2o_4, pu2o_5, pu2o_6, pu2o_7, pu2o_8, pu2o_9, pu2o_10, pu2o_11, pu2o_12]
set_option maxRecDepth 100000 in
set_option maxHeartbeats 16000000 in
theorem pu2 (Q : Exit → Act → World → Prop) (mb B base nn cv : Nat) (Pv : Option Addr) (arr : Array Value) (p : E4) (xs : List Value) (u1 u2 u3 u5 u6 u7 u8 u9 u10 u11 u12 u13 u14 u15 u16 u17 u18 u19 u20 u21 u22 u23 u24 u25 u26 u27 u28 u29 u30 u31 u32 u33 u34 u35 u36 u37 u38 u39 u40 u41 u42 u43 u44 u45 u46 u47 u48 u49 u50 u51 u52 u53 u54 u55 u56 u57 u58 u59 u60 u61 u62 u63 u64 u65 u66 u67 u68 u69 u70 u71 u72 u73 u74 u75 u76 u77 u78 u79 u80 u81 : Value) (W : World)
  (nb : B ≠ mb) (nv : (Value.slice Pv nn cv).ownBlock ≠ some B) (a0 : W.cell? ⟨B, 0, none⟩ = some (.int .u64 p.x0)) (a1 : W.cell? ⟨B, 1, none⟩ = some (.int .u64 p.x1)) (a2 : W.cell? ⟨B, 2, none⟩ = some (.int .u64 p.x2)) (a3 : W.cell? ⟨B, 3, none⟩ = some (.int .u64 p.x3))
  (hm : W.heap[mb]? = some (.cells arr 41 (0, 0))) (HF : Hid (arr[6]? = some (.slice Pv nn cv))) (ow : W.ownsRow base 62 4 (.slice Pv nn cv) nn xs) (NN : Hid (nn ≤ 1048576)) (BS : Hid (base ≤ W.heap.size))
  (HQ : Hid (∀ (wz : World) (P4 : Option Addr) (c4 tb : Nat), Fy mb (.slice Pv nn cv) mb W wz → (wz.heap[mb]? = some (.cells (arr.setIfInBounds 6 (.slice P4 (nn + 1) c4)) 41 (0, 0)) ∧ wz.ownsRow base 62 4 (.slice P4 (nn + 1) c4) (nn + 1) (xs ++ [.int .u64 p.x0, .int .u64 p.x1, .int .u64 p.x2, .int .u64 p.x3])) → (∀ k, (Value.slice P4 (nn + 1) c4).ownBlock = some k → (Value.slice Pv nn cv).ownBlock = some k ∨ W.heap.size ≤ k) → Q .normal ⟨#[.pointer (some ⟨mb, 0, none⟩), u1, u2, u3, .pointer (some ⟨B, 0, none⟩), u5, u6, u7, u8, u9, .pointer (some ⟨mb, 0, none⟩), .pointer (some ⟨mb, 0, none⟩), .pointer (some ⟨mb, 0, none⟩), .pointer (some ⟨mb, 6, none⟩), .pointer (some ⟨mb, 6, none⟩), .slice Pv nn cv, .agg #[.int .u64 p.x0, .int .u64 p.x1, .int .u64 p.x2, .int .u64 p.x3], .slice (some ⟨tb, 0, none⟩) 1 1, .slice P4 (nn + 1) c4, .pointer (some ⟨mb, 0, none⟩), .pointer (some ⟨mb, 6, none⟩), .pointer (some ⟨mb, 6, none⟩), u22, u23, u24, u25, u26, u27, u28, u29, u30, u31, u32, u33, u34, u35, u36, u37, u38, u39, u40, u41, u42, u43, u44, u45, u46, u47, u48, u49, u50, u51, u52, u53, u54, u55, u56, u57, u58, u59, u60, u61, u62, u63, u64, u65, u66, u67, u68, u69, u70, u71, u72, u73, u74, u75, u76, u77, u78, u79, u80, u81], []⟩ wz)) : (Code.region 2 pu2o true).wp Tryz.prog Q ⟨#[.pointer (some ⟨mb, 0, none⟩), u1, u2, u3, .pointer (some ⟨B, 0, none⟩), u5, u6, u7, u8, u9, u10, u11, u12, u13, u14, u15, u16, u17, u18, u19, u20, u21, u22, u23, u24, u25, u26, u27, u28, u29, u30, u31, u32, u33, u34, u35, u36, u37, u38, u39, u40, u41, u42, u43, u44, u45, u46, u47, u48, u49, u50, u51, u52, u53, u54, u55, u56, u57, u58, u59, u60, u61, u62, u63, u64, u65, u66, u67, u68, u69, u70, u71, u72, u73, u74, u75, u76, u77, u78, u79, u80, u81], []⟩ W := by
 have HM := hidden (((bl_drew W).block mb (Array.getElem?_eq_some_iff.1 hm).1).trans hm)
 have OW := hidden (own_keepT ow (bl_drew W))
 clear hm ow
 unfold pu2o
 refine wp_region_noPanic ?_
 refine wp_region_held_drew (S := fun x => Fy mb (.slice Pv nn cv) mb W x) (by kernel_rfl) (Fy.drew0 W) (fun hH0 => ?_)
 refine tk 0 pu2o_0 (.pointer (some ⟨mb, 0, none⟩)) rfl (by kernel_rfl) hH0 rfl (fun w0 hSw => ?_) ?_
 ·(unfold pu2o_0; clear hSw; go_simp)
 simp only [pu2o_0, Act.put, sA, sB, sC]
 refine tk 1 pu2o_1 (.pointer (some ⟨mb, 0, none⟩)) rfl (by kernel_rfl) hH0 rfl (fun w0 hSw => ?_) ?_
 ·(unfold pu2o_1; clear hSw; go_simp)
 simp only [pu2o_1, Act.put, sA, sB, sC]
 refine tk 6 pu2o_6 (.agg #[.int .u64 p.x0, .int .u64 p.x1, .int .u64 p.x2, .int .u64 p.x3]) rfl (by kernel_rfl) hH0 rfl (fun w0 hSw => ?_) ?_
 ·(unfold pu2o_6; have hS : Fy mb (.slice Pv nn cv) mb W w0 := hSw; have a0 := hS.cl a0 nb nv nb; have a1 := hS.cl a1 nb nv nb; have a2 := hS.cl a2 nb nv nb; have a3 := hS.cl a3 nb nv nb; clear hS hSw; go_simp)
 simp only [pu2o_6, Act.put, sA, sB, sC]
 refine tk 2 pu2o_2 (.pointer (some ⟨mb, 0, none⟩)) rfl (by kernel_rfl) hH0 rfl (fun w0 hSw => ?_) ?_
 ·(unfold pu2o_2; clear hSw; go_simp)
 simp only [pu2o_2, Act.put, sA, sB, sC]
 refine tk 3 pu2o_3 (.pointer (some ⟨mb, 6, none⟩)) rfl (by kernel_rfl) hH0 rfl (fun w0 hSw => ?_) ?_
 ·(unfold pu2o_3; clear hSw; go_simp)
 simp only [pu2o_3, Act.put, sA, sB, sC]
 refine tk 4 pu2o_4 (.pointer (some ⟨mb, 6, none⟩)) rfl (by kernel_rfl) hH0 rfl (fun w0 hSw => ?_) ?_
 ·(unfold pu2o_4; clear hSw; go_simp)
 simp only [pu2o_4, Act.put, sA, sB, sC]
 refine wpAnyH_ready (rs := [5, 7]) (by kernel_rfl) (by simp) ?_
 refine AllReadyH.cons (o := pu2o_5) rfl (fun K hK => ?_) (AllReadyH.cons (o := pu2o_7) rfl (fun K hK => ?_) AllReadyH.nil)
 ·unfold pu2o_5
  have HH := hidden hH0
  clear hH0
  refine wp_loadFR _ rfl mb 6 nn cv Pv rfl (cell_of_row _ mb 6 _ 41 (0, 0) HM.out |>.trans HF.out) ?_
  simp only [Act.put, sA, sB, sC]
  have SN := HH
  clear HH
  refine hK.out _ _ SN.out (fun hH1 => ?_)
  clear hK K SN
  refine wpAnyH_ready (rs := [7]) (by kernel_rfl) (by simp) ?_
  refine AllReadyH.cons (o := pu2o_7) rfl (fun K hK => ?_) AllReadyH.nil
  unfold pu2o_7
  have HH := hidden hH1
  clear hH1
  refine wp_buildFR _ rfl p rfl (fun tb wn2 htb hwq => ?_)
  have SN := hidden ((by rw [hwq]; exact HH.out.bel (bl_alloc _ _) : Fy mb (.slice Pv nn cv) mb W wn2))
  replace HM := hidden ((by rw [hwq]; exact ((bl_alloc _ _).block _ (Array.getElem?_eq_some_iff.1 HM.out).1).trans HM.out : wn2.heap[mb]? = some (.cells arr 41 (0, 0))))
  replace OW := hidden ((by rw [hwq]; exact own_keepT OW.out (bl_alloc _ _) : wn2.ownsRow base 62 4 (.slice Pv nn cv) nn xs))
  have CN := hidden ((by rw [hwq, htb]; exact cells_newT _ [.int .u64 p.x0, .int .u64 p.x1, .int .u64 p.x2, .int .u64 p.x3] _ : ∀ j u, ([.int .u64 p.x0, .int .u64 p.x1, .int .u64 p.x2, .int .u64 p.x3] : List Value)[j]? = some u → World.cell? wn2 ((⟨tb, 0, none⟩ : Addr).add j) = some u))
  clear HH htb hwq
  simp only [Act.put, sA, sB, sC]
  refine hK.out _ _ SN.out (fun hH2 => ?_)
  clear hK K SN
  refine wpAnyH_ready (rs := [8]) (by kernel_rfl) (by simp) ?_
  refine AllReadyH.cons (o := pu2o_8) rfl (fun K hK => ?_) AllReadyH.nil
  unfold pu2o_8
  have HH := hidden hH2
  clear hH2
  refine wp_appFR _ _ rfl base (.slice Pv nn cv) nn xs rfl OW.out tb [.int .u64 p.x0, .int .u64 p.x1, .int .u64 p.x2, .int .u64 p.x3] rfl rfl CN.out (four_any p) NN.out (Nat.le_trans BS.out HH.out.size) (fun P4 c4 wn3 hO hG hW => ?_)
  have NW := hidden (fun k hk => (hW k hk).imp_right (Nat.le_trans HH.out.size) : ∀ k, (Value.slice P4 (nn + 1) c4).ownBlock = some k → (Value.slice Pv nn cv).ownBlock = some k ∨ W.heap.size ≤ k)
  replace HM := hidden (blk_gr HM.out OW.out (by decide) hG)
  have SN := hidden (HH.out.row hG)
  have O4 := hidden (hO)
  clear HH hO hG hW CN OW
  simp only [Act.put, sA, sB, sC]
  refine hK.out _ _ SN.out (fun hH3 => ?_)
  clear hK K SN
  refine tk 9 pu2o_9 (.pointer (some ⟨mb, 0, none⟩)) rfl (by kernel_rfl) hH3 rfl (fun w0 hSw => ?_) ?_
  ·(unfold pu2o_9; clear hSw; go_simp)
  simp only [pu2o_9, Act.put, sA, sB, sC]
  refine tk 10 pu2o_10 (.pointer (some ⟨mb, 6, none⟩)) rfl (by kernel_rfl) hH3 rfl (fun w0 hSw => ?_) ?_
  ·(unfold pu2o_10; clear hSw; go_simp)
  simp only [pu2o_10, Act.put, sA, sB, sC]
  refine tk 11 pu2o_11 (.pointer (some ⟨mb, 6, none⟩)) rfl (by kernel_rfl) hH3 rfl (fun w0 hSw => ?_) ?_
  ·(unfold pu2o_11; clear hSw; go_simp)
  simp only [pu2o_11, Act.put, sA, sB, sC]
  refine wpAnyH_ready (rs := [12]) (by kernel_rfl) (by simp) ?_
  refine AllReadyH.cons (o := pu2o_12) rfl (fun K hK => ?_) AllReadyH.nil
  unfold pu2o_12
  have HH := hidden hH3
  clear hH3
  refine wp_storeV 37 _ _ rfl mb 6 P4 (nn + 1) c4 (by rfl) (by rfl) (th1 HM.out HF.out) i1_FR rfl (fun wn4 hw => ?_)
  have SN := hidden (HH.out.sys (gb_setCells mb [.slice P4 (nn + 1) c4] 6 _))
  have FE := hidden (putfin hw HM.out O4.out (by decide))
  rw [← hw] at SN
  clear HH hw
  refine hK.out _ _ SN.out (fun hH4 => ?_)
  clear hK K SN
  have HH := hidden hH4
  have FQ := hidden (HQ.out _ P4 c4 tb HH.out FE.out NW.out)
  refine wpAnyH_done (by kernel_rfl) ?_ _
  refine NoPanic.normal ?_
  exact FQ.out
 ·unfold pu2o_7
  have HH := hidden hH0
  clear hH0
  refine wp_buildFR _ rfl p rfl (fun tb wn1 htb hwq => ?_)
  have SN := hidden ((by rw [hwq]; exact HH.out.bel (bl_alloc _ _) : Fy mb (.slice Pv nn cv) mb W wn1))
  replace HM := hidden ((by rw [hwq]; exact ((bl_alloc _ _).block _ (Array.getElem?_eq_some_iff.1 HM.out).1).trans HM.out : wn1.heap[mb]? = some (.cells arr 41 (0, 0))))
  replace OW := hidden ((by rw [hwq]; exact own_keepT OW.out (bl_alloc _ _) : wn1.ownsRow base 62 4 (.slice Pv nn cv) nn xs))
  have CN := hidden ((by rw [hwq, htb]; exact cells_newT _ [.int .u64 p.x0, .int .u64 p.x1, .int .u64 p.x2, .int .u64 p.x3] _ : ∀ j u, ([.int .u64 p.x0, .int .u64 p.x1, .int .u64 p.x2, .int .u64 p.x3] : List Value)[j]? = some u → World.cell? wn1 ((⟨tb, 0, none⟩ : Addr).add j) = some u))
  clear HH htb hwq
  simp only [Act.put, sA, sB, sC]
  refine hK.out _ _ SN.out (fun hH1 => ?_)
  clear hK K SN
  refine wpAnyH_ready (rs := [5]) (by kernel_rfl) (by simp) ?_
  refine AllReadyH.cons (o := pu2o_5) rfl (fun K hK => ?_) AllReadyH.nil
  unfold pu2o_5
  have HH := hidden hH1
  clear hH1
  refine wp_loadFR _ rfl mb 6 nn cv Pv rfl (cell_of_row _ mb 6 _ 41 (0, 0) HM.out |>.trans HF.out) ?_
  simp only [Act.put, sA, sB, sC]
  have SN := HH
  clear HH
  refine hK.out _ _ SN.out (fun hH2 => ?_)
  clear hK K SN
  refine wpAnyH_ready (rs := [8]) (by kernel_rfl) (by simp) ?_
  refine AllReadyH.cons (o := pu2o_8) rfl (fun K hK => ?_) AllReadyH.nil
  unfold pu2o_8
  have HH := hidden hH2
  clear hH2
  refine wp_appFR _ _ rfl base (.slice Pv nn cv) nn xs rfl OW.out tb [.int .u64 p.x0, .int .u64 p.x1, .int .u64 p.x2, .int .u64 p.x3] rfl rfl CN.out (four_any p) NN.out (Nat.le_trans BS.out HH.out.size) (fun P4 c4 wn3 hO hG hW => ?_)
  have NW := hidden (fun k hk => (hW k hk).imp_right (Nat.le_trans HH.out.size) : ∀ k, (Value.slice P4 (nn + 1) c4).ownBlock = some k → (Value.slice Pv nn cv).ownBlock = some k ∨ W.heap.size ≤ k)
  replace HM := hidden (blk_gr HM.out OW.out (by decide) hG)
  have SN := hidden (HH.out.row hG)
  have O4 := hidden (hO)
  clear HH hO hG hW CN OW
  simp only [Act.put, sA, sB, sC]
  refine hK.out _ _ SN.out (fun hH3 => ?_)
  clear hK K SN
  refine tk 9 pu2o_9 (.pointer (some ⟨mb, 0, none⟩)) rfl (by kernel_rfl) hH3 rfl (fun w0 hSw => ?_) ?_
  ·(unfold pu2o_9; clear hSw; go_simp)
  simp only [pu2o_9, Act.put, sA, sB, sC]
  refine tk 10 pu2o_10 (.pointer (some ⟨mb, 6, none⟩)) rfl (by kernel_rfl) hH3 rfl (fun w0 hSw => ?_) ?_
  ·(unfold pu2o_10; clear hSw; go_simp)
  simp only [pu2o_10, Act.put, sA, sB, sC]
  refine tk 11 pu2o_11 (.pointer (some ⟨mb, 6, none⟩)) rfl (by kernel_rfl) hH3 rfl (fun w0 hSw => ?_) ?_
  ·(unfold pu2o_11; clear hSw; go_simp)
  simp only [pu2o_11, Act.put, sA, sB, sC]
  refine wpAnyH_ready (rs := [12]) (by kernel_rfl) (by simp) ?_
  refine AllReadyH.cons (o := pu2o_12) rfl (fun K hK => ?_) AllReadyH.nil
  unfold pu2o_12
  have HH := hidden hH3
  clear hH3
  refine wp_storeV 37 _ _ rfl mb 6 P4 (nn + 1) c4 (by rfl) (by rfl) (th1 HM.out HF.out) i1_FR rfl (fun wn4 hw => ?_)
  have SN := hidden (HH.out.sys (gb_setCells mb [.slice P4 (nn + 1) c4] 6 _))
  have FE := hidden (putfin hw HM.out O4.out (by decide))
  rw [← hw] at SN
  clear HH hw
  refine hK.out _ _ SN.out (fun hH4 => ?_)
  clear hK K SN
  have HH := hidden hH4
  have FQ := hidden (HQ.out _ P4 c4 tb HH.out FE.out NW.out)
  refine wpAnyH_done (by kernel_rfl) ?_ _
  refine NoPanic.normal ?_
  exact FQ.out
def pu3o_0 : Oper := { dst := some 22, op := Op.move (Operand.tmp 0), type := 104, pos := "law.go:82", after := #[], guard := none }
def pu3o_1 : Oper := { dst := some 23, op := Op.move (Operand.tmp 0), type := 104, pos := "law.go:82", after := #[], guard := none }
def pu3o_2 : Oper := { dst := some 24, op := Op.nilCheck (Operand.tmp 23), type := 0, pos := "law.go:82", after := #[{ on := 1, ground := Ground.data }], guard := none }
def pu3o_3 : Oper := { dst := some 25, op := Op.fieldAddr 41 (Operand.tmp 24) 3, type := 0, pos := "law.go:82", after := #[{ on := 2, ground := Ground.data }], guard := none }
def pu3o_4 : Oper := { dst := some 26, op := Op.fieldAddr 39 (Operand.tmp 25) 1, type := 0, pos := "law.go:82", after := #[{ on := 3, ground := Ground.data }], guard := none }
def pu3o_5 : Oper := { dst := some 27, op := Op.load 37 (Operand.tmp 26), type := 37, pos := "law.go:82", after := #[{ on := 4, ground := Ground.data }], guard := none }
def pu3o_6 : Oper := { dst := some 28, op := Op.load 62 (Operand.tmp 5), type := 62, pos := "law.go:82", after := #[], guard := none }
def pu3o_7 : Oper := { dst := some 29, op := Op.buildSlice 37 1 #[(0, Operand.tmp 28)], type := 37, pos := "law.go:82", after := #[{ on := 6, ground := Ground.data }], guard := none }
def pu3o_8 : Oper := { dst := some 30, op := Op.call { callee := Callee.builtin Builtin.append, args := #[Operand.tmp 27, Operand.tmp 29], argTypes := #[37, 37] }, type := 37, pos := "law.go:82", after := #[{ on := 5, ground := Ground.data }, { on := 7, ground := Ground.data }], guard := none }
def pu3o_9 : Oper := { dst := some 31, op := Op.nilCheck (Operand.tmp 22), type := 0, pos := "law.go:82", after := #[{ on := 0, ground := Ground.data }, { on := 0, ground := Ground.phase }, { on := 1, ground := Ground.phase }, { on := 2, ground := Ground.phase }, { on := 3, ground := Ground.phase }, { on := 4, ground := Ground.phase }, { on := 5, ground := Ground.phase }, { on := 6, ground := Ground.phase }, { on := 7, ground := Ground.phase }, { on := 8, ground := Ground.phase }], guard := none }
def pu3o_10 : Oper := { dst := some 32, op := Op.fieldAddr 41 (Operand.tmp 31) 3, type := 0, pos := "law.go:82", after := #[{ on := 9, ground := Ground.data }, { on := 0, ground := Ground.phase }, { on := 1, ground := Ground.phase }, { on := 2, ground := Ground.phase }, { on := 3, ground := Ground.phase }, { on := 4, ground := Ground.phase }, { on := 5, ground := Ground.phase }, { on := 6, ground := Ground.phase }, { on := 7, ground := Ground.phase }, { on := 8, ground := Ground.phase }], guard := none }
def pu3o_11 : Oper := { dst := some 33, op := Op.fieldAddr 39 (Operand.tmp 32) 1, type := 0, pos := "law.go:82", after := #[{ on := 10, ground := Ground.data }, { on := 0, ground := Ground.phase }, { on := 1, ground := Ground.phase }, { on := 2, ground := Ground.phase }, { on := 3, ground := Ground.phase }, { on := 4, ground := Ground.phase }, { on := 5, ground := Ground.phase }, { on := 6, ground := Ground.phase }, { on := 7, ground := Ground.phase }, { on := 8, ground := Ground.phase }], guard := none }
def pu3o_12 : Oper := { dst := none, op := Op.store 37 (Operand.tmp 33) (Operand.tmp 30), type := 0, pos := "law.go:82", after := #[{ on := 11, ground := Ground.data }, { on := 8, ground := Ground.data }, { on := 8, ground := Ground.chain }, { on := 0, ground := Ground.phase }, { on := 1, ground := Ground.phase }, { on := 2, ground := Ground.phase }, { on := 3, ground := Ground.phase }, { on := 4, ground := Ground.phase }, { on := 5, ground := Ground.phase }, { on := 6, ground := Ground.phase }, { on := 7, ground := Ground.phase }, { on := 8, ground := Ground.phase }], guard := none }
def pu3o : Array Oper := #[pu3o_0, pu3o_1, pu3o_2, pu3o_3, pu3o_4, pu3o_5, pu3o_6, pu3o_7, pu3o_8, pu3o_9, pu3o_10, pu3o_11, pu3o_12]
set_option maxRecDepth 100000 in
set_option maxHeartbeats 16000000 in
theorem pu3 (Q : Exit → Act → World → Prop) (mb B base nn cv : Nat) (Pv : Option Addr) (arr : Array Value) (p : E4) (xs : List Value) (u1 u2 u3 u4 u6 u7 u8 u9 u10 u11 u12 u13 u14 u15 u16 u17 u18 u19 u20 u21 u22 u23 u24 u25 u26 u27 u28 u29 u30 u31 u32 u33 u34 u35 u36 u37 u38 u39 u40 u41 u42 u43 u44 u45 u46 u47 u48 u49 u50 u51 u52 u53 u54 u55 u56 u57 u58 u59 u60 u61 u62 u63 u64 u65 u66 u67 u68 u69 u70 u71 u72 u73 u74 u75 u76 u77 u78 u79 u80 u81 : Value) (W : World)
  (nb : B ≠ mb) (nv : (Value.slice Pv nn cv).ownBlock ≠ some B) (a0 : W.cell? ⟨B, 0, none⟩ = some (.int .u64 p.x0)) (a1 : W.cell? ⟨B, 1, none⟩ = some (.int .u64 p.x1)) (a2 : W.cell? ⟨B, 2, none⟩ = some (.int .u64 p.x2)) (a3 : W.cell? ⟨B, 3, none⟩ = some (.int .u64 p.x3))
  (hm : W.heap[mb]? = some (.cells arr 41 (0, 0))) (HF : Hid (arr[7]? = some (.slice Pv nn cv))) (ow : W.ownsRow base 62 4 (.slice Pv nn cv) nn xs) (NN : Hid (nn ≤ 1048576)) (BS : Hid (base ≤ W.heap.size))
  (HQ : Hid (∀ (wz : World) (P4 : Option Addr) (c4 tb : Nat), Fy mb (.slice Pv nn cv) mb W wz → (wz.heap[mb]? = some (.cells (arr.setIfInBounds 7 (.slice P4 (nn + 1) c4)) 41 (0, 0)) ∧ wz.ownsRow base 62 4 (.slice P4 (nn + 1) c4) (nn + 1) (xs ++ [.int .u64 p.x0, .int .u64 p.x1, .int .u64 p.x2, .int .u64 p.x3])) → (∀ k, (Value.slice P4 (nn + 1) c4).ownBlock = some k → (Value.slice Pv nn cv).ownBlock = some k ∨ W.heap.size ≤ k) → Q .normal ⟨#[.pointer (some ⟨mb, 0, none⟩), u1, u2, u3, u4, .pointer (some ⟨B, 0, none⟩), u6, u7, u8, u9, u10, u11, u12, u13, u14, u15, u16, u17, u18, u19, u20, u21, .pointer (some ⟨mb, 0, none⟩), .pointer (some ⟨mb, 0, none⟩), .pointer (some ⟨mb, 0, none⟩), .pointer (some ⟨mb, 6, none⟩), .pointer (some ⟨mb, 7, none⟩), .slice Pv nn cv, .agg #[.int .u64 p.x0, .int .u64 p.x1, .int .u64 p.x2, .int .u64 p.x3], .slice (some ⟨tb, 0, none⟩) 1 1, .slice P4 (nn + 1) c4, .pointer (some ⟨mb, 0, none⟩), .pointer (some ⟨mb, 6, none⟩), .pointer (some ⟨mb, 7, none⟩), u34, u35, u36, u37, u38, u39, u40, u41, u42, u43, u44, u45, u46, u47, u48, u49, u50, u51, u52, u53, u54, u55, u56, u57, u58, u59, u60, u61, u62, u63, u64, u65, u66, u67, u68, u69, u70, u71, u72, u73, u74, u75, u76, u77, u78, u79, u80, u81], []⟩ wz)) : (Code.region 3 pu3o true).wp Tryz.prog Q ⟨#[.pointer (some ⟨mb, 0, none⟩), u1, u2, u3, u4, .pointer (some ⟨B, 0, none⟩), u6, u7, u8, u9, u10, u11, u12, u13, u14, u15, u16, u17, u18, u19, u20, u21, u22, u23, u24, u25, u26, u27, u28, u29, u30, u31, u32, u33, u34, u35, u36, u37, u38, u39, u40, u41, u42, u43, u44, u45, u46, u47, u48, u49, u50, u51, u52, u53, u54, u55, u56, u57, u58, u59, u60, u61, u62, u63, u64, u65, u66, u67, u68, u69, u70, u71, u72, u73, u74, u75, u76, u77, u78, u79, u80, u81], []⟩ W := by
 have HM := hidden (((bl_drew W).block mb (Array.getElem?_eq_some_iff.1 hm).1).trans hm)
 have OW := hidden (own_keepT ow (bl_drew W))
 clear hm ow
 unfold pu3o
 refine wp_region_noPanic ?_
 refine wp_region_held_drew (S := fun x => Fy mb (.slice Pv nn cv) mb W x) (by kernel_rfl) (Fy.drew0 W) (fun hH0 => ?_)
 refine tk 0 pu3o_0 (.pointer (some ⟨mb, 0, none⟩)) rfl (by kernel_rfl) hH0 rfl (fun w0 hSw => ?_) ?_
 ·(unfold pu3o_0; clear hSw; go_simp)
 simp only [pu3o_0, Act.put, sA, sB, sC]
 refine tk 1 pu3o_1 (.pointer (some ⟨mb, 0, none⟩)) rfl (by kernel_rfl) hH0 rfl (fun w0 hSw => ?_) ?_
 ·(unfold pu3o_1; clear hSw; go_simp)
 simp only [pu3o_1, Act.put, sA, sB, sC]
 refine tk 6 pu3o_6 (.agg #[.int .u64 p.x0, .int .u64 p.x1, .int .u64 p.x2, .int .u64 p.x3]) rfl (by kernel_rfl) hH0 rfl (fun w0 hSw => ?_) ?_
 ·(unfold pu3o_6; have hS : Fy mb (.slice Pv nn cv) mb W w0 := hSw; have a0 := hS.cl a0 nb nv nb; have a1 := hS.cl a1 nb nv nb; have a2 := hS.cl a2 nb nv nb; have a3 := hS.cl a3 nb nv nb; clear hS hSw; go_simp)
 simp only [pu3o_6, Act.put, sA, sB, sC]
 refine tk 2 pu3o_2 (.pointer (some ⟨mb, 0, none⟩)) rfl (by kernel_rfl) hH0 rfl (fun w0 hSw => ?_) ?_
 ·(unfold pu3o_2; clear hSw; go_simp)
 simp only [pu3o_2, Act.put, sA, sB, sC]
 refine tk 3 pu3o_3 (.pointer (some ⟨mb, 6, none⟩)) rfl (by kernel_rfl) hH0 rfl (fun w0 hSw => ?_) ?_
 ·(unfold pu3o_3; clear hSw; go_simp)
 simp only [pu3o_3, Act.put, sA, sB, sC]
 refine tk 4 pu3o_4 (.pointer (some ⟨mb, 7, none⟩)) rfl (by kernel_rfl) hH0 rfl (fun w0 hSw => ?_) ?_
 ·(unfold pu3o_4; clear hSw; go_simp)
 simp only [pu3o_4, Act.put, sA, sB, sC]
 refine wpAnyH_ready (rs := [5, 7]) (by kernel_rfl) (by simp) ?_
 refine AllReadyH.cons (o := pu3o_5) rfl (fun K hK => ?_) (AllReadyH.cons (o := pu3o_7) rfl (fun K hK => ?_) AllReadyH.nil)
 ·unfold pu3o_5
  have HH := hidden hH0
  clear hH0
  refine wp_loadFR _ rfl mb 7 nn cv Pv rfl (cell_of_row _ mb 7 _ 41 (0, 0) HM.out |>.trans HF.out) ?_
  simp only [Act.put, sA, sB, sC]
  have SN := HH
  clear HH
  refine hK.out _ _ SN.out (fun hH1 => ?_)
  clear hK K SN
  refine wpAnyH_ready (rs := [7]) (by kernel_rfl) (by simp) ?_
  refine AllReadyH.cons (o := pu3o_7) rfl (fun K hK => ?_) AllReadyH.nil
  unfold pu3o_7
  have HH := hidden hH1
  clear hH1
  refine wp_buildFR _ rfl p rfl (fun tb wn2 htb hwq => ?_)
  have SN := hidden ((by rw [hwq]; exact HH.out.bel (bl_alloc _ _) : Fy mb (.slice Pv nn cv) mb W wn2))
  replace HM := hidden ((by rw [hwq]; exact ((bl_alloc _ _).block _ (Array.getElem?_eq_some_iff.1 HM.out).1).trans HM.out : wn2.heap[mb]? = some (.cells arr 41 (0, 0))))
  replace OW := hidden ((by rw [hwq]; exact own_keepT OW.out (bl_alloc _ _) : wn2.ownsRow base 62 4 (.slice Pv nn cv) nn xs))
  have CN := hidden ((by rw [hwq, htb]; exact cells_newT _ [.int .u64 p.x0, .int .u64 p.x1, .int .u64 p.x2, .int .u64 p.x3] _ : ∀ j u, ([.int .u64 p.x0, .int .u64 p.x1, .int .u64 p.x2, .int .u64 p.x3] : List Value)[j]? = some u → World.cell? wn2 ((⟨tb, 0, none⟩ : Addr).add j) = some u))
  clear HH htb hwq
  simp only [Act.put, sA, sB, sC]
  refine hK.out _ _ SN.out (fun hH2 => ?_)
  clear hK K SN
  refine wpAnyH_ready (rs := [8]) (by kernel_rfl) (by simp) ?_
  refine AllReadyH.cons (o := pu3o_8) rfl (fun K hK => ?_) AllReadyH.nil
  unfold pu3o_8
  have HH := hidden hH2
  clear hH2
  refine wp_appFR _ _ rfl base (.slice Pv nn cv) nn xs rfl OW.out tb [.int .u64 p.x0, .int .u64 p.x1, .int .u64 p.x2, .int .u64 p.x3] rfl rfl CN.out (four_any p) NN.out (Nat.le_trans BS.out HH.out.size) (fun P4 c4 wn3 hO hG hW => ?_)
  have NW := hidden (fun k hk => (hW k hk).imp_right (Nat.le_trans HH.out.size) : ∀ k, (Value.slice P4 (nn + 1) c4).ownBlock = some k → (Value.slice Pv nn cv).ownBlock = some k ∨ W.heap.size ≤ k)
  replace HM := hidden (blk_gr HM.out OW.out (by decide) hG)
  have SN := hidden (HH.out.row hG)
  have O4 := hidden (hO)
  clear HH hO hG hW CN OW
  simp only [Act.put, sA, sB, sC]
  refine hK.out _ _ SN.out (fun hH3 => ?_)
  clear hK K SN
  refine tk 9 pu3o_9 (.pointer (some ⟨mb, 0, none⟩)) rfl (by kernel_rfl) hH3 rfl (fun w0 hSw => ?_) ?_
  ·(unfold pu3o_9; clear hSw; go_simp)
  simp only [pu3o_9, Act.put, sA, sB, sC]
  refine tk 10 pu3o_10 (.pointer (some ⟨mb, 6, none⟩)) rfl (by kernel_rfl) hH3 rfl (fun w0 hSw => ?_) ?_
  ·(unfold pu3o_10; clear hSw; go_simp)
  simp only [pu3o_10, Act.put, sA, sB, sC]
  refine tk 11 pu3o_11 (.pointer (some ⟨mb, 7, none⟩)) rfl (by kernel_rfl) hH3 rfl (fun w0 hSw => ?_) ?_
  ·(unfold pu3o_11; clear hSw; go_simp)
  simp only [pu3o_11, Act.put, sA, sB, sC]
  refine wpAnyH_ready (rs := [12]) (by kernel_rfl) (by simp) ?_
  refine AllReadyH.cons (o := pu3o_12) rfl (fun K hK => ?_) AllReadyH.nil
  unfold pu3o_12
  have HH := hidden hH3
  clear hH3
  refine wp_storeV 37 _ _ rfl mb 7 P4 (nn + 1) c4 (by rfl) (by rfl) (th1 HM.out HF.out) i1_FR rfl (fun wn4 hw => ?_)
  have SN := hidden (HH.out.sys (gb_setCells mb [.slice P4 (nn + 1) c4] 7 _))
  have FE := hidden (putfin hw HM.out O4.out (by decide))
  rw [← hw] at SN
  clear HH hw
  refine hK.out _ _ SN.out (fun hH4 => ?_)
  clear hK K SN
  have HH := hidden hH4
  have FQ := hidden (HQ.out _ P4 c4 tb HH.out FE.out NW.out)
  refine wpAnyH_done (by kernel_rfl) ?_ _
  refine NoPanic.normal ?_
  exact FQ.out
 ·unfold pu3o_7
  have HH := hidden hH0
  clear hH0
  refine wp_buildFR _ rfl p rfl (fun tb wn1 htb hwq => ?_)
  have SN := hidden ((by rw [hwq]; exact HH.out.bel (bl_alloc _ _) : Fy mb (.slice Pv nn cv) mb W wn1))
  replace HM := hidden ((by rw [hwq]; exact ((bl_alloc _ _).block _ (Array.getElem?_eq_some_iff.1 HM.out).1).trans HM.out : wn1.heap[mb]? = some (.cells arr 41 (0, 0))))
  replace OW := hidden ((by rw [hwq]; exact own_keepT OW.out (bl_alloc _ _) : wn1.ownsRow base 62 4 (.slice Pv nn cv) nn xs))
  have CN := hidden ((by rw [hwq, htb]; exact cells_newT _ [.int .u64 p.x0, .int .u64 p.x1, .int .u64 p.x2, .int .u64 p.x3] _ : ∀ j u, ([.int .u64 p.x0, .int .u64 p.x1, .int .u64 p.x2, .int .u64 p.x3] : List Value)[j]? = some u → World.cell? wn1 ((⟨tb, 0, none⟩ : Addr).add j) = some u))
  clear HH htb hwq
  simp only [Act.put, sA, sB, sC]
  refine hK.out _ _ SN.out (fun hH1 => ?_)
  clear hK K SN
  refine wpAnyH_ready (rs := [5]) (by kernel_rfl) (by simp) ?_
  refine AllReadyH.cons (o := pu3o_5) rfl (fun K hK => ?_) AllReadyH.nil
  unfold pu3o_5
  have HH := hidden hH1
  clear hH1
  refine wp_loadFR _ rfl mb 7 nn cv Pv rfl (cell_of_row _ mb 7 _ 41 (0, 0) HM.out |>.trans HF.out) ?_
  simp only [Act.put, sA, sB, sC]
  have SN := HH
  clear HH
  refine hK.out _ _ SN.out (fun hH2 => ?_)
  clear hK K SN
  refine wpAnyH_ready (rs := [8]) (by kernel_rfl) (by simp) ?_
  refine AllReadyH.cons (o := pu3o_8) rfl (fun K hK => ?_) AllReadyH.nil
  unfold pu3o_8
  have HH := hidden hH2
  clear hH2
  refine wp_appFR _ _ rfl base (.slice Pv nn cv) nn xs rfl OW.out tb [.int .u64 p.x0, .int .u64 p.x1, .int .u64 p.x2, .int .u64 p.x3] rfl rfl CN.out (four_any p) NN.out (Nat.le_trans BS.out HH.out.size) (fun P4 c4 wn3 hO hG hW => ?_)
  have NW := hidden (fun k hk => (hW k hk).imp_right (Nat.le_trans HH.out.size) : ∀ k, (Value.slice P4 (nn + 1) c4).ownBlock = some k → (Value.slice Pv nn cv).ownBlock = some k ∨ W.heap.size ≤ k)
  replace HM := hidden (blk_gr HM.out OW.out (by decide) hG)
  have SN := hidden (HH.out.row hG)
  have O4 := hidden (hO)
  clear HH hO hG hW CN OW
  simp only [Act.put, sA, sB, sC]
  refine hK.out _ _ SN.out (fun hH3 => ?_)
  clear hK K SN
  refine tk 9 pu3o_9 (.pointer (some ⟨mb, 0, none⟩)) rfl (by kernel_rfl) hH3 rfl (fun w0 hSw => ?_) ?_
  ·(unfold pu3o_9; clear hSw; go_simp)
  simp only [pu3o_9, Act.put, sA, sB, sC]
  refine tk 10 pu3o_10 (.pointer (some ⟨mb, 6, none⟩)) rfl (by kernel_rfl) hH3 rfl (fun w0 hSw => ?_) ?_
  ·(unfold pu3o_10; clear hSw; go_simp)
  simp only [pu3o_10, Act.put, sA, sB, sC]
  refine tk 11 pu3o_11 (.pointer (some ⟨mb, 7, none⟩)) rfl (by kernel_rfl) hH3 rfl (fun w0 hSw => ?_) ?_
  ·(unfold pu3o_11; clear hSw; go_simp)
  simp only [pu3o_11, Act.put, sA, sB, sC]
  refine wpAnyH_ready (rs := [12]) (by kernel_rfl) (by simp) ?_
  refine AllReadyH.cons (o := pu3o_12) rfl (fun K hK => ?_) AllReadyH.nil
  unfold pu3o_12
  have HH := hidden hH3
  clear hH3
  refine wp_storeV 37 _ _ rfl mb 7 P4 (nn + 1) c4 (by rfl) (by rfl) (th1 HM.out HF.out) i1_FR rfl (fun wn4 hw => ?_)
  have SN := hidden (HH.out.sys (gb_setCells mb [.slice P4 (nn + 1) c4] 7 _))
  have FE := hidden (putfin hw HM.out O4.out (by decide))
  rw [← hw] at SN
  clear HH hw
  refine hK.out _ _ SN.out (fun hH4 => ?_)
  clear hK K SN
  have HH := hidden hH4
  have FQ := hidden (HQ.out _ P4 c4 tb HH.out FE.out NW.out)
  refine wpAnyH_done (by kernel_rfl) ?_ _
  refine NoPanic.normal ?_
  exact FQ.out
def pu4o_0 : Oper := { dst := some 34, op := Op.move (Operand.tmp 0), type := 104, pos := "law.go:83", after := #[], guard := none }
def pu4o_1 : Oper := { dst := some 35, op := Op.move (Operand.tmp 0), type := 104, pos := "law.go:83", after := #[], guard := none }
def pu4o_2 : Oper := { dst := some 36, op := Op.nilCheck (Operand.tmp 35), type := 0, pos := "law.go:83", after := #[{ on := 1, ground := Ground.data }], guard := none }
def pu4o_3 : Oper := { dst := some 37, op := Op.fieldAddr 41 (Operand.tmp 36) 3, type := 0, pos := "law.go:83", after := #[{ on := 2, ground := Ground.data }], guard := none }
def pu4o_4 : Oper := { dst := some 38, op := Op.fieldAddr 39 (Operand.tmp 37) 2, type := 0, pos := "law.go:83", after := #[{ on := 3, ground := Ground.data }], guard := none }
def pu4o_5 : Oper := { dst := some 39, op := Op.load 37 (Operand.tmp 38), type := 37, pos := "law.go:83", after := #[{ on := 4, ground := Ground.data }], guard := none }
def pu4o_6 : Oper := { dst := some 40, op := Op.load 62 (Operand.tmp 6), type := 62, pos := "law.go:83", after := #[], guard := none }
def pu4o_7 : Oper := { dst := some 41, op := Op.buildSlice 37 1 #[(0, Operand.tmp 40)], type := 37, pos := "law.go:83", after := #[{ on := 6, ground := Ground.data }], guard := none }
def pu4o_8 : Oper := { dst := some 42, op := Op.call { callee := Callee.builtin Builtin.append, args := #[Operand.tmp 39, Operand.tmp 41], argTypes := #[37, 37] }, type := 37, pos := "law.go:83", after := #[{ on := 5, ground := Ground.data }, { on := 7, ground := Ground.data }], guard := none }
def pu4o_9 : Oper := { dst := some 43, op := Op.nilCheck (Operand.tmp 34), type := 0, pos := "law.go:83", after := #[{ on := 0, ground := Ground.data }, { on := 0, ground := Ground.phase }, { on := 1, ground := Ground.phase }, { on := 2, ground := Ground.phase }, { on := 3, ground := Ground.phase }, { on := 4, ground := Ground.phase }, { on := 5, ground := Ground.phase }, { on := 6, ground := Ground.phase }, { on := 7, ground := Ground.phase }, { on := 8, ground := Ground.phase }], guard := none }
def pu4o_10 : Oper := { dst := some 44, op := Op.fieldAddr 41 (Operand.tmp 43) 3, type := 0, pos := "law.go:83", after := #[{ on := 9, ground := Ground.data }, { on := 0, ground := Ground.phase }, { on := 1, ground := Ground.phase }, { on := 2, ground := Ground.phase }, { on := 3, ground := Ground.phase }, { on := 4, ground := Ground.phase }, { on := 5, ground := Ground.phase }, { on := 6, ground := Ground.phase }, { on := 7, ground := Ground.phase }, { on := 8, ground := Ground.phase }], guard := none }
def pu4o_11 : Oper := { dst := some 45, op := Op.fieldAddr 39 (Operand.tmp 44) 2, type := 0, pos := "law.go:83", after := #[{ on := 10, ground := Ground.data }, { on := 0, ground := Ground.phase }, { on := 1, ground := Ground.phase }, { on := 2, ground := Ground.phase }, { on := 3, ground := Ground.phase }, { on := 4, ground := Ground.phase }, { on := 5, ground := Ground.phase }, { on := 6, ground := Ground.phase }, { on := 7, ground := Ground.phase }, { on := 8, ground := Ground.phase }], guard := none }
def pu4o_12 : Oper := { dst := none, op := Op.store 37 (Operand.tmp 45) (Operand.tmp 42), type := 0, pos := "law.go:83", after := #[{ on := 11, ground := Ground.data }, { on := 8, ground := Ground.data }, { on := 8, ground := Ground.chain }, { on := 0, ground := Ground.phase }, { on := 1, ground := Ground.phase }, { on := 2, ground := Ground.phase }, { on := 3, ground := Ground.phase }, { on := 4, ground := Ground.phase }, { on := 5, ground := Ground.phase }, { on := 6, ground := Ground.phase }, { on := 7, ground := Ground.phase }, { on := 8, ground := Ground.phase }], guard := none }
def pu4o : Array Oper := #[pu4o_0, pu4o_1, pu4o_2, pu4o_3, pu4o_4, pu4o_5, pu4o_6, pu4o_7, pu4o_8, pu4o_9, pu4o_10, pu4o_11, pu4o_12]
set_option maxRecDepth 100000 in
set_option maxHeartbeats 16000000 in
theorem pu4 (Q : Exit → Act → World → Prop) (mb B base nn cv : Nat) (Pv : Option Addr) (arr : Array Value) (p : E4) (xs : List Value) (u1 u2 u3 u4 u5 u7 u8 u9 u10 u11 u12 u13 u14 u15 u16 u17 u18 u19 u20 u21 u22 u23 u24 u25 u26 u27 u28 u29 u30 u31 u32 u33 u34 u35 u36 u37 u38 u39 u40 u41 u42 u43 u44 u45 u46 u47 u48 u49 u50 u51 u52 u53 u54 u55 u56 u57 u58 u59 u60 u61 u62 u63 u64 u65 u66 u67 u68 u69 u70 u71 u72 u73 u74 u75 u76 u77 u78 u79 u80 u81 : Value) (W : World)
  (nb : B ≠ mb) (nv : (Value.slice Pv nn cv).ownBlock ≠ some B) (a0 : W.cell? ⟨B, 0, none⟩ = some (.int .u64 p.x0)) (a1 : W.cell? ⟨B, 1, none⟩ = some (.int .u64 p.x1)) (a2 : W.cell? ⟨B, 2, none⟩ = some (.int .u64 p.x2)) (a3 : W.cell? ⟨B, 3, none⟩ = some (.int .u64 p.x3))
  (hm : W.heap[mb]? = some (.cells arr 41 (0, 0))) (HF : Hid (arr[8]? = some (.slice Pv nn cv))) (ow : W.ownsRow base 62 4 (.slice Pv nn cv) nn xs) (NN : Hid (nn ≤ 1048576)) (BS : Hid (base ≤ W.heap.size))
  (HQ : Hid (∀ (wz : World) (P4 : Option Addr) (c4 tb : Nat), Fy mb (.slice Pv nn cv) mb W wz → (wz.heap[mb]? = some (.cells (arr.setIfInBounds 8 (.slice P4 (nn + 1) c4)) 41 (0, 0)) ∧ wz.ownsRow base 62 4 (.slice P4 (nn + 1) c4) (nn + 1) (xs ++ [.int .u64 p.x0, .int .u64 p.x1, .int .u64 p.x2, .int .u64 p.x3])) → (∀ k, (Value.slice P4 (nn + 1) c4).ownBlock = some k → (Value.slice Pv nn cv).ownBlock = some k ∨ W.heap.size ≤ k) → Q .normal ⟨#[.pointer (some ⟨mb, 0, none⟩), u1, u2, u3, u4, u5, .pointer (some ⟨B, 0, none⟩), u7, u8, u9, u10, u11, u12, u13, u14, u15, u16, u17, u18, u19, u20, u21, u22, u23, u24, u25, u26, u27, u28, u29, u30, u31, u32, u33, .pointer (some ⟨mb, 0, none⟩), .pointer (some ⟨mb, 0, none⟩), .pointer (some ⟨mb, 0, none⟩), .pointer (some ⟨mb, 6, none⟩), .pointer (some ⟨mb, 8, none⟩), .slice Pv nn cv, .agg #[.int .u64 p.x0, .int .u64 p.x1, .int .u64 p.x2, .int .u64 p.x3], .slice (some ⟨tb, 0, none⟩) 1 1, .slice P4 (nn + 1) c4, .pointer (some ⟨mb, 0, none⟩), .pointer (some ⟨mb, 6, none⟩), .pointer (some ⟨mb, 8, none⟩), u46, u47, u48, u49, u50, u51, u52, u53, u54, u55, u56, u57, u58, u59, u60, u61, u62, u63, u64, u65, u66, u67, u68, u69, u70, u71, u72, u73, u74, u75, u76, u77, u78, u79, u80, u81], []⟩ wz)) : (Code.region 4 pu4o true).wp Tryz.prog Q ⟨#[.pointer (some ⟨mb, 0, none⟩), u1, u2, u3, u4, u5, .pointer (some ⟨B, 0, none⟩), u7, u8, u9, u10, u11, u12, u13, u14, u15, u16, u17, u18, u19, u20, u21, u22, u23, u24, u25, u26, u27, u28, u29, u30, u31, u32, u33, u34, u35, u36, u37, u38, u39, u40, u41, u42, u43, u44, u45, u46, u47, u48, u49, u50, u51, u52, u53, u54, u55, u56, u57, u58, u59, u60, u61, u62, u63, u64, u65, u66, u67, u68, u69, u70, u71, u72, u73, u74, u75, u76, u77, u78, u79, u80, u81], []⟩ W := by
 have HM := hidden (((bl_drew W).block mb (Array.getElem?_eq_some_iff.1 hm).1).trans hm)
 have OW := hidden (own_keepT ow (bl_drew W))
 clear hm ow
 unfold pu4o
 refine wp_region_noPanic ?_
 refine wp_region_held_drew (S := fun x => Fy mb (.slice Pv nn cv) mb W x) (by kernel_rfl) (Fy.drew0 W) (fun hH0 => ?_)
 refine tk 0 pu4o_0 (.pointer (some ⟨mb, 0, none⟩)) rfl (by kernel_rfl) hH0 rfl (fun w0 hSw => ?_) ?_
 ·(unfold pu4o_0; clear hSw; go_simp)
 simp only [pu4o_0, Act.put, sA, sB, sC]
 refine tk 1 pu4o_1 (.pointer (some ⟨mb, 0, none⟩)) rfl (by kernel_rfl) hH0 rfl (fun w0 hSw => ?_) ?_
 ·(unfold pu4o_1; clear hSw; go_simp)
 simp only [pu4o_1, Act.put, sA, sB, sC]
 refine tk 6 pu4o_6 (.agg #[.int .u64 p.x0, .int .u64 p.x1, .int .u64 p.x2, .int .u64 p.x3]) rfl (by kernel_rfl) hH0 rfl (fun w0 hSw => ?_) ?_
 ·(unfold pu4o_6; have hS : Fy mb (.slice Pv nn cv) mb W w0 := hSw; have a0 := hS.cl a0 nb nv nb; have a1 := hS.cl a1 nb nv nb; have a2 := hS.cl a2 nb nv nb; have a3 := hS.cl a3 nb nv nb; clear hS hSw; go_simp)
 simp only [pu4o_6, Act.put, sA, sB, sC]
 refine tk 2 pu4o_2 (.pointer (some ⟨mb, 0, none⟩)) rfl (by kernel_rfl) hH0 rfl (fun w0 hSw => ?_) ?_
 ·(unfold pu4o_2; clear hSw; go_simp)
 simp only [pu4o_2, Act.put, sA, sB, sC]
 refine tk 3 pu4o_3 (.pointer (some ⟨mb, 6, none⟩)) rfl (by kernel_rfl) hH0 rfl (fun w0 hSw => ?_) ?_
 ·(unfold pu4o_3; clear hSw; go_simp)
 simp only [pu4o_3, Act.put, sA, sB, sC]
 refine tk 4 pu4o_4 (.pointer (some ⟨mb, 8, none⟩)) rfl (by kernel_rfl) hH0 rfl (fun w0 hSw => ?_) ?_
 ·(unfold pu4o_4; clear hSw; go_simp)
 simp only [pu4o_4, Act.put, sA, sB, sC]
 refine wpAnyH_ready (rs := [5, 7]) (by kernel_rfl) (by simp) ?_
 refine AllReadyH.cons (o := pu4o_5) rfl (fun K hK => ?_) (AllReadyH.cons (o := pu4o_7) rfl (fun K hK => ?_) AllReadyH.nil)
 ·unfold pu4o_5
  have HH := hidden hH0
  clear hH0
  refine wp_loadFR _ rfl mb 8 nn cv Pv rfl (cell_of_row _ mb 8 _ 41 (0, 0) HM.out |>.trans HF.out) ?_
  simp only [Act.put, sA, sB, sC]
  have SN := HH
  clear HH
  refine hK.out _ _ SN.out (fun hH1 => ?_)
  clear hK K SN
  refine wpAnyH_ready (rs := [7]) (by kernel_rfl) (by simp) ?_
  refine AllReadyH.cons (o := pu4o_7) rfl (fun K hK => ?_) AllReadyH.nil
  unfold pu4o_7
  have HH := hidden hH1
  clear hH1
  refine wp_buildFR _ rfl p rfl (fun tb wn2 htb hwq => ?_)
  have SN := hidden ((by rw [hwq]; exact HH.out.bel (bl_alloc _ _) : Fy mb (.slice Pv nn cv) mb W wn2))
  replace HM := hidden ((by rw [hwq]; exact ((bl_alloc _ _).block _ (Array.getElem?_eq_some_iff.1 HM.out).1).trans HM.out : wn2.heap[mb]? = some (.cells arr 41 (0, 0))))
  replace OW := hidden ((by rw [hwq]; exact own_keepT OW.out (bl_alloc _ _) : wn2.ownsRow base 62 4 (.slice Pv nn cv) nn xs))
  have CN := hidden ((by rw [hwq, htb]; exact cells_newT _ [.int .u64 p.x0, .int .u64 p.x1, .int .u64 p.x2, .int .u64 p.x3] _ : ∀ j u, ([.int .u64 p.x0, .int .u64 p.x1, .int .u64 p.x2, .int .u64 p.x3] : List Value)[j]? = some u → World.cell? wn2 ((⟨tb, 0, none⟩ : Addr).add j) = some u))
  clear HH htb hwq
  simp only [Act.put, sA, sB, sC]
  refine hK.out _ _ SN.out (fun hH2 => ?_)
  clear hK K SN
  refine wpAnyH_ready (rs := [8]) (by kernel_rfl) (by simp) ?_
  refine AllReadyH.cons (o := pu4o_8) rfl (fun K hK => ?_) AllReadyH.nil
  unfold pu4o_8
  have HH := hidden hH2
  clear hH2
  refine wp_appFR _ _ rfl base (.slice Pv nn cv) nn xs rfl OW.out tb [.int .u64 p.x0, .int .u64 p.x1, .int .u64 p.x2, .int .u64 p.x3] rfl rfl CN.out (four_any p) NN.out (Nat.le_trans BS.out HH.out.size) (fun P4 c4 wn3 hO hG hW => ?_)
  have NW := hidden (fun k hk => (hW k hk).imp_right (Nat.le_trans HH.out.size) : ∀ k, (Value.slice P4 (nn + 1) c4).ownBlock = some k → (Value.slice Pv nn cv).ownBlock = some k ∨ W.heap.size ≤ k)
  replace HM := hidden (blk_gr HM.out OW.out (by decide) hG)
  have SN := hidden (HH.out.row hG)
  have O4 := hidden (hO)
  clear HH hO hG hW CN OW
  simp only [Act.put, sA, sB, sC]
  refine hK.out _ _ SN.out (fun hH3 => ?_)
  clear hK K SN
  refine tk 9 pu4o_9 (.pointer (some ⟨mb, 0, none⟩)) rfl (by kernel_rfl) hH3 rfl (fun w0 hSw => ?_) ?_
  ·(unfold pu4o_9; clear hSw; go_simp)
  simp only [pu4o_9, Act.put, sA, sB, sC]
  refine tk 10 pu4o_10 (.pointer (some ⟨mb, 6, none⟩)) rfl (by kernel_rfl) hH3 rfl (fun w0 hSw => ?_) ?_
  ·(unfold pu4o_10; clear hSw; go_simp)
  simp only [pu4o_10, Act.put, sA, sB, sC]
  refine tk 11 pu4o_11 (.pointer (some ⟨mb, 8, none⟩)) rfl (by kernel_rfl) hH3 rfl (fun w0 hSw => ?_) ?_
  ·(unfold pu4o_11; clear hSw; go_simp)
  simp only [pu4o_11, Act.put, sA, sB, sC]
  refine wpAnyH_ready (rs := [12]) (by kernel_rfl) (by simp) ?_
  refine AllReadyH.cons (o := pu4o_12) rfl (fun K hK => ?_) AllReadyH.nil
  unfold pu4o_12
  have HH := hidden hH3
  clear hH3
  refine wp_storeV 37 _ _ rfl mb 8 P4 (nn + 1) c4 (by rfl) (by rfl) (th1 HM.out HF.out) i1_FR rfl (fun wn4 hw => ?_)
  have SN := hidden (HH.out.sys (gb_setCells mb [.slice P4 (nn + 1) c4] 8 _))
  have FE := hidden (putfin hw HM.out O4.out (by decide))
  rw [← hw] at SN
  clear HH hw
  refine hK.out _ _ SN.out (fun hH4 => ?_)
  clear hK K SN
  have HH := hidden hH4
  have FQ := hidden (HQ.out _ P4 c4 tb HH.out FE.out NW.out)
  refine wpAnyH_done (by kernel_rfl) ?_ _
  refine NoPanic.normal ?_
  exact FQ.out
 ·unfold pu4o_7
  have HH := hidden hH0
  clear hH0
  refine wp_buildFR _ rfl p rfl (fun tb wn1 htb hwq => ?_)
  have SN := hidden ((by rw [hwq]; exact HH.out.bel (bl_alloc _ _) : Fy mb (.slice Pv nn cv) mb W wn1))
  replace HM := hidden ((by rw [hwq]; exact ((bl_alloc _ _).block _ (Array.getElem?_eq_some_iff.1 HM.out).1).trans HM.out : wn1.heap[mb]? = some (.cells arr 41 (0, 0))))
  replace OW := hidden ((by rw [hwq]; exact own_keepT OW.out (bl_alloc _ _) : wn1.ownsRow base 62 4 (.slice Pv nn cv) nn xs))
  have CN := hidden ((by rw [hwq, htb]; exact cells_newT _ [.int .u64 p.x0, .int .u64 p.x1, .int .u64 p.x2, .int .u64 p.x3] _ : ∀ j u, ([.int .u64 p.x0, .int .u64 p.x1, .int .u64 p.x2, .int .u64 p.x3] : List Value)[j]? = some u → World.cell? wn1 ((⟨tb, 0, none⟩ : Addr).add j) = some u))
  clear HH htb hwq
  simp only [Act.put, sA, sB, sC]
  refine hK.out _ _ SN.out (fun hH1 => ?_)
  clear hK K SN
  refine wpAnyH_ready (rs := [5]) (by kernel_rfl) (by simp) ?_
  refine AllReadyH.cons (o := pu4o_5) rfl (fun K hK => ?_) AllReadyH.nil
  unfold pu4o_5
  have HH := hidden hH1
  clear hH1
  refine wp_loadFR _ rfl mb 8 nn cv Pv rfl (cell_of_row _ mb 8 _ 41 (0, 0) HM.out |>.trans HF.out) ?_
  simp only [Act.put, sA, sB, sC]
  have SN := HH
  clear HH
  refine hK.out _ _ SN.out (fun hH2 => ?_)
  clear hK K SN
  refine wpAnyH_ready (rs := [8]) (by kernel_rfl) (by simp) ?_
  refine AllReadyH.cons (o := pu4o_8) rfl (fun K hK => ?_) AllReadyH.nil
  unfold pu4o_8
  have HH := hidden hH2
  clear hH2
  refine wp_appFR _ _ rfl base (.slice Pv nn cv) nn xs rfl OW.out tb [.int .u64 p.x0, .int .u64 p.x1, .int .u64 p.x2, .int .u64 p.x3] rfl rfl CN.out (four_any p) NN.out (Nat.le_trans BS.out HH.out.size) (fun P4 c4 wn3 hO hG hW => ?_)
  have NW := hidden (fun k hk => (hW k hk).imp_right (Nat.le_trans HH.out.size) : ∀ k, (Value.slice P4 (nn + 1) c4).ownBlock = some k → (Value.slice Pv nn cv).ownBlock = some k ∨ W.heap.size ≤ k)
  replace HM := hidden (blk_gr HM.out OW.out (by decide) hG)
  have SN := hidden (HH.out.row hG)
  have O4 := hidden (hO)
  clear HH hO hG hW CN OW
  simp only [Act.put, sA, sB, sC]
  refine hK.out _ _ SN.out (fun hH3 => ?_)
  clear hK K SN
  refine tk 9 pu4o_9 (.pointer (some ⟨mb, 0, none⟩)) rfl (by kernel_rfl) hH3 rfl (fun w0 hSw => ?_) ?_
  ·(unfold pu4o_9; clear hSw; go_simp)
  simp only [pu4o_9, Act.put, sA, sB, sC]
  refine tk 10 pu4o_10 (.pointer (some ⟨mb, 6, none⟩)) rfl (by kernel_rfl) hH3 rfl (fun w0 hSw => ?_) ?_
  ·(unfold pu4o_10; clear hSw; go_simp)
  simp only [pu4o_10, Act.put, sA, sB, sC]
  refine tk 11 pu4o_11 (.pointer (some ⟨mb, 8, none⟩)) rfl (by kernel_rfl) hH3 rfl (fun w0 hSw => ?_) ?_
  ·(unfold pu4o_11; clear hSw; go_simp)
  simp only [pu4o_11, Act.put, sA, sB, sC]
  refine wpAnyH_ready (rs := [12]) (by kernel_rfl) (by simp) ?_
  refine AllReadyH.cons (o := pu4o_12) rfl (fun K hK => ?_) AllReadyH.nil
  unfold pu4o_12
  have HH := hidden hH3
  clear hH3
  refine wp_storeV 37 _ _ rfl mb 8 P4 (nn + 1) c4 (by rfl) (by rfl) (th1 HM.out HF.out) i1_FR rfl (fun wn4 hw => ?_)
  have SN := hidden (HH.out.sys (gb_setCells mb [.slice P4 (nn + 1) c4] 8 _))
  have FE := hidden (putfin hw HM.out O4.out (by decide))
  rw [← hw] at SN
  clear HH hw
  refine hK.out _ _ SN.out (fun hH4 => ?_)
  clear hK K SN
  have HH := hidden hH4
  have FQ := hidden (HQ.out _ P4 c4 tb HH.out FE.out NW.out)
  refine wpAnyH_done (by kernel_rfl) ?_ _
  refine NoPanic.normal ?_
  exact FQ.out
def pu5o_0 : Oper := { dst := some 46, op := Op.move (Operand.tmp 0), type := 104, pos := "law.go:84", after := #[], guard := none }
def pu5o_1 : Oper := { dst := some 47, op := Op.move (Operand.tmp 0), type := 104, pos := "law.go:84", after := #[], guard := none }
def pu5o_2 : Oper := { dst := some 48, op := Op.nilCheck (Operand.tmp 47), type := 0, pos := "law.go:84", after := #[{ on := 1, ground := Ground.data }], guard := none }
def pu5o_3 : Oper := { dst := some 49, op := Op.fieldAddr 41 (Operand.tmp 48) 2, type := 0, pos := "law.go:84", after := #[{ on := 2, ground := Ground.data }], guard := none }
def pu5o_4 : Oper := { dst := some 50, op := Op.fieldAddr 36 (Operand.tmp 49) 0, type := 0, pos := "law.go:84", after := #[{ on := 3, ground := Ground.data }], guard := none }
def pu5o_5 : Oper := { dst := some 51, op := Op.load 34 (Operand.tmp 50), type := 34, pos := "law.go:84", after := #[{ on := 4, ground := Ground.data }], guard := none }
def pu5o_6 : Oper := { dst := some 52, op := Op.load 62 (Operand.tmp 4), type := 62, pos := "law.go:84", after := #[], guard := none }
def pu5o_7 : Oper := { dst := some 53, op := Op.buildSlice 34 1 #[(0, Operand.tmp 52)], type := 34, pos := "law.go:84", after := #[{ on := 6, ground := Ground.data }], guard := none }
def pu5o_8 : Oper := { dst := some 54, op := Op.call { callee := Callee.builtin Builtin.append, args := #[Operand.tmp 51, Operand.tmp 53], argTypes := #[34, 34] }, type := 34, pos := "law.go:84", after := #[{ on := 5, ground := Ground.data }, { on := 7, ground := Ground.data }], guard := none }
def pu5o_9 : Oper := { dst := some 55, op := Op.nilCheck (Operand.tmp 46), type := 0, pos := "law.go:84", after := #[{ on := 0, ground := Ground.data }, { on := 0, ground := Ground.phase }, { on := 1, ground := Ground.phase }, { on := 2, ground := Ground.phase }, { on := 3, ground := Ground.phase }, { on := 4, ground := Ground.phase }, { on := 5, ground := Ground.phase }, { on := 6, ground := Ground.phase }, { on := 7, ground := Ground.phase }, { on := 8, ground := Ground.phase }], guard := none }
def pu5o_10 : Oper := { dst := some 56, op := Op.fieldAddr 41 (Operand.tmp 55) 2, type := 0, pos := "law.go:84", after := #[{ on := 9, ground := Ground.data }, { on := 0, ground := Ground.phase }, { on := 1, ground := Ground.phase }, { on := 2, ground := Ground.phase }, { on := 3, ground := Ground.phase }, { on := 4, ground := Ground.phase }, { on := 5, ground := Ground.phase }, { on := 6, ground := Ground.phase }, { on := 7, ground := Ground.phase }, { on := 8, ground := Ground.phase }], guard := none }
def pu5o_11 : Oper := { dst := some 57, op := Op.fieldAddr 36 (Operand.tmp 56) 0, type := 0, pos := "law.go:84", after := #[{ on := 10, ground := Ground.data }, { on := 0, ground := Ground.phase }, { on := 1, ground := Ground.phase }, { on := 2, ground := Ground.phase }, { on := 3, ground := Ground.phase }, { on := 4, ground := Ground.phase }, { on := 5, ground := Ground.phase }, { on := 6, ground := Ground.phase }, { on := 7, ground := Ground.phase }, { on := 8, ground := Ground.phase }], guard := none }
def pu5o_12 : Oper := { dst := none, op := Op.store 34 (Operand.tmp 57) (Operand.tmp 54), type := 0, pos := "law.go:84", after := #[{ on := 11, ground := Ground.data }, { on := 8, ground := Ground.data }, { on := 8, ground := Ground.chain }, { on := 0, ground := Ground.phase }, { on := 1, ground := Ground.phase }, { on := 2, ground := Ground.phase }, { on := 3, ground := Ground.phase }, { on := 4, ground := Ground.phase }, { on := 5, ground := Ground.phase }, { on := 6, ground := Ground.phase }, { on := 7, ground := Ground.phase }, { on := 8, ground := Ground.phase }], guard := none }
def pu5o : Array Oper := #[pu5o_0, pu5o_1, pu5o_2, pu5o_3, pu5o_4, pu5o_5, pu5o_6, pu5o_7, pu5o_8, pu5o_9, pu5o_10, pu5o_11, pu5o_12]
set_option maxRecDepth 100000 in
set_option maxHeartbeats 16000000 in
theorem pu5 (Q : Exit → Act → World → Prop) (mb B base nn cv : Nat) (Pv : Option Addr) (arr : Array Value) (p : E4) (xs : List Value) (u1 u2 u3 u5 u6 u7 u8 u9 u10 u11 u12 u13 u14 u15 u16 u17 u18 u19 u20 u21 u22 u23 u24 u25 u26 u27 u28 u29 u30 u31 u32 u33 u34 u35 u36 u37 u38 u39 u40 u41 u42 u43 u44 u45 u46 u47 u48 u49 u50 u51 u52 u53 u54 u55 u56 u57 u58 u59 u60 u61 u62 u63 u64 u65 u66 u67 u68 u69 u70 u71 u72 u73 u74 u75 u76 u77 u78 u79 u80 u81 : Value) (W : World)
  (nb : B ≠ mb) (nv : (Value.slice Pv nn cv).ownBlock ≠ some B) (a0 : W.cell? ⟨B, 0, none⟩ = some (.int .u64 p.x0)) (a1 : W.cell? ⟨B, 1, none⟩ = some (.int .u64 p.x1)) (a2 : W.cell? ⟨B, 2, none⟩ = some (.int .u64 p.x2)) (a3 : W.cell? ⟨B, 3, none⟩ = some (.int .u64 p.x3))
  (hm : W.heap[mb]? = some (.cells arr 41 (0, 0))) (HF : Hid (arr[2]? = some (.slice Pv nn cv))) (ow : W.ownsRow base 64 4 (.slice Pv nn cv) nn xs) (NN : Hid (nn ≤ 1048576)) (BS : Hid (base ≤ W.heap.size))
  (HQ : Hid (∀ (wz : World) (P4 : Option Addr) (c4 tb : Nat), Fy mb (.slice Pv nn cv) mb W wz → (wz.heap[mb]? = some (.cells (arr.setIfInBounds 2 (.slice P4 (nn + 1) c4)) 41 (0, 0)) ∧ wz.ownsRow base 64 4 (.slice P4 (nn + 1) c4) (nn + 1) (xs ++ [.int .u64 p.x0, .int .u64 p.x1, .int .u64 p.x2, .int .u64 p.x3])) → (∀ k, (Value.slice P4 (nn + 1) c4).ownBlock = some k → (Value.slice Pv nn cv).ownBlock = some k ∨ W.heap.size ≤ k) → Q .normal ⟨#[.pointer (some ⟨mb, 0, none⟩), u1, u2, u3, .pointer (some ⟨B, 0, none⟩), u5, u6, u7, u8, u9, u10, u11, u12, u13, u14, u15, u16, u17, u18, u19, u20, u21, u22, u23, u24, u25, u26, u27, u28, u29, u30, u31, u32, u33, u34, u35, u36, u37, u38, u39, u40, u41, u42, u43, u44, u45, .pointer (some ⟨mb, 0, none⟩), .pointer (some ⟨mb, 0, none⟩), .pointer (some ⟨mb, 0, none⟩), .pointer (some ⟨mb, 2, none⟩), .pointer (some ⟨mb, 2, none⟩), .slice Pv nn cv, .agg #[.int .u64 p.x0, .int .u64 p.x1, .int .u64 p.x2, .int .u64 p.x3], .slice (some ⟨tb, 0, none⟩) 1 1, .slice P4 (nn + 1) c4, .pointer (some ⟨mb, 0, none⟩), .pointer (some ⟨mb, 2, none⟩), .pointer (some ⟨mb, 2, none⟩), u58, u59, u60, u61, u62, u63, u64, u65, u66, u67, u68, u69, u70, u71, u72, u73, u74, u75, u76, u77, u78, u79, u80, u81], []⟩ wz)) : (Code.region 5 pu5o true).wp Tryz.prog Q ⟨#[.pointer (some ⟨mb, 0, none⟩), u1, u2, u3, .pointer (some ⟨B, 0, none⟩), u5, u6, u7, u8, u9, u10, u11, u12, u13, u14, u15, u16, u17, u18, u19, u20, u21, u22, u23, u24, u25, u26, u27, u28, u29, u30, u31, u32, u33, u34, u35, u36, u37, u38, u39, u40, u41, u42, u43, u44, u45, u46, u47, u48, u49, u50, u51, u52, u53, u54, u55, u56, u57, u58, u59, u60, u61, u62, u63, u64, u65, u66, u67, u68, u69, u70, u71, u72, u73, u74, u75, u76, u77, u78, u79, u80, u81], []⟩ W := by
 have HM := hidden (((bl_drew W).block mb (Array.getElem?_eq_some_iff.1 hm).1).trans hm)
 have OW := hidden (own_keepT ow (bl_drew W))
 clear hm ow
 unfold pu5o
 refine wp_region_noPanic ?_
 refine wp_region_held_drew (S := fun x => Fy mb (.slice Pv nn cv) mb W x) (by kernel_rfl) (Fy.drew0 W) (fun hH0 => ?_)
 refine tk 0 pu5o_0 (.pointer (some ⟨mb, 0, none⟩)) rfl (by kernel_rfl) hH0 rfl (fun w0 hSw => ?_) ?_
 ·(unfold pu5o_0; clear hSw; go_simp)
 simp only [pu5o_0, Act.put, sA, sB, sC]
 refine tk 1 pu5o_1 (.pointer (some ⟨mb, 0, none⟩)) rfl (by kernel_rfl) hH0 rfl (fun w0 hSw => ?_) ?_
 ·(unfold pu5o_1; clear hSw; go_simp)
 simp only [pu5o_1, Act.put, sA, sB, sC]
 refine tk 6 pu5o_6 (.agg #[.int .u64 p.x0, .int .u64 p.x1, .int .u64 p.x2, .int .u64 p.x3]) rfl (by kernel_rfl) hH0 rfl (fun w0 hSw => ?_) ?_
 ·(unfold pu5o_6; have hS : Fy mb (.slice Pv nn cv) mb W w0 := hSw; have a0 := hS.cl a0 nb nv nb; have a1 := hS.cl a1 nb nv nb; have a2 := hS.cl a2 nb nv nb; have a3 := hS.cl a3 nb nv nb; clear hS hSw; go_simp)
 simp only [pu5o_6, Act.put, sA, sB, sC]
 refine tk 2 pu5o_2 (.pointer (some ⟨mb, 0, none⟩)) rfl (by kernel_rfl) hH0 rfl (fun w0 hSw => ?_) ?_
 ·(unfold pu5o_2; clear hSw; go_simp)
 simp only [pu5o_2, Act.put, sA, sB, sC]
 refine tk 3 pu5o_3 (.pointer (some ⟨mb, 2, none⟩)) rfl (by kernel_rfl) hH0 rfl (fun w0 hSw => ?_) ?_
 ·(unfold pu5o_3; clear hSw; go_simp)
 simp only [pu5o_3, Act.put, sA, sB, sC]
 refine tk 4 pu5o_4 (.pointer (some ⟨mb, 2, none⟩)) rfl (by kernel_rfl) hH0 rfl (fun w0 hSw => ?_) ?_
 ·(unfold pu5o_4; clear hSw; go_simp)
 simp only [pu5o_4, Act.put, sA, sB, sC]
 refine wpAnyH_ready (rs := [5, 7]) (by kernel_rfl) (by simp) ?_
 refine AllReadyH.cons (o := pu5o_5) rfl (fun K hK => ?_) (AllReadyH.cons (o := pu5o_7) rfl (fun K hK => ?_) AllReadyH.nil)
 ·unfold pu5o_5
  have HH := hidden hH0
  clear hH0
  refine wp_loadFS _ rfl mb 2 nn cv Pv rfl (cell_of_row _ mb 2 _ 41 (0, 0) HM.out |>.trans HF.out) ?_
  simp only [Act.put, sA, sB, sC]
  have SN := HH
  clear HH
  refine hK.out _ _ SN.out (fun hH1 => ?_)
  clear hK K SN
  refine wpAnyH_ready (rs := [7]) (by kernel_rfl) (by simp) ?_
  refine AllReadyH.cons (o := pu5o_7) rfl (fun K hK => ?_) AllReadyH.nil
  unfold pu5o_7
  have HH := hidden hH1
  clear hH1
  refine wp_buildFS _ rfl p rfl (fun tb wn2 htb hwq => ?_)
  have SN := hidden ((by rw [hwq]; exact HH.out.bel (bl_alloc _ _) : Fy mb (.slice Pv nn cv) mb W wn2))
  replace HM := hidden ((by rw [hwq]; exact ((bl_alloc _ _).block _ (Array.getElem?_eq_some_iff.1 HM.out).1).trans HM.out : wn2.heap[mb]? = some (.cells arr 41 (0, 0))))
  replace OW := hidden ((by rw [hwq]; exact own_keepT OW.out (bl_alloc _ _) : wn2.ownsRow base 64 4 (.slice Pv nn cv) nn xs))
  have CN := hidden ((by rw [hwq, htb]; exact cells_newT _ [.int .u64 p.x0, .int .u64 p.x1, .int .u64 p.x2, .int .u64 p.x3] _ : ∀ j u, ([.int .u64 p.x0, .int .u64 p.x1, .int .u64 p.x2, .int .u64 p.x3] : List Value)[j]? = some u → World.cell? wn2 ((⟨tb, 0, none⟩ : Addr).add j) = some u))
  clear HH htb hwq
  simp only [Act.put, sA, sB, sC]
  refine hK.out _ _ SN.out (fun hH2 => ?_)
  clear hK K SN
  refine wpAnyH_ready (rs := [8]) (by kernel_rfl) (by simp) ?_
  refine AllReadyH.cons (o := pu5o_8) rfl (fun K hK => ?_) AllReadyH.nil
  unfold pu5o_8
  have HH := hidden hH2
  clear hH2
  refine wp_appFS _ _ rfl base (.slice Pv nn cv) nn xs rfl OW.out tb [.int .u64 p.x0, .int .u64 p.x1, .int .u64 p.x2, .int .u64 p.x3] rfl rfl CN.out (four_any p) NN.out (Nat.le_trans BS.out HH.out.size) (fun P4 c4 wn3 hO hG hW => ?_)
  have NW := hidden (fun k hk => (hW k hk).imp_right (Nat.le_trans HH.out.size) : ∀ k, (Value.slice P4 (nn + 1) c4).ownBlock = some k → (Value.slice Pv nn cv).ownBlock = some k ∨ W.heap.size ≤ k)
  replace HM := hidden (blk_gr HM.out OW.out (by decide) hG)
  have SN := hidden (HH.out.row hG)
  have O4 := hidden (hO)
  clear HH hO hG hW CN OW
  simp only [Act.put, sA, sB, sC]
  refine hK.out _ _ SN.out (fun hH3 => ?_)
  clear hK K SN
  refine tk 9 pu5o_9 (.pointer (some ⟨mb, 0, none⟩)) rfl (by kernel_rfl) hH3 rfl (fun w0 hSw => ?_) ?_
  ·(unfold pu5o_9; clear hSw; go_simp)
  simp only [pu5o_9, Act.put, sA, sB, sC]
  refine tk 10 pu5o_10 (.pointer (some ⟨mb, 2, none⟩)) rfl (by kernel_rfl) hH3 rfl (fun w0 hSw => ?_) ?_
  ·(unfold pu5o_10; clear hSw; go_simp)
  simp only [pu5o_10, Act.put, sA, sB, sC]
  refine tk 11 pu5o_11 (.pointer (some ⟨mb, 2, none⟩)) rfl (by kernel_rfl) hH3 rfl (fun w0 hSw => ?_) ?_
  ·(unfold pu5o_11; clear hSw; go_simp)
  simp only [pu5o_11, Act.put, sA, sB, sC]
  refine wpAnyH_ready (rs := [12]) (by kernel_rfl) (by simp) ?_
  refine AllReadyH.cons (o := pu5o_12) rfl (fun K hK => ?_) AllReadyH.nil
  unfold pu5o_12
  have HH := hidden hH3
  clear hH3
  refine wp_storeV 34 _ _ rfl mb 2 P4 (nn + 1) c4 (by rfl) (by rfl) (th1 HM.out HF.out) i1_FS rfl (fun wn4 hw => ?_)
  have SN := hidden (HH.out.sys (gb_setCells mb [.slice P4 (nn + 1) c4] 2 _))
  have FE := hidden (putfin hw HM.out O4.out (by decide))
  rw [← hw] at SN
  clear HH hw
  refine hK.out _ _ SN.out (fun hH4 => ?_)
  clear hK K SN
  have HH := hidden hH4
  have FQ := hidden (HQ.out _ P4 c4 tb HH.out FE.out NW.out)
  refine wpAnyH_done (by kernel_rfl) ?_ _
  refine NoPanic.normal ?_
  exact FQ.out
 ·unfold pu5o_7
  have HH := hidden hH0
  clear hH0
  refine wp_buildFS _ rfl p rfl (fun tb wn1 htb hwq => ?_)
  have SN := hidden ((by rw [hwq]; exact HH.out.bel (bl_alloc _ _) : Fy mb (.slice Pv nn cv) mb W wn1))
  replace HM := hidden ((by rw [hwq]; exact ((bl_alloc _ _).block _ (Array.getElem?_eq_some_iff.1 HM.out).1).trans HM.out : wn1.heap[mb]? = some (.cells arr 41 (0, 0))))
  replace OW := hidden ((by rw [hwq]; exact own_keepT OW.out (bl_alloc _ _) : wn1.ownsRow base 64 4 (.slice Pv nn cv) nn xs))
  have CN := hidden ((by rw [hwq, htb]; exact cells_newT _ [.int .u64 p.x0, .int .u64 p.x1, .int .u64 p.x2, .int .u64 p.x3] _ : ∀ j u, ([.int .u64 p.x0, .int .u64 p.x1, .int .u64 p.x2, .int .u64 p.x3] : List Value)[j]? = some u → World.cell? wn1 ((⟨tb, 0, none⟩ : Addr).add j) = some u))
  clear HH htb hwq
  simp only [Act.put, sA, sB, sC]
  refine hK.out _ _ SN.out (fun hH1 => ?_)
  clear hK K SN
  refine wpAnyH_ready (rs := [5]) (by kernel_rfl) (by simp) ?_
  refine AllReadyH.cons (o := pu5o_5) rfl (fun K hK => ?_) AllReadyH.nil
  unfold pu5o_5
  have HH := hidden hH1
  clear hH1
  refine wp_loadFS _ rfl mb 2 nn cv Pv rfl (cell_of_row _ mb 2 _ 41 (0, 0) HM.out |>.trans HF.out) ?_
  simp only [Act.put, sA, sB, sC]
  have SN := HH
  clear HH
  refine hK.out _ _ SN.out (fun hH2 => ?_)
  clear hK K SN
  refine wpAnyH_ready (rs := [8]) (by kernel_rfl) (by simp) ?_
  refine AllReadyH.cons (o := pu5o_8) rfl (fun K hK => ?_) AllReadyH.nil
  unfold pu5o_8
  have HH := hidden hH2
  clear hH2
  refine wp_appFS _ _ rfl base (.slice Pv nn cv) nn xs rfl OW.out tb [.int .u64 p.x0, .int .u64 p.x1, .int .u64 p.x2, .int .u64 p.x3] rfl rfl CN.out (four_any p) NN.out (Nat.le_trans BS.out HH.out.size) (fun P4 c4 wn3 hO hG hW => ?_)
  have NW := hidden (fun k hk => (hW k hk).imp_right (Nat.le_trans HH.out.size) : ∀ k, (Value.slice P4 (nn + 1) c4).ownBlock = some k → (Value.slice Pv nn cv).ownBlock = some k ∨ W.heap.size ≤ k)
  replace HM := hidden (blk_gr HM.out OW.out (by decide) hG)
  have SN := hidden (HH.out.row hG)
  have O4 := hidden (hO)
  clear HH hO hG hW CN OW
  simp only [Act.put, sA, sB, sC]
  refine hK.out _ _ SN.out (fun hH3 => ?_)
  clear hK K SN
  refine tk 9 pu5o_9 (.pointer (some ⟨mb, 0, none⟩)) rfl (by kernel_rfl) hH3 rfl (fun w0 hSw => ?_) ?_
  ·(unfold pu5o_9; clear hSw; go_simp)
  simp only [pu5o_9, Act.put, sA, sB, sC]
  refine tk 10 pu5o_10 (.pointer (some ⟨mb, 2, none⟩)) rfl (by kernel_rfl) hH3 rfl (fun w0 hSw => ?_) ?_
  ·(unfold pu5o_10; clear hSw; go_simp)
  simp only [pu5o_10, Act.put, sA, sB, sC]
  refine tk 11 pu5o_11 (.pointer (some ⟨mb, 2, none⟩)) rfl (by kernel_rfl) hH3 rfl (fun w0 hSw => ?_) ?_
  ·(unfold pu5o_11; clear hSw; go_simp)
  simp only [pu5o_11, Act.put, sA, sB, sC]
  refine wpAnyH_ready (rs := [12]) (by kernel_rfl) (by simp) ?_
  refine AllReadyH.cons (o := pu5o_12) rfl (fun K hK => ?_) AllReadyH.nil
  unfold pu5o_12
  have HH := hidden hH3
  clear hH3
  refine wp_storeV 34 _ _ rfl mb 2 P4 (nn + 1) c4 (by rfl) (by rfl) (th1 HM.out HF.out) i1_FS rfl (fun wn4 hw => ?_)
  have SN := hidden (HH.out.sys (gb_setCells mb [.slice P4 (nn + 1) c4] 2 _))
  have FE := hidden (putfin hw HM.out O4.out (by decide))
  rw [← hw] at SN
  clear HH hw
  refine hK.out _ _ SN.out (fun hH4 => ?_)
  clear hK K SN
  have HH := hidden hH4
  have FQ := hidden (HQ.out _ P4 c4 tb HH.out FE.out NW.out)
  refine wpAnyH_done (by kernel_rfl) ?_ _
  refine NoPanic.normal ?_
  exact FQ.out
def pu6o_0 : Oper := { dst := some 58, op := Op.move (Operand.tmp 0), type := 104, pos := "law.go:85", after := #[], guard := none }
def pu6o_1 : Oper := { dst := some 59, op := Op.move (Operand.tmp 0), type := 104, pos := "law.go:85", after := #[], guard := none }
def pu6o_2 : Oper := { dst := some 60, op := Op.nilCheck (Operand.tmp 59), type := 0, pos := "law.go:85", after := #[{ on := 1, ground := Ground.data }], guard := none }
def pu6o_3 : Oper := { dst := some 61, op := Op.fieldAddr 41 (Operand.tmp 60) 2, type := 0, pos := "law.go:85", after := #[{ on := 2, ground := Ground.data }], guard := none }
def pu6o_4 : Oper := { dst := some 62, op := Op.fieldAddr 36 (Operand.tmp 61) 1, type := 0, pos := "law.go:85", after := #[{ on := 3, ground := Ground.data }], guard := none }
def pu6o_5 : Oper := { dst := some 63, op := Op.load 34 (Operand.tmp 62), type := 34, pos := "law.go:85", after := #[{ on := 4, ground := Ground.data }], guard := none }
def pu6o_6 : Oper := { dst := some 64, op := Op.load 62 (Operand.tmp 5), type := 62, pos := "law.go:85", after := #[], guard := none }
def pu6o_7 : Oper := { dst := some 65, op := Op.buildSlice 34 1 #[(0, Operand.tmp 64)], type := 34, pos := "law.go:85", after := #[{ on := 6, ground := Ground.data }], guard := none }
def pu6o_8 : Oper := { dst := some 66, op := Op.call { callee := Callee.builtin Builtin.append, args := #[Operand.tmp 63, Operand.tmp 65], argTypes := #[34, 34] }, type := 34, pos := "law.go:85", after := #[{ on := 5, ground := Ground.data }, { on := 7, ground := Ground.data }], guard := none }
def pu6o_9 : Oper := { dst := some 67, op := Op.nilCheck (Operand.tmp 58), type := 0, pos := "law.go:85", after := #[{ on := 0, ground := Ground.data }, { on := 0, ground := Ground.phase }, { on := 1, ground := Ground.phase }, { on := 2, ground := Ground.phase }, { on := 3, ground := Ground.phase }, { on := 4, ground := Ground.phase }, { on := 5, ground := Ground.phase }, { on := 6, ground := Ground.phase }, { on := 7, ground := Ground.phase }, { on := 8, ground := Ground.phase }], guard := none }
def pu6o_10 : Oper := { dst := some 68, op := Op.fieldAddr 41 (Operand.tmp 67) 2, type := 0, pos := "law.go:85", after := #[{ on := 9, ground := Ground.data }, { on := 0, ground := Ground.phase }, { on := 1, ground := Ground.phase }, { on := 2, ground := Ground.phase }, { on := 3, ground := Ground.phase }, { on := 4, ground := Ground.phase }, { on := 5, ground := Ground.phase }, { on := 6, ground := Ground.phase }, { on := 7, ground := Ground.phase }, { on := 8, ground := Ground.phase }], guard := none }
def pu6o_11 : Oper := { dst := some 69, op := Op.fieldAddr 36 (Operand.tmp 68) 1, type := 0, pos := "law.go:85", after := #[{ on := 10, ground := Ground.data }, { on := 0, ground := Ground.phase }, { on := 1, ground := Ground.phase }, { on := 2, ground := Ground.phase }, { on := 3, ground := Ground.phase }, { on := 4, ground := Ground.phase }, { on := 5, ground := Ground.phase }, { on := 6, ground := Ground.phase }, { on := 7, ground := Ground.phase }, { on := 8, ground := Ground.phase }], guard := none }
def pu6o_12 : Oper := { dst := none, op := Op.store 34 (Operand.tmp 69) (Operand.tmp 66), type := 0, pos := "law.go:85", after := #[{ on := 11, ground := Ground.data }, { on := 8, ground := Ground.data }, { on := 8, ground := Ground.chain }, { on := 0, ground := Ground.phase }, { on := 1, ground := Ground.phase }, { on := 2, ground := Ground.phase }, { on := 3, ground := Ground.phase }, { on := 4, ground := Ground.phase }, { on := 5, ground := Ground.phase }, { on := 6, ground := Ground.phase }, { on := 7, ground := Ground.phase }, { on := 8, ground := Ground.phase }], guard := none }
def pu6o : Array Oper := #[pu6o_0, pu6o_1, pu6o_2, pu6o_3, pu6o_4, pu6o_5, pu6o_6, pu6o_7, pu6o_8, pu6o_9, pu6o_10, pu6o_11, pu6o_12]
set_option maxRecDepth 100000 in
set_option maxHeartbeats 16000000 in
theorem pu6 (Q : Exit → Act → World → Prop) (mb B base nn cv : Nat) (Pv : Option Addr) (arr : Array Value) (p : E4) (xs : List Value) (u1 u2 u3 u4 u6 u7 u8 u9 u10 u11 u12 u13 u14 u15 u16 u17 u18 u19 u20 u21 u22 u23 u24 u25 u26 u27 u28 u29 u30 u31 u32 u33 u34 u35 u36 u37 u38 u39 u40 u41 u42 u43 u44 u45 u46 u47 u48 u49 u50 u51 u52 u53 u54 u55 u56 u57 u58 u59 u60 u61 u62 u63 u64 u65 u66 u67 u68 u69 u70 u71 u72 u73 u74 u75 u76 u77 u78 u79 u80 u81 : Value) (W : World)
  (nb : B ≠ mb) (nv : (Value.slice Pv nn cv).ownBlock ≠ some B) (a0 : W.cell? ⟨B, 0, none⟩ = some (.int .u64 p.x0)) (a1 : W.cell? ⟨B, 1, none⟩ = some (.int .u64 p.x1)) (a2 : W.cell? ⟨B, 2, none⟩ = some (.int .u64 p.x2)) (a3 : W.cell? ⟨B, 3, none⟩ = some (.int .u64 p.x3))
  (hm : W.heap[mb]? = some (.cells arr 41 (0, 0))) (HF : Hid (arr[3]? = some (.slice Pv nn cv))) (ow : W.ownsRow base 64 4 (.slice Pv nn cv) nn xs) (NN : Hid (nn ≤ 1048576)) (BS : Hid (base ≤ W.heap.size))
  (HQ : Hid (∀ (wz : World) (P4 : Option Addr) (c4 tb : Nat), Fy mb (.slice Pv nn cv) mb W wz → (wz.heap[mb]? = some (.cells (arr.setIfInBounds 3 (.slice P4 (nn + 1) c4)) 41 (0, 0)) ∧ wz.ownsRow base 64 4 (.slice P4 (nn + 1) c4) (nn + 1) (xs ++ [.int .u64 p.x0, .int .u64 p.x1, .int .u64 p.x2, .int .u64 p.x3])) → (∀ k, (Value.slice P4 (nn + 1) c4).ownBlock = some k → (Value.slice Pv nn cv).ownBlock = some k ∨ W.heap.size ≤ k) → Q .normal ⟨#[.pointer (some ⟨mb, 0, none⟩), u1, u2, u3, u4, .pointer (some ⟨B, 0, none⟩), u6, u7, u8, u9, u10, u11, u12, u13, u14, u15, u16, u17, u18, u19, u20, u21, u22, u23, u24, u25, u26, u27, u28, u29, u30, u31, u32, u33, u34, u35, u36, u37, u38, u39, u40, u41, u42, u43, u44, u45, u46, u47, u48, u49, u50, u51, u52, u53, u54, u55, u56, u57, .pointer (some ⟨mb, 0, none⟩), .pointer (some ⟨mb, 0, none⟩), .pointer (some ⟨mb, 0, none⟩), .pointer (some ⟨mb, 2, none⟩), .pointer (some ⟨mb, 3, none⟩), .slice Pv nn cv, .agg #[.int .u64 p.x0, .int .u64 p.x1, .int .u64 p.x2, .int .u64 p.x3], .slice (some ⟨tb, 0, none⟩) 1 1, .slice P4 (nn + 1) c4, .pointer (some ⟨mb, 0, none⟩), .pointer (some ⟨mb, 2, none⟩), .pointer (some ⟨mb, 3, none⟩), u70, u71, u72, u73, u74, u75, u76, u77, u78, u79, u80, u81], []⟩ wz)) : (Code.region 6 pu6o true).wp Tryz.prog Q ⟨#[.pointer (some ⟨mb, 0, none⟩), u1, u2, u3, u4, .pointer (some ⟨B, 0, none⟩), u6, u7, u8, u9, u10, u11, u12, u13, u14, u15, u16, u17, u18, u19, u20, u21, u22, u23, u24, u25, u26, u27, u28, u29, u30, u31, u32, u33, u34, u35, u36, u37, u38, u39, u40, u41, u42, u43, u44, u45, u46, u47, u48, u49, u50, u51, u52, u53, u54, u55, u56, u57, u58, u59, u60, u61, u62, u63, u64, u65, u66, u67, u68, u69, u70, u71, u72, u73, u74, u75, u76, u77, u78, u79, u80, u81], []⟩ W := by
 have HM := hidden (((bl_drew W).block mb (Array.getElem?_eq_some_iff.1 hm).1).trans hm)
 have OW := hidden (own_keepT ow (bl_drew W))
 clear hm ow
 unfold pu6o
 refine wp_region_noPanic ?_
 refine wp_region_held_drew (S := fun x => Fy mb (.slice Pv nn cv) mb W x) (by kernel_rfl) (Fy.drew0 W) (fun hH0 => ?_)
 refine tk 0 pu6o_0 (.pointer (some ⟨mb, 0, none⟩)) rfl (by kernel_rfl) hH0 rfl (fun w0 hSw => ?_) ?_
 ·(unfold pu6o_0; clear hSw; go_simp)
 simp only [pu6o_0, Act.put, sA, sB, sC]
 refine tk 1 pu6o_1 (.pointer (some ⟨mb, 0, none⟩)) rfl (by kernel_rfl) hH0 rfl (fun w0 hSw => ?_) ?_
 ·(unfold pu6o_1; clear hSw; go_simp)
 simp only [pu6o_1, Act.put, sA, sB, sC]
 refine tk 6 pu6o_6 (.agg #[.int .u64 p.x0, .int .u64 p.x1, .int .u64 p.x2, .int .u64 p.x3]) rfl (by kernel_rfl) hH0 rfl (fun w0 hSw => ?_) ?_
 ·(unfold pu6o_6; have hS : Fy mb (.slice Pv nn cv) mb W w0 := hSw; have a0 := hS.cl a0 nb nv nb; have a1 := hS.cl a1 nb nv nb; have a2 := hS.cl a2 nb nv nb; have a3 := hS.cl a3 nb nv nb; clear hS hSw; go_simp)
 simp only [pu6o_6, Act.put, sA, sB, sC]
 refine tk 2 pu6o_2 (.pointer (some ⟨mb, 0, none⟩)) rfl (by kernel_rfl) hH0 rfl (fun w0 hSw => ?_) ?_
 ·(unfold pu6o_2; clear hSw; go_simp)
 simp only [pu6o_2, Act.put, sA, sB, sC]
 refine tk 3 pu6o_3 (.pointer (some ⟨mb, 2, none⟩)) rfl (by kernel_rfl) hH0 rfl (fun w0 hSw => ?_) ?_
 ·(unfold pu6o_3; clear hSw; go_simp)
 simp only [pu6o_3, Act.put, sA, sB, sC]
 refine tk 4 pu6o_4 (.pointer (some ⟨mb, 3, none⟩)) rfl (by kernel_rfl) hH0 rfl (fun w0 hSw => ?_) ?_
 ·(unfold pu6o_4; clear hSw; go_simp)
 simp only [pu6o_4, Act.put, sA, sB, sC]
 refine wpAnyH_ready (rs := [5, 7]) (by kernel_rfl) (by simp) ?_
 refine AllReadyH.cons (o := pu6o_5) rfl (fun K hK => ?_) (AllReadyH.cons (o := pu6o_7) rfl (fun K hK => ?_) AllReadyH.nil)
 ·unfold pu6o_5
  have HH := hidden hH0
  clear hH0
  refine wp_loadFS _ rfl mb 3 nn cv Pv rfl (cell_of_row _ mb 3 _ 41 (0, 0) HM.out |>.trans HF.out) ?_
  simp only [Act.put, sA, sB, sC]
  have SN := HH
  clear HH
  refine hK.out _ _ SN.out (fun hH1 => ?_)
  clear hK K SN
  refine wpAnyH_ready (rs := [7]) (by kernel_rfl) (by simp) ?_
  refine AllReadyH.cons (o := pu6o_7) rfl (fun K hK => ?_) AllReadyH.nil
  unfold pu6o_7
  have HH := hidden hH1
  clear hH1
  refine wp_buildFS _ rfl p rfl (fun tb wn2 htb hwq => ?_)
  have SN := hidden ((by rw [hwq]; exact HH.out.bel (bl_alloc _ _) : Fy mb (.slice Pv nn cv) mb W wn2))
  replace HM := hidden ((by rw [hwq]; exact ((bl_alloc _ _).block _ (Array.getElem?_eq_some_iff.1 HM.out).1).trans HM.out : wn2.heap[mb]? = some (.cells arr 41 (0, 0))))
  replace OW := hidden ((by rw [hwq]; exact own_keepT OW.out (bl_alloc _ _) : wn2.ownsRow base 64 4 (.slice Pv nn cv) nn xs))
  have CN := hidden ((by rw [hwq, htb]; exact cells_newT _ [.int .u64 p.x0, .int .u64 p.x1, .int .u64 p.x2, .int .u64 p.x3] _ : ∀ j u, ([.int .u64 p.x0, .int .u64 p.x1, .int .u64 p.x2, .int .u64 p.x3] : List Value)[j]? = some u → World.cell? wn2 ((⟨tb, 0, none⟩ : Addr).add j) = some u))
  clear HH htb hwq
  simp only [Act.put, sA, sB, sC]
  refine hK.out _ _ SN.out (fun hH2 => ?_)
  clear hK K SN
  refine wpAnyH_ready (rs := [8]) (by kernel_rfl) (by simp) ?_
  refine AllReadyH.cons (o := pu6o_8) rfl (fun K hK => ?_) AllReadyH.nil
  unfold pu6o_8
  have HH := hidden hH2
  clear hH2
  refine wp_appFS _ _ rfl base (.slice Pv nn cv) nn xs rfl OW.out tb [.int .u64 p.x0, .int .u64 p.x1, .int .u64 p.x2, .int .u64 p.x3] rfl rfl CN.out (four_any p) NN.out (Nat.le_trans BS.out HH.out.size) (fun P4 c4 wn3 hO hG hW => ?_)
  have NW := hidden (fun k hk => (hW k hk).imp_right (Nat.le_trans HH.out.size) : ∀ k, (Value.slice P4 (nn + 1) c4).ownBlock = some k → (Value.slice Pv nn cv).ownBlock = some k ∨ W.heap.size ≤ k)
  replace HM := hidden (blk_gr HM.out OW.out (by decide) hG)
  have SN := hidden (HH.out.row hG)
  have O4 := hidden (hO)
  clear HH hO hG hW CN OW
  simp only [Act.put, sA, sB, sC]
  refine hK.out _ _ SN.out (fun hH3 => ?_)
  clear hK K SN
  refine tk 9 pu6o_9 (.pointer (some ⟨mb, 0, none⟩)) rfl (by kernel_rfl) hH3 rfl (fun w0 hSw => ?_) ?_
  ·(unfold pu6o_9; clear hSw; go_simp)
  simp only [pu6o_9, Act.put, sA, sB, sC]
  refine tk 10 pu6o_10 (.pointer (some ⟨mb, 2, none⟩)) rfl (by kernel_rfl) hH3 rfl (fun w0 hSw => ?_) ?_
  ·(unfold pu6o_10; clear hSw; go_simp)
  simp only [pu6o_10, Act.put, sA, sB, sC]
  refine tk 11 pu6o_11 (.pointer (some ⟨mb, 3, none⟩)) rfl (by kernel_rfl) hH3 rfl (fun w0 hSw => ?_) ?_
  ·(unfold pu6o_11; clear hSw; go_simp)
  simp only [pu6o_11, Act.put, sA, sB, sC]
  refine wpAnyH_ready (rs := [12]) (by kernel_rfl) (by simp) ?_
  refine AllReadyH.cons (o := pu6o_12) rfl (fun K hK => ?_) AllReadyH.nil
  unfold pu6o_12
  have HH := hidden hH3
  clear hH3
  refine wp_storeV 34 _ _ rfl mb 3 P4 (nn + 1) c4 (by rfl) (by rfl) (th1 HM.out HF.out) i1_FS rfl (fun wn4 hw => ?_)
  have SN := hidden (HH.out.sys (gb_setCells mb [.slice P4 (nn + 1) c4] 3 _))
  have FE := hidden (putfin hw HM.out O4.out (by decide))
  rw [← hw] at SN
  clear HH hw
  refine hK.out _ _ SN.out (fun hH4 => ?_)
  clear hK K SN
  have HH := hidden hH4
  have FQ := hidden (HQ.out _ P4 c4 tb HH.out FE.out NW.out)
  refine wpAnyH_done (by kernel_rfl) ?_ _
  refine NoPanic.normal ?_
  exact FQ.out
 ·unfold pu6o_7
  have HH := hidden hH0
  clear hH0
  refine wp_buildFS _ rfl p rfl (fun tb wn1 htb hwq => ?_)
  have SN := hidden ((by rw [hwq]; exact HH.out.bel (bl_alloc _ _) : Fy mb (.slice Pv nn cv) mb W wn1))
  replace HM := hidden ((by rw [hwq]; exact ((bl_alloc _ _).block _ (Array.getElem?_eq_some_iff.1 HM.out).1).trans HM.out : wn1.heap[mb]? = some (.cells arr 41 (0, 0))))
  replace OW := hidden ((by rw [hwq]; exact own_keepT OW.out (bl_alloc _ _) : wn1.ownsRow base 64 4 (.slice Pv nn cv) nn xs))
  have CN := hidden ((by rw [hwq, htb]; exact cells_newT _ [.int .u64 p.x0, .int .u64 p.x1, .int .u64 p.x2, .int .u64 p.x3] _ : ∀ j u, ([.int .u64 p.x0, .int .u64 p.x1, .int .u64 p.x2, .int .u64 p.x3] : List Value)[j]? = some u → World.cell? wn1 ((⟨tb, 0, none⟩ : Addr).add j) = some u))
  clear HH htb hwq
  simp only [Act.put, sA, sB, sC]
  refine hK.out _ _ SN.out (fun hH1 => ?_)
  clear hK K SN
  refine wpAnyH_ready (rs := [5]) (by kernel_rfl) (by simp) ?_
  refine AllReadyH.cons (o := pu6o_5) rfl (fun K hK => ?_) AllReadyH.nil
  unfold pu6o_5
  have HH := hidden hH1
  clear hH1
  refine wp_loadFS _ rfl mb 3 nn cv Pv rfl (cell_of_row _ mb 3 _ 41 (0, 0) HM.out |>.trans HF.out) ?_
  simp only [Act.put, sA, sB, sC]
  have SN := HH
  clear HH
  refine hK.out _ _ SN.out (fun hH2 => ?_)
  clear hK K SN
  refine wpAnyH_ready (rs := [8]) (by kernel_rfl) (by simp) ?_
  refine AllReadyH.cons (o := pu6o_8) rfl (fun K hK => ?_) AllReadyH.nil
  unfold pu6o_8
  have HH := hidden hH2
  clear hH2
  refine wp_appFS _ _ rfl base (.slice Pv nn cv) nn xs rfl OW.out tb [.int .u64 p.x0, .int .u64 p.x1, .int .u64 p.x2, .int .u64 p.x3] rfl rfl CN.out (four_any p) NN.out (Nat.le_trans BS.out HH.out.size) (fun P4 c4 wn3 hO hG hW => ?_)
  have NW := hidden (fun k hk => (hW k hk).imp_right (Nat.le_trans HH.out.size) : ∀ k, (Value.slice P4 (nn + 1) c4).ownBlock = some k → (Value.slice Pv nn cv).ownBlock = some k ∨ W.heap.size ≤ k)
  replace HM := hidden (blk_gr HM.out OW.out (by decide) hG)
  have SN := hidden (HH.out.row hG)
  have O4 := hidden (hO)
  clear HH hO hG hW CN OW
  simp only [Act.put, sA, sB, sC]
  refine hK.out _ _ SN.out (fun hH3 => ?_)
  clear hK K SN
  refine tk 9 pu6o_9 (.pointer (some ⟨mb, 0, none⟩)) rfl (by kernel_rfl) hH3 rfl (fun w0 hSw => ?_) ?_
  ·(unfold pu6o_9; clear hSw; go_simp)
  simp only [pu6o_9, Act.put, sA, sB, sC]
  refine tk 10 pu6o_10 (.pointer (some ⟨mb, 2, none⟩)) rfl (by kernel_rfl) hH3 rfl (fun w0 hSw => ?_) ?_
  ·(unfold pu6o_10; clear hSw; go_simp)
  simp only [pu6o_10, Act.put, sA, sB, sC]
  refine tk 11 pu6o_11 (.pointer (some ⟨mb, 3, none⟩)) rfl (by kernel_rfl) hH3 rfl (fun w0 hSw => ?_) ?_
  ·(unfold pu6o_11; clear hSw; go_simp)
  simp only [pu6o_11, Act.put, sA, sB, sC]
  refine wpAnyH_ready (rs := [12]) (by kernel_rfl) (by simp) ?_
  refine AllReadyH.cons (o := pu6o_12) rfl (fun K hK => ?_) AllReadyH.nil
  unfold pu6o_12
  have HH := hidden hH3
  clear hH3
  refine wp_storeV 34 _ _ rfl mb 3 P4 (nn + 1) c4 (by rfl) (by rfl) (th1 HM.out HF.out) i1_FS rfl (fun wn4 hw => ?_)
  have SN := hidden (HH.out.sys (gb_setCells mb [.slice P4 (nn + 1) c4] 3 _))
  have FE := hidden (putfin hw HM.out O4.out (by decide))
  rw [← hw] at SN
  clear HH hw
  refine hK.out _ _ SN.out (fun hH4 => ?_)
  clear hK K SN
  have HH := hidden hH4
  have FQ := hidden (HQ.out _ P4 c4 tb HH.out FE.out NW.out)
  refine wpAnyH_done (by kernel_rfl) ?_ _
  refine NoPanic.normal ?_
  exact FQ.out
def pu7o_0 : Oper := { dst := some 70, op := Op.move (Operand.tmp 0), type := 104, pos := "law.go:86", after := #[], guard := none }
def pu7o_1 : Oper := { dst := some 71, op := Op.move (Operand.tmp 0), type := 104, pos := "law.go:86", after := #[], guard := none }
def pu7o_2 : Oper := { dst := some 72, op := Op.nilCheck (Operand.tmp 71), type := 0, pos := "law.go:86", after := #[{ on := 1, ground := Ground.data }], guard := none }
def pu7o_3 : Oper := { dst := some 73, op := Op.fieldAddr 41 (Operand.tmp 72) 2, type := 0, pos := "law.go:86", after := #[{ on := 2, ground := Ground.data }], guard := none }
def pu7o_4 : Oper := { dst := some 74, op := Op.fieldAddr 36 (Operand.tmp 73) 2, type := 0, pos := "law.go:86", after := #[{ on := 3, ground := Ground.data }], guard := none }
def pu7o_5 : Oper := { dst := some 75, op := Op.load 34 (Operand.tmp 74), type := 34, pos := "law.go:86", after := #[{ on := 4, ground := Ground.data }], guard := none }
def pu7o_6 : Oper := { dst := some 76, op := Op.load 62 (Operand.tmp 6), type := 62, pos := "law.go:86", after := #[], guard := none }
def pu7o_7 : Oper := { dst := some 77, op := Op.buildSlice 34 1 #[(0, Operand.tmp 76)], type := 34, pos := "law.go:86", after := #[{ on := 6, ground := Ground.data }], guard := none }
def pu7o_8 : Oper := { dst := some 78, op := Op.call { callee := Callee.builtin Builtin.append, args := #[Operand.tmp 75, Operand.tmp 77], argTypes := #[34, 34] }, type := 34, pos := "law.go:86", after := #[{ on := 5, ground := Ground.data }, { on := 7, ground := Ground.data }], guard := none }
def pu7o_9 : Oper := { dst := some 79, op := Op.nilCheck (Operand.tmp 70), type := 0, pos := "law.go:86", after := #[{ on := 0, ground := Ground.data }, { on := 0, ground := Ground.phase }, { on := 1, ground := Ground.phase }, { on := 2, ground := Ground.phase }, { on := 3, ground := Ground.phase }, { on := 4, ground := Ground.phase }, { on := 5, ground := Ground.phase }, { on := 6, ground := Ground.phase }, { on := 7, ground := Ground.phase }, { on := 8, ground := Ground.phase }], guard := none }
def pu7o_10 : Oper := { dst := some 80, op := Op.fieldAddr 41 (Operand.tmp 79) 2, type := 0, pos := "law.go:86", after := #[{ on := 9, ground := Ground.data }, { on := 0, ground := Ground.phase }, { on := 1, ground := Ground.phase }, { on := 2, ground := Ground.phase }, { on := 3, ground := Ground.phase }, { on := 4, ground := Ground.phase }, { on := 5, ground := Ground.phase }, { on := 6, ground := Ground.phase }, { on := 7, ground := Ground.phase }, { on := 8, ground := Ground.phase }], guard := none }
def pu7o_11 : Oper := { dst := some 81, op := Op.fieldAddr 36 (Operand.tmp 80) 2, type := 0, pos := "law.go:86", after := #[{ on := 10, ground := Ground.data }, { on := 0, ground := Ground.phase }, { on := 1, ground := Ground.phase }, { on := 2, ground := Ground.phase }, { on := 3, ground := Ground.phase }, { on := 4, ground := Ground.phase }, { on := 5, ground := Ground.phase }, { on := 6, ground := Ground.phase }, { on := 7, ground := Ground.phase }, { on := 8, ground := Ground.phase }], guard := none }
def pu7o_12 : Oper := { dst := none, op := Op.store 34 (Operand.tmp 81) (Operand.tmp 78), type := 0, pos := "law.go:86", after := #[{ on := 11, ground := Ground.data }, { on := 8, ground := Ground.data }, { on := 8, ground := Ground.chain }, { on := 0, ground := Ground.phase }, { on := 1, ground := Ground.phase }, { on := 2, ground := Ground.phase }, { on := 3, ground := Ground.phase }, { on := 4, ground := Ground.phase }, { on := 5, ground := Ground.phase }, { on := 6, ground := Ground.phase }, { on := 7, ground := Ground.phase }, { on := 8, ground := Ground.phase }], guard := none }
def pu7o : Array Oper := #[pu7o_0, pu7o_1, pu7o_2, pu7o_3, pu7o_4, pu7o_5, pu7o_6, pu7o_7, pu7o_8, pu7o_9, pu7o_10, pu7o_11, pu7o_12]
set_option maxRecDepth 100000 in
set_option maxHeartbeats 16000000 in
theorem pu7 (Q : Exit → Act → World → Prop) (mb B base nn cv : Nat) (Pv : Option Addr) (arr : Array Value) (p : E4) (xs : List Value) (u1 u2 u3 u4 u5 u7 u8 u9 u10 u11 u12 u13 u14 u15 u16 u17 u18 u19 u20 u21 u22 u23 u24 u25 u26 u27 u28 u29 u30 u31 u32 u33 u34 u35 u36 u37 u38 u39 u40 u41 u42 u43 u44 u45 u46 u47 u48 u49 u50 u51 u52 u53 u54 u55 u56 u57 u58 u59 u60 u61 u62 u63 u64 u65 u66 u67 u68 u69 u70 u71 u72 u73 u74 u75 u76 u77 u78 u79 u80 u81 : Value) (W : World)
  (nb : B ≠ mb) (nv : (Value.slice Pv nn cv).ownBlock ≠ some B) (a0 : W.cell? ⟨B, 0, none⟩ = some (.int .u64 p.x0)) (a1 : W.cell? ⟨B, 1, none⟩ = some (.int .u64 p.x1)) (a2 : W.cell? ⟨B, 2, none⟩ = some (.int .u64 p.x2)) (a3 : W.cell? ⟨B, 3, none⟩ = some (.int .u64 p.x3))
  (hm : W.heap[mb]? = some (.cells arr 41 (0, 0))) (HF : Hid (arr[4]? = some (.slice Pv nn cv))) (ow : W.ownsRow base 64 4 (.slice Pv nn cv) nn xs) (NN : Hid (nn ≤ 1048576)) (BS : Hid (base ≤ W.heap.size))
  (HQ : Hid (∀ (wz : World) (P4 : Option Addr) (c4 tb : Nat), Fy mb (.slice Pv nn cv) mb W wz → (wz.heap[mb]? = some (.cells (arr.setIfInBounds 4 (.slice P4 (nn + 1) c4)) 41 (0, 0)) ∧ wz.ownsRow base 64 4 (.slice P4 (nn + 1) c4) (nn + 1) (xs ++ [.int .u64 p.x0, .int .u64 p.x1, .int .u64 p.x2, .int .u64 p.x3])) → (∀ k, (Value.slice P4 (nn + 1) c4).ownBlock = some k → (Value.slice Pv nn cv).ownBlock = some k ∨ W.heap.size ≤ k) → Q .normal ⟨#[.pointer (some ⟨mb, 0, none⟩), u1, u2, u3, u4, u5, .pointer (some ⟨B, 0, none⟩), u7, u8, u9, u10, u11, u12, u13, u14, u15, u16, u17, u18, u19, u20, u21, u22, u23, u24, u25, u26, u27, u28, u29, u30, u31, u32, u33, u34, u35, u36, u37, u38, u39, u40, u41, u42, u43, u44, u45, u46, u47, u48, u49, u50, u51, u52, u53, u54, u55, u56, u57, u58, u59, u60, u61, u62, u63, u64, u65, u66, u67, u68, u69, .pointer (some ⟨mb, 0, none⟩), .pointer (some ⟨mb, 0, none⟩), .pointer (some ⟨mb, 0, none⟩), .pointer (some ⟨mb, 2, none⟩), .pointer (some ⟨mb, 4, none⟩), .slice Pv nn cv, .agg #[.int .u64 p.x0, .int .u64 p.x1, .int .u64 p.x2, .int .u64 p.x3], .slice (some ⟨tb, 0, none⟩) 1 1, .slice P4 (nn + 1) c4, .pointer (some ⟨mb, 0, none⟩), .pointer (some ⟨mb, 2, none⟩), .pointer (some ⟨mb, 4, none⟩)], []⟩ wz)) : (Code.region 7 pu7o true).wp Tryz.prog Q ⟨#[.pointer (some ⟨mb, 0, none⟩), u1, u2, u3, u4, u5, .pointer (some ⟨B, 0, none⟩), u7, u8, u9, u10, u11, u12, u13, u14, u15, u16, u17, u18, u19, u20, u21, u22, u23, u24, u25, u26, u27, u28, u29, u30, u31, u32, u33, u34, u35, u36, u37, u38, u39, u40, u41, u42, u43, u44, u45, u46, u47, u48, u49, u50, u51, u52, u53, u54, u55, u56, u57, u58, u59, u60, u61, u62, u63, u64, u65, u66, u67, u68, u69, u70, u71, u72, u73, u74, u75, u76, u77, u78, u79, u80, u81], []⟩ W := by
 have HM := hidden (((bl_drew W).block mb (Array.getElem?_eq_some_iff.1 hm).1).trans hm)
 have OW := hidden (own_keepT ow (bl_drew W))
 clear hm ow
 unfold pu7o
 refine wp_region_noPanic ?_
 refine wp_region_held_drew (S := fun x => Fy mb (.slice Pv nn cv) mb W x) (by kernel_rfl) (Fy.drew0 W) (fun hH0 => ?_)
 refine tk 0 pu7o_0 (.pointer (some ⟨mb, 0, none⟩)) rfl (by kernel_rfl) hH0 rfl (fun w0 hSw => ?_) ?_
 ·(unfold pu7o_0; clear hSw; go_simp)
 simp only [pu7o_0, Act.put, sA, sB, sC]
 refine tk 1 pu7o_1 (.pointer (some ⟨mb, 0, none⟩)) rfl (by kernel_rfl) hH0 rfl (fun w0 hSw => ?_) ?_
 ·(unfold pu7o_1; clear hSw; go_simp)
 simp only [pu7o_1, Act.put, sA, sB, sC]
 refine tk 6 pu7o_6 (.agg #[.int .u64 p.x0, .int .u64 p.x1, .int .u64 p.x2, .int .u64 p.x3]) rfl (by kernel_rfl) hH0 rfl (fun w0 hSw => ?_) ?_
 ·(unfold pu7o_6; have hS : Fy mb (.slice Pv nn cv) mb W w0 := hSw; have a0 := hS.cl a0 nb nv nb; have a1 := hS.cl a1 nb nv nb; have a2 := hS.cl a2 nb nv nb; have a3 := hS.cl a3 nb nv nb; clear hS hSw; go_simp)
 simp only [pu7o_6, Act.put, sA, sB, sC]
 refine tk 2 pu7o_2 (.pointer (some ⟨mb, 0, none⟩)) rfl (by kernel_rfl) hH0 rfl (fun w0 hSw => ?_) ?_
 ·(unfold pu7o_2; clear hSw; go_simp)
 simp only [pu7o_2, Act.put, sA, sB, sC]
 refine tk 3 pu7o_3 (.pointer (some ⟨mb, 2, none⟩)) rfl (by kernel_rfl) hH0 rfl (fun w0 hSw => ?_) ?_
 ·(unfold pu7o_3; clear hSw; go_simp)
 simp only [pu7o_3, Act.put, sA, sB, sC]
 refine tk 4 pu7o_4 (.pointer (some ⟨mb, 4, none⟩)) rfl (by kernel_rfl) hH0 rfl (fun w0 hSw => ?_) ?_
 ·(unfold pu7o_4; clear hSw; go_simp)
 simp only [pu7o_4, Act.put, sA, sB, sC]
 refine wpAnyH_ready (rs := [5, 7]) (by kernel_rfl) (by simp) ?_
 refine AllReadyH.cons (o := pu7o_5) rfl (fun K hK => ?_) (AllReadyH.cons (o := pu7o_7) rfl (fun K hK => ?_) AllReadyH.nil)
 ·unfold pu7o_5
  have HH := hidden hH0
  clear hH0
  refine wp_loadFS _ rfl mb 4 nn cv Pv rfl (cell_of_row _ mb 4 _ 41 (0, 0) HM.out |>.trans HF.out) ?_
  simp only [Act.put, sA, sB, sC]
  have SN := HH
  clear HH
  refine hK.out _ _ SN.out (fun hH1 => ?_)
  clear hK K SN
  refine wpAnyH_ready (rs := [7]) (by kernel_rfl) (by simp) ?_
  refine AllReadyH.cons (o := pu7o_7) rfl (fun K hK => ?_) AllReadyH.nil
  unfold pu7o_7
  have HH := hidden hH1
  clear hH1
  refine wp_buildFS _ rfl p rfl (fun tb wn2 htb hwq => ?_)
  have SN := hidden ((by rw [hwq]; exact HH.out.bel (bl_alloc _ _) : Fy mb (.slice Pv nn cv) mb W wn2))
  replace HM := hidden ((by rw [hwq]; exact ((bl_alloc _ _).block _ (Array.getElem?_eq_some_iff.1 HM.out).1).trans HM.out : wn2.heap[mb]? = some (.cells arr 41 (0, 0))))
  replace OW := hidden ((by rw [hwq]; exact own_keepT OW.out (bl_alloc _ _) : wn2.ownsRow base 64 4 (.slice Pv nn cv) nn xs))
  have CN := hidden ((by rw [hwq, htb]; exact cells_newT _ [.int .u64 p.x0, .int .u64 p.x1, .int .u64 p.x2, .int .u64 p.x3] _ : ∀ j u, ([.int .u64 p.x0, .int .u64 p.x1, .int .u64 p.x2, .int .u64 p.x3] : List Value)[j]? = some u → World.cell? wn2 ((⟨tb, 0, none⟩ : Addr).add j) = some u))
  clear HH htb hwq
  simp only [Act.put, sA, sB, sC]
  refine hK.out _ _ SN.out (fun hH2 => ?_)
  clear hK K SN
  refine wpAnyH_ready (rs := [8]) (by kernel_rfl) (by simp) ?_
  refine AllReadyH.cons (o := pu7o_8) rfl (fun K hK => ?_) AllReadyH.nil
  unfold pu7o_8
  have HH := hidden hH2
  clear hH2
  refine wp_appFS _ _ rfl base (.slice Pv nn cv) nn xs rfl OW.out tb [.int .u64 p.x0, .int .u64 p.x1, .int .u64 p.x2, .int .u64 p.x3] rfl rfl CN.out (four_any p) NN.out (Nat.le_trans BS.out HH.out.size) (fun P4 c4 wn3 hO hG hW => ?_)
  have NW := hidden (fun k hk => (hW k hk).imp_right (Nat.le_trans HH.out.size) : ∀ k, (Value.slice P4 (nn + 1) c4).ownBlock = some k → (Value.slice Pv nn cv).ownBlock = some k ∨ W.heap.size ≤ k)
  replace HM := hidden (blk_gr HM.out OW.out (by decide) hG)
  have SN := hidden (HH.out.row hG)
  have O4 := hidden (hO)
  clear HH hO hG hW CN OW
  simp only [Act.put, sA, sB, sC]
  refine hK.out _ _ SN.out (fun hH3 => ?_)
  clear hK K SN
  refine tk 9 pu7o_9 (.pointer (some ⟨mb, 0, none⟩)) rfl (by kernel_rfl) hH3 rfl (fun w0 hSw => ?_) ?_
  ·(unfold pu7o_9; clear hSw; go_simp)
  simp only [pu7o_9, Act.put, sA, sB, sC]
  refine tk 10 pu7o_10 (.pointer (some ⟨mb, 2, none⟩)) rfl (by kernel_rfl) hH3 rfl (fun w0 hSw => ?_) ?_
  ·(unfold pu7o_10; clear hSw; go_simp)
  simp only [pu7o_10, Act.put, sA, sB, sC]
  refine tk 11 pu7o_11 (.pointer (some ⟨mb, 4, none⟩)) rfl (by kernel_rfl) hH3 rfl (fun w0 hSw => ?_) ?_
  ·(unfold pu7o_11; clear hSw; go_simp)
  simp only [pu7o_11, Act.put, sA, sB, sC]
  refine wpAnyH_ready (rs := [12]) (by kernel_rfl) (by simp) ?_
  refine AllReadyH.cons (o := pu7o_12) rfl (fun K hK => ?_) AllReadyH.nil
  unfold pu7o_12
  have HH := hidden hH3
  clear hH3
  refine wp_storeV 34 _ _ rfl mb 4 P4 (nn + 1) c4 (by rfl) (by rfl) (th1 HM.out HF.out) i1_FS rfl (fun wn4 hw => ?_)
  have SN := hidden (HH.out.sys (gb_setCells mb [.slice P4 (nn + 1) c4] 4 _))
  have FE := hidden (putfin hw HM.out O4.out (by decide))
  rw [← hw] at SN
  clear HH hw
  refine hK.out _ _ SN.out (fun hH4 => ?_)
  clear hK K SN
  have HH := hidden hH4
  have FQ := hidden (HQ.out _ P4 c4 tb HH.out FE.out NW.out)
  refine wpAnyH_done (by kernel_rfl) ?_ _
  refine NoPanic.normal ?_
  exact FQ.out
 ·unfold pu7o_7
  have HH := hidden hH0
  clear hH0
  refine wp_buildFS _ rfl p rfl (fun tb wn1 htb hwq => ?_)
  have SN := hidden ((by rw [hwq]; exact HH.out.bel (bl_alloc _ _) : Fy mb (.slice Pv nn cv) mb W wn1))
  replace HM := hidden ((by rw [hwq]; exact ((bl_alloc _ _).block _ (Array.getElem?_eq_some_iff.1 HM.out).1).trans HM.out : wn1.heap[mb]? = some (.cells arr 41 (0, 0))))
  replace OW := hidden ((by rw [hwq]; exact own_keepT OW.out (bl_alloc _ _) : wn1.ownsRow base 64 4 (.slice Pv nn cv) nn xs))
  have CN := hidden ((by rw [hwq, htb]; exact cells_newT _ [.int .u64 p.x0, .int .u64 p.x1, .int .u64 p.x2, .int .u64 p.x3] _ : ∀ j u, ([.int .u64 p.x0, .int .u64 p.x1, .int .u64 p.x2, .int .u64 p.x3] : List Value)[j]? = some u → World.cell? wn1 ((⟨tb, 0, none⟩ : Addr).add j) = some u))
  clear HH htb hwq
  simp only [Act.put, sA, sB, sC]
  refine hK.out _ _ SN.out (fun hH1 => ?_)
  clear hK K SN
  refine wpAnyH_ready (rs := [5]) (by kernel_rfl) (by simp) ?_
  refine AllReadyH.cons (o := pu7o_5) rfl (fun K hK => ?_) AllReadyH.nil
  unfold pu7o_5
  have HH := hidden hH1
  clear hH1
  refine wp_loadFS _ rfl mb 4 nn cv Pv rfl (cell_of_row _ mb 4 _ 41 (0, 0) HM.out |>.trans HF.out) ?_
  simp only [Act.put, sA, sB, sC]
  have SN := HH
  clear HH
  refine hK.out _ _ SN.out (fun hH2 => ?_)
  clear hK K SN
  refine wpAnyH_ready (rs := [8]) (by kernel_rfl) (by simp) ?_
  refine AllReadyH.cons (o := pu7o_8) rfl (fun K hK => ?_) AllReadyH.nil
  unfold pu7o_8
  have HH := hidden hH2
  clear hH2
  refine wp_appFS _ _ rfl base (.slice Pv nn cv) nn xs rfl OW.out tb [.int .u64 p.x0, .int .u64 p.x1, .int .u64 p.x2, .int .u64 p.x3] rfl rfl CN.out (four_any p) NN.out (Nat.le_trans BS.out HH.out.size) (fun P4 c4 wn3 hO hG hW => ?_)
  have NW := hidden (fun k hk => (hW k hk).imp_right (Nat.le_trans HH.out.size) : ∀ k, (Value.slice P4 (nn + 1) c4).ownBlock = some k → (Value.slice Pv nn cv).ownBlock = some k ∨ W.heap.size ≤ k)
  replace HM := hidden (blk_gr HM.out OW.out (by decide) hG)
  have SN := hidden (HH.out.row hG)
  have O4 := hidden (hO)
  clear HH hO hG hW CN OW
  simp only [Act.put, sA, sB, sC]
  refine hK.out _ _ SN.out (fun hH3 => ?_)
  clear hK K SN
  refine tk 9 pu7o_9 (.pointer (some ⟨mb, 0, none⟩)) rfl (by kernel_rfl) hH3 rfl (fun w0 hSw => ?_) ?_
  ·(unfold pu7o_9; clear hSw; go_simp)
  simp only [pu7o_9, Act.put, sA, sB, sC]
  refine tk 10 pu7o_10 (.pointer (some ⟨mb, 2, none⟩)) rfl (by kernel_rfl) hH3 rfl (fun w0 hSw => ?_) ?_
  ·(unfold pu7o_10; clear hSw; go_simp)
  simp only [pu7o_10, Act.put, sA, sB, sC]
  refine tk 11 pu7o_11 (.pointer (some ⟨mb, 4, none⟩)) rfl (by kernel_rfl) hH3 rfl (fun w0 hSw => ?_) ?_
  ·(unfold pu7o_11; clear hSw; go_simp)
  simp only [pu7o_11, Act.put, sA, sB, sC]
  refine wpAnyH_ready (rs := [12]) (by kernel_rfl) (by simp) ?_
  refine AllReadyH.cons (o := pu7o_12) rfl (fun K hK => ?_) AllReadyH.nil
  unfold pu7o_12
  have HH := hidden hH3
  clear hH3
  refine wp_storeV 34 _ _ rfl mb 4 P4 (nn + 1) c4 (by rfl) (by rfl) (th1 HM.out HF.out) i1_FS rfl (fun wn4 hw => ?_)
  have SN := hidden (HH.out.sys (gb_setCells mb [.slice P4 (nn + 1) c4] 4 _))
  have FE := hidden (putfin hw HM.out O4.out (by decide))
  rw [← hw] at SN
  clear HH hw
  refine hK.out _ _ SN.out (fun hH4 => ?_)
  clear hK K SN
  have HH := hidden hH4
  have FQ := hidden (HQ.out _ P4 c4 tb HH.out FE.out NW.out)
  refine wpAnyH_done (by kernel_rfl) ?_ _
  refine NoPanic.normal ?_
  exact FQ.out
end Ci
end Go.Proofs.YtnkaolobcglmlaaGreatDoor
