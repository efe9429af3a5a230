import Derived.Test.YtclihahohhhhiaaDoorCmi
import Derived.Test.YtclihahohhhhiaaDoorTz
import Derived.Test.YtclihahohhhhiaaDoorRz
import Derived.Test.YtclihahohhhhiaaDoorTk
import Derived.Test.YtclihahohhhhiaaDoorCea
import Derived.Test.YtclihahohhhhiaaDoorCee
namespace Go.Proofs.YtclihahohhhhiaaDoor
open Go.RowKit
set_option linter.unusedVariables false
set_option linter.unusedSimpArgs false
open Cm (Wr Tm co bf Ls lf ins Eqm)
open Tr (cb By vn cb_len cb_app cb_one vn_len appNum_any)
namespace Ci
set_option maxRecDepth 100000
set_option maxHeartbeats 8000000
structure Gv (w w' : World) (v v' : Value) : Prop where
 g : w.grownBy w' v.ownBlock
 o : ∀ k, v'.ownBlock = some k → v.ownBlock = some k ∨ w.heap.size ≤ k
theorem Gv.trans {w w' w2 : World} {v v' v2 : Value} (h : Gv w w' v v') (k : Gv w' w2 v' v2) : Gv w w2 v v2 :=
 ⟨⟨k.g.os.trans h.g.os, k.g.tape.trans h.g.tape, k.g.output.trans h.g.output, Nat.le_trans h.g.size k.g.size, fun i hi hn => (k.g.block i (Nat.lt_of_lt_of_le hi h.g.size) (fun e => by
  rcases h.o i e.symm with h1 | h1
  ·exact hn h1.symm
  ·omega)).trans (h.g.block i hi hn)⟩, fun i hi => by
  rcases k.o i hi with h1 | h1
  ·exact h.o i h1
  ·exact Or.inr (Nat.le_trans h.g.size h1)⟩
theorem Gv.of {w w' : World} {v : Value} (h : Below w.heap.size w w') : Gv w w' v v := ⟨⟨h.os, h.tape, h.output, h.size, fun i hi _ => h.block i hi⟩, fun k hk => Or.inl hk⟩
theorem gv_of {w w' : World} {v v' : Value} (h3 : w.grownBy w' v.ownBlock) (h5 : v'.ownBlock = v.ownBlock ∨ v'.ownBlock = some w.heap.size) : Gv w w' v v' := ⟨h3, fun k hk => by
 rcases h5 with e1 | e1
 ·exact Or.inl (e1 ▸ hk)
 ·rw [e1] at hk; exact Or.inr (Nat.le_of_eq (Option.some.inj hk))⟩
theorem own_bytes {w : World} {base : Nat} {v : Value} {bs : List UInt8} (h : w.ownsRow base 5 1 v bs.length (cb bs)) (h0 : 1 ≤ bs.length) : ∃ g c : Nat, v = .slice (some ⟨g, 0, none⟩) bs.length c ∧ ∀ j u, (cb bs)[j]? = some u → w.cell? ((⟨g, 0, none⟩ : Addr).add j) = some u := by
 rcases h.2 with ⟨h1, h2⟩ | ⟨g, c, cur, h1, _⟩
 ·omega
 ·exact ⟨g, c, h1, fun j u hu => h.cells (by rw [h1]; rfl) j u hu⟩
theorem wp_appO {P : Program} {w : World} {o : Oper} {a : Act} {K : Act → World → Prop} {Q : Exit → Act → World → Prop} (s x : Operand) (t : TypeId)
  (ho : o.op = .call { callee := .builtin .append, args := #[s, x], argTypes := #[t, t] })
  (base : Nat) (e : TypeId) (i : TypeInfo) (z : Value) (size bytes : Nat) (ht : P.underlying t = some (.slice e)) (hi : P.info? e = some i) (hz : i.zero = some z)
  (hsize : i.size = size) (hby : i.bytes = bytes) (hzs : z.cells.size = size) (hsz : 0 < size)
  (v : Value) (n : Nat) (xs : List Value) (hs : a.eval s = v) (hown : w.ownsRow base e size v n xs)
  (ad : Addr) (m c : Nat) (news : List Value) (hx : a.eval x = .slice (some ad) m c) (hl : news.length = m * size) (hnews : ∀ j u, news[j]? = some u → w.cell? (ad.add j) = some u) (h1 : ∀ u ∈ news, u.oneCell' = true)
  (h63 : n + m ≤ maxLen) (hbytes : (n + m) * bytes ≤ 140737488355328) (hbase : base ≤ w.heap.size)
  (h : ∀ v' w', w'.ownsRow base e size v' (n + m) (xs ++ news) → Gv w w' v v' → K (a.put o.dst v') w') : o.wp P a w K Q := by
 obtain ⟨v', w', hr, h2, h3, h4, h5⟩ := run_append_own_at (P := P) w base t o.type e i z size bytes ht hi hz hsize hby hzs hsz v n xs hown ad m c news hl hnews h1 h63 hbytes hbase
 unfold Oper.wp execOp
 simp only [ho, resolve, invoke, builtin, Sem.run_bind, Sem.run_pure, Result.andThen_ok, List.map_toArray, List.map_cons, List.map_nil, hs, hx, hr]
 exact h v' w' h2 (gv_of h3 h5)
theorem u8info : Tryd.prog.info? 5 = some (Tryd.prog.info? 5).get! := by kernel_rfl
theorem wp_appY {w : World} {o : Oper} {a : Act} {K : Act → World → Prop} {Q : Exit → Act → World → Prop} (s x : Operand) (ho : o.op = .call { callee := .builtin .append, args := #[s, x], argTypes := #[29, 29] })
  (base : Nat) (v : Value) (bs cs : List UInt8) (hs : a.eval s = v) (hown : w.ownsRow base 5 1 v (bs).length (cb (bs))) (ad : Addr) (c : Nat) (hx : a.eval x = .slice (some ad) cs.length c) (hnews : ∀ j u, (cb cs)[j]? = some u → w.cell? (ad.add j) = some u) (hl : bs.length + cs.length ≤ 1099511627776) (hbase : base ≤ w.heap.size)
  (h : ∀ v' w', w'.ownsRow base 5 1 v' (bs ++ cs).length (cb (bs ++ cs)) → Gv w w' v v' → K (a.put o.dst v') w') : o.wp Tryd.prog a w K Q := by
 refine wp_appO s x 29 ho base 5 _ (.int .u8 0) 1 1 (by kernel_rfl) u8info (by kernel_rfl) (by kernel_rfl) (by kernel_rfl) rfl (by decide) v bs.length (cb bs) hs hown ad cs.length c (cb cs) hx (by rw [cb_len, Nat.mul_one]) hnews (cb_one cs) (by unfold maxLen; omega) (by omega) hbase (fun v' w' h1 h2 => h v' w' ?_ h2)
 rw [List.length_append, cb_app]
 exact h1
theorem apn_any (base : Nat) (v : Value) (bs : List UInt8) (n : Nat) (w : World) (ho : w.ownsRow base 5 1 v (bs).length (cb (bs))) (hb : base ≤ w.heap.size) (hl : bs.length ≤ 549755813888) (hn : n < 4611686018427387904) :
  Calls Tryd.prog 30 #[v, .int .i64 (n : Int)] w fun e w' => ∃ v', e = .returned v' ∧ w'.ownsRow base 5 1 v' (bs ++ vn n).length (cb (bs ++ vn n)) ∧ Gv w w' v v' := by
 have CA := hidden (appNum_any none 0 [] n w ⟨fun _ => ⟨rfl, rfl⟩, fun a ha => by cases ha⟩ (by show 0 ≤ _; omega) (by omega))
 have HO := hidden ho
 have HB := hidden hb
 have HL := hidden hl
 have u9 : IntKind.u64.wrap (n : Int) = (n : Int) := by
  show (n : Int) % 18446744073709551616 = (n : Int)
  omega
 clear ho hb hl hn
 go_enter Tryd.func30, Tryd.ntmps30
 go_upto_region 1 with fail
 go_wp2_with (first | (go_at_call 54; refine CA.out.mono ?_; rintro e w1 ⟨v1, rfl, ho1, hb1⟩; rw [List.nil_append] at ho1; obtain ⟨g1, c1, e1, hc1⟩ := own_bytes ho1 (vn_len n).1; subst e1; have B1 := hidden hb1; have C1 := hidden hc1; have O1 := hidden (own_keepT HO.out hb1); clear hb1 ho1 hc1 CA) | (at_builtin; have x4 : bs.length + (vn n).length ≤ maxLen := (by have := vn_len n; have := HL.out; unfold maxLen; omega); have x5 : (bs.length + (vn n).length) * 1 ≤ 140737488355328 := (by have := vn_len n; have := HL.out; omega); refine wpList_append_own_at _ rfl _ _ 29 rfl base 5 _ (.int .u8 0) 1 1 (by kernel_rfl) u8info (by kernel_rfl) (by kernel_rfl) (by kernel_rfl) rfl (by decide) v bs.length (cb bs) rfl O1.out ⟨g1, 0, none⟩ (vn n).length c1 (cb (vn n)) rfl (by rw [cb_len, Nat.mul_one]) C1.out (cb_one _) x4 x5 (Nat.le_trans HB.out B1.out.size) ?_; intro v2 w2 ho2 hg2 _ ht2; have O2 := hidden ho2; have G2 : Hid (Gv w1 w2 v v2) := hidden (gv_of hg2 ht2); clear ho2 hg2 ht2 x4 x5))
 exact bodyPost_ret (v := v2) (by simp [results, Tryd.results30, go_sem]) rfl ⟨v2, rfl, by rw [List.length_append, cb_app]; exact O2.out, (Gv.of B1.out).trans G2.out⟩
end Ci
end Go.Proofs.YtclihahohhhhiaaDoor
namespace Go.Proofs.YtclihahohhhhiaaDoor
open Go.RowKit
set_option linter.unusedVariables false
set_option linter.unusedSimpArgs false
open Cm (Wr Tm co bf Ls lf ins Eqm)
open Tr (cb By vn cb_len cb_app cb_one vn_len appNum_any)
namespace Ci
set_option maxRecDepth 100000
set_option maxHeartbeats 8000000
def kb32 (N : Int) : List UInt8 := (List.range 32).map fun j => UInt8.ofNat (byt N j).toNat
theorem kb32_cb (N : Int) : cb (kb32 N) = (bytes N).map fun z => Value.int .u8 z := by
 unfold kb32 cb bytes
 rw [List.map_map, List.map_map]
 refine List.map_congr_left (fun j hj => ?_)
 have h := byt_bd N j
 show Value.int .u8 ((UInt8.ofNat (byt N j).toNat).toNat : Int) = Value.int .u8 (byt N j)
 congr 1
 rw [UInt8.toNat_ofNat']
 omega
theorem build3I (a b c : Int) (w : World) : (Instr.buildSlice 66 3 #[(0, .int .i64 a), (1, .int .i64 b), (2, .int .i64 c)]).run Tryd.prog w = .ok (.slice (some ⟨w.heap.size, 0, none⟩) 3 3) (w.alloc (.cells #[.int .i64 a, .int .i64 b, .int .i64 c] 3)) := by kernel_rfl
theorem wp_b3 {w : World} {o : Oper} {a : Act} {K : Act → World → Prop} {Q : Exit → Act → World → Prop} (x0 x1 x2 : Operand) (ho : o.op = .buildSlice 66 3 #[(0, x0), (1, x1), (2, x2)]) (a0 a1 a2 : Int) (h0 : a.eval x0 = .int .i64 a0) (h1 : a.eval x1 = .int .i64 a1) (h2 : a.eval x2 = .int .i64 a2) (h : ∀ (tb : Nat) (wq : World), tb = w.heap.size → wq = w.alloc (.cells #[.int .i64 a0, .int .i64 a1, .int .i64 a2] 3) → K (a.put o.dst (.slice (some ⟨tb, 0, none⟩) 3 3)) wq) : o.wp Tryd.prog a w K Q := by
 have hr := build3I a0 a1 a2 w
 unfold Oper.wp execOp
 simp only [ho, Sem.run_bind, Sem.run_pure, Result.andThen_ok, List.map_toArray, List.map_cons, List.map_nil, h0, h1, h2, hr]
 exact h _ _ rfl rfl
def en17o_0 : Oper := { dst := some 58, op := Op.move (Operand.tmp 3), type := 29, pos := "bytes.go:32", after := #[], guard := none }
def en17o_1 : Oper := { dst := some 59, op := Op.fieldAddr 69 (Operand.tmp 9) 0, type := 0, pos := "bytes.go:32", after := #[], guard := none }
def en17o_2 : Oper := { dst := some 60, op := Op.fieldAddr 32 (Operand.tmp 59) 0, type := 0, pos := "bytes.go:32", after := #[{ on := 1, ground := Ground.data }], guard := none }
def en17o_3 : Oper := { dst := some 61, op := Op.load 3 (Operand.tmp 60), type := 3, pos := "bytes.go:32", after := #[{ on := 2, ground := Ground.data }], guard := none }
def en17o_4 : Oper := { dst := some 62, op := Op.call { callee := Callee.value (Operand.func 30), args := #[Operand.tmp 58, Operand.tmp 61], argTypes := #[29, 3] }, type := 29, pos := "bytes.go:32", after := #[{ on := 0, ground := Ground.data }, { on := 3, ground := Ground.data }], guard := none }
def en17o_5 : Oper := { dst := some 63, op := Op.fieldAddr 69 (Operand.tmp 9) 0, type := 0, pos := "bytes.go:32", after := #[], guard := none }
def en17o_6 : Oper := { dst := some 64, op := Op.fieldAddr 32 (Operand.tmp 63) 1, type := 0, pos := "bytes.go:32", after := #[{ on := 5, ground := Ground.data }], guard := none }
def en17o_7 : Oper := { dst := some 65, op := Op.load 3 (Operand.tmp 64), type := 3, pos := "bytes.go:32", after := #[{ on := 6, ground := Ground.data }], guard := none }
def en17o_8 : Oper := { dst := some 66, op := Op.call { callee := Callee.value (Operand.func 30), args := #[Operand.tmp 62, Operand.tmp 65], argTypes := #[29, 3] }, type := 29, pos := "bytes.go:32", after := #[{ on := 4, ground := Ground.data }, { on := 7, ground := Ground.data }, { on := 4, ground := Ground.chain }], guard := none }
def en17o_9 : Oper := { dst := some 67, op := Op.slice 71 (Operand.tmp 10) none none none, type := 29, pos := "bytes.go:32", after := #[], guard := none }
def en17o_10 : Oper := { dst := some 68, op := Op.call { callee := Callee.builtin Builtin.append, args := #[Operand.tmp 66, Operand.tmp 67], argTypes := #[29, 29] }, type := 29, pos := "bytes.go:32", after := #[{ on := 8, ground := Ground.data }, { on := 9, ground := Ground.data }, { on := 8, ground := Ground.chain }], guard := none }
def en17o_11 : Oper := { dst := some 3, op := Op.assign (Operand.tmp 68), type := 29, pos := "bytes.go:32", after := #[{ on := 10, ground := Ground.data }, { on := 10, ground := Ground.chain }, { on := 0, ground := Ground.phase }, { on := 1, ground := Ground.phase }, { on := 2, ground := Ground.phase }, { on := 3, ground := Ground.phase }, { on := 4, ground := Ground.phase }, { on := 5, ground := Ground.phase }, { on := 6, ground := Ground.phase }, { on := 7, ground := Ground.phase }, { on := 8, ground := Ground.phase }, { on := 9, ground := Ground.phase }, { on := 10, ground := Ground.phase }], guard := none }
def en17o : Array Oper := #[en17o_0, en17o_1, en17o_2, en17o_3, en17o_4, en17o_5, en17o_6, en17o_7, en17o_8, en17o_9, en17o_10, en17o_11]
set_option maxRecDepth 100000 in
set_option maxHeartbeats 16000000 in
theorem en17 (Q : Exit → Act → World → Prop) (base tb kb kk ii : Nat) (v : Value) (bs : List UInt8) (N : Int) (u0 u1 u2 u4 u5 u6 u7 u8 u11 u12 u13 u14 u15 u16 u17 u18 u19 u20 u21 u22 u23 u24 u25 u26 u27 u28 u29 u30 u31 u32 u33 u34 u35 u36 u37 u38 u39 u40 u41 u42 u43 u44 u45 u46 u47 u48 u49 u50 u51 u52 u53 u54 u55 u56 u57 u58 u59 u60 u61 u62 u63 u64 u65 u66 u67 u68 u69 u70 u71 : Value) (W : World)
  (nt : some tb ≠ v.ownBlock) (nk : some kb ≠ v.ownBlock) (hbs : base ≤ W.heap.size) (hl : bs.length ≤ 274877906944) (hk : kk < 4611686018427387904) (hi : ii < 4611686018427387904) (ow : W.ownsRow base 5 1 v (bs).length (cb (bs)))
  (t0 : W.cell? ⟨tb, 0, none⟩ = some (.int .i64 (kk : Int))) (t1 : W.cell? ⟨tb, 1, none⟩ = some (.int .i64 (ii : Int))) (rg : W.rangeAt kb 0 (cb (kb32 N)))
  (HQ : Hid (∀ (wz : World) (v1 v2 v3 : Value), wz.ownsRow base 5 1 v3 (bs ++ vn kk ++ vn ii ++ kb32 N).length (cb (bs ++ vn kk ++ vn ii ++ kb32 N)) → Gv W wz v v3 → Q .normal ⟨#[u0, u1, u2, v3, u4, u5, u6, u7, u8, .pointer (some ⟨tb, 0, none⟩), .pointer (some ⟨kb, 0, none⟩), u11, u12, u13, u14, u15, u16, u17, u18, u19, u20, u21, u22, u23, u24, u25, u26, u27, u28, u29, u30, u31, u32, u33, u34, u35, u36, u37, u38, u39, u40, u41, u42, u43, u44, u45, u46, u47, u48, u49, u50, u51, u52, u53, u54, u55, u56, u57, v, .pointer (some ⟨tb, 0, none⟩), .pointer (some ⟨tb, 0, none⟩), .int .i64 (kk : Int), v1, .pointer (some ⟨tb, 0, none⟩), .pointer (some ⟨tb, 1, none⟩), .int .i64 (ii : Int), v2, .slice (some ⟨kb, 0, none⟩) 32 32, v3, u69, u70, u71], []⟩ wz)) : (Code.region 17 en17o true).wp Tryd.prog Q ⟨#[u0, u1, u2, v, u4, u5, u6, u7, u8, .pointer (some ⟨tb, 0, none⟩), .pointer (some ⟨kb, 0, none⟩), u11, u12, u13, u14, u15, u16, u17, u18, u19, u20, u21, u22, u23, u24, u25, u26, u27, u28, u29, u30, u31, u32, u33, u34, u35, u36, u37, u38, u39, u40, u41, u42, u43, u44, u45, u46, u47, u48, u49, u50, u51, u52, u53, u54, u55, u56, u57, u58, u59, u60, u61, u62, u63, u64, u65, u66, u67, u68, u69, u70, u71], []⟩ W := by
 have G := hidden (Gv.of (v := v) (bl_drew W))
 have O0 := hidden (own_keepT ow (bl_drew W))
 clear ow
 unfold en17o
 refine wp_region_noPanic ?_
 refine wp_region_held_drew (S := fun x => W.grownBy x v.ownBlock) (by kernel_rfl) ((Gv.of (v := v) (bl_drew W)).g) (fun hH0 => ?_)
 refine tk 0 en17o_0 (v) rfl (by kernel_rfl) hH0 rfl (fun w0 hSw => ?_) ?_
 ·(unfold en17o_0; clear hSw; go_simp)
 simp only [en17o_0, Act.put, sA, sB, sC]
 refine tk 1 en17o_1 (.pointer (some ⟨tb, 0, none⟩)) rfl (by kernel_rfl) hH0 rfl (fun w0 hSw => ?_) ?_
 ·(unfold en17o_1; clear hSw; go_simp)
 simp only [en17o_1, Act.put, sA, sB, sC]
 refine tk 5 en17o_5 (.pointer (some ⟨tb, 0, none⟩)) rfl (by kernel_rfl) hH0 rfl (fun w0 hSw => ?_) ?_
 ·(unfold en17o_5; clear hSw; go_simp)
 simp only [en17o_5, Act.put, sA, sB, sC]
 refine tk 9 en17o_9 (.slice (some ⟨kb, 0, none⟩) 32 32) rfl (by kernel_rfl) hH0 rfl (fun w0 hSw => ?_) ?_
 ·(unfold en17o_9; clear hSw; go_simp)
 simp only [en17o_9, Act.put, sA, sB, sC]
 refine tk 2 en17o_2 (.pointer (some ⟨tb, 0, none⟩)) rfl (by kernel_rfl) hH0 rfl (fun w0 hSw => ?_) ?_
 ·(unfold en17o_2; clear hSw; go_simp)
 simp only [en17o_2, Act.put, sA, sB, sC]
 refine tk 6 en17o_6 (.pointer (some ⟨tb, 1, none⟩)) rfl (by kernel_rfl) hH0 rfl (fun w0 hSw => ?_) ?_
 ·(unfold en17o_6; clear hSw; go_simp)
 simp only [en17o_6, Act.put, sA, sB, sC]
 refine tk 3 en17o_3 (.int .i64 (kk : Int)) rfl (by kernel_rfl) hH0 rfl (fun w0 hSw => ?_) ?_
 ·(unfold en17o_3; have hS : W.grownBy w0 v.ownBlock := hSw; have a0 := hS.cell t0 nt; clear hS hSw; go_simp)
 simp only [en17o_3, Act.put, sA, sB, sC]
 refine tk 7 en17o_7 (.int .i64 (ii : Int)) rfl (by kernel_rfl) hH0 rfl (fun w0 hSw => ?_) ?_
 ·(unfold en17o_7; have hS : W.grownBy w0 v.ownBlock := hSw; have a0 := hS.cell t1 nt; clear hS hSw; go_simp)
 simp only [en17o_7, Act.put, sA, sB, sC]
 refine wpAnyH_ready (rs := [4]) (by kernel_rfl) (by simp) ?_
 refine AllReadyH.cons (o := en17o_4) rfl (fun K hK => ?_) AllReadyH.nil
 unfold en17o_4
 have HH := hidden hH0
 clear hH0
 go_simp
 refine (apn_any base v bs kk _ O0.out (Nat.le_trans hbs HH.out.size) (by omega) hk).mono ?_
 rintro e wn1 ⟨v1, rfl, ho, hg⟩
 have SN := hidden ((G.out.trans hg).g)
 replace G := hidden (G.out.trans hg)
 have O1 := hidden (ho)
 clear HH ho hg O0
 go_wp2_with fail
 refine hK.out _ _ SN.out (fun hH1 => ?_)
 clear hK K SN
 refine wpAnyH_ready (rs := [8]) (by kernel_rfl) (by simp) ?_
 refine AllReadyH.cons (o := en17o_8) rfl (fun K hK => ?_) AllReadyH.nil
 unfold en17o_8
 have HH := hidden hH1
 clear hH1
 go_simp
 refine (apn_any base v1 (bs ++ vn kk) ii _ O1.out (Nat.le_trans hbs HH.out.size) (by have := vn_len kk; rw [List.length_append]; omega) hi).mono ?_
 rintro e wn2 ⟨v2, rfl, ho, hg⟩
 have SN := hidden ((G.out.trans hg).g)
 replace G := hidden (G.out.trans hg)
 have O2 := hidden (ho)
 clear HH ho hg O1
 go_wp2_with fail
 refine hK.out _ _ SN.out (fun hH2 => ?_)
 clear hK K SN
 refine wpAnyH_ready (rs := [10]) (by kernel_rfl) (by simp) ?_
 refine AllReadyH.cons (o := en17o_10) rfl (fun K hK => ?_) AllReadyH.nil
 unfold en17o_10
 have HH := hidden hH2
 clear hH2
 refine wp_appY _ _ rfl base v2 (bs ++ vn kk ++ vn ii) (kb32 N) rfl O2.out ⟨kb, 0, none⟩ 32 rfl (fun j u hu => by rw [Addr.add_mid]; exact HH.out.cell (rg j u hu) nk) (by have := vn_len kk; have := vn_len ii; rw [List.length_append, List.length_append]; show _ + 32 ≤ _; omega) (Nat.le_trans hbs HH.out.size) (fun v3 wn3 ho hg => ?_)
 have SN := hidden ((G.out.trans hg).g)
 replace G := hidden (G.out.trans hg)
 have O3 := hidden (ho)
 clear HH ho hg O2
 simp only [Act.put, sA, sB, sC]
 refine hK.out _ _ SN.out (fun hH3 => ?_)
 clear hK K SN
 refine tk 11 en17o_11 (v3) rfl (by kernel_rfl) hH3 rfl (fun w0 hSw => ?_) ?_
 ·(unfold en17o_11; clear hSw; go_simp)
 simp only [en17o_11, Act.put, sA, sB, sC]
 have HH := hidden hH3
 have FQ := hidden (HQ.out _ v1 v2 v3 O3.out G.out)
 refine wpAnyH_done (by kernel_rfl) ?_ _
 refine NoPanic.normal ?_
 exact FQ.out
def en4o_0 : Oper := { dst := some 13, op := Op.move (Operand.tmp 0), type := 27, pos := "bytes.go:25", after := #[], guard := none }
def en4o_1 : Oper := { dst := some 14, op := Op.nilCheck (Operand.tmp 13), type := 0, pos := "bytes.go:25", after := #[{ on := 0, ground := Ground.data }], guard := none }
def en4o_2 : Oper := { dst := some 15, op := Op.fieldAddr 65 (Operand.tmp 14) 0, type := 0, pos := "bytes.go:25", after := #[{ on := 1, ground := Ground.data }], guard := none }
def en4o_3 : Oper := { dst := some 16, op := Op.load 3 (Operand.tmp 15), type := 3, pos := "bytes.go:25", after := #[{ on := 2, ground := Ground.data }], guard := none }
def en4o_4 : Oper := { dst := some 17, op := Op.move (Operand.tmp 0), type := 27, pos := "bytes.go:25", after := #[], guard := none }
def en4o_5 : Oper := { dst := some 18, op := Op.nilCheck (Operand.tmp 17), type := 0, pos := "bytes.go:25", after := #[{ on := 4, ground := Ground.data }], guard := none }
def en4o_6 : Oper := { dst := some 19, op := Op.fieldAddr 65 (Operand.tmp 18) 1, type := 0, pos := "bytes.go:25", after := #[{ on := 5, ground := Ground.data }], guard := none }
def en4o_7 : Oper := { dst := some 20, op := Op.load 3 (Operand.tmp 19), type := 3, pos := "bytes.go:25", after := #[{ on := 6, ground := Ground.data }], guard := none }
def en4o_8 : Oper := { dst := some 21, op := Op.move (Operand.tmp 0), type := 27, pos := "bytes.go:25", after := #[], guard := none }
def en4o_9 : Oper := { dst := some 22, op := Op.nilCheck (Operand.tmp 21), type := 0, pos := "bytes.go:25", after := #[{ on := 8, ground := Ground.data }], guard := none }
def en4o_10 : Oper := { dst := some 23, op := Op.fieldAddr 65 (Operand.tmp 22) 2, type := 0, pos := "bytes.go:25", after := #[{ on := 9, ground := Ground.data }], guard := none }
def en4o_11 : Oper := { dst := some 24, op := Op.load 63 (Operand.tmp 23), type := 63, pos := "bytes.go:25", after := #[{ on := 10, ground := Ground.data }], guard := none }
def en4o_12 : Oper := { dst := some 25, op := Op.call { callee := Callee.builtin Builtin.len, args := #[Operand.tmp 24], argTypes := #[63] }, type := 3, pos := "bytes.go:25", after := #[{ on := 11, ground := Ground.data }], guard := none }
def en4o_13 : Oper := { dst := some 26, op := Op.buildSlice 66 3 #[(0, Operand.tmp 16), (1, Operand.tmp 20), (2, Operand.tmp 25)], type := 66, pos := "bytes.go:25", after := #[{ on := 3, ground := Ground.data }, { on := 7, ground := Ground.data }, { on := 12, ground := Ground.data }], guard := none }
def en4o_14 : Oper := { dst := some 27, op := Op.call { callee := Callee.builtin Builtin.len, args := #[Operand.tmp 26], argTypes := #[66] }, type := 3, pos := "bytes.go:25", after := #[{ on := 13, ground := Ground.data }], guard := none }
def en4o_15 : Oper := { dst := some 28, op := Op.move (Operand.const (Value.int IntKind.i64 0)), type := 3, pos := "bytes.go:25", after := #[], guard := none }
def en4o : Array Oper := #[en4o_0, en4o_1, en4o_2, en4o_3, en4o_4, en4o_5, en4o_6, en4o_7, en4o_8, en4o_9, en4o_10, en4o_11, en4o_12, en4o_13, en4o_14, en4o_15]
set_option maxRecDepth 100000 in
set_option maxHeartbeats 16000000 in
theorem en4 (Q : Exit → Act → World → Prop) (s m Kg q c : Nat) (P : Option Addr) (u1 u2 u3 u4 u5 u6 u7 u8 u9 u10 u11 u12 u13 u14 u15 u16 u17 u18 u19 u20 u21 u22 u23 u24 u25 u26 u27 u28 u29 u30 u31 u32 u33 u34 u35 u36 u37 u38 u39 u40 u41 u42 u43 u44 u45 u46 u47 u48 u49 u50 u51 u52 u53 u54 u55 u56 u57 u58 u59 u60 u61 u62 u63 u64 u65 u66 u67 u68 u69 u70 u71 : Value) (W : World)
  (c0 : W.cell? ⟨s, 0, none⟩ = some (.int .i64 (m : Int))) (c1 : W.cell? ⟨s, 1, none⟩ = some (.int .i64 (Kg : Int))) (c2 : W.cell? ⟨s, 2, none⟩ = some (.slice P q c))
  (HQ : Hid (∀ (wz : World) (tb : Nat), Below W.heap.size W wz → wz.rangeAt tb 0 [.int .i64 (m : Int), .int .i64 (Kg : Int), .int .i64 (q : Int)] → Q .normal ⟨#[.pointer (some ⟨s, 0, none⟩), u1, u2, u3, u4, u5, u6, u7, u8, u9, u10, u11, u12, .pointer (some ⟨s, 0, none⟩), .pointer (some ⟨s, 0, none⟩), .pointer (some ⟨s, 0, none⟩), .int .i64 (m : Int), .pointer (some ⟨s, 0, none⟩), .pointer (some ⟨s, 0, none⟩), .pointer (some ⟨s, 1, none⟩), .int .i64 (Kg : Int), .pointer (some ⟨s, 0, none⟩), .pointer (some ⟨s, 0, none⟩), .pointer (some ⟨s, 2, none⟩), .slice P q c, .int .i64 (q : Int), .slice (some ⟨tb, 0, none⟩) 3 3, .int .i64 3, .int .i64 0, u29, u30, u31, u32, u33, u34, u35, u36, u37, u38, u39, u40, u41, u42, u43, u44, u45, u46, u47, u48, u49, u50, u51, u52, u53, u54, u55, u56, u57, u58, u59, u60, u61, u62, u63, u64, u65, u66, u67, u68, u69, u70, u71], []⟩ wz)) : (Code.region 4 en4o true).wp Tryd.prog Q ⟨#[.pointer (some ⟨s, 0, none⟩), u1, u2, u3, u4, u5, u6, u7, u8, u9, u10, u11, u12, u13, u14, u15, u16, u17, u18, u19, u20, u21, u22, u23, u24, u25, u26, u27, u28, u29, u30, u31, u32, u33, u34, u35, u36, u37, u38, u39, u40, u41, u42, u43, u44, u45, u46, u47, u48, u49, u50, u51, u52, u53, u54, u55, u56, u57, u58, u59, u60, u61, u62, u63, u64, u65, u66, u67, u68, u69, u70, u71], []⟩ W := by
 unfold en4o
 refine wp_region_noPanic ?_
 refine wp_region_held_drew (S := fun x => Below W.heap.size W x) (by kernel_rfl) (bl_drew W) (fun hH0 => ?_)
 refine tk 0 en4o_0 (.pointer (some ⟨s, 0, none⟩)) rfl (by kernel_rfl) hH0 rfl (fun w0 hSw => ?_) ?_
 ·(unfold en4o_0; clear hSw; go_simp)
 simp only [en4o_0, Act.put, sA, sB, sC]
 refine tk 4 en4o_4 (.pointer (some ⟨s, 0, none⟩)) rfl (by kernel_rfl) hH0 rfl (fun w0 hSw => ?_) ?_
 ·(unfold en4o_4; clear hSw; go_simp)
 simp only [en4o_4, Act.put, sA, sB, sC]
 refine tk 8 en4o_8 (.pointer (some ⟨s, 0, none⟩)) rfl (by kernel_rfl) hH0 rfl (fun w0 hSw => ?_) ?_
 ·(unfold en4o_8; clear hSw; go_simp)
 simp only [en4o_8, Act.put, sA, sB, sC]
 refine tk 15 en4o_15 (.int .i64 0) rfl (by kernel_rfl) hH0 rfl (fun w0 hSw => ?_) ?_
 ·(unfold en4o_15; clear hSw; go_simp)
 simp only [en4o_15, Act.put, sA, sB, sC]
 refine tk 1 en4o_1 (.pointer (some ⟨s, 0, none⟩)) rfl (by kernel_rfl) hH0 rfl (fun w0 hSw => ?_) ?_
 ·(unfold en4o_1; clear hSw; go_simp)
 simp only [en4o_1, Act.put, sA, sB, sC]
 refine tk 5 en4o_5 (.pointer (some ⟨s, 0, none⟩)) rfl (by kernel_rfl) hH0 rfl (fun w0 hSw => ?_) ?_
 ·(unfold en4o_5; clear hSw; go_simp)
 simp only [en4o_5, Act.put, sA, sB, sC]
 refine tk 9 en4o_9 (.pointer (some ⟨s, 0, none⟩)) rfl (by kernel_rfl) hH0 rfl (fun w0 hSw => ?_) ?_
 ·(unfold en4o_9; clear hSw; go_simp)
 simp only [en4o_9, Act.put, sA, sB, sC]
 refine tk 2 en4o_2 (.pointer (some ⟨s, 0, none⟩)) rfl (by kernel_rfl) hH0 rfl (fun w0 hSw => ?_) ?_
 ·(unfold en4o_2; clear hSw; go_simp)
 simp only [en4o_2, Act.put, sA, sB, sC]
 refine tk 6 en4o_6 (.pointer (some ⟨s, 1, none⟩)) rfl (by kernel_rfl) hH0 rfl (fun w0 hSw => ?_) ?_
 ·(unfold en4o_6; clear hSw; go_simp)
 simp only [en4o_6, Act.put, sA, sB, sC]
 refine tk 10 en4o_10 (.pointer (some ⟨s, 2, none⟩)) rfl (by kernel_rfl) hH0 rfl (fun w0 hSw => ?_) ?_
 ·(unfold en4o_10; clear hSw; go_simp)
 simp only [en4o_10, Act.put, sA, sB, sC]
 refine tk 3 en4o_3 (.int .i64 (m : Int)) rfl (by kernel_rfl) hH0 rfl (fun w0 hSw => ?_) ?_
 ·(unfold en4o_3; have hS : Below W.heap.size W w0 := hSw; have a0 := cell_keep c0 hS; clear hS hSw; go_simp)
 simp only [en4o_3, Act.put, sA, sB, sC]
 refine tk 7 en4o_7 (.int .i64 (Kg : Int)) rfl (by kernel_rfl) hH0 rfl (fun w0 hSw => ?_) ?_
 ·(unfold en4o_7; have hS : Below W.heap.size W w0 := hSw; have a0 := cell_keep c1 hS; clear hS hSw; go_simp)
 simp only [en4o_7, Act.put, sA, sB, sC]
 refine tk 11 en4o_11 (.slice P q c) rfl (by kernel_rfl) hH0 rfl (fun w0 hSw => ?_) ?_
 ·(unfold en4o_11; have hS : Below W.heap.size W w0 := hSw; have a0 := cell_keep c2 hS; clear hS hSw; go_simp)
 simp only [en4o_11, Act.put, sA, sB, sC]
 refine tk 12 en4o_12 (.int .i64 (q : Int)) rfl (by kernel_rfl) hH0 rfl (fun w0 hSw => ?_) ?_
 ·(unfold en4o_12; clear hSw; go_simp)
 simp only [en4o_12, Act.put, sA, sB, sC]
 refine wpAnyH_ready (rs := [13]) (by kernel_rfl) (by simp) ?_
 refine AllReadyH.cons (o := en4o_13) rfl (fun K hK => ?_) AllReadyH.nil
 unfold en4o_13
 have HH := hidden hH0
 clear hH0
 refine wp_b3 _ _ _ rfl (m : Int) (Kg : Int) (q : Int) rfl rfl rfl (fun tb wn1 htb hwq => ?_)
 have SN := hidden ((by rw [hwq]; exact bl_trans HH.out (bl_alloc _ _) : Below W.heap.size W wn1))
 have R3 := hidden ((by rw [htb, hwq]; exact range_newM _ _ _ : wn1.rangeAt tb 0 [.int .i64 (m : Int), .int .i64 (Kg : Int), .int .i64 (q : Int)]))
 clear HH htb hwq
 simp only [Act.put, sA, sB, sC]
 refine hK.out _ _ SN.out (fun hH1 => ?_)
 clear hK K SN
 refine tk 14 en4o_14 (.int .i64 3) rfl (by kernel_rfl) hH1 rfl (fun w0 hSw => ?_) ?_
 ·(unfold en4o_14; clear hSw; go_simp)
 simp only [en4o_14, Act.put, sA, sB, sC]
 have HH := hidden hH1
 have FQ := hidden (HQ.out _ tb HH.out R3.out)
 refine wpAnyH_done (by kernel_rfl) ?_ _
 refine NoPanic.normal ?_
 exact FQ.out
def tmB (x : Tm) : List UInt8 := vn x.1.1.toNat ++ vn x.1.2.toNat ++ kb32 ((lst x.2).n % Sm.L)
def xsB (X : List Tm) : List UInt8 := vn X.length ++ X.flatMap tmB
def enB (m K : Nat) (Q : List (List Tm)) : List UInt8 := vn m ++ vn K ++ vn Q.length ++ Q.flatMap xsB
theorem tmB_len (x : Tm) : (tmB x).length ≤ 52 := by
 have h1 := vn_len x.1.1.toNat
 have h2 := vn_len x.1.2.toNat
 have h3 : (kb32 ((lst x.2).n % Sm.L)).length = 32 := rfl
 unfold tmB
 rw [List.length_append, List.length_append]
 omega
theorem flatm_len {α : Type} (f : α → List UInt8) (n : Nat) : ∀ (l : List α), (∀ x ∈ l, (f x).length ≤ n) → (l.flatMap f).length ≤ l.length * n
 | [], _ => by simp
 | x :: l, h => by
  have h1 := flatm_len f n l (fun y hy => h y (by simp [hy]))
  have h2 := h x (by simp)
  rw [List.flatMap_cons, List.length_append, List.length_cons, Nat.add_mul]
  omega
theorem xsB_len (X : List Tm) : (xsB X).length ≤ 10 + X.length * 52 := by
 have h1 := vn_len X.length
 have h2 := flatm_len tmB 52 X (fun x _ => tmB_len x)
 unfold xsB
 rw [List.length_append]
 omega
theorem up_len : ∀ (l : List Int) (a n : Int), l.Pairwise (· < ·) → (∀ x ∈ l, a ≤ x ∧ x < n) → a ≤ n → (l.length : Int) ≤ n - a
 | [], a, n, _, _, h => by simp; omega
 | x :: l, a, n, hp, hb, h => by
  have hx := hb x (by simp)
  have h1 := up_len l (x + 1) n (List.pairwise_cons.1 hp).2 (fun y hy => ⟨by have := (List.pairwise_cons.1 hp).1 y hy; omega, (hb y (by simp [hy])).2⟩) (by omega)
  rw [List.length_cons]
  omega
theorem ls_len {X : List Tm} {m K : Nat} (hL : Ls Sm.L X) (hw : ∀ x ∈ X, hs m K x.1 = true) (hK : K ≤ 1024) (hm : m ≤ 1024) : X.length ≤ 6150 := by
 have key : ∀ x ∈ X, 1 ≤ x.1.1 ∧ x.1.1 < 6 ∧ 0 ≤ x.1.2 ∧ x.1.2 < 1025 := fun x hx => by
  have h := hw x hx
  unfold hs at h
  simp only [Bool.and_eq_true, decide_eq_true_eq] at h
  obtain ⟨h1, h2, h3, h4⟩ := h
  refine ⟨h1, h2, h3, ?_⟩
  have : ct m K x.1.1.toNat ≤ 1024 := by
   unfold ct
   split <;> omega
  omega
 have h := up_len (X.map fun x => x.1.1 * 1025 + x.1.2) 0 6150 (by
  rw [List.pairwise_map]
  refine hL.up.imp_of_mem (fun {x y} hx hy hb => ?_)
  have hx := key x hx
  have hy := key y hy
  rw [Cm.bf_iff] at hb
  omega) (fun z hz => by
  obtain ⟨x, hx, rfl⟩ := List.mem_map.1 hz
  have := key x hx
  omega) (by omega)
 rw [List.length_map] at h
 omega
end Ci
end Go.Proofs.YtclihahohhhhiaaDoor
namespace Go.Proofs.YtclihahohhhhiaaDoor
open Go.RowKit
set_option linter.unusedVariables false
set_option linter.unusedSimpArgs false
namespace Ci
set_option maxRecDepth 100000
set_option maxHeartbeats 16000000
def en16o : Array Oper := #[{ dst := some 55, op := Op.fieldAddr 69 (Operand.tmp 9) 1, type := 0, pos := "bytes.go:31", after := #[], guard := none },
 { dst := some 56, op := Op.load 41 (Operand.tmp 55), type := 41, pos := "bytes.go:31", after := #[{ on := 0, ground := Ground.data }], guard := none },
 { dst := some 57, op := Op.call { callee := Callee.value (Operand.func 31), args := #[Operand.tmp 56], argTypes := #[41] }, type := 71, pos := "bytes.go:31", after := #[{ on := 1, ground := Ground.data }], guard := none },
 { dst := some 10, op := Op.alloc 71, type := 0, pos := "bytes.go:31", after := #[], guard := none },
 { dst := none, op := Op.store 71 (Operand.tmp 10) (Operand.tmp 57), type := 0, pos := "bytes.go:31", after := #[{ on := 3, ground := Ground.data }, { on := 2, ground := Ground.data }, { on := 2, ground := Ground.chain }, { on := 0, ground := Ground.phase }, { on := 1, ground := Ground.phase }, { on := 2, ground := Ground.phase }, { on := 3, ground := Ground.phase }], guard := none }]
theorem i32 : (Tryd.prog.info? 71).map (·.size) = some 32 := by kernel_rfl
theorem th32 (w : World) : (w.alloc (.cells #[.int .u8 0, .int .u8 0, .int .u8 0, .int .u8 0, .int .u8 0, .int .u8 0, .int .u8 0, .int .u8 0, .int .u8 0, .int .u8 0, .int .u8 0, .int .u8 0, .int .u8 0, .int .u8 0, .int .u8 0, .int .u8 0, .int .u8 0, .int .u8 0, .int .u8 0, .int .u8 0, .int .u8 0, .int .u8 0, .int .u8 0, .int .u8 0, .int .u8 0, .int .u8 0, .int .u8 0, .int .u8 0, .int .u8 0, .int .u8 0, .int .u8 0, .int .u8 0] 71)).there w.heap.size 0 32 := there_newM w [.int .u8 0, .int .u8 0, .int .u8 0, .int .u8 0, .int .u8 0, .int .u8 0, .int .u8 0, .int .u8 0, .int .u8 0, .int .u8 0, .int .u8 0, .int .u8 0, .int .u8 0, .int .u8 0, .int .u8 0, .int .u8 0, .int .u8 0, .int .u8 0, .int .u8 0, .int .u8 0, .int .u8 0, .int .u8 0, .int .u8 0, .int .u8 0, .int .u8 0, .int .u8 0, .int .u8 0, .int .u8 0, .int .u8 0, .int .u8 0, .int .u8 0, .int .u8 0] 71
theorem en16 (Q : Exit → Act → World → Prop) (tb : Nat) (p : E4) (cs : List Value) (u0 u1 u2 u3 u4 u5 u6 u7 u8 u10 u11 u12 u13 u14 u15 u16 u17 u18 u19 u20 u21 u22 u23 u24 u25 u26 u27 u28 u29 u30 u31 u32 u33 u34 u35 u36 u37 u38 u39 u40 u41 u42 u43 u44 u45 u46 u47 u48 u49 u50 u51 u52 u53 u54 u55 u56 u57 u58 u59 u60 u61 u62 u63 u64 u65 u66 u67 u68 u69 u70 u71 : Value) (W : World) (t2 : W.cell? ⟨tb, 2, none⟩ = some (.int .u64 p.x0)) (t3 : W.cell? ⟨tb, 3, none⟩ = some (.int .u64 p.x1)) (t4 : W.cell? ⟨tb, 4, none⟩ = some (.int .u64 p.x2)) (t5 : W.cell? ⟨tb, 5, none⟩ = some (.int .u64 p.x3)) (hl : cs.length = 32) (h1 : cs.toArray.all (·.oneCell') = true)
  (C : Hid (Calls Tryd.prog 31 #[.agg #[.int .u64 p.x0, .int .u64 p.x1, .int .u64 p.x2, .int .u64 p.x3]] W fun e w' => e = .returned (.agg cs.toArray) ∧ Below W.heap.size W w'))
  (HQ : Hid (∀ (wz : World) (kb : Nat) (v57 : Value), Below W.heap.size W wz → W.heap.size ≤ kb → wz.rangeAt kb 0 cs → Q .normal ⟨#[u0, u1, u2, u3, u4, u5, u6, u7, u8, .pointer (some ⟨tb, 0, none⟩), .pointer (some ⟨kb, 0, none⟩), u11, u12, u13, u14, u15, u16, u17, u18, u19, u20, u21, u22, u23, u24, u25, u26, u27, u28, u29, u30, u31, u32, u33, u34, u35, u36, u37, u38, u39, u40, u41, u42, u43, u44, u45, u46, u47, u48, u49, u50, u51, u52, u53, u54, .pointer (some ⟨tb, 2, none⟩), .agg #[.int .u64 p.x0, .int .u64 p.x1, .int .u64 p.x2, .int .u64 p.x3], v57, u58, u59, u60, u61, u62, u63, u64, u65, u66, u67, u68, u69, u70, u71], []⟩ wz)) : (Code.region 16 en16o false).wp Tryd.prog Q ⟨#[u0, u1, u2, u3, u4, u5, u6, u7, u8, .pointer (some ⟨tb, 0, none⟩), u10, u11, u12, u13, u14, u15, u16, u17, u18, u19, u20, u21, u22, u23, u24, u25, u26, u27, u28, u29, u30, u31, u32, u33, u34, u35, u36, u37, u38, u39, u40, u41, u42, u43, u44, u45, u46, u47, u48, u49, u50, u51, u52, u53, u54, u55, u56, u57, u58, u59, u60, u61, u62, u63, u64, u65, u66, u67, u68, u69, u70, u71], []⟩ W := by
 have HI : Hid ((Tryd.prog.info? 71).map (·.size) = some cs.toArray.size) := hidden (by rw [List.size_toArray, hl]; exact i32)
 have OS := hidden h1
 have HL := hidden hl
 clear hl h1
 unfold en16o
 go_wp2_with (first | (go_at_call 31; go_loud (refine C.out.mono ?_; rintro e w6 ⟨rfl, hb6⟩; have B6 := hidden hb6; have TH := hidden (th32 w6); rw [← HL.out, ← List.size_toArray] at TH; clear hb6 C)) | refine wpList_store_mid rfl 71 _ _ rfl w6.heap.size 0 cs.toArray (by rfl) (by rfl) TH.out HI.out OS.out ?_)
 have BA := bl_trans B6.out (bl_alloc w6 (.cells #[.int .u8 0, .int .u8 0, .int .u8 0, .int .u8 0, .int .u8 0, .int .u8 0, .int .u8 0, .int .u8 0, .int .u8 0, .int .u8 0, .int .u8 0, .int .u8 0, .int .u8 0, .int .u8 0, .int .u8 0, .int .u8 0, .int .u8 0, .int .u8 0, .int .u8 0, .int .u8 0, .int .u8 0, .int .u8 0, .int .u8 0, .int .u8 0, .int .u8 0, .int .u8 0, .int .u8 0, .int .u8 0, .int .u8 0, .int .u8 0, .int .u8 0, .int .u8 0] 71))
 refine HQ.out _ _ _ (BA.grown (gb_setCells w6.heap.size cs 0 _) BA.size (fun k hk => by have := Option.some.inj hk; have := B6.out.size; omega)) B6.out.size (World.rangeAt_setCells_same _ w6.heap.size 0 cs (by have := th32 w6; rw [← HL.out] at this; exact this))
end Ci
end Go.Proofs.YtclihahohhhhiaaDoor
namespace Go.Proofs.YtclihahohhhhiaaDoor
open Go.RowKit
set_option linter.unusedVariables false
set_option linter.unusedSimpArgs false
open Cm (Wr Tm co bf Ls lf ins Eqm)
open Tr (cb By vn cb_len cb_app cb_one vn_len appNum_any)
namespace Ci
set_option maxRecDepth 100000
set_option maxHeartbeats 8000000
def hd3 (m Kg q i : Nat) : List UInt8 := ([m, Kg, q].take i).flatMap vn
theorem hd3_succ {m Kg q i n : Nat} (h : [m, Kg, q][i]? = some n) : hd3 m Kg q (i + 1) = hd3 m Kg q i ++ vn n := by
 unfold hd3
 rw [List.take_add_one, h, List.flatMap_append]
 simp
theorem hd3_len (m Kg q i : Nat) : (hd3 m Kg q i).length ≤ 30 := by
 have := flatm_len vn 10 ([m, Kg, q].take i) (fun x _ => (vn_len x).2)
 have h2 : ([m, Kg, q].take i).length ≤ 3 := by rw [List.length_take]; simp; omega
 unfold hd3
 have := Nat.mul_le_mul_right 10 h2
 omega
def pre (m Kg : Nat) (Q : List (List Tm)) (i : Nat) : List UInt8 := vn m ++ vn Kg ++ vn Q.length ++ (Q.take i).flatMap xsB
def prx (m Kg : Nat) (Q : List (List Tm)) (i : Nat) (X : List Tm) (j : Nat) : List UInt8 := pre m Kg Q i ++ vn X.length ++ (X.take j).flatMap tmB
theorem take_flat {α : Type} (f : α → List UInt8) {l : List α} {i : Nat} {x : α} (h : l[i]? = some x) : (l.take (i + 1)).flatMap f = (l.take i).flatMap f ++ f x := by
 rw [List.take_add_one, h, List.flatMap_append]
 simp
theorem pre_succ {m Kg : Nat} {Q : List (List Tm)} {i : Nat} {X : List Tm} (h : Q[i]? = some X) : prx m Kg Q i X X.length = pre m Kg Q (i + 1) := by
 unfold prx pre
 rw [take_flat xsB h, List.take_length]
 unfold xsB
 simp only [List.append_assoc]
theorem prx_succ {m Kg : Nat} {Q : List (List Tm)} {i j : Nat} {X : List Tm} {x : Tm} (h : X[j]? = some x) : prx m Kg Q i X (j + 1) = prx m Kg Q i X j ++ vn x.1.1.toNat ++ vn x.1.2.toNat ++ kb32 ((lst x.2).n % Sm.L) := by
 unfold prx
 rw [take_flat tmB h]
 unfold tmB
 simp only [List.append_assoc]
theorem pre_len {m Kg : Nat} {Q : List (List Tm)} {i : Nat} (hq : Q.length ≤ 4096) (hx : ∀ X ∈ Q, X.length ≤ 6150) : (pre m Kg Q i).length ≤ 30 + 4096 * 319810 := by
 have h1 := vn_len m
 have h2 := vn_len Kg
 have h3 := vn_len Q.length
 have h4 := flatm_len xsB 319810 (Q.take i) (fun X hX => by
  have := xsB_len X
  have := hx X (List.mem_of_mem_take hX)
  omega)
 have h5 : (Q.take i).length ≤ 4096 := by rw [List.length_take]; omega
 have h6 := Nat.mul_le_mul_right 319810 h5
 unfold pre
 rw [List.length_append, List.length_append, List.length_append]
 omega
theorem prx_len {m Kg : Nat} {Q : List (List Tm)} {i j : Nat} {X : List Tm} (hq : Q.length ≤ 4096) (hx : ∀ X ∈ Q, X.length ≤ 6150) (hX : X ∈ Q) : (prx m Kg Q i X j).length ≤ 40 + 4097 * 319810 := by
 have h1 := pre_len (m := m) (Kg := Kg) (i := i) hq hx
 have h3 := vn_len X.length
 have h4 := flatm_len tmB 52 (X.take j) (fun x _ => tmB_len x)
 have h5 : (X.take j).length ≤ 6150 := by have := hx X hX; rw [List.length_take]; omega
 have h6 := Nat.mul_le_mul_right 52 h5
 unfold prx
 rw [List.length_append, List.length_append]
 omega
theorem enc_bd {m K kk ii : Nat} {q : Wr} (h : hs m K q = true) (hk : q.1 = (kk : Int)) (hi : q.2 = (ii : Int)) (hK : K ≤ 1024) (hm : m ≤ 1024) : kk < 6 ∧ ii < 4096 := by
 unfold hs at h
 simp only [Bool.and_eq_true, decide_eq_true_eq] at h
 obtain ⟨h1, h2, h3, h4⟩ := h
 have : ct m K q.1.toNat ≤ 1024 := by
  unfold ct
  split <;> omega
 omega
theorem gv_bel {b : Nat} {x y : World} {v v' : Value} (h : Gv x y v v') (hb : b ≤ x.heap.size) (lo : ∀ k, v.ownBlock = some k → b ≤ k) : Below b x y := ⟨h.g.os, h.g.tape, h.g.output, h.g.size, fun i hi => h.g.block i (by omega) (fun e => by have := lo i e.symm; omega)⟩
set_option maxHeartbeats 32000000 in
theorem SysEncode_any {base : Nat} {w : World} {s m Kg : Nat} {vv : Value} {vs : List Value} {Q : List (List Tm)} (h : Sy base w s m Kg vv vs Q) (hW : Wk m Kg Q) (hT : Tb w) (hm : m ≤ 1024) :
  Calls Tryd.prog 6 #[.pointer (some ⟨s, 0, none⟩)] w fun e w' => ∃ v, e = .returned v ∧ w'.ownsRow w.heap.size 5 1 v (enB m Kg Q).length (cb (enB m Kg Q)) ∧ Below w.heap.size w w' := by
 have C0 := hidden (none_any h)
 have HH := hidden h
 have HW := hidden hW
 have HT := hidden hT
 have LN : Hid (∀ X ∈ Q, X.length ≤ 6150) := hidden (fun X hX => ls_len (h.sm X hX) (hW.wr X hX) hW.k hm)
 obtain ⟨PQ, cQ, rfl, _, hG⟩ := h.shape
 have HG := hidden hG
 have c0 := h.c0
 have c1 := h.c1
 have c2 := h.c2
 have HM := hidden hm
 clear h hW hT hm hG
 go_enter Tryd.func6, Tryd.ntmps6
 go_upto_region 3 with (go_at_call 29; refine C0.out.mono ?_; rintro e w1 ⟨rfl, rfl⟩)
 go_upto_region 4 with fail
 refine en4 _ s m Kg Q.length cQ PQ _ _ _ _ _ _ _ _ _ _ _ _ _ _ _ _ _ _ _ _ _ _ _ _ _ _ _ _ _ _ _ _ _ _ _ _ _ _ _ _ _ _ _ _ _ _ _ _ _ _ _ _ _ _ _ _ _ _ _ _ _ _ _ _ _ _ _ _ _ _ _ w1 c0 c1 c2 (hidden ?_)
 intro w2 tb hb2 hr2
 have B2 := hidden hb2
 have R2 := hidden hr2
 have tbl : Hid (tb < w2.heap.size) := hidden (World.block_lt_of_cell? w2 _ (hr2 0 _ rfl))
 clear c0 c1 hb2 hr2 C0
 go_upto_region 5 with fail
 go_loopw [3, 28] (fun bv iv x => ∃ i : Nat, i ≤ 3 ∧ iv = .int .i64 (i : Int) ∧ Hid (x.ownsRow w1.heap.size 5 1 bv (hd3 m Kg Q.length i).length (cb (hd3 m Kg Q.length i)) ∧ Below w1.heap.size w1 x ∧ x.rangeAt tb 0 [.int .i64 (m : Int), .int .i64 (Kg : Int), .int .i64 (Q.length : Int)] ∧ (∀ k, bv.ownBlock = some k → tb < k) ∧ tb < x.heap.size)) (fun _ i _ => 3 - (intOf i).toNat)
 case atStart => exact ⟨0, by omega, rfl, hidden ⟨World.ownsRow_nil _ _ _ _, B2.out, R2.out, (fun k hk => by cases hk), tbl.out⟩⟩
 case round =>
  clear R2 B2 tbl
  obtain ⟨i, hi, rfl, hS⟩ := hrel
  by_cases hin : i < 3
  ·have i1 : (i : Int) < 3 := by omega
   have i0 : (0 : Int) ≤ (i : Int) := by omega
   have w9 : IntKind.i64.wrap ((i : Int) + 1) = (i : Int) + 1 := IntWalk.i64_in _ (by omega)
   obtain ⟨n, hn⟩ : ∃ n, [m, Kg, Q.length][i]? = some n := ⟨[m, Kg, Q.length][i]'(by simp; omega), by simp [hin]⟩
   have nc : wr.cell? ⟨tb, i, none⟩ = some (.int .i64 (n : Int)) := by
    match i, hin, hn with
    | 0, _, hn => obtain rfl := Option.some.inj hn; exact hS.out.2.2.1 0 _ rfl
    | 1, _, hn => obtain rfl := Option.some.inj hn; exact hS.out.2.2.1 1 _ rfl
    | 2, _, hn => obtain rfl := Option.some.inj hn; exact hS.out.2.2.1 2 _ rfl
   have nle : n < 4611686018427387904 := by
    have := HM.out
    have := HW.out.k
    have := HW.out.q
    match i, hin, hn with
    | 0, _, hn => obtain rfl := Option.some.inj hn; omega
    | 1, _, hn => obtain rfl := Option.some.inj hn; omega
    | 2, _, hn => obtain rfl := Option.some.inj hn; omega
   have CP := hidden (apn_any w1.heap.size u3 (hd3 m Kg Q.length i) n wr hS.out.1 hS.out.2.1.size (by have := hd3_len m Kg Q.length i; omega) nle)
   have HN := hidden hn
   clear hn nle
   go_upto_region 8 with (go_at_call 30; refine CP.out.mono ?_; rintro e w3 ⟨v3, rfl, ho3, hg3⟩; have O3 := hidden ho3; have G3 := hidden hg3; clear ho3 hg3 CP)
   have NS : Hid (w3.ownsRow w1.heap.size 5 1 v3 (hd3 m Kg Q.length (i + 1)).length (cb (hd3 m Kg Q.length (i + 1))) ∧ Below w1.heap.size w1 w3 ∧ w3.rangeAt tb 0 [.int .i64 (m : Int), .int .i64 (Kg : Int), .int .i64 (Q.length : Int)] ∧ (∀ k, v3.ownBlock = some k → tb < k) ∧ tb < w3.heap.size) := hidden (by
    have hs := hS.out
    refine ⟨by rw [hd3_succ HN.out]; exact O3.out, Below.trans hs.2.1 (gv_bel G3.out hs.2.1.size (fun k hk => (hs.1.lt k hk).1)), fun j u hu => G3.out.g.cell (hs.2.2.1 j u hu) (fun e => by have := hs.2.2.2.1 tb e.symm; omega), fun k hk => ?_, Nat.lt_of_lt_of_le hs.2.2.2.2 G3.out.g.size⟩
    rcases G3.out.o k hk with h1 | h1
    ·exact hs.2.2.2.1 k h1
    ·have := hs.2.2.2.2; omega)
   clear hS O3 G3 nc HN
   go_wp2_with fail
   go_roundw
   case rel => exact ⟨i + 1, by omega, by go_num, NS⟩
   case measure => simp [intOf]; omega
  ·obtain rfl : i = 3 := by omega
   have lq : ¬ (3 : Int) < 3 := by omega
   have S3 : Hid (wr.ownsRow w1.heap.size 5 1 u3 (pre m Kg Q 0).length (cb (pre m Kg Q 0)) ∧ Below w1.heap.size w1 wr) := hidden ⟨by
    have := hS.out.1
    have e : hd3 m Kg Q.length 3 = pre m Kg Q 0 := by unfold hd3 pre; simp
    rwa [e] at this, hS.out.2.1⟩
   have cc2 := cell_keep c2 hS.out.2.1
   clear hS
   go_upto_region 10 with fail
   clear cc2
   have qn : Hid (Q.length ≤ 4096) := hidden HW.out.q
   go_loopw [3, 41] (fun bv iv x => ∃ i : Nat, i ≤ Q.length ∧ iv = .int .i64 (i : Int) ∧ Hid (x.ownsRow w1.heap.size 5 1 bv (pre m Kg Q i).length (cb (pre m Kg Q i)) ∧ Below w1.heap.size w1 x)) (fun _ i _ => Q.length - (intOf i).toNat)
   case atStart => exact ⟨0, by omega, rfl, S3⟩
   case round =>
    clear S3
    obtain ⟨i, hi, rfl, hS⟩ := hrel
    by_cases hin : i < Q.length
    ·have i1 : (i : Int) < (Q.length : Int) := by omega
     have i0 : (0 : Int) ≤ (i : Int) := by omega
     have w9 : IntKind.i64.wrap ((i : Int) + 1) = (i : Int) + 1 := IntWalk.i64_in _ (by have := qn.out; omega)
     obtain ⟨G, rfl⟩ := HG.out (by omega)
     obtain ⟨X, hX⟩ : ∃ X, Q[i]? = some X := ⟨Q[i], by simp [hin]⟩
     obtain ⟨u, hu, hown⟩ := HH.out.ls i X hX
     obtain ⟨PX, cX, rfl, _⟩ := own_shT hown
     have cc := HH.out.row.cells (g := G) rfl i _ hu
     rw [Addr.add_mid, Nat.zero_add] at cc
     have gc := cell_keep cc hS.out.2
     have LX := hidden (own_lts hown)
     have mX := hidden (List.mem_of_getElem? hX)
     have HX := hidden hX
     have CP := hidden (apn_any w1.heap.size u3 (pre m Kg Q i) X.length wr hS.out.1 hS.out.2.size (by have := pre_len (m := m) (Kg := Kg) (i := i) qn.out LN.out; omega) (by have := LN.out X mX.out; omega))
     clear cc hown hu hX
     go_upto_region 13 with (go_at_call 30; refine CP.out.mono ?_; rintro e w3 ⟨v3, rfl, ho3, hg3⟩; have O3 := hidden ho3; have G3 := hidden hg3; clear ho3 hg3 CP)
     have S4 : Hid (w3.ownsRow w1.heap.size 5 1 v3 (prx m Kg Q i X 0).length (cb (prx m Kg Q i X 0)) ∧ Below w1.heap.size w1 w3) := hidden ⟨by
      have e : prx m Kg Q i X 0 = pre m Kg Q i ++ vn X.length := by unfold prx; simp
      rw [e]; exact O3.out, Below.trans hS.out.2 (gv_bel G3.out hS.out.2.size (fun k hk => (hS.out.1.lt k hk).1))⟩
     clear hS O3 G3 gc
     go_upto_region 14 with fail
     have xn : Hid (X.length ≤ 6150) := hidden (LN.out X mX.out)
     go_loopw [3, 51] (fun bv iv x => ∃ j : Nat, j ≤ X.length ∧ iv = .int .i64 (j : Int) ∧ Hid (x.ownsRow w1.heap.size 5 1 bv (prx m Kg Q i X j).length (cb (prx m Kg Q i X j)) ∧ Below w1.heap.size w1 x)) (fun _ j _ => X.length - (intOf j).toNat)
     case atStart => exact ⟨0, by omega, rfl, S4⟩
     case round =>
      clear S4
      obtain ⟨j, hj, rfl, hS⟩ := hrel
      by_cases hjn : j < X.length
      ·have j1 : (j : Int) < (X.length : Int) := by omega
       have j0 : (0 : Int) ≤ (j : Int) := by omega
       have w9j : IntKind.i64.wrap ((j : Int) + 1) = (j : Int) + 1 := IntWalk.i64_in _ (by have := xn.out; omega)
       obtain ⟨xb, xo, hPs, hRt⟩ := LX.out
       obtain rfl := hPs (by omega)
       have rt := (hRt (by omega)).keep hS.out.2
       obtain ⟨x, hx⟩ : ∃ x, X[j]? = some x := ⟨X[j], by simp [hjn]⟩
       have wx := HW.out.wr X mX.out x (List.mem_of_getElem? hx)
       obtain ⟨kk, hkk⟩ : ∃ kk : Nat, x.1.1 = (kk : Int) := ⟨x.1.1.toNat, by unfold hs at wx; simp only [Bool.and_eq_true, decide_eq_true_eq] at wx; omega⟩
       obtain ⟨ii, hii⟩ : ∃ ii : Nat, x.1.2 = (ii : Int) := ⟨x.1.2.toNat, by unfold hs at wx; simp only [Bool.and_eq_true, decide_eq_true_eq] at wx; omega⟩
       have bk : kk < 6 ∧ ii < 4096 := enc_bd wx hkk hii HW.out.k HM.out
       have fx : ft X j = ⟨((kk : Int), (ii : Int)), lst x.2⟩ := by
        unfold ft tmOf
        rw [List.getD_eq_getElem?_getD, hx]
        show (⟨x.1, lst x.2⟩ : Trm) = _
        rw [← hkk, ← hii]
       have a0 := rt.c0 j hjn
       have a1 := rt.c1 j hjn
       have a2 := rt.c2 j hjn
       have a3 := rt.c3 j hjn
       have a4 := rt.c4 j hjn
       have a5 := rt.c5 j hjn
       rw [fx] at a0 a1 a2 a3 a4 a5
       have PX2 := hidden (prx_succ (m := m) (Kg := Kg) (Q := Q) (i := i) hx)
       rw [hkk, hii] at PX2
       have op : (lst x.2).ok := lst_ok _
       clear rt hPs hRt fx wx hkk hii hx
       generalize lst x.2 = p at *
       go_upto_region 16 with fail
       have ba := bl_alloc wr (.cells #[.int .i64 (kk : Int), .int .i64 (ii : Int), .int .u64 p.x0, .int .u64 p.x1, .int .u64 p.x2, .int .u64 p.x3] 69)
       have t0 : (wr.alloc (.cells #[.int .i64 (kk : Int), .int .i64 (ii : Int), .int .u64 p.x0, .int .u64 p.x1, .int .u64 p.x2, .int .u64 p.x3] 69)).cell? ⟨wr.heap.size, 0, none⟩ = some (.int .i64 (kk : Int)) := by go_simp
       have t1 : (wr.alloc (.cells #[.int .i64 (kk : Int), .int .i64 (ii : Int), .int .u64 p.x0, .int .u64 p.x1, .int .u64 p.x2, .int .u64 p.x3] 69)).cell? ⟨wr.heap.size, 1, none⟩ = some (.int .i64 (ii : Int)) := by go_simp
       have t2 : (wr.alloc (.cells #[.int .i64 (kk : Int), .int .i64 (ii : Int), .int .u64 p.x0, .int .u64 p.x1, .int .u64 p.x2, .int .u64 p.x3] 69)).cell? ⟨wr.heap.size, 2, none⟩ = some (.int .u64 p.x0) := by go_simp
       have t3 : (wr.alloc (.cells #[.int .i64 (kk : Int), .int .i64 (ii : Int), .int .u64 p.x0, .int .u64 p.x1, .int .u64 p.x2, .int .u64 p.x3] 69)).cell? ⟨wr.heap.size, 3, none⟩ = some (.int .u64 p.x1) := by go_simp
       have t4 : (wr.alloc (.cells #[.int .i64 (kk : Int), .int .i64 (ii : Int), .int .u64 p.x0, .int .u64 p.x1, .int .u64 p.x2, .int .u64 p.x3] 69)).cell? ⟨wr.heap.size, 4, none⟩ = some (.int .u64 p.x2) := by go_simp
       have t5 : (wr.alloc (.cells #[.int .i64 (kk : Int), .int .i64 (ii : Int), .int .u64 p.x0, .int .u64 p.x1, .int .u64 p.x2, .int .u64 p.x3] 69)).cell? ⟨wr.heap.size, 5, none⟩ = some (.int .u64 p.x3) := by go_simp
       have O5 := hidden (own_keepT hS.out.1 ba)
       have B5 := hidden (bl_trans hS.out.2 ba)
       have ot : ∀ k, u3.ownBlock = some k → k < wr.heap.size := fun k hk => (hS.out.1.lt k hk).2
       clear ba hS a0 a1 a2 a3 a4 a5
       generalize (wr.alloc (.cells #[.int .i64 (kk : Int), .int .i64 (ii : Int), .int .u64 p.x0, .int .u64 p.x1, .int .u64 p.x2, .int .u64 p.x3] 69)) = w5 at *
       generalize wr.heap.size = tb2 at *
       obtain ⟨N, hN⟩ : ∃ N, p.n % Sm.L = N := ⟨_, rfl⟩
       have CE := Encode_any p w5 (HT.out.keep B5.out) op
       rw [hN, ← kb32_cb] at CE
       rw [hN] at PX2
       simp only [E4.v] at CE
       replace CE := hidden CE
       clear hN
       refine en16 _ tb2 p (cb (kb32 N)) _ _ _ _ _ _ _ _ _ _ _ _ _ _ _ _ _ _ _ _ _ _ _ _ _ _ _ _ _ _ _ _ _ _ _ _ _ _ _ _ _ _ _ _ _ _ _ _ _ _ _ _ _ _ _ _ _ _ _ _ _ _ _ _ _ _ _ _ _ _ _ w5 t2 t3 t4 t5 (by rw [cb_len]; rfl) (by rw [List.all_toArray, List.all_eq_true]; exact fun u hu => cb_one _ u hu) CE (hidden ?_)
       intro w7 kb2 v57 hb7 hk7 hr7
       have R7 := hidden hr7
       have b57 := hb7
       have s7 := hidden hk7
       clear CE hr7 hb7 hk7
       have O7 := hidden (own_keepT O5.out b57)
       have B7 := hidden (bl_trans B5.out b57)
       have t0n := cell_keep t0 b57
       have t1n := cell_keep t1 b57
       have tl : Hid (tb2 < w5.heap.size) := hidden (World.block_lt_of_cell? w5 _ t0)
       clear b57 t0 t1 t2 t3 t4 t5 O5 B5
       have skb := s7.out
       have stl := tl.out
       go_upto_region 17 with fail
       refine en17 _ w1.heap.size tb2 kb2 kk ii u3 (prx m Kg Q i X j) N _ _ _ _ _ _ _ _ _ _ _ _ _ _ _ _ _ _ _ _ _ _ _ _ _ _ _ _ _ _ _ _ _ _ _ _ _ _ _ _ _ _ _ _ _ _ _ _ _ _ _ _ _ _ _ _ _ _ _ _ _ _ _ _ _ _ _ _ _ w7 (fun e => by have := ot tb2 e.symm; omega) (fun e => by have := ot kb2 e.symm; omega) B7.out.size (by have := prx_len (m := m) (Kg := Kg) (i := i) (j := j) qn.out LN.out mX.out; omega) (by have := bk.1; omega) (by have := bk.2; omega) O7.out t0n t1n R7.out (hidden ?_)
       intro w8 v1 v2 v8 ho8 hg8
       have NS : Hid (w8.ownsRow w1.heap.size 5 1 v8 (prx m Kg Q i X (j + 1)).length (cb (prx m Kg Q i X (j + 1))) ∧ Below w1.heap.size w1 w8) := hidden ⟨by rw [PX2.out]; exact ho8, Below.trans B7.out (gv_bel hg8 B7.out.size (fun k hk => (O7.out.lt k hk).1))⟩
       clear ho8 hg8 O7 B7 R7 t0n t1n PX2
       go_wp2_with fail
       go_roundw
       case rel => exact ⟨j + 1, by omega, by go_num, NS⟩
       case measure => simp [intOf]; omega
      ·obtain rfl : j = X.length := by omega
       have lqj : ¬ (X.length : Int) < (X.length : Int) := by omega
       have NS : Hid (wr.ownsRow w1.heap.size 5 1 u3 (pre m Kg Q (i + 1)).length (cb (pre m Kg Q (i + 1))) ∧ Below w1.heap.size w1 wr) := hidden ⟨by rw [← pre_succ HX.out]; exact hS.out.1, hS.out.2⟩
       clear hS
       go_wp2_with fail
       go_roundw
       case rel => exact ⟨i + 1, by omega, by go_num, NS⟩
       case measure => simp [intOf]; omega
    ·obtain rfl : i = Q.length := by omega
     have lqi : ¬ (Q.length : Int) < (Q.length : Int) := by omega
     have FN : Hid (wr.ownsRow w1.heap.size 5 1 u3 (enB m Kg Q).length (cb (enB m Kg Q)) ∧ Below w1.heap.size w1 wr) := hidden ⟨by
      have e : pre m Kg Q Q.length = enB m Kg Q := by unfold pre enB; rw [List.take_length]
      rw [← e]; exact hS.out.1, hS.out.2⟩
     clear hS
     go_wp2_with fail
     exact bodyPost_ret (v := u3) (by simp [results, Tryd.results6, go_sem]) rfl ⟨u3, rfl, FN.out.1, FN.out.2⟩
end Ci
end Go.Proofs.YtclihahohhhhiaaDoor
