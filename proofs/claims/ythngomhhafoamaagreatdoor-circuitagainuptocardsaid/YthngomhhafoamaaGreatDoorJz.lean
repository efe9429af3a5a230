import Derived.Test.YthngomhhafoamaaGreatDoorWy
import Derived.Test.YthngomhhafoamaaGreatDoorTz
import Derived.Test.YthngomhhafoamaaGreatDoorEz
set_option linter.unusedVariables false
set_option linter.unusedSimpArgs false
set_option maxRecDepth 100000
set_option maxHeartbeats 16000000
namespace Go.Proofs.YthngomhhafoamaaGreatDoor
open Go.RowKit
open Cm (Wr Tm co bf Ls lf ins Eqm)
open Tr (cb By vn cb_len cb_app cb_one vn_len appNum_any)
namespace Ci
structure Gv (w w' : World) (v v' : Value) : Prop where
 g : w.grownBy w' v.ownBlock
 o : ∀ k, v'.ownBlock = some k → v.ownBlock = some k ∨ w.heap.size ≤ k
theorem Gv.trans {w w' w2 : World} {v v' v2 : Value} (h : Gv w w' v v') (k : Gv w' w2 v' v2) : Gv w w2 v v2 :=
 ⟨⟨k.g.os.trans h.g.os, k.g.tape.trans h.g.tape, k.g.output.trans h.g.output, Nat.le_trans h.g.size k.g.size, fun i hi hn => (k.g.block i (Nat.lt_of_lt_of_le hi h.g.size) (fun e => by
  rcases h.o i e.symm with h1 | h1
  ·exact hn h1.symm
  ·omega)).trans (h.g.block i hi hn)⟩, fun i hi => by
  rcases k.o i hi with h1 | h1
  ·exact h.o i h1
  ·exact Or.inr (Nat.le_trans h.g.size h1)⟩
theorem Gv.of {w w' : World} {v : Value} (h : Below w.heap.size w w') : Gv w w' v v := ⟨⟨h.os, h.tape, h.output, h.size, fun i hi _ => h.block i hi⟩, fun k hk => Or.inl hk⟩
theorem gv_of {w w' : World} {v v' : Value} (h3 : w.grownBy w' v.ownBlock) (h5 : v'.ownBlock = v.ownBlock ∨ v'.ownBlock = some w.heap.size) : Gv w w' v v' := ⟨h3, fun k hk => by
 rcases h5 with e1 | e1
 ·exact Or.inl (e1 ▸ hk)
 ·rw [e1] at hk; exact Or.inr (Nat.le_of_eq (Option.some.inj hk))⟩
theorem own_bytes {w : World} {base : Nat} {v : Value} {bs : List UInt8} (h : w.ownsRow base 5 1 v bs.length (cb bs)) (h0 : 1 ≤ bs.length) : ∃ g c : Nat, v = .slice (some ⟨g, 0, none⟩) bs.length c ∧ ∀ j u, (cb bs)[j]? = some u → w.cell? ((⟨g, 0, none⟩ : Addr).add j) = some u := by
 rcases h.2 with ⟨h1, h2⟩ | ⟨g, c, cur, h1, _⟩
 ·omega
 ·exact ⟨g, c, h1, fun j u hu => h.cells (by rw [h1]; rfl) j u hu⟩
theorem wp_appO {P : Program} {w : World} {o : Oper} {a : Act} {K : Act → World → Prop} {Q : Exit → Act → World → Prop} (s x : Operand) (t : TypeId)
  (ho : o.op = .call { callee := .builtin .append, args := #[s, x], argTypes := #[t, t] })
  (base : Nat) (e : TypeId) (i : TypeInfo) (z : Value) (size bytes : Nat) (ht : P.underlying t = some (.slice e)) (hi : P.info? e = some i) (hz : i.zero = some z)
  (hsize : i.size = size) (hby : i.bytes = bytes) (hzs : z.cells.size = size) (hsz : 0 < size)
  (v : Value) (n : Nat) (xs : List Value) (hs : a.eval s = v) (hown : w.ownsRow base e size v n xs)
  (ad : Addr) (m c : Nat) (news : List Value) (hx : a.eval x = .slice (some ad) m c) (hl : news.length = m * size) (hnews : ∀ j u, news[j]? = some u → w.cell? (ad.add j) = some u) (h1 : ∀ u ∈ news, u.oneCell' = true)
  (h63 : n + m ≤ maxLen) (hbytes : (n + m) * bytes ≤ 140737488355328) (hbase : base ≤ w.heap.size)
  (h : ∀ v' w', w'.ownsRow base e size v' (n + m) (xs ++ news) → Gv w w' v v' → K (a.put o.dst v') w') : o.wp P a w K Q := by
 obtain ⟨v', w', hr, h2, h3, h4, h5⟩ := run_append_own_at (P := P) w base t o.type e i z size bytes ht hi hz hsize hby hzs hsz v n xs hown ad m c news hl hnews h1 h63 hbytes hbase
 unfold Oper.wp execOp
 simp only [ho, resolve, invoke, builtin, Sem.run_bind, Sem.run_pure, Result.andThen_ok, List.map_toArray, List.map_cons, List.map_nil, hs, hx, hr]
 exact h v' w' h2 (gv_of h3 h5)
theorem u8info : Tryz.prog.info? 5 = some (Tryz.prog.info? 5).get! := by kernel_rfl
theorem wp_appY {w : World} {o : Oper} {a : Act} {K : Act → World → Prop} {Q : Exit → Act → World → Prop} (s x : Operand) (ho : o.op = .call { callee := .builtin .append, args := #[s, x], argTypes := #[44, 44] })
  (base : Nat) (v : Value) (bs cs : List UInt8) (hs : a.eval s = v) (hown : w.ownsRow base 5 1 v (bs).length (cb (bs))) (ad : Addr) (c : Nat) (hx : a.eval x = .slice (some ad) cs.length c) (hnews : ∀ j u, (cb cs)[j]? = some u → w.cell? (ad.add j) = some u) (hl : bs.length + cs.length ≤ 1099511627776) (hbase : base ≤ w.heap.size)
  (h : ∀ v' w', w'.ownsRow base 5 1 v' (bs ++ cs).length (cb (bs ++ cs)) → Gv w w' v v' → K (a.put o.dst v') w') : o.wp Tryz.prog a w K Q := by
 refine wp_appO s x 44 ho base 5 _ (.int .u8 0) 1 1 (by kernel_rfl) u8info (by kernel_rfl) (by kernel_rfl) (by kernel_rfl) rfl (by decide) v bs.length (cb bs) hs hown ad cs.length c (cb cs) hx (by rw [cb_len, Nat.mul_one]) hnews (cb_one cs) (by unfold maxLen; omega) (by omega) hbase (fun v' w' h1 h2 => h v' w' ?_ h2)
 rw [List.length_append, cb_app]
 exact h1
theorem apn_any (base : Nat) (v : Value) (bs : List UInt8) (n : Nat) (w : World) (ho : w.ownsRow base 5 1 v (bs).length (cb (bs))) (hb : base ≤ w.heap.size) (hl : bs.length ≤ 549755813888) (hn : n < 4611686018427387904) :
  Calls Tryz.prog 40 #[v, .int .i64 (n : Int)] w fun e w' => ∃ v', e = .returned v' ∧ w'.ownsRow base 5 1 v' (bs ++ vn n).length (cb (bs ++ vn n)) ∧ Gv w w' v v' := by
 have CA := Hn (appNum_any none 0 [] n w ⟨fun _ => ⟨rfl, rfl⟩, fun a ha => by cases ha⟩ (by show 0 ≤ _; omega) (by omega))
 have HO := Hn ho
 have HB := Hn hb
 have HL := Hn hl
 have u9 : IntKind.u64.wrap (n : Int) = (n : Int) := by
  show (n : Int) % 18446744073709551616 = (n : Int)
  omega
 clear ho hb hl hn
 go_enter Tryz.func40, Tryz.ntmps40
 go_upto_region 1 with fail
 go_wp2_with (first | (go_at_call 64; refine CA.out.mono ?_; rintro e w1 ⟨v1, rfl, ho1, hb1⟩; rw [List.nil_append] at ho1; obtain ⟨g1, c1, e1, hc1⟩ := own_bytes ho1 (vn_len n).1; subst e1; have B1 := Hn hb1; have C1 := Hn hc1; have O1 := Hn (own_keepT HO.out hb1); clear hb1 ho1 hc1 CA) | (at_builtin; have x4 : bs.length + (vn n).length ≤ maxLen := (by have := vn_len n; have := HL.out; unfold maxLen; omega); have x5 : (bs.length + (vn n).length) * 1 ≤ 140737488355328 := (by have := vn_len n; have := HL.out; omega); refine wpList_append_own_at _ rfl _ _ 44 rfl base 5 _ (.int .u8 0) 1 1 (by kernel_rfl) u8info (by kernel_rfl) (by kernel_rfl) (by kernel_rfl) rfl (by decide) v bs.length (cb bs) rfl O1.out ⟨g1, 0, none⟩ (vn n).length c1 (cb (vn n)) rfl (by rw [cb_len, Nat.mul_one]) C1.out (cb_one _) x4 x5 (Nat.le_trans HB.out B1.out.size) ?_; intro v2 w2 ho2 hg2 _ ht2; have O2 := Hn ho2; have G2 : Hid (Gv w1 w2 v v2) := Hn (gv_of hg2 ht2); clear ho2 hg2 ht2 x4 x5))
 exact bodyPost_ret (v := v2) (by simp [results, Tryz.results40, go_sem]) rfl ⟨v2, rfl, by rw [List.length_append, cb_app]; exact O2.out, (Gv.of B1.out).trans G2.out⟩
end Ci
end Go.Proofs.YthngomhhafoamaaGreatDoor
namespace Go.Proofs.YthngomhhafoamaaGreatDoor
open Go.RowKit
open Cm (Wr Tm co bf Ls lf ins Eqm)
open Tr (cb By vn cb_len cb_app cb_one vn_len appNum_any)
namespace Ci
def kb32 (N : Int) : List UInt8 := (List.range 32).map fun j => UInt8.ofNat (byt N j).toNat
theorem kb32_cb (N : Int) : cb (kb32 N) = (bytes N).map fun z => Value.int .u8 z := by
 unfold kb32 cb bytes
 rw [List.map_map, List.map_map]
 refine List.map_congr_left (fun j hj => ?_)
 have h := byt_bd N j
 show Value.int .u8 ((UInt8.ofNat (byt N j).toNat).toNat : Int) = Value.int .u8 (byt N j)
 congr 1
 rw [UInt8.toNat_ofNat']
 omega
theorem build3I (a b c : Int) (w : World) : (Instr.buildSlice 74 3 #[(0, .int .i64 a), (1, .int .i64 b), (2, .int .i64 c)]).run Tryz.prog w = .ok (.slice (some ⟨w.heap.size, 0, none⟩) 3 3) (w.alloc (.cells #[.int .i64 a, .int .i64 b, .int .i64 c] 3)) := by kernel_rfl
theorem wp_b3 {w : World} {o : Oper} {a : Act} {K : Act → World → Prop} {Q : Exit → Act → World → Prop} (x0 x1 x2 : Operand) (ho : o.op = .buildSlice 74 3 #[(0, x0), (1, x1), (2, x2)]) (a0 a1 a2 : Int) (h0 : a.eval x0 = .int .i64 a0) (h1 : a.eval x1 = .int .i64 a1) (h2 : a.eval x2 = .int .i64 a2) (h : ∀ (tb : Nat) (wq : World), tb = w.heap.size → wq = w.alloc (.cells #[.int .i64 a0, .int .i64 a1, .int .i64 a2] 3) → K (a.put o.dst (.slice (some ⟨tb, 0, none⟩) 3 3)) wq) : o.wp Tryz.prog a w K Q := by
 have hr := build3I a0 a1 a2 w
 unfold Oper.wp execOp
 simp only [ho, Sem.run_bind, Sem.run_pure, Result.andThen_ok, List.map_toArray, List.map_cons, List.map_nil, h0, h1, h2, hr]
 exact h _ _ rfl rfl
def pJz20 : String := "bytes.go:25"
def pJz21 : String := "bytes.go:32"
def en17o_0 : Oper := oO 58 (Op.move (Operand.tmp 3)) 44 pJz21 #[]
def en17o_1 : Oper := oO 59 (Op.fieldAddr 77 (Operand.tmp 9) 0) 0 pJz21 #[]
def en17o_2 : Oper := oO 60 (Op.fieldAddr 40 (Operand.tmp 59) 0) 0 pJz21 #[DD 1]
def en17o_3 : Oper := oO 61 (Op.load 3 (Operand.tmp 60)) 3 pJz21 #[DD 2]
def en17o_4 : Oper := oO 62 (Op.call { callee := Callee.value (Operand.func 40), args := #[Operand.tmp 58, Operand.tmp 61], argTypes := #[44, 3] }) 44 pJz21 #[DD 0, DD 3]
def en17o_5 : Oper := oO 63 (Op.fieldAddr 77 (Operand.tmp 9) 0) 0 pJz21 #[]
def en17o_6 : Oper := oO 64 (Op.fieldAddr 40 (Operand.tmp 63) 1) 0 pJz21 #[DD 5]
def en17o_7 : Oper := oO 65 (Op.load 3 (Operand.tmp 64)) 3 pJz21 #[DD 6]
def en17o_8 : Oper := oO 66 (Op.call { callee := Callee.value (Operand.func 40), args := #[Operand.tmp 62, Operand.tmp 65], argTypes := #[44, 3] }) 44 pJz21 #[DD 4, DD 7, CH 4]
def en17o_9 : Oper := oO 67 (Op.slice 79 (Operand.tmp 10) none none none) 44 pJz21 #[]
def en17o_10 : Oper := oO 68 (Op.call { callee := Callee.builtin Builtin.append, args := #[Operand.tmp 66, Operand.tmp 67], argTypes := #[44, 44] }) 44 pJz21 #[DD 8, DD 9, CH 8]
def en17o_11 : Oper := oO 3 (Op.assign (Operand.tmp 68)) 44 pJz21 #[DD 10, CH 10, PH 0, PH 1, PH 2, PH 3, PH 4, PH 5, PH 6, PH 7, PH 8, PH 9, PH 10]
def en17o : Array Oper := #[en17o_0, en17o_1, en17o_2, en17o_3, en17o_4, en17o_5, en17o_6, en17o_7, en17o_8, en17o_9, en17o_10, en17o_11]
theorem en17 (Q : Exit → Act → World → Prop) (base tb kb kk ii : Nat) (v : Value) (bs : List UInt8) (N : Int) (u0 u1 u2 u4 u5 u6 u7 u8 ab ad ae af ag ah ai aj ak al am an ao ap aq au av aw ax ay az aA aB aC aD aE aF aG aH aI aJ aK aL aM aN aO aP aQ aR aS aT aU aV aW aX aY aZ a3 a4 a5 a6 a7 a8 a9 ba bb bc bd be bg bh : Value) (W : World)
  (nt : some tb ≠ v.ownBlock) (nk : some kb ≠ v.ownBlock) (hbs : base ≤ W.heap.size) (hl : bs.length ≤ 274877906944) (hk : kk < 4611686018427387904) (hi : ii < 4611686018427387904) (ow : W.ownsRow base 5 1 v (bs).length (cb (bs)))
  (t0 : W.cell? ⟨tb, 0, none⟩ = some (.int .i64 (kk : Int))) (t1 : W.cell? ⟨tb, 1, none⟩ = some (.int .i64 (ii : Int))) (rg : W.rangeAt kb 0 (cb (kb32 N)))
  (HQ : Hid (∀ (wz : World) (v1 v2 v3 : Value), wz.ownsRow base 5 1 v3 (bs ++ vn kk ++ vn ii ++ kb32 N).length (cb (bs ++ vn kk ++ vn ii ++ kb32 N)) → Gv W wz v v3 → Q .normal ⟨#[u0, u1, u2, v3, u4, u5, u6, u7, u8, .pointer (some ⟨tb, 0, none⟩), .pointer (some ⟨kb, 0, none⟩), ab, ad, ae, af, ag, ah, ai, aj, ak, al, am, an, ao, ap, aq, au, av, aw, ax, ay, az, aA, aB, aC, aD, aE, aF, aG, aH, aI, aJ, aK, aL, aM, aN, aO, aP, aQ, aR, aS, aT, aU, aV, aW, aX, aY, aZ, v, .pointer (some ⟨tb, 0, none⟩), .pointer (some ⟨tb, 0, none⟩), .int .i64 (kk : Int), v1, .pointer (some ⟨tb, 0, none⟩), .pointer (some ⟨tb, 1, none⟩), .int .i64 (ii : Int), v2, .slice (some ⟨kb, 0, none⟩) 32 32, v3, be, bg, bh], []⟩ wz)) : (Code.region 17 en17o true).wp Tryz.prog Q ⟨#[u0, u1, u2, v, u4, u5, u6, u7, u8, .pointer (some ⟨tb, 0, none⟩), .pointer (some ⟨kb, 0, none⟩), ab, ad, ae, af, ag, ah, ai, aj, ak, al, am, an, ao, ap, aq, au, av, aw, ax, ay, az, aA, aB, aC, aD, aE, aF, aG, aH, aI, aJ, aK, aL, aM, aN, aO, aP, aQ, aR, aS, aT, aU, aV, aW, aX, aY, aZ, a3, a4, a5, a6, a7, a8, a9, ba, bb, bc, bd, be, bg, bh], []⟩ W := by
 have G := Hn (Gv.of (v := v) (bl_drew W))
 have O0 := Hn (own_keepT ow (bl_drew W))
 clear ow
 unfold en17o
 refine wp_region_noPanic ?_
 refine wp_region_held_drew (S := fun x => W.grownBy x v.ownBlock) (by kernel_rfl) ((Gv.of (v := v) (bl_drew W)).g) (fun hH0 => ?_)
 refine tj 0 en17o_0 (v) hH0 (fun w0 hSw => ?_) ?_
 ·(unfold en17o_0 oO; clear hSw; go_simp)
 simp only [en17o_0, oO, Act.put, sA, sB, sC]
 refine tj 1 en17o_1 (.pointer (some ⟨tb, 0, none⟩)) hH0 (fun w0 hSw => ?_) ?_
 ·(unfold en17o_1 oO; clear hSw; go_simp)
 simp only [en17o_1, oO, Act.put, sA, sB, sC]
 refine tj 5 en17o_5 (.pointer (some ⟨tb, 0, none⟩)) hH0 (fun w0 hSw => ?_) ?_
 ·(unfold en17o_5 oO; clear hSw; go_simp)
 simp only [en17o_5, oO, Act.put, sA, sB, sC]
 refine tj 9 en17o_9 (.slice (some ⟨kb, 0, none⟩) 32 32) hH0 (fun w0 hSw => ?_) ?_
 ·(unfold en17o_9 oO; clear hSw; go_simp)
 simp only [en17o_9, oO, Act.put, sA, sB, sC]
 refine tj 2 en17o_2 (.pointer (some ⟨tb, 0, none⟩)) hH0 (fun w0 hSw => ?_) ?_
 ·(unfold en17o_2 oO; clear hSw; go_simp)
 simp only [en17o_2, oO, Act.put, sA, sB, sC]
 refine tj 6 en17o_6 (.pointer (some ⟨tb, 1, none⟩)) hH0 (fun w0 hSw => ?_) ?_
 ·(unfold en17o_6 oO; clear hSw; go_simp)
 simp only [en17o_6, oO, Act.put, sA, sB, sC]
 refine tj 3 en17o_3 (.int .i64 (kk : Int)) hH0 (fun w0 hSw => ?_) ?_
 ·(unfold en17o_3 oO; have hS : W.grownBy w0 v.ownBlock := hSw; have a0 := hS.cell t0 nt; clear hS hSw; go_simp)
 simp only [en17o_3, oO, Act.put, sA, sB, sC]
 refine tj 7 en17o_7 (.int .i64 (ii : Int)) hH0 (fun w0 hSw => ?_) ?_
 ·(unfold en17o_7 oO; have hS : W.grownBy w0 v.ownBlock := hSw; have a0 := hS.cell t1 nt; clear hS hSw; go_simp)
 simp only [en17o_7, oO, Act.put, sA, sB, sC]
 refine ar [4] ?_
 refine ac en17o_4 (fun K hK => ?_) AllReadyH.nil
 unfold en17o_4 oO
 have HH := Hn hH0
 clear hH0
 go_simp
 refine (apn_any base v bs kk _ O0.out (Nat.le_trans hbs HH.out.size) (by omega) hk).mono ?_
 rintro e wn1 ⟨v1, rfl, ho, hg⟩
 have SN := Hn ((G.out.trans hg).g)
 replace G := Hn (G.out.trans hg)
 have O1 := Hn (ho)
 clear HH ho hg O0
 go_wp2_with fail
 refine hK.out _ _ SN.out (fun hH1 => ?_)
 clear hK K SN
 refine ar [8] ?_
 refine ac en17o_8 (fun K hK => ?_) AllReadyH.nil
 unfold en17o_8 oO
 have HH := Hn hH1
 clear hH1
 go_simp
 refine (apn_any base v1 (bs ++ vn kk) ii _ O1.out (Nat.le_trans hbs HH.out.size) (by have := vn_len kk; rw [List.length_append]; omega) hi).mono ?_
 rintro e wn2 ⟨v2, rfl, ho, hg⟩
 have SN := Hn ((G.out.trans hg).g)
 replace G := Hn (G.out.trans hg)
 have O2 := Hn (ho)
 clear HH ho hg O1
 go_wp2_with fail
 refine hK.out _ _ SN.out (fun hH2 => ?_)
 clear hK K SN
 refine ar [10] ?_
 refine ac en17o_10 (fun K hK => ?_) AllReadyH.nil
 unfold en17o_10 oO
 have HH := Hn hH2
 clear hH2
 refine wp_appY _ _ rfl base v2 (bs ++ vn kk ++ vn ii) (kb32 N) rfl O2.out ⟨kb, 0, none⟩ 32 rfl (fun j u hu => by rw [Addr.add_mid]; exact HH.out.cell (rg j u hu) nk) (by have := vn_len kk; have := vn_len ii; rw [List.length_append, List.length_append]; show _ + 32 ≤ _; omega) (Nat.le_trans hbs HH.out.size) (fun v3 wn3 ho hg => ?_)
 have SN := Hn ((G.out.trans hg).g)
 replace G := Hn (G.out.trans hg)
 have O3 := Hn (ho)
 clear HH ho hg O2
 simp only [Act.put, sA, sB, sC]
 refine hK.out _ _ SN.out (fun hH3 => ?_)
 clear hK K SN
 refine tj 11 en17o_11 (v3) hH3 (fun w0 hSw => ?_) ?_
 ·(unfold en17o_11 oO; clear hSw; go_simp)
 simp only [en17o_11, oO, Act.put, sA, sB, sC]
 have HH := Hn hH3
 have FQ := Hn (HQ.out _ v1 v2 v3 O3.out G.out)
 refine wpAnyH_done (by kernel_rfl) ?_ _
 refine NoPanic.normal ?_
 exact FQ.out
def en4o_0 : Oper := oO 13 (Op.move (Operand.tmp 0)) 27 pJz20 #[]
def en4o_1 : Oper := oO 14 (Op.nilCheck (Operand.tmp 13)) 0 pJz20 #[DD 0]
def en4o_2 : Oper := oO 15 (Op.fieldAddr 72 (Operand.tmp 14) 0) 0 pJz20 #[DD 1]
def en4o_3 : Oper := oO 16 (Op.load 3 (Operand.tmp 15)) 3 pJz20 #[DD 2]
def en4o_4 : Oper := oO 17 (Op.move (Operand.tmp 0)) 27 pJz20 #[]
def en4o_5 : Oper := oO 18 (Op.nilCheck (Operand.tmp 17)) 0 pJz20 #[DD 4]
def en4o_6 : Oper := oO 19 (Op.fieldAddr 72 (Operand.tmp 18) 1) 0 pJz20 #[DD 5]
def en4o_7 : Oper := oO 20 (Op.load 3 (Operand.tmp 19)) 3 pJz20 #[DD 6]
def en4o_8 : Oper := oO 21 (Op.move (Operand.tmp 0)) 27 pJz20 #[]
def en4o_9 : Oper := oO 22 (Op.nilCheck (Operand.tmp 21)) 0 pJz20 #[DD 8]
def en4o_10 : Oper := oO 23 (Op.fieldAddr 72 (Operand.tmp 22) 2) 0 pJz20 #[DD 9]
def en4o_11 : Oper := oO 24 (Op.load 70 (Operand.tmp 23)) 70 pJz20 #[DD 10]
def en4o_12 : Oper := oO 25 (Op.call { callee := Callee.builtin Builtin.len, args := #[Operand.tmp 24], argTypes := #[70] }) 3 pJz20 #[DD 11]
def en4o_13 : Oper := oO 26 (Op.buildSlice 74 3 #[(0, Operand.tmp 16), (1, Operand.tmp 20), (2, Operand.tmp 25)]) 74 pJz20 #[DD 3, DD 7, DD 12]
def en4o_14 : Oper := oO 27 (Op.call { callee := Callee.builtin Builtin.len, args := #[Operand.tmp 26], argTypes := #[74] }) 3 pJz20 #[DD 13]
def en4o_15 : Oper := oO 28 (Op.move (Operand.const (Value.int IntKind.i64 0))) 3 pJz20 #[]
def en4o : Array Oper := #[en4o_0, en4o_1, en4o_2, en4o_3, en4o_4, en4o_5, en4o_6, en4o_7, en4o_8, en4o_9, en4o_10, en4o_11, en4o_12, en4o_13, en4o_14, en4o_15]
theorem en4 (Q : Exit → Act → World → Prop) (s m Kg q c : Nat) (P : Option Addr) (u1 u2 u3 u4 u5 u6 u7 u8 u9 aa ab ad ae af ag ah ai aj ak al am an ao ap aq au av aw ax ay az aA aB aC aD aE aF aG aH aI aJ aK aL aM aN aO aP aQ aR aS aT aU aV aW aX aY aZ a3 a4 a5 a6 a7 a8 a9 ba bb bc bd be bg bh : Value) (W : World)
  (c0 : W.cell? ⟨s, 0, none⟩ = some (.int .i64 (m : Int))) (c1 : W.cell? ⟨s, 1, none⟩ = some (.int .i64 (Kg : Int))) (c2 : W.cell? ⟨s, 2, none⟩ = some (.slice P q c))
  (HQ : Hid (∀ (wz : World) (tb : Nat), Below W.heap.size W wz → wz.rangeAt tb 0 [.int .i64 (m : Int), .int .i64 (Kg : Int), .int .i64 (q : Int)] → Q .normal ⟨#[.pointer (some ⟨s, 0, none⟩), u1, u2, u3, u4, u5, u6, u7, u8, u9, aa, ab, ad, .pointer (some ⟨s, 0, none⟩), .pointer (some ⟨s, 0, none⟩), .pointer (some ⟨s, 0, none⟩), .int .i64 (m : Int), .pointer (some ⟨s, 0, none⟩), .pointer (some ⟨s, 0, none⟩), .pointer (some ⟨s, 1, none⟩), .int .i64 (Kg : Int), .pointer (some ⟨s, 0, none⟩), .pointer (some ⟨s, 0, none⟩), .pointer (some ⟨s, 2, none⟩), .slice P q c, .int .i64 (q : Int), .slice (some ⟨tb, 0, none⟩) 3 3, .int .i64 3, .int .i64 0, ax, ay, az, aA, aB, aC, aD, aE, aF, aG, aH, aI, aJ, aK, aL, aM, aN, aO, aP, aQ, aR, aS, aT, aU, aV, aW, aX, aY, aZ, a3, a4, a5, a6, a7, a8, a9, ba, bb, bc, bd, be, bg, bh], []⟩ wz)) : (Code.region 4 en4o true).wp Tryz.prog Q ⟨#[.pointer (some ⟨s, 0, none⟩), u1, u2, u3, u4, u5, u6, u7, u8, u9, aa, ab, ad, ae, af, ag, ah, ai, aj, ak, al, am, an, ao, ap, aq, au, av, aw, ax, ay, az, aA, aB, aC, aD, aE, aF, aG, aH, aI, aJ, aK, aL, aM, aN, aO, aP, aQ, aR, aS, aT, aU, aV, aW, aX, aY, aZ, a3, a4, a5, a6, a7, a8, a9, ba, bb, bc, bd, be, bg, bh], []⟩ W := by
 unfold en4o
 refine wp_region_noPanic ?_
 refine wp_region_held_drew (S := fun x => Below W.heap.size W x) (by kernel_rfl) (bl_drew W) (fun hH0 => ?_)
 refine tj 0 en4o_0 (.pointer (some ⟨s, 0, none⟩)) hH0 (fun w0 hSw => ?_) ?_
 ·(unfold en4o_0 oO; clear hSw; go_simp)
 simp only [en4o_0, oO, Act.put, sA, sB, sC]
 refine tj 4 en4o_4 (.pointer (some ⟨s, 0, none⟩)) hH0 (fun w0 hSw => ?_) ?_
 ·(unfold en4o_4 oO; clear hSw; go_simp)
 simp only [en4o_4, oO, Act.put, sA, sB, sC]
 refine tj 8 en4o_8 (.pointer (some ⟨s, 0, none⟩)) hH0 (fun w0 hSw => ?_) ?_
 ·(unfold en4o_8 oO; clear hSw; go_simp)
 simp only [en4o_8, oO, Act.put, sA, sB, sC]
 refine tj 15 en4o_15 (.int .i64 0) hH0 (fun w0 hSw => ?_) ?_
 ·(unfold en4o_15 oO; clear hSw; go_simp)
 simp only [en4o_15, oO, Act.put, sA, sB, sC]
 refine tj 1 en4o_1 (.pointer (some ⟨s, 0, none⟩)) hH0 (fun w0 hSw => ?_) ?_
 ·(unfold en4o_1 oO; clear hSw; go_simp)
 simp only [en4o_1, oO, Act.put, sA, sB, sC]
 refine tj 5 en4o_5 (.pointer (some ⟨s, 0, none⟩)) hH0 (fun w0 hSw => ?_) ?_
 ·(unfold en4o_5 oO; clear hSw; go_simp)
 simp only [en4o_5, oO, Act.put, sA, sB, sC]
 refine tj 9 en4o_9 (.pointer (some ⟨s, 0, none⟩)) hH0 (fun w0 hSw => ?_) ?_
 ·(unfold en4o_9 oO; clear hSw; go_simp)
 simp only [en4o_9, oO, Act.put, sA, sB, sC]
 refine tj 2 en4o_2 (.pointer (some ⟨s, 0, none⟩)) hH0 (fun w0 hSw => ?_) ?_
 ·(unfold en4o_2 oO; clear hSw; go_simp)
 simp only [en4o_2, oO, Act.put, sA, sB, sC]
 refine tj 6 en4o_6 (.pointer (some ⟨s, 1, none⟩)) hH0 (fun w0 hSw => ?_) ?_
 ·(unfold en4o_6 oO; clear hSw; go_simp)
 simp only [en4o_6, oO, Act.put, sA, sB, sC]
 refine tj 10 en4o_10 (.pointer (some ⟨s, 2, none⟩)) hH0 (fun w0 hSw => ?_) ?_
 ·(unfold en4o_10 oO; clear hSw; go_simp)
 simp only [en4o_10, oO, Act.put, sA, sB, sC]
 refine tj 3 en4o_3 (.int .i64 (m : Int)) hH0 (fun w0 hSw => ?_) ?_
 ·(unfold en4o_3 oO; have hS : Below W.heap.size W w0 := hSw; have a0 := cell_keep c0 hS; clear hS hSw; go_simp)
 simp only [en4o_3, oO, Act.put, sA, sB, sC]
 refine tj 7 en4o_7 (.int .i64 (Kg : Int)) hH0 (fun w0 hSw => ?_) ?_
 ·(unfold en4o_7 oO; have hS : Below W.heap.size W w0 := hSw; have a0 := cell_keep c1 hS; clear hS hSw; go_simp)
 simp only [en4o_7, oO, Act.put, sA, sB, sC]
 refine tj 11 en4o_11 (.slice P q c) hH0 (fun w0 hSw => ?_) ?_
 ·(unfold en4o_11 oO; have hS : Below W.heap.size W w0 := hSw; have a0 := cell_keep c2 hS; clear hS hSw; go_simp)
 simp only [en4o_11, oO, Act.put, sA, sB, sC]
 refine tj 12 en4o_12 (.int .i64 (q : Int)) hH0 (fun w0 hSw => ?_) ?_
 ·(unfold en4o_12 oO; clear hSw; go_simp)
 simp only [en4o_12, oO, Act.put, sA, sB, sC]
 refine ar [13] ?_
 refine ac en4o_13 (fun K hK => ?_) AllReadyH.nil
 unfold en4o_13 oO
 have HH := Hn hH0
 clear hH0
 refine wp_b3 _ _ _ rfl (m : Int) (Kg : Int) (q : Int) rfl rfl rfl (fun tb wn1 htb hwq => ?_)
 have SN := Hn ((by rw [hwq]; exact bl_trans HH.out (bl_alloc _ _) : Below W.heap.size W wn1))
 have R3 := Hn ((by rw [htb, hwq]; exact range_newM _ _ _ : wn1.rangeAt tb 0 [.int .i64 (m : Int), .int .i64 (Kg : Int), .int .i64 (q : Int)]))
 clear HH htb hwq
 simp only [Act.put, sA, sB, sC]
 refine hK.out _ _ SN.out (fun hH1 => ?_)
 clear hK K SN
 refine tj 14 en4o_14 (.int .i64 3) hH1 (fun w0 hSw => ?_) ?_
 ·(unfold en4o_14 oO; clear hSw; go_simp)
 simp only [en4o_14, oO, Act.put, sA, sB, sC]
 have HH := Hn hH1
 have FQ := Hn (HQ.out _ tb HH.out R3.out)
 refine wpAnyH_done (by kernel_rfl) ?_ _
 refine NoPanic.normal ?_
 exact FQ.out
def tmB (x : Tm) : List UInt8 := vn x.1.1.toNat ++ vn x.1.2.toNat ++ kb32 ((lst x.2).n % Sm.L)
def xsB (X : List Tm) : List UInt8 := vn X.length ++ X.flatMap tmB
def enB (m K : Nat) (Q : List (List Tm)) : List UInt8 := vn m ++ vn K ++ vn Q.length ++ Q.flatMap xsB
theorem tmB_len (x : Tm) : (tmB x).length ≤ 52 := by
 have h1 := vn_len x.1.1.toNat
 have h2 := vn_len x.1.2.toNat
 have h3 : (kb32 ((lst x.2).n % Sm.L)).length = 32 := rfl
 unfold tmB
 rw [List.length_append, List.length_append]
 omega
theorem flatm_len {α : Type} (f : α → List UInt8) (n : Nat) : ∀ (l : List α), (∀ x ∈ l, (f x).length ≤ n) → (l.flatMap f).length ≤ l.length * n
 | [], _ => by simp
 | x :: l, h => by
  have h1 := flatm_len f n l (fun y hy => h y (by simp [hy]))
  have h2 := h x (by simp)
  rw [List.flatMap_cons, List.length_append, List.length_cons, Nat.add_mul]
  omega
theorem xsB_len (X : List Tm) : (xsB X).length ≤ 10 + X.length * 52 := by
 have h1 := vn_len X.length
 have h2 := flatm_len tmB 52 X (fun x _ => tmB_len x)
 unfold xsB
 rw [List.length_append]
 omega
theorem up_len : ∀ (l : List Int) (a n : Int), l.Pairwise (· < ·) → (∀ x ∈ l, a ≤ x ∧ x < n) → a ≤ n → (l.length : Int) ≤ n - a
 | [], a, n, _, _, h => by simp; omega
 | x :: l, a, n, hp, hb, h => by
  have hx := hb x (by simp)
  have h1 := up_len l (x + 1) n (List.pairwise_cons.1 hp).2 (fun y hy => ⟨by have := (List.pairwise_cons.1 hp).1 y hy; omega, (hb y (by simp [hy])).2⟩) (by omega)
  rw [List.length_cons]
  omega
theorem ls_len {X : List Tm} {m K : Nat} (hL : Ls Sm.L X) (hw : ∀ x ∈ X, hs m K x.1 = true) (hK : K ≤ 1024) (hm : m ≤ 1024) : X.length ≤ 6150 := by
 have key : ∀ x ∈ X, 1 ≤ x.1.1 ∧ x.1.1 < 6 ∧ 0 ≤ x.1.2 ∧ x.1.2 < 1025 := fun x hx => by
  have h := hw x hx
  unfold hs at h
  simp only [Bool.and_eq_true, decide_eq_true_eq] at h
  obtain ⟨h1, h2, h3, h4⟩ := h
  refine ⟨h1, h2, h3, ?_⟩
  have : ct m K x.1.1.toNat ≤ 1024 := by
   unfold ct
   split <;> omega
  omega
 have h := up_len (X.map fun x => x.1.1 * 1025 + x.1.2) 0 6150 (by
  rw [List.pairwise_map]
  refine hL.up.imp_of_mem (fun {x y} hx hy hb => ?_)
  have hx := key x hx
  have hy := key y hy
  rw [Cm.bf_iff] at hb
  omega) (fun z hz => by
  obtain ⟨x, hx, rfl⟩ := List.mem_map.1 hz
  have := key x hx
  omega) (by omega)
 rw [List.length_map] at h
 omega
end Ci
end Go.Proofs.YthngomhhafoamaaGreatDoor
