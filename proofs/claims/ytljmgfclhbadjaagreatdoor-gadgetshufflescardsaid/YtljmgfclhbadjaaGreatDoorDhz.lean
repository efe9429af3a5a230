import Derived.Test.YtljmgfclhbadjaaGreatDoorTk
import Derived.Test.YtljmgfclhbadjaaGreatDoorDlp
import Derived.Test.YtljmgfclhbadjaaGreatDoorSsb
namespace Go.Proofs.YtljmgfclhbadjaaGreatDoor
open Go.RowKit
set_option linter.unusedVariables false
set_option linter.unusedSimpArgs false
open Cm (Wr Tm co bf Ls lf ins Eqm)
namespace Ci
set_option maxRecDepth 100000
set_option maxHeartbeats 16000000
structure Zr (x : World) (v : Value) (X : List Tm) : Prop where
 own : x.ownsRow 0 55 6 v X.length (tls X)
 n : X.length ≤ 100000
theorem Zs.r {x : World} {v : Value} {X : List Tm} (h : Zs x v X) : Zr x v X := ⟨h.own, h.n⟩
theorem Zr.keep {x y : World} {v : Value} {X : List Tm} (h : Zr x v X) (hb : Below x.heap.size x y) : Zr y v X := ⟨own_keepT h.own hb, h.n⟩
theorem Zr.sh {x : World} {v : Value} {X : List Tm} (h : Zr x v X) : ∃ P c, v = .slice P X.length c ∧ Lt x P X.length (ft X) := by
 obtain ⟨P, c, rfl, -⟩ := own_shT h.own
 exact ⟨P, c, rfl, own_lts h.own⟩
def sbX (X Y : List Tm) : List Tm := lf Sm.L (glL X.length (ft X) ++ glN Y.length (ft Y))
theorem sbX_len (X Y : List Tm) : (sbX X Y).length ≤ X.length + Y.length := by
 have := lf_len_le (glL X.length (ft X) ++ glN Y.length (ft Y))
 simpa [sbX, glL, glN] using this
theorem hs_glL {m K : Nat} {X : List Tm} (h : ∀ z ∈ X, hs m K z.1 = true) : ∀ z ∈ glL X.length (ft X), hs m K z.1 = true := fun z hz => by
 simp only [glL, List.mem_map, List.mem_range] at hz
 obtain ⟨i, hi, rfl⟩ := hz
 obtain ⟨w, hw, e⟩ := ft_mem hi
 show hs m K (ft X i).q = true
 rw [e]
 exact h w hw
theorem hs_glN {m K : Nat} {X : List Tm} (h : ∀ z ∈ X, hs m K z.1 = true) : ∀ z ∈ glN X.length (ft X), hs m K z.1 = true := fun z hz => by
 simp only [glN, List.mem_map, List.mem_range] at hz
 obtain ⟨i, hi, rfl⟩ := hz
 obtain ⟨w, hw, e⟩ := ft_mem hi
 show hs m K (ft X i).q = true
 rw [e]
 exact h w hw
theorem hs_sb {m K : Nat} {X Y : List Tm} (hX : ∀ z ∈ X, hs m K z.1 = true) (hY : ∀ z ∈ Y, hs m K z.1 = true) : ∀ z ∈ sbX X Y, hs m K z.1 = true := fun z hz => by
 obtain ⟨y, hy, e⟩ := lf_mem hz
 rw [e]
 rcases List.mem_append.1 hy with h | h
 ·exact hs_glL hX y h
 ·exact hs_glN hY y h
theorem hs_un {m K : Nat} : ∀ z ∈ unX, hs m K z.1 = true := fun z hz => by
 obtain ⟨y, hy, e⟩ := lf_mem hz
 rw [e]
 simp only [glM, List.range_one, List.map_cons, List.map_nil, List.mem_singleton] at hy
 subst hy
 rfl
theorem unX_len : unX.length ≤ 1 := lf_len_le _
theorem subR {x : World} {u v : Value} {X Y : List Tm} (hT : Tb x) (hu : Zr x u X) (hv : Zr x v Y) : Calls Tryz.prog 148 #[u, v] x fun e w' => LvP (sbX X Y) x e w' := by
 obtain ⟨P, c, rfl, l1⟩ := hu.sh
 obtain ⟨P2, c2, rfl, l2⟩ := hv.sh
 have n1 := hu.n
 have n2 := hv.n
 exact Sub_lin P P2 X.length c Y.length c2 (ft X) (ft Y) x hT (by omega) (fun k hk => lst_ok _) (fun k hk => lst_ok _) l1 l2
theorem hs_wire {m K : Nat} (k : Int) (h2 : 2 ≤ k) (h4 : k ≤ 4) : ∀ z ∈ ([((k, (K : Int)), 1)] : List Tm), hs m (K + 1) z.1 = true := fun z hz => by
 rw [List.mem_singleton.1 hz]
 show hs m (K + 1) (k, (K : Int)) = true
 unfold hs
 have hk : k = 2 ∨ k = 3 ∨ k = 4 := by omega
 rcases hk with rfl | rfl | rfl <;> (simp only [Bool.and_eq_true, decide_eq_true_eq]; refine ⟨by omega, by omega, by omega, ?_⟩; show (K : Int) < ((K + 1 : Nat) : Int); omega)
section
variable {S S' : Nat → Prop} {d m q b lb n c : Nat} {p : Pz} {x y : World}
theorem Zm.two {v1 v2 : Value} {X1 X2 : List Tm} (h : Ds S d m p q b x) (h1 : Zo S x v1 X1) (h2 : Zo S x v2 X2) : Zm S (x.alloc (.cells #[v1, v2] 50)) x.heap.size 2 (fun j => if j = 0 then v1 else v2) (fun j => if j = 0 then X1 else X2) := ⟨fun e => by have := h.lt _ e; omega, by simp, fun j hj => by
 have hj2 : j = 0 ∨ j = 1 := by omega
 rcases hj2 with rfl | rfl
 ·exact ⟨cell_of_row _ _ 0 _ _ (0, 0) (heap_alloc_new x _), h1.keep (bl_alloc _ _)⟩
 ·exact ⟨cell_of_row _ _ 1 _ _ (0, 0) (heap_alloc_new x _), h2.keep (bl_alloc _ _)⟩⟩
def bitR (t : Int) : E4 := lst ((lst t).n - (⟨1, 0, 0, 0⟩ : E4).n)
def bitX (K : Int) : Nat → List Tm := fun j => if j = 0 then [((4, K), 1)] else sbX (sbX [((2, K), 1)] [((3, K), 1)]) unX
theorem bitX_hs {m K : Nat} : ∀ j, j < 2 → ∀ z ∈ bitX (K : Int) j, hs m (K + 1) z.1 = true := fun j hj => by
 have hj2 : j = 0 ∨ j = 1 := by omega
 rcases hj2 with rfl | rfl
 ·exact hs_wire 4 (by omega) (by omega)
 ·exact hs_sb (hs_sb (hs_wire 2 (by omega) (by omega)) (hs_wire 3 (by omega) (by omega))) hs_un
def pBit (p : Pz) (t : Int) : Pz := pReqs (pFree p (lst t) (bitR t)) (bitX (p.K : Int)) 2
theorem freeBit_any (h : Ds S d m p q b x) (t : Int) (ht : t = 0 ∨ t = 1) (hq : p.Q.length + 2 ≤ 4096) (hK : p.K < 1024) :
  Calls Tryz.prog 243 #[.pointer (some ⟨d, 0, none⟩), .int .i64 t] x fun e w' => LoP S d m (pBit p t) q b [((2, (p.K : Int)), 1)] x e w' := by
 have hw : IntKind.u64.wrap t = t := by rcases ht with rfl | rfl <;> rfl
 have C1 := Hn (fix (R := lst t) (Int_any t x (by rcases ht with rfl | rfl <;> (unfold Sm.Wd; omega))) rfl)
 have HD := Hn h
 have HQ := Hn hq
 have H1 := Hn (fun y => by
  have c := fix (R := ⟨1, 0, 0, 0⟩) (Int_any 1 y (by unfold Sm.Wd; omega)) one_is
  simp only [E4.v] at c
  exact c)
 have H2 := Hn (fun y (hT : Tb y) => by
  have c := fix (R := bitR t) (Sub_any (lst t) ⟨1, 0, 0, 0⟩ y hT (lst_ok _) (by refine ⟨?_, ?_, ?_, ?_⟩ <;> (unfold Sm.Wd; simp))) rfl
  simp only [E4.v] at c
  exact c)
 simp only [E4.v] at C1
 have LK := Hn (lst_ok t)
 have LZ := Hn (show (bitR t).ok from lst_ok _)
 unfold pBit
 generalize bitR t = z at *
 generalize lst t = k at *
 clear h hq
 go_enter Tryz.func243, Tryz.ntmps243
 go_upto_region 2 with (go_at_call 120; refine C1.out.mono ?_; rintro e w1 ⟨rfl, hb⟩; have B1 := Hn hb; clear hb C1)
 have BX : Hid (Below x.heap.size x (w1.alloc (.cells #[.int .u64 k.x0, .int .u64 k.x1, .int .u64 k.x2, .int .u64 k.x3] 53))) := Hn (bl_trans B1.out (bl_alloc _ _))
 have BA : Hid (Bz (w1.alloc (.cells #[.int .u64 k.x0, .int .u64 k.x1, .int .u64 k.x2, .int .u64 k.x3] 53)) w1.heap.size k) := Hn (heap_alloc_new w1 _)
 have XA : Hid (¬ S w1.heap.size) := Hn (fun e => by have := HD.out.lt _ e; have := B1.out.size; omega)
 obtain ⟨xa, hxa⟩ : ∃ xa, w1.heap.size = xa := ⟨_, rfl⟩
 obtain ⟨x1, hx1⟩ : ∃ x1, w1.alloc (.cells #[.int .u64 k.x0, .int .u64 k.x1, .int .u64 k.x2, .int .u64 k.x3] 53) = x1 := ⟨_, rfl⟩
 rw [hx1] at BX BA ⊢
 rw [hxa] at BA XA
 simp only [hxa]
 clear hx1 hxa B1
 have D1 := Hn (HD.out.keep BX.out)
 refine fb2 _ S d m q b xa (pFree p k z) (p.K : Int) k z _ _ _ _ _ _ _ _ _ _ _ _ _ _ _ _ _ _ _ _ _ _ _ _ _ _ _ _ _ _ x1 (BA.out.c 0) (BA.out.c 1) (BA.out.c 2) (BA.out.c 3) XA (Hn H1.out) (Hn (fun y hy => H2.out y (D1.out.keep hy).tb)) (Hn (fun y hy => dfree_any (D1.out.keep hy) k z LK.out LZ.out hK)) (Hn ?_)
 intro w2 v1 v2 v3 hl
 obtain ⟨S2, d2, g2, k2, z1, z2, z3⟩ := hl
 have D2 := Hn d2
 have G2 : Hid (Gs S x w2) := Hn ((Gs.bl BX.out).trans g2 Sk.refl)
 have K2 : Hid (Sk S S2 x) := Hn (Sk.trans Sk.refl k2 BX.out.size)
 have ZZ := Hn (And.intro z1 (And.intro z2 z3))
 have C4 := Hn (subR d2.tb z1.1.r z2.1.r)
 obtain ⟨P3, c3, rfl, -⟩ := z3.1.sh
 clear d2 g2 k2 z1 z2 z3 H1 H2 BA
 go_wp2_with (first | (go_at_call 148; refine C4.out.mono ?_; rintro e w3 ⟨v4, rfl, hl⟩; have Q4 := Hn hl; have C5 := Hn (unit_any w3 (D2.out.keep hl.2.1).tb); clear hl C4) | (go_at_call 149; refine C5.out.mono ?_; rintro e w4 ⟨v5, rfl, hl⟩; have Q5 := Hn hl; have C6 := Hn (subR (D2.out.keep (bl_trans Q4.out.2.1 hl.2.1)).tb (((Zo.new Q4.out D2.out.lt (Nat.le_trans (sbX_len _ _) (by simp))).keep hl.2.1).1.r) (Zo.new hl (D2.out.keep Q4.out.2.1).lt (Nat.le_trans unX_len (by omega))).1.r); clear hl C5) | (go_at_call 148; refine C6.out.mono ?_; rintro e w5 ⟨v6, rfl, hl⟩; have Q6 := Hn hl; obtain ⟨P6, c6, hv, -⟩ := (Zo.new hl (D2.out.keep (bl_trans Q4.out.2.1 Q5.out.2.1)).lt (Nat.le_trans (sbX_len _ _) (Nat.le_trans (Nat.add_le_add (sbX_len _ _) unX_len) (by simp)))).1.sh; subst hv; clear hl C6) | (go_at_call 216; have b5 := bl_trans (bl_trans Q4.out.2.1 Q5.out.2.1) Q6.out.2.1; have d5 := D2.out.keep b5; refine (dzero_any (d5.keep (bl_alloc _ _)) w5.heap.size 2 2 _ (bitX (p.K : Int)) (Zm.two d5 (ZZ.out.2.2.keep b5) (Zo.new Q6.out (D2.out.keep (bl_trans Q4.out.2.1 Q5.out.2.1)).lt (Nat.le_trans (sbX_len _ _) (Nat.le_trans (Nat.add_le_add (sbX_len _ _) unX_len) (by simp))))) (by omega) HQ.out bitX_hs).mono ?_; rintro e w7 ⟨rfl, S7, d7, g7, k7⟩; have B6 : Hid (Below w2.heap.size w2 (w5.alloc (.cells #[.slice P3 1 c3, .slice P6 (sbX (sbX [((2, (p.K : Int)), 1)] [((3, (p.K : Int)), 1)]) unX).length c6] 50))) := Hn (bl_trans b5 (bl_alloc _ _)); have D7 := Hn d7; have G7 := Hn (And.intro g7 k7); clear d7 g7 k7 b5 d5))
 have z1 := (ZZ.out.1.keep B6.out).step G7.out.1 G7.out.2
 have kk := K2.out.trans (Sk.trans Sk.refl G7.out.2 B6.out.size) G2.out.size
 exact bodyPost_ret (v := v1) (by simp [results, Tryz.results243, go_sem]) rfl ⟨S7, v1, rfl, D7.out, (G2.out.trans (Gs.bl B6.out) K2.out).trans G7.out.1 K2.out, kk, z1⟩
end
end Ci
end Go.Proofs.YtljmgfclhbadjaaGreatDoor
namespace Go.Proofs.YtljmgfclhbadjaaGreatDoor
open Go.RowKit
set_option linter.unusedVariables false
set_option linter.unusedSimpArgs false
open Cm (Wr Tm co bf Ls lf ins Eqm)
namespace Ci
set_option maxRecDepth 100000
set_option maxHeartbeats 16000000
section
variable {S S' : Nat → Prop} {d m K q b lb n c : Nat} {p : Pz} {x y z : World} {Q : List (List Tm)} {vv : Value} {vs : List Value} {R : Nat → Sl} {e : Int} {row : Option Nat}
theorem own_gbK {b0 n s : Nat} {T : TypeId} {v : Value} {xs : List Value} (h : x.ownsRow b0 T s v n xs) (g : x.grownBy y row) (hr : ∀ k, row = some k → v.ownBlock ≠ some k) : y.ownsRow b0 T s v n xs := h.kept g (by
 cases hq : v.ownBlock with
 | none => exact .inl rfl
 | some k => exact .inr (fun e => hr k e.symm hq))
theorem Gs.up (h : Gs S x y) (g : y.grownBy z row) (hr : ∀ k, row = some k → x.heap.size ≤ k) : Gs S x z := ⟨g.os.trans h.os, g.tape.trans h.tape, g.output.trans h.output, Nat.le_trans h.size g.size, fun i hi hn => (g.block i (Nat.lt_of_lt_of_le hi h.size) (fun e => by have := hr i e.symm; omega)).trans (h.block i hi hn)⟩
theorem Bz.gb {a : Nat} {u : E4} (h : Bz x a u) (g : x.grownBy y row) (hr : ∀ k, row = some k → k ≠ a) : Bz y a u := (g.block a h.lt (fun e => hr a e.symm rfl)).trans h
theorem Dz.gb (h : Dz S d m K Q q b vv vs R e x) (hvs : ∀ u ∈ vs, ∀ k, u.ownBlock = some k → S k) (g : x.grownBy y row) (hr : ∀ k, row = some k → ¬ S k ∧ k ≠ 1) : Dz S d m K Q q b vv vs R e y := by
 have ns : ∀ i, S i → some i ≠ row := fun i hi e9 => (hr i e9.symm).1 hi
 have nv : ∀ {b0 n s : Nat} {T : TypeId} {v : Value} {xs : List Value}, x.ownsRow b0 T s v n xs → (∀ k, v.ownBlock = some k → S k) → y.ownsRow b0 T s v n xs := fun h1 h2 => own_gbK h1 g (fun k hk e9 => (hr k hk).1 (h2 k e9))
 refine ⟨(g.block d (h.ob.lt d h.pd) (ns d h.pd)).trans h.hd, ⟨(g.block q (h.ob.lt q h.pq) (ns q h.pq)).trans h.sy.h, nv h.sy.row h.pv, fun i X hX => ?_, h.sy.bs, h.sy.sm⟩, h.wk, ⟨(g.block b (h.ob.lt b h.ob.pb) (ns b h.ob.pb)).trans h.ob.bx, fun j hj => ⟨nv (h.ob.rw j hj).own (h.ob.pr j hj), (h.ob.rw j hj).ok, (h.ob.rw j hj).n⟩, h.ob.dj, h.ob.pr, h.ob.pb, fun i hi => Nat.lt_of_lt_of_le (h.ob.lt i hi) g.size⟩, ⟨?_, h.tq.2⟩, h.pd, h.pq, h.pv⟩
 ·obtain ⟨w, a1, a2⟩ := h.sy.ls i X hX
  exact ⟨w, a1, nv a2 (hvs w (List.mem_of_getElem? a1))⟩
 ·have hg : Gs (fun k => some k = row) x y := ⟨g.os, g.tape, g.output, g.size, fun i hi hn => g.block i hi hn⟩
  exact tb_gs h.tq.1 hg (fun e9 => (hr _ e9.symm).2 rfl)
theorem Ds.gb (h : Ds S d m p q b x) (g : x.grownBy y row) (hr : ∀ k, row = some k → ¬ S k ∧ k ≠ 1) : Ds S d m p q b y := by
 obtain ⟨⟨vv, vs, R, hz, ha, hvs⟩, hln, hl3, hm⟩ := h
 exact ⟨⟨vv, vs, R, hz.gb hvs g hr, ha, hvs⟩, hln, hl3, hm⟩
theorem Ds.nt (h : Ds S d m p q b x) : 1 < x.heap.size := World.block_lt_of_cell? x _ h.tb.1
end
theorem wpL_apL {ops : Array Oper} {rest : List Oper} {o : Oper} {a : Act} {w : World} {Q : Exit → Act → World → Prop} (hgd : o.guard = none) (s x : Operand) (ho : o.op = .call { callee := .builtin .append, args := #[s, x], argTypes := #[48, 48] }) (base i : Nat) (lv : Value) (xs : List Value) (hs : a.eval s = lv) (hw : w.ownsRow base 50 1 lv i xs) (tb n c : Nat) (ys : List Value) (hx : a.eval x = .slice (some ⟨tb, 0, none⟩) n c) (hl : ys.length = n) (hc : ∀ j u, ys[j]? = some u → w.cell? ⟨tb, j, none⟩ = some u) (h1 : ∀ u ∈ ys, u.oneCell' = true) (hi : i + n ≤ 100000) (hb : base ≤ w.heap.size)
  (h : ∀ lv' w', w'.ownsRow base 50 1 lv' (i + n) (xs ++ ys) → w.grownBy w' lv.ownBlock → (∀ k, lv'.ownBlock = some k → lv.ownBlock = some k ∨ w.heap.size ≤ k) → wpList Tryz.prog ops Q rest (a.put o.dst lv') w') : wpList Tryz.prog ops Q (o :: rest) a w := by
 have T1 : Tryz.prog.underlying 48 = some (.slice 50) := by kernel_rfl
 have HZ0 : (Tryz.prog.info? 50).get!.zero = some (.slice none 0 0) := by kernel_rfl
 have HZ1 : (Tryz.prog.info? 50).get!.size = 1 := by kernel_rfl
 have HZ2 : (Tryz.prog.info? 50).get!.bytes = 24 := by kernel_rfl
 refine wpList_append_own_at _ hgd s x 48 ho base 50 _ _ 1 24 T1 llinfo HZ0 HZ1 HZ2 rfl (by decide) lv i xs hs hw ⟨tb, 0, none⟩ n c ys hx (by omega) (fun j u hu => by rw [Addr.add_mid, Nat.zero_add]; exact hc j u hu) h1 (by unfold maxLen; omega) (by omega) hb (fun v' w' k1 k2 _ k4 => h v' w' k1 k2 (fun k hk => ?_))
 rcases k4 with e | e
 ·rw [e] at hk; exact .inl hk
 ·rw [e] at hk; exact .inr (by rw [← Option.some.inj hk]; exact Nat.le_refl _)
theorem wpL_apT {ops : Array Oper} {rest : List Oper} {o : Oper} {a : Act} {w : World} {Q : Exit → Act → World → Prop} (hgd : o.guard = none) (s x : Operand) (ho : o.op = .call { callee := .builtin .append, args := #[s, x], argTypes := #[50, 50] }) (base : Nat) (sv : Value) (X Y : List Tm) (hs : a.eval s = sv) (hw : w.ownsRow base 55 6 sv X.length (tls X)) (tb c : Nat) (hx : a.eval x = .slice (some ⟨tb, 0, none⟩) Y.length c) (hc : w.ownsRow 0 55 6 (.slice (some ⟨tb, 0, none⟩) Y.length c) Y.length (tls Y)) (hi : X.length + Y.length ≤ 100000) (hb : base ≤ w.heap.size)
  (h : ∀ sv' w', w'.ownsRow base 55 6 sv' (X ++ Y).length (tls (X ++ Y)) → w.grownBy w' sv.ownBlock → (∀ k, sv'.ownBlock = some k → sv.ownBlock = some k ∨ w.heap.size ≤ k) → wpList Tryz.prog ops Q rest (a.put o.dst sv') w') : wpList Tryz.prog ops Q (o :: rest) a w := by
 have T1 : Tryz.prog.underlying 50 = some (.slice 55) := by kernel_rfl
 have HZ0 : (Tryz.prog.info? 55).get!.zero = some (.agg #[.int .i64 0, .int .i64 0, .int .u64 0, .int .u64 0, .int .u64 0, .int .u64 0]) := by kernel_rfl
 have HZ1 : (Tryz.prog.info? 55).get!.size = 6 := by kernel_rfl
 have HZ2 : (Tryz.prog.info? 55).get!.bytes = 48 := by kernel_rfl
 have e1 : tls (X ++ Y) = tls X ++ tls Y := by rw [tls_map, tls_map, tls_map, List.flatMap_append]
 rw [e1] at h
 rw [List.length_append] at h
 refine wpList_append_own_at _ hgd s x 50 ho base 55 _ _ 6 48 T1 tinfo HZ0 HZ1 HZ2 rfl (by decide) sv X.length (tls X) hs hw ⟨tb, 0, none⟩ Y.length c (tls Y) hx hc.1 (fun j u hu => hc.cells (g := tb) rfl j u hu) (tls_one Y) (by unfold maxLen; omega) (by omega) hb (fun v' w' k1 k2 _ k4 => h v' w' k1 k2 (fun k hk => ?_))
 rcases k4 with e | e
 ·rw [e] at hk; exact .inl hk
 ·rw [e] at hk; exact .inr (by rw [← Option.some.inj hk]; exact Nat.le_refl _)
def tmX (k : E4) (X : List Tm) : List Tm := lf Sm.L (glM k X.length (ft X))
theorem tmX_len (k : E4) (X : List Tm) : (tmX k X).length ≤ X.length := by
 have := lf_len_le (glM k X.length (ft X))
 simpa [tmX, glM] using this
theorem hs_tm {m K : Nat} {k : E4} {X : List Tm} (h : ∀ z ∈ X, hs m K z.1 = true) : ∀ z ∈ tmX k X, hs m K z.1 = true := fun z hz => by
 obtain ⟨y, hy, e⟩ := lf_mem hz
 rw [e]
 simp only [glM, List.mem_map, List.mem_range] at hy
 obtain ⟨i, hi, rfl⟩ := hy
 obtain ⟨w, hw, e2⟩ := ft_mem hi
 show hs m K (ft X i).q = true
 rw [e2]
 exact h w hw
theorem timesR {x : World} {u : Value} {X : List Tm} (k : E4) (hk : k.ok) (hT : Tb x) (hu : Zr x u X) : Calls Tryz.prog 159 #[u, .agg #[.int .u64 k.x0, .int .u64 k.x1, .int .u64 k.x2, .int .u64 k.x3]] x fun e w' => LvP (tmX k X) x e w' := by
 obtain ⟨P, c, rfl, l1⟩ := hu.sh
 have n1 := hu.n
 exact Times_any P X.length c (ft X) k x hT (by omega) hk (fun k hk => lst_ok _) l1
def wtS : Nat → E4
 | 0 => ⟨1, 0, 0, 0⟩
 | i + 1 => lst ((wtS i).n + (wtS i).n)
def pS (p : Pz) (z : E4) : Nat → Pz
 | 0 => p
 | i + 1 => pBit (pS p z i) (bitE (lst z.n) i)
def sumS (K : Nat) : Nat → List Tm
 | 0 => []
 | i + 1 => sumS K i ++ tmX (wtS i) [((2, ((K + i : Nat) : Int)), 1)]
theorem pS_K (p : Pz) (z : E4) (i : Nat) : (pS p z i).K = p.K + i := by
 induction i with
 | zero => rfl
 | succ i ih => show (pS p z i).K + 1 = _; omega
theorem pS_Q (p : Pz) (z : E4) (i : Nat) : (pS p z i).Q.length = p.Q.length + 2 * i := by
 induction i with
 | zero => rfl
 | succ i ih => show (pBit (pS p z i) (bitE (lst z.n) i)).Q.length = _; unfold pBit; rw [pReqs_Q]; show (pS p z i).Q.length + 2 = _; omega
theorem sumS_len (K i : Nat) : (sumS K i).length ≤ i := by
 induction i with
 | zero => exact Nat.le_refl _
 | succ i ih =>
  show (sumS K i ++ tmX (wtS i) _).length ≤ _
  rw [List.length_append]
  have := tmX_len (wtS i) [((2, ((K + i : Nat) : Int)), 1)]
  simp only [List.length_cons, List.length_nil] at this
  omega
theorem sumS_hs {m : Nat} (K i : Nat) : ∀ z ∈ sumS K i, hs m (K + i) z.1 = true := by
 induction i with
 | zero => intro z hz; cases hz
 | succ i ih =>
  intro z hz
  rcases List.mem_append.1 hz with h | h
  ·exact hs_mono (ih z h) (by omega)
  ·exact hs_tm (hs_wire 2 (by omega) (by omega)) z h
theorem wtS_ok (i : Nat) : (wtS i).ok := by
 cases i with
 | zero => refine ⟨?_, ?_, ?_, ?_⟩ <;> (simp only [wtS]; unfold Sm.Wd; decide)
 | succ i => exact lst_ok _
theorem bitE_01 (a : E4) (k : Nat) : bitE a k = 0 ∨ bitE a k = 1 := by
 unfold bitE
 omega
def pSplit (m : Nat) (p : Pz) (X : List Tm) (n : Nat) : Pz := pReq (pS p (nuE p.G m p.K X) n) (sbX (sumS p.K n) X)
end Ci
end Go.Proofs.YtljmgfclhbadjaaGreatDoor
namespace Go.Proofs.YtljmgfclhbadjaaGreatDoor
open Go.RowKit
set_option linter.unusedVariables false
set_option linter.unusedSimpArgs false
open Cm (Wr Tm co bf Ls lf ins Eqm)
namespace Ci
set_option maxRecDepth 100000
set_option maxHeartbeats 16000000
def SpP (S : Nat → Prop) (d m : Nat) (p : Pz) (q b n : Nat) (x : World) (e : Ending) (w' : World) : Prop := ∃ S' v xs, e = .returned v ∧ Ds S' d m p q b w' ∧ Gs S x w' ∧ Sk S S' x ∧ w'.ownsRow x.heap.size 50 1 v n xs ∧ Out S' v ∧ ∀ u ∈ xs, u.oneCell' = true
structure Sp (S : Nat → Prop) (d m q b : Nat) (p : Pz) (z wt : E4) (x : World) (xn xw i : Nat) (X : List Tm) (S' : Nat → Prop) (lv sv : Value) (xs : List Value) (w : World) : Prop where
 ds : Ds S' d m p q b w
 gs : Gs S x w
 sk : Sk S S' x
 bn : Bz w xn z
 bw : Bz w xw wt
 nn : ¬ S' xn
 nw : ¬ S' xw
 lw : x.heap.size ≤ xw
 nm : xn ≠ xw
 nt : 1 < x.heap.size
 lo : w.ownsRow x.heap.size 50 1 lv i xs
 ol : Out S' lv
 on : ∀ u ∈ xs, u.oneCell' = true
 so : w.ownsRow x.heap.size 55 6 sv X.length (tls X)
 os : Out S' sv
theorem Out.grow {S : Nat → Prop} {w : World} {v v' : Value} (h : Out S v) (hd : ∀ k, S k → k < w.heap.size) (hk : ∀ k, v'.ownBlock = some k → v.ownBlock = some k ∨ w.heap.size ≤ k) : Out S v' := fun k e h1 => by
 rcases hk k e with e2 | e2
 ·exact h k e2 h1
 ·have := hd k h1; omega
section
variable {S S' S2 : Nat → Prop} {d m q b xn xw i n : Nat} {p p2 : Pz} {z wt : E4} {x w y : World} {lv sv lv' sv' : Value} {xs ys : List Value} {X Y : List Tm}
theorem Sp.keep (h : Sp S d m q b p z wt x xn xw i X S' lv sv xs w) (hb : Below w.heap.size w y) : Sp S d m q b p z wt x xn xw i X S' lv sv xs y :=
 ⟨h.ds.keep hb, h.gs.trans (Gs.bl hb) h.sk, h.sk, h.bn.keep hb, h.bw.keep hb, h.nn, h.nw, h.lw, h.nm, h.nt, own_keepT h.lo hb, h.ol, h.on, own_keepT h.so hb, h.os⟩
theorem Sp.step (h : Sp S d m q b p z wt x xn xw i X S' lv sv xs w) (hd : Ds S2 d m p2 q b y) (hg : Gs S' w y) (hk : Sk S' S2 w) : Sp S d m q b p2 z wt x xn xw i X S2 lv sv xs y :=
 ⟨hd, h.gs.trans hg h.sk, h.sk.trans hk h.gs.size, h.bn.gs hg h.nn, h.bw.gs hg h.nw, out_sk h.nn hk h.bn.lt, out_sk h.nw hk h.bw.lt, h.lw, h.nm, h.nt, hg.own h.lo h.ol, Out.sk h.ol h.lo hk, h.on, hg.own h.so h.os, Out.sk h.os h.so hk⟩
theorem Sp.apL (h : Sp S d m q b p z wt x xn xw i X S' lv sv xs w) (ho : y.ownsRow x.heap.size 50 1 lv' (i + n) (xs ++ ys)) (hg : w.grownBy y lv.ownBlock) (hk : ∀ k, lv'.ownBlock = some k → lv.ownBlock = some k ∨ w.heap.size ≤ k) (hy : ∀ u ∈ ys, u.oneCell' = true) : Sp S d m q b p z wt x xn xw (i + n) X S' lv' sv (xs ++ ys) y :=
 ⟨h.ds.gb hg (fun k e => ⟨h.ol k e, fun e2 => by have := (h.lo.lt k e).1; have := h.nt; omega⟩), h.gs.up hg (fun k e => (h.lo.lt k e).1), h.sk, h.bn.gb hg (fun k e e2 => box_kd h.lo h.bn (by decide) (by rw [← e2]; exact e)), h.bw.gb hg (fun k e e2 => box_kd h.lo h.bw (by decide) (by rw [← e2]; exact e)), h.nn, h.nw, h.lw, h.nm, h.nt, ho, h.ol.grow h.ds.lt hk, fun u hu => (List.mem_append.1 hu).elim (h.on u) (hy u), own_kept h.so h.lo (by decide) hg, h.os⟩
theorem Sp.apT (h : Sp S d m q b p z wt x xn xw i X S' lv sv xs w) (ho : y.ownsRow x.heap.size 55 6 sv' (X ++ Y).length (tls (X ++ Y))) (hg : w.grownBy y sv.ownBlock) (hk : ∀ k, sv'.ownBlock = some k → sv.ownBlock = some k ∨ w.heap.size ≤ k) : Sp S d m q b p z wt x xn xw i (X ++ Y) S' lv sv' xs y :=
 ⟨h.ds.gb hg (fun k e => ⟨h.os k e, fun e2 => by have := (h.so.lt k e).1; have := h.nt; omega⟩), h.gs.up hg (fun k e => (h.so.lt k e).1), h.sk, h.bn.gb hg (fun k e e2 => box_kd h.so h.bn (by decide) (by rw [← e2]; exact e)), h.bw.gb hg (fun k e e2 => box_kd h.so h.bw (by decide) (by rw [← e2]; exact e)), h.nn, h.nw, h.lw, h.nm, h.nt, own_kept h.lo h.so (by decide) hg, h.ol, h.on, ho, h.os.grow h.ds.lt hk⟩
theorem there_bz {a : Nat} {u : E4} (h : Bz w a u) : w.there a 0 4 := fun j hj => ⟨by rw [Nat.zero_add, h.c j]; match j, hj with
 | 0, _ => rfl
 | 1, _ => rfl
 | 2, _ => rfl
 | 3, _ => rfl, frozen_of_row w a _ _ _ h⟩
theorem bz_set {a : Nat} {u t : E4} (h : Bz w a u) : Bz (w.setCells a 0 [.int .u64 t.x0, .int .u64 t.x1, .int .u64 t.x2, .int .u64 t.x3]) a t := by
 have h1 := heap_setCell_same w a 0 _ 53 (.int .u64 t.x0) h
 have h2 := heap_setCell_same _ a 1 _ 53 (.int .u64 t.x1) h1
 have h3 := heap_setCell_same _ a 2 _ 53 (.int .u64 t.x2) h2
 exact heap_setCell_same _ a 3 _ 53 (.int .u64 t.x3) h3
theorem Sp.st (h : Sp S d m q b p z wt x xn xw i X S' lv sv xs w) {t : E4} (hy : y = w.setCells xw 0 [.int .u64 t.x0, .int .u64 t.x1, .int .u64 t.x2, .int .u64 t.x3]) : Sp S d m q b p z t x xn xw i X S' lv sv xs y := by
 have hg : w.grownBy y (some xw) := by rw [hy]; exact gb_setCells xw _ 0 w
 refine ⟨h.ds.gb hg (fun k e => ⟨by rw [← Option.some.inj e]; exact h.nw, fun e2 => by have := Option.some.inj e; have := h.lw; have := h.nt; omega⟩), h.gs.up hg (fun k e => by rw [← Option.some.inj e]; exact h.lw), h.sk, h.bn.gb hg (fun k e e2 => h.nm (by rw [Option.some.inj e, e2])), ?_, h.nn, h.nw, h.lw, h.nm, h.nt, own_setK2 h.lo hg h.bw (by decide), h.ol, h.on, own_setK2 h.so hg h.bw (by decide), h.os⟩
 rw [hy]
 exact bz_set h.bw
theorem dnumberD {S : Nat → Prop} {d m q b : Nat} {p : Pz} {x : World} {v : Value} {X : List Tm} (h : Ds S d m p q b x) (hz : Zs x v X) :
  Calls Tryz.prog 33 #[.pointer (some ⟨d, 0, none⟩), v] x fun e' w' => NuP (nuE p.G m p.K X) x e' w' := by
 obtain ⟨⟨vv, vs, R, h1, ha, hvs⟩, hln, hl3, hm⟩ := h
 exact dnumberZ h1 ha hz
end
theorem dsplit_any {S : Nat → Prop} {d m q b : Nat} {p : Pz} {x : World} (h : Ds S d m p q b x) {v : Value} {X : List Tm} (hv : Zo S x v X) (n : Nat) (hn : n ≤ 251) (hq : p.Q.length + 2 * n + 1 ≤ 4096) (hK : p.K + n ≤ 1024) (hX : ∀ z ∈ X, hs m p.K z.1 = true) (hx9 : X.length ≤ 90000) (hnz : ∀ i, i < n → (tmX (wtS i) [((2, ((p.K + i : Nat) : Int)), 1)]).length = 1) :
  Calls Tryz.prog 213 #[.pointer (some ⟨d, 0, none⟩), v, .int .i64 (n : Int)] x fun e w' => SpP S d m (pSplit m p X n) q b n x e w' := by
 have C1 := Hn (dnumberD h hv.1)
 have HD := Hn h
 have HV := Hn hv
 have HX := Hn (And.intro hX hx9)
 have HN := Hn (And.intro hn (And.intro hq hK))
 have HZ := Hn hnz
 have H1 := Hn (fun y => by
  have c := fix (R := ⟨1, 0, 0, 0⟩) (Int_any 1 y (by unfold Sm.Wd; omega)) one_is
  simp only [E4.v] at c
  exact c)
 obtain ⟨z, hz⟩ : ∃ z, nuE p.G m p.K X = z := ⟨_, rfl⟩
 have ZE := Hn hz
 rw [hz] at C1
 have ZK := Hn (show z.ok from hz ▸ nuE_ok _ _ _ _)
 clear h hv hX hx9 hn hq hK hnz hz
 go_enter Tryz.func213, Tryz.ntmps213
 go_upto_region 2 with (go_at_call 33; refine C1.out.mono ?_; rintro e w1 ⟨⟨t1, rfl⟩, hb⟩; have B1 := Hn hb; clear hb C1)
 have BX : Hid (Below x.heap.size x (w1.alloc (.cells #[.int .u64 z.x0, .int .u64 z.x1, .int .u64 z.x2, .int .u64 z.x3] 53))) := Hn (bl_trans B1.out (bl_alloc _ _))
 have BA : Hid (Bz (w1.alloc (.cells #[.int .u64 z.x0, .int .u64 z.x1, .int .u64 z.x2, .int .u64 z.x3] 53)) w1.heap.size z) := Hn (heap_alloc_new w1 _)
 have XA : Hid (x.heap.size ≤ w1.heap.size) := Hn B1.out.size
 obtain ⟨xn, hxa⟩ : ∃ xn, w1.heap.size = xn := ⟨_, rfl⟩
 obtain ⟨x1, hx1⟩ : ∃ x1, w1.alloc (.cells #[.int .u64 z.x0, .int .u64 z.x1, .int .u64 z.x2, .int .u64 z.x3] 53) = x1 := ⟨_, rfl⟩
 rw [hx1] at BX BA ⊢
 rw [hxa] at BA XA
 simp only [hxa]
 clear hx1 hxa B1
 go_upto_region 6 with (go_at_call 120; refine (H1.out _).mono ?_; rintro e w2 ⟨rfl, hb⟩; have B2 := Hn hb; clear hb H1)
 have B3 : Hid (Below x.heap.size x (w2.alloc (.cells #[.int .u64 1, .int .u64 0, .int .u64 0, .int .u64 0] 53))) := Hn (bl_trans (bl_trans BX.out B2.out) (bl_alloc _ _))
 have SP : Hid (Sp S d m q b p z ⟨1, 0, 0, 0⟩ x xn w2.heap.size 0 [] S (.slice none 0 0) (.slice none 0 0) [] (w2.alloc (.cells #[.int .u64 1, .int .u64 0, .int .u64 0, .int .u64 0] 53))) := Hn ⟨HD.out.keep B3.out, Gs.bl B3.out, Sk.refl, (BA.out.keep B2.out).keep (bl_alloc _ _), heap_alloc_new w2 _, fun e => by have := HD.out.lt _ e; have := XA.out; omega, fun e => by have := HD.out.lt _ e; have := BX.out.size; have := B2.out.size; omega, Nat.le_trans BX.out.size B2.out.size, by have := BA.out.lt; have := B2.out.size; omega, HD.out.nt, World.ownsRow_nil _ _ _ _, fun k hk => (by cases hk), fun u hu => (by cases hu), World.ownsRow_nil _ _ _ _, fun k hk => (by cases hk)⟩
 obtain ⟨xw, hxw⟩ : ∃ xw, w2.heap.size = xw := ⟨_, rfl⟩
 obtain ⟨x2, hx2⟩ : ∃ x2, w2.alloc (.cells #[.int .u64 1, .int .u64 0, .int .u64 0, .int .u64 0] 53) = x2 := ⟨_, rfl⟩
 rw [hx2] at SP ⊢
 rw [hxw] at SP
 simp only [hxw]
 clear hx2 hxw B2 B3 BX BA XA
 go_loopw [22, 9, 10] (fun iv lv sv w' => ∃ i : Nat, i ≤ n ∧ iv = .int .i64 (i : Int) ∧ ∃ S' xs, Hid (Sp S d m q b (pS p z i) z (wtS i) x xn xw i (sumS p.K i) S' lv sv xs w')) (fun i _ _ _ => n - (intOf i).toNat)
 case atStart => exact ⟨0, by omega, rfl, _, _, SP⟩
 case round =>
  clear SP
  obtain ⟨i, hi, rfl, S1, xs, HS⟩ := hrel
  by_cases hin : i < n
  ·have i1 : (i : Int) < (n : Int) := by omega
   have i0 : (0 : Int) ≤ (i : Int) := by omega
   have w9 : IntKind.i64.wrap ((i : Int) + 1) = (i : Int) + 1 := IntWalk.i64_in _ (by have := HN.out.1; omega)
   have a0 := HS.out.bn.c 0
   have a1 := HS.out.bn.c 1
   have a2 := HS.out.bn.c 2
   have a3 := HS.out.bn.c 3
   have CB := Hn (by
    have c := Bit_in z i wr HS.out.ds.tb ZK.out (by have := HN.out.1; omega)
    simp only [E4.v] at c
    exact c)
   have KI := Hn (pS_K p z i)
   have QI := Hn (pS_Q p z i)
   go_upto_region 9 with (first | (go_at_call 244; refine CB.out.mono ?_; rintro e w3 ⟨rfl, hb⟩; have B3 := Hn hb; have CF := Hn (freeBit_any (HS.out.ds.keep hb) (bitE (lst z.n) i) (bitE_01 _ _) (by have := HN.out; have := QI.out; omega) (by have := HN.out; have := KI.out; omega)); clear hb CB) | (go_at_call 243; refine CF.out.mono ?_; rintro e w4 ⟨S2, v2, rfl, d4, g4, k4, z4⟩; obtain ⟨P2, c2, rfl, -⟩ := z4.1.sh; have D4 := Hn d4; have G4 := Hn (And.intro g4 (And.intro k4 z4)); clear d4 g4 k4 z4 CF))
   have SQ := Hn ((HS.out.keep B3.out).step D4.out G4.out.1 G4.out.2.1)
   have V2 := Hn G4.out.2.2
   clear a0 a1 a2 a3 HS B3 D4 G4
   have TI := Hn (cell_of_row _ _ 0 _ _ (0, 0) (heap_alloc_new w4 (.cells #[.slice P2 1 c2] 50)))
   have SA := Hn (SQ.out.keep (bl_alloc w4 (.cells #[.slice P2 1 c2] 50)))
   replace V2 := Hn (V2.out.keep (bl_alloc w4 (.cells #[.slice P2 1 c2] 50)))
   go_upto_region 10 with (at_builtin; refine wpL_apL rfl _ _ rfl x.heap.size i _ xs rfl SA.out.lo w4.heap.size 1 1 [.slice P2 1 c2] rfl rfl (fun j u hu => by cases j with | zero => rw [← hu]; exact TI.out | succ j => simp at hu) (by simp [Value.oneCell']) (by have := HN.out.1; omega) SA.out.gs.size ?_; intro lv5 w5 ho5 hg5 hk5; have S5 := Hn (SA.out.apL ho5 hg5 hk5 (by simp [Value.oneCell'])); have V5 := Hn (own_kept V2.out.1.own SA.out.lo (by decide) hg5); clear ho5 hg5 hk5)
   rw [KI.out] at V5
   have CT := Hn (timesR (wtS i) (wtS_ok i) S5.out.ds.tb (⟨V5.out, by simp⟩ : Zr w5 (.slice P2 1 c2) [((2, ((p.K + i : Nat) : Int)), 1)]))
   obtain ⟨Y, hY⟩ : ∃ Y, tmX (wtS i) [((2, ((p.K + i : Nat) : Int)), 1)] = Y := ⟨_, rfl⟩
   have YE := Hn hY
   have L6 := Hn (hY ▸ HZ.out i hin : Y.length = 1)
   rw [hY] at CT
   clear hY
   have b0 := S5.out.bw.c 0
   have b1 := S5.out.bw.c 1
   have b2 := S5.out.bw.c 2
   have b3 := S5.out.bw.c 3
   clear SQ SA TI V2
   go_upto_region 11 with (first | (go_at_call 159; refine CT.out.mono ?_; rintro e w6 ⟨v6, rfl, hl⟩; have S6 := Hn (S5.out.keep hl.2.1); obtain ⟨P6, c6, rfl, -, hg6⟩ := own_shT hl.1; obtain ⟨g6, rfl⟩ := hg6 (by rw [L6.out]; omega); have O6 := Hn (own_monoT hl.1 (Nat.zero_le _)); clear hl hg6 CT b0 b1 b2 b3) | (at_builtin; refine wpL_apT rfl _ _ rfl x.heap.size _ (sumS p.K i) _ rfl S6.out.so g6 c6 rfl O6.out (by have := sumS_len p.K i; have := HN.out.1; have := L6.out; omega) S6.out.gs.size ?_; intro sv7 w7 ho7 hg7 hk7; have S7 := Hn (S6.out.apT ho7 hg7 hk7); clear ho7 hg7 hk7 O6))
   clear S5 S6 V5
   have CA := Hn (by
    have c := fix (R := wtS (i + 1)) (Add_any (wtS i) (wtS i) w7 S7.out.ds.tb (wtS_ok i) (wtS_ok i)) rfl
    simp only [E4.v] at c
    exact c)
   have b0 := S7.out.bw.c 0
   have b1 := S7.out.bw.c 1
   have b2 := S7.out.bw.c 2
   have b3 := S7.out.bw.c 3
   go_wp2_with (first | (go_at_call 124; refine CA.out.mono ?_; rintro e w8 ⟨rfl, hb⟩; have S8 := Hn (S7.out.keep hb); clear hb CA b0 b1 b2 b3) | (refine wpList_stA rfl 53 _ _ rfl xw 0 [.int .u64 (wtS (i + 1)).x0, .int .u64 (wtS (i + 1)).x1, .int .u64 (wtS (i + 1)).x2, .int .u64 (wtS (i + 1)).x3] rfl rfl (there_bz S8.out.bw) i4_s (by simp [Value.oneCell']) rfl ?_; intro w9' hw; have S9 := Hn (S8.out.st hw); clear hw))
   rw [← YE.out] at S9
   go_roundw
   case rel => exact ⟨i + 1, by omega, by go_num, S2, _, S9⟩
   case measure => simp [intOf]; omega
  ·obtain rfl : i = n := by omega
   have lq : ¬ (i : Int) < (i : Int) := by omega
   have KI := Hn (pS_K p z i)
   have QI := Hn (pS_Q p z i)
   have VX := Hn (HV.out.step HS.out.gs HS.out.sk)
   have LS := Hn (sumS_len p.K i)
   have LB : Hid ((sbX (sumS p.K i) X).length ≤ 100000) := Hn (by have := sbX_len (sumS p.K i) X; have := LS.out; have := HX.out.2; have := HN.out.1; omega)
   have CS := Hn (subR HS.out.ds.tb (⟨own_monoT HS.out.so (Nat.zero_le _), by have := LS.out; have := HN.out.1; omega⟩ : Zr wr u10 (sumS p.K i)) VX.out.1.r)
   have XS : Hid (∀ w ∈ sbX (sumS p.K i) X, hs m (pS p z i).K w.1 = true) := Hn (by rw [KI.out]; exact hs_sb (sumS_hs p.K i) (fun w hw => hs_mono (HX.out.1 w hw) (by omega)))
   go_wp2_with (first | (go_at_call 148; refine CS.out.mono ?_; rintro e w3 ⟨v3, rfl, hl⟩; have S3 := Hn (HS.out.keep hl.2.1); have Z3 := Hn (Zo.new hl HS.out.ds.lt LB.out); obtain ⟨P3, c3, rfl, -⟩ := own_shT hl.1; clear hl CS) | (go_at_call 216; refine (dzero_any (S3.out.ds.keep (bl_alloc _ _)) w3.heap.size 1 1 _ _ (Zm.one S3.out.ds Z3.out) (by omega) (by have := QI.out; have := HN.out; omega) (fun j hj => XS.out)).mono ?_; rintro e w4 ⟨rfl, S4, d4, g4, k4⟩; have E4' := Hn ((S3.out.keep (bl_alloc w3 (.cells #[.slice P3 (sbX (sumS p.K i) X).length c3] 50))).step d4 g4 k4); clear d4 g4 k4))
   refine bodyPost_ret (v := _) (by simp [results, Tryz.results213, go_sem]) rfl ⟨S4, _, xs, rfl, ?_, E4'.out.gs, E4'.out.sk, E4'.out.lo, E4'.out.ol, E4'.out.on⟩
   unfold pSplit
   rw [ZE.out]
   exact E4'.out.ds
end Ci
end Go.Proofs.YtljmgfclhbadjaaGreatDoor
namespace Go.Proofs.YtljmgfclhbadjaaGreatDoor
open Go.RowKit
set_option linter.unusedVariables false
set_option linter.unusedSimpArgs false
open Cm (Wr Tm co bf Ls lf ins Eqm)
namespace Ci
set_option maxRecDepth 100000
set_option maxHeartbeats 16000000
def pBits (m : Nat) (p : Pz) (X : Nat → List Tm) (n : Nat) : Nat → Pz
 | 0 => p
 | j + 1 => pSplit m (pBits m p X n j) (X j) n
theorem pBits_K (m : Nat) (p : Pz) (X : Nat → List Tm) (n j : Nat) : (pBits m p X n j).K = p.K + j * n := by
 induction j with
 | zero => simp [pBits]
 | succ j ih =>
  show (pS (pBits m p X n j) _ n).K = _
  rw [pS_K, ih, Nat.succ_mul]
  omega
theorem pBits_Q (m : Nat) (p : Pz) (X : Nat → List Tm) (n j : Nat) : (pBits m p X n j).Q.length = p.Q.length + j * (2 * n + 1) := by
 induction j with
 | zero => simp [pBits]
 | succ j ih =>
  show ((pS (pBits m p X n j) _ n).Q ++ [_]).length = _
  rw [List.length_append, List.length_singleton, pS_Q, ih, Nat.succ_mul j (2 * n + 1)]
  generalize j * (2 * n + 1) = t
  omega
structure Sb2 (S : Nat → Prop) (d m q b : Nat) (p : Pz) (x : World) (i : Nat) (S' : Nat → Prop) (lv : Value) (xs : List Value) (w : World) : Prop where
 ds : Ds S' d m p q b w
 gs : Gs S x w
 sk : Sk S S' x
 nt : 1 < x.heap.size
 lo : w.ownsRow x.heap.size 50 1 lv i xs
 ol : Out S' lv
 on : ∀ u ∈ xs, u.oneCell' = true
section
variable {S S' S2 : Nat → Prop} {d m q b i n : Nat} {p p2 : Pz} {x w y : World} {lv lv' : Value} {xs ys : List Value}
theorem Sb2.step (h : Sb2 S d m q b p x i S' lv xs w) (hd : Ds S2 d m p2 q b y) (hg : Gs S' w y) (hk : Sk S' S2 w) : Sb2 S d m q b p2 x i S2 lv xs y :=
 ⟨hd, h.gs.trans hg h.sk, h.sk.trans hk h.gs.size, h.nt, hg.own h.lo h.ol, Out.sk h.ol h.lo hk, h.on⟩
theorem Sb2.apL (h : Sb2 S d m q b p x i S' lv xs w) (ho : y.ownsRow x.heap.size 50 1 lv' (i + n) (xs ++ ys)) (hg : w.grownBy y lv.ownBlock) (hk : ∀ k, lv'.ownBlock = some k → lv.ownBlock = some k ∨ w.heap.size ≤ k) (hy : ∀ u ∈ ys, u.oneCell' = true) : Sb2 S d m q b p x (i + n) S' lv' (xs ++ ys) y :=
 ⟨h.ds.gb hg (fun k e => ⟨h.ol k e, fun e2 => by have := (h.lo.lt k e).1; have := h.nt; omega⟩), h.gs.up hg (fun k e => (h.lo.lt k e).1), h.sk, h.nt, ho, h.ol.grow h.ds.lt hk, fun u hu => (List.mem_append.1 hu).elim (h.on u) (hy u)⟩
end
theorem bits1_any {S : Nat → Prop} {d m q b : Nat} {p : Pz} {x : World} (h : Ds S d m p q b x) (bd bn : Nat) (cd : x.cell? ⟨bd, 0, none⟩ = some (.pointer (some ⟨d, 0, none⟩))) (n k lb : Nat) (cn : x.cell? ⟨bn, 0, none⟩ = some (.int .i64 (n : Int))) (nd : ¬ S bd) (nn : ¬ S bn) (V : Nat → Value) (X : Nat → List Tm) (hL : Zm S x lb k V X) (hn : 1 ≤ n) (hn2 : n ≤ 251) (hk : k ≤ 1000) (hq : p.Q.length + k * (2 * n + 1) ≤ 4096) (hK : p.K + k * n ≤ 1024) (hX : ∀ j, j < k → ∀ z ∈ X j, hs m p.K z.1 = true) (hx9 : ∀ j, j < k → (X j).length ≤ 90000) (hnz : ∀ i, i < n → ∀ K : Nat, (tmX (wtS i) [((2, (K : Int)), 1)]).length = 1) (c : Nat) :
  Calls Tryz.prog 212 #[.slice (some ⟨lb, 0, none⟩) k c, .pointer (some ⟨bd, 0, none⟩), .pointer (some ⟨bn, 0, none⟩)] x fun e w' => SpP S d m (pBits m p X n k) q b (k * n) x e w' := by
 have SP : Hid (Sb2 S d m q b p x (0 * n) S (.slice none 0 0) [] x) := Hn ⟨h, Gs.refl, Sk.refl, h.nt, by rw [Nat.zero_mul]; exact World.ownsRow_nil _ _ _ _, fun k hk => (by cases hk), fun u hu => (by cases hu)⟩
 have HL := Hn hL
 have CC := Hn (And.intro cd cn)
 have NC := Hn (And.intro nd nn)
 have HN := Hn (And.intro hn (And.intro hn2 (And.intro hk (And.intro hq hK))))
 have HX := Hn (And.intro hX (And.intro hx9 hnz))
 clear h hL cd cn nd nn hn hn2 hk hq hK hX hx9 hnz
 go_enter Tryz.func212, Tryz.ntmps212
 go_upto_region 3 with fail
 go_loopw [10, 5] (fun iv lv w' => ∃ i : Nat, i ≤ k ∧ iv = .int .i64 (i : Int) ∧ ∃ S' xs, Hid (Sb2 S d m q b (pBits m p X n i) x (i * n) S' lv xs w')) (fun i _ _ => k - (intOf i).toNat)
 case atStart => exact ⟨0, by omega, rfl, _, _, SP⟩
 case round =>
  clear SP
  obtain ⟨i, hi, rfl, S1, xs, HS⟩ := hrel
  by_cases hin : i < k
  ·have i1 : (i : Int) < (k : Int) := by omega
   have i0 : (0 : Int) ≤ (i : Int) := by omega
   have w9 : IntKind.i64.wrap ((i : Int) + 1) = (i : Int) + 1 := IntWalk.i64_in _ (by have := HN.out.2.2.1; omega)
   have KI := Hn (pBits_K m p X n i)
   have QI := Hn (pBits_Q m p X n i)
   have LI := Hn (HL.out.step HS.out.gs HS.out.sk)
   have x0 := (LI.out.el i hin).1
   have ik : (i + 1) * n ≤ k * n := Nat.mul_le_mul_right n hin
   have ik2 : (i + 1) * (2 * n + 1) ≤ k * (2 * n + 1) := Nat.mul_le_mul_right _ hin
   rw [Nat.succ_mul] at ik ik2
   have d0 := HS.out.gs.cell CC.out.1 NC.out.1
   have n0 := HS.out.gs.cell CC.out.2 NC.out.2
   have CS := Hn (dsplit_any HS.out.ds (LI.out.el i hin).2 n HN.out.2.1 (by have := HN.out; have := QI.out; omega) (by have := HN.out; have := KI.out; omega) (fun z hz => hs_mono (HX.out.1 i hin z hz) (by rw [KI.out]; omega)) (HX.out.2.1 i hin) (fun i' hi' => HX.out.2.2 i' hi' _))
   have IB : Hid (i * n + n ≤ 100000) := Hn (by have := HN.out; omega)
   clear ik ik2
   go_wp2_with (first | (go_at_call 213; refine CS.out.mono ?_; rintro e w3 ⟨S2, v3, ys, rfl, d3, g3, k3, o3, l3, n3⟩; have S3 := Hn (HS.out.step d3 g3 k3); have O3 := Hn o3; have N3 := Hn n3; obtain ⟨g4, c4, cur4, e4, -⟩ := (o3.2.resolve_left (fun e => by have := HN.out.1; omega)); subst e4; clear d3 g3 k3 o3 l3 n3 CS) | (at_builtin; refine wpL_apL rfl _ _ rfl x.heap.size (i * n) _ xs rfl S3.out.lo g4 n c4 ys rfl (by have := O3.out.1; omega) (fun j u hu => by have := O3.out.cells (g := g4) rfl j u hu; rw [Addr.add_mid, Nat.zero_add] at this; exact this) N3.out IB.out S3.out.gs.size ?_; intro lv5 w5 ho5 hg5 hk5; have S5 := Hn (S3.out.apL ho5 hg5 hk5 N3.out); clear ho5 hg5 hk5))
   rw [← Nat.succ_mul] at S5
   go_roundw
   case rel => exact ⟨i + 1, by omega, by go_num, S2, _, S5⟩
   case measure => simp [intOf]; omega
  ·obtain rfl : i = k := by omega
   have lq : ¬ (i : Int) < (i : Int) := by omega
   go_wp2_with fail
   exact bodyPost_ret (v := _) (by simp [results, Tryz.results212, go_sem]) rfl ⟨S1, _, xs, rfl, HS.out.ds, HS.out.gs, HS.out.sk, HS.out.lo, HS.out.ol, HS.out.on⟩
end Ci
end Go.Proofs.YtljmgfclhbadjaaGreatDoor
