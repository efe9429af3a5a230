import Derived.Test.YtljmgfclhbadjaaGreatDoorDli
import Derived.Test.YtljmgfclhbadjaaGreatDoorTk
namespace Go.Proofs.YtljmgfclhbadjaaGreatDoor
open Go.RowKit
set_option linter.unusedVariables false
set_option linter.unusedSimpArgs false
open Cm (Wr Tm co bf Ls lf ins Eqm)
namespace Ci
set_option maxRecDepth 100000
set_option maxHeartbeats 8000000
def Sb (b : Nat) (R : Nat → Sl) : Nat → Prop := fun k => k = b ∨ ∃ j, j < 4 ∧ (R j).v.ownBlock = some k
section
variable {S S' : Nat → Prop} {d m K K' q b : Nat} {Q Q' : List (List Tm)} {vv v' : Value} {vs vs' : List Value} {R : Nat → Sl} {e : Int} {x y : World} {l r : E4}
theorem Ob.sb (h : Ob S b R x) : Ob (Sb b R) b R x := ⟨h.bx, h.rw, h.dj, fun j hj k hk => .inr ⟨j, hj, hk⟩, .inl rfl, fun k hk => by
 rcases hk with rfl | ⟨j, hj, hk⟩
 ·exact h.lt _ h.pb
 ·exact h.lt _ (h.pr j hj k hk)⟩
theorem Ob.sub (h : Ob S b R x) : ∀ k, Sb b R k → S k := fun k hk => by
 rcases hk with rfl | ⟨j, hj, hk⟩
 ·exact h.pb
 ·exact h.pr j hj k hk
theorem Ob.kd (h : Ob S b R x) {i : Nat} {arr : Array Value} {T : TypeId} (hi : x.heap[i]? = some (.cells arr T (0, 0))) (h1 : 53 ≠ T) (h2 : 43 ≠ T) : ¬ Sb b R i := fun e => by
 rcases e with rfl | ⟨j, hj, e⟩
 ·have hb := h.bx
  rw [hi] at hb
  simp only [Option.some.injEq, Obj.cells.injEq] at hb
  exact h2 hb.2.1.symm
 ·exact box_kd (h.rw j hj).own hi h1 e
theorem Ob.otr (h : Ob S b R x) {b0 s n : Nat} {T : TypeId} {u : Value} {xs : List Value} (hu : x.ownsRow b0 T s u n xs) (h1 : T ≠ 53) (h2 : T ≠ 43) : Out (Sb b R) u := fun k hk e => by
 rcases e with rfl | ⟨j, hj, e⟩
 ·exact box_kd hu h.bx h2 hk
 ·exact own_kd hu (h.rw j hj).own h1 k hk e
theorem Sy.us (h : Sy 0 x q m K vv vs Q) : ∀ u ∈ vs, ∃ n xs, x.ownsRow 0 55 6 u n xs := fun u hu => by
 obtain ⟨i, hi, e⟩ := List.mem_iff_getElem.1 hu
 have hl := h.row.1
 have hq : i < Q.length := by omega
 obtain ⟨u', a1, a2⟩ := h.ls i Q[i] (List.getElem?_eq_getElem hq)
 rw [List.getElem?_eq_getElem hi, e] at a1
 obtain rfl := Option.some.inj a1
 exact ⟨_, _, a2⟩
theorem Sy.ob (h : Sy 0 x q m K vv vs Q) (o : Ob S b R x) (g : Gs (Sb b R) x y) : Sy 0 y q m K vv vs Q := by
 refine ⟨(g.block q (Array.getElem?_eq_some_iff.1 h.h).1 (o.kd h.h (by decide) (by decide))).trans h.h, g.own h.row (o.otr h.row (by decide) (by decide)), fun i X hX => ?_, h.bs, h.sm⟩
 obtain ⟨w, a1, a2⟩ := h.ls i X hX
 exact ⟨w, a1, g.own a2 (o.otr a2 (by decide) (by decide))⟩
theorem Ob.fz (h : Ob S b R x) (s : Sy 0 x q m K vv vs Q) (hf : Fz q vv x y) : Ob S b R y := by
 refine ⟨(hf.block b (h.lt b h.pb) (fun e => ?_) (box_kd s.row h.bx (by decide))).trans h.bx, fun j hj => ⟨own_fz (h.rw j hj).own hf (box_kd (h.rw j hj).own s.h (by decide)) (own_kd (h.rw j hj).own s.row (by decide)), (h.rw j hj).ok, (h.rw j hj).n⟩, h.dj, h.pr, h.pb, fun i hi => Nat.lt_of_lt_of_le (h.lt i hi) hf.size⟩
 have hb := h.bx
 rw [e, s.h] at hb
 simp only [Option.some.injEq, Obj.cells.injEq] at hb
 exact absurd hb.2.1 (by decide)
theorem Dz.fz (h : Dz S d m K Q q b vv vs R e x) (hvs : ∀ u ∈ vs, ∀ k, u.ownBlock = some k → S k) (sy : Sy 0 y q m K' v' vs' Q') (hf : Fz q vv x y) (hv : ∀ k, v'.ownBlock = some k → vv.ownBlock = some k ∨ x.heap.size ≤ k) (wk : Wk m K' Q') (hus : ∀ u ∈ vs', u ∈ vs ∨ ∀ k, u.ownBlock = some k → x.heap.size ≤ k) :
  ∃ S', Dz S' d m K' Q' q b v' vs' R e y ∧ (∀ u ∈ vs', ∀ k, u.ownBlock = some k → S' k) ∧ Gs S x y ∧ Sk S S' x := by
 have hg : Gs S x y := ⟨hf.os, hf.tape, hf.output, hf.size, fun i hi hn => hf.block i hi (fun e => hn (e ▸ h.pq)) (fun e => hn (h.pv i e))⟩
 have hk : Sk S (fun k => S k ∨ (x.heap.size ≤ k ∧ k < y.heap.size)) x := fun i hi => hi.imp id (fun h => h.1)
 have o := h.ob.fz h.sy hf
 refine ⟨fun k => S k ∨ (x.heap.size ≤ k ∧ k < y.heap.size), ⟨(hf.block d (h.ob.lt d h.pd) (fun e => ?_) (box_kd h.sy.row h.hd (by decide))).trans h.hd, sy, wk, o.more (fun k h => .inl h) (fun k h => ?_), h.tq.step hg hk, .inl h.pd, .inl h.pq, fun k hk => ?_⟩, fun u hu k hk => ?_, hg, hk⟩
 ·have hb := h.hd
  rw [e, h.sy.h] at hb
  simp only [Option.some.injEq, Obj.cells.injEq] at hb
  exact absurd hb.2.1 (by decide)
 ·rcases h with h | h
  ·exact o.lt k h
  ·exact h.2
 ·rcases hv k hk with e | e
  ·exact .inl (h.pv k e)
  ·exact .inr ⟨e, (sy.row.lt k hk).2⟩
 ·rcases hus u hu with e | e
  ·exact .inl (hvs u e k hk)
  ·obtain ⟨n, xs, a⟩ := sy.us u hu
   exact .inr ⟨e k hk, (a.lt k hk).2⟩
def DgP (S : Nat → Prop) (d m K : Nat) (Q : List (List Tm)) (q b : Nat) (vv : Value) (vs : List Value) (R : Nat → Sl) (l r : E4) (x y : World) : Prop := ∃ S' p0 c0 p1 c1 p2 c2, Dz S' d m K Q q b vv vs (upR (upR (upR R 0 p0 c0 l) 1 p1 c1 r) 2 p2 c2 (lst (l.n * r.n))) 0 y ∧ (∀ u ∈ vs, ∀ k, u.ownBlock = some k → S' k) ∧ Gs S x y ∧ Sk S S' x
theorem Dz.ag (h : Dz S d m K Q q b vv vs R 0 x) (hvs : ∀ u ∈ vs, ∀ k, u.ownBlock = some k → S k) (A : AgP (Sb b R) b R l r x y) : DgP S d m K Q q b vv vs R l r x y := by
 obtain ⟨S0, p0, c0, p1, c1, p2, c2, o, g, k⟩ := A
 have hg : Gs S x y := ⟨g.os, g.tape, g.output, g.size, fun i hi hn => g.block i hi (fun e => hn (h.ob.sub i e))⟩
 have hk : Sk S (fun k => S k ∨ S0 k) x := fun i hi => by
  rcases hi with e | e
  ·exact .inl e
  ·rcases k i e with e | e
   ·exact .inl (h.ob.sub i e)
   ·exact .inr e
 exact ⟨fun k => S k ∨ S0 k, p0, c0, p1, c1, p2, c2, ⟨(g.block d (h.ob.lt d h.pd) (h.ob.kd h.hd (by decide) (by decide))).trans h.hd, h.sy.ob h.ob g, h.wk, o.more (fun k h => .inr h) (fun k e => by
  rcases e with e | e
  ·exact Nat.lt_of_lt_of_le (h.ob.lt k e) g.size
  ·exact o.lt k e), h.tq.step hg hk, .inl h.pd, .inl h.pq, fun k e => .inl (h.pv k e)⟩, fun u hu k e => .inl (hvs u hu k e), hg, hk⟩
theorem Tq.sb (h : Tq S x) (o : Ob S b R x) : Tq (Sb b R) x := ⟨h.1, fun e => h.2 (o.sub _ e)⟩
end
theorem hs_mul {m K : Nat} {X : List Tm} (k : Int) (h1 : 2 ≤ k) (h2 : k ≤ 4) (hX : ∀ z ∈ X, hs m K z.1 = true) : ∀ z ∈ lf Sm.L (glL 1 (cst (k, (K : Int))) ++ glN X.length (ft X)), hs m (K + 1) z.1 = true := fun z hz => by
 obtain ⟨y, hy, e⟩ := lf_mem hz
 rw [e]
 rcases List.mem_append.1 hy with h | h
 ·simp only [glL, List.range_one, List.map_cons, List.map_nil, List.mem_singleton] at h
  subst h
  show hs m (K + 1) (k, (K : Int)) = true
  have hk : k = 2 ∨ k = 3 ∨ k = 4 := by omega
  unfold hs
  rcases hk with rfl | rfl | rfl <;> (simp only [Bool.and_eq_true, decide_eq_true_eq]; refine ⟨by omega, by omega, by omega, ?_⟩; show (K : Int) < ((K + 1 : Nat) : Int); omega)
 ·simp only [glN, List.mem_map, List.mem_range] at h
  obtain ⟨i, hi, rfl⟩ := h
  obtain ⟨w, hw, e2⟩ := ft_mem hi
  show hs m (K + 1) (ft X i).q = true
  rw [e2]
  exact hs_mono (hX w hw) (by omega)
theorem len_mul {K : Nat} {X : List Tm} (k : Int) (hX : X.length ≤ 100000) : (lf Sm.L (glL 1 (cst (k, (K : Int))) ++ glN X.length (ft X))).length ≤ 2932031007402 := by
 have := lf_len_le (glL 1 (cst (k, (K : Int))) ++ glN X.length (ft X))
 have e : (glL 1 (cst (k, (K : Int))) ++ glN X.length (ft X)).length = 1 + X.length := by simp [glL, glN]; omega
 omega
end Ci
end Go.Proofs.YtljmgfclhbadjaaGreatDoor
namespace Go.Proofs.YtljmgfclhbadjaaGreatDoor
open Go.RowKit
set_option linter.unusedVariables false
set_option linter.unusedSimpArgs false
open Cm (Wr Tm co bf Ls lf ins Eqm)
namespace Ci
set_option maxRecDepth 100000
set_option maxHeartbeats 16000000
theorem Zs.lf {x : World} {v : Value} {X : List Tm} (h : Zs x v X) : Cm.lf Sm.L (glL X.length (ft X)) = X := by rw [glft_lsZ h.ls, lf_selfZ h.ls]
def NuP (z : E4) (x : World) (e : Ending) (w' : World) : Prop := (∃ t : Bool, e = .returned (.tuple #[.agg #[.int .u64 z.x0, .int .u64 z.x1, .int .u64 z.x2, .int .u64 z.x3], .bool t])) ∧ Below x.heap.size x w'
section
variable {S : Nat → Prop} {d m K q b : Nat} {Q : List (List Tm)} {vv v : Value} {vs : List Value} {R : Nat → Sl} {e : Int} {x y : World} {G : Nat → List E4} {X : List Tm}
theorem dnumberZ (h : Dz S d m K Q q b vv vs R e x) (ha : Ag G R) (hz : Zs x v X) :
  Calls Tryz.prog 33 #[.pointer (some ⟨d, 0, none⟩), v] x fun e' w' => NuP (nuE G m K X) x e' w' := by
 obtain ⟨P, c, rfl, hl⟩ := hz.sh
 have hn := hz.n
 refine (dnumber_any h P X.length c (ft X) (by omega) (fun k hk => lst_ok _) hl).mono (fun e' w' hk => ?_)
 rw [hz.lf] at hk
 exact ⟨⟨decide (evE (nmR R) m K X = 0), by rw [hk.1, ha.ev]⟩, hk.2⟩
theorem multiplyZ {base : Nat} (h : Sy base x q m K vv vs Q) (hT : Tb x) {u : Value} {X Y : List Tm} (hu : Zs x u X) (hv : Zs x v Y) (hX : ∀ z ∈ X, hs m K z.1 = true) (hY : ∀ z ∈ Y, hs m K z.1 = true) (hq : Q.length ≤ 4094) (hK : K < 1024) :
  Calls Tryz.prog 241 #[.pointer (some ⟨q, 0, none⟩), u, v] x fun e w' => e = .returned (.tuple #[.agg #[.int .i64 2, .int .i64 (K : Int)], .agg #[.int .i64 3, .int .i64 (K : Int)], .agg #[.int .i64 4, .int .i64 (K : Int)], .int .i64 0]) ∧ MqA base x q m K vv vs Q (lf Sm.L (glL 1 (cst (2, (K : Int))) ++ glN X.length (ft X))) (lf Sm.L (glL 1 (cst (3, (K : Int))) ++ glN Y.length (ft Y))) w' := by
 obtain ⟨P1, c1, rfl, l1⟩ := hu.sh
 obtain ⟨P2, c2, rfl, l2⟩ := hv.sh
 have n1 := hu.n
 have n2 := hv.n
 exact Multiply_okA h hT P1 P2 X.length c1 Y.length c2 (ft X) (ft Y) (by omega) (by omega) (fun k hk => lst_ok _) (fun k hk => lst_ok _) l1 l2 (by rw [hu.lf]; exact nm_true hX) (by rw [hv.lf]; exact nm_true hY) hq hK
end
def Bw (w : World) (b : Nat) (k i : Int) : Prop := w.heap[b]? = some (.cells #[.int .i64 k, .int .i64 i] 52 (0, 0))
theorem Bw.gs {S : Nat → Prop} {x y : World} {b : Nat} {k i : Int} (h : Bw x b k i) (hg : Gs S x y) (hn : ¬ S b) : Bw y b k i := (hg.block b (Array.getElem?_eq_some_iff.1 h).1 hn).trans h
theorem Bw.c {w : World} {b : Nat} {k i : Int} (h : Bw w b k i) (j : Nat) : w.cell? ⟨b, j, none⟩ = (#[.int .i64 k, .int .i64 i] : Array Value)[j]? := cell_of_row w b j _ _ (0, 0) h
theorem Bw.keep {x y : World} {b : Nat} {k i : Int} (h : Bw x b k i) (hb : Below x.heap.size x y) : Bw y b k i := (hb.block b (Array.getElem?_eq_some_iff.1 h).1).trans h
theorem Bz.lt {w : World} {b : Nat} {z : E4} (h : Bz w b z) : b < w.heap.size := (Array.getElem?_eq_some_iff.1 h).1
theorem Bw.lt {w : World} {b : Nat} {k i : Int} (h : Bw w b k i) : b < w.heap.size := (Array.getElem?_eq_some_iff.1 h).1
theorem b3_wires (w : World) (K : Int) : Bw (((w.alloc (.cells #[.int .i64 2, .int .i64 K] 52)).alloc (.cells #[.int .i64 3, .int .i64 K] 52)).alloc (.cells #[.int .i64 4, .int .i64 K] 52)) (w.heap.size + 1 + 1) 4 K := by
 have e : ((w.alloc (.cells #[.int .i64 2, .int .i64 K] 52)).alloc (.cells #[.int .i64 3, .int .i64 K] 52)).heap.size = w.heap.size + 1 + 1 := by simp
 rw [← e]
 exact heap_alloc_new _ _
theorem dmul_any {S : Nat → Prop} {d m q b : Nat} {p : Pz} {x : World} (h : Ds S d m p q b x) {u v : Value} {X Y : List Tm} (hu : Zo S x u X) (hv : Zo S x v Y) (hX : ∀ z ∈ X, hs m p.K z.1 = true) (hY : ∀ z ∈ Y, hs m p.K z.1 = true) (hq : p.Q.length ≤ 4094) (hK : p.K < 1024) :
  Calls Tryz.prog 211 #[.pointer (some ⟨d, 0, none⟩), u, v] x fun e w' => LoP S d m (pMul m p X Y) q b [((4, (p.K : Int)), 1)] x e w' := by
 obtain ⟨⟨vv, vs, R, hz, ha, hvs⟩, hln, hl3, hm⟩ := h
 have HA := Hn ha
 have HVS := Hn hvs
 have HL := Hn (And.intro hln (And.intro hl3 hm))
 have HZ := Hn hz
 have N1 := Hn (dnumberZ hz ha hu.1)
 have N2 := Hn (fun y (hy : Below x.heap.size x y) => dnumberZ (hz.keep hy) ha (hv.1.keep hy))
 have M1 := Hn (fun y (hy : Below x.heap.size x y) => multiplyZ (hz.sy.keep hy) (hz.tq.1.keep hy) (hu.1.keep hy) (hv.1.keep hy) hX hY hq hK)
 obtain ⟨zl, hzl⟩ : ∃ z, nuE p.G m p.K X = z := ⟨_, rfl⟩
 obtain ⟨zr, hzr⟩ : ∃ z, nuE p.G m p.K Y = z := ⟨_, rfl⟩
 rw [hzl] at N1
 rw [hzr] at N2
 have HZL := Hn (And.intro hzl hzr)
 have ZK : Hid (zl.ok ∧ zr.ok) := Hn ⟨hzl ▸ nuE_ok _ _ _ _, hzr ▸ nuE_ok _ _ _ _⟩
 have HW := Hn (show Wk m (p.K + 1) (p.Q ++ [lf Sm.L (glL 1 (cst (2, (p.K : Int))) ++ glN X.length (ft X)), lf Sm.L (glL 1 (cst (3, (p.K : Int))) ++ glN Y.length (ft Y))]) from (hz.wk.gate hK).reqs _ (by simp; omega) (fun Z hZ => by
  rcases List.mem_cons.1 hZ with rfl | hZ
  ·exact ⟨hs_mul 2 (by omega) (by omega) hX, len_mul 2 hu.1.n⟩
  ·rw [List.mem_singleton.1 hZ]
   exact ⟨hs_mul 3 (by omega) (by omega) hY, len_mul 3 hv.1.n⟩))
 have HO := Hn (And.intro hu hv)
 clear hz ha hvs hln hl3 hm hu hv hX hY hzl hzr
 go_enter Tryz.func211, Tryz.ntmps211
 go_upto_region 2 with (go_at_call 33; refine N1.out.mono ?_; rintro e w1 ⟨⟨t1, rfl⟩, hb⟩; have B1 := Hn hb; clear hb N1)
 have BX : Hid (Below x.heap.size x (w1.alloc (.cells #[.int .u64 zl.x0, .int .u64 zl.x1, .int .u64 zl.x2, .int .u64 zl.x3] 53))) := Hn (bl_trans B1.out (bl_alloc _ _))
 have BA : Hid (Bz (w1.alloc (.cells #[.int .u64 zl.x0, .int .u64 zl.x1, .int .u64 zl.x2, .int .u64 zl.x3] 53)) w1.heap.size zl) := Hn (heap_alloc_new w1 _)
 have XA : Hid (x.heap.size ≤ w1.heap.size) := Hn B1.out.size
 obtain ⟨xa, hxa⟩ : ∃ xa, w1.heap.size = xa := ⟨_, rfl⟩
 obtain ⟨x1, hx1⟩ : ∃ x1, w1.alloc (.cells #[.int .u64 zl.x0, .int .u64 zl.x1, .int .u64 zl.x2, .int .u64 zl.x3] 53) = x1 := ⟨_, rfl⟩
 rw [hx1] at BX BA ⊢
 rw [hxa] at BA XA
 simp only [hxa]
 clear hx1 hxa B1
 go_upto_region 3 with (go_at_call 33; refine (N2.out x1 BX.out).mono ?_; rintro e w2 ⟨⟨t2, rfl⟩, hb⟩; have B2 := Hn hb; clear hb N2)
 have BY : Hid (Below x.heap.size x (w2.alloc (.cells #[.int .u64 zr.x0, .int .u64 zr.x1, .int .u64 zr.x2, .int .u64 zr.x3] 53))) := Hn (bl_trans (bl_trans BX.out B2.out) (bl_alloc _ _))
 have BC : Hid (Bz (w2.alloc (.cells #[.int .u64 zr.x0, .int .u64 zr.x1, .int .u64 zr.x2, .int .u64 zr.x3] 53)) w2.heap.size zr) := Hn (heap_alloc_new w2 _)
 replace BA : Hid (Bz (w2.alloc (.cells #[.int .u64 zr.x0, .int .u64 zr.x1, .int .u64 zr.x2, .int .u64 zr.x3] 53)) xa zl) := Hn ((BA.out.keep B2.out).keep (bl_alloc _ _))
 have XC : Hid (x.heap.size ≤ w2.heap.size) := Hn (Nat.le_trans BX.out.size B2.out.size)
 obtain ⟨xc, hxc⟩ : ∃ xc, w2.heap.size = xc := ⟨_, rfl⟩
 obtain ⟨x2, hx2⟩ : ∃ x2, w2.alloc (.cells #[.int .u64 zr.x0, .int .u64 zr.x1, .int .u64 zr.x2, .int .u64 zr.x3] 53) = x2 := ⟨_, rfl⟩
 rw [hx2] at BY BA BC ⊢
 rw [hxc] at BC XC
 simp only [hxc]
 clear hx2 hxc B2 BX
 have D2 := Hn (HZ.out.keep BY.out)
 have c0 := D2.out.c 0
 go_upto_region 4 with (go_at_call 241; refine (M1.out x2 BY.out).mono ?_; rintro e w3 ⟨rfl, hm⟩; have HM := Hn hm; clear hm M1)
 obtain ⟨v1, u1, u2, sy1, fz1, hv1, hu1⟩ := HM.out
 obtain ⟨S1, z1, us1, g1, k1⟩ := D2.out.fz HVS.out sy1 fz1 hv1 HW.out (fun u hu => (List.mem_append.1 hu).imp id (fun e k hk => hu1 u e k hk))
 have NS : Hid (¬ S xa ∧ ¬ S xc) := Hn ⟨fun e => by have := HZ.out.ob.lt _ e; have := XA.out; omega, fun e => by have := HZ.out.ob.lt _ e; have := XC.out; omega⟩
 have N1 : Hid (¬ S1 xa ∧ ¬ S1 xc) := Hn ⟨out_sk NS.out.1 k1 BA.out.lt, out_sk NS.out.2 k1 BC.out.lt⟩
 have G1 : Hid (Gs S x w3) := Hn ((Gs.bl BY.out).trans g1 Sk.refl)
 have K1 : Hid (Sk S S1 x) := Hn (Sk.trans Sk.refl k1 BY.out.size)
 have A3 := bl_alloc3 w3 (.cells #[.int .i64 2, .int .i64 (p.K : Int)] 52) (.cells #[.int .i64 3, .int .i64 (p.K : Int)] 52) (.cells #[.int .i64 4, .int .i64 (p.K : Int)] 52)
 have BW := Hn (b3_wires w3 (p.K : Int))
 have D3 := Hn (z1.keep A3)
 have U1 := Hn us1
 replace BA := Hn ((BA.out.gs g1 NS.out.1).keep A3)
 replace BC := Hn ((BC.out.gs g1 NS.out.2).keep A3)
 replace G1 := Hn (G1.out.trans (Gs.bl A3) K1.out)
 have NW : Hid (¬ S1 (w3.heap.size + 1 + 1)) := Hn (fun e => by have := z1.ob.lt _ e; omega)
 obtain ⟨xw, hxw⟩ : ∃ xw, w3.heap.size + 1 + 1 = xw := ⟨_, rfl⟩
 obtain ⟨x3, hx3⟩ : ∃ x3, ((w3.alloc (.cells #[.int .i64 2, .int .i64 (p.K : Int)] 52)).alloc (.cells #[.int .i64 3, .int .i64 (p.K : Int)] 52)).alloc (.cells #[.int .i64 4, .int .i64 (p.K : Int)] 52) = x3 := ⟨_, rfl⟩
 rw [hx3] at BW D3 BA BC G1 ⊢
 rw [hxw] at BW NW
 simp only [hxw]
 clear hx3 hxw A3 sy1 fz1 hv1 hu1 z1 us1 g1 k1 HM D2 c0
 go_upto_region 5 with (go_at_call 242; refine (dkeep_any D3.out).mono ?_; rintro e w4 ⟨rfl, z4, g4⟩; have D4 := Hn z4; have G4 := Hn g4; clear z4 g4)
 replace BA := Hn (BA.out.gs G4.out N1.out.1)
 replace BC := Hn (BC.out.gs G4.out N1.out.2)
 replace BW := Hn (BW.out.gs G4.out NW.out)
 replace G1 := Hn (G1.out.trans G4.out K1.out)
 have HN : Hid (∀ j, j < 4 → (R j).n + 1 ≤ 100000) := Hn (fun j hj => by
  have h1 := (HA.out j hj).1
  have h2 := HL.out.1
  have h3 := HL.out.2.1
  have h4 := HL.out.2.2
  by_cases e : j < 3
  ·have := h2 j e; omega
  ·obtain rfl : j = 3 := by omega
   omega)
 have C2 := Hn (known2_any w4.drew (D4.out.ob.sb.keep (bl_drew _)) ((D4.out.tq.sb D4.out.ob).keep (bl_drew _)) zl zr ZK.out.1 ZK.out.2 HN.out)
 refine mp5 _ (Sb b R) d b xa xc zl zr R _ _ _ _ _ _ _ _ _ _ _ _ _ _ _ _ _ _ _ _ _ _ _ _ _ _ _ _ _ _ _ _ _ _ _ _ _ _ _ _ _ _ _ _ _ _ _ _ _ w4 (BA.out.c 0) (BA.out.c 1) (BA.out.c 2) (BA.out.c 3) (BC.out.c 0) (BC.out.c 1) (BC.out.c 2) (BC.out.c 3) (D4.out.c 2) (Hn (fun e => N1.out.1 (D4.out.ob.sub _ e))) (Hn (fun e => N1.out.2 (D4.out.ob.sub _ e))) C2 (Hn ?_)
 intro w5 hag
 obtain ⟨S2, p0, c0, p1, c1, p2, c2, z5, us5, g5, k5⟩ := (D4.out.keep (bl_drew _)).ag U1.out hag
 have G5 : Hid (Gs S1 w4 w5) := Hn ((Gs.bl (bl_drew _)).trans g5 Sk.refl)
 have K5 : Hid (Sk S1 S2 w4) := Hn k5
 have D5 := Hn z5
 have U5 := Hn us5
 replace BW := Hn (BW.out.gs G5.out NW.out)
 have a0 := BW.out.c 0
 have a1 := BW.out.c 1
 clear hag z5 us5 g5 k5 BA BC G4
 go_wp2_with (go_at_call 80; refine (Of_any (4, (p.K : Int)) _).mono ?_; rintro e' w6 ⟨v6, rfl, hl⟩; have HQ6 := Hn hl; clear hl)
 have hb := HQ6.out.2.1
 have D6 := D5.out.keep hb
 have ln := HL.out
 obtain ⟨ul, ul3⟩ := upG_len (l := nuE p.G m p.K X) (r := nuE p.G m p.K Y) ln.1 ln.2.1
 have ge : Gs S x w6 := (G1.out.trans G5.out K1.out).trans (Gs.bl hb) (K1.out.trans K5.out G1.out.size)
 refine bodyPost_ret (v := v6) (by simp [results, Tryz.results211, go_sem]) rfl ⟨S2, v6, rfl, ⟨⟨v1, _, _, D6, ?_, U5.out⟩, ?_, ?_, ln.2.2⟩, ge, K1.out.trans K5.out G1.out.size, Zo.new HQ6.out D5.out.ob.lt (by simp)⟩
 ·unfold pMul
  rw [HZL.out.1, HZL.out.2]
  exact HA.out.up _ _ _ _ _ _ _ _
 ·intro j hj
  exact ul j hj
 ·exact ul3
end Ci
end Go.Proofs.YtljmgfclhbadjaaGreatDoor
namespace Go.Proofs.YtljmgfclhbadjaaGreatDoor
open Go.RowKit
set_option linter.unusedVariables false
set_option linter.unusedSimpArgs false
open Cm (Wr Tm co bf Ls lf ins Eqm)
namespace Ci
set_option maxRecDepth 100000
set_option maxHeartbeats 16000000
def LfP (S : Nat → Prop) (d m : Nat) (p : Pz) (q b : Nat) (K : Int) (x : World) (e : Ending) (w' : World) : Prop := ∃ S' v1 v2 v3, e = .returned (.tuple #[v1, v2, v3]) ∧ Ds S' d m p q b w' ∧ Gs S x w' ∧ Sk S S' x ∧ Zo S' w' v1 [((2, K), 1)] ∧ Zo S' w' v2 [((3, K), 1)] ∧ Zo S' w' v3 [((4, K), 1)]
theorem b3_wire3 (w : World) (K : Int) : (Bw (((w.alloc (.cells #[.int .i64 2, .int .i64 K] 52)).alloc (.cells #[.int .i64 3, .int .i64 K] 52)).alloc (.cells #[.int .i64 4, .int .i64 K] 52)) w.heap.size 2 K ∧ Bw (((w.alloc (.cells #[.int .i64 2, .int .i64 K] 52)).alloc (.cells #[.int .i64 3, .int .i64 K] 52)).alloc (.cells #[.int .i64 4, .int .i64 K] 52)) (w.heap.size + 1) 3 K) := by
 have e : (w.alloc (.cells #[.int .i64 2, .int .i64 K] 52)).heap.size = w.heap.size + 1 := by simp
 refine ⟨Bw.keep (x := w.alloc (.cells #[.int .i64 2, .int .i64 K] 52)) (heap_alloc_new _ _) (bl_trans (bl_alloc _ _) (bl_alloc _ _)), Bw.keep (x := (w.alloc (.cells #[.int .i64 2, .int .i64 K] 52)).alloc (.cells #[.int .i64 3, .int .i64 K] 52)) ?_ (bl_alloc _ _)⟩
 rw [← e]
 exact heap_alloc_new _ _
theorem Zo.zn {S : Nat → Prop} {B : Nat} {x : World} {v : Value} {X : List Tm} (h : Zn B x v X) (hS : ∀ i, S i → i < B) (hn : X.length ≤ 100000) : Zo S x v X := ⟨⟨own_monoT h.1 (Nat.zero_le _), h.2, hn⟩, fun k hk h1 => by
 have := (h.1.lt k hk).1
 have := hS k h1
 omega⟩
theorem dfree_any {S : Nat → Prop} {d m q b : Nat} {p : Pz} {x : World} (h : Ds S d m p q b x) (zl zr : E4) (hl : zl.ok) (hr : zr.ok) (hK : p.K < 1024) :
  Calls Tryz.prog 245 #[.pointer (some ⟨d, 0, none⟩), .agg #[.int .u64 zl.x0, .int .u64 zl.x1, .int .u64 zl.x2, .int .u64 zl.x3], .agg #[.int .u64 zr.x0, .int .u64 zr.x1, .int .u64 zr.x2, .int .u64 zr.x3]] x fun e w' => LfP S d m (pFree p zl zr) q b (p.K : Int) x e w' := by
 obtain ⟨⟨vv, vs, R, hz, ha, hvs⟩, hln, hl3, hm⟩ := h
 have HA := Hn ha
 have HVS := Hn hvs
 have HL := Hn (And.intro hln (And.intro hl3 hm))
 have HZ := Hn hz
 have ZK : Hid (zl.ok ∧ zr.ok) := Hn ⟨hl, hr⟩
 have BL := bl_alloc2 x (.cells #[.int .u64 zl.x0, .int .u64 zl.x1, .int .u64 zl.x2, .int .u64 zl.x3] 53) (.cells #[.int .u64 zr.x0, .int .u64 zr.x1, .int .u64 zr.x2, .int .u64 zr.x3] 53)
 have D2 := Hn (hz.keep BL)
 have BY := Hn BL
 have BA := Hn (show Bz ((x.alloc (.cells #[.int .u64 zl.x0, .int .u64 zl.x1, .int .u64 zl.x2, .int .u64 zl.x3] 53)).alloc (.cells #[.int .u64 zr.x0, .int .u64 zr.x1, .int .u64 zr.x2, .int .u64 zr.x3] 53)) x.heap.size zl from (heap_alloc_old _ _ (by simp)).trans (heap_alloc_new x _))
 have BC := Hn (bz_two x zl zr)
 have HW := Hn (hz.wk.gate hK)
 have NS : Hid (¬ S x.heap.size ∧ ¬ S (x.heap.size + 1)) := Hn ⟨fun e => by have := hz.ob.lt _ e; omega, fun e => by have := hz.ob.lt _ e; omega⟩
 clear hz ha hvs hln hl3 hm hl hr BL
 go_enter Tryz.func245, Tryz.ntmps245
 go_upto_region 1 with fail
 obtain ⟨x2, hx2⟩ : ∃ x2, (x.alloc (.cells #[.int .u64 zl.x0, .int .u64 zl.x1, .int .u64 zl.x2, .int .u64 zl.x3] 53)).alloc (.cells #[.int .u64 zr.x0, .int .u64 zr.x1, .int .u64 zr.x2, .int .u64 zr.x3] 53) = x2 := ⟨_, rfl⟩
 obtain ⟨xa, hxa⟩ : ∃ xa, x.heap.size = xa := ⟨_, rfl⟩
 obtain ⟨xc, hxc⟩ : ∃ xc, x.heap.size + 1 = xc := ⟨_, rfl⟩
 rw [hx2] at BA BC BY D2 ⊢
 rw [hxa] at BA NS
 rw [hxa] at hxc
 rw [hxc] at NS
 simp only [hxa, hxc] at BC ⊢
 clear hx2
 have c0 := D2.out.c 0
 have GT := Hn (Gate_ok D2.out.sy hK)
 go_upto_region 2 with (go_at_call 19; refine GT.out.mono ?_; rintro e w3 ⟨rfl, sy1, gb1⟩; have SY1 := Hn sy1; have GB1 := Hn gb1; clear sy1 gb1 GT; simp only [tup])
 obtain ⟨S1, z1, us1, g1, k1⟩ := D2.out.fz HVS.out SY1.out (Fz.gr GB1.out) (fun k hk => .inl hk) HW.out (fun u hu => .inl hu)
 have N1 : Hid (¬ S1 xa ∧ ¬ S1 xc) := Hn ⟨out_sk NS.out.1 k1 BA.out.lt, out_sk NS.out.2 k1 BC.out.lt⟩
 have G1 : Hid (Gs S x w3) := Hn ((Gs.bl BY.out).trans g1 Sk.refl)
 have K1 : Hid (Sk S S1 x) := Hn (Sk.trans Sk.refl k1 BY.out.size)
 have A3 := bl_alloc3 w3 (.cells #[.int .i64 2, .int .i64 (p.K : Int)] 52) (.cells #[.int .i64 3, .int .i64 (p.K : Int)] 52) (.cells #[.int .i64 4, .int .i64 (p.K : Int)] 52)
 have BW := Hn (b3_wires w3 (p.K : Int))
 have BV := Hn (b3_wire3 w3 (p.K : Int))
 have D3 := Hn (z1.keep A3)
 have U1 := Hn us1
 replace BA := Hn ((BA.out.gs g1 NS.out.1).keep A3)
 replace BC := Hn ((BC.out.gs g1 NS.out.2).keep A3)
 replace G1 := Hn (G1.out.trans (Gs.bl A3) K1.out)
 have NW : Hid (¬ S1 w3.heap.size ∧ ¬ S1 (w3.heap.size + 1) ∧ ¬ S1 (w3.heap.size + 1 + 1)) := Hn ⟨fun e => by have := z1.ob.lt _ e; omega, fun e => by have := z1.ob.lt _ e; omega, fun e => by have := z1.ob.lt _ e; omega⟩
 obtain ⟨xl, hxl⟩ : ∃ xl, w3.heap.size = xl := ⟨_, rfl⟩
 obtain ⟨x3, hx3⟩ : ∃ x3, ((w3.alloc (.cells #[.int .i64 2, .int .i64 (p.K : Int)] 52)).alloc (.cells #[.int .i64 3, .int .i64 (p.K : Int)] 52)).alloc (.cells #[.int .i64 4, .int .i64 (p.K : Int)] 52) = x3 := ⟨_, rfl⟩
 rw [hx3] at BW BV D3 BA BC G1 ⊢
 rw [hxl] at BW BV NW
 simp only [hxl]
 clear hx3 hxl A3 z1 us1 g1 k1 D2 c0
 go_upto_region 3 with (go_at_call 242; refine (dkeep_any D3.out).mono ?_; rintro e w4 ⟨rfl, z4, g4⟩; have D4 := Hn z4; have G4 := Hn g4; clear z4 g4)
 replace BA := Hn (BA.out.gs G4.out N1.out.1)
 replace BC := Hn (BC.out.gs G4.out N1.out.2)
 replace BW := Hn (BW.out.gs G4.out NW.out.2.2)
 have BV1 := Hn (BV.out.1.gs G4.out NW.out.1)
 have BV2 := Hn (BV.out.2.gs G4.out NW.out.2.1)
 replace G1 := Hn (G1.out.trans G4.out K1.out)
 have HN : Hid (∀ j, j < 4 → (R j).n + 1 ≤ 100000) := Hn (fun j hj => by
  have h1 := (HA.out j hj).1
  have h2 := HL.out.1
  have h3 := HL.out.2.1
  have h4 := HL.out.2.2
  by_cases e : j < 3
  ·have := h2 j e; omega
  ·obtain rfl : j = 3 := by omega
   omega)
 have C2 := Hn (known2_any w4.drew (D4.out.ob.sb.keep (bl_drew _)) ((D4.out.tq.sb D4.out.ob).keep (bl_drew _)) zl zr ZK.out.1 ZK.out.2 HN.out)
 refine fr3 _ (Sb b R) d b xa xc zl zr R _ _ _ _ _ _ _ _ _ _ _ _ _ _ _ _ _ _ _ _ _ _ _ _ _ _ _ _ _ _ _ _ _ _ _ _ _ w4 (BA.out.c 0) (BA.out.c 1) (BA.out.c 2) (BA.out.c 3) (BC.out.c 0) (BC.out.c 1) (BC.out.c 2) (BC.out.c 3) (D4.out.c 2) (Hn (fun e => N1.out.1 (D4.out.ob.sub _ e))) (Hn (fun e => N1.out.2 (D4.out.ob.sub _ e))) C2 (Hn ?_)
 intro w5 hag
 obtain ⟨S2, p0, c0, p1, c1, p2, c2, z5, us5, g5, k5⟩ := (D4.out.keep (bl_drew _)).ag U1.out hag
 have G5 : Hid (Gs S1 w4 w5) := Hn ((Gs.bl (bl_drew _)).trans g5 Sk.refl)
 have K5 : Hid (Sk S1 S2 w4) := Hn k5
 have D5 := Hn z5
 have U5 := Hn us5
 replace BW := Hn (BW.out.gs G5.out NW.out.2.2)
 replace BV1 := Hn (BV1.out.gs G5.out NW.out.1)
 replace BV2 := Hn (BV2.out.gs G5.out NW.out.2.1)
 clear hag z5 us5 g5 k5 BA BC G4 BV
 go_upto_region 4 with fail
 refine fr4 _ xl (xl + 1) (xl + 1 + 1) (p.K : Int) _ _ _ _ _ _ _ _ _ _ _ _ _ _ _ _ _ _ _ _ _ _ _ _ _ _ _ _ _ _ _ _ _ _ _ _ _ w5 (BV1.out.c 0) (BV1.out.c 1) (BV2.out.c 0) (BV2.out.c 1) (BW.out.c 0) (BW.out.c 1) (Hn (fun k y => Of_any (k, (p.K : Int)) y)) (Hn ?_)
 intro w6 v1 v2 v3 hb n1 n2 n3
 have B6 := Hn hb
 have NN := Hn (And.intro n1 (And.intro n2 n3))
 clear hb n1 n2 n3
 go_wp2_with fail
 have hb := B6.out
 have D6 := D5.out.keep hb
 have ln := HL.out
 obtain ⟨ul, ul3⟩ := upG_len (l := zl) (r := zr) ln.1 ln.2.1
 have ge : Gs S x w6 := (G1.out.trans G5.out K1.out).trans (Gs.bl hb) (K1.out.trans K5.out G1.out.size)
 have l5 := D5.out.ob.lt
 refine bodyPost_ret (v := .tuple #[v1, v2, v3]) (by simp [results, Tryz.results245, go_sem]) rfl ⟨S2, v1, v2, v3, rfl, ⟨⟨vv, _, _, D6, HA.out.up _ _ _ _ _ _ _ _, U5.out⟩, fun j hj => ul j hj, ul3, ln.2.2⟩, ge, K1.out.trans K5.out G1.out.size, Zo.zn NN.out.1 l5 (by simp), Zo.zn NN.out.2.1 l5 (by simp), Zo.zn NN.out.2.2 l5 (by simp)⟩
end Ci
end Go.Proofs.YtljmgfclhbadjaaGreatDoor
namespace Go.Proofs.YtljmgfclhbadjaaGreatDoor
open Go.RowKit
set_option linter.unusedVariables false
set_option linter.unusedSimpArgs false
open Cm (Wr Tm co bf Ls lf ins Eqm)
namespace Ci
set_option maxRecDepth 100000
set_option maxHeartbeats 16000000
def pReqs (p : Pz) (X : Nat → List Tm) : Nat → Pz
 | 0 => p
 | n + 1 => pReq (pReqs p X n) (X n)
theorem pReqs_K (p : Pz) (X : Nat → List Tm) (n : Nat) : (pReqs p X n).K = p.K := by
 induction n with
 | zero => rfl
 | succ n ih => exact ih
theorem pReqs_Q (p : Pz) (X : Nat → List Tm) (n : Nat) : (pReqs p X n).Q.length = p.Q.length + n := by
 induction n with
 | zero => rfl
 | succ n ih => show ((pReqs p X n).Q ++ [X n]).length = _; rw [List.length_append, ih]; simp; omega
theorem requireZ {base m K q : Nat} {Q : List (List Tm)} {vv v : Value} {vs : List Value} {x : World} {X : List Tm} (h : Sy base x q m K vv vs Q) (hT : Tb x) (hz : Zs x v X) (hf : ∀ z ∈ X, hs m K z.1 = true) (hq : Q.length < 4096) :
  Calls Tryz.prog 20 #[.pointer (some ⟨q, 0, none⟩), v] x fun e w' => e = .returned (.int .i64 0) ∧ RqA base x q m K vv vs Q X w' := by
 obtain ⟨P, c, rfl, hl⟩ := hz.sh
 have hn := hz.n
 have h1 := Require_okA h hT P X.length c (ft X) (by omega) (fun k hk => lst_ok _) hl (by rw [hz.lf]; exact nm_true hf) hq
 rw [hz.lf] at h1
 exact h1
structure Zm (S : Nat → Prop) (x : World) (b n : Nat) (V : Nat → Value) (X : Nat → List Tm) : Prop where
 nb : ¬ S b
 lt : b < x.heap.size
 el : ∀ j, j < n → x.cell? ⟨b, j, none⟩ = some (V j) ∧ Zo S x (V j) (X j)
section
variable {S S' : Nat → Prop} {d m q b lb n c : Nat} {p : Pz} {x y : World} {V : Nat → Value} {X : Nat → List Tm}
theorem Zm.keep (h : Zm S x lb n V X) (hb : Below x.heap.size x y) : Zm S y lb n V X := ⟨h.nb, Nat.lt_of_lt_of_le h.lt hb.size, fun j hj => ⟨cell_keep (h.el j hj).1 hb, (h.el j hj).2.keep hb⟩⟩
theorem Zm.step (h : Zm S x lb n V X) (hg : Gs S x y) (hk : Sk S S' x) : Zm S' y lb n V X := ⟨out_sk h.nb hk h.lt, Nat.lt_of_lt_of_le h.lt hg.size, fun j hj => ⟨hg.cell (h.el j hj).1 h.nb, (h.el j hj).2.step hg hk⟩⟩
theorem Ds.req (h : Ds S d m p q b x) {X : List Tm} {vv vs R} (hz : Dz S d m p.K p.Q q b vv vs R 0 x) (ha : Ag p.G R) (hvs : ∀ u ∈ vs, ∀ k, u.ownBlock = some k → S k) (hr : RqA 0 x q m p.K vv vs p.Q X y) (hf : ∀ z ∈ X, hs m p.K z.1 = true) (hn : X.length ≤ 100000) (hq : p.Q.length < 4096) :
  ∃ S', Ds S' d m (pReq p X) q b y ∧ Gs S x y ∧ Sk S S' x := by
 obtain ⟨v', u, sy, fz, hu, hv⟩ := hr
 obtain ⟨S1, z1, us1, g1, k1⟩ := hz.fz hvs sy fz hv (hz.wk.reqs [X] (by simp; omega) (fun Y hY => by
  rw [List.mem_singleton.1 hY]
  exact ⟨hf, by omega⟩)) (fun u' hu' => (List.mem_append.1 hu').imp id (fun e k hk => hu k (by rw [← List.mem_singleton.1 e]; exact hk)))
 exact ⟨S1, ⟨⟨v', _, R, z1, ha, us1⟩, h.ln, h.l3, h.m16⟩, g1, k1⟩
theorem dkeepD (h : Ds S d m p q b x) :
  Calls Tryz.prog 242 #[.pointer (some ⟨d, 0, none⟩), .int .i64 0] x fun e' w' => e' = .returned (.tuple #[]) ∧ Ds S d m p q b w' ∧ Gs S x w' := by
 obtain ⟨⟨vv, vs, R, hz, ha, hvs⟩, hln, hl3, hm⟩ := h
 exact (dkeep_any hz).mono (fun e' w' hk => ⟨hk.1, ⟨⟨vv, vs, R, hk.2.1, ha, hvs⟩, hln, hl3, hm⟩, hk.2.2⟩)
theorem dzero_any (h : Ds S d m p q b x) (lb n c : Nat) (V : Nat → Value) (X : Nat → List Tm) (hL : Zm S x lb n V X) (hn : n ≤ 1000) (hq : p.Q.length + n ≤ 4096) (hf : ∀ j, j < n → ∀ z ∈ X j, hs m p.K z.1 = true) :
  Calls Tryz.prog 216 #[.pointer (some ⟨d, 0, none⟩), .slice (some ⟨lb, 0, none⟩) n c] x fun e w' => e = .returned (.slice none 0 0) ∧ EoP S d m (pReqs p X n) q b x w' := by
 have HL := Hn hL
 have HN := Hn hn
 have HQ := Hn hq
 have HF := Hn hf
 have A0 : Hid (EoP S d m (pReqs p X 0) q b x x) := Hn ⟨S, h, Gs.refl, Sk.refl⟩
 clear hL hf h hn hq
 go_enter Tryz.func216, Tryz.ntmps216
 go_upto_region 2 with fail
 go_loopw [9] (fun iv w' => ∃ i : Nat, i ≤ n ∧ iv = .int .i64 (i : Int) ∧ Hid (EoP S d m (pReqs p X i) q b x w')) (fun i _ => n - (intOf i).toNat)
 case atStart => exact ⟨0, by omega, rfl, A0⟩
 case round =>
  clear A0
  obtain ⟨i, hi, rfl, hE⟩ := hrel
  by_cases hin : i < n
  ·have i1 : (i : Int) < (n : Int) := by omega
   have i0 : (0 : Int) ≤ (i : Int) := by omega
   have w9 : IntKind.i64.wrap ((i : Int) + 1) = (i : Int) + 1 := IntWalk.i64_in _ (by have := HN.out; omega)
   obtain ⟨S1, d1, g1, k1⟩ := hE.out
   have D1 := Hn d1
   have G1 := Hn (And.intro g1 k1)
   have L1 := Hn (HL.out.step g1 k1)
   have x0 := (L1.out.el i hin).1
   clear d1 g1 k1
   obtain ⟨vv, vs, R, hz, ha, hvs⟩ := D1.out.h
   have HZ := Hn (And.intro hz (And.intro ha hvs))
   have HX : Hid (∀ z ∈ X i, hs m (pReqs p X i).K z.1 = true) := Hn (by rw [pReqs_K]; exact HF.out i hin)
   have QL : Hid ((pReqs p X i).Q.length < 4096) := Hn (by rw [pReqs_Q]; have := HQ.out; omega)
   have C1 := Hn (requireZ hz.sy hz.tq.1 (L1.out.el i hin).2.1 HX.out QL.out)
   have c0 := hz.c 0
   clear hz ha hvs
   go_wp2_with (first | (go_at_call 20; refine C1.out.mono ?_; rintro e w1 ⟨rfl, hr⟩; obtain ⟨S2, d2, g2, k2⟩ := D1.out.req HZ.out.1 HZ.out.2.1 HZ.out.2.2 hr HX.out (L1.out.el i hin).2.1.n QL.out; have D2 := Hn d2; have G2 := Hn (And.intro g2 k2); clear hr d2 g2 k2 C1) | (go_at_call 242; refine (dkeepD D2.out).mono ?_; rintro e w2 ⟨rfl, d3, g3⟩; have D3 := Hn d3; have G3 := Hn g3; clear d3 g3))
   have FE : Hid (EoP S d m (pReqs p X (i + 1)) q b x w2) := Hn ⟨S2, D3.out, (G1.out.1.trans G2.out.1 G1.out.2).trans G3.out (G1.out.2.trans G2.out.2 G1.out.1.size), G1.out.2.trans G2.out.2 G1.out.1.size⟩
   go_roundw
   case rel => exact ⟨i + 1, by omega, by go_num, FE⟩
   case measure => simp [intOf]; omega
  ·obtain rfl : i = n := by omega
   have lq : ¬ (i : Int) < (i : Int) := by omega
   go_wp2_with fail
   refine bodyPost_ret (v := .slice none 0 0) (by simp [results, Tryz.results216, go_sem]) rfl ⟨rfl, hE.out⟩
end
end Ci
end Go.Proofs.YtljmgfclhbadjaaGreatDoor
namespace Go.Proofs.YtljmgfclhbadjaaGreatDoor
open Go.RowKit
set_option linter.unusedVariables false
set_option linter.unusedSimpArgs false
open Cm (Wr Tm co bf Ls lf ins Eqm)
namespace Ci
set_option maxRecDepth 100000
set_option maxHeartbeats 16000000
section
variable {S S' : Nat → Prop} {d m q b lb n c : Nat} {p : Pz} {x y : World} {V : Nat → Value} {X : Nat → List Tm}
theorem leastZ {v : Value} {X : List Tm} (hT : Tb x) (h : Zs x v X) : Calls Tryz.prog 47 #[v] x fun e w' => LvP X x e w' := by
 obtain ⟨P, c, rfl, hl⟩ := h.sh
 have hn := h.n
 have h1 := Least_lin P X.length c (ft X) x hT (by omega) (fun k hk => lst_ok _) hl
 rw [h.lf] at h1
 exact h1
theorem hs_out {m K : Nat} : ∀ z ∈ ([((4, (K : Int)), 1)] : List Tm), hs m (K + 1) z.1 = true := fun z hz => by
 rw [List.mem_singleton.1 hz]
 show hs m (K + 1) (4, (K : Int)) = true
 unfold hs
 simp only [Bool.and_eq_true, decide_eq_true_eq]
 refine ⟨by omega, by omega, by omega, ?_⟩
 show (K : Int) < ((K + 1 : Nat) : Int)
 omega
theorem dprodOf_any (h : Ds S d m p q b x) (hL : Zm S x lb 2 V X) (hf : ∀ j, j < 2 → ∀ z ∈ X j, hs m p.K z.1 = true) (hq : p.Q.length ≤ 4094) (hK : p.K < 1024) :
  Calls Tryz.prog 145 #[.pointer (some ⟨d, 0, none⟩), .func (.func 47) #[] #[], .slice (some ⟨lb, 0, none⟩) 2 2] x fun e w' => LoP S d m (pMul m p (X 0) (X 1)) q b [((4, (p.K : Int)), 1)] x e w' := by
 have HD := Hn h
 have HL := Hn hL
 have HF := Hn hf
 have x0 := (hL.el 0 (by omega)).1
 have L0 := Hn (leastZ h.tb (hL.el 0 (by omega)).2.1)
 clear h hL hf
 go_enter Tryz.func145, Tryz.ntmps145
 go_upto_region 5 with (go_at_call 47; refine L0.out.mono ?_; rintro e w1 ⟨v1, rfl, hl⟩; have Q1 := Hn hl; clear hl L0)
 have Z1 := Hn (Zo.new Q1.out HD.out.lt (HL.out.el 0 (by omega)).2.1.n)
 have D1 := Hn (HD.out.keep Q1.out.2.1)
 have M1 := Hn (HL.out.keep Q1.out.2.1)
 have B1 := Hn Q1.out.2.1
 clear Q1 x0
 go_loopw [22, 7] (fun iv v w' => (iv = .int .i64 0 ∧ v = v1 ∧ w' = w1) ∨ (iv = .int .i64 1 ∧ Hid (LoP S d m (pMul m p (X 0) (X 1)) q b [((4, (p.K : Int)), 1)] x (.returned v) w'))) (fun i _ _ => 1 - (intOf i).toNat)
 case atStart => exact .inl ⟨rfl, rfl, rfl⟩
 case round =>
  rcases hrel with ⟨rfl, rfl, rfl⟩ | ⟨rfl, hE⟩
  ·have x1 := (M1.out.el 1 (by omega)).1
   have c5 := D1.out.h.c 5
   have L1 := Hn (leastZ D1.out.tb (M1.out.el 1 (by omega)).2.1)
   go_wp2_with (first | (go_at_call 47; refine L1.out.mono ?_; rintro e w2 ⟨v2, rfl, hl⟩; have Q2 := Hn hl; have C2 := Hn (dmul_any (D1.out.keep hl.2.1) (Z1.out.keep hl.2.1) (Zo.new hl D1.out.lt (HL.out.el 1 (by omega)).2.1.n) (HF.out 0 (by omega)) (HF.out 1 (by omega)) hq hK); clear hl L1) | (go_at_call 211; refine C2.out.mono ?_; rintro e w3 ⟨S3, v3, rfl, d3, g3, k3, z3⟩; have FE : Hid (LoP S d m (pMul m p (X 0) (X 1)) q b [((4, (p.K : Int)), 1)] x (.returned v3) w3) := Hn ⟨S3, v3, rfl, d3, ((Gs.bl (below_tr B1.out (Q2.out.2.1.mono B1.out.size))).trans g3 Sk.refl), Sk.trans Sk.refl k3 (Nat.le_trans B1.out.size Q2.out.2.1.size), z3⟩; clear d3 g3 k3 z3 C2))
   go_roundw
   case rel => exact .inr ⟨rfl, FE⟩
   case measure => simp [intOf]
  ·go_wp2_with fail
   refine bodyPost_ret (v := _) (by simp [results, Tryz.results145, go_sem]) rfl hE.out
end
end Ci
end Go.Proofs.YtljmgfclhbadjaaGreatDoor
namespace Go.Proofs.YtljmgfclhbadjaaGreatDoor
open Go.RowKit
set_option linter.unusedVariables false
set_option linter.unusedSimpArgs false
open Cm (Wr Tm co bf Ls lf ins Eqm)
namespace Ci
set_option maxRecDepth 100000
set_option maxHeartbeats 16000000
section
variable {S S' : Nat → Prop} {d m q b lb n c : Nat} {p : Pz} {x y : World} {V : Nat → Value} {X : Nat → List Tm}
def PoP (S : Nat → Prop) (d m : Nat) (p : Pz) (q b : Nat) (X : List Tm) (x : World) (e : Ending) (w' : World) : Prop := ∃ S' lb v, e = .returned (.slice (some ⟨lb, 0, none⟩) 1 1) ∧ Ds S' d m p q b w' ∧ Gs S x w' ∧ Sk S S' x ∧ Zm S' w' lb 1 (fun _ => v) (fun _ => X)
theorem Zm.one {v : Value} {X : List Tm} (h : Ds S d m p q b x) (hz : Zo S x v X) : Zm S (x.alloc (.cells #[v] 50)) x.heap.size 1 (fun _ => v) (fun _ => X) := ⟨fun e => by have := h.lt _ e; omega, by simp, fun j hj => by
 obtain rfl : j = 0 := by omega
 exact ⟨cell_of_row _ _ 0 _ _ (0, 0) (heap_alloc_new x _), hz.keep (bl_alloc _ _)⟩⟩
theorem dproduct_any (h : Ds S d m p q b x) (hL : Zm S x lb 2 V X) (hf : ∀ j, j < 2 → ∀ z ∈ X j, hs m p.K z.1 = true) (hq : p.Q.length ≤ 4094) (hK : p.K < 1024) :
  Calls Tryz.prog 82 #[.pointer (some ⟨d, 0, none⟩), .slice (some ⟨lb, 0, none⟩) 2 2] x fun e w' => PoP S d m (pMul m p (X 0) (X 1)) q b [((4, (p.K : Int)), 1)] x e w' := by
 have C0 := Hn (dprodOf_any h hL hf hq hK)
 clear h hL hf
 go_enter Tryz.func82, Tryz.ntmps82
 go_wp2_with (go_at_call 145; refine C0.out.mono ?_; rintro e w1 ⟨S1, v1, rfl, d1, g1, k1, z1⟩; obtain ⟨P, c, rfl, hl⟩ := z1.1.sh; have FE : Hid (PoP S d m (pMul m p (X 0) (X 1)) q b [((4, (p.K : Int)), 1)] x (.returned (.slice (some ⟨w1.heap.size, 0, none⟩) 1 1)) (w1.alloc (.cells #[.slice P 1 c] 50))) := Hn ⟨S1, _, _, rfl, d1.keep (bl_alloc _ _), g1.trans (Gs.bl (bl_alloc _ _)) k1, k1, Zm.one d1 z1⟩; clear d1 g1 k1 z1 C0; simp only [List.length_cons, List.length_nil, Nat.zero_add])
 refine bodyPost_ret (v := _) (by simp [results, Tryz.results82, go_sem]) rfl FE.out
end
end Ci
end Go.Proofs.YtljmgfclhbadjaaGreatDoor
