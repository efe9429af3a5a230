import Derived.Test.YtljmgfclhbadjaaGreatDoorDkc
import Derived.Test.YtljmgfclhbadjaaGreatDoorTk
import Derived.Lib.SliceRun
import Derived.OwnWalkIn
namespace Go.Proofs.YtljmgfclhbadjaaGreatDoor
open Go.RowKit
set_option linter.unusedVariables false
set_option linter.unusedSimpArgs false
open Cm (Wr Tm co bf Ls lf ins Eqm)
namespace Ci
set_option maxRecDepth 100000
set_option maxHeartbeats 16000000
theorem own_kd {x : World} {b b' s s' n n' : Nat} {e e' : TypeId} {u v : Value} {xs ys : List Value} (hu : x.ownsRow b e s u n xs) (hv : x.ownsRow b' e' s' v n' ys) (hne : e ≠ e') : ∀ k, u.ownBlock = some k → v.ownBlock ≠ some k := fun k hk e9 => by
 rcases hu.2 with ⟨h1, _⟩ | ⟨g, c, cur, h1, _, k1, _⟩
 ·rw [h1] at hk; cases hk
 ·rw [h1] at hk
  simp only [Value.ownBlock, Option.some.injEq] at hk
  subst hk
  rcases hv.2 with ⟨h2, _⟩ | ⟨g', c', cur', h2, _, k2, _⟩
  ·rw [h2] at e9; cases e9
  ·rw [h2] at e9
   simp only [Value.ownBlock, Option.some.injEq] at e9
   subst e9
   rw [k1] at k2
   simp only [Option.some.injEq, Obj.cells.injEq] at k2
   exact hne k2.2.1
theorem box_kd {x : World} {b s n B : Nat} {e T : TypeId} {u : Value} {xs : List Value} {arr : Array Value} (hu : x.ownsRow b e s u n xs) (hB : x.heap[B]? = some (.cells arr T (0, 0))) (hne : e ≠ T) : u.ownBlock ≠ some B := fun e9 => by
 rcases hu.2 with ⟨h1, _⟩ | ⟨g, c, cur, h1, _, k1, _⟩
 ·rw [h1] at e9; cases e9
 ·rw [h1] at e9
  simp only [Value.ownBlock, Option.some.injEq] at e9
  subst e9
  rw [k1] at hB
  simp only [Option.some.injEq, Obj.cells.injEq] at hB
  exact hne hB.2.1
theorem own_kept {x y : World} {b b' s s' n n' : Nat} {e e' : TypeId} {u v : Value} {xs ys : List Value} (hu : x.ownsRow b e s u n xs) (hv : x.ownsRow b' e' s' v n' ys) (hne : e ≠ e') (hg : x.grownBy y v.ownBlock) : y.ownsRow b e s u n xs := hu.kept hg (by
 cases hq : u.ownBlock with
 | none => exact .inl rfl
 | some k => exact .inr (fun e9 => own_kd hu hv hne k hq e9.symm))
structure Ob (S : Nat → Prop) (b : Nat) (R : Nat → Sl) (x : World) : Prop where
 bx : x.heap[b]? = some (.cells #[.slice (R 0).p (R 0).n (R 0).c, .slice (R 1).p (R 1).n (R 1).c, .slice (R 2).p (R 2).n (R 2).c, .slice (R 3).p (R 3).n (R 3).c] 43 (0, 0))
 rw : ∀ j, j < 4 → Ro x (R j)
 dj : ∀ i j, i < 4 → j < 4 → i ≠ j → Dj (R i).v (R j).v
 pr : ∀ j, j < 4 → ∀ k, (R j).v.ownBlock = some k → S k
 pb : S b
 lt : ∀ i, S i → i < x.heap.size
def upR (R : Nat → Sl) (j : Nat) (p : Option Addr) (c : Nat) (z : E4) : Nat → Sl := fun i => if i = j then ⟨p, (R j).n + 1, c, snc (R j).n z (R j).g⟩ else R i
section
variable {S : Nat → Prop} {b j c : Nat} {R : Nat → Sl} {x y wz : World} {z : E4} {p : Option Addr}
theorem Ob.keep (h : Ob S b R x) (hb : Below x.heap.size x y) : Ob S b R y :=
 ⟨(hb.block b (h.lt b h.pb)).trans h.bx, fun j hj => (h.rw j hj).keep hb, h.dj, h.pr, h.pb, fun i hi => Nat.lt_of_lt_of_le (h.lt i hi) hb.size⟩
theorem Ob.nb (h : Ob S b R x) (hj : j < 4) : (R j).v.ownBlock ≠ some b := box_kd (h.rw j hj).own h.bx (by decide)
theorem Ob.ce (h : Ob S b R x) (hj : j < 4) : x.cell? ⟨b, j, none⟩ = some (.slice (R j).p (R j).n (R j).c) := by
 rw [cell_of_row x b j _ _ (0, 0) h.bx]
 match j, hj with
 | 0, _ => rfl
 | 1, _ => rfl
 | 2, _ => rfl
 | 3, _ => rfl
theorem Ob.th (h : Ob S b R x) (hj : j < 4) : x.there b j 1 := fun d hd => by
 obtain rfl : d = 0 := by omega
 refine ⟨?_, frozen_of_row x b _ _ _ h.bx⟩
 rw [Nat.add_zero, h.ce hj]
 rfl
theorem Ob.ap (h : Ob S b R x) (hj : j < 4) (A : ApR x wz b j (R j) z p c) (hz : z.ok) (hn : (R j).n + 1 ≤ 100000) : ∃ S', Ob S' b (upR R j p c z) wz ∧ Gs S x wz ∧ Sk S S' x := by
 obtain ⟨w1, w2, b1, g2, ow, hk, rfl⟩ := A
 have nb := h.nb hj
 have hb1 : w1.heap[b]? = _ := (b1.block b (h.lt b h.pb)).trans h.bx
 have hb2 : w2.heap[b]? = _ := (g2.block b (Array.getElem?_eq_some_iff.1 hb1).1 (fun e => nb e.symm)).trans hb1
 have gs : w2.grownBy (w2.setCells b j [.slice p ((R j).n + 1) c]) (some b) := gb_setCells b _ j w2
 have hb3 := heap_setCell_same w2 b j _ 43 (.slice p ((R j).n + 1) c) hb2
 have nw : (Value.slice p ((R j).n + 1) c).ownBlock ≠ some b := box_kd ow hb2 (by decide)
 refine ⟨fun i => S i ∨ (Value.slice p ((R j).n + 1) c).ownBlock = some i, ⟨?_, fun i hi => ?_, fun i k hi hk4 hik => ?_, fun i hi k hk4 => ?_, .inl h.pb, fun i hi => ?_⟩, ⟨gs.os.trans (g2.os.trans b1.os), gs.tape.trans (g2.tape.trans b1.tape), gs.output.trans (g2.output.trans b1.output), Nat.le_trans b1.size (Nat.le_trans g2.size gs.size), fun i hi hS => ?_⟩, fun i hi => ?_⟩
 ·show (w2.setCell ⟨b, j, none⟩ _).heap[b]? = _
  rw [hb3]
  match j, hj with
  | 0, _ => rfl
  | 1, _ => rfl
  | 2, _ => rfl
  | 3, _ => rfl
 ·unfold upR
  by_cases e : i = j
  ·rw [if_pos e]
   refine ⟨ow.kept gs ?_, fun k hk5 => ?_, hn⟩
   ·cases hq : (Value.slice p ((R j).n + 1) c).ownBlock with
    | none => exact .inl rfl
    | some q => exact .inr (fun e9 => nw (by rw [hq]; exact e9))
   ·simp only [snc]
    split
    ·exact hz
    ·exact (h.rw j hj).ok k (by simp only at hk5; omega)
  ·rw [if_neg e]
   have hr := (h.rw i hi).keep b1
   have h2 : w2.ownsRow 0 53 4 (R i).v (R i).n (s4s (R i).n (R i).g) := hr.own.kept g2 (by
    cases hq : (R i).v.ownBlock with
    | none => exact .inl rfl
    | some q => exact .inr (fun e9 => h.dj i j hi hj e q hq e9.symm))
   refine ⟨h2.kept gs ?_, hr.ok, hr.n⟩
   cases hq : (R i).v.ownBlock with
   | none => exact .inl rfl
   | some q => exact .inr (fun e9 => h.nb hi (by rw [hq]; exact e9))
 ·unfold upR
  have new : ∀ q, q < 4 → q ≠ j → Dj (⟨p, (R j).n + 1, c, snc (R j).n z (R j).g⟩ : Sl).v (R q).v := fun q hq hqj k1 e1 e2 => by
   rcases hk k1 e1 with e3 | e3
   ·exact h.dj j q hj hq (fun e => hqj e.symm) k1 e3 e2
   ·have := ((h.rw q hq).own.lt k1 e2).2
    omega
  by_cases e : i = j
  ·rw [if_pos e, if_neg (fun e2 => hik (e.trans e2.symm))]
   exact new k hk4 (fun e2 => hik (e.trans e2.symm))
  ·by_cases e2 : k = j
   ·rw [if_neg e, if_pos e2]
    exact (new i hi e).symm
   ·rw [if_neg e, if_neg e2]
    exact h.dj i k hi hk4 hik
 ·unfold upR at hk4
  by_cases e : i = j
  ·rw [if_pos e] at hk4
   exact .inr hk4
  ·rw [if_neg e] at hk4
   exact .inl (h.pr i hi k hk4)
 ·rcases hi with hi | hi
  ·have := h.lt i hi
   exact Nat.lt_of_lt_of_le this (Nat.le_trans b1.size (Nat.le_trans g2.size gs.size))
  ·exact Nat.lt_of_lt_of_le (ow.lt i hi).2 gs.size
 ·have h1 : i < w1.heap.size := Nat.lt_of_lt_of_le hi b1.size
  have h2 : i < w2.heap.size := Nat.lt_of_lt_of_le h1 g2.size
  exact (gs.block i h2 (fun e => hS (by rw [Option.some.inj e]; exact h.pb))).trans ((g2.block i h1 (fun e => hS (h.pr j hj i e.symm))).trans (b1.block i hi))
 ·rcases hi with hi | hi
  ·exact .inl hi
  ·rcases hk i hi with e | e
   ·exact .inl (h.pr j hj i e)
   ·exact .inr e
end
end Ci
end Go.Proofs.YtljmgfclhbadjaaGreatDoor
namespace Go.Proofs.YtljmgfclhbadjaaGreatDoor
open Go.RowKit
set_option linter.unusedVariables false
set_option linter.unusedSimpArgs false
open Cm (Wr Tm co bf Ls lf ins Eqm)
namespace Ci
set_option maxRecDepth 100000
set_option maxHeartbeats 16000000
def Bz (w : World) (b : Nat) (z : E4) : Prop := w.heap[b]? = some (.cells #[.int .u64 z.x0, .int .u64 z.x1, .int .u64 z.x2, .int .u64 z.x3] 53 (0, 0))
theorem Bz.c {w : World} {b : Nat} {z : E4} (h : Bz w b z) (j : Nat) : w.cell? ⟨b, j, none⟩ = (#[.int .u64 z.x0, .int .u64 z.x1, .int .u64 z.x2, .int .u64 z.x3] : Array Value)[j]? := cell_of_row w b j _ _ (0, 0) h
theorem Bz.gs {S : Nat → Prop} {x y : World} {b : Nat} {z : E4} (h : Bz x b z) (hg : Gs S x y) (hn : ¬ S b) : Bz y b z := (hg.block b (Array.getElem?_eq_some_iff.1 h).1 hn).trans h
theorem Bz.keep {x y : World} {b : Nat} {z : E4} (h : Bz x b z) (hb : Below x.heap.size x y) : Bz y b z := (hb.block b (Array.getElem?_eq_some_iff.1 h).1).trans h
theorem bz_two (x : World) (l r : E4) : Bz ((x.alloc (.cells #[.int .u64 l.x0, .int .u64 l.x1, .int .u64 l.x2, .int .u64 l.x3] 53)).alloc (.cells #[.int .u64 r.x0, .int .u64 r.x1, .int .u64 r.x2, .int .u64 r.x3] 53)) (x.heap.size + 1) r := by
 have e : (x.alloc (.cells #[.int .u64 l.x0, .int .u64 l.x1, .int .u64 l.x2, .int .u64 l.x3] 53)).heap.size = x.heap.size + 1 := by simp
 rw [← e]
 exact heap_alloc_new _ _
def Tq (S : Nat → Prop) (x : World) : Prop := Tb x ∧ ¬ S 1
theorem tb_gs {S : Nat → Prop} {x y : World} (h : Tb x) (hg : Gs S x y) (hn : ¬ S 1) : Tb y := by
 obtain ⟨h0, h1, h2, h3, h4, h5, h6, h7, h8, h9, h10, h11⟩ := h
 exact ⟨hg.cell h0 hn, hg.cell h1 hn, hg.cell h2 hn, hg.cell h3 hn, hg.cell h4 hn, hg.cell h5 hn, hg.cell h6 hn, hg.cell h7 hn, hg.cell h8 hn, hg.cell h9 hn, hg.cell h10 hn, hg.cell h11 hn⟩
theorem out_sk {S S1 : Nat → Prop} {x : World} {i : Nat} (hn : ¬ S i) (sk : Sk S S1 x) (hl : i < x.heap.size) : ¬ S1 i := fun h => by
 rcases sk i h with e | e
 ·exact hn e
 ·omega
theorem Tq.step {S S1 : Nat → Prop} {x y : World} (h : Tq S x) (hg : Gs S x y) (sk : Sk S S1 x) : Tq S1 y := ⟨tb_gs h.1 hg h.2, out_sk h.2 sk (World.block_lt_of_cell? x _ h.1.1)⟩
theorem Tq.keep {S : Nat → Prop} {x y : World} (h : Tq S x) (hb : Below x.heap.size x y) : Tq S y := ⟨h.1.keep hb, h.2⟩
def AgP (S : Nat → Prop) (b : Nat) (R : Nat → Sl) (l r : E4) (x w' : World) : Prop := ∃ S' p0 c0 p1 c1 p2 c2, Ob S' b (upR (upR (upR R 0 p0 c0 l) 1 p1 c1 r) 2 p2 c2 (lst (l.n * r.n))) w' ∧ Gs S x w' ∧ Sk S S' x
theorem addGate_any {S : Nat → Prop} {b : Nat} {R : Nat → Sl} (x : World) (h : Ob S b R x) (hT : Tq S x) (l r : E4) (hl : l.ok) (hr : r.ok) (hn : ∀ j, j < 4 → (R j).n + 1 ≤ 100000) :
  Calls Tryz.prog 140 #[.pointer (some ⟨b, 0, none⟩), .agg #[.int .u64 l.x0, .int .u64 l.x1, .int .u64 l.x2, .int .u64 l.x3], .agg #[.int .u64 r.x0, .int .u64 r.x1, .int .u64 r.x2, .int .u64 r.x3]] x fun e w' => e = .returned (.tuple #[]) ∧ AgP S b R l r x w' := by
 have xl : ¬ S x.heap.size := fun e => by have := h.lt _ e; omega
 have xl2 : ¬ S (x.heap.size + 1) := fun e => by have := h.lt _ e; omega
 have BL := bl_alloc2 x (.cells #[.int .u64 l.x0, .int .u64 l.x1, .int .u64 l.x2, .int .u64 l.x3] 53) (.cells #[.int .u64 r.x0, .int .u64 r.x1, .int .u64 r.x2, .int .u64 r.x3] 53)
 have H0 := Hn (h.keep BL)
 have T0 := Hn (hT.keep BL)
 have BA := Hn (show Bz ((x.alloc (.cells #[.int .u64 l.x0, .int .u64 l.x1, .int .u64 l.x2, .int .u64 l.x3] 53)).alloc (.cells #[.int .u64 r.x0, .int .u64 r.x1, .int .u64 r.x2, .int .u64 r.x3] 53)) x.heap.size l from (heap_alloc_old _ _ (by simp)).trans (heap_alloc_new x _))
 have BC := Hn (bz_two x l r)
 have G0 := Hn (Gs.bl (S := S) BL)
 have HN := Hn hn
 have LR := Hn (And.intro hl hr)
 have X1S := Hn BL.size
 have NA : Hid (¬ S x.heap.size ∧ ¬ S (x.heap.size + 1)) := Hn ⟨xl, xl2⟩
 have PB := Hn h.pb
 clear h hT BL xl xl2 hn
 go_enter Tryz.func140, Tryz.ntmps140
 go_upto_region 1 with fail
 obtain ⟨x1, hx1⟩ : ∃ x1, (x.alloc (.cells #[.int .u64 l.x0, .int .u64 l.x1, .int .u64 l.x2, .int .u64 l.x3] 53)).alloc (.cells #[.int .u64 r.x0, .int .u64 r.x1, .int .u64 r.x2, .int .u64 r.x3] 53) = x1 := ⟨_, rfl⟩
 obtain ⟨xa, hxa⟩ : ∃ xa, x.heap.size = xa := ⟨_, rfl⟩
 obtain ⟨xc, hxc⟩ : ∃ xc, x.heap.size + 1 = xc := ⟨_, rfl⟩
 rw [hx1] at H0 T0 BA BC G0 X1S ⊢
 rw [hxa] at BA NA
 rw [hxa] at hxc
 simp only [hxa, hxc] at BC NA ⊢
 clear hx1 hxa
 refine ag1 _ b xa l (R 0) _ _ _ _ _ _ _ _ _ _ _ _ _ _ _ _ _ _ _ _ _ _ _ _ _ _ _ _ _ _ _ _ _ _ _ _ x1 (BA.out.c 0) (BA.out.c 1) (BA.out.c 2) (BA.out.c 3) (H0.out.ce (j := 0) (by omega)) (Hn (H0.out.rw 0 (by omega))) (H0.out.th (j := 0) (by omega)) (Hn (H0.out.nb (j := 0) (by omega))) (Hn (fun e => NA.out.1 (H0.out.pr 0 (by omega) _ e))) (Hn (fun e => NA.out.1 (by rw [e]; exact PB.out))) (Hn ?_)
 intro w2 tb2 p0 c0 hA
 obtain ⟨S1, o1, g1, k1⟩ := H0.out.ap (by omega) hA hl (HN.out 0 (by omega))
 have H1 := Hn o1
 have GA := Hn (G0.out.trans g1 Sk.refl)
 have KA : Hid (Sk S S1 x) := Hn (Sk.trans Sk.refl k1 X1S.out)
 have W2S := Hn (Nat.le_trans X1S.out g1.size)
 have T1 := Hn (T0.out.step g1 k1)
 have BA1 := Hn (BA.out.gs g1 NA.out.1)
 have BC1 := Hn (BC.out.gs g1 NA.out.2)
 have NA1 : Hid (¬ S1 xa ∧ ¬ S1 xc) := Hn ⟨out_sk NA.out.1 k1 (Array.getElem?_eq_some_iff.1 BA.out).1, out_sk NA.out.2 k1 (Array.getElem?_eq_some_iff.1 BC.out).1⟩
 clear o1 g1 k1 hA H0 T0 BA BC NA
 go_upto_region 2 with fail
 refine ag2 _ b xc r (R 1) _ _ _ _ _ _ _ _ _ _ _ _ _ _ _ _ _ _ _ _ _ _ _ _ _ _ _ _ _ _ _ _ _ _ _ _ w2 (BC1.out.c 0) (BC1.out.c 1) (BC1.out.c 2) (BC1.out.c 3) (H1.out.ce (j := 1) (by omega)) (Hn (H1.out.rw 1 (by omega))) (H1.out.th (j := 1) (by omega)) (Hn (H1.out.nb (j := 1) (by omega))) (Hn (fun e => NA1.out.2 (H1.out.pr 1 (by omega) _ e))) (Hn (fun e => NA1.out.2 (by rw [e]; exact H1.out.pb))) (Hn ?_)
 intro w3 tb3 p1 c1 hA
 obtain ⟨S2, o1, g1, k1⟩ := H1.out.ap (j := 1) (by omega) hA hr (HN.out 1 (by omega))
 have H2 := Hn o1
 replace GA := Hn (GA.out.trans g1 KA.out)
 replace KA := Hn (KA.out.trans k1 W2S.out)
 have T2 := Hn (T1.out.step g1 k1)
 have BA2 := Hn (BA1.out.gs g1 NA1.out.1)
 have BC2 := Hn (BC1.out.gs g1 NA1.out.2)
 have NA2 : Hid (¬ S2 xa ∧ ¬ S2 xc) := Hn ⟨out_sk NA1.out.1 k1 (Array.getElem?_eq_some_iff.1 BA1.out).1, out_sk NA1.out.2 k1 (Array.getElem?_eq_some_iff.1 BC1.out).1⟩
 have W3S := Hn g1.size
 clear o1 g1 k1 hA H1 T1 BA1 BC1 NA1
 go_upto_region 3 with fail
 have RQ : Hid ((upR (upR R 0 p0 c0 l) 1 p1 c1 r 2).n = (R 2).n) := Hn rfl
 refine ag3 _ b xa xc l r (lst (l.n * r.n)) (upR (upR R 0 p0 c0 l) 1 p1 c1 r 2) _ _ _ _ _ _ _ _ _ _ _ _ _ _ _ _ _ _ _ _ _ _ _ _ _ _ _ _ _ _ _ _ _ _ _ w3 (BA2.out.c 0) (BA2.out.c 1) (BA2.out.c 2) (BA2.out.c 3) (BC2.out.c 0) (BC2.out.c 1) (BC2.out.c 2) (BC2.out.c 3) (H2.out.ce (j := 2) (by omega)) (Hn (H2.out.rw 2 (by omega))) (H2.out.th (j := 2) (by omega)) (Hn (H2.out.nb (j := 2) (by omega))) (Hn (fun e => NA2.out.1 (H2.out.pr 2 (by omega) _ e))) (Hn (fun e => NA2.out.1 (by rw [e]; exact H2.out.pb))) (Hn (fun e => NA2.out.2 (H2.out.pr 2 (by omega) _ e))) (Hn (fun e => NA2.out.2 (by rw [e]; exact H2.out.pb))) (Hn (fun y hy => fix (R := lst (l.n * r.n)) (Mul_any l r y (T2.out.1.keep hy) LR.out.1 LR.out.2) rfl)) (Hn ?_)
 intro w4 tb4 p2 c2 hA
 obtain ⟨S3, o1, g1, k1⟩ := H2.out.ap (j := 2) (by omega) hA (lst_ok _) (HN.out 2 (by omega))
 have H3 := Hn o1
 replace GA := Hn (GA.out.trans g1 KA.out)
 replace KA := Hn (KA.out.trans k1 (Nat.le_trans W2S.out W3S.out))
 clear o1 g1 k1 hA H2 T2 BA2 BC2 NA2
 go_wp2_with fail
 exact bodyPost_end (v := .tuple #[]) (by simp [results, Tryz.results140, go_sem]) rfl ⟨rfl, S3, p0, c0, p1, c1, p2, c2, H3.out, GA.out, KA.out⟩
end Ci
end Go.Proofs.YtljmgfclhbadjaaGreatDoor
namespace Go.Proofs.YtljmgfclhbadjaaGreatDoor
open Go.RowKit
set_option linter.unusedVariables false
set_option linter.unusedSimpArgs false
open Cm (Wr Tm co bf Ls lf ins Eqm)
namespace Ci
theorem s4s_one (g : Nat → E4) (n : Nat) : ∀ u ∈ s4s n g, u.oneCell' = true := by
 induction n with
 | zero => intro u hu; simp [s4s] at hu
 | succ n ih =>
  intro u hu
  rw [s4s_succ] at hu
  rcases List.mem_append.1 hu with h | h
  ·exact ih u h
  ·simp only [List.mem_cons, List.not_mem_nil, or_false] at h
   rcases h with rfl | rfl | rfl | rfl <;> rfl
theorem own_sl {w : World} {base n s : Nat} {e : TypeId} {v : Value} {xs : List Value} (h : w.ownsRow base e s v n xs) : ∃ (P : Option Addr) (c : Nat), v = .slice P n c := by
 rcases h.2 with ⟨rfl, rfl⟩ | ⟨g, cap, cur, rfl, _⟩
 ·exact ⟨none, 0, rfl⟩
 ·exact ⟨_, _, rfl⟩
theorem info4S : (Tryz.prog.info? 53).map (fun i => (i.zero, i.size, i.bytes)) = some (some (.agg #[.int .u64 0, .int .u64 0, .int .u64 0, .int .u64 0]), 4, 32) := by kernel_rfl
def ClS (s : Sl) (w : World) (e : Ending) (w' : World) : Prop := ∃ (Q : Option Addr) (d : Nat), e = .returned (.slice Q s.n d) ∧ w'.ownsRow w.heap.size 53 4 (.slice Q s.n d) s.n (s4s s.n s.g) ∧ Below w.heap.size w w'
set_option maxRecDepth 100000 in
set_option maxHeartbeats 4000000 in
theorem clS_any (s : Sl) (w : World) (h : Ro w s) :
  Calls Tryz.prog 208 #[.slice s.p s.n s.c] w fun e w' => ClS s w e w' := by
 obtain ⟨P, m, c, g⟩ := s
 have eqn := fun (a : Option Addr) (l c : Nat) (w : World) => Lib.run_eql_slice_nil (P := Tryz.prog) w 41 53 a l c 0 0 (by kernel_rfl)
 obtain ⟨ho, -, hm⟩ := h
 have hl : m ≤ 4398046510976 := Nat.le_trans hm (by decide)
 have HL := Hn hl
 cases P with
 | none =>
  obtain ⟨rfl, rfl⟩ : m = 0 ∧ c = 0 := by
   rcases ho.2 with ⟨h1, h2⟩ | ⟨gb, c', cur, h1, _⟩
   ·have h1' : Value.slice none m c = .slice none 0 0 := h1
    simp only [Value.slice.injEq] at h1'
    exact h1'.2
   ·have h1' : Value.slice none m c = .slice (some ⟨gb, 0, none⟩) m c' := h1
    simp only [Value.slice.injEq] at h1'
    cases h1'.1
  clear ho hl hm
  go_enter Tryz.func208, Tryz.ntmps208
  go_wp2_with fail
  refine bodyPost_ret (v := .slice none 0 0) (by simp [results, Tryz.results208, go_sem]) rfl ⟨none, 0, rfl, World.ownsRow_nil _ _ _ _, Below.refl _ _⟩
 | some ad =>
  have hc : ∀ j u, (s4s m g)[j]? = some u → w.cell? (ad.add j) = some u := by
   rcases ho.2 with ⟨h1, h2⟩ | ⟨gb, c', cur, h1, _⟩
   ·have h1' : Value.slice (some ad) m c = .slice none 0 0 := h1
    simp only [Value.slice.injEq] at h1'
    cases h1'.1
   ·have h1' : Value.slice (some ad) m c = .slice (some ⟨gb, 0, none⟩) m c' := h1
    simp only [Value.slice.injEq, Option.some.injEq] at h1'
    intro j u hu
    rw [h1'.1]
    exact ho.cells (g := gb) (by rw [h1]; rfl) j u hu
  obtain ⟨i0, hi, hz0, hz1, hz2⟩ := info_parts info4S
  have HI := Hn hi
  have HZ0 := Hn hz0
  have HZ1 := Hn hz1
  have HZ2 := Hn hz2
  have HU : Hid (Tryz.prog.underlying 41 = some (.slice 53)) := Hn (by kernel_rfl)
  have O0 := Hn (World.ownsRow_made (base := w.heap.size) (e := 53) (size := 4) w #[] 0 (Nat.le_refl _) (by unfold maxLen; omega) rfl)
  have B0 := Hn (bl_alloc w (.cells #[] 53))
  have HC : Hid (∀ j u, (s4s m g)[j]? = some u → (w.alloc (.cells #[] 53)).cell? (ad.add j) = some u) := Hn (fun j u hu => (bl_alloc w _).cell (p := ad.add j) (World.block_lt_of_cell? w _ (hc j u hu)) |>.trans (hc j u hu))
  clear ho hc hl hm hi hz0 hz1 hz2
  go_enter Tryz.func208, Tryz.ntmps208
  go_wp2_with (first | (at_builtin; go_loud (refine wpList_append_own_at _ rfl _ _ 41 rfl w.heap.size 53 i0 (.agg #[.int .u64 0, .int .u64 0, .int .u64 0, .int .u64 0]) 4 32 HU.out HI.out HZ0.out HZ1.out HZ2.out rfl (by decide) _ 0 [] rfl O0.out ad m c (s4s m g) rfl (s4s_len _ _) HC.out (s4s_one g m) (by have := HL.out; unfold maxLen; omega) (by have := HL.out; omega) B0.out.size ?_; intro v2 w2 ho2 hg2 hn2 ha2; have HO := Hn ho2; have HB := Hn (below_tr B0.out (below_grown hg2 B0.out.size (fun k hk => (O0.out.lt k hk).1))); clear ho2 hg2 hn2 ha2; rw [Nat.zero_add, List.nil_append] at HO)))
  obtain ⟨Q, d, rfl⟩ := own_sl HO.out
  refine bodyPost_ret (v := .slice Q m d) (by simp [results, Tryz.results208, go_sem]) rfl ⟨Q, d, rfl, HO.out, HB.out⟩
end Ci
end Go.Proofs.YtljmgfclhbadjaaGreatDoor
