import Derived.Test.YtljmgfclhbadjaaGreatDoorDkm
import Derived.Test.YtljmgfclhbadjaaGreatDoorTk
namespace Go.Proofs.YtljmgfclhbadjaaGreatDoor
open Go.RowKit
set_option linter.unusedVariables false
set_option linter.unusedSimpArgs false
open Cm (Wr Tm co bf Ls lf ins Eqm)
namespace Ci
set_option maxRecDepth 100000
set_option maxHeartbeats 16000000
def enG (s : Sl) (j k : Nat) : E4 := if j = 0 then lst (s.g k).n else if j = 1 then ⟨0, 0, 0, 0⟩ else if j = 2 then lst ((lst (s.g k).n).n * (⟨0, 0, 0, 0⟩ : E4).n) else lst (s.g k).n
def nil4 : Array Value := #[.slice none 0 0, .slice none 0 0, .slice none 0 0, .slice none 0 0]
structure En (s : Sl) (x : World) (b i : Nat) (S : Nat → Prop) (R : Nat → Sl) (w : World) : Prop where
 ob : Ob S b R w
 tq : Tq S w
 bl : Below x.heap.size x w
 nw : ∀ k, S k → x.heap.size < k
 rb : w.heap[x.heap.size]? = some (.cells #[.slice none 0 0, .slice none 0 0, .slice none 0 0, .slice none 0 0] 43 (0, 0))
 n : ∀ j, j < 4 → (R j).n = i
 g : ∀ j k, j < 4 → k < i → (R j).g k = enG s j k
def nilR : Nat → Sl := fun _ => ⟨none, 0, 0, fun _ => ⟨0, 0, 0, 0⟩⟩
theorem En.start {s : Sl} {x : World} (hT : Tb x) : En s x (x.heap.size + 1) 0 (fun k => k = x.heap.size + 1) nilR ((x.alloc (.cells #[.slice none 0 0, .slice none 0 0, .slice none 0 0, .slice none 0 0] 43)).alloc (.cells #[.slice none 0 0, .slice none 0 0, .slice none 0 0, .slice none 0 0] 43)) := by
 have BL := bl_alloc2 x (.cells #[.slice none 0 0, .slice none 0 0, .slice none 0 0, .slice none 0 0] 43) (.cells #[.slice none 0 0, .slice none 0 0, .slice none 0 0, .slice none 0 0] 43)
 have hl := World.block_lt_of_cell? x _ hT.1
 have e : (x.alloc (.cells #[.slice none 0 0, .slice none 0 0, .slice none 0 0, .slice none 0 0] 43)).heap.size = x.heap.size + 1 := by simp
 refine ⟨⟨?_, fun j hj => ⟨World.ownsRow_nil _ _ _ _, fun k hk => absurd hk (Nat.not_lt_zero k), by show (0 : Nat) ≤ 100000; omega⟩, fun i j _ _ _ k hk => (by cases hk), fun j hj k hk => (by cases hk), rfl, fun i hi => ?_⟩, ⟨hT.keep BL, fun h => ?_⟩, BL, fun k hk => ?_, (heap_alloc_old _ _ (by simp)).trans (heap_alloc_new x _), fun j hj => rfl, fun j k _ hk => absurd hk (Nat.not_lt_zero k)⟩
 ·have h := heap_alloc_new (x.alloc (.cells #[.slice none 0 0, .slice none 0 0, .slice none 0 0, .slice none 0 0] 43)) (.cells #[.slice none 0 0, .slice none 0 0, .slice none 0 0, .slice none 0 0] 43)
  rw [e] at h
  exact h
 ·have : i = x.heap.size + 1 := hi
  simp
  omega
 ·have h : 1 = x.heap.size + 1 := h
  rw [h] at hl
  simp only at hl
  omega
 ·have : k = x.heap.size + 1 := hk
  omega
end Ci
end Go.Proofs.YtljmgfclhbadjaaGreatDoor
namespace Go.Proofs.YtljmgfclhbadjaaGreatDoor
open Go.RowKit
set_option linter.unusedVariables false
set_option linter.unusedSimpArgs false
open Cm (Wr Tm co bf Ls lf ins Eqm)
namespace Ci
set_option maxRecDepth 100000
set_option maxHeartbeats 16000000
theorem bl_cellO {x y : World} {a : Addr} {u : Value} (h : Below x.heap.size x y) (hc : x.cell? a = some u) : y.cell? a = some u := (h.cell (World.block_lt_of_cell? x a hc)).trans hc
theorem ok0 : (⟨0, 0, 0, 0⟩ : E4).ok := by refine ⟨?_, ?_, ?_, ?_⟩ <;> (unfold Sm.Wd; simp)
theorem en_up {s : Sl} {i : Nat} {R : Nat → Sl} {p3 p0 p1 p2 : Option Addr} {c3 c0 c1 c2 : Nat} (hn : ∀ j, j < 4 → (R j).n = i) (hg : ∀ j k, j < 4 → k < i → (R j).g k = enG s j k) :
  (∀ j, j < 4 → (upR (upR (upR (upR R 3 p3 c3 (lst (s.g i).n)) 0 p0 c0 (lst (s.g i).n)) 1 p1 c1 ⟨0, 0, 0, 0⟩) 2 p2 c2 (lst ((lst (s.g i).n).n * (⟨0, 0, 0, 0⟩ : E4).n)) j).n = i + 1) ∧ ∀ j k, j < 4 → k < i + 1 → (upR (upR (upR (upR R 3 p3 c3 (lst (s.g i).n)) 0 p0 c0 (lst (s.g i).n)) 1 p1 c1 ⟨0, 0, 0, 0⟩) 2 p2 c2 (lst ((lst (s.g i).n).n * (⟨0, 0, 0, 0⟩ : E4).n)) j).g k = enG s j k := by
 refine ⟨fun j hj => ?_, fun j k hj hk => ?_⟩
 ·match j, hj with
  | 0, _ => show (R 0).n + 1 = i + 1; rw [hn 0 (by omega)]
  | 1, _ => show (R 1).n + 1 = i + 1; rw [hn 1 (by omega)]
  | 2, _ => show (R 2).n + 1 = i + 1; rw [hn 2 (by omega)]
  | 3, _ => show (R 3).n + 1 = i + 1; rw [hn 3 (by omega)]
 ·have key : ∀ (z : E4), z = enG s j i → snc (R j).n z (R j).g k = enG s j k := fun z hz => by
   unfold snc
   rw [hn j hj]
   split
   ·next e => rw [e]; exact hz
   ·exact hg j k hj (by omega)
  match j, hj with
  | 0, _ => exact key _ rfl
  | 1, _ => exact key _ rfl
  | 2, _ => exact key _ rfl
  | 3, _ => exact key _ rfl
theorem there_row4 {x : World} {b : Nat} {T : TypeId} {u0 u1 u2 u3 : Value} (h : x.heap[b]? = some (.cells #[u0, u1, u2, u3] T (0, 0))) : x.there b 0 4 := fun d hd => by
 refine ⟨?_, frozen_of_row x b (0 + d) _ _ h⟩
 rw [cell_of_row x b (0 + d) _ _ (0, 0) h, Nat.zero_add]
 match d, hd with
 | 0, _ => rfl
 | 1, _ => rfl
 | 2, _ => rfl
 | 3, _ => rfl
def EnP (s : Sl) (x : World) (e : Ending) (w' : World) : Prop := ∃ S b R, e = .returned (agR R) ∧ Ob S b R w' ∧ Tq S w' ∧ Below x.heap.size x w' ∧ (∀ k, S k → x.heap.size < k) ∧ (∀ j, j < 4 → (R j).n = s.n) ∧ ∀ j k, j < 4 → k < s.n → (R j).g k = enG s j k
theorem entries_any (s : Sl) (x : World) (hs : s.at x) (hT : Tb x) (hn : s.n ≤ 1000) :
  Calls Tryz.prog 78 #[.slice s.p s.n s.c] x fun e w' => EnP s x e w' := by
 have E0 := Hn (En.start (s := s) hT)
 have HS := Hn hs
 have TX := Hn hT
 have HN := Hn hn
 obtain ⟨P, hP⟩ : ∃ P, s.p = P := ⟨_, rfl⟩
 have HP := Hn hP
 rw [hP]
 clear hs hT hn hP
 go_enter Tryz.func78, Tryz.ntmps78
 go_upto_region 2 with fail
 obtain ⟨x1, hx1⟩ : ∃ x1, (x.alloc (.cells #[.slice none 0 0, .slice none 0 0, .slice none 0 0, .slice none 0 0] 43)).alloc (.cells #[.slice none 0 0, .slice none 0 0, .slice none 0 0, .slice none 0 0] 43) = x1 := ⟨_, rfl⟩
 rw [hx1] at E0 ⊢
 clear hx1
 go_upto_region 3 with fail
 go_loopw [8] (fun iv w' => ∃ i : Nat, i ≤ s.n ∧ iv = .int .i64 (i : Int) ∧ ∃ S R, Hid (En s x (x.heap.size + 1) i S R w')) (fun i _ => s.n - (intOf i).toNat)
 case atStart => exact ⟨0, by omega, rfl, _, _, E0⟩
 case round =>
  clear E0
  obtain ⟨i, hi, rfl, S, R, HE⟩ := hrel
  by_cases hin : i < s.n
  ·have i1 : (i : Int) < (s.n : Int) := by omega
   have i0 : (0 : Int) ≤ (i : Int) := by omega
   have w9 : IntKind.i64.wrap ((i : Int) + 1) = (i : Int) + 1 := IntWalk.i64_in _ (by have := HN.out; omega)
   obtain ⟨sb, so, hPs, hRt⟩ := HS.out.at'
   have rt0 := hRt (by omega)
   have hp0 := HP.out.symm.trans (hPs (by omega))
   subst hp0
   have bl0 := HE.out.bl
   have a0 := bl_cellO bl0 (rt0.c0 i hin)
   have a1 := bl_cellO bl0 (rt0.c1 i hin)
   have a2 := bl_cellO bl0 (rt0.c2 i hin)
   have a3 := bl_cellO bl0 (rt0.c3 i hin)
   clear rt0 hRt hPs bl0
   have AT := Hn (HS.out.ok i hin)
   have BL := bl_alloc wr (.cells #[.int .u64 (s.g i).x0, .int .u64 (s.g i).x1, .int .u64 (s.g i).x2, .int .u64 (s.g i).x3] 53)
   have XN : Hid (¬ S wr.heap.size) := Hn (fun e => by have := HE.out.ob.lt _ e; omega)
   have XB : Hid (x.heap.size < wr.heap.size ∧ x.heap.size + 1 < wr.heap.size) := Hn (by have h1 := HE.out.bl.size; have h2 := HE.out.ob.lt _ HE.out.ob.pb; omega)
   have H0 := Hn (HE.out.ob.keep BL)
   have T0 := Hn (HE.out.tq.keep BL)
   have BA := Hn (show Bz (wr.alloc (.cells #[.int .u64 (s.g i).x0, .int .u64 (s.g i).x1, .int .u64 (s.g i).x2, .int .u64 (s.g i).x3] 53)) wr.heap.size (s.g i) from heap_alloc_new wr _)
   have B0 := Hn BL
   clear BL
   go_upto_region 5 with fail
   obtain ⟨w1, hw1⟩ : ∃ w1, wr.alloc (.cells #[.int .u64 (s.g i).x0, .int .u64 (s.g i).x1, .int .u64 (s.g i).x2, .int .u64 (s.g i).x3] 53) = w1 := ⟨_, rfl⟩
   obtain ⟨xa, hxa⟩ : ∃ xa, wr.heap.size = xa := ⟨_, rfl⟩
   have WS : Hid (wr.heap.size = xa) := Hn hxa
   rw [hw1] at H0 T0 BA B0 ⊢
   rw [hxa] at BA XN XB ⊢
   clear hw1 hxa a0 a1 a2 a3
   refine en5 _ (x.heap.size + 1) xa (s.g i) (lst (s.g i).n) (R 3) _ _ _ _ _ _ _ _ _ _ _ _ _ _ _ _ _ _ _ _ _ _ _ w1 (BA.out.c 0) (BA.out.c 1) (BA.out.c 2) (BA.out.c 3) (H0.out.ce (j := 3) (by omega)) (Hn (H0.out.rw 3 (by omega))) (H0.out.th (j := 3) (by omega)) (Hn (H0.out.nb (j := 3) (by omega))) (Hn (fun e => XN.out (H0.out.pr 3 (by omega) _ e))) (Hn (by have := XB.out.2; omega)) (Hn (fun y hy => fix (R := lst (s.g i).n) (Least_any (s.g i) y (T0.out.1.keep hy) AT.out) rfl)) (Hn ?_)
   intro w2 tb p3 c3 hA
   obtain ⟨S1, o1, g1, k1⟩ := H0.out.ap (j := 3) (by omega) hA (lst_ok _) (by rw [HE.out.n 3 (by omega)]; have := HN.out; omega)
   have H1 := Hn o1
   have G1 := Hn g1
   have K1 := Hn k1
   have T1 := Hn (T0.out.step g1 k1)
   have BA1 := Hn (BA.out.gs g1 XN.out)
   have HNN : Hid (∀ j, j < 4 → (upR R 3 p3 c3 (lst (s.g i).n) j).n + 1 ≤ 100000) := Hn (fun j hj => by
    have h1 := HN.out
    unfold upR
    split
    ·show (R 3).n + 1 + 1 ≤ 100000
     rw [HE.out.n 3 (by omega)]
     omega
    ·rw [HE.out.n j hj]
     omega)
   clear o1 g1 k1 hA H0 BA
   have a0 := BA1.out.c 0
   have a1 := BA1.out.c 1
   have a2 := BA1.out.c 2
   have a3 := BA1.out.c 3
   simp only [List.getElem?_toArray, List.getElem?_cons_zero, List.getElem?_cons_succ] at a0 a1 a2 a3
   go_upto_region 7 with (first | (go_at_call 96; refine (fix (R := lst (s.g i).n) (Least_any (s.g i) _ T1.out.1 AT.out) rfl).mono ?_; rintro e w3 ⟨rfl, hb⟩; have B3 := Hn hb; have H2 := Hn (H1.out.keep hb); have T2 := Hn (T1.out.keep hb); clear hb a0 a1 a2 a3 H1) | (go_at_call 140; go_loud (simp only [E4.v]; refine (addGate_any _ H2.out T2.out (lst (s.g i).n) ⟨0, 0, 0, 0⟩ (lst_ok _) ok0 HNN.out).mono ?_; rintro e w4 ⟨rfl, hag⟩; have HA := Hn hag; clear hag)))
   have EN : Hid (∃ S' R', En s x (x.heap.size + 1) (i + 1) S' R' w4) := Hn (by
    obtain ⟨S', p0, c0, p1, c1, p2, c2, ho, hg, hk⟩ := HA.out
    have he := HE.out
    have gA : Gs S wr w4 := ((Gs.bl B0.out).trans G1.out Sk.refl).trans ((Gs.bl B3.out).trans hg Sk.refl) (Sk.trans Sk.refl K1.out B0.out.size)
    have kA : Sk S S' wr := Sk.trans (Sk.trans Sk.refl K1.out B0.out.size) (Sk.trans Sk.refl hk B3.out.size) (Nat.le_trans B0.out.size G1.out.size)
    have hx : ¬ S x.heap.size := fun e => Nat.lt_irrefl _ (he.nw _ e)
    have up := en_up (p3 := p3) (p0 := p0) (p1 := p1) (p2 := p2) (c3 := c3) (c0 := c0) (c1 := c1) (c2 := c2) he.n he.g
    exact ⟨S', _, ho, he.tq.step gA kA, ⟨gA.os.trans he.bl.os, gA.tape.trans he.bl.tape, gA.output.trans he.bl.output, Nat.le_trans he.bl.size gA.size, fun q hq => (gA.block q (Nat.lt_of_lt_of_le hq he.bl.size) (fun e => by have := he.nw _ e; omega)).trans (he.bl.block q hq)⟩, fun q hq => (by
     rcases kA q hq with e | e
     ·exact he.nw _ e
     ·have h9 := (Array.getElem?_eq_some_iff.1 he.rb).1
      omega), (gA.block _ (Array.getElem?_eq_some_iff.1 he.rb).1 hx).trans he.rb, up.1, up.2⟩)
   clear H2 T2 BA1 T1 G1 K1 B3 HA HNN
   go_wp2_with fail
   go_roundw
   case rel => exact ⟨i + 1, by omega, by go_num, EN.out⟩
   case measure => simp [intOf]; omega
  ·obtain rfl : i = s.n := by omega
   have lq : ¬ (s.n : Int) < (s.n : Int) := by omega
   have a0 := HE.out.ob.c4 0
   have a1 := HE.out.ob.c4 1
   have a2 := HE.out.ob.c4 2
   have a3 := HE.out.ob.c4 3
   simp only [bxR] at a0 a1 a2 a3
   have TH : Hid (wr.there x.heap.size 0 4) := Hn (there_row4 HE.out.rb)
   go_wp2_with (refine wpList_stA rfl 43 _ _ rfl x.heap.size 0 [.slice (R 0).p (R 0).n (R 0).c, .slice (R 1).p (R 1).n (R 1).c, .slice (R 2).p (R 2).n (R 2).c, .slice (R 3).p (R 3).n (R 3).c] rfl rfl TH.out i4as (by simp [Value.oneCell']) rfl ?_; intro w2 hw; have HW := Hn hw; clear hw a0 a1 a2 a3)
   have cs := World.rangeAt_setCells_same wr x.heap.size 0 [.slice (R 0).p (R 0).n (R 0).c, .slice (R 1).p (R 1).n (R 1).c, .slice (R 2).p (R 2).n (R 2).c, .slice (R 3).p (R 3).n (R 3).c] TH.out
   have gb := gb_setCells x.heap.size [.slice (R 0).p (R 0).n (R 0).c, .slice (R 1).p (R 1).n (R 1).c, .slice (R 2).p (R 2).n (R 2).c, .slice (R 3).p (R 3).n (R 3).c] 0 wr
   rw [← show w2 = wr.setCells x.heap.size 0 [.slice (R 0).p (R 0).n (R 0).c, .slice (R 1).p (R 1).n (R 1).c, .slice (R 2).p (R 2).n (R 2).c, .slice (R 3).p (R 3).n (R 3).c] from HW.out] at cs gb
   have e0 := cs 0 _ rfl
   have e1 := cs 1 _ rfl
   have e2 := cs 2 _ rfl
   have e3 := cs 3 _ rfl
   simp only [Nat.zero_add] at e0 e1 e2 e3
   have he := HE.out
   have hx : ¬ S x.heap.size := fun e => Nat.lt_irrefl _ (he.nw _ e)
   have BF : Below x.heap.size x w2 := below_tr he.bl (below_grown gb he.bl.size (fun k hk => by rw [← Option.some.inj hk]; exact Nat.le_refl _))
   refine bodyPost_ret (v := agR R) (by simp [results, Tryz.results78, go_sem, e0, e1, e2, e3, agR]) rfl ⟨S, x.heap.size + 1, R, rfl, ⟨?_, fun j hj => ⟨own_setK2 (he.ob.rw j hj).own gb he.rb (by decide), (he.ob.rw j hj).ok, (he.ob.rw j hj).n⟩, he.ob.dj, he.ob.pr, he.ob.pb, fun k hk => Nat.lt_of_lt_of_le (he.ob.lt k hk) gb.size⟩, ⟨TX.out.keep BF, he.tq.2⟩, BF, he.nw, he.n, he.g⟩
   exact (gb.block _ (he.ob.lt _ he.ob.pb) (fun e => hx (by rw [← Option.some.inj e]; exact he.ob.pb))).trans he.ob.bx
end Ci
end Go.Proofs.YtljmgfclhbadjaaGreatDoor
namespace Go.Proofs.YtljmgfclhbadjaaGreatDoor
open Go.RowKit
set_option linter.unusedVariables false
set_option linter.unusedSimpArgs false
open Cm (Wr Tm co bf Ls lf ins Eqm)
namespace Ci
set_option maxRecDepth 100000
set_option maxHeartbeats 16000000
section
variable {S : Nat → Prop} {b b' nb : Nat} {R : Nat → Sl} {x y : World}
theorem Ob.re (h : Ob S b R x) (hb : Below x.heap.size x y) (hx : y.heap[b']? = some (.cells (bxR R) 43 (0, 0))) : Ob (fun k => S k ∨ k = b') b' R y :=
 ⟨hx, fun j hj => (h.rw j hj).keep hb, h.dj, fun j hj k hk => .inl (h.pr j hj k hk), .inr rfl, fun k hk => by
  rcases hk with hk | hk
  ·exact Nat.lt_of_lt_of_le (h.lt k hk) hb.size
  ·rw [hk]; exact (Array.getElem?_eq_some_iff.1 hx).1⟩
theorem Ob.out {T : TypeId} {arr : Array Value} (h : Ob S b R x) (gb : x.grownBy y (some nb)) (hs : x.heap[nb]? = some (.cells arr T (0, 0))) (hne : 53 ≠ T) (hn : ¬ S nb) : Ob S b R y :=
 ⟨(gb.block _ (h.lt _ h.pb) (fun e => hn (by rw [← Option.some.inj e]; exact h.pb))).trans h.bx, fun j hj => ⟨own_setK2 (h.rw j hj).own gb hs hne, (h.rw j hj).ok, (h.rw j hj).n⟩, h.dj, h.pr, h.pb, fun k hk => Nat.lt_of_lt_of_le (h.lt k hk) gb.size⟩
end
def KvP (s : Sl) (x : World) (e : Ending) (w' : World) : Prop := ∃ S b R, e = .returned (fnA b) ∧ Ob S b R w' ∧ Tq S w' ∧ Below x.heap.size x w' ∧ (∀ k, S k → x.heap.size ≤ k) ∧ (∀ j, j < 4 → (R j).n = s.n) ∧ ∀ j k, j < 4 → k < s.n → (R j).g k = enG s j k
theorem Known1_any (s : Sl) (x : World) (vb : Nat) (hc : x.cell? ⟨vb, 0, none⟩ = some (.slice s.p s.n s.c)) (hs : s.at x) (hT : Tb x) (hn : s.n ≤ 1000) :
  Calls Tryz.prog 76 #[.pointer (some ⟨vb, 0, none⟩)] x fun e w' => KvP s x e w' := by
 have BL := bl_alloc x (.cells #[.nilFunc, .nilFunc, .nilFunc, .nilFunc] 109)
 have B0 := Hn BL
 have HB := Hn (heap_alloc_new x (.cells #[.nilFunc, .nilFunc, .nilFunc, .nilFunc] 109))
 have TH : Hid ((x.alloc (.cells #[.nilFunc, .nilFunc, .nilFunc, .nilFunc] 109)).there x.heap.size 0 4) := Hn (there_newM x [.nilFunc, .nilFunc, .nilFunc, .nilFunc] 109)
 have SZ : Hid (x.heap.size + 1 = (x.alloc (.cells #[.nilFunc, .nilFunc, .nilFunc, .nilFunc] 109)).heap.size) := Hn (by simp)
 have CC := Hn (bl_cellO BL hc)
 have HS := Hn (hs.keep BL)
 have TX := Hn hT
 have HN := Hn hn
 clear BL hc hs hT hn
 go_enter Tryz.func76, Tryz.ntmps76
 go_upto_region 1 with fail
 obtain ⟨x1, hx1⟩ : ∃ x1, x.alloc (.cells #[.nilFunc, .nilFunc, .nilFunc, .nilFunc] 109) = x1 := ⟨_, rfl⟩
 rw [hx1] at B0 HB TH SZ CC HS ⊢
 clear hx1
 have cc := CC.out
 have T1 := Hn (TX.out.keep B0.out)
 go_wp2_with (first | (go_at_call 78; refine (entries_any s _ HS.out T1.out HN.out).mono ?_; rintro e w1 ⟨S, b, R, rfl, ho, hq, hb, hnw, hn, hg⟩; have HO := Hn ho; have HQ := Hn hq; have H1 := Hn hb; have HW := Hn hnw; have HGN := Hn (And.intro hn hg); clear ho hq hb hnw hn hg cc) | (go_at_call 77; refine (known_any (R := R) _).mono ?_; rintro e w2 ⟨b', rfl, hle, hx, hb⟩; have HX := Hn hx; have HL := Hn hle; have H2 := Hn hb; clear hx hb hle) | (refine wpList_stA rfl 109 _ _ rfl x.heap.size 0 [fn1 b', fn2 b', fn3 b', fn4 b'] rfl rfl (there_bl (there_bl TH.out H1.out) H2.out) i4nu (by simp [Value.oneCell', fn1, fn2, fn3, fn4]) rfl ?_; intro w3 hw; have HWW := Hn hw; clear hw))
 have cs := World.rangeAt_setCells_same w2 x.heap.size 0 [fn1 b', fn2 b', fn3 b', fn4 b'] (there_bl (there_bl TH.out H1.out) H2.out)
 have gb := gb_setCells x.heap.size [fn1 b', fn2 b', fn3 b', fn4 b'] 0 w2
 rw [← show w3 = w2.setCells x.heap.size 0 [fn1 b', fn2 b', fn3 b', fn4 b'] from HWW.out] at cs gb
 have e0 := cs 0 _ rfl
 have e1 := cs 1 _ rfl
 have e2 := cs 2 _ rfl
 have e3 := cs 3 _ rfl
 simp only [Nat.zero_add] at e0 e1 e2 e3
 have hl := (Array.getElem?_eq_some_iff.1 HB.out).1
 have hb1 : w2.heap[x.heap.size]? = _ := (H2.out.block x.heap.size (Nat.lt_of_lt_of_le hl H1.out.size)).trans ((H1.out.block x.heap.size hl).trans HB.out)
 have hle := HL.out
 have h1s := H1.out.size
 have szo := SZ.out
 have hnw := HW.out
 have BF : Below x.heap.size x w3 := below_tr (below_tr B0.out (below_tr (H1.out.mono B0.out.size) (H2.out.mono (by omega)))) (below_grown gb (by have := H2.out.size; omega) (fun k hk => by rw [← Option.some.inj hk]; exact Nat.le_refl _))
 have OB := (HO.out.re H2.out HX.out).out gb hb1 (by decide) (fun e => by
  rcases e with e | e
  ·have := hnw _ e; omega
  ·omega)
 have tl := World.block_lt_of_cell? x _ TX.out.1
 refine bodyPost_ret (v := fnA b') (by simp [results, Tryz.results76, go_sem, e0, e1, e2, e3, fnA]) rfl ⟨_, b', R, rfl, OB, ⟨TX.out.keep BF, fun e => by
  rcases e with e | e
  ·exact HQ.out.2 e
  ·simp only at tl
   omega⟩, BF, fun k e => by
  rcases e with e | e
  ·have := hnw _ e; omega
  ·omega, HGN.out.1, HGN.out.2⟩
end Ci
end Go.Proofs.YtljmgfclhbadjaaGreatDoor
namespace Go.Proofs.YtljmgfclhbadjaaGreatDoor
open Go.RowKit
set_option linter.unusedVariables false
set_option linter.unusedSimpArgs false
open Cm (Wr Tm co bf Ls lf ins Eqm)
namespace Ci
set_option maxRecDepth 100000
set_option maxHeartbeats 16000000
structure Dz (S : Nat → Prop) (d m K : Nat) (Q : List (List Tm)) (q b : Nat) (vv : Value) (vs : List Value) (R : Nat → Sl) (e : Int) (x : World) : Prop where
 hd : x.heap[d]? = some (.cells #[.pointer (some ⟨q, 0, none⟩), fn1 b, fn2 b, fn3 b, fn4 b, .int .i64 e] 111 (0, 0))
 sy : Sy 0 x q m K vv vs Q
 wk : Wk m K Q
 ob : Ob S b R x
 tq : Tq S x
 pd : S d
 pq : S q
 pv : ∀ k, vv.ownBlock = some k → S k
def NdP (m : Nat) (s : Sl) (x : World) (e : Ending) (w' : World) : Prop := ∃ S d q b vv vs R, e = .returned (.tuple #[.pointer (some ⟨d, 0, none⟩), .int .i64 0]) ∧ Dz S d m m (enl m) q b vv vs R 0 w' ∧ Below x.heap.size x w' ∧ (∀ k, S k → x.heap.size ≤ k) ∧ (∀ j, j < 4 → (R j).n = s.n) ∧ (∀ j k, j < 4 → k < s.n → (R j).g k = enG s j k) ∧ ∀ u ∈ vs, ∀ k, u.ownBlock = some k → x.heap.size ≤ k
theorem Ob.more {S S' : Nat → Prop} {b : Nat} {R : Nat → Sl} {x : World} (h : Ob S b R x) (h1 : ∀ k, S k → S' k) (h2 : ∀ k, S' k → k < x.heap.size) : Ob S' b R x := ⟨h.bx, h.rw, h.dj, fun j hj k hk => h1 k (h.pr j hj k hk), h1 b h.pb, h2⟩
theorem Sy.zero {base : Nat} {w : World} {s m Kg : Nat} {v : Value} {vs : List Value} {Q : List (List Tm)} (h : Sy base w s m Kg v vs Q) : Sy 0 w s m Kg v vs Q := ⟨h.h, own_lower h.row (Nat.zero_le _), h.ls, Nat.zero_le _, h.sm⟩
theorem newDesk_any (m : Nat) (hm : m ≤ 16) (hk : Wk m m (enl m)) (s : Sl) (x : World) (vb : Nat) (hc : x.cell? ⟨vb, 0, none⟩ = some (.slice s.p s.n s.c)) (hs : s.at x) (hT : Tb x) (hn : s.n ≤ 1000) :
  Calls Tryz.prog 75 #[.int .i64 (m : Int), .func (.func 76) #[] #[.pointer (some ⟨vb, 0, none⟩)]] x fun e w' => NdP m s x e w' := by
 have CN := Hn (New_anyA m x hT hm)
 have HC := Hn hc
 have HS := Hn hs
 have TX := Hn hT
 have HN := Hn hn
 have HK := Hn hk
 clear hc hs hT hn hk
 go_enter Tryz.func75, Tryz.ntmps75
 go_upto_region 4 with (go_at_call 136; refine CN.out.mono ?_; rintro e w1 ⟨rfl, hnu⟩; have NU := Hn hnu; clear hnu CN)
 obtain ⟨Pv, cv, vs, sy1, bl1, vn⟩ := NU.out
 have VN := Hn vn
 have CF := Hn (Known1_any s w1 vb (bl_cellO bl1 HC.out) (HS.out.keep bl1) (TX.out.keep bl1) HN.out)
 have S1 := Hn sy1
 have B1 := Hn bl1
 clear sy1 bl1 NU vn
 go_wp2_with (go_at_call 76; refine CF.out.mono ?_; rintro e w2 ⟨S, b, R, rfl, ho, hq, hb, hnw, hn, hg⟩; have HO := Hn ho; have HQ := Hn hq; have B2 := Hn hb; have HW := Hn hnw; have HGN := Hn (And.intro hn hg); clear ho hq hb hnw hn hg CF; simp only [fnA])
 have BD := bl_alloc w2 (.cells #[.pointer (some ⟨x.heap.size, 0, none⟩), fn1 b, fn2 b, fn3 b, fn4 b, .int .i64 0] 111)
 have hd := heap_alloc_new w2 (.cells #[.pointer (some ⟨x.heap.size, 0, none⟩), fn1 b, fn2 b, fn3 b, fn4 b, .int .i64 0] 111)
 have ns : (w2.alloc (.cells #[.pointer (some ⟨x.heap.size, 0, none⟩), fn1 b, fn2 b, fn3 b, fn4 b, .int .i64 0] 111)).heap.size = w2.heap.size + 1 := by simp
 obtain ⟨w3, hw3⟩ : ∃ w3, w2.alloc (.cells #[.pointer (some ⟨x.heap.size, 0, none⟩), fn1 b, fn2 b, fn3 b, fn4 b, .int .i64 0] 111) = w3 := ⟨_, rfl⟩
 rw [hw3] at BD hd ns ⊢
 clear hw3
 have b1 := B1.out.size
 have b2 := B2.out.size
 have sy3 := (S1.out.keep B2.out).keep BD
 have BF : Below x.heap.size x w3 := below_tr B1.out (below_tr (B2.out.mono b1) (BD.mono (by omega)))
 have o3 := HO.out.keep BD
 have hnw := HW.out
 have vl : ∀ k, (Value.slice Pv m cv).ownBlock = some k → x.heap.size ≤ k ∧ k < w3.heap.size := fun k e => sy3.row.lt k e
 have ql : x.heap.size < w3.heap.size := (Array.getElem?_eq_some_iff.1 sy3.h).1
 have tl := World.block_lt_of_cell? x _ TX.out.1
 simp only at tl
 have ge : ∀ k, (S k ∨ k = w2.heap.size ∨ k = x.heap.size ∨ (Value.slice Pv m cv).ownBlock = some k) → x.heap.size ≤ k ∧ k < w3.heap.size := fun k e => by
  rcases e with e | e | e | e
  ·have h1 := hnw k e
   have h2 := o3.lt k e
   omega
  ·omega
  ·omega
  ·exact vl k e
 refine bodyPost_ret (v := .tuple #[.pointer (some ⟨w2.heap.size, 0, none⟩), .int .i64 0]) (by simp [results, Tryz.results75, go_sem]) rfl ⟨fun k => S k ∨ k = w2.heap.size ∨ k = x.heap.size ∨ (Value.slice Pv m cv).ownBlock = some k, w2.heap.size, x.heap.size, b, .slice Pv m cv, vs, R, rfl, ⟨hd, sy3.zero, HK.out, o3.more (fun k h => .inl h) (fun k h => (ge k h).2), ⟨TX.out.keep BF, fun h => by
  have := (ge _ h).1
  omega⟩, .inr (.inl rfl), .inr (.inr (.inl rfl)), fun k h => .inr (.inr (.inr h))⟩, BF, fun k h => (ge k h).1, HGN.out.1, HGN.out.2, VN.out⟩
theorem Known_any (s : Sl) (hm : s.n ≤ 16) (hk : Wk s.n s.n (enl s.n)) (x : World) (hs : s.at x) (hT : Tb x) :
  Calls Tryz.prog 30 #[.slice s.p s.n s.c] x fun e w' => NdP s.n s x e w' := by
 have BL := bl_alloc x (.cells #[.slice s.p s.n s.c] 41)
 have CC := Hn (show (x.alloc (.cells #[.slice s.p s.n s.c] 41)).cell? ⟨x.heap.size, 0, none⟩ = some (.slice s.p s.n s.c) from cell_of_row _ _ 0 _ _ (0, 0) (heap_alloc_new x _))
 have CN := Hn (newDesk_any s.n hm hk s _ x.heap.size CC.out (hs.keep BL) (hT.keep BL) (by omega))
 have B0 := Hn BL
 clear BL hs hT hk
 go_enter Tryz.func30, Tryz.ntmps30
 go_wp2_with (go_at_call 75; refine CN.out.mono ?_; rintro e w1 ⟨S, d, q, b, vv, vs, R, rfl, hz, hb, hS, hn, hg, hv⟩; have HV := Hn hv; have HZ := Hn hz; have H1 := Hn hb; have HG := Hn (And.intro hS (And.intro hn hg)); clear hz hb hS hn hg hv CN)
 have b0 := B0.out.size
 exact bodyPost_ret (v := .tuple #[.pointer (some ⟨d, 0, none⟩), .int .i64 0]) (by simp [results, Tryz.results30, go_sem]) rfl ⟨S, d, q, b, vv, vs, R, rfl, HZ.out, below_tr B0.out (H1.out.mono b0), fun k h => Nat.le_trans b0 (HG.out.1 k h), HG.out.2.1, HG.out.2.2, fun u hu k hk => Nat.le_trans b0 (HV.out u hu k hk)⟩
end Ci
end Go.Proofs.YtljmgfclhbadjaaGreatDoor
namespace Go.Proofs.YtljmgfclhbadjaaGreatDoor
open Go.RowKit
set_option linter.unusedVariables false
set_option linter.unusedSimpArgs false
open Cm (Wr Tm co bf Ls lf ins Eqm)
namespace Ci
set_option maxRecDepth 100000
set_option maxHeartbeats 16000000
section
variable {S : Nat → Prop} {d m K q b : Nat} {Q : List (List Tm)} {vv : Value} {vs : List Value} {R : Nat → Sl} {e : Int} {x y : World}
theorem Dz.keep (h : Dz S d m K Q q b vv vs R e x) (hb : Below x.heap.size x y) : Dz S d m K Q q b vv vs R e y :=
 ⟨(hb.block d (h.ob.lt d h.pd)).trans h.hd, h.sy.keep hb, h.wk, h.ob.keep hb, h.tq.keep hb, h.pd, h.pq, h.pv⟩
theorem Dz.c (h : Dz S d m K Q q b vv vs R e x) (j : Nat) : x.cell? ⟨d, j, none⟩ = (#[.pointer (some ⟨q, 0, none⟩), fn1 b, fn2 b, fn3 b, fn4 b, .int .i64 e] : Array Value)[j]? := cell_of_row x d j _ _ (0, 0) h.hd
theorem dnone_any (h : Dz S d m K Q q b vv vs R e x) :
  Calls Tryz.prog 41 #[.pointer (some ⟨d, 0, none⟩)] x fun e' w' => e' = .returned (.bool false) ∧ w' = x := by
 have c0 := h.c 0
 clear h
 go_enter Tryz.func41, Tryz.ntmps41
 go_wp2_with fail
 exact bodyPost_ret (v := .bool false) (by simp [results, Tryz.results41, go_sem]) rfl ⟨rfl, rfl⟩
theorem dassign_any (h : Dz S d m K Q q b vv vs R e x) :
  Calls Tryz.prog 16 #[.pointer (some ⟨d, 0, none⟩)] x fun e' w' => K3P R x e' w' := by
 have BL := bl_alloc x (.cells #[.slice none 0 0, .slice none 0 0, .slice none 0 0, .slice none 0 0] 43)
 have H0 := Hn (h.keep BL)
 have TH : Hid ((x.alloc (.cells #[.slice none 0 0, .slice none 0 0, .slice none 0 0, .slice none 0 0] 43)).there x.heap.size 0 4) := Hn (there_newM x [.slice none 0 0, .slice none 0 0, .slice none 0 0, .slice none 0 0] 43)
 have HB := Hn (heap_alloc_new x (.cells #[.slice none 0 0, .slice none 0 0, .slice none 0 0, .slice none 0 0] 43))
 have B0 := Hn BL
 clear h BL
 go_enter Tryz.func16, Tryz.ntmps16
 go_upto_region 1 with fail
 obtain ⟨x1, hx1⟩ : ∃ x1, x.alloc (.cells #[.slice none 0 0, .slice none 0 0, .slice none 0 0, .slice none 0 0] 43) = x1 := ⟨_, rfl⟩
 rw [hx1] at H0 TH HB B0 ⊢
 clear hx1
 have c3 := H0.out.c 3
 simp only [fn3] at c3
 go_wp2_with (first | (go_at_call 41; refine (dnone_any H0.out).mono ?_; rintro e' w1 ⟨rfl, rfl⟩) | (go_at_call 141; refine (known3_any _ H0.out.ob).mono ?_; rintro e' w2 ⟨R', rfl, rc, hb⟩; have RC := Hn rc; have B2 := Hn hb; clear hb rc c3; simp only [agR]) | (refine wpList_stA rfl 43 _ _ rfl x.heap.size 0 [.slice (R' 0).p (R' 0).n (R' 0).c, .slice (R' 1).p (R' 1).n (R' 1).c, .slice (R' 2).p (R' 2).n (R' 2).c, .slice (R' 3).p (R' 3).n (R' 3).c] rfl rfl (there_bl TH.out B2.out) i4as (by simp [Value.oneCell']) rfl ?_; intro w3 hw; have HW := Hn hw; clear hw))
 have cs := World.rangeAt_setCells_same w2 x.heap.size 0 [.slice (R' 0).p (R' 0).n (R' 0).c, .slice (R' 1).p (R' 1).n (R' 1).c, .slice (R' 2).p (R' 2).n (R' 2).c, .slice (R' 3).p (R' 3).n (R' 3).c] (there_bl TH.out B2.out)
 have gb := gb_setCells x.heap.size [.slice (R' 0).p (R' 0).n (R' 0).c, .slice (R' 1).p (R' 1).n (R' 1).c, .slice (R' 2).p (R' 2).n (R' 2).c, .slice (R' 3).p (R' 3).n (R' 3).c] 0 w2
 rw [← show w3 = w2.setCells x.heap.size 0 [.slice (R' 0).p (R' 0).n (R' 0).c, .slice (R' 1).p (R' 1).n (R' 1).c, .slice (R' 2).p (R' 2).n (R' 2).c, .slice (R' 3).p (R' 3).n (R' 3).c] from HW.out] at cs gb
 have e0 := cs 0 _ rfl
 have e1 := cs 1 _ rfl
 have e2 := cs 2 _ rfl
 have e3 := cs 3 _ rfl
 simp only [Nat.zero_add] at e0 e1 e2 e3
 have b0 := B0.out.size
 have b2 := B2.out.size
 have hb1 : w2.heap[x.heap.size]? = _ := (B2.out.block x.heap.size (Array.getElem?_eq_some_iff.1 HB.out).1).trans HB.out
 refine bodyPost_ret (v := .tuple #[agR R', .bool true]) (by simp [results, Tryz.results16, go_sem, e0, e1, e2, e3, agR]) rfl ⟨R', rfl, (RC.out.low b0).set gb hb1 (by decide), ?_⟩
 exact below_tr (below_tr B0.out (B2.out.mono b0)) (below_grown gb (by omega) (fun k hk => by rw [← Option.some.inj hk]; exact Nat.le_refl _))
end
end Ci
end Go.Proofs.YtljmgfclhbadjaaGreatDoor
