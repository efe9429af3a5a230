import Derived.Test.YtljmgfclhbadjaaGreatDoorTk
import Derived.Test.YtljmgfclhbadjaaGreatDoorDkg
namespace Go.Proofs.YtljmgfclhbadjaaGreatDoor
open Go.RowKit
set_option linter.unusedVariables false
set_option linter.unusedSimpArgs false
open Cm (Wr Tm co bf Ls lf ins Eqm)
namespace Ci
set_option maxRecDepth 100000
set_option maxHeartbeats 16000000
structure Rc (base : Nat) (R R' : Nat → Sl) (x : World) : Prop where
 own : ∀ j, j < 4 → x.ownsRow base 53 4 (R' j).v (R' j).n (s4s (R' j).n (R' j).g)
 dj : ∀ i j, i < 4 → j < 4 → i ≠ j → Dj (R' i).v (R' j).v
 n : ∀ j, j < 4 → (R' j).n = (R j).n
 g : ∀ j, j < 4 → (R' j).g = (R j).g
def agR (R : Nat → Sl) : Value := .agg #[.slice (R 0).p (R 0).n (R 0).c, .slice (R 1).p (R 1).n (R 1).c, .slice (R 2).p (R 2).n (R 2).c, .slice (R 3).p (R 3).n (R 3).c]
def CpA (R : Nat → Sl) (x : World) (e : Ending) (w' : World) : Prop := ∃ R', e = .returned (agR R') ∧ Rc x.heap.size R R' w' ∧ Below x.heap.size x w'
def mk4 (R : Nat → Sl) (P0 : Option Addr) (c0 : Nat) (P1 : Option Addr) (c1 : Nat) (P2 : Option Addr) (c2 : Nat) (P3 : Option Addr) (c3 : Nat) : Nat → Sl
 | 0 => ⟨P0, (R 0).n, c0, (R 0).g⟩
 | 1 => ⟨P1, (R 1).n, c1, (R 1).g⟩
 | 2 => ⟨P2, (R 2).n, c2, (R 2).g⟩
 | 3 => ⟨P3, (R 3).n, c3, (R 3).g⟩
 | j => R j
theorem own_setK2 {w w' : World} {base' sz nb : Nat} {e T : TypeId} {u : Value} {n : Nat} {xs : List Value} {arr : Array Value} (ho : w.ownsRow base' e sz u n xs) (hg : w.grownBy w' (some nb)) (hs : w.heap[nb]? = some (.cells arr T (0, 0))) (hne : e ≠ T) : w'.ownsRow base' e sz u n xs := ho.kept hg (by
 cases hq : u.ownBlock with
 | none => exact .inl rfl
 | some k => exact .inr (fun e9 => box_kd ho hs hne (by rw [hq, ← e9])))
theorem copied_any {R : Nat → Sl} (x : World) (h : ∀ j, j < 4 → Ro x (R j)) :
  Calls Tryz.prog 142 #[.agg #[.slice (R 0).p (R 0).n (R 0).c, .slice (R 1).p (R 1).n (R 1).c, .slice (R 2).p (R 2).n (R 2).c, .slice (R 3).p (R 3).n (R 3).c]] x fun e w' => CpA R x e w' := by
 have BL := bl_alloc2 x (.cells #[.slice (R 0).p (R 0).n (R 0).c, .slice (R 1).p (R 1).n (R 1).c, .slice (R 2).p (R 2).n (R 2).c, .slice (R 3).p (R 3).n (R 3).c] 43) (.cells #[.slice none 0 0, .slice none 0 0, .slice none 0 0, .slice none 0 0] 43)
 have RO := Hn (fun j hj => (h j hj).keep BL)
 have B0 := Hn BL
 clear h BL
 have CA := Hn (fun j => cell_of_row ((x.alloc (.cells #[.slice (R 0).p (R 0).n (R 0).c, .slice (R 1).p (R 1).n (R 1).c, .slice (R 2).p (R 2).n (R 2).c, .slice (R 3).p (R 3).n (R 3).c] 43)).alloc (.cells #[.slice none 0 0, .slice none 0 0, .slice none 0 0, .slice none 0 0] 43)) x.heap.size j _ _ (0, 0) ((heap_alloc_old _ _ (by simp)).trans (heap_alloc_new x _)))
 have HB := Hn (heap_alloc_new (x.alloc (.cells #[.slice (R 0).p (R 0).n (R 0).c, .slice (R 1).p (R 1).n (R 1).c, .slice (R 2).p (R 2).n (R 2).c, .slice (R 3).p (R 3).n (R 3).c] 43)) (.cells #[.slice none 0 0, .slice none 0 0, .slice none 0 0, .slice none 0 0] 43))
 have TH : Hid (((x.alloc (.cells #[.slice (R 0).p (R 0).n (R 0).c, .slice (R 1).p (R 1).n (R 1).c, .slice (R 2).p (R 2).n (R 2).c, .slice (R 3).p (R 3).n (R 3).c] 43)).alloc (.cells #[.slice none 0 0, .slice none 0 0, .slice none 0 0, .slice none 0 0] 43)).there (x.alloc (.cells #[.slice (R 0).p (R 0).n (R 0).c, .slice (R 1).p (R 1).n (R 1).c, .slice (R 2).p (R 2).n (R 2).c, .slice (R 3).p (R 3).n (R 3).c] 43)).heap.size 0 4) := Hn (there_newM (x.alloc (.cells #[.slice (R 0).p (R 0).n (R 0).c, .slice (R 1).p (R 1).n (R 1).c, .slice (R 2).p (R 2).n (R 2).c, .slice (R 3).p (R 3).n (R 3).c] 43)) [.slice none 0 0, .slice none 0 0, .slice none 0 0, .slice none 0 0] 43)
 have SZ : Hid ((x.alloc (.cells #[.slice (R 0).p (R 0).n (R 0).c, .slice (R 1).p (R 1).n (R 1).c, .slice (R 2).p (R 2).n (R 2).c, .slice (R 3).p (R 3).n (R 3).c] 43)).heap.size = x.heap.size + 1) := Hn (by simp)
 go_enter Tryz.func142, Tryz.ntmps142
 go_upto_region 1 with fail
 rw [SZ.out] at HB TH
 obtain ⟨x1, hx1⟩ : ∃ x1, (x.alloc (.cells #[.slice (R 0).p (R 0).n (R 0).c, .slice (R 1).p (R 1).n (R 1).c, .slice (R 2).p (R 2).n (R 2).c, .slice (R 3).p (R 3).n (R 3).c] 43)).alloc (.cells #[.slice none 0 0, .slice none 0 0, .slice none 0 0, .slice none 0 0] 43) = x1 := ⟨_, rfl⟩
 obtain ⟨xb, hxb⟩ : ∃ xb, x.heap.size + 1 = xb := ⟨_, rfl⟩
 have XB : Hid (x.heap.size ≤ xb) := Hn (by omega)
 rw [hx1] at RO B0 CA HB TH ⊢
 rw [hxb] at HB TH ⊢
 clear hx1 hxb SZ
 refine cpy1 _ x.heap.size xb R _ _ _ _ _ _ _ _ _ _ _ _ _ _ x1 ⟨CA.out 0, CA.out 1, CA.out 2, CA.out 3, RO.out 0 (by omega), RO.out 1 (by omega), RO.out 2 (by omega), RO.out 3 (by omega), TH.out⟩ (Hn ?_)
 intro wz P0 c0 P1 c1 P2 c2 P3 c3 hC
 obtain ⟨w1, h1, o0, o1, o2, o3, d01, d02, d03, d12, d13, d23, hw⟩ := hC
 have cs := World.rangeAt_setCells_same w1 xb 0 [.slice P0 (R 0).n c0, .slice P1 (R 1).n c1, .slice P2 (R 2).n c2, .slice P3 (R 3).n c3] (there_bl TH.out h1)
 rw [← hw] at cs
 have hb1 : w1.heap[xb]? = some (.cells #[.slice none 0 0, .slice none 0 0, .slice none 0 0, .slice none 0 0] 43 (0, 0)) := (h1.block xb (Array.getElem?_eq_some_iff.1 HB.out).1).trans HB.out
 have gb := gb_setCells xb [.slice P0 (R 0).n c0, .slice P1 (R 1).n c1, .slice P2 (R 2).n c2, .slice P3 (R 3).n c3] 0 w1
 rw [← hw] at gb
 have BF := Hn (below_tr (below_tr B0.out (h1.mono B0.out.size)) (below_grown gb (Nat.le_trans B0.out.size h1.size) (fun k hk => by rw [← Option.some.inj hk]; exact XB.out)))
 have RC : Hid (Rc x.heap.size R (mk4 R P0 c0 P1 c1 P2 c2 P3 c3) wz) := Hn (by
  refine ⟨fun j hj => ?_, fun i j hi hj hne => ?_, fun j hj => ?_, fun j hj => ?_⟩
  ·match j, hj with
   | 0, _ => exact own_lower (own_setK2 o0 gb hb1 (by decide)) B0.out.size
   | 1, _ => exact own_lower (own_setK2 o1 gb hb1 (by decide)) B0.out.size
   | 2, _ => exact own_lower (own_setK2 o2 gb hb1 (by decide)) B0.out.size
   | 3, _ => exact own_lower (own_setK2 o3 gb hb1 (by decide)) B0.out.size
  ·match i, j, hi, hj, hne with
   | 0, 1, _, _, _ => exact d01
   | 0, 2, _, _, _ => exact d02
   | 0, 3, _, _, _ => exact d03
   | 1, 2, _, _, _ => exact d12
   | 1, 3, _, _, _ => exact d13
   | 2, 3, _, _, _ => exact d23
   | 1, 0, _, _, _ => exact d01.symm
   | 2, 0, _, _, _ => exact d02.symm
   | 3, 0, _, _, _ => exact d03.symm
   | 2, 1, _, _, _ => exact d12.symm
   | 3, 1, _, _, _ => exact d13.symm
   | 3, 2, _, _, _ => exact d23.symm
   | 0, 0, _, _, h => exact absurd rfl h
   | 1, 1, _, _, h => exact absurd rfl h
   | 2, 2, _, _, h => exact absurd rfl h
   | 3, 3, _, _, h => exact absurd rfl h
  ·match j, hj with
   | 0, _ => rfl
   | 1, _ => rfl
   | 2, _ => rfl
   | 3, _ => rfl
  ·match j, hj with
   | 0, _ => rfl
   | 1, _ => rfl
   | 2, _ => rfl
   | 3, _ => rfl)
 have e0 := Hn (cs 0 _ rfl)
 have e1 := Hn (cs 1 _ rfl)
 have e2 := Hn (cs 2 _ rfl)
 have e3 := Hn (cs 3 _ rfl)
 clear cs hb1 gb h1 o0 o1 o2 o3 d01 d02 d03 d12 d13 d23 hw
 go_wp2_with fail
 have e0 := e0.out
 have e1 := e1.out
 have e2 := e2.out
 have e3 := e3.out
 simp only [Nat.zero_add] at e0 e1 e2 e3
 refine bodyPost_ret (v := agR (mk4 R P0 c0 P1 c1 P2 c2 P3 c3)) (by simp [results, Tryz.results142, go_sem, e0, e1, e2, e3, agR, mk4]) rfl ⟨mk4 R P0 c0 P1 c1 P2 c2 P3 c3, rfl, RC.out, BF.out⟩
end Ci
end Go.Proofs.YtljmgfclhbadjaaGreatDoor
namespace Go.Proofs.YtljmgfclhbadjaaGreatDoor
open Go.RowKit
set_option linter.unusedVariables false
set_option linter.unusedSimpArgs false
open Cm (Wr Tm co bf Ls lf ins Eqm)
namespace Ci
set_option maxRecDepth 100000
set_option maxHeartbeats 16000000
def bxR (R : Nat → Sl) : Array Value := #[.slice (R 0).p (R 0).n (R 0).c, .slice (R 1).p (R 1).n (R 1).c, .slice (R 2).p (R 2).n (R 2).c, .slice (R 3).p (R 3).n (R 3).c]
def fnA (b : Nat) : Value := .agg #[fn1 b, fn2 b, fn3 b, fn4 b]
def KnP (R : Nat → Sl) (x : World) (e : Ending) (w' : World) : Prop := ∃ b, e = .returned (fnA b) ∧ x.heap.size ≤ b ∧ w'.heap[b]? = some (.cells (bxR R) 43 (0, 0)) ∧ Below x.heap.size x w'
theorem wpList_stA {P : Program} {ops : Array Oper} {rest : List Oper} {op : Oper} {a : Act} {w : World} {Q : Exit → Act → World → Prop} (hgd : op.guard = none) (ty : TypeId) (x y : Operand) (ho : op.op = .store ty x y) (b o : Nat) (cs : List Value) (hx : a.eval x = .pointer (some ⟨b, o, none⟩)) (hy : a.eval y = .agg cs.toArray) (ht : w.there b o cs.length) (hi : (P.info? ty).map (·.size) = some cs.length) (h1 : cs.toArray.all (·.oneCell') = true) (hd : op.dst = none)
  (h : ∀ w', w' = w.setCells b o cs → wpList P ops Q rest a w') : wpList P ops Q (op :: rest) a w :=
 wpList_plain hgd fun K hK => wp_storeE ty x y ho b o cs hx hy ht hi h1 hd (fun w' hw => hK _ _ (h w' hw))
theorem i4nu : (Tryz.prog.info? 109).map (·.size) = some 4 := by kernel_rfl
theorem known_any {R : Nat → Sl} (x : World) :
  Calls Tryz.prog 77 #[.agg #[.slice (R 0).p (R 0).n (R 0).c, .slice (R 1).p (R 1).n (R 1).c, .slice (R 2).p (R 2).n (R 2).c, .slice (R 3).p (R 3).n (R 3).c]] x fun e w' => KnP R x e w' := by
 have TH : Hid (((x.alloc (.cells (bxR R) 43)).alloc (.cells #[.nilFunc, .nilFunc, .nilFunc, .nilFunc] 109)).there (x.heap.size + 1) 0 4) := Hn (by
  have h := there_newM (x.alloc (.cells (bxR R) 43)) [.nilFunc, .nilFunc, .nilFunc, .nilFunc] 109
  have e : (x.alloc (.cells (bxR R) 43)).heap.size = x.heap.size + 1 := by simp
  rw [e] at h
  exact h)
 have HB : Hid (((x.alloc (.cells (bxR R) 43)).alloc (.cells #[.nilFunc, .nilFunc, .nilFunc, .nilFunc] 109)).heap[x.heap.size]? = some (.cells (bxR R) 43 (0, 0))) := Hn ((heap_alloc_old _ _ (by simp)).trans (heap_alloc_new x _))
 have B0 := Hn (bl_alloc2 x (.cells (bxR R) 43) (.cells #[.nilFunc, .nilFunc, .nilFunc, .nilFunc] 109))
 go_enter Tryz.func77, Tryz.ntmps77
 go_wp2_with (refine wpList_stA rfl 109 _ _ rfl (x.heap.size + 1) 0 [fn1 x.heap.size, fn2 x.heap.size, fn3 x.heap.size, fn4 x.heap.size] rfl rfl TH.out i4nu (by simp [Value.oneCell', fn1, fn2, fn3, fn4]) rfl ?_; intro w1 hw; have HW := Hn hw; clear hw)
 have cs := World.rangeAt_setCells_same _ (x.heap.size + 1) 0 [fn1 x.heap.size, fn2 x.heap.size, fn3 x.heap.size, fn4 x.heap.size] TH.out
 have gb := gb_setCells (x.heap.size + 1) [fn1 x.heap.size, fn2 x.heap.size, fn3 x.heap.size, fn4 x.heap.size] 0 ((x.alloc (.cells (bxR R) 43)).alloc (.cells #[.nilFunc, .nilFunc, .nilFunc, .nilFunc] 109))
 have e0 := cs 0 _ rfl
 have e1 := cs 1 _ rfl
 have e2 := cs 2 _ rfl
 have e3 := cs 3 _ rfl
 have hw : w1 = _ := HW.out
 rw [← show w1 = ((x.alloc (.cells (bxR R) 43)).alloc (.cells #[.nilFunc, .nilFunc, .nilFunc, .nilFunc] 109)).setCells (x.heap.size + 1) 0 [fn1 x.heap.size, fn2 x.heap.size, fn3 x.heap.size, fn4 x.heap.size] from HW.out] at e0 e1 e2 e3 gb
 simp only [Nat.zero_add] at e0 e1 e2 e3
 refine bodyPost_ret (v := fnA x.heap.size) (by simp [results, Tryz.results77, go_sem, e0, e1, e2, e3, fnA]) rfl ⟨x.heap.size, rfl, Nat.le_refl _, ?_, ?_⟩
 ·rw [gb.block _ (Array.getElem?_eq_some_iff.1 HB.out).1 (fun e => by have := Option.some.inj e; omega)]
  exact HB.out
 ·exact below_tr B0.out (below_grown gb B0.out.size (fun k hk => by rw [← Option.some.inj hk]; omega))
end Ci
end Go.Proofs.YtljmgfclhbadjaaGreatDoor
namespace Go.Proofs.YtljmgfclhbadjaaGreatDoor
open Go.RowKit
set_option linter.unusedVariables false
set_option linter.unusedSimpArgs false
open Cm (Wr Tm co bf Ls lf ins Eqm)
namespace Ci
set_option maxRecDepth 100000
set_option maxHeartbeats 16000000
section
variable {base base' : Nat} {S : Nat → Prop} {b : Nat} {R R' : Nat → Sl} {x y : World}
theorem Rc.low (h : Rc base R R' x) (hb : base' ≤ base) : Rc base' R R' x := ⟨fun j hj => own_lower (h.own j hj) hb, h.dj, h.n, h.g⟩
theorem Rc.keep (h : Rc base R R' x) (hb : Below x.heap.size x y) : Rc base R R' y := ⟨fun j hj => own_keepT (h.own j hj) hb, h.dj, h.n, h.g⟩
theorem Rc.set {nb : Nat} {T : TypeId} {arr : Array Value} (h : Rc base R R' x) (hg : x.grownBy y (some nb)) (hs : x.heap[nb]? = some (.cells arr T (0, 0))) (hne : 53 ≠ T) : Rc base R R' y := ⟨fun j hj => own_setK2 (h.own j hj) hg hs hne, h.dj, h.n, h.g⟩
theorem Ob.c4 (h : Ob S b R x) (j : Nat) : x.cell? ⟨b, j, none⟩ = (bxR R)[j]? := cell_of_row x b j _ _ (0, 0) h.bx
end
def K3P (R : Nat → Sl) (x : World) (e : Ending) (w' : World) : Prop := ∃ R', e = .returned (.tuple #[agR R', .bool true]) ∧ Rc x.heap.size R R' w' ∧ Below x.heap.size x w'
theorem known3_any {S : Nat → Prop} {b : Nat} {R : Nat → Sl} (x : World) (h : Ob S b R x) :
  Calls Tryz.prog 141 #[.pointer (some ⟨b, 0, none⟩)] x fun e w' => K3P R x e w' := by
 have BL := bl_alloc x (.cells #[.slice none 0 0, .slice none 0 0, .slice none 0 0, .slice none 0 0] 43)
 have H0 := Hn (h.keep BL)
 have B0 := Hn BL
 have HB := Hn (heap_alloc_new x (.cells #[.slice none 0 0, .slice none 0 0, .slice none 0 0, .slice none 0 0] 43))
 have TH : Hid ((x.alloc (.cells #[.slice none 0 0, .slice none 0 0, .slice none 0 0, .slice none 0 0] 43)).there x.heap.size 0 4) := Hn (there_newM x [.slice none 0 0, .slice none 0 0, .slice none 0 0, .slice none 0 0] 43)
 have SZ : Hid (x.heap.size + 1 = (x.alloc (.cells #[.slice none 0 0, .slice none 0 0, .slice none 0 0, .slice none 0 0] 43)).heap.size) := Hn (by simp)
 clear h BL
 go_enter Tryz.func141, Tryz.ntmps141
 go_upto_region 1 with fail
 obtain ⟨x1, hx1⟩ : ∃ x1, x.alloc (.cells #[.slice none 0 0, .slice none 0 0, .slice none 0 0, .slice none 0 0] 43) = x1 := ⟨_, rfl⟩
 rw [hx1] at H0 B0 HB TH SZ ⊢
 clear hx1
 have a0 := H0.out.c4 0
 have a1 := H0.out.c4 1
 have a2 := H0.out.c4 2
 have a3 := H0.out.c4 3
 simp only [bxR] at a0 a1 a2 a3
 go_wp2_with (first | (go_at_call 142; refine (copied_any _ H0.out.rw).mono ?_; rintro e w1 ⟨R', rfl, rc, hb⟩; have HR := Hn rc; have H1 := Hn hb; clear rc hb a0 a1 a2 a3) | (refine wpList_stA rfl 43 _ _ rfl x.heap.size 0 [.slice (R' 0).p (R' 0).n (R' 0).c, .slice (R' 1).p (R' 1).n (R' 1).c, .slice (R' 2).p (R' 2).n (R' 2).c, .slice (R' 3).p (R' 3).n (R' 3).c] rfl rfl (there_bl TH.out H1.out) i4as (by simp [Value.oneCell']) rfl ?_; intro w2 hw; have HW := Hn hw; clear hw))
 have cs := World.rangeAt_setCells_same w1 x.heap.size 0 [.slice (R' 0).p (R' 0).n (R' 0).c, .slice (R' 1).p (R' 1).n (R' 1).c, .slice (R' 2).p (R' 2).n (R' 2).c, .slice (R' 3).p (R' 3).n (R' 3).c] (there_bl TH.out H1.out)
 have gb := gb_setCells x.heap.size [.slice (R' 0).p (R' 0).n (R' 0).c, .slice (R' 1).p (R' 1).n (R' 1).c, .slice (R' 2).p (R' 2).n (R' 2).c, .slice (R' 3).p (R' 3).n (R' 3).c] 0 w1
 rw [← show w2 = w1.setCells x.heap.size 0 [.slice (R' 0).p (R' 0).n (R' 0).c, .slice (R' 1).p (R' 1).n (R' 1).c, .slice (R' 2).p (R' 2).n (R' 2).c, .slice (R' 3).p (R' 3).n (R' 3).c] from HW.out] at cs gb
 have e0 := cs 0 _ rfl
 have e1 := cs 1 _ rfl
 have e2 := cs 2 _ rfl
 have e3 := cs 3 _ rfl
 simp only [Nat.zero_add] at e0 e1 e2 e3
 have hb1 : w1.heap[x.heap.size]? = _ := (H1.out.block x.heap.size (Array.getElem?_eq_some_iff.1 HB.out).1).trans HB.out
 refine bodyPost_ret (v := .tuple #[agR R', .bool true]) (by simp [results, Tryz.results141, go_sem, e0, e1, e2, e3, agR]) rfl ⟨R', rfl, (HR.out.low B0.out.size).set gb hb1 (by decide), ?_⟩
 exact below_tr (below_tr B0.out (H1.out.mono B0.out.size)) (below_grown gb (Nat.le_trans B0.out.size H1.out.size) (fun k hk => by rw [← Option.some.inj hk]; exact Nat.le_refl _))
def K4P (R : Nat → Sl) (x : World) (e : Ending) (w' : World) : Prop := ∃ b' R', e = .returned (fnA b') ∧ x.heap.size ≤ b' ∧ w'.heap[b']? = some (.cells (bxR R') 43 (0, 0)) ∧ Rc x.heap.size R R' w' ∧ Below x.heap.size x w'
theorem known4_any {S : Nat → Prop} {b : Nat} {R : Nat → Sl} (x : World) (h : Ob S b R x) :
  Calls Tryz.prog 143 #[.pointer (some ⟨b, 0, none⟩)] x fun e w' => K4P R x e w' := by
 have BL := bl_alloc x (.cells #[.nilFunc, .nilFunc, .nilFunc, .nilFunc] 109)
 have H0 := Hn (h.keep BL)
 have B0 := Hn BL
 have HB := Hn (heap_alloc_new x (.cells #[.nilFunc, .nilFunc, .nilFunc, .nilFunc] 109))
 have TH : Hid ((x.alloc (.cells #[.nilFunc, .nilFunc, .nilFunc, .nilFunc] 109)).there x.heap.size 0 4) := Hn (there_newM x [.nilFunc, .nilFunc, .nilFunc, .nilFunc] 109)
 have SZ : Hid (x.heap.size + 1 = (x.alloc (.cells #[.nilFunc, .nilFunc, .nilFunc, .nilFunc] 109)).heap.size) := Hn (by simp)
 clear h BL
 go_enter Tryz.func143, Tryz.ntmps143
 go_upto_region 1 with fail
 obtain ⟨x1, hx1⟩ : ∃ x1, x.alloc (.cells #[.nilFunc, .nilFunc, .nilFunc, .nilFunc] 109) = x1 := ⟨_, rfl⟩
 rw [hx1] at H0 B0 HB TH SZ ⊢
 clear hx1
 have a0 := H0.out.c4 0
 have a1 := H0.out.c4 1
 have a2 := H0.out.c4 2
 have a3 := H0.out.c4 3
 simp only [bxR] at a0 a1 a2 a3
 go_wp2_with (first | (go_at_call 142; refine (copied_any _ H0.out.rw).mono ?_; rintro e w1 ⟨R', rfl, rc, hb⟩; have HR := Hn rc; have H1 := Hn hb; clear rc hb a0 a1 a2 a3) | (go_at_call 77; refine (known_any (R := R') _).mono ?_; rintro e w2 ⟨b', rfl, hle, hx, hb⟩; have HX := Hn hx; have HL := Hn hle; have H2 := Hn hb; clear hx hb hle) | (refine wpList_stA rfl 109 _ _ rfl x.heap.size 0 [fn1 b', fn2 b', fn3 b', fn4 b'] rfl rfl (there_bl (there_bl TH.out H1.out) H2.out) i4nu (by simp [Value.oneCell', fn1, fn2, fn3, fn4]) rfl ?_; intro w3 hw; have HW := Hn hw; clear hw))
 have cs := World.rangeAt_setCells_same w2 x.heap.size 0 [fn1 b', fn2 b', fn3 b', fn4 b'] (there_bl (there_bl TH.out H1.out) H2.out)
 have gb := gb_setCells x.heap.size [fn1 b', fn2 b', fn3 b', fn4 b'] 0 w2
 rw [← show w3 = w2.setCells x.heap.size 0 [fn1 b', fn2 b', fn3 b', fn4 b'] from HW.out] at cs gb
 have e0 := cs 0 _ rfl
 have e1 := cs 1 _ rfl
 have e2 := cs 2 _ rfl
 have e3 := cs 3 _ rfl
 simp only [Nat.zero_add] at e0 e1 e2 e3
 have hl := (Array.getElem?_eq_some_iff.1 HB.out).1
 have hb1 : w2.heap[x.heap.size]? = _ := (H2.out.block x.heap.size (Nat.lt_of_lt_of_le hl H1.out.size)).trans ((H1.out.block x.heap.size hl).trans HB.out)
 have hle := HL.out
 have h1s := H1.out.size
 have szo := SZ.out
 refine bodyPost_ret (v := fnA b') (by simp [results, Tryz.results143, go_sem, e0, e1, e2, e3, fnA]) rfl ⟨b', R', rfl, by omega, ?_, ((HR.out.low B0.out.size).keep H2.out).set gb hb1 (by decide), ?_⟩
 ·rw [gb.block _ (Array.getElem?_eq_some_iff.1 HX.out).1 (fun e => by have := Option.some.inj e; omega)]
  exact HX.out
 ·exact below_tr (below_tr B0.out (below_tr (H1.out.mono B0.out.size) (H2.out.mono (by omega)))) (below_grown gb (by have := H2.out.size; omega) (fun k hk => by rw [← Option.some.inj hk]; exact Nat.le_refl _))
end Ci
end Go.Proofs.YtljmgfclhbadjaaGreatDoor
namespace Go.Proofs.YtljmgfclhbadjaaGreatDoor
open Go.RowKit
set_option linter.unusedVariables false
set_option linter.unusedSimpArgs false
open Cm (Wr Tm co bf Ls lf ins Eqm)
namespace Ci
set_option maxRecDepth 100000
set_option maxHeartbeats 16000000
theorem known2_any {S : Nat → Prop} {b : Nat} {R : Nat → Sl} (x : World) (h : Ob S b R x) (hT : Tq S x) (l r : E4) (hl : l.ok) (hr : r.ok) (hn : ∀ j, j < 4 → (R j).n + 1 ≤ 100000) :
  Calls Tryz.prog 139 #[.agg #[.int .u64 l.x0, .int .u64 l.x1, .int .u64 l.x2, .int .u64 l.x3], .agg #[.int .u64 r.x0, .int .u64 r.x1, .int .u64 r.x2, .int .u64 r.x3], .pointer (some ⟨b, 0, none⟩)] x fun e w' => e = .returned (.tuple #[]) ∧ AgP S b R l r x w' := by
 have BL := bl_alloc2 x (.cells #[.int .u64 l.x0, .int .u64 l.x1, .int .u64 l.x2, .int .u64 l.x3] 53) (.cells #[.int .u64 r.x0, .int .u64 r.x1, .int .u64 r.x2, .int .u64 r.x3] 53)
 have H0 := Hn (h.keep BL)
 have T0 := Hn (hT.keep BL)
 have B0 := Hn BL
 have HN := Hn hn
 have LR := Hn (And.intro hl hr)
 clear h hT BL hn
 go_enter Tryz.func139, Tryz.ntmps139
 go_wp2_with (go_at_call 140; refine (addGate_any _ H0.out T0.out l r LR.out.1 LR.out.2 HN.out).mono ?_; rintro e w1 ⟨rfl, hag⟩; have HA := Hn hag; clear hag)
 obtain ⟨S', p0, c0, p1, c1, p2, c2, ho, hg, hk⟩ := HA.out
 exact bodyPost_end (v := .tuple #[]) (by simp [results, Tryz.results139, go_sem]) rfl ⟨rfl, S', p0, c0, p1, c1, p2, c2, ho, (Gs.bl B0.out).trans hg Sk.refl, Sk.trans Sk.refl hk B0.out.size⟩
end Ci
end Go.Proofs.YtljmgfclhbadjaaGreatDoor
namespace Go.Proofs.YtljmgfclhbadjaaGreatDoor
open Go.RowKit
set_option linter.unusedVariables false
set_option linter.unusedSimpArgs false
open Cm (Wr Tm co bf Ls lf ins Eqm)
namespace Ci
set_option maxRecDepth 100000
set_option maxHeartbeats 16000000
def nmR (R : Nat → Sl) : Nat → Sl := nms 0 (R 0) (R 1) (R 2) (R 3)
def K1P (R : Nat → Sl) (m K : Nat) (X : List Tm) (x : World) (e : Ending) (w' : World) : Prop := e = .returned (.tuple #[.agg #[.int .u64 (evS (nmR R) m K X).x0, .int .u64 (evS (nmR R) m K X).x1, .int .u64 (evS (nmR R) m K X).x2, .int .u64 (evS (nmR R) m K X).x3], .bool (decide (evE (nmR R) m K X = 0))]) ∧ Below x.heap.size x w'
theorem known1_any {S : Nat → Prop} {b base s m K : Nat} {R : Nat → Sl} {vv : Value} {vs : List Value} {Q : List (List Tm)} (x : World) (h : Ob S b R x) (hT : Tb x) (hS : Sy base x s m K vv vs Q) (P : Option Addr) (n c : Nat) (f : Nat → Trm) (hn : n ≤ 2932031007402) (hf : ∀ k, k < n → (f k).a.ok) (hL : Lt x P n f) :
  Calls Tryz.prog 137 #[.pointer (some ⟨s, 0, none⟩), .slice P n c, .pointer (some ⟨b, 0, none⟩)] x fun e w' => K1P R m K (lf Sm.L (glL n f)) x e w' := by
 have BL := bl_alloc x (.cells #[.int .u64 0, .int .u64 0, .int .u64 0, .int .u64 0] 53)
 have H0 := Hn (h.keep BL)
 have CE := Hn (Eval_any (hS.keep BL) (hT.keep BL) (R 0) (R 1) (R 2) (R 3) (own_at ⟨(H0.out.rw 0 (by omega)).own, (H0.out.rw 0 (by omega)).ok⟩ rfl) (own_at ⟨(H0.out.rw 1 (by omega)).own, (H0.out.rw 1 (by omega)).ok⟩ rfl) (own_at ⟨(H0.out.rw 2 (by omega)).own, (H0.out.rw 2 (by omega)).ok⟩ rfl) (own_at ⟨(H0.out.rw 3 (by omega)).own, (H0.out.rw 3 (by omega)).ok⟩ rfl) P n c f hn hf (hL.keep BL))
 have B0 := Hn BL
 have HB := Hn (heap_alloc_new x (.cells #[.int .u64 0, .int .u64 0, .int .u64 0, .int .u64 0] 53))
 have TH : Hid ((x.alloc (.cells #[.int .u64 0, .int .u64 0, .int .u64 0, .int .u64 0] 53)).there x.heap.size 0 4) := Hn (there_newM x [.int .u64 0, .int .u64 0, .int .u64 0, .int .u64 0] 53)
 clear h BL hT hS hn hf hL
 go_enter Tryz.func137, Tryz.ntmps137
 go_upto_region 1 with fail
 obtain ⟨x1, hx1⟩ : ∃ x1, x.alloc (.cells #[.int .u64 0, .int .u64 0, .int .u64 0, .int .u64 0] 53) = x1 := ⟨_, rfl⟩
 rw [hx1] at H0 B0 HB TH CE ⊢
 clear hx1
 have a0 := H0.out.c4 0
 have a1 := H0.out.c4 1
 have a2 := H0.out.c4 2
 have a3 := H0.out.c4 3
 simp only [bxR] at a0 a1 a2 a3
 go_upto_region 2 with (go_at_call 138; refine CE.out.mono ?_; rintro e w1 ⟨rfl, hb⟩; have H1 := Hn hb; clear hb a0 a1 a2 a3 CE)
 generalize hz : evS (nms 0 (R 0) (R 1) (R 2) (R 3)) m K (lf Sm.L (glL n f)) = z
 generalize he : evE (nms 0 (R 0) (R 1) (R 2) (R 3)) m K (lf Sm.L (glL n f)) = e9
 have HZ : Hid (evS (nmR R) m K (lf Sm.L (glL n f)) = z ∧ evE (nmR R) m K (lf Sm.L (glL n f)) = e9) := Hn ⟨hz, he⟩
 clear hz he
 have BA := bl_alloc w1 (.cells #[.int .u64 z.x0, .int .u64 z.x1, .int .u64 z.x2, .int .u64 z.x3] 53)
 have BZ : Hid (Bz (w1.alloc (.cells #[.int .u64 z.x0, .int .u64 z.x1, .int .u64 z.x2, .int .u64 z.x3] 53)) w1.heap.size z) := Hn (heap_alloc_new w1 _)
 have TH2 := Hn (there_bl (there_bl TH.out H1.out) BA)
 have hl := (Array.getElem?_eq_some_iff.1 HB.out).1
 have B2 := Hn (below_tr B0.out (below_tr (H1.out.mono B0.out.size) (BA.mono (Nat.le_trans B0.out.size H1.out.size))))
 obtain ⟨w2, hw2⟩ : ∃ w2, w1.alloc (.cells #[.int .u64 z.x0, .int .u64 z.x1, .int .u64 z.x2, .int .u64 z.x3] 53) = w2 := ⟨_, rfl⟩
 rw [hw2] at BZ TH2 B2 ⊢
 clear hw2 BA hl
 have a0 := BZ.out.c 0
 have a1 := BZ.out.c 1
 have a2 := BZ.out.c 2
 have a3 := BZ.out.c 3
 go_wp2_with (refine wpList_stA rfl 53 _ _ rfl x.heap.size 0 [.int .u64 z.x0, .int .u64 z.x1, .int .u64 z.x2, .int .u64 z.x3] rfl rfl TH2.out i4_s (by simp [Value.oneCell']) rfl ?_; intro w3 hw; have HW := Hn hw; clear hw a0 a1 a2 a3)
 have cs := World.rangeAt_setCells_same w2 x.heap.size 0 [.int .u64 z.x0, .int .u64 z.x1, .int .u64 z.x2, .int .u64 z.x3] TH2.out
 have gb := gb_setCells x.heap.size [.int .u64 z.x0, .int .u64 z.x1, .int .u64 z.x2, .int .u64 z.x3] 0 w2
 rw [← show w3 = w2.setCells x.heap.size 0 [.int .u64 z.x0, .int .u64 z.x1, .int .u64 z.x2, .int .u64 z.x3] from HW.out] at cs gb
 have e0 := cs 0 _ rfl
 have e1 := cs 1 _ rfl
 have e2 := cs 2 _ rfl
 have e3 := cs 3 _ rfl
 simp only [Nat.zero_add] at e0 e1 e2 e3
 refine bodyPost_ret (v := .tuple #[.agg #[.int .u64 z.x0, .int .u64 z.x1, .int .u64 z.x2, .int .u64 z.x3], .bool (decide (e9 = 0))]) (by simp [results, Tryz.results137, go_sem, e0, e1, e2, e3]; rfl) rfl ⟨by rw [HZ.out.1, HZ.out.2], ?_⟩
 exact below_tr B2.out (below_grown gb B2.out.size (fun k hk => by rw [← Option.some.inj hk]; exact Nat.le_refl _))
end Ci
end Go.Proofs.YtljmgfclhbadjaaGreatDoor
