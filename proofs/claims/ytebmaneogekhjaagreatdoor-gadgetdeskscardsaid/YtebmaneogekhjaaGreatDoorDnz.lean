import Derived.Test.YtebmaneogekhjaaGreatDoorTk
import Derived.Test.YtebmaneogekhjaaGreatDoorDmz
import Derived.Test.YtebmaneogekhjaaGreatDoorDyz
namespace Go.Proofs.YtebmaneogekhjaaGreatDoor
open Go.RowKit
set_option linter.unusedVariables false
set_option linter.unusedSimpArgs false
open Cm (Wr Tm co bf Ls lf ins Eqm)
namespace Ci
set_option maxRecDepth 100000
set_option maxHeartbeats 16000000
def NrP (x : World) (e : Ending) (w' : World) : Prop := ∃ d sv, e = .returned (.tuple #[.pointer (some ⟨d, 0, none⟩), .int .i64 0]) ∧ Kd x.heap.size d sv false (fun _ => .slice none 0 0) (fun _ => 0) w' ∧ Below x.heap.size x w'
theorem rNew_any (m : Nat) (hm : m ≤ 16) (x : World) : Calls Tryz.prog 10 #[.int .i64 (m : Int)] x fun e w' => NrP x e w' := by
 have C0 := Hn (dNew_any m x hm)
 go_enter Tryz.func10, Tryz.ntmps10
 go_upto_region 4 with (go_at_call 34; refine C0.out.mono ?_; rintro e w1 ⟨rfl, hnu⟩; have NU := Hn hnu; clear hnu C0)
 obtain ⟨Pv, cv, vs, sy1, bl1⟩ := NU.out
 have B1 := Hn bl1
 clear sy1 bl1 NU
 go_wp2_with fail
 refine bodyPost_ret (v := .tuple #[.pointer (some ⟨w1.heap.size, 0, none⟩), .int .i64 0]) (by simp [results, Tryz.results10, go_sem]) rfl ⟨w1.heap.size, _, rfl, ⟨heap_alloc_new w1 _, fun j hj => ⟨[], World.ownsRow_nil _ _ _ _, by omega⟩, fun i j hi hj hne k hk => (by cases hk), B1.out.size⟩, bl_trans B1.out (bl_alloc w1 _)⟩
theorem rNew_bad (i : Int) (x : World) (hm : i < 0 ∨ 16 < i) : Calls Tryz.prog 10 #[.int .i64 i] x fun e w' => e = .returned (.tuple #[.pointer none, .int .i64 1]) ∧ w' = x := by
 have C0 := Hn (dNew_bad i x hm)
 clear hm
 go_enter Tryz.func10, Tryz.ntmps10
 go_wp2_with (go_at_call 34; refine C0.out.mono ?_; rintro e w0 ⟨rfl, hw1⟩; have hw2 := hw1.symm; clear hw1; subst hw2; clear C0)
 exact bodyPost_ret (v := .tuple #[.pointer none, .int .i64 1]) (by simp [results, Tryz.results10, go_sem]) rfl ⟨rfl, rfl⟩
theorem rKnown_bad (P : Option Addr) (n c : Nat) (x : World) (hn : 16 < n) : Calls Tryz.prog 31 #[.slice P n c] x fun e w' => e = .returned (.tuple #[.pointer none, .int .i64 1]) ∧ w' = x := by
 have C0 := Hn (rNew_bad (n : Int) x (.inr (by omega)))
 clear hn
 go_enter Tryz.func31, Tryz.ntmps31
 go_wp2_with (go_at_call 10; refine C0.out.mono ?_; rintro e w0 ⟨rfl, hw1⟩; have hw2 := hw1.symm; clear hw1; subst hw2; clear C0)
 exact bodyPost_ret (v := .tuple #[.pointer none, .int .i64 1]) (by simp [results, Tryz.results31, go_sem]) rfl ⟨rfl, rfl⟩
theorem row_r4 {x : World} {b0 n c g : Nat} {T : TypeId} {G : Nat → E4} (h : x.ownsRow b0 T 4 (.slice (some ⟨g, 0, none⟩) n c) n (s4s n G)) : R4 x g 0 n G := by
 have key : ∀ k j u, k < n → ([.int .u64 (G k).x0, .int .u64 (G k).x1, .int .u64 (G k).x2, .int .u64 (G k).x3] : List Value)[j]? = some u → x.cell? ⟨g, 0 + k * 4 + j, none⟩ = some u := fun k j u hk hu => by
  have hj : j < 4 := by have := (List.getElem?_eq_some_iff.1 hu).1; simpa using this
  have := h.cells (g := g) rfl (k * 4 + j) u (by rw [s4s_get n G k j hk hj]; exact hu)
  rw [Addr.add_mid] at this
  rw [Nat.add_assoc]
  exact this
 exact ⟨fun k hk => key k 0 _ hk rfl, fun k hk => key k 1 _ hk rfl, fun k hk => key k 2 _ hk rfl, fun k hk => key k 3 _ hk rfl⟩
structure Ku (x : World) (d : Nat) (sv : Value) (i : Nat) (V : Nat → Value) (nn : Nat → Nat) (w : World) : Prop where
 kd : Kd x.heap.size d sv true V nn w
 bl : Below x.heap.size x w
 le : ∀ j, j < 4 → nn j ≤ 2 * i
theorem Kd.st {base d : Nat} {sv : Value} {V : Nat → Value} {n : Nat → Nat} {x y : World} (h : Kd base d sv false V n x) (hy : y = x.setCells d 0 [.bool true]) : Kd base d sv true V n y := by
 have hg : x.grownBy y (some d) := by rw [hy]; exact gb_setCells d _ 0 x
 have h1 := heap_setCell_same x d 0 _ 85 (.bool true) h.hd
 refine ⟨by rw [hy]; exact h1, fun j hj => ?_, h.dj, h.lb⟩
 obtain ⟨xs, h2, h3⟩ := h.rw j hj
 exact ⟨xs, own_setK2 h2 hg h.hd (by decide), h3⟩
theorem rKnown_any (P : Option Addr) (n c b0 : Nat) (G : Nat → E4) (x : World) (hr : x.ownsRow b0 107 4 (.slice P n c) n (s4s n G)) (hok : ∀ k, k < n → (G k).ok) (hn : n ≤ 16) :
  Calls Tryz.prog 31 #[.slice P n c] x fun e w' => (∃ d, e = .returned (.tuple #[.pointer (some ⟨d, 0, none⟩), .int .i64 0])) ∧ Below x.heap.size x w' := by
 have C0 := Hn (rNew_any n hn x)
 have HR := Hn hr
 have HK := Hn hok
 have HN := Hn hn
 clear hr hok hn
 go_enter Tryz.func31, Tryz.ntmps31
 go_upto_region 4 with (go_at_call 10; refine C0.out.mono ?_; rintro e w1 ⟨d, sv, rfl, hk, hb⟩; have K1 := Hn hk; have B1 := Hn hb; clear hk hb C0)
 have c0 := cell_of_row w1 d 0 _ _ (0, 0) K1.out.hd
 have f0 := frozen_of_row w1 d 0 _ _ K1.out.hd
 go_upto_region 5 with fail
 have KU : Hid (Ku x d sv 0 (fun _ => .slice none 0 0) (fun _ => 0) (w1.setCell ⟨d, 0, none⟩ (.bool true))) := Hn ⟨K1.out.st rfl, below_tr B1.out (below_grown (gb_setCells d [.bool true] 0 w1) B1.out.size (fun k hk => by rw [← Option.some.inj hk]; exact K1.out.lb)), fun j hj => Nat.le_refl _⟩
 clear c0 f0 K1 B1
 go_wp2_with fail
 go_loopw [6] (fun iv w' => ∃ i : Nat, i ≤ n ∧ iv = .int .i64 (i : Int) ∧ ∃ V nn, Hid (Ku x d sv i V nn w')) (fun i _ => n - (intOf i).toNat)
 case atStart => exact ⟨0, by omega, rfl, _, _, KU⟩
 case round =>
  clear KU
  obtain ⟨i, hi, rfl, V, nn, HU⟩ := hrel
  by_cases hin : i < n
  ·have i1 : (i : Int) < (n : Int) := by omega
   have i0 : (0 : Int) ≤ (i : Int) := by omega
   have w9 : IntKind.i64.wrap ((i : Int) + 1) = (i : Int) + 1 := IntWalk.i64_in _ (by have := HN.out; omega)
   obtain ⟨g, cc, cur, hv, -⟩ := HR.out.2.resolve_left (fun e => by omega)
   simp only [Value.slice.injEq] at hv
   obtain ⟨hP, -, hc⟩ := hv
   subst hP
   subst hc
   have RT := Hn (row_r4 HR.out)
   have AK := Hn (HK.out i hin)
   have a0 := bl_cellO HU.out.bl (RT.out.c0 i hin)
   have a1 := bl_cellO HU.out.bl (RT.out.c1 i hin)
   have a2 := bl_cellO HU.out.bl (RT.out.c2 i hin)
   have a3 := bl_cellO HU.out.bl (RT.out.c3 i hin)
   simp only [Nat.zero_add] at a0 a1 a2 a3
   have CL := Hn (by
    have c := fix (R := lst (G i).n) (rleast_any (G i) wr AK.out) rfl
    simp only [E4.v] at c
    exact c)
   go_upto_region 9 with (go_at_call 63; refine CL.out.mono ?_; rintro e w2 ⟨rfl, hb⟩; have B2 := Hn hb; clear hb CL)
   clear a0 a1 a2 a3
   have BL := bl_alloc w2 (.cells #[.int .u64 (lst (G i).n).x0, .int .u64 (lst (G i).n).x1, .int .u64 (lst (G i).n).x2, .int .u64 (lst (G i).n).x3] 107)
   have K3 := Hn ((HU.out.kd.keep B2.out).keep BL)
   have BQ : Hid (Bq (w2.alloc (.cells #[.int .u64 (lst (G i).n).x0, .int .u64 (lst (G i).n).x1, .int .u64 (lst (G i).n).x2, .int .u64 (lst (G i).n).x3] 107)) w2.heap.size (lst (G i).n)) := Hn (heap_alloc_new w2 _)
   have BX := Hn (bl_trans HU.out.bl (bl_trans B2.out BL))
   have FA : Hid (Fa d V w2.heap.size (w2.alloc (.cells #[.int .u64 (lst (G i).n).x0, .int .u64 (lst (G i).n).x1, .int .u64 (lst (G i).n).x2, .int .u64 (lst (G i).n).x3] 107))) := Hn ⟨by simp, fun e => by have := (Array.getElem?_eq_some_iff.1 (HU.out.kd.keep B2.out).hd).1; omega, fun j hj e => by
    obtain ⟨xs, h3, _⟩ := (HU.out.kd.keep B2.out).rw j hj
    have := (h3.lt _ e).2
    omega⟩
   obtain ⟨xa, hxa⟩ : ∃ xa, w2.heap.size = xa := ⟨_, rfl⟩
   obtain ⟨x3, hx3⟩ : ∃ x3, w2.alloc (.cells #[.int .u64 (lst (G i).n).x0, .int .u64 (lst (G i).n).x1, .int .u64 (lst (G i).n).x2, .int .u64 (lst (G i).n).x3] 107) = x3 := ⟨_, rfl⟩
   rw [hx3] at K3 BQ BX FA ⊢
   rw [hxa] at BQ FA
   simp only [hxa]
   clear hx3 hxa BL B2
   obtain ⟨P3, c3, hv3⟩ := K3.out.sh (j := 3) (by omega)
   refine kn9 _ x.heap.size d xa _ c3 P3 (lst (G i).n) _ _ _ _ _ _ _ _ _ _ _ _ _ _ _ _ _ _ _ _ _ _ _ _ _ _ _ _ _ _ _ _ _ _ _ _ _ _ _ _ _ _ _ _ _ _ _ x3 (BQ.out.c 0) (BQ.out.c 1) (BQ.out.c 2) (BQ.out.c 3) (by rw [cell_of_row x3 d 5 _ _ (0, 0) K3.out.hd, ← hv3]; rfl) (Hn (by rw [← hv3]; exact K3.out.rw 3 (by omega))) (Hn BX.out.size) (there_arr K3.out.hd (by simp)) (Hn (by rw [← hv3]; exact K3.out.nd (by omega))) (Hn (by rw [← hv3]; exact FA.out.2.2 3 (by omega))) (Hn FA.out.2.1) (Hn ?_)
   intro x4 tb p3 d3 hA
   have LE := Hn HU.out.le
   obtain ⟨k4, b4, f4⟩ := K3.out.ap (j := 3) (by omega) hv3 hA (show nn 3 + 1 ≤ 100000 by have := LE.out 3 (by omega); have := HN.out; omega) BX.out.size
   have K4 := Hn k4
   have BQ4 := Hn (show Bq x4 xa (lst (G i).n) from (f4 _ FA.out).2.trans BQ.out)
   have B4 := Hn (below_tr BX.out b4)
   have L4 : Hid (∀ j, j < 4 → upN nn 3 j ≤ 2 * i + 1) := Hn (fun j hj => by
    unfold upN
    split
    ·have := LE.out 3 (by omega); omega
    ·have := LE.out j hj; omega)
   clear hA k4 b4 f4 K3 BQ BX FA hv3 HU
   have b0 := BQ4.out.c 0
   have b1 := BQ4.out.c 1
   have b2 := BQ4.out.c 2
   have b3 := BQ4.out.c 3
   have CP := Hn (dput_any K4.out B4.out.size (fun j hj => by have := L4.out j hj; have := HN.out; omega) (lst (G i).n) ⟨0, 0, 0, 0⟩ ⟨0, 0, 0, 0⟩)
   go_wp2_with (go_at_call 64; refine CP.out.mono ?_; rintro e w5 ⟨rfl, V5, n5, k5, b5, l5⟩; have KU5 := Hn (And.intro k5 (And.intro (below_tr B4.out b5) l5)); clear k5 b5 l5 CP)
   have KF : Hid (Ku x d sv (i + 1) V5 n5 w5) := Hn ⟨KU5.out.1, KU5.out.2.1, fun j hj => by
    have h1 := KU5.out.2.2 j hj
    have h2 := L4.out j hj
    omega⟩
   go_roundw
   case rel => exact ⟨i + 1, by omega, by go_num, _, _, KF⟩
   case measure => simp [intOf]; omega
  ·obtain rfl : i = n := by omega
   have lq : ¬ (i : Int) < (i : Int) := by omega
   go_wp2_with fail
   exact bodyPost_ret (v := .tuple #[.pointer (some ⟨d, 0, none⟩), .int .i64 0]) (by simp [results, Tryz.results31, go_sem]) rfl ⟨⟨d, rfl⟩, HU.out.bl⟩
end Ci
end Go.Proofs.YtebmaneogekhjaaGreatDoor
namespace Go.Proofs.YtebmaneogekhjaaGreatDoor
open Go.RowKit
set_option linter.unusedVariables false
set_option linter.unusedSimpArgs false
open Cm (Wr Tm co bf Ls lf ins Eqm)
namespace Ci
set_option maxRecDepth 100000
set_option maxHeartbeats 16000000
theorem wk_enl (n : Nat) (hn : n ≤ 16) : Wk n n (enl n) := by
 have e1 : ((List.range 17).all fun n => (enl n).all fun X => X.all fun x => hs n n x.1) = true := by kernel_rfl
 have e2 : ((List.range 17).all fun n => (enl n).all fun X => decide (X.length ≤ 2932031007402)) = true := by kernel_rfl
 have m : n ∈ List.range 17 := List.mem_range.2 (by omega)
 refine ⟨fun X hX x hx => ?_, fun X hX => ?_, by rw [enl_len]; omega, by omega, ⟨[], by simp⟩, by omega⟩
 ·exact List.all_eq_true.1 (List.all_eq_true.1 (List.all_eq_true.1 e1 n m) X hX) x hx
 ·exact of_decide_eq_true (List.all_eq_true.1 (List.all_eq_true.1 e2 n m) X hX)
def MdP (ok : Bool) (x : World) (e : Ending) (w' : World) : Prop := (if ok = true then ∃ k, e = .returned (.tuple #[.pointer (some ⟨k, 0, none⟩), .int .i64 0]) else e = .returned (.tuple #[.pointer none, .int .i64 1])) ∧ Below x.heap.size x w'
theorem newDesk_bad (i : Int) (f : Value) (x : World) (hm : i < 0 ∨ 16 < i) : Calls Tryz.prog 32 #[.int .i64 i, f] x fun e w' => e = .returned (.tuple #[.pointer none, .int .i64 1]) ∧ w' = x := by
 have C0 := Hn (New_bad i x hm)
 clear hm
 go_enter Tryz.func32, Tryz.ntmps32
 go_wp2_with (go_at_call 65; refine C0.out.mono ?_; rintro e w0 ⟨rfl, hw1⟩; have hw2 := hw1.symm; clear hw1; subst hw2; clear C0)
 exact bodyPost_ret (v := .tuple #[.pointer none, .int .i64 1]) (by simp [results, Tryz.results32, go_sem]) rfl ⟨rfl, rfl⟩
theorem Known_bad (P : Option Addr) (n c : Nat) (x : World) (hn : 16 < n) : Calls Tryz.prog 11 #[.slice P n c] x fun e w' => e = .returned (.tuple #[.pointer none, .int .i64 1]) ∧ Below x.heap.size x w' := by
 have C0 := Hn (fun f => newDesk_bad (n : Int) f (x.alloc (.cells #[.slice P n c] 57)) (.inr (by omega)))
 clear hn
 go_enter Tryz.func11, Tryz.ntmps11
 go_wp2_with (go_at_call 32; refine (C0.out _).mono ?_; rintro e w0 ⟨rfl, hw1⟩; have hw2 := hw1.symm; clear hw1; subst hw2; clear C0)
 exact bodyPost_ret (v := .tuple #[.pointer none, .int .i64 1]) (by simp [results, Tryz.results11, go_sem]) rfl ⟨rfl, bl_alloc x _⟩
theorem unknown_any (x : World) : Calls Tryz.prog 33 #[] x fun e w' => e = .returned (.agg #[.func (.func 66) #[] #[], .func (.func 67) #[] #[], .func (.func 68) #[] #[], .func (.func 33) #[] #[]]) ∧ Below x.heap.size x w' := by
 have TN : Hid ((x.alloc (.cells #[.nilFunc, .nilFunc, .nilFunc, .nilFunc] 31)).there x.heap.size 0 4) := Hn (there_newM x [.nilFunc, .nilFunc, .nilFunc, .nilFunc] 31)
 go_enter Tryz.func33, Tryz.ntmps33
 go_wp2_with (refine wpList_stA rfl 31 _ _ rfl x.heap.size 0 [.func (.func 66) #[] #[], .func (.func 67) #[] #[], .func (.func 68) #[] #[], .func (.func 33) #[] #[]] rfl rfl TN.out i4nu (by simp [Value.oneCell']) rfl ?_; intro w1 hw; have HW := Hn hw; clear hw)
 have cs := World.rangeAt_setCells_same _ x.heap.size 0 [.func (.func 66) #[] #[], .func (.func 67) #[] #[], .func (.func 68) #[] #[], .func (.func 33) #[] #[]] TN.out
 have gb := gb_setCells x.heap.size [.func (.func 66) #[] #[], .func (.func 67) #[] #[], .func (.func 68) #[] #[], .func (.func 33) #[] #[]] 0 (x.alloc (.cells #[.nilFunc, .nilFunc, .nilFunc, .nilFunc] 31))
 rw [← HW.out] at cs gb
 have e0 := cs 0 _ rfl
 have e1 := cs 1 _ rfl
 have e2 := cs 2 _ rfl
 have e3 := cs 3 _ rfl
 simp only [Nat.zero_add] at e0 e1 e2 e3
 exact bodyPost_ret (v := .agg #[.func (.func 66) #[] #[], .func (.func 67) #[] #[], .func (.func 68) #[] #[], .func (.func 33) #[] #[]]) (by simp [results, Tryz.results33, go_sem, e0, e1, e2, e3]) rfl ⟨rfl, below_tr (bl_alloc x _) (below_grown gb (by simp) (fun k hk => by rw [← Option.some.inj hk]; exact Nat.le_refl _))⟩
theorem newDesk_un (m : Nat) (hm : m ≤ 16) (x : World) (hT : Tb x) : Calls Tryz.prog 32 #[.int .i64 (m : Int), .func (.func 33) #[] #[]] x fun e w' => (∃ k, e = .returned (.tuple #[.pointer (some ⟨k, 0, none⟩), .int .i64 0])) ∧ Below x.heap.size x w' := by
 have C0 := Hn (New_any m x hT hm)
 have C1 := Hn (fun y => unknown_any y)
 clear hT hm
 go_enter Tryz.func32, Tryz.ntmps32
 go_wp2_with (first | (go_at_call 65; refine C0.out.mono ?_; rintro e w1 ⟨rfl, Pv, cv, vs, sy, hb⟩; have B1 := Hn hb; clear sy hb C0) | (go_at_call 33; refine (C1.out _).mono ?_; rintro e w2 ⟨rfl, hb⟩; have B2 := Hn hb; clear hb C1))
 exact bodyPost_ret (v := .tuple #[.pointer (some ⟨w2.heap.size, 0, none⟩), .int .i64 0]) (by simp [results, Tryz.results32, go_sem]) rfl ⟨⟨_, rfl⟩, bl_trans B1.out (bl_trans B2.out (bl_alloc w2 _))⟩
def dkO (n : Int) : Bool := decide (0 ≤ n) && decide (n ≤ 16)
theorem Unknown_any (n : Int) (x : World) (hT : Tb x) : Calls Tryz.prog 9 #[.int .i64 n] x fun e w' => MdP (dkO n) x e w' := by
 by_cases h : 0 ≤ n ∧ n ≤ 16
 ·obtain ⟨m, rfl⟩ := Int.eq_ofNat_of_zero_le h.1
  have e9 : dkO (m : Int) = true := by unfold dkO; simp; omega
  rw [e9]
  have C0 := Hn (newDesk_un m (by omega) x hT)
  clear hT h e9
  go_enter Tryz.func9, Tryz.ntmps9
  go_wp2_with (go_at_call 32; refine C0.out.mono ?_; rintro e w1 ⟨⟨k, rfl⟩, hb⟩; have B1 := Hn hb; clear hb C0)
  exact bodyPost_ret (v := .tuple #[.pointer (some ⟨k, 0, none⟩), .int .i64 0]) (by simp [results, Tryz.results9, go_sem]) rfl ⟨by rw [if_pos rfl]; exact ⟨k, rfl⟩, B1.out⟩
 ·have e9 : dkO n = false := by unfold dkO; simp; omega
  rw [e9]
  have C0 := Hn (fun f => newDesk_bad n f x (by omega))
  clear hT h e9
  go_enter Tryz.func9, Tryz.ntmps9
  go_wp2_with (go_at_call 32; refine (C0.out _).mono ?_; rintro e w0 ⟨rfl, hw1⟩; have hw2 := hw1.symm; clear hw1; subst hw2; clear C0)
  exact bodyPost_ret (v := .tuple #[.pointer none, .int .i64 1]) (by simp [results, Tryz.results9, go_sem]) rfl ⟨by rw [if_neg (by decide)], Below.refl _ _⟩
theorem rNew_all (n : Int) (x : World) : Calls Tryz.prog 10 #[.int .i64 n] x fun e w' => MdP (dkO n) x e w' := by
 by_cases h : 0 ≤ n ∧ n ≤ 16
 ·obtain ⟨m, rfl⟩ := Int.eq_ofNat_of_zero_le h.1
  have e9 : dkO (m : Int) = true := by unfold dkO; simp; omega
  rw [e9]
  exact (rNew_any m (by omega) x).mono (fun e w' h => by
   obtain ⟨d, sv, h1, _, h2⟩ := h
   exact ⟨by rw [if_pos rfl]; exact ⟨d, h1⟩, h2⟩)
 ·have e9 : dkO n = false := by unfold dkO; simp; omega
  rw [e9]
  exact (rNew_bad n x (by omega)).mono (fun e w' h => ⟨by rw [if_neg (by decide)]; exact h.1, by rw [h.2]; exact Below.refl _ _⟩)
theorem Known_all (P : Option Addr) (n c b0 : Nat) (G : Nat → E4) (x : World) (hr : x.ownsRow b0 47 4 (.slice P n c) n (s4s n G)) (hok : ∀ k, k < n → (G k).ok) (hT : Tb x) :
  Calls Tryz.prog 11 #[.slice P n c] x fun e w' => MdP (dkO (n : Int)) x e w' := by
 by_cases h : n ≤ 16
 ·have e9 : dkO (n : Int) = true := by unfold dkO; simp; omega
  rw [e9]
  exact (Known_any ⟨P, n, c, G⟩ h (wk_enl n h) x (own_at (s := ⟨P, n, c, G⟩) ⟨hr, hok⟩ rfl) hT).mono (fun e w' k => by
   obtain ⟨S, d, q, b, vv, vs, R, h1, _, h2, _⟩ := k
   exact ⟨by rw [if_pos rfl]; exact ⟨d, h1⟩, h2⟩)
 ·have e9 : dkO (n : Int) = false := by unfold dkO; simp; omega
  rw [e9]
  exact (Known_bad P n c x (by omega)).mono (fun e w' h => ⟨by rw [if_neg (by decide)]; exact h.1, h.2⟩)
theorem rKnown_all (P : Option Addr) (n c b0 : Nat) (G : Nat → E4) (x : World) (hr : x.ownsRow b0 107 4 (.slice P n c) n (s4s n G)) (hok : ∀ k, k < n → (G k).ok) :
  Calls Tryz.prog 31 #[.slice P n c] x fun e w' => MdP (dkO (n : Int)) x e w' := by
 by_cases h : n ≤ 16
 ·have e9 : dkO (n : Int) = true := by unfold dkO; simp; omega
  rw [e9]
  exact (rKnown_any P n c b0 G x hr hok h).mono (fun e w' k => ⟨by rw [if_pos rfl]; exact k.1, k.2⟩)
 ·have e9 : dkO (n : Int) = false := by unfold dkO; simp; omega
  rw [e9]
  exact (rKnown_bad P n c x (by omega)).mono (fun e w' h => ⟨by rw [if_neg (by decide)]; exact h.1, by rw [h.2]; exact Below.refl _ _⟩)
end Ci
end Go.Proofs.YtebmaneogekhjaaGreatDoor
namespace Go.Proofs.YtebmaneogekhjaaGreatDoor
open Go.RowKit
set_option linter.unusedVariables false
set_option linter.unusedSimpArgs false
open Cm (Wr Tm co bf Ls lf ins Eqm)
namespace Ci
set_option maxRecDepth 100000
set_option maxHeartbeats 16000000
theorem own_sh4 {w : World} {base n : Nat} {t : TypeId} {v : Value} {xs : List Value} (h : w.ownsRow base t 4 v n xs) : ∃ (P : Option Addr) (c : Nat), v = .slice P n c := by
 rcases h.2 with ⟨h1, h2⟩ | ⟨g, c, cur, h1, _⟩
 ·exact ⟨none, 0, by rw [h1, h2]⟩
 ·exact ⟨_, c, h1⟩
theorem MdP.yes {x w' : World} {e : Ending} (h : MdP true x e w') : (∃ k, e = .returned (.tuple #[.pointer (some ⟨k, 0, none⟩), .int .i64 0])) ∧ Below x.heap.size x w' := ⟨by have := h.1; rw [if_pos rfl] at this; exact this, h.2⟩
theorem MdP.no {x w' : World} {e : Ending} (h : MdP false x e w') : e = .returned (.tuple #[.pointer none, .int .i64 1]) ∧ Below x.heap.size x w' := ⟨by have := h.1; rw [if_neg (by decide)] at this; exact this, h.2⟩
def DsR (x : World) (e : Ending) (w' : World) : Prop := (∃ u v, e = .returned (.tuple #[u, v, .bool true])) ∧ Below x.heap.size x w'
theorem desks_yk (P : Option Addr) (n c : Nat) (g : Nat → E4) (x : World) (C0 : Hid (Calls Tryz.prog 30 #[.slice P n c] x fun e w' => VaP ⟨P, n, c, g⟩ x e w'))
  (C1 : Hid (∀ a b y, Va ⟨P, n, c, g⟩ x n a b y → Calls Tryz.prog 11 #[a] y fun e w' => MdP true y e w'))
  (C2 : Hid (∀ a b y, Va ⟨P, n, c, g⟩ x n a b y → Calls Tryz.prog 31 #[b] y fun e w' => MdP true y e w')) :
  Calls Tryz.prog 8 #[.slice P n c, .bool true] x fun e w' => DsR x e w' := by
 go_enter Tryz.func8, Tryz.ntmps8
 go_wp2_with (first | (go_at_call 30; refine C0.out.mono ?_; rintro e w1 ⟨a, b, rfl, hv⟩; have VV := Hn hv; clear hv C0) | (go_at_call 11; refine (C1.out _ _ _ VV.out).mono ?_; intro e w2 hm; obtain ⟨⟨k2, rfl⟩, hb⟩ := MdP.yes hm; have V2 := Hn (VV.out.keep hb); have B3 := Hn (bl_trans VV.out.bl hb); clear hb hm C1) | (go_at_call 31; refine (C2.out _ _ _ V2.out).mono ?_; intro e w3 hm; obtain ⟨⟨k3, rfl⟩, hb⟩ := MdP.yes hm; have B4 := Hn (bl_trans B3.out hb); clear hb hm C2))
 exact bodyPost_ret (v := .tuple #[.pointer (some ⟨k2, 0, none⟩), .pointer (some ⟨k3, 0, none⟩), .bool true]) (by simp [results, Tryz.results8, go_sem]) rfl ⟨⟨_, _, rfl⟩, B4.out⟩
theorem desks_yu (P : Option Addr) (n c : Nat) (g : Nat → E4) (x : World) (C0 : Hid (Calls Tryz.prog 30 #[.slice P n c] x fun e w' => VaP ⟨P, n, c, g⟩ x e w'))
  (C1 : Hid (∀ y, Below x.heap.size x y → Calls Tryz.prog 9 #[.int .i64 (n : Int)] y fun e w' => MdP true y e w'))
  (C2 : Hid (∀ y, Below x.heap.size x y → Calls Tryz.prog 10 #[.int .i64 (n : Int)] y fun e w' => MdP true y e w')) :
  Calls Tryz.prog 8 #[.slice P n c, .bool false] x fun e w' => DsR x e w' := by
 go_enter Tryz.func8, Tryz.ntmps8
 go_wp2_with (first | (go_at_call 30; refine C0.out.mono ?_; rintro e w1 ⟨a, b, rfl, hv⟩; have VV := Hn hv; clear hv C0) | (go_at_call 9; refine (C1.out _ VV.out.bl).mono ?_; intro e w2 hm; obtain ⟨⟨k2, rfl⟩, hb⟩ := MdP.yes hm; have B3 := Hn (bl_trans VV.out.bl hb); clear hb hm C1) | (go_at_call 10; refine (C2.out _ B3.out).mono ?_; intro e w3 hm; obtain ⟨⟨k3, rfl⟩, hb⟩ := MdP.yes hm; have B4 := Hn (bl_trans B3.out hb); clear hb hm C2))
 exact bodyPost_ret (v := .tuple #[.pointer (some ⟨k2, 0, none⟩), .pointer (some ⟨k3, 0, none⟩), .bool true]) (by simp [results, Tryz.results8, go_sem]) rfl ⟨⟨_, _, rfl⟩, B4.out⟩
theorem desks_nk (P : Option Addr) (n c : Nat) (g : Nat → E4) (x : World) (C0 : Hid (Calls Tryz.prog 30 #[.slice P n c] x fun e w' => VaP ⟨P, n, c, g⟩ x e w'))
  (C1 : Hid (∀ a b y, Va ⟨P, n, c, g⟩ x n a b y → Calls Tryz.prog 11 #[a] y fun e w' => MdP false y e w'))
  (C2 : Hid (∀ a b y, Va ⟨P, n, c, g⟩ x n a b y → Calls Tryz.prog 31 #[b] y fun e w' => MdP false y e w')) :
  Calls Tryz.prog 8 #[.slice P n c, .bool true] x fun e w' => DsR x e w' := by
 go_enter Tryz.func8, Tryz.ntmps8
 go_wp2_with (first | (go_at_call 30; refine C0.out.mono ?_; rintro e w1 ⟨a, b, rfl, hv⟩; have VV := Hn hv; clear hv C0) | (go_at_call 11; refine (C1.out _ _ _ VV.out).mono ?_; intro e w2 hm; obtain ⟨rfl, hb⟩ := MdP.no hm; have V2 := Hn (VV.out.keep hb); have B3 := Hn (bl_trans VV.out.bl hb); clear hb hm C1) | (go_at_call 31; refine (C2.out _ _ _ V2.out).mono ?_; intro e w3 hm; obtain ⟨rfl, hb⟩ := MdP.no hm; have B4 := Hn (bl_trans B3.out hb); clear hb hm C2))
 exact bodyPost_ret (v := .tuple #[.pointer none, .pointer none, .bool true]) (by simp [results, Tryz.results8, go_sem]) rfl ⟨⟨_, _, rfl⟩, B4.out⟩
theorem desks_nu (P : Option Addr) (n c : Nat) (g : Nat → E4) (x : World) (C0 : Hid (Calls Tryz.prog 30 #[.slice P n c] x fun e w' => VaP ⟨P, n, c, g⟩ x e w'))
  (C1 : Hid (∀ y, Below x.heap.size x y → Calls Tryz.prog 9 #[.int .i64 (n : Int)] y fun e w' => MdP false y e w'))
  (C2 : Hid (∀ y, Below x.heap.size x y → Calls Tryz.prog 10 #[.int .i64 (n : Int)] y fun e w' => MdP false y e w')) :
  Calls Tryz.prog 8 #[.slice P n c, .bool false] x fun e w' => DsR x e w' := by
 go_enter Tryz.func8, Tryz.ntmps8
 go_wp2_with (first | (go_at_call 30; refine C0.out.mono ?_; rintro e w1 ⟨a, b, rfl, hv⟩; have VV := Hn hv; clear hv C0) | (go_at_call 9; refine (C1.out _ VV.out.bl).mono ?_; intro e w2 hm; obtain ⟨rfl, hb⟩ := MdP.no hm; have B3 := Hn (bl_trans VV.out.bl hb); clear hb hm C1) | (go_at_call 10; refine (C2.out _ B3.out).mono ?_; intro e w3 hm; obtain ⟨rfl, hb⟩ := MdP.no hm; have B4 := Hn (bl_trans B3.out hb); clear hb hm C2))
 exact bodyPost_ret (v := .tuple #[.pointer none, .pointer none, .bool true]) (by simp [results, Tryz.results8, go_sem]) rfl ⟨⟨_, _, rfl⟩, B4.out⟩
theorem desks_any (P : Option Addr) (n c : Nat) (g : Nat → E4) (x : World) (hs : (⟨P, n, c, g⟩ : Sl).at x) (hn : n ≤ 4398046511104) (hT : Tb x) (k : Bool) :
  Calls Tryz.prog 8 #[.slice P n c, .bool k] x fun e w' => DsR x e w' := by
 have C0 := Hn (values_any ⟨P, n, c, g⟩ x hs hn)
 have ok := hs.ok
 have C1 := fun (a b : Value) (y : World) (hv : Va ⟨P, n, c, g⟩ x n a b y) => (by
  obtain ⟨Pa, ca, rfl⟩ := own_sh4 hv.ra
  exact Known_all Pa n ca x.heap.size g y hv.ra (fun k hk => ok k hk) (hT.keep hv.bl) : Calls Tryz.prog 11 #[a] y fun e w' => MdP (dkO (n : Int)) y e w')
 have C2 := fun (a b : Value) (y : World) (hv : Va ⟨P, n, c, g⟩ x n a b y) => (by
  obtain ⟨Pb, cb, rfl⟩ := own_sh4 hv.rb
  exact rKnown_all Pb n cb x.heap.size (lsG g) y hv.rb (fun k hk => lst_ok _) : Calls Tryz.prog 31 #[b] y fun e w' => MdP (dkO (n : Int)) y e w')
 have C3 := fun (y : World) (hb : Below x.heap.size x y) => Unknown_any (n : Int) y (hT.keep hb)
 have C4 := fun (y : World) (hb : Below x.heap.size x y) => rNew_all (n : Int) y
 cases hd : dkO (n : Int) with
 | true =>
  rw [hd] at C1 C2 C3 C4
  cases k with
  | true => exact desks_yk P n c g x C0 (Hn C1) (Hn C2)
  | false => exact desks_yu P n c g x C0 (Hn C3) (Hn C4)
 | false =>
  rw [hd] at C1 C2 C3 C4
  cases k with
  | true => exact desks_nk P n c g x C0 (Hn C1) (Hn C2)
  | false => exact desks_nu P n c g x C0 (Hn C3) (Hn C4)
theorem law_y (P : Option Addr) (n c : Nat) (m : Int) (x : World) (CD : Hid (∀ k y, Below x.heap.size x y → Calls Tryz.prog 8 #[.slice P n c, .bool k] y fun e w' => DsR y e w'))
  (C1 : Hid (∀ y, Below x.heap.size x y → Calls Tryz.prog 9 #[.int .i64 m] y fun e w' => MdP true y e w'))
  (C2 : Hid (∀ y, Below x.heap.size x y → Calls Tryz.prog 10 #[.int .i64 m] y fun e w' => MdP true y e w'))
  (CL : Hid (∀ y, Below x.heap.size x y → Calls Tryz.prog 6 #[] y fun e w' => LiP y e w')) :
  Calls Tryz.prog 5 #[.slice P n c, .int .i64 m] x fun e w' => e = .returned (.bool true) ∧ Below x.heap.size x w' := by
 have A0 : Hid (Below x.heap.size x x) := Hn (Below.refl _ _)
 go_enter Tryz.func5, Tryz.ntmps5
 go_upto_region 2 with (go_at_call 8; refine (CD.out true _ A0.out).mono ?_; intro e w1 hm; obtain ⟨⟨u1, v1, rfl⟩, hb⟩ := hm; have B1 := Hn hb; clear hb)
 go_upto_region 3 with (go_at_call 8; refine (CD.out false _ B1.out).mono ?_; intro e w2 hm; obtain ⟨⟨u2, v2, rfl⟩, hb⟩ := hm; have B2 := Hn (bl_trans B1.out hb); clear hb)
 clear CD
 go_wp2_with (first | (go_at_call 9; refine (C1.out _ B2.out).mono ?_; intro e w3 hm; obtain ⟨⟨k3, rfl⟩, hb⟩ := MdP.yes hm; have B3 := Hn (bl_trans B2.out hb); clear hb hm C1) | (go_at_call 10; refine (C2.out _ B3.out).mono ?_; intro e w4 hm; obtain ⟨⟨k4, rfl⟩, hb⟩ := MdP.yes hm; have B4 := Hn (bl_trans B3.out hb); clear hb hm C2) | (go_at_call 6; refine (CL.out _ B4.out).mono ?_; rintro e w5 ⟨rfl, hb⟩; have B5 := Hn (bl_trans B4.out hb); clear hb CL))
 exact bodyPost_ret (v := .bool true) (by simp [results, Tryz.results5, go_sem]) rfl ⟨rfl, B5.out⟩
theorem law_n (P : Option Addr) (n c : Nat) (m : Int) (x : World) (CD : Hid (∀ k y, Below x.heap.size x y → Calls Tryz.prog 8 #[.slice P n c, .bool k] y fun e w' => DsR y e w'))
  (C1 : Hid (∀ y, Below x.heap.size x y → Calls Tryz.prog 9 #[.int .i64 m] y fun e w' => MdP false y e w'))
  (C2 : Hid (∀ y, Below x.heap.size x y → Calls Tryz.prog 10 #[.int .i64 m] y fun e w' => MdP false y e w'))
  (CL : Hid (∀ y, Below x.heap.size x y → Calls Tryz.prog 6 #[] y fun e w' => LiP y e w')) :
  Calls Tryz.prog 5 #[.slice P n c, .int .i64 m] x fun e w' => e = .returned (.bool true) ∧ Below x.heap.size x w' := by
 have A0 : Hid (Below x.heap.size x x) := Hn (Below.refl _ _)
 go_enter Tryz.func5, Tryz.ntmps5
 go_upto_region 2 with (go_at_call 8; refine (CD.out true _ A0.out).mono ?_; intro e w1 hm; obtain ⟨⟨u1, v1, rfl⟩, hb⟩ := hm; have B1 := Hn hb; clear hb)
 go_upto_region 3 with (go_at_call 8; refine (CD.out false _ B1.out).mono ?_; intro e w2 hm; obtain ⟨⟨u2, v2, rfl⟩, hb⟩ := hm; have B2 := Hn (bl_trans B1.out hb); clear hb)
 clear CD
 go_wp2_with (first | (go_at_call 9; refine (C1.out _ B2.out).mono ?_; intro e w3 hm; obtain ⟨rfl, hb⟩ := MdP.no hm; have B3 := Hn (bl_trans B2.out hb); clear hb hm C1) | (go_at_call 10; refine (C2.out _ B3.out).mono ?_; intro e w4 hm; obtain ⟨rfl, hb⟩ := MdP.no hm; have B4 := Hn (bl_trans B3.out hb); clear hb hm C2) | (go_at_call 6; refine (CL.out _ B4.out).mono ?_; rintro e w5 ⟨rfl, hb⟩; have B5 := Hn (bl_trans B4.out hb); clear hb CL))
 exact bodyPost_ret (v := .bool true) (by simp [results, Tryz.results5, go_sem]) rfl ⟨rfl, B5.out⟩
theorem desks_law (P : Option Addr) (n c : Nat) (g : Nat → E4) (m : Int) (x : World) (hT : Tb x) (hs : (⟨P, n, c, g⟩ : Sl).at x) (hn : n ≤ 4398046511104) :
  Calls Tryz.prog 5 #[.slice P n c, .int .i64 m] x fun e w' => e = .returned (.bool true) ∧ Below x.heap.size x w' := by
 have CD := Hn (fun (k : Bool) (y : World) (hb : Below x.heap.size x y) => desks_any P n c g y (hs.keep hb) hn (hT.keep hb) k)
 have C1 := fun (y : World) (hb : Below x.heap.size x y) => Unknown_any m y (hT.keep hb)
 have C2 := fun (y : World) (hb : Below x.heap.size x y) => rNew_all m y
 have CL := Hn (fun (y : World) (hb : Below x.heap.size x y) => live_any y (hT.keep hb))
 cases hd : dkO m with
 | true =>
  rw [hd] at C1 C2
  exact law_y P n c m x CD (Hn C1) (Hn C2) CL
 | false =>
  rw [hd] at C1 C2
  exact law_n P n c m x CD (Hn C1) (Hn C2) CL
end Ci
end Go.Proofs.YtebmaneogekhjaaGreatDoor
