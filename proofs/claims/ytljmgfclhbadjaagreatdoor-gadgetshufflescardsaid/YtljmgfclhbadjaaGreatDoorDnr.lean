import Derived.Test.YtljmgfclhbadjaaGreatDoorTk
import Derived.Test.YtljmgfclhbadjaaGreatDoorDnq
namespace Go.Proofs.YtljmgfclhbadjaaGreatDoor
open Go.RowKit
set_option linter.unusedVariables false
set_option linter.unusedSimpArgs false
open Cm (Wr Tm co bf Ls lf ins Eqm)
namespace Ci
set_option maxRecDepth 100000
set_option maxHeartbeats 16000000
def Lp : Nat := 7237005577332262213973186563042994240857116359379907606001950938285454250989
theorem pLp : Nt.Prime Lp := Nt.pL
theorem Lp_L : ((Lp : Nat) : Int) = Sm.L := rfl
theorem same_lst (a b : Int) : (lst a).same (lst b) = true ↔ (Lp : Int) ∣ b - a := by
 rw [E4.same_iff, Lp_L]
 constructor
 ·intro h
  have e : a % Sm.L = b % Sm.L := by rw [← lst_n, ← lst_n, h]
  exact Int.dvd_of_emod_eq_zero (md_to e.symm)
 ·intro h
  exact lst_congr (md_of (Int.emod_eq_zero_of_dvd h)).symm
def Um (w : World) (ub n : Nat) (u : Nat → Bool) : Prop := ∃ arr, w.heap[ub]? = some (.cells arr 4 (0, 0)) ∧ arr.size = n ∧ ∀ j, j < n → arr[j]? = some (.bool (u j))
section
variable {w y : World} {ub n j : Nat} {u : Nat → Bool}
theorem Um.keep (h : Um w ub n u) (hb : Below w.heap.size w y) : Um y ub n u := by
 obtain ⟨arr, h1, h2⟩ := h
 exact ⟨arr, (hb.block ub (Array.getElem?_eq_some_iff.1 h1).1).trans h1, h2⟩
theorem Um.cell (h : Um w ub n u) (hj : j < n) : w.cell? ⟨ub, j, none⟩ = some (.bool (u j)) := by
 obtain ⟨arr, h1, h2, h3⟩ := h
 rw [cell_of_row w ub j arr _ (0, 0) h1]
 exact h3 j hj
theorem Um.fz (h : Um w ub n u) : w.frozen? ⟨ub, j, none⟩ = false := by
 obtain ⟨arr, h1, h2, h3⟩ := h
 exact frozen_of_row w ub j _ _ h1
theorem Um.set (h : Um w ub n u) (hj : j < n) : Um (w.setCell ⟨ub, j, none⟩ (.bool true)) ub n (Sh.us u j) := by
 obtain ⟨arr, h1, h2, h3⟩ := h
 refine ⟨_, heap_setCell_same w ub j arr _ (.bool true) h1, by simp [h2], fun k hk => ?_⟩
 unfold Sh.us
 by_cases e : k = j
 ·subst e
  rw [if_pos rfl, Array.getElem?_setIfInBounds_self_of_lt (by omega)]
 ·rw [if_neg e, Array.getElem?_setIfInBounds_ne (fun e9 => e e9.symm)]
  exact h3 k hk
theorem made_bool (n : Nat) : madeCells (Value.bool false).cells (n * 1) = (List.replicate n (Value.bool false)).toArray := by
 refine Array.ext (by simp [madeCells]) fun i h1 h2 => ?_
 simp [madeCells, Value.cells, Nat.mod_one]
end
theorem wpList_makeU {w : World} {ops : Array Oper} {rest : List Oper} {o : Oper} {a : Act} {Q : Exit → Act → World → Prop} (hgd : o.guard = none) (x : Operand)
  (ho : o.op = .makeSlice 95 x x) (n : Nat) (hx : a.eval x = .int .i64 (n : Int)) (hn : n ≤ 1000)
  (h : ∀ w', Um w' w.heap.size n (fun _ => false) → Below w.heap.size w w' → wpList Tryz.prog ops Q rest (a.put o.dst (.slice (some ⟨w.heap.size, 0, none⟩) n n)) w') : wpList Tryz.prog ops Q (o :: rest) a w := by
 refine wpList_plain hgd fun K hK => ?_
 have h1 : Tryz.prog.underlying 95 = some (.slice 4) := by kernel_rfl
 have hi : Tryz.prog.info? 4 = some (Tryz.prog.info? 4).get! := by kernel_rfl
 have hz : (Tryz.prog.info? 4).get!.zero = some (.bool false) := by kernel_rfl
 have hs : (Tryz.prog.info? 4).get!.size = 1 := by kernel_rfl
 have hy : (Tryz.prog.info? 4).get!.bytes = 1 := by kernel_rfl
 have hr := run_make (P := Tryz.prog) w 95 4 _ _ h1 hi hz .i64 .i64 n n (by omega) (Int.le_refl _) (by rw [hy]; omega) (by omega)
 simp only [Int.toNat_natCast, hs, made_bool] at hr
 unfold Oper.wp execOp
 simp only [ho, hx, Sem.run_bind, Sem.run_pure, Result.andThen_ok, hr]
 exact hK _ _ (h _ ⟨_, heap_alloc_new w _, by simp, fun j hj => by simp [hj]⟩ (bl_alloc w _))
def PeP (n : Nat) (X Y : Nat → Int) (x : World) (e : Ending) (w' : World) : Prop := Below x.heap.size x w' ∧ ((e = .returned (.bool true) ∧ Sh.Agr Lp (Sh.la X n) (Sh.la Y n)) ∨ (e = .returned (.bool false) ∧ ¬ Sh.Agr Lp (Sh.la X n) (Sh.la Y n)))
theorem Sl.at.row {s : Sl} {w : World} (h : s.at w) (hn : 0 < s.n) : ∃ b o, s.p = some ⟨b, o, none⟩ ∧ R4 w b o s.n s.g := by
 obtain ⟨b, o, h1, h2⟩ := h.at'
 exact ⟨b, o, h1 hn, h2 hn⟩
theorem permuted_any (a b : Sl) (x : World) (ha : a.at x) (hb : b.at x) (hn : a.n ≤ 40) (he : b.n = a.n) :
  Calls Tryz.prog 10 #[.slice a.p a.n a.c, .slice b.p b.n b.c] x fun e w' => PeP a.n (fun j => (a.g j).n) (fun j => (b.g j).n) x e w' := by
 obtain ⟨Pa, na, ca, ga⟩ := a
 obtain ⟨Pb, n, cb, gb⟩ := b
 simp only at hn he
 subst he
 have HA := Hn (And.intro ha hb)
 have HN := Hn hn
 clear ha hb hn
 go_enter Tryz.func10, Tryz.ntmps10
 go_wp2_with (refine wpList_makeU rfl _ rfl n rfl (by have := HN.out; omega) ?_; intro w1 hu hb; have U0 := Hn hu; have B0 := Hn hb; clear hu hb)
 go_loopw [6] (fun iv w' => ∃ (i : Nat) (u : Nat → Bool), i ≤ n ∧ iv = .int .i64 (i : Int) ∧ Hid (Below x.heap.size x w' ∧ Um w' x.heap.size n u ∧ Sh.Gr Lp (fun j => (ga j).n) (fun j => (gb j).n) n i u)) (fun i _ => n - (intOf i).toNat)
 case atStart => exact ⟨0, _, by omega, rfl, Hn ⟨B0.out, U0.out, Sh.Gr.start _ _ _⟩⟩
 case round =>
  clear U0 B0
  obtain ⟨i, u, hi, rfl, HV⟩ := hrel
  by_cases hin : i < n
  ·have i1 : (i : Int) < (n : Int) := by omega
   have i0 : (0 : Int) ≤ (i : Int) := by omega
   have w9 : IntKind.i64.wrap ((i : Int) + 1) = (i : Int) + 1 := IntWalk.i64_in _ (by have := HN.out; omega)
   obtain ⟨xb, xo, hxp, RA⟩ := HA.out.1.row (show 0 < n by omega)
   obtain ⟨yb, yo, hyp, RB⟩ := HA.out.2.row (show 0 < n by omega)
   simp only at hxp hyp
   subst hxp
   subst hyp
   have ZA := Hn RA
   have ZB := Hn RB
   have OK := Hn (And.intro (HA.out.1.ok i hin) (fun j (hj : j < n) => HA.out.2.ok j hj))
   clear RA RB
   go_wp2_with fail
   go_loopw [7, 8] (fun fv jv w' => ∃ j : Nat, j ≤ n ∧ jv = .int .i64 (j : Int) ∧ ((fv = .bool false ∧ Hid (Below x.heap.size x w' ∧ Um w' x.heap.size n u ∧ ∀ k, k < j → u k = false → ¬ (Lp : Int) ∣ (gb k).n - (ga i).n)) ∨ (fv = .bool true ∧ Hid (∃ u', Below x.heap.size x w' ∧ Um w' x.heap.size n u' ∧ Sh.Gr Lp (fun j => (ga j).n) (fun j => (gb j).n) n (i + 1) u')))) (fun fv jv _ => match fv with | .bool true => 0 | _ => n + 1 - (intOf jv).toNat)
   case atStart => exact ⟨0, by omega, rfl, .inl ⟨rfl, Hn ⟨HV.out.1, HV.out.2.1, fun k hk => absurd hk (Nat.not_lt_zero _)⟩⟩⟩
   case round =>
    obtain ⟨j, hj, rfl, hcase⟩ := hrel
    rcases hcase with ⟨rfl, HI⟩ | ⟨rfl, HF⟩
    ·by_cases hjn : j < n
     ·have j1 : (j : Int) < (n : Int) := by omega
      have j0 : (0 : Int) ≤ (j : Int) := by omega
      have w8 : IntKind.i64.wrap ((j : Int) + 1) = (j : Int) + 1 := IntWalk.i64_in _ (by have := HN.out; omega)
      have q0 := HI.out.2.1.cell hjn
      go_upto_region 9 with fail
      by_cases hu : u j = true
      ·rw [hu] at q0
       refine pm9a _ x.heap.size n n j _ _ _ _ _ _ _ _ _ _ _ _ _ _ _ _ _ _ _ _ _ _ _ _ _ _ _ _ _ _ _ _ _ _ _ _ _ _ _ _ _ _ _ _ _ _ _ _ _ _ _ _ _ _ _ j0 j1 q0 (Hn ?_)
       intro wz hbz
       have BZ := Hn hbz
       clear hbz q0
       go_wp2_with fail
       go_roundw
       case rel => exact ⟨j + 1, by omega, by go_num, .inl ⟨rfl, Hn ⟨bl_trans HI.out.1 BZ.out, HI.out.2.1.keep BZ.out, fun k hk hk2 => by
        by_cases e : k = j
        ·subst e; rw [hu] at hk2; cases hk2
        ·exact HI.out.2.2 k (by omega) hk2⟩⟩⟩
       case measure => simp [intOf]; omega
      ·have hu2 : u j = false := by simpa using hu
       rw [hu2] at q0
       obtain ⟨ev, hev⟩ : ∃ ev, (lst (ga i).n).same (lst (gb j).n) = ev := ⟨_, rfl⟩
       refine pm9b _ x.heap.size n n j i xb xo ca yb yo cb (ga i) (gb j) (lst (ga i).n) (lst (gb j).n) ev _ _ _ _ _ _ _ _ _ _ _ _ _ _ _ _ _ _ _ _ _ _ _ _ _ _ _ _ _ _ _ _ _ _ _ _ _ _ _ _ _ _ _ _ _ _ _ _ _ _ _ _ j0 j1 q0 i0 i1 (bl_cellO HI.out.1 (ZA.out.c0 i hin)) (bl_cellO HI.out.1 (ZA.out.c1 i hin)) (bl_cellO HI.out.1 (ZA.out.c2 i hin)) (bl_cellO HI.out.1 (ZA.out.c3 i hin)) (bl_cellO HI.out.1 (ZB.out.c0 j hjn)) (bl_cellO HI.out.1 (ZB.out.c1 j hjn)) (bl_cellO HI.out.1 (ZB.out.c2 j hjn)) (bl_cellO HI.out.1 (ZB.out.c3 j hjn)) (Hn (fun y => by have h9 := requal (lst (ga i).n) (lst (gb j).n) y; rw [hev] at h9; exact h9)) (Hn (fun y => by have c := fix (R := lst (ga i).n) (rleast_any (ga i) y OK.out.1) rfl; simp only [E4.v] at c; exact c)) (Hn (fun y => by have c := fix (R := lst (gb j).n) (rleast_any (gb j) y (OK.out.2 j hjn)) rfl; simp only [E4.v] at c; exact c)) (Hn ?_)
       intro wz hbz
       have BZ := Hn hbz
       have UZ := Hn (HI.out.2.1.keep hbz)
       have EV := Hn hev
       clear hbz q0 hev
       cases ev with
       | false =>
        go_wp2_with fail
        go_roundw
        case rel => exact ⟨j + 1, by omega, by go_num, .inl ⟨rfl, Hn ⟨bl_trans HI.out.1 BZ.out, UZ.out, fun k hk hk2 => by
         by_cases e : k = j
         ·subst e
          intro hd
          have h9 := (same_lst _ _).2 hd
          rw [EV.out] at h9
          cases h9
         ·exact HI.out.2.2 k (by omega) hk2⟩⟩⟩
        case measure => simp [intOf]; omega
       | true =>
        have q1 := UZ.out.cell hjn
        have q2 : wz.frozen? ⟨x.heap.size, j, none⟩ = false := UZ.out.fz
        have bs : Below x.heap.size wz (wz.setCell ⟨x.heap.size, j, none⟩ (.bool true)) := below_grown (gb_setCells x.heap.size [.bool true] j wz) (Nat.le_trans HI.out.1.size BZ.out.size) (fun k hk => by rw [← Option.some.inj hk]; exact Nat.le_refl _)
        have FE := Hn (show ∃ u', Below x.heap.size x (wz.setCell ⟨x.heap.size, j, none⟩ (.bool true)) ∧ Um (wz.setCell ⟨x.heap.size, j, none⟩ (.bool true)) x.heap.size n u' ∧ Sh.Gr Lp (fun j => (ga j).n) (fun j => (gb j).n) n (i + 1) u' from ⟨Sh.us u j, below_tr (bl_trans HI.out.1 BZ.out) bs, UZ.out.set hjn, HV.out.2.2.next hjn hu2 ((same_lst _ _).1 EV.out)⟩)
        clear bs
        go_wp2_with fail
        go_roundw
        case rel => exact ⟨j + 1, by omega, by go_num, .inr ⟨rfl, FE⟩⟩
        case measure => simp [intOf]; omega
     ·obtain rfl : j = n := by omega
      have lq : ¬ (j : Int) < (j : Int) := by omega
      go_wp2_with fail
      exact bodyPost_ret (v := .bool false) (by simp [results, Tryz.results10, go_sem]) rfl ⟨HI.out.1, .inr ⟨rfl, HV.out.2.2.none pLp hin (by unfold Lp; have := HN.out; omega) (fun k hk hk2 => HI.out.2.2 k hk hk2)⟩⟩
    ·obtain ⟨u', f1, f2, f3⟩ := HF.out
     have FF := Hn (And.intro f1 (And.intro f2 f3))
     clear f1 f2 f3
     by_cases hjn : (j : Int) < (n : Int)
     ·go_wp2_with fail
      go_roundw
      case rel => exact ⟨i + 1, u', by omega, by go_num, FF⟩
      case measure => simp [intOf]; omega
     ·go_wp2_with fail
      go_roundw
      case rel => exact ⟨i + 1, u', by omega, by go_num, FF⟩
      case measure => simp [intOf]; omega
  ·obtain rfl : i = n := by omega
   have lq : ¬ (i : Int) < (i : Int) := by omega
   go_wp2_with fail
   exact bodyPost_ret (v := .bool true) (by simp [results, Tryz.results10, go_sem]) rfl ⟨HV.out.1, .inl ⟨rfl, HV.out.2.2.done⟩⟩
end Ci
end Go.Proofs.YtljmgfclhbadjaaGreatDoor
