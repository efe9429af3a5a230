import Derived.Test.YtebmaneogekhjaaGreatDoorDmf
namespace Go.Proofs.YtebmaneogekhjaaGreatDoor
open Go.RowKit
set_option linter.unusedVariables false
set_option linter.unusedSimpArgs false
open Cm (Wr Tm co bf Ls lf ins Eqm)
namespace Ci
set_option maxRecDepth 100000
set_option maxHeartbeats 16000000
theorem nothing_any {x : World} {dv : Value} (h : Nd x dv) : Calls Tryz.prog 7 #[dv] x fun e w' => e = .returned (.bool true) ∧ Below x.heap.size x w' := by
 have HN := hidden h
 have C1 := hidden (Value0 h)
 clear h
 go_enter Tryz.func7, Tryz.ntmps7
 go_upto_region 2 with (go_at_call 12; refine C1.out.mono ?_; rintro e w0 ⟨rfl, hw1⟩; have hw2 := hw1.symm; clear hw1; subst hw2; clear C1)
 have C2 := hidden (Number0 HN.out)
 go_upto_region 3 with (go_at_call 14; refine C2.out.mono ?_; rintro e w1 ⟨rfl, hb⟩; have B1 := hidden hb; clear hb C2)
 have HB := hidden (heap_alloc_new w1 (.cells #[.int .u64 0, .int .u64 0, .int .u64 0, .int .u64 0] 47))
 have BX : Hid (Below x.heap.size x (w1.alloc (.cells #[.int .u64 0, .int .u64 0, .int .u64 0, .int .u64 0] 47))) := hidden (bl_trans B1.out (bl_alloc w1 _))
 obtain ⟨xb, hxb⟩ : ∃ xb, w1.heap.size = xb := ⟨_, rfl⟩
 obtain ⟨x1, hx1⟩ : ∃ x1, w1.alloc (.cells #[.int .u64 0, .int .u64 0, .int .u64 0, .int .u64 0] 47) = x1 := ⟨_, rfl⟩
 rw [hx1] at HB BX ⊢
 rw [hxb] at HB
 simp only [hxb]
 clear hx1 hxb B1
 have C3 := hidden (Multiply0 (HN.out.keep BX.out))
 go_upto_region 4 with (go_at_call 13; refine C3.out.mono ?_; rintro e w2 ⟨rfl, hb⟩; have B2 := hidden hb; clear hb C3)
 have C4 := hidden (Product0 (HN.out.keep (bl_trans BX.out B2.out)))
 go_upto_region 5 with (go_at_call 20; refine C4.out.mono ?_; rintro e w0 ⟨rfl, hw1⟩; have hw2 := hw1.symm; clear hw1; subst hw2; clear C4)
 have C5 := hidden (Bits0 (HN.out.keep (bl_trans BX.out B2.out)))
 go_upto_region 6 with (go_at_call 21; refine C5.out.mono ?_; rintro e w3 ⟨rfl, hb⟩; have B3 := hidden (bl_trans B2.out hb); clear hb C5)
 have C6 := hidden (Choose0 (HN.out.keep (bl_trans BX.out B3.out)))
 go_upto_region 7 with (go_at_call 22; refine C6.out.mono ?_; rintro e w4 ⟨rfl, hb⟩; have B4 := hidden (bl_trans B3.out hb); clear hb C6)
 have C7 := hidden (Power0 (HN.out.keep (bl_trans BX.out B4.out)))
 go_upto_region 8 with (go_at_call 23; refine C7.out.mono ?_; rintro e w5 ⟨rfl, hb⟩; have B5 := hidden (bl_trans B4.out hb); clear hb C7)
 have C8 := hidden (Assign0 (HN.out.keep (bl_trans BX.out B5.out)))
 go_upto_region 9 with (go_at_call 17; refine C8.out.mono ?_; rintro e w6 ⟨rfl, hb⟩; have B6 := hidden (bl_trans B5.out hb); clear hb C8)
 have B7 : Hid (Below x1.heap.size x1 (w6.alloc (.cells #[.slice none 0 0, .slice none 0 0, .slice none 0 0, .slice none 0 0] 59))) := hidden (bl_trans B6.out (bl_alloc w6 _))
 have H7 := hidden (heap_alloc_new w6 (.cells #[.slice none 0 0, .slice none 0 0, .slice none 0 0, .slice none 0 0] 59))
 obtain ⟨xa, hxa⟩ : ∃ xa, w6.heap.size = xa := ⟨_, rfl⟩
 obtain ⟨x2, hx2⟩ : ∃ x2, w6.alloc (.cells #[.slice none 0 0, .slice none 0 0, .slice none 0 0, .slice none 0 0] 59) = x2 := ⟨_, rfl⟩
 rw [hx2] at B7 H7 ⊢
 rw [hxa] at H7
 simp only [hxa]
 clear hx2 hxa B2 B3 B4 B5 B6
 have HB2 := hidden ((B7.out.block xb (Array.getElem?_eq_some_iff.1 HB.out).1).trans HB.out)
 have BY := hidden (bl_trans BX.out B7.out)
 have N2 := hidden (HN.out.keep BY.out)
 have C9 := hidden (System0 N2.out)
 have hq : ∀ w, (Op.equalIn 10000 47 (.agg #[.int .u64 0, .int .u64 0, .int .u64 0, .int .u64 0]) (.agg #[.int .u64 0, .int .u64 0, .int .u64 0, .int .u64 0])).run Tryz.prog w = .ok true w := fun w => eq4 ⟨0, 0, 0, 0⟩ ⟨0, 0, 0, 0⟩ w
 have b0 := cell_of_row x2 xb 0 _ _ (0, 0) HB2.out
 have b1 := cell_of_row x2 xb 1 _ _ (0, 0) HB2.out
 have b2 := cell_of_row x2 xb 2 _ _ (0, 0) HB2.out
 have b3 := cell_of_row x2 xb 3 _ _ (0, 0) HB2.out
 have a0 := cell_of_row x2 xa 0 _ _ (0, 0) H7.out
 have a3 := cell_of_row x2 xa 3 _ _ (0, 0) H7.out
 clear BX B7 HN HB
 go_upto_region 11 with (go_at_call 16; refine C9.out.mono ?_; rintro e w0 ⟨rfl, hw1⟩; have hw2 := hw1.symm; clear hw1; subst hw2; clear C9)
 clear b0 b1 b2 b3 a0 a3 hq
 refine no11 _ dv _ _ _ _ _ _ _ _ _ _ _ _ _ _ _ _ _ _ _ _ _ _ _ _ _ _ _ _ _ _ _ _ _ _ _ _ _ _ _ _ _ _ _ _ _ _ _ _ _ _ _ _ _ _ _ _ _ _ _ _ _ _ _ _ _ _ _ _ _ _ _ _ _ _ _ _ _ _ _ _ _ _ _ _ _ _ _ _ _ _ _ _ _ _ _ _ _ _ _ _ _ _ _ _ _ _ _ _ _ _ _ _ _ _ _ _ _ _ _ _ _ _ _ _ _ _ _ _ _ _ _ _ _ x2 ⟨hidden (fun y hb => Zero0 (N2.out.keep hb)), hidden (fun y hb => Equal0 (N2.out.keep hb)), hidden (fun y hb => NotZero0 (N2.out.keep hb)), hidden (fun y hb => Bit0 (N2.out.keep hb)), hidden (fun y hb => (Member0 (N2.out.keep hb)).mono (fun e w' h => ⟨h.1, by rw [h.2]; exact Below.refl _ _⟩)), hidden (fun y hb => Less0 (N2.out.keep hb)), hidden (fun u v y hb => Shuffle0 (N2.out.keep hb) u v)⟩ (hidden ?_)
 intro wz mb tb hb hrg
 have BZ := hidden (bl_trans BY.out hb)
 have RG := hidden hrg
 clear hb hrg BY N2 HB2 H7
 go_wp2_with fail
 go_loopw [20] (fun iv w' => ∃ i : Nat, i ≤ 14 ∧ iv = .int .i64 (i : Int) ∧ w' = wz) (fun i _ => 14 - (intOf i).toNat)
 case atStart => exact ⟨0, by omega, rfl, by first | rfl | trivial⟩
 case round =>
  obtain ⟨i, hi, rfl, rfl⟩ := hrel
  by_cases hin : i < 14
  ·have i1 : (i : Int) < 14 := by omega
   have i0 : (0 : Int) ≤ (i : Int) := by omega
   have w9 : IntKind.i64.wrap ((i : Int) + 1) = (i : Int) + 1 := IntWalk.i64_in _ (by omega)
   have c0 : wr.cell? ⟨tb, i, none⟩ = some (.int .i64 1) := by
    have := RG.out i (.int .i64 1) (by rw [List.getElem?_replicate]; simp [hin])
    simpa using this
   go_wp2_with fail
   go_roundw
   case rel => exact ⟨i + 1, by omega, by go_num, by first | rfl | trivial⟩
   case measure => simp [intOf]; omega
  ·obtain rfl : i = 14 := by omega
   go_wp2_with fail
   exact bodyPost_ret (v := .bool true) (by simp [results, Tryz.results7, go_sem]) rfl ⟨rfl, BZ.out⟩
theorem nil_law (x : World) (hT : Tb x) : Calls Tryz.prog 4 #[] x fun e w' => e = .returned (.bool true) ∧ Below x.heap.size x w' := by
 have C0 := hidden (live_any x hT)
 have C1 := hidden (fun (y : World) => nothing_any (x := y) (.inl rfl))
 have C2 := hidden (fun (y : World) => nothing_any (x := y.alloc (.cells #[.pointer none, .nilFunc, .nilFunc, .nilFunc, .nilFunc, .int .i64 0] 34)) (dv := .pointer (some ⟨y.heap.size, 0, none⟩)) (.inr ⟨y.heap.size, rfl, cell_of_row _ _ 0 _ _ (0, 0) (heap_alloc_new y _)⟩))
 clear hT
 go_enter Tryz.func4, Tryz.ntmps4
 go_wp2_with (first | (go_at_call 6; refine C0.out.mono ?_; rintro e w1 ⟨rfl, hb⟩; have B1 := hidden hb; clear hb C0) | (go_at_call 7; refine (C1.out _).mono ?_; rintro e w2 ⟨rfl, hb⟩; have B2 := hidden hb; clear hb C1) | (go_at_call 7; refine (C2.out _).mono ?_; rintro e w3 ⟨rfl, hb⟩; have B3 := hidden hb; clear hb C2))
 exact bodyPost_ret (v := .bool true) (by simp [results, Tryz.results4, go_sem]) rfl ⟨rfl, bl_trans B1.out (bl_trans B2.out (bl_trans (bl_alloc _ _) B3.out))⟩
end Ci
end Go.Proofs.YtebmaneogekhjaaGreatDoor
