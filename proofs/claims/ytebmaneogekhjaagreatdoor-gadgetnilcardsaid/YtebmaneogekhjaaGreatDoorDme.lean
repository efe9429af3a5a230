import Derived.Test.YtebmaneogekhjaaGreatDoorDjz
namespace Go.Proofs.YtebmaneogekhjaaGreatDoor
open Go.RowKit
set_option linter.unusedVariables false
set_option linter.unusedSimpArgs false
open Cm (Wr Tm co bf Ls lf ins Eqm)
namespace Ci
set_option maxRecDepth 100000
set_option maxHeartbeats 8000000
def Nd (w : World) (dv : Value) : Prop := dv = .pointer none ∨ ∃ k, dv = .pointer (some ⟨k, 0, none⟩) ∧ w.cell? ⟨k, 0, none⟩ = some (.pointer none)
theorem Nd.keep {x y : World} {dv : Value} (h : Nd x dv) (hb : Below x.heap.size x y) : Nd y dv := by
 rcases h with h | ⟨k, h, hc⟩
 ·exact .inl h
 ·exact .inr ⟨k, h, cell_keep hc hb⟩
section
variable {x : World} {dv : Value}
theorem none0 (h : Nd x dv) : Calls Tryz.prog 38 #[dv] x fun e w' => e = .returned (.bool true) ∧ w' = x := by
 rcases h with rfl | ⟨k, rfl, hc⟩
 ·go_enter Tryz.func38, Tryz.ntmps38
  go_wp2_with fail
  exact bodyPost_ret (v := .bool true) (by simp [results, Tryz.results38, go_sem]) rfl ⟨rfl, rfl⟩
 ·go_enter Tryz.func38, Tryz.ntmps38
  go_wp2_with fail
  exact bodyPost_ret (v := .bool true) (by simp [results, Tryz.results38, go_sem]) rfl ⟨rfl, rfl⟩
theorem whole0 (h : Nd x dv) (f s : Value) : Calls Tryz.prog 52 #[dv, f, s] x fun e w' => e = .returned (.tuple #[.slice none 0 0, .int .i64 1]) ∧ w' = x := by
 have C0 := hidden (none0 h)
 clear h
 go_enter Tryz.func52, Tryz.ntmps52
 go_wp2_with (go_at_call 38; refine C0.out.mono ?_; rintro e w0 ⟨rfl, hw1⟩; have hw2 := hw1.symm; clear hw1; subst hw2; clear C0)
 exact bodyPost_ret (v := .tuple #[.slice none 0 0, .int .i64 1]) (by simp [results, Tryz.results52, go_sem]) rfl ⟨rfl, rfl⟩
theorem one0 (h : Nd x dv) (f s : Value) : Calls Tryz.prog 41 #[dv, f, s] x fun e w' => e = .returned (.tuple #[.slice none 0 0, .int .i64 1]) ∧ w' = x := by
 have C0 := hidden (whole0 h f s)
 clear h
 go_enter Tryz.func41, Tryz.ntmps41
 go_wp2_with (go_at_call 52; refine C0.out.mono ?_; rintro e w0 ⟨rfl, hw1⟩; have hw2 := hw1.symm; clear hw1; subst hw2; clear C0)
 exact bodyPost_ret (v := .tuple #[.slice none 0 0, .int .i64 1]) (by simp [results, Tryz.results41, go_sem]) rfl ⟨rfl, rfl⟩
theorem only0 (h : Nd x dv) (f s : Value) : Calls Tryz.prog 43 #[dv, f, s] x fun e w' => e = .returned (.int .i64 1) ∧ w' = x := by
 have C0 := hidden (whole0 h f s)
 clear h
 go_enter Tryz.func43, Tryz.ntmps43
 go_wp2_with (go_at_call 52; refine C0.out.mono ?_; rintro e w0 ⟨rfl, hw1⟩; have hw2 := hw1.symm; clear hw1; subst hw2; clear C0)
 exact bodyPost_ret (v := .int .i64 1) (by simp [results, Tryz.results43, go_sem]) rfl ⟨rfl, rfl⟩
theorem Value0 (h : Nd x dv) : Calls Tryz.prog 12 #[dv, .int .i64 0] x fun e w' => e = .returned (.tuple #[.slice none 0 0, .int .i64 1]) ∧ w' = x := by
 have C0 := hidden (none0 h)
 clear h
 go_enter Tryz.func12, Tryz.ntmps12
 go_wp2_with (go_at_call 38; refine C0.out.mono ?_; rintro e w0 ⟨rfl, hw1⟩; have hw2 := hw1.symm; clear hw1; subst hw2; clear C0)
 exact bodyPost_ret (v := .tuple #[.slice none 0 0, .int .i64 1]) (by simp [results, Tryz.results12, go_sem]) rfl ⟨rfl, rfl⟩
theorem Multiply0 (h : Nd x dv) : Calls Tryz.prog 13 #[dv, .slice none 0 0, .slice none 0 0] x fun e w' => e = .returned (.tuple #[.slice none 0 0, .int .i64 1]) ∧ Below x.heap.size x w' := by
 have BL := bl_alloc x (.cells #[.slice none 0 0, .slice none 0 0] 49)
 have BB := hidden BL
 have C0 := hidden (fun f s => one0 (h.keep BL) f s)
 clear h BL
 go_enter Tryz.func13, Tryz.ntmps13
 go_wp2_with (go_at_call 41; refine (C0.out _ _).mono ?_; rintro e w0 ⟨rfl, hw1⟩; have hw2 := hw1.symm; clear hw1; subst hw2; clear C0)
 exact bodyPost_ret (v := .tuple #[.slice none 0 0, .int .i64 1]) (by simp [results, Tryz.results13, go_sem]) rfl ⟨rfl, BB.out⟩
theorem Product0 (h : Nd x dv) : Calls Tryz.prog 20 #[dv, .slice none 0 0] x fun e w' => e = .returned (.tuple #[.slice none 0 0, .int .i64 1]) ∧ w' = x := by
 have C0 := hidden (fun f s => one0 h f s)
 clear h
 go_enter Tryz.func20, Tryz.ntmps20
 go_wp2_with (go_at_call 41; refine (C0.out _ _).mono ?_; rintro e w0 ⟨rfl, hw1⟩; have hw2 := hw1.symm; clear hw1; subst hw2; clear C0)
 exact bodyPost_ret (v := .tuple #[.slice none 0 0, .int .i64 1]) (by simp [results, Tryz.results20, go_sem]) rfl ⟨rfl, rfl⟩
theorem Choose0 (h : Nd x dv) : Calls Tryz.prog 22 #[dv, .slice none 0 0, .slice none 0 0, .slice none 0 0] x fun e w' => e = .returned (.tuple #[.slice none 0 0, .int .i64 1]) ∧ Below x.heap.size x w' := by
 have BL := bl_alloc x (.cells #[.slice none 0 0, .slice none 0 0, .slice none 0 0] 49)
 have BB := hidden BL
 have C0 := hidden (fun f s => one0 (h.keep BL) f s)
 clear h BL
 go_enter Tryz.func22, Tryz.ntmps22
 go_wp2_with (go_at_call 41; refine (C0.out _ _).mono ?_; rintro e w0 ⟨rfl, hw1⟩; have hw2 := hw1.symm; clear hw1; subst hw2; clear C0)
 exact bodyPost_ret (v := .tuple #[.slice none 0 0, .int .i64 1]) (by simp [results, Tryz.results22, go_sem]) rfl ⟨rfl, BB.out⟩
theorem Zero0 (h : Nd x dv) : Calls Tryz.prog 24 #[dv, .slice none 0 0] x fun e w' => e = .returned (.int .i64 1) ∧ Below x.heap.size x w' := by
 have BL := bl_alloc x (.cells #[.slice none 0 0] 49)
 have BB := hidden BL
 have C0 := hidden (fun f s => only0 (h.keep BL) f s)
 clear h BL
 go_enter Tryz.func24, Tryz.ntmps24
 go_wp2_with (go_at_call 43; refine (C0.out _ _).mono ?_; rintro e w0 ⟨rfl, hw1⟩; have hw2 := hw1.symm; clear hw1; subst hw2; clear C0)
 exact bodyPost_ret (v := .int .i64 1) (by simp [results, Tryz.results24, go_sem]) rfl ⟨rfl, BB.out⟩
theorem Equal0 (h : Nd x dv) : Calls Tryz.prog 25 #[dv, .slice none 0 0, .slice none 0 0] x fun e w' => e = .returned (.int .i64 1) ∧ Below x.heap.size x w' := by
 have BL := bl_alloc x (.cells #[.slice none 0 0, .slice none 0 0] 49)
 have BB := hidden BL
 have C0 := hidden (fun f s => only0 (h.keep BL) f s)
 clear h BL
 go_enter Tryz.func25, Tryz.ntmps25
 go_wp2_with (go_at_call 43; refine (C0.out _ _).mono ?_; rintro e w0 ⟨rfl, hw1⟩; have hw2 := hw1.symm; clear hw1; subst hw2; clear C0)
 exact bodyPost_ret (v := .int .i64 1) (by simp [results, Tryz.results25, go_sem]) rfl ⟨rfl, BB.out⟩
theorem NotZero0 (h : Nd x dv) : Calls Tryz.prog 26 #[dv, .slice none 0 0] x fun e w' => e = .returned (.int .i64 1) ∧ Below x.heap.size x w' := by
 have BL := bl_alloc x (.cells #[.slice none 0 0] 49)
 have BB := hidden BL
 have C0 := hidden (fun f s => only0 (h.keep BL) f s)
 clear h BL
 go_enter Tryz.func26, Tryz.ntmps26
 go_wp2_with (go_at_call 43; refine (C0.out _ _).mono ?_; rintro e w0 ⟨rfl, hw1⟩; have hw2 := hw1.symm; clear hw1; subst hw2; clear C0)
 exact bodyPost_ret (v := .int .i64 1) (by simp [results, Tryz.results26, go_sem]) rfl ⟨rfl, BB.out⟩
theorem Bit0 (h : Nd x dv) : Calls Tryz.prog 27 #[dv, .slice none 0 0] x fun e w' => e = .returned (.int .i64 1) ∧ Below x.heap.size x w' := by
 have BL := bl_alloc x (.cells #[.slice none 0 0] 49)
 have BB := hidden BL
 have C0 := hidden (fun f s => only0 (h.keep BL) f s)
 clear h BL
 go_enter Tryz.func27, Tryz.ntmps27
 go_wp2_with (go_at_call 43; refine (C0.out _ _).mono ?_; rintro e w0 ⟨rfl, hw1⟩; have hw2 := hw1.symm; clear hw1; subst hw2; clear C0)
 exact bodyPost_ret (v := .int .i64 1) (by simp [results, Tryz.results27, go_sem]) rfl ⟨rfl, BB.out⟩
theorem Member0 (h : Nd x dv) : Calls Tryz.prog 28 #[dv, .slice none 0 0, .slice none 0 0] x fun e w' => e = .returned (.int .i64 1) ∧ w' = x := by
 clear h
 go_enter Tryz.func28, Tryz.ntmps28
 go_wp2_with (fail)
 exact bodyPost_ret (v := .int .i64 1) (by simp [results, Tryz.results28, go_sem]) rfl ⟨rfl, rfl⟩
theorem bits0 (h : Nd x dv) (n : Int) : Calls Tryz.prog 53 #[dv, .int .i64 n] x fun e w' => ∃ bd bn, e = .returned (.func (.func 91) #[] #[.pointer (some ⟨bd, 0, none⟩), .pointer (some ⟨bn, 0, none⟩)]) ∧ Below x.heap.size x w' := by
 rcases h with rfl | ⟨k, rfl, hc⟩
 ·go_enter Tryz.func53, Tryz.ntmps53
  go_wp2_with fail
  exact bodyPost_ret (v := .func (.func 91) #[] #[.pointer (some ⟨x.heap.size, 0, none⟩), .pointer (some ⟨x.heap.size + 1, 0, none⟩)]) (by simp [results, Tryz.results53, go_sem]) rfl ⟨_, _, rfl, bl_alloc2 _ _ _⟩
 ·clear hc
  go_enter Tryz.func53, Tryz.ntmps53
  go_wp2_with fail
  exact bodyPost_ret (v := .func (.func 91) #[] #[.pointer (some ⟨x.heap.size, 0, none⟩), .pointer (some ⟨x.heap.size + 1, 0, none⟩)]) (by simp [results, Tryz.results53, go_sem]) rfl ⟨_, _, rfl, bl_alloc2 _ _ _⟩
theorem less0 (h : Nd x dv) (n : Int) : Calls Tryz.prog 44 #[dv, .int .i64 n] x fun e w' => (∃ v, e = .returned v) ∧ Below x.heap.size x w' := by
 have C0 := hidden (bits0 h n)
 clear h
 go_enter Tryz.func44, Tryz.ntmps44
 go_wp2_with (first | (go_at_call 53; refine C0.out.mono ?_; rintro e w1 ⟨bd, bn, rfl, h5⟩; have B1 := hidden h5; clear h5 C0) | (refine wpList_stB rfl 94 _ _ rfl w1.heap.size 0 bd bn rfl rfl (there_newM w1 [.nilFunc] 94) i1_pc rfl ?_; intro w2 hw; have HW := hidden hw; clear hw))
 have gb : (w1.alloc (.cells #[.nilFunc] 94)).grownBy w2 (some w1.heap.size) := by rw [HW.out]; exact gb_setCells _ _ _ _
 have b2 : Below w1.heap.size w1 w2 := below_tr (bl_alloc w1 _) (below_grown gb (by simp) (fun k hk => by rw [← Option.some.inj hk]; exact Nat.le_refl _))
 exact bodyPost_ret (v := .func (.func 81) #[] #[.pointer (some ⟨w1.heap.size, 0, none⟩)]) (by simp [results, Tryz.results44, go_sem]) rfl ⟨⟨_, rfl⟩, bl_trans B1.out b2⟩
theorem power0 (h : Nd x dv) (n : Int) : Calls Tryz.prog 55 #[dv, .int .i64 n] x fun e w' => (∃ v, e = .returned v) ∧ Below x.heap.size x w' := by
 rcases h with rfl | ⟨k, rfl, hc⟩
 ·go_enter Tryz.func55, Tryz.ntmps55
  go_wp2_with fail
  exact bodyPost_ret (v := .func (.func 95) #[] #[.pointer (some ⟨x.heap.size + 1, 0, none⟩), .pointer (some ⟨x.heap.size, 0, none⟩)]) (by simp [results, Tryz.results55, go_sem]) rfl ⟨⟨_, rfl⟩, bl_alloc2 _ _ _⟩
 ·clear hc
  go_enter Tryz.func55, Tryz.ntmps55
  go_wp2_with fail
  exact bodyPost_ret (v := .func (.func 95) #[] #[.pointer (some ⟨x.heap.size + 1, 0, none⟩), .pointer (some ⟨x.heap.size, 0, none⟩)]) (by simp [results, Tryz.results55, go_sem]) rfl ⟨⟨_, rfl⟩, bl_alloc2 _ _ _⟩
theorem Bits0 (h : Nd x dv) : Calls Tryz.prog 21 #[dv, .slice none 0 0, .int .i64 1] x fun e w' => e = .returned (.tuple #[.slice none 0 0, .int .i64 1]) ∧ Below x.heap.size x w' := by
 have C0 := hidden (bits0 h 1)
 have C1 := hidden (fun y (hb : Below x.heap.size x y) f s => whole0 (h.keep hb) f s)
 clear h
 go_enter Tryz.func21, Tryz.ntmps21
 go_wp2_with (first | (go_at_call 53; refine C0.out.mono ?_; rintro e w1 ⟨bd, bn, rfl, hb⟩; have BB := hidden (bl_trans hb (bl_alloc w1 (.cells #[.slice none 0 0] 49))); clear hb C0) | (go_at_call 52; refine (C1.out _ BB.out _ _).mono ?_; rintro e w0 ⟨rfl, hw1⟩; have hw2 := hw1.symm; clear hw1; subst hw2; clear C1))
 exact bodyPost_ret (v := .tuple #[.slice none 0 0, .int .i64 1]) (by simp [results, Tryz.results21, go_sem]) rfl ⟨rfl, BB.out⟩
theorem Power0 (h : Nd x dv) : Calls Tryz.prog 23 #[dv, .slice none 0 0, .int .i64 0] x fun e w' => e = .returned (.tuple #[.slice none 0 0, .int .i64 1]) ∧ Below x.heap.size x w' := by
 have C0 := hidden (power0 h 0)
 have C1 := hidden (fun y (hb : Below x.heap.size x y) f s => one0 (h.keep hb) f s)
 clear h
 go_enter Tryz.func23, Tryz.ntmps23
 go_wp2_with (first | (go_at_call 55; refine C0.out.mono ?_; rintro e w1 ⟨⟨vf, rfl⟩, hb⟩; have BB := hidden (bl_trans hb (bl_alloc w1 (.cells #[.slice none 0 0] 49))); clear hb C0) | (go_at_call 41; refine (C1.out _ BB.out _ _).mono ?_; rintro e w0 ⟨rfl, hw1⟩; have hw2 := hw1.symm; clear hw1; subst hw2; clear C1))
 exact bodyPost_ret (v := .tuple #[.slice none 0 0, .int .i64 1]) (by simp [results, Tryz.results23, go_sem]) rfl ⟨rfl, BB.out⟩
theorem Less0 (h : Nd x dv) : Calls Tryz.prog 15 #[dv, .slice none 0 0, .slice none 0 0, .int .i64 1] x fun e w' => e = .returned (.int .i64 1) ∧ Below x.heap.size x w' := by
 have C0 := hidden (less0 h 1)
 have C1 := hidden (fun y (hb : Below x.heap.size x y) f s => only0 (h.keep hb) f s)
 clear h
 go_enter Tryz.func15, Tryz.ntmps15
 go_wp2_with (first | (go_at_call 44; refine C0.out.mono ?_; rintro e w1 ⟨⟨vf, rfl⟩, hb⟩; have BB := hidden (bl_trans hb (bl_alloc w1 (.cells #[.slice none 0 0, .slice none 0 0] 49))); clear hb C0) | (go_at_call 43; refine (C1.out _ BB.out _ _).mono ?_; rintro e w0 ⟨rfl, hw1⟩; have hw2 := hw1.symm; clear hw1; subst hw2; clear C1))
 exact bodyPost_ret (v := .int .i64 1) (by simp [results, Tryz.results15, go_sem]) rfl ⟨rfl, BB.out⟩
theorem System0 (h : Nd x dv) : Calls Tryz.prog 16 #[dv] x fun e w' => e = .returned (.pointer none) ∧ w' = x := by
 have C0 := hidden (none0 h)
 clear h
 go_enter Tryz.func16, Tryz.ntmps16
 go_wp2_with (go_at_call 38; refine C0.out.mono ?_; rintro e w0 ⟨rfl, hw1⟩; have hw2 := hw1.symm; clear hw1; subst hw2; clear C0)
 exact bodyPost_ret (v := .pointer none) (by simp [results, Tryz.results16, go_sem]) rfl ⟨rfl, rfl⟩
theorem Number0 (h : Nd x dv) : Calls Tryz.prog 14 #[dv, .slice none 0 0] x fun e w' => e = .returned (.tuple #[.agg #[.int .u64 0, .int .u64 0, .int .u64 0, .int .u64 0], .bool false]) ∧ Below x.heap.size x w' := by
 have BL := bl_alloc x (.cells #[.int .u64 0, .int .u64 0, .int .u64 0, .int .u64 0] 47)
 have BB := hidden BL
 have C0 := hidden (none0 (h.keep BL))
 clear h BL
 go_enter Tryz.func14, Tryz.ntmps14
 go_wp2_with (go_at_call 38; refine C0.out.mono ?_; rintro e w0 ⟨rfl, hw1⟩; have hw2 := hw1.symm; clear hw1; subst hw2; clear C0)
 exact bodyPost_ret (v := .tuple #[.agg #[.int .u64 0, .int .u64 0, .int .u64 0, .int .u64 0], .bool false]) (by simp [results, Tryz.results14, go_sem]) rfl ⟨rfl, BB.out⟩
theorem Assign0 (h : Nd x dv) : Calls Tryz.prog 17 #[dv] x fun e w' => e = .returned (.tuple #[.agg #[.slice none 0 0, .slice none 0 0, .slice none 0 0, .slice none 0 0], .bool false]) ∧ Below x.heap.size x w' := by
 have BL := bl_alloc x (.cells #[.slice none 0 0, .slice none 0 0, .slice none 0 0, .slice none 0 0] 59)
 have BB := hidden BL
 have C0 := hidden (none0 (h.keep BL))
 clear h BL
 go_enter Tryz.func17, Tryz.ntmps17
 go_wp2_with (go_at_call 38; refine C0.out.mono ?_; rintro e w0 ⟨rfl, hw1⟩; have hw2 := hw1.symm; clear hw1; subst hw2; clear C0)
 exact bodyPost_ret (v := .tuple #[.agg #[.slice none 0 0, .slice none 0 0, .slice none 0 0, .slice none 0 0], .bool false]) (by simp [results, Tryz.results17, go_sem]) rfl ⟨rfl, BB.out⟩
theorem Shuffle0 (h : Nd x dv) (u v : Value) : Calls Tryz.prog 29 #[dv, u, v, .agg #[.int .u64 0, .int .u64 0, .int .u64 0, .int .u64 0]] x fun e w' => e = .returned (.int .i64 1) ∧ Below x.heap.size x w' := by
 have BL := bl_alloc x (.cells #[.int .u64 0, .int .u64 0, .int .u64 0, .int .u64 0] 47)
 have BB := hidden BL
 have C0 := hidden (none0 (h.keep BL))
 clear h BL
 go_enter Tryz.func29, Tryz.ntmps29
 go_wp2_with (go_at_call 38; refine C0.out.mono ?_; rintro e w0 ⟨rfl, hw1⟩; have hw2 := hw1.symm; clear hw1; subst hw2; clear C0)
 exact bodyPost_ret (v := .int .i64 1) (by simp [results, Tryz.results29, go_sem]) rfl ⟨rfl, BB.out⟩
end
end Ci
end Go.Proofs.YtebmaneogekhjaaGreatDoor
