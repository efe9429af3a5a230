import Derived.Test.YthngomhhafoamaaGreatDoorWz
set_option linter.unusedVariables false
set_option maxRecDepth 100000
set_option maxHeartbeats 4000000
namespace Go.Proofs.YthngomhhafoamaaGreatDoor.Tr
open Go.RowKit
theorem ct_good (bs : List UInt8) (most : Nat) (h : (ct bs most).2.2 = 0) : (ct bs most).2.1 ≤ bs.length ∧ 1 ≤ (ct bs most).2.1 := by
 by_cases h0 : (nm bs 18446744073709551615).2.2 = 0
 ·by_cases h1 : most < (nm bs 18446744073709551615).1
  ·rw [ct_more h0 h1] at h; simp at h
  ·rw [ct_ok h0 h1]
   have := nm_ok bs 18446744073709551615 h0
   exact ⟨this.2.2.1, this.2.2.2.2.1⟩
 ·rw [ct_bad h0] at h
  exact absurd h h0
theorem ct_fault (bs : List UInt8) (most : Nat) (h : (ct bs most).2.2 ≠ 0) : (ct bs most).1 = 0 ∧ (ct bs most).2.1 = 0 := by
 by_cases h0 : (nm bs 18446744073709551615).2.2 = 0
 ·by_cases h1 : most < (nm bs 18446744073709551615).1
  ·rw [ct_more h0 h1]; exact ⟨rfl, rfl⟩
  ·rw [ct_ok h0 h1] at h
   exact absurd h0 h
 ·rw [ct_bad h0]
  exact ⟨rfl, rfl⟩
theorem ct_most (bs : List UInt8) (most : Nat) : (ct bs most).1 ≤ most := by
 by_cases h0 : (nm bs 18446744073709551615).2.2 = 0
 ·by_cases h1 : most < (nm bs 18446744073709551615).1
  ·rw [ct_more h0 h1]; exact Nat.zero_le _
  ·rw [ct_ok h0 h1]; omega
 ·rw [ct_bad h0]
  exact Nat.zero_le _
theorem read64_b {w : World} {g c X : Nat} {P : Option Addr} {bs : List UInt8} (most : Nat) (h : Rd w g P c bs 0) (hl : bs.length ≤ 2 ^ 62) (hX : w.cell? ⟨X, 0, none⟩ = some (.int .u64 (most : Int))) :
  Calls Tryz.prog 66 #[.pointer (some ⟨g, 0, none⟩), .func (.func 67) #[] #[.pointer (some ⟨X, 0, none⟩)]] w fun e w' => ∃ (P' : Option Addr) (c' : Nat), e = .returned (.int .u64 ((nm bs most).1 : Int)) ∧ Rd w' g P' c' (bs.drop (nm bs most).2.1) ((nm bs most).2.2 : Int) ∧ Kp g w w' ∧ (∀ a', P' = some a' → ∃ a, P = some a ∧ a'.block = a.block) := by
 have E := Hn (err_any h)
 have T := Hn (told_any P c X bs most w h.by' hl hX)
 have x0 := h.c0
 have f0 := h.f 0
 have hok := nm_ok bs most
 have hbad := nm_fault bs most
 by_cases h0 : (nm bs most).2.2 = 0
 ·obtain ⟨-, -, h1, -, h2, -⟩ := hok h0
  rw [h0] at T
  obtain ⟨b, o, rfl⟩ := h.by'.none' (by omega)
  generalize nm bs most = x at *
  obtain ⟨n, s, e⟩ := x
  dsimp only at *
  subst h0
  have n0 : (s : Int) ≤ (bs.length : Int) := by omega
  have n1 : (0 : Int) ≤ (s : Int) := by omega
  have hc := h.cap
  have HR := Hn h
  clear hok hbad hl h
  by_cases hcs : c = s
  ·subst hcs
   obtain rfl : c = bs.length := by omega
   have HM := Hn (HR.out.move bs.length o 0 0 (by omega) (by omega) (by rw [List.drop_length]; exact ⟨fun e => (by cases e), fun a ha j u hu => (by simp [cb] at hu)⟩))
   go_enter Tryz.func66, Tryz.ntmps66
   go_wp2_with (first | (go_at_call 72; refine E.out.mono ?_; rintro r w2 ⟨rfl, rfl⟩; clear E) | (go_at_call 67; refine T.out.mono ?_; rintro r w2 ⟨rfl, rfl⟩; clear T))
   refine bodyPost_ret (v := .int .u64 (n : Int)) (by simp [results, Tryz.results66, go_sem]) rfl ⟨_, _, rfl, HM.out, Kp.grown (grown_set _ _ _ _), fun a' ha' => ?_⟩
   obtain rfl := Option.some.inj ha'
   exact ⟨_, rfl, rfl⟩
  ·have n2 : ¬ c = s := hcs
   have HM := Hn (HR.out.move s (o + s) (bs.length - s) (c - s) rfl (by omega) (HR.out.by'.drop s _))
   go_enter Tryz.func66, Tryz.ntmps66
   go_wp2_with (first | (go_at_call 72; refine E.out.mono ?_; rintro r w2 ⟨rfl, rfl⟩; clear E) | (go_at_call 67; refine T.out.mono ?_; rintro r w2 ⟨rfl, rfl⟩; clear T))
   refine bodyPost_ret (v := .int .u64 (n : Int)) (by simp [results, Tryz.results66, go_sem]) rfl ⟨_, _, rfl, HM.out, Kp.grown (grown_set _ _ _ _), fun a' ha' => ?_⟩
   obtain rfl := Option.some.inj ha'
   exact ⟨_, rfl, rfl⟩
 ·obtain ⟨h1, h2, -⟩ := hbad h0
  have F := Hn (fail_any h ((nm bs most).2.2 : Int))
  have HM := Hn (h.fail ((nm bs most).2.2 : Int))
  have n0 : (((nm bs most).2.2 : Int) != 0) = true := by simpa using h0
  rw [h1, h2, List.drop_zero]
  rw [h1, h2] at T
  generalize (nm bs most).2.2 = e at *
  clear hok hbad hl h h0 h1 h2
  go_enter Tryz.func66, Tryz.ntmps66
  go_wp2_with (first | (go_at_call 72; refine E.out.mono ?_; rintro r w2 ⟨rfl, rfl⟩; clear E) | (go_at_call 67; refine T.out.mono ?_; rintro r w2 ⟨rfl, rfl⟩; clear T) | (go_at_call 76; refine F.out.mono ?_; rintro r w2 ⟨rfl, rfl⟩; clear F))
  refine bodyPost_ret (v := .int .u64 0) (by simp [results, Tryz.results66, go_sem]) rfl ⟨_, _, rfl, HM.out, Kp.grown (grown_set _ _ _ _), fun a' ha' => ?_⟩
  exact ⟨_, ha', rfl⟩
theorem Number_b {w : World} {g c : Nat} {P : Option Addr} {bs : List UInt8} (most : Nat) (h : Rd w g P c bs 0) (hl : bs.length ≤ 2 ^ 62) :
  Calls Tryz.prog 43 #[.pointer (some ⟨g, 0, none⟩), .int .u64 (most : Int)] w fun e w' => ∃ (P' : Option Addr) (c' : Nat), e = .returned (.int .u64 ((nm bs most).1 : Int)) ∧ Rd w' g P' c' (bs.drop (nm bs most).2.1) ((nm bs most).2.2 : Int) ∧ Kp g w w' ∧ (∀ a', P' = some a' → ∃ a, P = some a ∧ a'.block = a.block) := by
 have hmf : ∀ (fn : Fn) (first cap : Array Value) (w : World), (Instr.makeFunc fn first cap).run Tryz.prog w = .ok (.func fn first cap) w := fun _ _ _ _ => rfl
 have R := Hn (read64_b most (h.keep (bl_alloc w (.cells #[.int .u64 (most : Int)] 33))) hl (box_cell w _ _))
 have K := Hn (Kp.of (g := g) (bl_alloc w (.cells #[.int .u64 (most : Int)] 33)))
 generalize nm bs most = x at *
 clear h hl
 go_enter Tryz.func43, Tryz.ntmps43
 go_wp2_with (first | (go_at_call 66; refine R.out.mono ?_; rintro r w2 ⟨P', c', rfl, hr, hk, hp⟩; have HR := Hn hr; have HK := Hn hk; have HP := Hn hp; clear R hr hk hp))
 refine bodyPost_ret (v := .int .u64 (x.1 : Int)) (by simp [results, Tryz.results43, go_sem]) rfl ⟨_, _, rfl, HR.out, K.out.trans HK.out, HP.out⟩
end Go.Proofs.YthngomhhafoamaaGreatDoor.Tr
