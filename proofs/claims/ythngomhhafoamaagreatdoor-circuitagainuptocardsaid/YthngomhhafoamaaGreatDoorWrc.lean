import Derived.Test.YthngomhhafoamaaGreatDoorWrb
set_option linter.unusedVariables false
set_option linter.unusedSimpArgs false
set_option maxRecDepth 100000
set_option maxHeartbeats 4000000
namespace Go.Proofs.YthngomhhafoamaaGreatDoor.Tr
open Go.RowKit
theorem listToldT (P : Option Addr) (c X Y : Nat) (bs : List UInt8) (most : Nat) (w : World) (hB : By w P c bs) (hl : bs.length ≤ 2 ^ 62) (hX : w.cell? ⟨X, 0, none⟩ = some (.func (.func 74) #[] #[])) (hY : w.cell? ⟨Y, 0, none⟩ = some (.int .i64 (most : Int))) (hm : most ≤ 1048576) :
  Calls Tryz.prog 88 #[.slice P bs.length c, .pointer (some ⟨X, 0, none⟩), .pointer (some ⟨Y, 0, none⟩)] w fun e w' => e = .returned (.tuple #[.int .i64 ((ct bs most).1 : Int), .int .i64 ((ct bs most).2.1 : Int), .int .i64 ((ct bs most).2.2 : Int)]) ∧ w' = w := by
 have N := Hn (count_any P c bs most w hB hl (by omega))
 have m1 : (most : Int) ≤ 1048576 := by omega
 have m2 : ¬ (1048576 : Int) < (most : Int) := by omega
 have ef : ∀ w : World, (binOp .eql 117 (.func (.func 74) #[] #[]) .nilFunc).run Tryz.prog w = .ok (.bool false) w := fun w => by kernel_rfl
 generalize ct bs most = x at N
 clear hB hl hm
 go_enter Tryz.func88, Tryz.ntmps88
 go_wp2_with (first | (go_at_call 71; refine N.out.mono ?_; rintro r w2 ⟨rfl, rfl⟩; clear N))
 refine bodyPost_ret (v := .tuple #[.int .i64 (x.1 : Int), .int .i64 (x.2.1 : Int), .int .i64 (x.2.2 : Int)]) (by simp [results, Tryz.results88, go_sem]) rfl ⟨rfl, rfl⟩
theorem readI_bT {w : World} {g c X Y : Nat} {P : Option Addr} {bs : List UInt8} (most : Nat) (h : Rd w g P c bs 0) (hl : bs.length ≤ 2 ^ 62) (hX : w.cell? ⟨X, 0, none⟩ = some (.func (.func 74) #[] #[])) (hY : w.cell? ⟨Y, 0, none⟩ = some (.int .i64 (most : Int))) (hm : most ≤ 1048576) :
  Calls Tryz.prog 69 #[.pointer (some ⟨g, 0, none⟩), .func (.func 88) #[] #[.pointer (some ⟨X, 0, none⟩), .pointer (some ⟨Y, 0, none⟩)]] w fun e w' => ∃ (P' : Option Addr) (c' : Nat), e = .returned (.int .i64 ((ct bs most).1 : Int)) ∧ Rd w' g P' c' (bs.drop (ct bs most).2.1) ((ct bs most).2.2 : Int) ∧ Kp g w w' ∧ (∀ a', P' = some a' → ∃ a, P = some a ∧ a'.block = a.block) := by
 have E := Hn (err_any h)
 have T := Hn (listToldT P c X Y bs most w h.by' hl hX hY hm)
 have x0 := h.c0
 have f0 := h.f 0
 have hok := ct_good bs most
 have hbad := ct_fault bs most
 by_cases h0 : (ct bs most).2.2 = 0
 ·obtain ⟨h1, h2⟩ := hok h0
  rw [h0] at T
  obtain ⟨b, o, rfl⟩ := h.by'.none' (by omega)
  generalize ct bs most = x at *
  obtain ⟨n, s, e⟩ := x
  dsimp only at *
  subst h0
  have n0 : (s : Int) ≤ (bs.length : Int) := by omega
  have n1 : (0 : Int) ≤ (s : Int) := by omega
  have hc := h.cap
  have HR := Hn h
  clear hok hbad hl h hm
  by_cases hcs : c = s
  ·subst hcs
   obtain rfl : c = bs.length := by omega
   have HM := Hn (HR.out.move bs.length o 0 0 (by omega) (by omega) (by rw [List.drop_length]; exact ⟨fun e => (by cases e), fun a ha j u hu => (by simp [cb] at hu)⟩))
   go_enter Tryz.func69, Tryz.ntmps69
   go_wp2_with (first | (go_at_call 72; refine E.out.mono ?_; rintro r w2 ⟨rfl, rfl⟩; clear E) | (go_at_call 88; refine T.out.mono ?_; rintro r w2 ⟨rfl, rfl⟩; clear T))
   refine bodyPost_ret (v := .int .i64 (n : Int)) (by simp [results, Tryz.results69, go_sem]) rfl ⟨_, _, rfl, HM.out, Kp.grown (grown_set _ _ _ _), fun a' ha' => ?_⟩
   obtain rfl := Option.some.inj ha'
   exact ⟨_, rfl, rfl⟩
  ·have n2 : ¬ c = s := hcs
   have HM := Hn (HR.out.move s (o + s) (bs.length - s) (c - s) rfl (by omega) (HR.out.by'.drop s _))
   go_enter Tryz.func69, Tryz.ntmps69
   go_wp2_with (first | (go_at_call 72; refine E.out.mono ?_; rintro r w2 ⟨rfl, rfl⟩; clear E) | (go_at_call 88; refine T.out.mono ?_; rintro r w2 ⟨rfl, rfl⟩; clear T))
   refine bodyPost_ret (v := .int .i64 (n : Int)) (by simp [results, Tryz.results69, go_sem]) rfl ⟨_, _, rfl, HM.out, Kp.grown (grown_set _ _ _ _), fun a' ha' => ?_⟩
   obtain rfl := Option.some.inj ha'
   exact ⟨_, rfl, rfl⟩
 ·obtain ⟨h1, h2⟩ := hbad h0
  have F := Hn (fail_any h ((ct bs most).2.2 : Int))
  have HM := Hn (h.fail ((ct bs most).2.2 : Int))
  have n0 : (((ct bs most).2.2 : Int) != 0) = true := by simpa using h0
  rw [h1, h2, List.drop_zero]
  rw [h1, h2] at T
  generalize (ct bs most).2.2 = e at *
  clear hok hbad hl h h0 h1 h2 hm
  go_enter Tryz.func69, Tryz.ntmps69
  go_wp2_with (first | (go_at_call 72; refine E.out.mono ?_; rintro r w2 ⟨rfl, rfl⟩; clear E) | (go_at_call 88; refine T.out.mono ?_; rintro r w2 ⟨rfl, rfl⟩; clear T) | (go_at_call 76; refine F.out.mono ?_; rintro r w2 ⟨rfl, rfl⟩; clear F))
  refine bodyPost_ret (v := .int .i64 0) (by simp [results, Tryz.results69, go_sem]) rfl ⟨_, _, rfl, HM.out, Kp.grown (grown_set _ _ _ _), fun a' ha' => ?_⟩
  exact ⟨_, ha', rfl⟩
theorem listToldL (sb : Nat) (P : Option Addr) (c X Y : Nat) (bs : List UInt8) (most : Nat) (w : World) (hB : By w P c bs) (hl : bs.length ≤ 2 ^ 62) (hX : w.cell? ⟨X, 0, none⟩ = some (.func (.func 45) #[.pointer (some ⟨sb, 0, none⟩)] #[])) (hY : w.cell? ⟨Y, 0, none⟩ = some (.int .i64 (most : Int))) (hm : most ≤ 1048576) :
  Calls Tryz.prog 70 #[.slice P bs.length c, .pointer (some ⟨X, 0, none⟩), .pointer (some ⟨Y, 0, none⟩)] w fun e w' => e = .returned (.tuple #[.int .i64 ((ct bs most).1 : Int), .int .i64 ((ct bs most).2.1 : Int), .int .i64 ((ct bs most).2.2 : Int)]) ∧ w' = w := by
 have N := Hn (count_any P c bs most w hB hl (by omega))
 have m1 : (most : Int) ≤ 1048576 := by omega
 have m2 : ¬ (1048576 : Int) < (most : Int) := by omega
 have ef : ∀ w : World, (binOp .eql 85 (.func (.func 45) #[.pointer (some ⟨sb, 0, none⟩)] #[]) .nilFunc).run Tryz.prog w = .ok (.bool false) w := fun w => by kernel_rfl
 generalize ct bs most = x at N
 clear hB hl hm
 go_enter Tryz.func70, Tryz.ntmps70
 go_wp2_with (first | (go_at_call 71; refine N.out.mono ?_; rintro r w2 ⟨rfl, rfl⟩; clear N))
 refine bodyPost_ret (v := .tuple #[.int .i64 (x.1 : Int), .int .i64 (x.2.1 : Int), .int .i64 (x.2.2 : Int)]) (by simp [results, Tryz.results70, go_sem]) rfl ⟨rfl, rfl⟩
theorem readI_bL (sb : Nat) {w : World} {g c X Y : Nat} {P : Option Addr} {bs : List UInt8} (most : Nat) (h : Rd w g P c bs 0) (hl : bs.length ≤ 2 ^ 62) (hX : w.cell? ⟨X, 0, none⟩ = some (.func (.func 45) #[.pointer (some ⟨sb, 0, none⟩)] #[])) (hY : w.cell? ⟨Y, 0, none⟩ = some (.int .i64 (most : Int))) (hm : most ≤ 1048576) :
  Calls Tryz.prog 69 #[.pointer (some ⟨g, 0, none⟩), .func (.func 70) #[] #[.pointer (some ⟨X, 0, none⟩), .pointer (some ⟨Y, 0, none⟩)]] w fun e w' => ∃ (P' : Option Addr) (c' : Nat), e = .returned (.int .i64 ((ct bs most).1 : Int)) ∧ Rd w' g P' c' (bs.drop (ct bs most).2.1) ((ct bs most).2.2 : Int) ∧ Kp g w w' ∧ (∀ a', P' = some a' → ∃ a, P = some a ∧ a'.block = a.block) := by
 have E := Hn (err_any h)
 have T := Hn (listToldL sb P c X Y bs most w h.by' hl hX hY hm)
 have x0 := h.c0
 have f0 := h.f 0
 have hok := ct_good bs most
 have hbad := ct_fault bs most
 by_cases h0 : (ct bs most).2.2 = 0
 ·obtain ⟨h1, h2⟩ := hok h0
  rw [h0] at T
  obtain ⟨b, o, rfl⟩ := h.by'.none' (by omega)
  generalize ct bs most = x at *
  obtain ⟨n, s, e⟩ := x
  dsimp only at *
  subst h0
  have n0 : (s : Int) ≤ (bs.length : Int) := by omega
  have n1 : (0 : Int) ≤ (s : Int) := by omega
  have hc := h.cap
  have HR := Hn h
  clear hok hbad hl h hm
  by_cases hcs : c = s
  ·subst hcs
   obtain rfl : c = bs.length := by omega
   have HM := Hn (HR.out.move bs.length o 0 0 (by omega) (by omega) (by rw [List.drop_length]; exact ⟨fun e => (by cases e), fun a ha j u hu => (by simp [cb] at hu)⟩))
   go_enter Tryz.func69, Tryz.ntmps69
   go_wp2_with (first | (go_at_call 72; refine E.out.mono ?_; rintro r w2 ⟨rfl, rfl⟩; clear E) | (go_at_call 70; refine T.out.mono ?_; rintro r w2 ⟨rfl, rfl⟩; clear T))
   refine bodyPost_ret (v := .int .i64 (n : Int)) (by simp [results, Tryz.results69, go_sem]) rfl ⟨_, _, rfl, HM.out, Kp.grown (grown_set _ _ _ _), fun a' ha' => ?_⟩
   obtain rfl := Option.some.inj ha'
   exact ⟨_, rfl, rfl⟩
  ·have n2 : ¬ c = s := hcs
   have HM := Hn (HR.out.move s (o + s) (bs.length - s) (c - s) rfl (by omega) (HR.out.by'.drop s _))
   go_enter Tryz.func69, Tryz.ntmps69
   go_wp2_with (first | (go_at_call 72; refine E.out.mono ?_; rintro r w2 ⟨rfl, rfl⟩; clear E) | (go_at_call 70; refine T.out.mono ?_; rintro r w2 ⟨rfl, rfl⟩; clear T))
   refine bodyPost_ret (v := .int .i64 (n : Int)) (by simp [results, Tryz.results69, go_sem]) rfl ⟨_, _, rfl, HM.out, Kp.grown (grown_set _ _ _ _), fun a' ha' => ?_⟩
   obtain rfl := Option.some.inj ha'
   exact ⟨_, rfl, rfl⟩
 ·obtain ⟨h1, h2⟩ := hbad h0
  have F := Hn (fail_any h ((ct bs most).2.2 : Int))
  have HM := Hn (h.fail ((ct bs most).2.2 : Int))
  have n0 : (((ct bs most).2.2 : Int) != 0) = true := by simpa using h0
  rw [h1, h2, List.drop_zero]
  rw [h1, h2] at T
  generalize (ct bs most).2.2 = e at *
  clear hok hbad hl h h0 h1 h2 hm
  go_enter Tryz.func69, Tryz.ntmps69
  go_wp2_with (first | (go_at_call 72; refine E.out.mono ?_; rintro r w2 ⟨rfl, rfl⟩; clear E) | (go_at_call 70; refine T.out.mono ?_; rintro r w2 ⟨rfl, rfl⟩; clear T) | (go_at_call 76; refine F.out.mono ?_; rintro r w2 ⟨rfl, rfl⟩; clear F))
  refine bodyPost_ret (v := .int .i64 0) (by simp [results, Tryz.results69, go_sem]) rfl ⟨_, _, rfl, HM.out, Kp.grown (grown_set _ _ _ _), fun a' ha' => ?_⟩
  exact ⟨_, ha', rfl⟩
theorem readI_no {w : World} {g c : Nat} {P : Option Addr} {bs : List UInt8} {e : Int} (f : Value) (h : Rd w g P c bs e) (he : e ≠ 0) :
  Calls Tryz.prog 69 #[.pointer (some ⟨g, 0, none⟩), f] w fun r w' => r = .returned (.int .i64 0) ∧ w' = w := by
 have E := Hn (err_any h)
 have n0 : (e != 0) = true := by simpa using he
 clear h he
 go_enter Tryz.func69, Tryz.ntmps69
 go_wp2_with (first | (go_at_call 72; refine E.out.mono ?_; rintro r w2 ⟨rfl, rfl⟩; clear E))
 refine bodyPost_ret (v := .int .i64 0) (by simp [results, Tryz.results69, go_sem]) rfl ⟨rfl, rfl⟩
end Go.Proofs.YthngomhhafoamaaGreatDoor.Tr
