import Derived.Test.YtkfkmndhbfeagaaGreatDoorWr
import Derived.Laws.Small
import Derived.Test.YtkfkmndhbfeagaaGreatDoorWd
import Derived.Laws.RangeAny
import Derived.Lib.OthersKept
import Derived.Test.YtkfkmndhbfeagaaGreatDoorRows
import Derived.Test.YtkfkmndhbfeagaaGreatDoorWa
import Derived.WalkKit
import Derived.ProofKit
import Derived.OpenShut
import Derived.ChangeSlices
import Derived.Carry
import Derived.SizedLaws
namespace Go.Proofs.YtkfkmndhbfeagaaGreatDoor.Tr
open Go.RowKit
set_option linter.unusedVariables false
theorem ct_good (bs : List UInt8) (most : Nat) (h : (ct bs most).2.2 = 0) : (ct bs most).2.1 ≤ bs.length ∧ 1 ≤ (ct bs most).2.1 := by
  by_cases h0 : (nm bs 18446744073709551615).2.2 = 0
  · by_cases h1 : most < (nm bs 18446744073709551615).1
    · rw [ct_more h0 h1] at h; simp at h
    · rw [ct_ok h0 h1]
      have := nm_ok bs 18446744073709551615 h0
      exact ⟨this.2.2.1, this.2.2.2.2.1⟩
  · rw [ct_bad h0] at h
    exact absurd h h0
theorem ct_fault (bs : List UInt8) (most : Nat) (h : (ct bs most).2.2 ≠ 0) : (ct bs most).1 = 0 ∧ (ct bs most).2.1 = 0 := by
  by_cases h0 : (nm bs 18446744073709551615).2.2 = 0
  · by_cases h1 : most < (nm bs 18446744073709551615).1
    · rw [ct_more h0 h1]; exact ⟨rfl, rfl⟩
    · rw [ct_ok h0 h1] at h
      exact absurd h0 h
  · rw [ct_bad h0]
    exact ⟨rfl, rfl⟩
theorem ct_most (bs : List UInt8) (most : Nat) : (ct bs most).1 ≤ most := by
  by_cases h0 : (nm bs 18446744073709551615).2.2 = 0
  · by_cases h1 : most < (nm bs 18446744073709551615).1
    · rw [ct_more h0 h1]; exact Nat.zero_le _
    · rw [ct_ok h0 h1]; omega
  · rw [ct_bad h0]
    exact Nat.zero_le _
set_option maxRecDepth 100000
set_option maxHeartbeats 4000000
theorem read64_b {w : World} {g c X : Nat} {P : Option Addr} {bs : List UInt8} (most : Nat) (h : Rd w g P c bs 0) (hl : bs.length ≤ 2 ^ 62) (hX : w.cell? ⟨X, 0, none⟩ = some (.int .u64 (most : Int))) :
    Calls Tryz.prog 35 #[.pointer (some ⟨g, 0, none⟩), .func (.func 36) #[] #[.pointer (some ⟨X, 0, none⟩)]] w fun e w' => ∃ (P' : Option Addr) (c' : Nat), e = .returned (.int .u64 ((nm bs most).1 : Int)) ∧ Rd w' g P' c' (bs.drop (nm bs most).2.1) ((nm bs most).2.2 : Int) ∧ Kp g w w' ∧ (∀ a', P' = some a' → ∃ a, P = some a ∧ a'.block = a.block) := by
  have E := hidden (err_any h)
  have T := hidden (told_any P c X bs most w h.by' hl hX)
  have x0 := h.c0
  have f0 := h.f 0
  have hok := nm_ok bs most
  have hbad := nm_fault bs most
  by_cases h0 : (nm bs most).2.2 = 0
  · obtain ⟨-, -, h1, -, h2, -⟩ := hok h0
    rw [h0] at T
    obtain ⟨b, o, rfl⟩ := h.by'.none' (by omega)
    generalize nm bs most = x at *
    obtain ⟨n, s, e⟩ := x
    dsimp only at *
    subst h0
    have n0 : (s : Int) ≤ (bs.length : Int) := by omega
    have n1 : (0 : Int) ≤ (s : Int) := by omega
    have hc := h.cap
    have HR := hidden h
    clear hok hbad hl h
    by_cases hcs : c = s
    · subst hcs
      obtain rfl : c = bs.length := by omega
      have HM := hidden (HR.out.move bs.length o 0 0 (by omega) (by omega) (by rw [List.drop_length]; exact ⟨fun e => (by cases e), fun a ha j u hu => (by simp [cb] at hu)⟩))
      go_enter Tryz.func35, Tryz.ntmps35
      go_wp2_with (first | (go_at_call 41; refine E.out.mono ?_; rintro r w2 ⟨rfl, rfl⟩; clear E) | (go_at_call 36; refine T.out.mono ?_; rintro r w2 ⟨rfl, rfl⟩; clear T))
      refine bodyPost_ret (v := .int .u64 (n : Int)) (by simp [results, Tryz.results35, go_sem]) rfl ⟨_, _, rfl, HM.out, Kp.grown (grown_set _ _ _ _), fun a' ha' => ?_⟩
      obtain rfl := Option.some.inj ha'
      exact ⟨_, rfl, rfl⟩
    · have n2 : ¬ c = s := hcs
      have HM := hidden (HR.out.move s (o + s) (bs.length - s) (c - s) rfl (by omega) (HR.out.by'.drop s _))
      go_enter Tryz.func35, Tryz.ntmps35
      go_wp2_with (first | (go_at_call 41; refine E.out.mono ?_; rintro r w2 ⟨rfl, rfl⟩; clear E) | (go_at_call 36; refine T.out.mono ?_; rintro r w2 ⟨rfl, rfl⟩; clear T))
      refine bodyPost_ret (v := .int .u64 (n : Int)) (by simp [results, Tryz.results35, go_sem]) rfl ⟨_, _, rfl, HM.out, Kp.grown (grown_set _ _ _ _), fun a' ha' => ?_⟩
      obtain rfl := Option.some.inj ha'
      exact ⟨_, rfl, rfl⟩
  · obtain ⟨h1, h2, -⟩ := hbad h0
    have F := hidden (fail_any h ((nm bs most).2.2 : Int))
    have HM := hidden (h.fail ((nm bs most).2.2 : Int))
    have n0 : (((nm bs most).2.2 : Int) != 0) = true := by simpa using h0
    rw [h1, h2, List.drop_zero]
    rw [h1, h2] at T
    generalize (nm bs most).2.2 = e at *
    clear hok hbad hl h h0 h1 h2
    go_enter Tryz.func35, Tryz.ntmps35
    go_wp2_with (first | (go_at_call 41; refine E.out.mono ?_; rintro r w2 ⟨rfl, rfl⟩; clear E) | (go_at_call 36; refine T.out.mono ?_; rintro r w2 ⟨rfl, rfl⟩; clear T) | (go_at_call 49; refine F.out.mono ?_; rintro r w2 ⟨rfl, rfl⟩; clear F))
    refine bodyPost_ret (v := .int .u64 0) (by simp [results, Tryz.results35, go_sem]) rfl ⟨_, _, rfl, HM.out, Kp.grown (grown_set _ _ _ _), fun a' ha' => ?_⟩
    exact ⟨_, ha', rfl⟩
theorem Number_b {w : World} {g c : Nat} {P : Option Addr} {bs : List UInt8} (most : Nat) (h : Rd w g P c bs 0) (hl : bs.length ≤ 2 ^ 62) :
    Calls Tryz.prog 16 #[.pointer (some ⟨g, 0, none⟩), .int .u64 (most : Int)] w fun e w' => ∃ (P' : Option Addr) (c' : Nat), e = .returned (.int .u64 ((nm bs most).1 : Int)) ∧ Rd w' g P' c' (bs.drop (nm bs most).2.1) ((nm bs most).2.2 : Int) ∧ Kp g w w' ∧ (∀ a', P' = some a' → ∃ a, P = some a ∧ a'.block = a.block) := by
  have hmf : ∀ (fn : Fn) (first cap : Array Value) (w : World), (Instr.makeFunc fn first cap).run Tryz.prog w = .ok (.func fn first cap) w := fun _ _ _ _ => rfl
  have R := hidden (read64_b most (h.keep (bl_alloc w (.cells #[.int .u64 (most : Int)] 22))) hl (box_cell w _ _))
  have K := hidden (Kp.of (g := g) (bl_alloc w (.cells #[.int .u64 (most : Int)] 22)))
  generalize nm bs most = x at *
  clear h hl
  go_enter Tryz.func16, Tryz.ntmps16
  go_wp2_with (first | (go_at_call 35; refine R.out.mono ?_; rintro r w2 ⟨P', c', rfl, hr, hk, hp⟩; have HR := hidden hr; have HK := hidden hk; have HP := hidden hp; clear R hr hk hp))
  refine bodyPost_ret (v := .int .u64 (x.1 : Int)) (by simp [results, Tryz.results16, go_sem]) rfl ⟨_, _, rfl, HR.out, K.out.trans HK.out, HP.out⟩
theorem listTold (P : Option Addr) (c X Y : Nat) (bs : List UInt8) (most : Nat) (w : World) (hB : By w P c bs) (hl : bs.length ≤ 2 ^ 62) (hX : w.cell? ⟨X, 0, none⟩ = some (.func (.func 14) #[] #[])) (hY : w.cell? ⟨Y, 0, none⟩ = some (.int .i64 (most : Int))) (hm : most ≤ 1048576) :
    Calls Tryz.prog 39 #[.slice P bs.length c, .pointer (some ⟨X, 0, none⟩), .pointer (some ⟨Y, 0, none⟩)] w fun e w' => e = .returned (.tuple #[.int .i64 ((ct bs most).1 : Int), .int .i64 ((ct bs most).2.1 : Int), .int .i64 ((ct bs most).2.2 : Int)]) ∧ w' = w := by
  have N := hidden (count_any P c bs most w hB hl (by omega))
  have m1 : (most : Int) ≤ 1048576 := by omega
  have m2 : ¬ (1048576 : Int) < (most : Int) := by omega
  have ef : ∀ w : World, (binOp .eql 67 (.func (.func 14) #[] #[]) .nilFunc).run Tryz.prog w = .ok (.bool false) w := fun w => by kernel_rfl
  generalize ct bs most = x at N
  clear hB hl hm
  go_enter Tryz.func39, Tryz.ntmps39
  go_wp2_with (first | (go_at_call 40; refine N.out.mono ?_; rintro r w2 ⟨rfl, rfl⟩; clear N))
  refine bodyPost_ret (v := .tuple #[.int .i64 (x.1 : Int), .int .i64 (x.2.1 : Int), .int .i64 (x.2.2 : Int)]) (by simp [results, Tryz.results39, go_sem]) rfl ⟨rfl, rfl⟩
theorem readI_b {w : World} {g c X Y : Nat} {P : Option Addr} {bs : List UInt8} (most : Nat) (h : Rd w g P c bs 0) (hl : bs.length ≤ 2 ^ 62) (hX : w.cell? ⟨X, 0, none⟩ = some (.func (.func 14) #[] #[])) (hY : w.cell? ⟨Y, 0, none⟩ = some (.int .i64 (most : Int))) (hm : most ≤ 1048576) :
    Calls Tryz.prog 38 #[.pointer (some ⟨g, 0, none⟩), .func (.func 39) #[] #[.pointer (some ⟨X, 0, none⟩), .pointer (some ⟨Y, 0, none⟩)]] w fun e w' => ∃ (P' : Option Addr) (c' : Nat), e = .returned (.int .i64 ((ct bs most).1 : Int)) ∧ Rd w' g P' c' (bs.drop (ct bs most).2.1) ((ct bs most).2.2 : Int) ∧ Kp g w w' ∧ (∀ a', P' = some a' → ∃ a, P = some a ∧ a'.block = a.block) := by
  have E := hidden (err_any h)
  have T := hidden (listTold P c X Y bs most w h.by' hl hX hY hm)
  have x0 := h.c0
  have f0 := h.f 0
  have hok := ct_good bs most
  have hbad := ct_fault bs most
  by_cases h0 : (ct bs most).2.2 = 0
  · obtain ⟨h1, h2⟩ := hok h0
    rw [h0] at T
    obtain ⟨b, o, rfl⟩ := h.by'.none' (by omega)
    generalize ct bs most = x at *
    obtain ⟨n, s, e⟩ := x
    dsimp only at *
    subst h0
    have n0 : (s : Int) ≤ (bs.length : Int) := by omega
    have n1 : (0 : Int) ≤ (s : Int) := by omega
    have hc := h.cap
    have HR := hidden h
    clear hok hbad hl h hm
    by_cases hcs : c = s
    · subst hcs
      obtain rfl : c = bs.length := by omega
      have HM := hidden (HR.out.move bs.length o 0 0 (by omega) (by omega) (by rw [List.drop_length]; exact ⟨fun e => (by cases e), fun a ha j u hu => (by simp [cb] at hu)⟩))
      go_enter Tryz.func38, Tryz.ntmps38
      go_wp2_with (first | (go_at_call 41; refine E.out.mono ?_; rintro r w2 ⟨rfl, rfl⟩; clear E) | (go_at_call 39; refine T.out.mono ?_; rintro r w2 ⟨rfl, rfl⟩; clear T))
      refine bodyPost_ret (v := .int .i64 (n : Int)) (by simp [results, Tryz.results38, go_sem]) rfl ⟨_, _, rfl, HM.out, Kp.grown (grown_set _ _ _ _), fun a' ha' => ?_⟩
      obtain rfl := Option.some.inj ha'
      exact ⟨_, rfl, rfl⟩
    · have n2 : ¬ c = s := hcs
      have HM := hidden (HR.out.move s (o + s) (bs.length - s) (c - s) rfl (by omega) (HR.out.by'.drop s _))
      go_enter Tryz.func38, Tryz.ntmps38
      go_wp2_with (first | (go_at_call 41; refine E.out.mono ?_; rintro r w2 ⟨rfl, rfl⟩; clear E) | (go_at_call 39; refine T.out.mono ?_; rintro r w2 ⟨rfl, rfl⟩; clear T))
      refine bodyPost_ret (v := .int .i64 (n : Int)) (by simp [results, Tryz.results38, go_sem]) rfl ⟨_, _, rfl, HM.out, Kp.grown (grown_set _ _ _ _), fun a' ha' => ?_⟩
      obtain rfl := Option.some.inj ha'
      exact ⟨_, rfl, rfl⟩
  · obtain ⟨h1, h2⟩ := hbad h0
    have F := hidden (fail_any h ((ct bs most).2.2 : Int))
    have HM := hidden (h.fail ((ct bs most).2.2 : Int))
    have n0 : (((ct bs most).2.2 : Int) != 0) = true := by simpa using h0
    rw [h1, h2, List.drop_zero]
    rw [h1, h2] at T
    generalize (ct bs most).2.2 = e at *
    clear hok hbad hl h h0 h1 h2 hm
    go_enter Tryz.func38, Tryz.ntmps38
    go_wp2_with (first | (go_at_call 41; refine E.out.mono ?_; rintro r w2 ⟨rfl, rfl⟩; clear E) | (go_at_call 39; refine T.out.mono ?_; rintro r w2 ⟨rfl, rfl⟩; clear T) | (go_at_call 49; refine F.out.mono ?_; rintro r w2 ⟨rfl, rfl⟩; clear F))
    refine bodyPost_ret (v := .int .i64 0) (by simp [results, Tryz.results38, go_sem]) rfl ⟨_, _, rfl, HM.out, Kp.grown (grown_set _ _ _ _), fun a' ha' => ?_⟩
    exact ⟨_, ha', rfl⟩
end Go.Proofs.YtkfkmndhbfeagaaGreatDoor.Tr
namespace Go.Proofs.YtkfkmndhbfeagaaGreatDoor.Tr
open Go.RowKit
/-- a digit's letter -/
def hd (n : Nat) : UInt8 := if n < 10 then UInt8.ofNat (48 + n) else UInt8.ofNat (87 + n)
/-- bytes as digits -/
def hx (bs : List UInt8) : List UInt8 := bs.flatMap fun b => [hd (b.toNat / 16), hd (b.toNat % 16)]
/-- what a letter stands for; 16: nothing -/
def dv (c : UInt8) : Nat := if 48 ≤ c.toNat ∧ c.toNat ≤ 57 then c.toNat - 48 else if 97 ≤ c.toNat ∧ c.toNat ≤ 102 then c.toNat - 87 else 16
/-- the bytes of digits -/
def uh : List UInt8 → Option (List UInt8)
  | [] => some []
  | [_] => none
  | p :: q :: t => if dv p < 16 ∧ dv q < 16 then (uh t).map fun r => UInt8.ofNat (16 * dv p + dv q) :: r else none
theorem hd_dv (n : Nat) (h : n < 16) : dv (hd n) = n := by
  have : ∀ k : Fin 16, dv (hd k.val) = k.val := by decide
  exact this ⟨n, h⟩
theorem dv_hd (c : UInt8) (h : dv c < 16) : hd (dv c) = c := by
  unfold dv at h ⊢
  split
  · rename_i h1
    unfold hd
    rw [if_pos (by omega), show 48 + (c.toNat - 48) = c.toNat by omega]
    simp
  · rename_i h1
    rw [if_neg h1] at h
    split
    · rename_i h2
      unfold hd
      rw [if_neg (by omega), show 87 + (c.toNat - 87) = c.toNat by omega]
      simp
    · rename_i h2
      rw [if_neg h2] at h
      omega
theorem hx_len : ∀ bs : List UInt8, (hx bs).length = 2 * bs.length
  | [] => rfl
  | b :: r => by
    have := hx_len r
    simp only [hx, List.flatMap_cons, List.length_append, List.length_cons, List.length_nil] at this ⊢
    omega
theorem uh_hx : ∀ bs : List UInt8, uh (hx bs) = some bs
  | [] => rfl
  | b :: r => by
    have ih := uh_hx r
    have hb := b.toNat_lt
    simp only [hx, List.flatMap_cons, List.cons_append, List.nil_append] at ih ⊢
    rw [uh, hd_dv _ (by omega), hd_dv _ (by omega), if_pos (by omega), ih]
    simp only [Option.map_some, Option.some.injEq, List.cons.injEq, and_true]
    rw [show 16 * (b.toNat / 16) + b.toNat % 16 = b.toNat by omega]
    simp
theorem hx_uh : ∀ (n : Nat) (l r : List UInt8), l.length ≤ n → uh l = some r → hx r = l
  | _, [], r, _, h => by
    simp only [uh, Option.some.injEq] at h
    subst h
    rfl
  | _, [_], r, _, h => by simp [uh] at h
  | 0, _ :: _ :: _, _, hl, _ => by simp at hl
  | n + 1, p :: q :: t, r, hl, h => by
    unfold uh at h
    split at h
    · rename_i h1
      cases h2 : uh t with
      | none => rw [h2] at h; simp at h
      | some s =>
        rw [h2] at h
        simp only [Option.map_some, Option.some.injEq] at h
        subst h
        have ih := hx_uh n t s (by simp at hl; omega) h2
        have e : (UInt8.ofNat (16 * dv p + dv q)).toNat = 16 * dv p + dv q := by rw [UInt8.toNat_ofNat']; omega
        simp only [hx, List.flatMap_cons, List.cons_append, List.nil_append] at ih ⊢
        rw [e, ih, show (16 * dv p + dv q) / 16 = dv p by omega, show (16 * dv p + dv q) % 16 = dv q by omega, dv_hd p h1.1, dv_hd q h1.2]
    · simp at h
theorem hx_next (bs : List UInt8) (k : Nat) (h : k < bs.length) : hx (bs.take (k + 1)) = hx (bs.take k) ++ [hd ((bs.getD k 0).toNat / 16), hd ((bs.getD k 0).toNat % 16)] := by
  unfold hx
  rw [List.take_add_one, List.flatMap_append]
  simp [List.getElem?_eq_getElem h]
/-- append of bytes for which there is room -/
theorem run_app_fits (w : World) (base ty g n cap : Nat) (xs bs : List UInt8) (a : Addr) (c : Nat) (ho : w.ownsRow base 5 1 (.slice (some ⟨g, 0, none⟩) n cap) n (cb xs)) (hB : By w (some a) c bs) (hx : n + bs.length ≤ cap) :
    ∃ w', (Builtin.append_ #[29, 29] ty #[.slice (some ⟨g, 0, none⟩) n cap, .slice (some a) bs.length c]).run Tryz.prog w = .ok (.slice (some ⟨g, 0, none⟩) (n + bs.length) cap) w' ∧ w'.ownsRow base 5 1 (.slice (some ⟨g, 0, none⟩) (n + bs.length) cap) (n + bs.length) (cb (xs ++ bs)) ∧ w.grownBy w' (some g) := by
  have h1 : Tryz.prog.underlying 29 = some (.slice 5) := by kernel_rfl
  have hi : Tryz.prog.info? 5 = some (Tryz.prog.info? 5).get! := by kernel_rfl
  have hs : (Tryz.prog.info? 5).get!.size = 1 := by kernel_rfl
  have hxl : (cb xs).length = n * 1 := ho.1
  rcases ho.2 with ⟨h', _⟩ | ⟨g', cap', cur, h', hbg, hg, hnc, hcm, hcs, htake⟩
  · simp at h'
  · simp only [Value.slice.injEq, Option.some.injEq, Addr.mk.injEq, and_true, true_and] at h'
    obtain ⟨rfl, rfl⟩ := h'
    have hr := run_append_room (P := Tryz.prog) w _ ty _ _ h1 hi g n cap cur hg a bs.length c (cb bs) (by simp [hs, cb_len]) (hB.lie a rfl) (cb_one bs) hx (by rw [hs, cb_len]; omega)
    rw [hs] at hr
    refine ⟨_, hr, ⟨by rw [cb_app, List.length_append, hxl, cb_len, Nat.add_mul, Nat.mul_one bs.length], .inr ⟨g, cap, _, rfl, hbg, setRow_heap w g cur _ _ _ hg, hx, hcm, ?_, ?_⟩⟩, ⟨rfl, rfl, rfl, by simp, fun k _ hk => setRow_other w g k _ (fun e => hk (by simp [e]))⟩⟩
    · simp only [List.size_toArray, List.length_append, List.length_take, List.length_drop, Array.length_toList, cb_len]
      omega
    · rw [htake, cb_app]
      have : (n + bs.length) * 1 = (cb xs ++ cb bs).length := by rw [List.length_append, hxl, cb_len]; omega
      rw [this]
      exact List.take_left
theorem step_app_fits {ops : Array Oper} {o : Oper} {a : Act} {w : World} {K : Act → World → Prop} {Q : Exit → Act → World → Prop} {E : Prop}
    (hg : o.guard = none) (s x : Operand) (hop : o.op = Op.call { callee := Callee.builtin Builtin.append, args := #[s, x], argTypes := #[29, 29] })
    (base g n cap : Nat) (xs bs : List UInt8) (ad : Addr) (c : Nat) (hs : a.eval s = .slice (some ⟨g, 0, none⟩) n cap) (hx : a.eval x = .slice (some ad) bs.length c) (hown : w.ownsRow base 5 1 (.slice (some ⟨g, 0, none⟩) n cap) n (cb xs)) (hB : By w (some ad) c bs) (hroom : n + bs.length ≤ cap)
    (h : ∀ w', w'.ownsRow base 5 1 (.slice (some ⟨g, 0, none⟩) (n + bs.length) cap) (n + bs.length) (cb (xs ++ bs)) → w.grownBy w' (some g) → K (a.put o.dst (.slice (some ⟨g, 0, none⟩) (n + bs.length) cap)) w') :
    if Region.wanted o (yielded ops a.tmps) = true then Oper.wp Tryz.prog o a w K Q else E := by
  have hw : Region.wanted o (yielded ops a.tmps) = true := by simp [Region.wanted, hg]
  rw [if_pos hw]
  obtain ⟨w', hr, h2, h3⟩ := run_app_fits w base o.type g n cap xs bs ad c hown hB hroom
  unfold Oper.wp
  simp only [execOp, hop, resolve, invoke, builtin, Sem.run_bind, Sem.run_pure, Result.andThen_ok, List.map_toArray, List.map_cons, List.map_nil, hs, hx, hr]
  exact h w' h2 h3
end Go.Proofs.YtkfkmndhbfeagaaGreatDoor.Tr
namespace Go.Proofs.YtkfkmndhbfeagaaGreatDoor.Tr
open Go.RowKit
theorem ixd (n : Nat) (hn : n < 16) (k : Nat) (hk : k = n) (h : k < ({ data := #[48, 49, 50, 51, 52, 53, 54, 55, 56, 57, 97, 98, 99, 100, 101, 102] } : ByteArray).size) : ({ data := #[48, 49, 50, 51, 52, 53, 54, 55, 56, 57, 97, 98, 99, 100, 101, 102] } : ByteArray)[k]'h = hd n := by
  subst hk
  have key : ∀ m : Fin 16, (({ data := #[48, 49, 50, 51, 52, 53, 54, 55, 56, 57, 97, 98, 99, 100, 101, 102] } : ByteArray)[m.val]'m.isLt) = hd m.val := by decide
  exact key ⟨k, hn⟩
theorem and15 (y : UInt8) : bits .and .u8 (y.toNat : Int) 15 = (y.toNat : Int) % 16 := by
  have : ∀ n : Fin 256, bits .and .u8 (n.val : Int) 15 = (n.val : Int) % 16 := by decide +kernel
  exact this ⟨y.toNat, y.toNat_lt⟩
set_option maxRecDepth 100000 in
set_option maxHeartbeats 8000000 in
theorem hex_any (P : Option Addr) (c : Nat) (bs : List UInt8) (w : World) (hB : By w P c bs) (hl : bs.length ≤ 140737488351232) :
    Calls Tryz.prog 10 #[.slice P bs.length c] w fun e w' => e = .returned (.string (sb (hx bs))) ∧ Below w.heap.size w w' := by
  have HL := hidden hl
  have HP := hidden hB
  have w0 : IntKind.i64.wrap (2 * (bs.length : Int)) = 2 * (bs.length : Int) := IntWalk.i64_in _ (by omega)
  have hmk : (Instr.makeSlice 29 (.int .i64 0) (.int .i64 (2 * (bs.length : Int)))).run Tryz.prog w = .ok (.slice (some ⟨w.heap.size, 0, none⟩) 0 (2 * bs.length)) (w.alloc (.cells (madeCells #[.int .u8 0] (2 * bs.length)) 5)) := by
    have h := run_make (P := Tryz.prog) w 29 5 (Tryz.prog.info? 5).get! (.int .u8 0) (by kernel_rfl) (by kernel_rfl) (by kernel_rfl) .i64 .i64 0 (2 * (bs.length : Int)) (by omega) (by omega) (by rw [show (Tryz.prog.info? 5).get!.bytes = 1 by kernel_rfl]; omega) (by omega)
    rw [show (Tryz.prog.info? 5).get!.size = 1 by kernel_rfl, show (2 * (bs.length : Int)).toNat = 2 * bs.length by omega, Nat.mul_one] at h
    exact h
  have HO := hidden (World.ownsRow_made (base := w.heap.size) (e := 5) (size := 1) w (madeCells #[.int .u8 0] (2 * bs.length)) (2 * bs.length) (Nat.le_refl _) (by unfold maxLen; omega) (by simp [madeCells]))
  have HB := hidden (bl_alloc w (.cells (madeCells #[.int .u8 0] (2 * bs.length)) 5))
  generalize madeCells #[.int .u8 0] (2 * bs.length) = Z at hmk HO HB
  clear hl hB
  go_enter Tryz.func10, Tryz.ntmps10
  go_upto_region 3 with fail
  generalize hW : w.alloc (.cells Z 5) = wz at HO HB
  clear hmk hW
  go_loopw [3, 12] (fun vv kv w' => ∃ k : Nat, k ≤ bs.length ∧ kv = .int .i64 (k : Int) ∧ vv = .slice (some ⟨w.heap.size, 0, none⟩) (2 * k) (2 * bs.length) ∧ Hid (w'.ownsRow w.heap.size 5 1 (.slice (some ⟨w.heap.size, 0, none⟩) (2 * k) (2 * bs.length)) (2 * k) (cb (hx (bs.take k)))) ∧ Hid (Below w.heap.size w w')) (fun _ k _ => bs.length - (intOf k).toNat)
  case atStart => exact ⟨0, by omega, rfl, rfl, HO, HB⟩
  case round =>
    clear HO HB
    obtain ⟨k, hk, rfl, rfl, HO, HB⟩ := hrel
    by_cases hkn : k < bs.length
    · obtain ⟨b, o, rfl⟩ := HP.out.none' (by omega)
      have x0 := (HP.out.keep HB.out).at k hkn
      have k0 : (0 : Int) ≤ (k : Int) := by omega
      have k1 : (k : Int) < (bs.length : Int) := by omega
      have HX := hidden (hx_next bs k hkn)
      generalize bs.getD k 0 = y at x0 HX
      have y0 := y.toNat_lt
      have i0 := ixd (y.toNat / 16) (by omega) ((y.toNat : Int) / 16).toNat (by omega)
      have i1 := ixd (y.toNat % 16) (by omega) ((y.toNat : Int) % 16).toNat (by omega)
      have j0 : (0 : Int) ≤ (y.toNat : Int) / 16 ∧ (y.toNat : Int) / 16 < 16 := by omega
      have j1 : (0 : Int) ≤ (y.toNat : Int) % 16 ∧ (y.toNat : Int) % 16 < 16 := by omega
      have e0 := and15 y
      generalize hd (y.toNat / 16) = p at i0 HX
      generalize hd (y.toNat % 16) = q at i1 HX
      go_upto_region 5 with fail
      have HO' := hidden (fun o => (own_stay HO.out (bl_alloc wr o)).drew)
      have HY' := hidden ((by_list wr [p, q] 2).keep (drew_blW _))
      have R0 : 2 * k + [p, q].length ≤ 2 * bs.length := by simp only [List.length_cons, List.length_nil]; omega
      have R1 := hidden R0
      clear R0
      go_region_law (first | (refine step_app_fits rfl (.tmp 16) (.tmp 23) rfl w.heap.size w.heap.size (2 * k) (2 * bs.length) (hx (bs.take k)) [p, q] ⟨wr.heap.size, 0, none⟩ 2 rfl rfl (HO'.out _) HY'.out R1.out ?_; intro w3 ho hg; have NO := hidden ho; have NB := hidden (below_set (bl_trans (bl_trans HB.out (bl_alloc wr _)) (drew_blW _)) hg (Nat.le_refl _) (Nat.le_refl _)); clear ho hg))
      all_goals
        rw [← HX.out] at NO
        clear x0 i0 i1 j0 j1 e0
        have w9 : IntKind.i64.wrap ((k : Int) + 1) = (k : Int) + 1 := IntWalk.i64_in _ (by have := HL.out; omega)
        go_wp2_with fail
        go_roundw
        case rel => exact ⟨k + 1, by omega, by go_num, by simp [Nat.mul_add], by have h := NO.out; simp only [List.length_cons, List.length_nil] at h; exact hidden h, NB⟩
        case measure => simp [intOf]; omega
    · obtain rfl : k = bs.length := by omega
      have lq : ¬ (bs.length : Int) < (bs.length : Int) := by omega
      rw [List.take_length] at HO
      have h2 := HO.out
      rw [← hx_len bs] at h2
      have CV := own_conv h2
      rw [hx_len bs] at CV
      clear h2
      go_wp2_with fail
      refine bodyPost_ret (v := .string (sb (hx bs))) (by simp [results, Tryz.results10, go_sem]) rfl ⟨rfl, HB.out⟩
end Go.Proofs.YtkfkmndhbfeagaaGreatDoor.Tr
namespace Go.Proofs.YtkfkmndhbfeagaaGreatDoor.Tr
open Go.RowKit
set_option maxRecDepth 100000 in
set_option maxHeartbeats 4000000 in
theorem digit_yes (c : UInt8) (h : dv c < 16) (w : World) :
    Calls Tryz.prog 33 #[.int .i32 (c.toNat : Int)] w fun e w' => e = .returned (.tuple #[.int .u8 (dv c : Int), .bool true]) ∧ w' = w := by
  have hc := c.toNat_lt
  unfold dv at h ⊢
  split at h
  · rename_i h1
    rw [if_pos h1]
    have k0 : (48 : Int) ≤ (c.toNat : Int) := by omega
    have k1 : (c.toNat : Int) ≤ 57 := by omega
    have k2 : IntKind.i32.wrap ((c.toNat : Int) - 48) = (c.toNat : Int) - 48 := by rw [IntKind.wrap_i32]; omega
    have k3 : ((c.toNat : Int) - 48) % 256 = ((c.toNat - 48 : Nat) : Int) := by omega
    have k4 : IntKind.u8.wrap ((c.toNat : Int) - 48) = ((c.toNat - 48 : Nat) : Int) := by rw [IntKind.wrap_u8]; omega
    generalize c.toNat - 48 = d at k3 k4
    go_enter Tryz.func33, Tryz.ntmps33
    go_wp2_with fail
    refine bodyPost_ret (v := .tuple #[.int .u8 (d : Int), .bool true]) (by simp [results, Tryz.results33, go_sem]) rfl ⟨rfl, rfl⟩
  · rename_i h1
    split at h
    · rename_i h2
      rw [if_neg h1, if_pos h2]
      have k0 : (48 : Int) ≤ (c.toNat : Int) := by omega
      have k1 : ¬ (c.toNat : Int) ≤ 57 := by omega
      have k5 : (97 : Int) ≤ (c.toNat : Int) := by omega
      have k6 : (c.toNat : Int) ≤ 102 := by omega
      have k2 : IntKind.i32.wrap ((c.toNat : Int) - 97) = (c.toNat : Int) - 97 := by rw [IntKind.wrap_i32]; omega
      have k3 : ((c.toNat : Int) - 97) % 256 = (c.toNat : Int) - 97 := by omega
      have k7 : IntKind.u8.wrap ((c.toNat : Int) - 97) = (c.toNat : Int) - 97 := by rw [IntKind.wrap_u8]; omega
      have k4 : IntKind.u8.wrap ((c.toNat : Int) - 97 + 10) = ((c.toNat - 87 : Nat) : Int) := by rw [IntKind.wrap_u8]; omega
      have k8 : ((c.toNat : Int) - 97 + 10) % 256 = ((c.toNat - 87 : Nat) : Int) := by omega
      generalize c.toNat - 87 = d at k4 k8
      go_enter Tryz.func33, Tryz.ntmps33
      go_wp2_with fail
      refine bodyPost_ret (v := .tuple #[.int .u8 (d : Int), .bool true]) (by simp [results, Tryz.results33, go_sem]) rfl ⟨rfl, rfl⟩
    · omega
set_option maxRecDepth 100000 in
set_option maxHeartbeats 4000000 in
theorem digit_no (r : Int) (h1 : ¬ (48 ≤ r ∧ r ≤ 57)) (h2 : ¬ (97 ≤ r ∧ r ≤ 102)) (w : World) :
    Calls Tryz.prog 33 #[.int .i32 r] w fun e w' => e = .returned (.tuple #[.int .u8 0, .bool false]) ∧ w' = w := by
  by_cases k0 : (48 : Int) ≤ r
  · have k1 : ¬ r ≤ 57 := fun h => h1 ⟨k0, h⟩
    by_cases k2 : (97 : Int) ≤ r
    · have k3 : ¬ r ≤ 102 := fun h => h2 ⟨k2, h⟩
      clear h1 h2
      go_enter Tryz.func33, Tryz.ntmps33
      go_wp2_with fail
      refine bodyPost_ret (v := .tuple #[.int .u8 0, .bool false]) (by simp [results, Tryz.results33, go_sem]) rfl ⟨rfl, rfl⟩
    · clear h1 h2
      go_enter Tryz.func33, Tryz.ntmps33
      go_wp2_with fail
      refine bodyPost_ret (v := .tuple #[.int .u8 0, .bool false]) (by simp [results, Tryz.results33, go_sem]) rfl ⟨rfl, rfl⟩
  · have k2 : ¬ (97 : Int) ≤ r := by omega
    clear h1 h2
    go_enter Tryz.func33, Tryz.ntmps33
    go_wp2_with fail
    refine bodyPost_ret (v := .tuple #[.int .u8 0, .bool false]) (by simp [results, Tryz.results33, go_sem]) rfl ⟨rfl, rfl⟩
/-- a byte half made of two digits -/
def ub (l : List UInt8) (k j : Nat) : UInt8 := if 2 * j + 1 < k then UInt8.ofNat (16 * dv (l.getD (2 * j) 0) + dv (l.getD (2 * j + 1) 0)) else if 2 * j < k then UInt8.ofNat (dv (l.getD (2 * j) 0)) else 0
/-- the bytes, k digits in -/
def ul (l : List UInt8) (k : Nat) : List UInt8 := (List.range (l.length / 2)).map (ub l k)
theorem ul_len (l : List UInt8) (k : Nat) : (ul l k).length = l.length / 2 := by simp [ul]
theorem ul_zero (l : List UInt8) : cb (ul l 0) = List.replicate (l.length / 2) (.int .u8 0) := by
  have : ul l 0 = List.replicate (l.length / 2) 0 := by
    unfold ul
    have e : ub l 0 = fun _ => 0 := by funext j; simp [ub]
    rw [e]
    simp [List.map_const']
  rw [this]
  simp [cb]
theorem uh_even : ∀ (n : Nat) (l : List UInt8), l.length = 2 * n → (∀ i, i < l.length → dv (l.getD i 0) < 16) → uh l = some ((List.range n).map fun j => UInt8.ofNat (16 * dv (l.getD (2 * j) 0) + dv (l.getD (2 * j + 1) 0)))
  | 0, l, hl, _ => by
    have : l = [] := List.eq_nil_of_length_eq_zero (by omega)
    subst this
    rfl
  | n + 1, p :: q :: t, hl, hd => by
    have ih := uh_even n t (by simp at hl; omega) (fun i hi => by have := hd (i + 2) (by simp; omega); simpa using this)
    have h0 := hd 0 (by simp)
    have h1 := hd 1 (by simp)
    simp only [List.getD_cons_zero, List.getD_cons_succ] at h0 h1
    rw [uh, if_pos ⟨h0, h1⟩, ih, List.range_succ_eq_map]
    simp [Function.comp_def, Nat.mul_add]
  | n + 1, [_], hl, _ => by simp at hl; omega
  | n + 1, [], hl, _ => by simp at hl
theorem uh_all (l : List UInt8) (h : l.length % 2 = 0) (hd : ∀ i, i < l.length → dv (l.getD i 0) < 16) : uh l = some (ul l l.length) := by
  rw [uh_even (l.length / 2) l (by omega) hd]
  congr 1
  unfold ul
  refine List.map_congr_left fun j hj => ?_
  have := List.mem_range.1 hj
  unfold ub
  rw [if_pos (by omega)]
theorem uh_bad : ∀ (n : Nat) (l : List UInt8) (i : Nat), l.length ≤ n → i < l.length → ¬ dv (l.getD i 0) < 16 → uh l = none
  | _, [], i, _, hi, _ => by simp at hi
  | _, [_], i, _, _, _ => rfl
  | 0, _ :: _ :: _, _, hl, _, _ => by simp at hl
  | n + 1, p :: q :: t, i, hl, hi, hd => by
    rw [uh]
    split
    · rename_i h1
      match i, hd, hi with
      | 0, hd, _ => exact absurd h1.1 (by simpa using hd)
      | 1, hd, _ => exact absurd h1.2 (by simpa using hd)
      | i + 2, hd, hi =>
        rw [uh_bad n t i (by simp at hl; omega) (by simp at hi; omega) (by simpa using hd)]
        rfl
    · rfl
theorem uh_odd : ∀ (n : Nat) (l : List UInt8), l.length ≤ n → l.length % 2 = 1 → uh l = none
  | _, [], _, h => by simp at h
  | _, [_], _, _ => rfl
  | 0, _ :: _ :: _, hl, _ => by simp at hl
  | n + 1, p :: q :: t, hl, h => by
    rw [uh]
    split
    · rw [uh_odd n t (by simp at hl; omega) (by simp at h; omega)]
      rfl
    · rfl
theorem ul_set (l : List UInt8) (k : Nat) (h : k < l.length) (he : l.length % 2 = 0) : (cb (ul l k)).set (k / 2) (.int .u8 ((ub l (k + 1) (k / 2)).toNat : Int)) = cb (ul l (k + 1)) := by
  refine List.ext_getElem? fun j => ?_
  rw [List.getElem?_set]
  by_cases e : k / 2 = j
  · subst e
    rw [if_pos rfl, if_pos (by rw [cb_len, ul_len]; omega)]
    simp [cb, ul, List.getElem?_range (show k / 2 < l.length / 2 by omega)]
  · rw [if_neg e]
    by_cases hj : j < l.length / 2
    · have : ub l (k + 1) j = ub l k j := by
        unfold ub
        by_cases h1 : 2 * j + 1 < k
        · rw [if_pos h1, if_pos (by omega)]
        · rw [if_neg h1, if_neg (by omega)]
          by_cases h2 : 2 * j < k
          · rw [if_pos h2, if_pos (by omega)]
          · rw [if_neg h2, if_neg (by omega)]
      simp [cb, ul, List.getElem?_range hj, this]
    · rw [List.getElem?_eq_none (by rw [cb_len, ul_len]; omega), List.getElem?_eq_none (by rw [cb_len, ul_len]; omega)]
/-- a digit more -/
theorem u8_shl (a d : Nat) (ha : a < 16) (hd : d < 16) : bits .or .u8 ((a : Int) * 16 % 256) (d : Int) = ((16 * a + d : Nat) : Int) := by
  have : ∀ (a d : Fin 16), bits .or .u8 ((a.val : Int) * 16 % 256) (d.val : Int) = ((16 * a.val + d.val : Nat) : Int) := by decide +kernel
  exact this ⟨a, ha⟩ ⟨d, hd⟩
end Go.Proofs.YtkfkmndhbfeagaaGreatDoor.Tr
namespace Go.Proofs.YtkfkmndhbfeagaaGreatDoor.Tr
open Go.RowKit
theorem grown_iter (w : World) (k : Nat) (s : ByteArray) (pos : Nat) : w.grownBy (w.iterAt k s pos) (some k) :=
  ⟨rfl, rfl, rfl, by rw [Lib.iterAt_size]; exact Nat.le_refl _, fun j _ hne => Lib.iterAt_other w k j s pos (fun e => hne (by rw [e]))⟩
theorem sb_get (l : List UInt8) (k : Nat) (h : k < (sb l).size) (h2 : k < l.length) : (sb l)[k]'h = l.getD k 0 := by
  simp [sb, h2]
  rfl
theorem ub_lt (l : List UInt8) (k : Nat) (h : ∀ i, i < k → dv (l.getD i 0) < 16) : (ub l k (k / 2)).toNat < 16 := by
  unfold ub
  rw [if_neg (by omega)]
  split
  · have := h (2 * (k / 2)) (by omega)
    rw [UInt8.toNat_ofNat']
    omega
  · decide
theorem ub_next (l : List UInt8) (k : Nat) (h : ∀ i, i < k → dv (l.getD i 0) < 16) (hd : dv (l.getD k 0) < 16) : 16 * (ub l k (k / 2)).toNat + dv (l.getD k 0) = (ub l (k + 1) (k / 2)).toNat := by
  unfold ub
  rw [if_neg (by omega)]
  by_cases e : k % 2 = 0
  · rw [if_neg (by omega), if_neg (by omega), if_pos (by omega), show 2 * (k / 2) = k by omega, UInt8.toNat_ofNat', show (0 : UInt8).toNat = 0 from rfl]
    omega
  · have h1 := h (2 * (k / 2)) (by omega)
    rw [if_pos (by omega), if_pos (by omega), show 2 * (k / 2) + 1 = k by omega, UInt8.toNat_ofNat', UInt8.toNat_ofNat']
    omega
theorem iterPos_of {w : World} {k : Nat} {s : ByteArray} {p : Nat} (h : w.heap[k]? = some (.stringIter s p)) : w.iterPos k = p := by unfold World.iterPos; rw [h]
/-- what Unhex answers -/
def UhR (l : List UInt8) (w w' : World) (v : Value) (e : Nat) : Prop :=
  match uh l with
  | some r => e = 0 ∧ w'.ownsRow w.heap.size 5 1 v r.length (cb r)
  | none => e = 104 ∧ v = .slice none 0 0
set_option maxRecDepth 100000 in
set_option maxHeartbeats 8000000 in
theorem unhex_any (l : List UInt8) (w : World) (hl : l.length ≤ 140737488355000 * 2) :
    Calls Tryz.prog 9 #[.string (sb l)] w fun e w' => ∃ (v : Value) (n : Nat), e = .returned (.tuple #[v, .int .i64 (n : Int)]) ∧ UhR l w w' v n ∧ Below w.heap.size w w' := by
  have z0 := sb_size l
  have HL := hidden hl
  by_cases he : l.length % 2 = 0
  · obtain ⟨m, hm⟩ : ∃ m, l.length / 2 = m := ⟨_, rfl⟩
    have r1 : (l.length : Int) % 2 = 0 := by omega
    have r2 : wrap64 ((l.length : Int) / 2) = (m : Int) := by unfold wrap64; omega
    have hmk : (Instr.makeSlice 29 (.int .i64 (m : Int)) (.int .i64 (m : Int))).run Tryz.prog w = .ok (.slice (some ⟨w.heap.size, 0, none⟩) (m) (m)) (w.alloc (.cells (madeCells #[.int .u8 0] (m)) 5)) := by
      have h := run_make (P := Tryz.prog) w 29 5 (Tryz.prog.info? 5).get! (.int .u8 0) (by kernel_rfl) (by kernel_rfl) (by kernel_rfl) .i64 .i64 (m : Int) (m : Int) (by omega) (by omega) (by rw [show (Tryz.prog.info? 5).get!.bytes = 1 by kernel_rfl]; omega) (by omega)
      rw [show (Tryz.prog.info? 5).get!.size = 1 by kernel_rfl, Int.toNat_natCast, Nat.mul_one] at h
      exact h
    have HO : Hid ((w.alloc (.cells (madeCells #[.int .u8 0] (m)) 5)).ownsRow w.heap.size 5 1 (.slice (some ⟨w.heap.size, 0, none⟩) (m) (m)) (m) (cb (ul l 0))) := hidden (by
      rw [ul_zero, hm, ← toList_madeCells_one]
      exact World.ownsRow_lit w _ (m) (Nat.le_refl _) (by unfold maxLen; omega) (by simp [madeCells]))
    have HB := hidden (bl_alloc w (.cells (madeCells #[.int .u8 0] (m)) 5))
    have hsz : (w.alloc (.cells (madeCells #[.int .u8 0] (m)) 5)).heap.size = w.heap.size + 1 := World.size_alloc w _
    generalize w.alloc (.cells (madeCells #[.int .u8 0] (m)) 5) = wz at hmk HO HB hsz
    have HI := hidden (World.iter_heap wz (sb l) 0)
    rw [hsz] at HI
    replace HO : Hid ((wz.iter (sb l) 0).ownsRow w.heap.size 5 1 (.slice (some ⟨w.heap.size, 0, none⟩) m m) m (cb (ul l 0))) := hidden (own_stay HO.out (bl_alloc wz (.stringIter (sb l) 0)))
    replace HB : Hid (Below w.heap.size w (wz.iter (sb l) 0)) := hidden (bl_trans HB.out (bl_alloc wz (.stringIter (sb l) 0)))
    clear hl
    go_enter Tryz.func9, Tryz.ntmps9
    go_upto_region 5 with fail
    generalize wz.iter (sb l) 0 = wy at HO HB HI
    clear hmk r1 r2
    go_loopw [20] (fun bv w' => bv = bv ∧ ∃ k : Nat, k ≤ l.length ∧ Hid (w'.heap[w.heap.size + 1]? = some (.stringIter (sb l) k)) ∧ Hid (∀ i, i < k → dv (l.getD i 0) < 16) ∧ Hid (w'.ownsRow w.heap.size 5 1 (.slice (some ⟨w.heap.size, 0, none⟩) m m) m (cb (ul l k))) ∧ Hid (Below w.heap.size w w')) (fun _ w' => l.length - w'.iterPos (w.heap.size + 1))
    case atStart => exact ⟨rfl, 0, by omega, HI, hidden (fun i hi => by omega), HO, HB⟩
    case round =>
      clear HO HB HI
      obtain ⟨-, k, hk, HI, HD, HO, HB⟩ := hrel
      by_cases hkn : k < l.length
      · by_cases hd : dv (l.getD k 0) < 16
        · have ha : (l.getD k 0).toNat < 128 := by
            unfold dv at hd
            split at hd
            · omega
            · split at hd <;> omega
          have hnx : ∀ ty, (Instr.next (.pointer (some ⟨w.heap.size + 1, 0, none⟩)) true ty).run Tryz.prog wr = .ok (.tuple #[.bool true, .int .i64 (k : Int), .int .i32 ((l.getD k 0).toNat : Int)]) (wr.iterAt (w.heap.size + 1) (sb l) (k + 1)) := fun ty => by
            have := Lib.run_next_ascii_at (P := Tryz.prog) wr (w.heap.size + 1) (sb l) k ty HI.out (by rw [sb_size]; exact hkn) (by rw [sb_get l k _ hkn]; exact ha)
            rw [sb_get l k _ hkn] at this
            exact this
          have I1 := hidden (Lib.iterAt_heap wr (w.heap.size + 1) (sb l) k (k + 1) HI.out)
          have G1 := grown_iter wr (w.heap.size + 1) (sb l) (k + 1)
          have O1 := hidden (own_kept HO.out G1 (by simp [Value.ownBlock]))
          have B1 := hidden (below_set HB.out G1 (by omega) (Nat.le_refl _))
          generalize wr.iterAt (w.heap.size + 1) (sb l) (k + 1) = w1 at hnx I1 O1 B1
          clear G1
          have hc := ub_lt l k HD.out
          have x0 := O1.out.cellAt (k / 2) (by omega)
          rw [cb_at _ _ (by rw [ul_len]; omega)] at x0
          have e0 : (ul l k)[k / 2]'(by rw [ul_len]; omega) = ub l k (k / 2) := by simp [ul]
          rw [e0] at x0
          have f0 := O1.out.frozenAt (k / 2)
          have e1 := u8_shl (ub l k (k / 2)).toNat (dv (l.getD k 0)) hc hd
          have e2 := ub_next l k HD.out hd
          have NS := O1.out.stored (k / 2) (.int .u8 ((ub l (k + 1) (k / 2)).toNat : Int))
          have NO := hidden NS.1
          rw [ul_set l k hkn he] at NO
          have NB := hidden (below_set B1.out NS.2 (Nat.le_refl _) (Nat.le_refl _))
          have NI := hidden ((NS.2.block (w.heap.size + 1) (Array.getElem?_eq_some_iff.1 I1.out).1 (by simp)).trans I1.out)
          have ND : Hid (∀ i, i < k + 1 → dv (l.getD i 0) < 16) := hidden (fun i hi => by
            by_cases h : i = k
            · subst h; exact hd
            · exact HD.out i (by omega))
          have DY := hidden (digit_yes (l.getD k 0) hd)
          rw [e2] at e1
          generalize (ub l (k + 1) (k / 2)).toNat = y at e1 NO NB NI e2
          generalize (ub l k (k / 2)).toNat = x at x0 e1 e2
          generalize dv (l.getD k 0) = dd at e1 DY e2
          generalize (l.getD k 0).toNat = cc at hnx DY
          have q0 : wrap64 ((k : Int) / 2) = ((k / 2 : Nat) : Int) := by unfold wrap64; have := HL.out; omega
          have q1 : (0 : Int) ≤ ((k / 2 : Nat) : Int) := by omega
          have q2 : ((k / 2 : Nat) : Int) < (m : Int) := by omega
          generalize k / 2 = kk at x0 f0 NO NB NI q0 q1 q2
          have P0 : wr.iterPos (w.heap.size + 1) = k := by unfold World.iterPos; rw [HI.out]
          have P1 := hidden (iterPos_of NI.out)
          clear NS e0 hc ha hd HI HD HO HB I1 O1 B1 e2
          go_wp2_with (first | (go_at_call 33; refine (DY.out _).mono ?_; rintro e w2 ⟨rfl, rfl⟩; clear DY))
          go_roundw
          case rel => first | exact ⟨trivial, k + 1, by omega, NI, ND, NO, NB⟩ | exact ⟨k + 1, by omega, NI, ND, NO, NB⟩
          case measure => rw [P1.out, P0]; omega
        · have hdv : ¬ dv (l.getD k 0) < 16 := hd
          obtain ⟨r, rw', hr1, hr2, hnx, G1⟩ : ∃ (r : Int) (w' : World), ¬ (48 ≤ r ∧ r ≤ 57) ∧ ¬ (97 ≤ r ∧ r ≤ 102) ∧ (∀ ty, (Instr.next (.pointer (some ⟨w.heap.size + 1, 0, none⟩)) true ty).run Tryz.prog wr = .ok (.tuple #[.bool true, .int .i64 (k : Int), .int .i32 r]) w') ∧ wr.grownBy w' (some (w.heap.size + 1)) := by
            refine ⟨((Utf8.decode (sb l) k).1 : Int), _, ?_, ?_, fun ty => Lib.run_next_any_at (P := Tryz.prog) wr (w.heap.size + 1) (sb l) k ty HI.out (by rw [sb_size]; exact hkn), grown_iter _ _ _ _⟩
            all_goals
              have hs : k < (sb l).size := by rw [sb_size]; exact hkn
              by_cases ha : ((sb l)[k]'hs).toNat < 128
              · rw [decode_ascii (sb l) k hs ha, sb_get l k hs hkn]
                unfold dv at hdv
                split at hdv
                · omega
                · split at hdv
                  · omega
                  · simp only; omega
              · have := (decode_high (sb l) k hs (by omega)).1
                omega
          have NB := hidden (below_set HB.out G1 (by omega) (Nat.le_refl _))
          have DN := hidden (digit_no r hr1 hr2)
          have HU := hidden (uh_bad l.length l k (Nat.le_refl _) hkn hdv)
          clear hr1 hr2 G1 HI HD HO HB hd hdv
          go_wp2_with (first | (go_at_call 33; refine (DN.out _).mono ?_; rintro e w2 ⟨rfl, rfl⟩; clear DN))
          refine bodyPost_ret (v := .tuple #[.slice none 0 0, .int .i64 104]) (by simp [results, Tryz.results9, go_sem]) rfl ⟨_, 104, rfl, by unfold UhR; rw [HU.out]; exact ⟨rfl, rfl⟩, NB.out⟩
      · obtain rfl : k = l.length := by omega
        have hnx : ∀ ty, (Instr.next (.pointer (some ⟨w.heap.size + 1, 0, none⟩)) true ty).run Tryz.prog wr = .ok (.tuple #[.bool false]) wr := fun ty => Lib.run_next_end_at (P := Tryz.prog) wr (w.heap.size + 1) (sb l) l.length ty HI.out (by rw [sb_size]; exact hkn)
        have HU := hidden (uh_all l he HD.out)
        clear HI HD
        go_wp2_with fail
        refine bodyPost_ret (v := .tuple #[.slice (some ⟨w.heap.size, 0, none⟩) m m, .int .i64 0]) (by simp [results, Tryz.results9, go_sem]) rfl ⟨_, 0, rfl, by unfold UhR; rw [HU.out]; refine ⟨rfl, ?_⟩; rw [ul_len, hm]; exact HO.out, HB.out⟩
  · have r1 : (l.length : Int) % 2 = 1 := by omega
    have HU := hidden (uh_odd l.length l (Nat.le_refl _) (by omega))
    clear hl
    go_enter Tryz.func9, Tryz.ntmps9
    go_wp2_with fail
    refine bodyPost_ret (v := .tuple #[.slice none 0 0, .int .i64 104]) (by simp [results, Tryz.results9, go_sem]) rfl ⟨_, 104, rfl, by unfold UhR; rw [HU.out]; exact ⟨rfl, rfl⟩, Below.refl _ _⟩
end Go.Proofs.YtkfkmndhbfeagaaGreatDoor.Tr
namespace Go.Proofs.YtkfkmndhbfeagaaGreatDoor.Tr
open Go.ChangeShapes Go.WideShapes Go.ChangeAt Go.RowKit
theorem one_leU {H : Type} (d : DataW H) : 1 ≤ Rows.uptoBulk d := by
  cases d with
  | lit l => cases l <;> simp [Rows.uptoBulk]
  | nil => simp [Rows.uptoBulk]
  | ptr d => simp [Rows.uptoBulk]
  | slice elems spare => simp [Rows.uptoBulk]
  | agg parts => simp [Rows.uptoBulk]
  | iface t d => simp [Rows.uptoBulk]
  | map entries => simp [Rows.uptoBulk]
  | held h => simp [Rows.uptoBulk]
theorem length_leU {H : Type} (l : List (DataW H)) : l.length ≤ Rows.uptoBulkAll l := by
  induction l with
  | nil => simp [Rows.uptoBulkAll]
  | cons x r ih => have := one_leU x; simp only [Rows.uptoBulkAll, List.length_cons]; omega
theorem slice_leU {H : Type} (elems spare : List (DataW H)) : elems.length + spare.length + 1 ≤ Rows.uptoBulk (.slice elems spare) := by
  have h1 := length_leU elems
  have h2 := length_leU spare
  simp only [Rows.uptoBulk]
  omega
/-- nothing in it is greater than a machine may hold -/
def Sz {H : Type} (P : Program) (t : TypeId) (d : DataW H) : Prop := ∀ n ∈ d.weights P t, n ≤ reachBytes
theorem mem_all {H : Type} {P : Program} {e : TypeId} : ∀ {l : List (DataW H)} {y : DataW H}, y ∈ l → ∀ n ∈ y.weights P e, n ∈ DataW.weightsAll P e l
  | x :: r, y, h, n, hn => by
    simp only [DataW.weightsAll, List.mem_append]
    rcases List.mem_cons.1 h with rfl | h
    · exact Or.inl hn
    · exact Or.inr (mem_all h n hn)
theorem Sz.len {H : Type} {P : Program} {t e : TypeId} {es sp : List (DataW H)} (h : Sz P t (.slice es sp)) (hu : P.underlying t = some (.slice e)) : (es.length + sp.length) * P.bytesOf e ≤ reachBytes := h _ (by simp [DataW.weights, hu])
theorem Sz.elem {H : Type} {P : Program} {t e : TypeId} {es sp : List (DataW H)} (h : Sz P t (.slice es sp)) (hu : P.underlying t = some (.slice e)) {y : DataW H} (hy : y ∈ es) : Sz P e y := fun n hn => h n (by
  simp only [DataW.weights, hu, List.mem_cons, List.mem_append]
  exact Or.inr (Or.inl (mem_all hy n hn)))
theorem Sz.field {H : Type} {P : Program} {t ft : TypeId} {fs : Array Field} {ps : List (DataW H)} {d : DataW H} {i : Nat} (h : Sz P t (.agg ps)) (hu : P.underlying t = some (.struct fs)) (hf : (fs.toList.map (·.type))[i]? = some ft) (hd : ps[i]? = some d) : Sz P ft d := fun n hn => h n (by
  simp only [DataW.weights, hu]
  exact DataW.weights_mem_each hf hd n hn)
theorem Sz.top {H : Type} {P : Program} {ts : List TypeId} {ds : List (DataW H)} (h : (DataW.weightsEach P ts ds).all (· ≤ reachBytes) = true) {j : Nat} {t : TypeId} {d : DataW H} (ht : ts[j]? = some t) (hd : ds[j]? = some d) : Sz P t d := fun n hn => by
  have := List.all_eq_true.1 h _ (DataW.weights_mem_each ht hd n hn)
  simpa using this
section
variable {H : Type} {enc : TypeId × Value → H} {w : World} {base : Nat} {sp : Nat → Bool} {held : Bool}
theorem undY : Tryz.prog.underlying 29 = some (.slice 5) := by kernel_rfl
theorem undb : Tryz.prog.underlying 5 = some (.int .u8) := by kernel_rfl
theorem unds : Tryz.prog.underlying 9 = some .string := by kernel_rfl
theorem undu : Tryz.prog.underlying 22 = some (.int .u64) := by kernel_rfl
theorem undi : Tryz.prog.underlying 3 = some (.int .i64) := by kernel_rfl
theorem celb : Tryz.prog.cellsOf 5 = 1 := by kernel_rfl
theorem celY : Tryz.prog.cellsOf 29 = 1 := by kernel_rfl
theorem bytb : Tryz.prog.bytesOf 5 = 1 := by kernel_rfl
theorem openBy {fuel : Nat} {cs : List Value} {x : DataW H × List MemPlace} (h : DataW.trod enc Tryz.prog w base sp held fuel 29 cs = some x) :
    ∃ (P : Option Addr) (bs : List UInt8) (c : Nat), cs = [.slice P bs.length c] ∧ By w P c bs ∧ bs.length + 1 ≤ Rows.uptoBulk x.1 ∧ bs.length ≤ c := by
  rcases open_ints undY undb celb h with ⟨hcs, hx⟩ | ⟨a, len, cap, zs, hcs, _, hl, hm, hz, hx, hcell, hwz⟩
  · subst hx
    exact ⟨none, [], 0, hcs, ⟨fun _ => ⟨rfl, rfl⟩, fun a ha => (by cases ha)⟩, by simp [Rows.uptoBulk], Nat.le_refl _⟩
  · subst hx
    have hlz : len ≤ zs.length := by rw [hz]; split <;> omega
    have hlen : ((zs.take len).map fun z => UInt8.ofNat z.toNat).length = len := by simp; omega
    refine ⟨some a, (zs.take len).map fun z => UInt8.ofNat z.toNat, cap, by rw [hlen]; exact hcs, ⟨fun h => (by cases h), fun a' ha j u hu => ?_⟩, ?_, by rw [hlen]; exact hl⟩
    · obtain rfl := Option.some.inj ha
      have hj : j < len := by
        have := (List.getElem?_eq_some_iff.1 hu).1
        rw [cb_len, hlen] at this
        exact this
      rw [hcell j (by omega), ← hu]
      have hmem : zs.getD j 0 ∈ zs := by
        rw [List.getD_eq_getElem?_getD, List.getElem?_eq_getElem (by omega)]
        exact List.getElem_mem _
      have hb := bounds_u8 (hwz _ hmem)
      have e1 : zs[j]? = some (zs.getD j 0) := by simp [List.getElem?_eq_getElem (show j < zs.length by omega)]
      simp only [cb, List.map_map, List.getElem?_map, List.getElem?_take_of_lt hj, e1, Option.map_some, Function.comp, UInt8.toNat_ofNat', Option.some.injEq, Value.int.injEq, true_and]
      omega
    · have := slice_leU (H := H) (lits .u8 (zs.take len)) (lits .u8 (zs.drop len))
      have e2 : (lits (H := H) .u8 (zs.take len)).length = len := by simp [lits]; omega
      rw [hlen]
      show len + 1 ≤ Rows.uptoBulk (.slice (lits .u8 (zs.take len)) (lits .u8 (zs.drop len)))
      omega
theorem openByW {fuel : Nat} {cs : List Value} {x : DataW H × List MemPlace} (h : DataW.trod enc Tryz.prog w base sp held fuel 29 cs = some x) (hz : Sz Tryz.prog 29 x.1) :
    ∃ (P : Option Addr) (bs : List UInt8) (c : Nat), cs = [.slice P bs.length c] ∧ By w P c bs ∧ bs.length ≤ 140737488351232 := by
  obtain ⟨P, bs, c, hcs, hby, _⟩ := openBy h
  refine ⟨P, bs, c, hcs, hby, ?_⟩
  rcases open_ints undY undb celb h with ⟨hc2, hx⟩ | ⟨a, len, cap, zs, hc2, _, hl, hm, hzl, hx, _, _⟩
  · have e := hcs.symm.trans hc2
    simp only [List.cons.injEq, Value.slice.injEq, and_true] at e
    omega
  · have e := hcs.symm.trans hc2
    simp only [List.cons.injEq, Value.slice.injEq, and_true] at e
    subst hx
    have h1 := Sz.len hz undY
    rw [bytb] at h1
    have h2 : (lits (H := H) .u8 (zs.take len)).length + (lits (H := H) .u8 (zs.drop len)).length = zs.length := by simp [lits]; omega
    have hlz : len ≤ zs.length := by rw [hzl]; split <;> omega
    rw [h2] at h1
    unfold reachBytes at h1
    omega
/-- bytes that are handed in -/
theorem openY {v : Value} {d : DataW H} {p : List MemPlace} (h : DataW.Trod enc Tryz.prog w base sp held 29 v d p) (hv : ∃ a0 len cap, v = .slice a0 len cap) :
    ∃ (P : Option Addr) (bs : List UInt8) (c : Nat), v = .slice P bs.length c ∧ By w P c bs ∧ bs.length + 1 ≤ Rows.uptoBulk d ∧ (Sz Tryz.prog 29 d → bs.length ≤ 140737488351232) ∧ bs.length ≤ c := by
  obtain ⟨a0, len, cap, rfl⟩ := hv
  obtain ⟨fuel, hf⟩ := h
  obtain ⟨P, bs, c, hcs, hby, hbu, hbc⟩ := openBy hf
  have hcs' := hcs
  simp only [Value.cells, List.cons.injEq, and_true] at hcs'
  refine ⟨P, bs, c, by simpa using hcs', hby, hbu, fun hz => ?_, hbc⟩
  obtain ⟨P2, bs2, c2, hcs2, _, hl⟩ := openByW hf hz
  have e := hcs.symm.trans hcs2
  simp only [List.cons.injEq, Value.slice.injEq, and_true] at e
  omega
end
end Go.Proofs.YtkfkmndhbfeagaaGreatDoor.Tr
