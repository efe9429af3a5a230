import Derived.Test.YtkfkmndhbfeagaaGreatDoorWq
namespace Go.Proofs.YtkfkmndhbfeagaaGreatDoor.Tr
open Go.RowKit
/-- a count's number, bytes, fault -/
def ct (bs : List UInt8) (most : Nat) : Nat × Nat × Nat :=
  let x := nm bs 18446744073709551615
  if x.2.2 ≠ 0 then (0, 0, x.2.2) else if most < x.1 then (0, 0, 103) else x
theorem ct_bad {bs : List UInt8} {most : Nat} (h : (nm bs 18446744073709551615).2.2 ≠ 0) : ct bs most = (0, 0, (nm bs 18446744073709551615).2.2) := by simp [ct, h]
theorem ct_more {bs : List UInt8} {most : Nat} (h : (nm bs 18446744073709551615).2.2 = 0) (hm : most < (nm bs 18446744073709551615).1) : ct bs most = (0, 0, 103) := by simp [ct, h, hm]
theorem ct_ok {bs : List UInt8} {most : Nat} (h : (nm bs 18446744073709551615).2.2 = 0) (hm : ¬ most < (nm bs 18446744073709551615).1) : ct bs most = nm bs 18446744073709551615 := by simp [ct, h, hm]
set_option maxRecDepth 100000
set_option maxHeartbeats 4000000
theorem count_any (P : Option Addr) (c : Nat) (bs : List UInt8) (most : Nat) (w : World) (hB : By w P c bs) (hl : bs.length ≤ 2 ^ 62) (hm : most < 2 ^ 63) :
    Calls Tryz.prog 40 #[.slice P bs.length c, .int .i64 (most : Int)] w fun e w' => e = .returned (.tuple #[.int .i64 ((ct bs most).1 : Int), .int .i64 ((ct bs most).2.1 : Int), .int .i64 ((ct bs most).2.2 : Int)]) ∧ w' = w := by
  have N : Hid (Calls Tryz.prog 37 #[.slice P bs.length c, .int .u64 18446744073709551615] w fun e w' => e = .returned (.tuple #[.int .u64 ((nm bs 18446744073709551615).1 : Int), .int .i64 ((nm bs 18446744073709551615).2.1 : Int), .int .i64 ((nm bs 18446744073709551615).2.2 : Int)]) ∧ w' = w) := hidden (number_any P c bs 18446744073709551615 w hB hl)
  have hn := fun h => (nm_ok bs 18446744073709551615 h).1
  have k0 : ¬ (most : Int) < 0 := by omega
  have k1 : (most : Int) % 18446744073709551616 = (most : Int) := by omega
  have k2 : IntKind.u64.wrap (most : Int) = (most : Int) := by rw [IntKind.wrap_u64]; omega
  by_cases h0 : (nm bs 18446744073709551615).2.2 = 0
  · have hn := hn h0
    by_cases h1 : most < (nm bs 18446744073709551615).1
    · have HC := hidden (ct_more h0 h1)
      have h2 : (most : Int) < ((nm bs 18446744073709551615).1 : Int) := by omega
      rw [h0] at N
      generalize nm bs 18446744073709551615 = x at *
      clear hB hl hn h0 h1 hm
      go_enter Tryz.func40, Tryz.ntmps40
      go_wp2_with (first | (go_at_call 37; refine N.out.mono ?_; rintro r w2 ⟨rfl, rfl⟩; clear N))
      refine bodyPost_ret (v := .tuple #[.int .i64 0, .int .i64 0, .int .i64 103]) (by simp [results, Tryz.results40, go_sem]) rfl ⟨by rw [HC.out]; rfl, rfl⟩
    · have HC := hidden (ct_ok h0 h1)
      have h2 : ¬ (most : Int) < ((nm bs 18446744073709551615).1 : Int) := by omega
      have k3 : IntKind.i64.wrap ((nm bs 18446744073709551615).1 : Int) = ((nm bs 18446744073709551615).1 : Int) := IntWalk.i64_in _ (by omega)
      have HZ := hidden h0
      rw [h0] at N
      generalize nm bs 18446744073709551615 = x at *
      clear hB hl hn h0 h1 hm
      go_enter Tryz.func40, Tryz.ntmps40
      go_wp2_with (first | (go_at_call 37; refine N.out.mono ?_; rintro r w2 ⟨rfl, rfl⟩; clear N))
      refine bodyPost_ret (v := .tuple #[.int .i64 (x.1 : Int), .int .i64 (x.2.1 : Int), .int .i64 0]) (by simp [results, Tryz.results40, go_sem]) rfl ⟨by rw [HC.out, HZ.out]; rfl, rfl⟩
  · have HC := hidden (ct_bad (most := most) h0)
    have h2 : (((nm bs 18446744073709551615).2.2 : Int) != 0) = true := by simpa using h0
    generalize nm bs 18446744073709551615 = x at *
    clear hB hl hn h0 hm
    go_enter Tryz.func40, Tryz.ntmps40
    go_wp2_with (first | (go_at_call 37; refine N.out.mono ?_; rintro r w2 ⟨rfl, rfl⟩; clear N))
    refine bodyPost_ret (v := .tuple #[.int .i64 0, .int .i64 0, .int .i64 (x.2.2 : Int)]) (by simp [results, Tryz.results40, go_sem]) rfl ⟨by rw [HC.out]; rfl, rfl⟩
theorem told_any (P : Option Addr) (c X : Nat) (bs : List UInt8) (most : Nat) (w : World) (hB : By w P c bs) (hl : bs.length ≤ 2 ^ 62) (hX : w.cell? ⟨X, 0, none⟩ = some (.int .u64 (most : Int))) :
    Calls Tryz.prog 36 #[.slice P bs.length c, .pointer (some ⟨X, 0, none⟩)] w fun e w' => e = .returned (.tuple #[.int .u64 ((nm bs most).1 : Int), .int .i64 ((nm bs most).2.1 : Int), .int .i64 ((nm bs most).2.2 : Int)]) ∧ w' = w := by
  have N := hidden (number_any P c bs most w hB hl)
  generalize nm bs most = x at N
  clear hB hl
  go_enter Tryz.func36, Tryz.ntmps36
  go_wp2_with (first | (go_at_call 37; refine N.out.mono ?_; rintro r w2 ⟨rfl, rfl⟩; clear N))
  refine bodyPost_ret (v := .tuple #[.int .u64 (x.1 : Int), .int .i64 (x.2.1 : Int), .int .i64 (x.2.2 : Int)]) (by simp [results, Tryz.results36, go_sem]) rfl ⟨rfl, rfl⟩
theorem read64_any {w : World} {g c X : Nat} {P : Option Addr} {bs : List UInt8} (most : Nat) (h : Rd w g P c bs 0) (hl : bs.length ≤ 2 ^ 62) (hX : w.cell? ⟨X, 0, none⟩ = some (.int .u64 (most : Int))) :
    Calls Tryz.prog 35 #[.pointer (some ⟨g, 0, none⟩), .func (.func 36) #[] #[.pointer (some ⟨X, 0, none⟩)]] w fun e w' => ∃ (P' : Option Addr) (c' : Nat), e = .returned (.int .u64 ((nm bs most).1 : Int)) ∧ Rd w' g P' c' (bs.drop (nm bs most).2.1) ((nm bs most).2.2 : Int) ∧ Kp g w w' := by
  have E := hidden (err_any h)
  have T := hidden (told_any P c X bs most w h.by' hl hX)
  have x0 := h.c0
  have f0 := h.f 0
  have hok := nm_ok bs most
  have hbad := nm_fault bs most
  by_cases h0 : (nm bs most).2.2 = 0
  · obtain ⟨-, -, h1, -, h2, -⟩ := hok h0
    rw [h0] at T
    obtain ⟨b, o, rfl⟩ := h.by'.none' (by omega)
    generalize nm bs most = x at *
    obtain ⟨n, s, e⟩ := x
    dsimp only at *
    subst h0
    have n0 : (s : Int) ≤ (bs.length : Int) := by omega
    have n1 : (0 : Int) ≤ (s : Int) := by omega
    have hc := h.cap
    have HR := hidden h
    clear hok hbad hl h
    by_cases hcs : c = s
    · subst hcs
      obtain rfl : c = bs.length := by omega
      have HM := hidden (HR.out.move bs.length o 0 0 (by omega) (by omega) (by rw [List.drop_length]; exact ⟨fun e => (by cases e), fun a ha j u hu => (by simp [cb] at hu)⟩))
      go_enter Tryz.func35, Tryz.ntmps35
      go_wp2_with (first | (go_at_call 41; refine E.out.mono ?_; rintro r w2 ⟨rfl, rfl⟩; clear E) | (go_at_call 36; refine T.out.mono ?_; rintro r w2 ⟨rfl, rfl⟩; clear T))
      refine bodyPost_ret (v := .int .u64 (n : Int)) (by simp [results, Tryz.results35, go_sem]) rfl ⟨_, _, rfl, HM.out, Kp.grown (grown_set _ _ _ _)⟩
    · have n2 : ¬ c = s := hcs
      have HM := hidden (HR.out.move s (o + s) (bs.length - s) (c - s) rfl (by omega) (HR.out.by'.drop s _))
      go_enter Tryz.func35, Tryz.ntmps35
      go_wp2_with (first | (go_at_call 41; refine E.out.mono ?_; rintro r w2 ⟨rfl, rfl⟩; clear E) | (go_at_call 36; refine T.out.mono ?_; rintro r w2 ⟨rfl, rfl⟩; clear T))
      refine bodyPost_ret (v := .int .u64 (n : Int)) (by simp [results, Tryz.results35, go_sem]) rfl ⟨_, _, rfl, HM.out, Kp.grown (grown_set _ _ _ _)⟩
  · obtain ⟨h1, h2, -⟩ := hbad h0
    have F := hidden (fail_any h ((nm bs most).2.2 : Int))
    have HM := hidden (h.fail ((nm bs most).2.2 : Int))
    have n0 : (((nm bs most).2.2 : Int) != 0) = true := by simpa using h0
    rw [h1, h2, List.drop_zero]
    rw [h1, h2] at T
    generalize (nm bs most).2.2 = e at *
    clear hok hbad hl h h0 h1 h2
    go_enter Tryz.func35, Tryz.ntmps35
    go_wp2_with (first | (go_at_call 41; refine E.out.mono ?_; rintro r w2 ⟨rfl, rfl⟩; clear E) | (go_at_call 36; refine T.out.mono ?_; rintro r w2 ⟨rfl, rfl⟩; clear T) | (go_at_call 49; refine F.out.mono ?_; rintro r w2 ⟨rfl, rfl⟩; clear F))
    refine bodyPost_ret (v := .int .u64 0) (by simp [results, Tryz.results35, go_sem]) rfl ⟨_, _, rfl, HM.out, Kp.grown (grown_set _ _ _ _)⟩
theorem read64_no {w : World} {g c : Nat} {P : Option Addr} {bs : List UInt8} {e : Int} (f : Value) (h : Rd w g P c bs e) (he : e ≠ 0) :
    Calls Tryz.prog 35 #[.pointer (some ⟨g, 0, none⟩), f] w fun r w' => r = .returned (.int .u64 0) ∧ w' = w := by
  have E := hidden (err_any h)
  have n0 : (e != 0) = true := by simpa using he
  clear h he
  go_enter Tryz.func35, Tryz.ntmps35
  go_wp2_with (first | (go_at_call 41; refine E.out.mono ?_; rintro r w2 ⟨rfl, rfl⟩; clear E))
  refine bodyPost_ret (v := .int .u64 0) (by simp [results, Tryz.results35, go_sem]) rfl ⟨rfl, rfl⟩
theorem box_cell (w : World) (v : Value) (t : TypeId) : (w.alloc (.cells #[v] t)).cell? ⟨w.heap.size, 0, none⟩ = some v := by
  rw [cell_of_row (w.alloc (.cells #[v] t)) w.heap.size 0 #[v] t (0, 0) (heap_alloc_new w _)]
  rfl
theorem Number_any {w : World} {g c : Nat} {P : Option Addr} {bs : List UInt8} (most : Nat) (h : Rd w g P c bs 0) (hl : bs.length ≤ 2 ^ 62) :
    Calls Tryz.prog 16 #[.pointer (some ⟨g, 0, none⟩), .int .u64 (most : Int)] w fun e w' => ∃ (P' : Option Addr) (c' : Nat), e = .returned (.int .u64 ((nm bs most).1 : Int)) ∧ Rd w' g P' c' (bs.drop (nm bs most).2.1) ((nm bs most).2.2 : Int) ∧ Kp g w w' := by
  have hmf : ∀ (fn : Fn) (first cap : Array Value) (w : World), (Instr.makeFunc fn first cap).run Tryz.prog w = .ok (.func fn first cap) w := fun _ _ _ _ => rfl
  have R := hidden (read64_any most (h.keep (bl_alloc w (.cells #[.int .u64 (most : Int)] 22))) hl (box_cell w _ _))
  have K := hidden (Kp.of (g := g) (bl_alloc w (.cells #[.int .u64 (most : Int)] 22)))
  generalize nm bs most = x at *
  clear h hl
  go_enter Tryz.func16, Tryz.ntmps16
  go_wp2_with (first | (go_at_call 35; refine R.out.mono ?_; rintro r w2 ⟨P', c', rfl, hr, hk⟩; have HR := hidden hr; have HK := hidden hk; clear R hr hk))
  refine bodyPost_ret (v := .int .u64 (x.1 : Int)) (by simp [results, Tryz.results16, go_sem]) rfl ⟨_, _, rfl, HR.out, K.out.trans HK.out⟩
theorem Number_no {w : World} {g c : Nat} {P : Option Addr} {bs : List UInt8} {e : Int} (most : Nat) (h : Rd w g P c bs e) (he : e ≠ 0) :
    Calls Tryz.prog 16 #[.pointer (some ⟨g, 0, none⟩), .int .u64 (most : Int)] w fun r w' => r = .returned (.int .u64 0) ∧ Below w.heap.size w w' := by
  have hmf : ∀ (fn : Fn) (first cap : Array Value) (w : World), (Instr.makeFunc fn first cap).run Tryz.prog w = .ok (.func fn first cap) w := fun _ _ _ _ => rfl
  have R := hidden (fun f => read64_no f (h.keep (bl_alloc w (.cells #[.int .u64 (most : Int)] 22))) he)
  have K := hidden (bl_alloc w (.cells #[.int .u64 (most : Int)] 22))
  clear h he
  go_enter Tryz.func16, Tryz.ntmps16
  go_wp2_with (first | (go_at_call 35; refine (R.out _).mono ?_; rintro r w2 ⟨rfl, rfl⟩; clear R))
  refine bodyPost_ret (v := .int .u64 0) (by simp [results, Tryz.results16, go_sem]) rfl ⟨rfl, K.out⟩
end Go.Proofs.YtkfkmndhbfeagaaGreatDoor.Tr
