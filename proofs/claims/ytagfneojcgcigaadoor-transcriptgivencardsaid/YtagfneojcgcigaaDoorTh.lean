import Derived.Test.YtagfneojcgcigaaDoorTg
namespace Go.Proofs.YtagfneojcgcigaaDoor.Tr
open Go.RowKit
theorem sb_list (l : List UInt8) : (sb l).toList = l := by
  rw [ByteArray.toList_eq]
  simp [sb]
theorem list_same {a b : List (List UInt8)} (h : a.length = b.length) (he : ∀ j, j < a.length → a.getD j [] = b.getD j []) : a = b := by
  refine List.ext_getElem h fun i h1 h2 => ?_
  have := he i h1
  simpa [List.getElem?_eq_getElem h1, List.getElem?_eq_getElem h2] using this
set_option maxRecDepth 100000 in
set_option maxHeartbeats 8000000 in
theorem same_any (l m : List UInt8) (a b : List (List UInt8)) (P0 P1 : Option Addr) (k0 k1 : Nat) (q0 q1 : Nat → Option Addr) (c0 c1 : Nat → Nat) (w : World) (h0 : Pt w P0 a q0 c0) (h1 : Pt w P1 b q1 c1) (hl : a.length ≤ 2 ^ 60) :
    Calls Tryd.prog 21 #[.string (sb l), .slice P0 a.length k0, .string (sb m), .slice P1 b.length k1] w fun e w' => e = .returned (.bool (decide (l = m ∧ a = b))) ∧ Below w.heap.size w w' := by
  have H0 := hidden h0
  have H1 := hidden h1
  have HL := hidden hl
  clear h0 h1 hl
  by_cases hlm : l = m
  · subst hlm
    by_cases hab : a.length = b.length
    · have HAB := hidden hab
      have HLB : Hid (b.length ≤ 2 ^ 60) := hidden (by rw [← hab]; exact HL.out)
      have HD : ∀ r : Bool, Hid (r = decide (a = b)) → Hid (r = decide (l = l ∧ a = b)) := fun r h => hidden (by rw [h.out]; simp)
      obtain ⟨D, hD⟩ : ∃ D, D = decide (l = l ∧ a = b) := ⟨_, rfl⟩
      rw [← hD] at HD ⊢
      clear hD
      generalize hn : a.length = n at HAB HL ⊢
      have HN := hidden hn
      rw [← HAB.out]
      clear hn hab
      go_enter Tryd.func21, Tryd.ntmps21
      go_wp2_with fail
      go_loopw [9] (fun iv w' => ∃ i : Nat, i ≤ n ∧ iv = .int .i64 i ∧ Hid (∀ j, j < i → a.getD j [] = b.getD j []) ∧ Hid (Below w.heap.size w w')) (fun i _ => n - (intOf i).toNat)
      case atStart => exact ⟨0, by omega, rfl, hidden (fun j hj => absurd hj (by omega)), hidden (Below.refl _ _)⟩
      case round =>
        obtain ⟨i, hi, rfl, hE, hB⟩ := hrel
        by_cases hin : i < n
        · obtain ⟨b0, o0, rfl, hc0⟩ := H0.out.lie (by have := HN.out; omega)
          obtain ⟨b1, o1, rfl, hc1⟩ := H1.out.lie (by have := HN.out; have := HAB.out; omega)
          have bd := bl_trans hB.out (drew_blW wr)
          have x0 := cell_keep (hc0 i (by have := HN.out; omega)) bd
          have x1 := cell_keep (hc1 i (by have := HN.out; have := HAB.out; omega)) bd
          have y0 := by_conv ((H0.out.each i (by have := HN.out; omega)).keep bd)
          have y1 := by_conv ((H1.out.each i (by have := HN.out; have := HAB.out; omega)).keep bd)
          have ii0 : (0 : Int) ≤ (i : Int) := by omega
          have ii1 : (i : Int) < (n : Int) := by omega
          have w9 : IntKind.i64.wrap ((i : Int) + 1) = (i : Int) + 1 := IntWalk.i64_in _ (by have := HL.out; omega)
          have e0 := sb_list (a.getD i [])
          have e1 := sb_list (b.getD i [])
          have BD := hidden bd
          obtain ⟨p, hp⟩ : ∃ p, p = a.getD i [] := ⟨_, rfl⟩
          obtain ⟨r, hr⟩ : ∃ r, r = b.getD i [] := ⟨_, rfl⟩
          rw [← hp] at x0 y0 e0
          rw [← hr] at x1 y1 e1
          have HPR := hidden (And.intro hp hr)
          clear hc0 hc1 hB bd hp hr
          go_upto_region 6 with fail
          go_cut [36] (fun v wx => v = .bool (!(p == r)) ∧ Below w.heap.size w wx)
          case first =>
            go_region_with fail
            all_goals
              clear x0 x1 y0 y1
              go_wp2_with fail
              go_meet
              exact ⟨by first | rfl | simp [bne], BD.out⟩
          case rest =>
          obtain ⟨rfl, hb3⟩ := hcut
          have B3 := hidden hb3
          clear hb3 x0 x1 y0 y1 BD e0 e1
          by_cases hpr : p = r
          · have hq : (p == r) = true := by simpa using hpr
            have NE : Hid (∀ j, j < i + 1 → a.getD j [] = b.getD j []) := hidden (fun j hj => by
              by_cases e : j = i
              · subst e; rw [← HPR.out.1, ← HPR.out.2]; exact hpr
              · exact hE.out j (by omega))
            rw [hq]
            clear hpr hE HPR hq
            go_wp2_with fail
            go_roundw
            case rel => exact ⟨i + 1, by omega, by go_num, NE, B3⟩
            case measure => simp [intOf]; omega
          · have hq : (p == r) = false := by simpa using hpr
            have RD := HD false (hidden (by
              have : ¬ a = b := fun e => hpr (by rw [HPR.out.1, HPR.out.2, e])
              simp [this]))
            rw [hq]
            clear hpr hE HPR hq
            go_wp2_with fail
            refine bodyPost_ret (v := .bool false) (by simp [results, Tryd.results21, go_sem]) rfl ⟨by rw [RD.out], B3.out⟩
        · obtain rfl : i = n := by omega
          have lq : ¬ (i : Int) < (i : Int) := by omega
          have RD := HD true (hidden (by
            have : a = b := list_same (by rw [HN.out, HAB.out]) (fun j hj => hE.out j (by rw [← HN.out]; exact hj))
            simp [this]))
          go_wp2_with fail
          refine bodyPost_ret (v := .bool true) (by simp [results, Tryd.results21, go_sem]) rfl ⟨by rw [RD.out], hB.out⟩
    · have h1 : ¬ (a.length : Int) = (b.length : Int) := by omega
      have h2 : ¬ (l = l ∧ a = b) := fun h => hab (by rw [h.2])
      rw [decide_eq_false h2]
      clear h2
      go_enter Tryd.func21, Tryd.ntmps21
      go_wp2_with fail
      refine bodyPost_ret (v := .bool false) (by simp [results, Tryd.results21, go_sem]) rfl ⟨rfl, Below.refl _ _⟩
  · have h1 : (l == m) = false := by simpa using hlm
    have h2 : ¬ (l = m ∧ a = b) := fun h => hlm h.1
    have e0 := sb_list l
    have e1 := sb_list m
    rw [decide_eq_false h2]
    clear h2
    go_enter Tryd.func21, Tryd.ntmps21
    go_wp2_with fail
    refine bodyPost_ret (v := .bool false) (by simp [results, Tryd.results21, go_sem]) rfl ⟨rfl, Below.refl _ _⟩
end Go.Proofs.YtagfneojcgcigaaDoor.Tr
