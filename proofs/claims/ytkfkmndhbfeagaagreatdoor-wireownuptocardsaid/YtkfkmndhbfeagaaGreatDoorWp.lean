import Derived.Test.YtkfkmndhbfeagaaGreatDoorWn
import Derived.ScopeJumps
import Derived.WalkMore
namespace Go.Proofs.YtkfkmndhbfeagaaGreatDoor.Tr
open Go.RowKit
theorem and127 (y : UInt8) : bits .and .u8 (y.toNat : Int) 127 = ((y.toNat % 128 : Nat) : Int) := by
  have : ∀ n : Fin 256, bits .and .u8 (n.val : Int) 127 = ((n.val % 128 : Nat) : Int) := by decide +kernel
  exact this ⟨y.toNat, y.toNat_lt⟩
theorem or_add (acc x k : Nat) (ha : acc < 2 ^ (7 * k)) (hx : x * 2 ^ (7 * k) < 2 ^ 64) (hk : k ≤ 9) : bits .or .u64 (acc : Int) ((x * 2 ^ (7 * k) : Nat) : Int) = ((acc + x * 2 ^ (7 * k) : Nat) : Int) := by
  have h64 : 2 ^ (7 * k) ≤ 2 ^ 63 := Nat.pow_le_pow_right (by omega) (by omega)
  have h1 := u64_or acc (x * 2 ^ (7 * k)) (by omega) hx
  have h2 : acc ||| x * 2 ^ (7 * k) = acc + x * 2 ^ (7 * k) := by
    have := Nat.shiftLeft_add_eq_or_of_lt ha x
    rw [Nat.shiftLeft_eq] at this
    rw [Nat.or_comm, ← this]
    omega
  rw [← h2, ← h1]
  rfl
theorem nm_of {bs : List UInt8} {most : Nat} {x : Nat × Nat × Nat} (h : rd 0 0 bs = x) : nm bs most = if x.2.2 = 0 ∧ most < x.1 then (0, 0, 102) else x := by
  unfold nm
  rw [h]
set_option maxRecDepth 100000 in
set_option maxHeartbeats 8000000 in
theorem number_any (P : Option Addr) (c : Nat) (bs : List UInt8) (most : Nat) (w : World) (hB : By w P c bs) (hl : bs.length ≤ 2 ^ 62) :
    Calls Tryz.prog 37 #[.slice P bs.length c, .int .u64 (most : Int)] w fun e w' => e = .returned (.tuple #[.int .u64 ((nm bs most).1 : Int), .int .i64 ((nm bs most).2.1 : Int), .int .i64 ((nm bs most).2.2 : Int)]) ∧ w' = w := by
  have HL := hidden hl
  have HP := hidden hB
  clear hl hB
  go_enter Tryz.func37, Tryz.ntmps37
  go_wp2_with fail
  refine wp_scope_jumps 0 (fun a' w' => w' = w ∧ Hid (nm bs most = (0, 0, 102)) ∧ ∃ (x0 x1 x2 x3 x4 x5 x6 x7 x8 x9 x10 x11 x12 x13 x14 x15 x16 x17 x18 x19 x20 x21 x22 x23 x24 x25 x26 x27 x28 x29 x30 x31 x32 x33 x34 x35 x36 x37 x38 x39 x40 x41 x42 x43 x44 : Value), a' = { tmps := #[x0, x1, x2, x3, x4, x5, x6, x7, x8, x9, x10, x11, x12, x13, x14, x15, x16, x17, x18, x19, x20, x21, x22, x23, x24, x25, x26, x27, x28, x29, x30, x31, x32, x33, x34, x35, x36, x37, x38, x39, x40, x41, x42, x43, x44], defers := [] }) (fun _ _ => 0) rfl ?_ ?_
  · go_wp2_with fail
    go_loopw [4, 11] (fun av kv w' => ∃ k acc : Nat, k ≤ bs.length ∧ k ≤ 9 ∧ kv = .int .i64 (k : Int) ∧ av = .int .u64 (acc : Int) ∧ Hid (acc < 2 ^ (7 * k) ∧ rd 0 0 bs = rd k acc (bs.drop k)) ∧ w' = w) (fun _ k _ => bs.length - (intOf k).toNat)
    case atStart => exact ⟨0, 0, by omega, by omega, rfl, rfl, hidden ⟨by simp, by simp⟩, rfl⟩
    case round =>
      obtain ⟨k, acc, hk, hk9, rfl, rfl, HR, rfl⟩ := hrel
      by_cases hkn : k < bs.length
      · obtain ⟨b, o, rfl⟩ := HP.out.none' (by omega)
        have x0 := HP.out.at k hkn
        have k0 : (0 : Int) ≤ (k : Int) := by omega
        have k1 : (k : Int) < (bs.length : Int) := by omega
        have hdr : bs.drop k = bs.getD k 0 :: bs.drop (k + 1) := by
          rw [List.drop_eq_getElem_cons hkn]
          simp [hkn]
        have HRR := HR.out
        rw [hdr] at HRR
        generalize bs.getD k 0 = y at x0 HRR
        have y0 := y.toNat_lt
        have HR2 := hidden HRR
        clear HRR hdr HR
        have HNM := hidden (nm_of (most := most) HR2.out.2)
        by_cases hA : k = 9 ∧ 1 < y.toNat
        · have q9 : ((k : Int) == 9) = true := by simp; omega
          have q1 : (1 : Int) < (y.toNat : Int) := by omega
          have HN : Hid (nm bs most = (0, 0, 102)) := hidden (by rw [HNM.out]; unfold rd; rw [if_pos hA]; rfl)
          clear HNM HR2 hA
          go_wp2_with fail
          go_step3
          refine ⟨rfl, rfl, HN, _, _, _, _, _, _, _, _, _, _, _, _, _, _, _, _, _, _, _, _, _, _, _, _, _, _, _, _, _, _, _, _, _, _, _, _, _, _, _, _, _, _, _, _, _, rfl⟩
        · have e0 := and127 y
          have w7 : IntKind.i64.wrap (7 * (k : Int)) = 7 * (k : Int) := IntWalk.i64_in _ (by omega)
          have hS : (y.toNat % 128) * 2 ^ (7 * k) < 2 ^ 64 := by
            by_cases h9 : k = 9
            · subst h9
              have : ¬ 1 < y.toNat := fun h => hA ⟨rfl, h⟩
              have : y.toNat % 128 ≤ 1 := by omega
              calc (y.toNat % 128) * 2 ^ (7 * 9) ≤ 1 * 2 ^ (7 * 9) := Nat.mul_le_mul_right _ this
                _ < 2 ^ 64 := by decide
            · have h1 : 2 ^ (7 * k) ≤ 2 ^ 56 := Nat.pow_le_pow_right (by omega) (by omega)
              have h2 : (y.toNat % 128) * 2 ^ (7 * k) ≤ 127 * 2 ^ 56 := Nat.mul_le_mul (by omega) h1
              omega
          have e1 : IntKind.u64.wrap ((y.toNat : Int) % 128 * 2 ^ (7 * k)) = (((y.toNat % 128) * 2 ^ (7 * k) : Nat) : Int) := by
            rw [show ((y.toNat : Int) % 128) * 2 ^ (7 * k) = (((y.toNat % 128) * 2 ^ (7 * k) : Nat) : Int) by simp, IntKind.wrap_u64]
            omega
          have e2 := or_add acc (y.toNat % 128) k HR2.out.1 hS hk9
          have k7 : ¬ 7 * (k : Int) < 0 := by omega
          have HA64 : Hid (acc + (y.toNat % 128) * 2 ^ (7 * k) < 2 ^ 64) := hidden (by
            have h1 : (acc ||| (y.toNat % 128) * 2 ^ (7 * k)) < 2 ^ 64 := Nat.or_lt_two_pow (Nat.lt_of_lt_of_le HR2.out.1 (Nat.pow_le_pow_right (by omega) (by omega))) hS
            have h2 : acc ||| (y.toNat % 128) * 2 ^ (7 * k) = acc + (y.toNat % 128) * 2 ^ (7 * k) := by
              have := Nat.shiftLeft_add_eq_or_of_lt HR2.out.1 (y.toNat % 128)
              rw [Nat.shiftLeft_eq] at this
              rw [Nat.or_comm, ← this]
              omega
            omega)
          have hq : (((k : Int) == 9) = true ∧ ¬ (1 : Int) < (y.toNat : Int)) ∨ (((k : Int) == 9) = false ∧ True) := by
            by_cases h9 : k = 9
            · exact .inl ⟨by simp; omega, by omega⟩
            · exact .inr ⟨by simp; omega, trivial⟩
          have HE : Hid (rd k acc (y :: bs.drop (k + 1)) = if 128 ≤ y.toNat then rd (k + 1) (acc + (y.toNat - 128) * 2 ^ (7 * k)) (bs.drop (k + 1)) else if y.toNat = 0 ∧ 0 < k then (0, 0, 102) else (acc + y.toNat * 2 ^ (7 * k), k + 1, 0)) := hidden (by rw [rd, if_neg hA])
          rcases Nat.lt_or_ge y.toNat 128 with hy | hy
          · have hym : y.toNat % 128 = y.toNat := by omega
            have hyl : ¬ (128 : Int) ≤ (y.toNat : Int) := by omega
            have HE2 := HE.out
            rw [if_neg (by omega)] at HE2
            rw [hym] at e1 e2 HA64
            by_cases hz : y.toNat = 0 ∧ 0 < k
            · have z0 : ((y.toNat : Int) == 0) = true := by simp; omega
              have z1 : (0 : Int) < (k : Int) := by omega
              have HN : Hid (nm bs most = (0, 0, 102)) := hidden (by rw [HNM.out, HE2, if_pos hz]; rfl)
              generalize y.toNat * 2 ^ (7 * k) = S at e1 e2 HA64
              clear HNM HR2 HE HE2 hA hS hz hym hy HA64
              rcases hq with ⟨q9, q1⟩ | ⟨q9, -⟩
              all_goals
                go_wp2_with fail
                go_step3
                refine ⟨rfl, rfl, HN, _, _, _, _, _, _, _, _, _, _, _, _, _, _, _, _, _, _, _, _, _, _, _, _, _, _, _, _, _, _, _, _, _, _, _, _, _, _, _, _, _, _, _, _, _, rfl⟩
            · have z2 : ((y.toNat : Int) == 0) = false ∨ (((y.toNat : Int) == 0) = true ∧ ¬ (0 : Int) < (k : Int)) := by
                by_cases h0 : y.toNat = 0
                · exact .inr ⟨by simp; omega, by omega⟩
                · exact .inl (by simp; omega)
              rw [if_neg hz] at HE2
              have HM := HNM.out
              rw [HE2] at HM
              by_cases hm : most < acc + y.toNat * 2 ^ (7 * k)
              · have m0 : (most : Int) < ((acc + y.toNat * 2 ^ (7 * k) : Nat) : Int) := by omega
                have HN : Hid (nm bs most = (0, 0, 102)) := hidden (by rw [HM, if_pos ⟨rfl, hm⟩])
                generalize acc + y.toNat * 2 ^ (7 * k) = A at e2 m0 HA64
                generalize y.toNat * 2 ^ (7 * k) = S at e1 e2
                clear HNM HR2 HE HE2 HM hA hS hz hym hy HA64 hm
                rcases hq with ⟨q9, q1⟩ | ⟨q9, -⟩
                all_goals
                  rcases z2 with z0 | ⟨z0, z1⟩
                  all_goals
                    go_wp2_with fail
                    go_step3
                    refine ⟨rfl, rfl, HN, _, _, _, _, _, _, _, _, _, _, _, _, _, _, _, _, _, _, _, _, _, _, _, _, _, _, _, _, _, _, _, _, _, _, _, _, _, _, _, _, _, _, _, _, _, rfl⟩
              · have m0 : ¬ (most : Int) < ((acc + y.toNat * 2 ^ (7 * k) : Nat) : Int) := by omega
                have HN : Hid (nm bs most = (acc + y.toNat * 2 ^ (7 * k), k + 1, 0)) := hidden (by rw [HM, if_neg (fun h => hm h.2)])
                have w9 : IntKind.i64.wrap ((k : Int) + 1) = ((k + 1 : Nat) : Int) := by rw [IntWalk.i64_in _ (by omega)]; omega
                generalize acc + y.toNat * 2 ^ (7 * k) = A at e2 m0 HA64 HN
                generalize y.toNat * 2 ^ (7 * k) = S at e1 e2
                clear HNM HR2 HE HE2 HM hA hS hz hym hy HA64 hm
                rcases hq with ⟨q9, q1⟩ | ⟨q9, -⟩
                all_goals
                  rcases z2 with z0 | ⟨z0, z1⟩
                  all_goals
                    go_wp2_with fail
                    simp only [Exit.jump]
                    refine bodyPost_ret (v := .tuple #[.int .u64 (A : Int), .int .i64 ((k + 1 : Nat) : Int), .int .i64 0]) (by simp [results, Tryz.results37, go_sem]) rfl ⟨by rw [HN.out]; rfl, rfl⟩
          · have hym : y.toNat % 128 = y.toNat - 128 := by omega
            have hyl : (128 : Int) ≤ (y.toNat : Int) := by omega
            have hk8 : k ≠ 9 := fun h => hA ⟨h, by omega⟩
            have q9 : ((k : Int) == 9) = false := by simp; omega
            have HE2 := HE.out
            rw [if_pos hy, ← hym] at HE2
            have w9 : IntKind.i64.wrap ((k : Int) + 1) = (k : Int) + 1 := IntWalk.i64_in _ (by omega)
            have HR3 : Hid (acc + (y.toNat % 128) * 2 ^ (7 * k) < 2 ^ (7 * (k + 1)) ∧ rd 0 0 bs = rd (k + 1) (acc + (y.toNat % 128) * 2 ^ (7 * k)) (bs.drop (k + 1))) := hidden (by
              refine ⟨?_, HR2.out.2.trans HE2⟩
              have h1 := HR2.out.1
              have hp : 2 ^ (7 * (k + 1)) = 2 ^ (7 * k) * 128 := by rw [Nat.mul_add, Nat.pow_add]
              have : (y.toNat % 128) * 2 ^ (7 * k) ≤ 127 * 2 ^ (7 * k) := Nat.mul_le_mul_right _ (by omega)
              omega)
            generalize acc + (y.toNat % 128) * 2 ^ (7 * k) = A at e2 HR3 HA64
            generalize (y.toNat % 128) * 2 ^ (7 * k) = S at e1 e2
            clear HNM HR2 HE HE2 hA hS hq hym HA64
            go_wp2_with fail
            go_roundw
            case rel => first | exact ⟨k + 1, A, by omega, by omega, by go_num, rfl, HR3, rfl⟩ | exact ⟨k + 1, A, by omega, by omega, by go_num, rfl, HR3, trivial⟩
            case measure => simp [intOf]; omega
      · obtain rfl : k = bs.length := by omega
        have lq : ¬ (bs.length : Int) < (bs.length : Int) := by omega
        have HN : Hid (nm bs most = (0, 0, 100)) := hidden (by
          rw [nm_of HR.out.2, List.drop_length]
          rfl)
        clear HR
        go_wp2_with fail
        simp only [Exit.jump]
        refine bodyPost_ret (v := .tuple #[.int .u64 0, .int .i64 0, .int .i64 100]) (by simp [results, Tryz.results37, go_sem]) rfl ⟨by rw [HN.out]; rfl, rfl⟩
  · rintro a' w' ⟨rfl, HN, x0, x1, x2, x3, x4, x5, x6, x7, x8, x9, x10, x11, x12, x13, x14, x15, x16, x17, x18, x19, x20, x21, x22, x23, x24, x25, x26, x27, x28, x29, x30, x31, x32, x33, x34, x35, x36, x37, x38, x39, x40, x41, x42, x43, x44, rfl⟩
    go_wp2_with fail
    simp only [Exit.jump]
    refine bodyPost_ret (v := .tuple #[.int .u64 0, .int .i64 0, .int .i64 102]) (by simp [results, Tryz.results37, go_sem]) rfl ⟨by rw [HN.out]; rfl, rfl⟩
end Go.Proofs.YtkfkmndhbfeagaaGreatDoor.Tr
