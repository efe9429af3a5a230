import Derived.Test.YtfkigebbcbfkiaaWi
namespace Go.Proofs.Ytfkigebbcbfkiaa
open Go.RowKit
theorem dv_le (c : UInt8) : dv c ≤ 16 := by
  have := c.toNat_lt
  unfold dv
  split
  · omega
  · split <;> omega
set_option maxRecDepth 100000 in
set_option maxHeartbeats 4000000 in
theorem rdigit_any (c : UInt8) (w : World) :
    Calls Try.prog 28 #[.int .u8 (c.toNat : Int)] w fun e w' => e = .returned (.int .i64 (dv c : Int)) ∧ w' = w := by
  go_enter Try.func28, Try.ntmps28
  go_wp2_with fail
  go_loopw [3] (fun iv w' => ∃ i : Nat, i ≤ 16 ∧ iv = .int .i64 (i : Int) ∧ Hid (∀ j, j < i → hd j ≠ c) ∧ w' = w) (fun i _ => 16 - (intOf i).toNat)
  case atStart => exact ⟨0, by omega, rfl, hidden (fun j hj => by omega), rfl⟩
  case round =>
    obtain ⟨i, hi, rfl, HJ, rfl⟩ := hrel
    by_cases hi16 : i < 16
    · have j0 : (0 : Int) ≤ (i : Int) ∧ (i : Int) < 16 := by omega
      have j1 : (i : Int) < 16 := by omega
      have i0 := ixd i hi16 (i : Int).toNat (by omega)
      have i1 := ixd i hi16 i rfl
      have w9 : IntKind.i64.wrap ((i : Int) + 1) = (i : Int) + 1 := IntWalk.i64_in _ (by omega)
      by_cases e : hd i = c
      · have HE : Hid (dv c = i) := hidden (by rw [← e, hd_dv i hi16])
        have e1 : ((hd i).toNat : Int) = (c.toNat : Int) := by rw [e]
        clear HJ
        go_wp2_with fail
        refine bodyPost_ret (v := .int .i64 (i : Int)) (by simp [results, Try.results28, go_sem]) rfl ⟨by rw [HE.out], rfl⟩
      · have e1 : ¬ ((hd i).toNat : Int) = (c.toNat : Int) := fun h => e (UInt8.toNat_inj.1 (by omega))
        have e2 : ¬ hd i = c := e
        have HN : Hid (∀ j, j < i + 1 → hd j ≠ c) := hidden (fun j hj => by
          by_cases h : j = i
          · subst h; exact e
          · exact HJ.out j (by omega))
        clear HJ e
        go_wp2_with fail
        go_roundw
        case rel => exact ⟨i + 1, by omega, by go_num, HN, trivial⟩
        case measure => simp [intOf]; omega
    · obtain rfl : i = 16 := by omega
      have HE : Hid (dv c = 16) := hidden (by
        have := dv_le c
        by_cases h : dv c < 16
        · exact absurd (dv_hd c h) (HJ.out _ h)
        · omega)
      clear HJ
      go_wp2_with fail
      refine bodyPost_ret (v := .int .i64 16) (by simp [results, Try.results28, go_sem]) rfl ⟨by rw [HE.out]; rfl, rfl⟩
theorem ul_next (l : List UInt8) (k : Nat) (h : 2 * k + 1 < l.length) : (ul l l.length).take (k + 1) = (ul l l.length).take k ++ [UInt8.ofNat (16 * dv (l.getD (2 * k) 0) + dv (l.getD (2 * k + 1) 0))] := by
  rw [List.take_add_one]
  congr 1
  simp only [ul, List.getElem?_map, List.getElem?_range (show k < l.length / 2 by omega), Option.map_some, Option.toList_some]
  unfold ub
  rw [if_pos h]
set_option maxRecDepth 100000 in
set_option maxHeartbeats 8000000 in
theorem runhex_any (l : List UInt8) (w : World) (hl : l.length ≤ 140737488355000) :
    Calls Try.prog 18 #[.string (sb l)] w fun e w' => ∃ (v : Value) (n : Nat), e = .returned (.tuple #[v, .int .i64 (n : Int)]) ∧ UhR l w w' v n ∧ Below w.heap.size w w' := by
  have z0 := sb_size l
  have HL := hidden hl
  by_cases he : l.length % 2 = 0
  · have r1 : (l.length : Int) % 2 = 0 := by omega
    have HO : Hid (w.ownsRow w.heap.size 5 1 (.slice none 0 0) ([] : List UInt8).length (cb [])) := hidden (World.ownsRow_nil w w.heap.size 5 1)
    have HB := hidden (Below.refl w.heap.size w)
    clear hl
    go_enter Try.func18, Try.ntmps18
    go_upto_region 5 with fail
    clear r1
    go_loopw [4, 5] (fun vv iv w' => ∃ k : Nat, 2 * k ≤ l.length ∧ iv = .int .i64 (2 * (k : Int)) ∧ Hid (∀ i, i < 2 * k → dv (l.getD i 0) < 16) ∧ Hid (w'.ownsRow w.heap.size 5 1 vv ((ul l l.length).take k).length (cb ((ul l l.length).take k))) ∧ Hid (Below w.heap.size w w')) (fun _ i _ => l.length - (intOf i).toNat)
    case atStart => exact ⟨0, by omega, rfl, hidden (fun i hi => by omega), HO, HB⟩
    case round =>
      clear HO HB
      obtain ⟨k, hk, rfl, HD, HO, HB⟩ := hrel
      by_cases hkn : 2 * k < l.length
      · have j1 : 2 * (k : Int) < (l.length : Int) := by omega
        have w1 : IntKind.i64.wrap (2 * (k : Int) + 1) = 2 * (k : Int) + 1 := IntWalk.i64_in _ (by have := HL.out; omega)
        have w2 : IntKind.i64.wrap (2 * (k : Int) + 2) = 2 * (k : Int) + 2 := IntWalk.i64_in _ (by have := HL.out; omega)
        have g0 : ∀ h, (sb l)[(2 * (k : Int)).toNat]'h = l.getD (2 * k) 0 := fun h => by
          rw [← sb_get l (2 * k) (by rw [sb_size]; exact hkn) hkn]
          congr 1
          try omega
        have g1 : ∀ h, (sb l)[(2 * (k : Int) + 1).toNat]'h = l.getD (2 * k + 1) 0 := fun h => by
          rw [← sb_get l (2 * k + 1) (by rw [sb_size]; omega) (by omega)]
          congr 1
          try omega
        have j2 : (0 : Int) ≤ 2 * (k : Int) ∧ 2 * (k : Int) < (l.length : Int) := by omega
        have j3 : (0 : Int) ≤ 2 * (k : Int) + 1 ∧ 2 * (k : Int) + 1 < (l.length : Int) := by omega
        have D0 := hidden (rdigit_any (l.getD (2 * k) 0))
        have D1 := hidden (rdigit_any (l.getD (2 * k + 1) 0))
        have l0 := dv_le (l.getD (2 * k) 0)
        have l1 := dv_le (l.getD (2 * k + 1) 0)
        have HU0 := hidden (fun h => uh_bad l.length l (2 * k) (Nat.le_refl _) hkn h)
        have HU1 := hidden (fun h => uh_bad l.length l (2 * k + 1) (Nat.le_refl _) (by omega) h)
        have HT := hidden (ul_next l k (by omega))
        have HD' := hidden (fun (h0 : dv (l.getD (2 * k) 0) < 16) (h1 : dv (l.getD (2 * k + 1) 0) < 16) i (hi : i < 2 * (k + 1)) => show dv (l.getD i 0) < 16 by
          by_cases h : i < 2 * k
          · exact HD.out i h
          · by_cases h2 : i = 2 * k
            · rw [h2]; exact h0
            · rw [show i = 2 * k + 1 by omega]; exact h1)
        clear HD
        generalize dv (l.getD (2 * k) 0) = x at D0 l0 HU0 HT HD'
        generalize dv (l.getD (2 * k + 1) 0) = y at D1 l1 HU1 HT HD'
        generalize l.getD (2 * k) 0 = c0 at g0 D0
        generalize l.getD (2 * k + 1) 0 = c1 at g1 D1
        go_upto_region 7 with fail
        go_region_law (first | (go_simp; go_at_call 28; refine (D0.out _).mono ?_; rintro e w2 ⟨rfl, rfl⟩; clear D0) | (go_simp; go_at_call 28; refine (D1.out _).mono ?_; rintro e w2 ⟨rfl, rfl⟩; clear D1))
        all_goals
          clear g0 g1 j2 j3 w1
          have HO1 := hidden HO.out.drew
          have HB1 := hidden (bl_trans HB.out (drew_blW _))
          generalize wr.drew = wd at HO1 HB1 ⊢
          clear HO HB
          by_cases hx : x = 16
          · subst hx
            have HU := hidden (HU0.out (by omega))
            clear HU0 HU1 HT HD' l0 l1
            go_wp2_with fail
            refine bodyPost_ret (v := .tuple #[.slice none 0 0, .int .i64 104]) (by simp [results, Try.results18, go_sem]) rfl ⟨_, 104, rfl, by unfold UhR; rw [HU.out]; exact ⟨rfl, rfl⟩, HB1.out⟩
          · have hx1 : ((x : Int) == 16) = false := by simp; omega
            by_cases hy : y = 16
            · subst hy
              have HU := hidden (HU1.out (by omega))
              clear HU0 HU1 HT HD' l0 l1
              go_wp2_with fail
              refine bodyPost_ret (v := .tuple #[.slice none 0 0, .int .i64 104]) (by simp [results, Try.results18, go_sem]) rfl ⟨_, 104, rfl, by unfold UhR; rw [HU.out]; exact ⟨rfl, rfl⟩, HB1.out⟩
            · have hy1 : ((y : Int) == 16) = false := by simp; omega
              have v0 : IntKind.i64.wrap (16 * (x : Int)) = 16 * (x : Int) := IntWalk.i64_in _ (by omega)
              have v1 : IntKind.i64.wrap (16 * (x : Int) + (y : Int)) = 16 * (x : Int) + (y : Int) := IntWalk.i64_in _ (by omega)
              have v2 : (16 * (x : Int) + (y : Int)) % 256 = ((UInt8.ofNat (16 * x + y)).toNat : Int) := by rw [UInt8.toNat_ofNat']; omega
              replace HD' := hidden (HD'.out (by omega) (by omega))
              have HTl : Hid (((ul l l.length).take k).length ≤ 140737488355000) := hidden (by have := HL.out; rw [List.length_take, ul_len]; omega)
              generalize UInt8.ofNat (16 * x + y) = z at v2 HT
              generalize (ul l l.length).take k = T at HO1 HT HTl
              clear HU0 HU1 l0 l1 hx hy
              go_wp2_with (first | (at_builtin; refine wpList_app_by rfl _ _ rfl w.heap.size _ T [z] (some ⟨wd.heap.size, 0, none⟩) 1 rfl rfl (own_stay HO1.out (bl_alloc wd _)) (by_list wd [z] 1) (by have := HTl.out; simp only [List.length_cons, List.length_nil]; omega) (by have := HB1.out.size; simp; omega) ?_; intro v1 w1 ho1 hg1; have HO2 := hidden ho1; have HB2 := hidden (below_trans (bl_trans HB1.out (bl_alloc wd _)) (below_grown hg1 (by have := HB1.out.size; simp; omega) (fun j hj => (HO1.out.lt j hj).1))); clear ho1 hg1))
              go_roundw
              case rel => exact ⟨k + 1, by omega, by go_num, HD', by rw [HT.out]; exact HO2, HB2⟩
              case measure => simp [intOf]; omega
      · have hk2 : 2 * k = l.length := by omega
        have lq : ¬ 2 * (k : Int) < (l.length : Int) := by omega
        have HU := hidden (uh_all l he (fun i hi => HD.out i (by omega)))
        have HO1 := HO.out
        rw [List.take_of_length_le (by rw [ul_len]; omega)] at HO1
        have HO2 := hidden HO1
        clear HD HO1 HO
        go_wp2_with fail
        refine bodyPost_ret (v := .tuple #[u4, .int .i64 0]) (by simp [results, Try.results18, go_sem]) rfl ⟨_, 0, rfl, by unfold UhR; rw [HU.out]; exact ⟨rfl, HO2.out⟩, HB.out⟩
  · have r1 : (l.length : Int) % 2 = 1 := by omega
    have HU := hidden (uh_odd l.length l (Nat.le_refl _) (by omega))
    clear hl
    go_enter Try.func18, Try.ntmps18
    go_wp2_with fail
    refine bodyPost_ret (v := .tuple #[.slice none 0 0, .int .i64 104]) (by simp [results, Try.results18, go_sem]) rfl ⟨_, 104, rfl, by unfold UhR; rw [HU.out]; exact ⟨rfl, rfl⟩, Below.refl _ _⟩
end Go.Proofs.Ytfkigebbcbfkiaa
