import Derived.Test.YtnbcfchbhappeaaDoorAelm
import Derived.Test.YtnbcfchbhappeaaDoorAta
import Derived.Test.YtnbcfchbhappeaaDoorAhm
namespace Go.Proofs.YtnbcfchbhappeaaDoor.Al
open Go.RowKit
set_option maxRecDepth 100000 in
set_option maxHeartbeats 8000000 in
theorem eliminate_any (S n cS m : Nat) (b c : Nat → Nat) (A M : Nat → Nat → Int) (r : Nat → Int) (w : World) (h40 : n ≤ 40) (hnS : n ≤ cS) (hm : m ≤ w.heap.size) (hmS : m ≤ S) (hmb : ∀ i, i < n → m ≤ b i) (hM : Ms w S n b c (fun _ => 0) M) (hE : Mx.Ei 7 n A r 0 M) :
    Calls Tryd.prog 42 #[.slice (some ⟨S, 0, none⟩) n cS] w fun e w' => Below m w w' ∧ ((e = .returned (.tuple #[]) ∧ ∃ (b' c' : Nat → Nat) (M' : Nat → Nat → Int), Ms w' S n b' c' (fun i => i + 1) M' ∧ Mx.Ei 7 n A r n M') ∨ (e = .panicked [{ v := .iface 47 (.int .i64 61), recovered := false }] ∧ Mx.C 7 (Mx.det n A) 0)) := by
  have H40 := hidden h40
  have HNS := hidden hnS
  have HM0 := hidden (hM.congr (lo' := lok 0) (fun i _ => by unfold lok; rw [if_neg (by omega)]))
  have HE0 := hidden hE
  have HB0 := hidden hmb
  have nn0 : (0 : Int) ≤ (n : Int) := by omega
  have B0 := hidden (Below.refl m w)
  clear h40 hnS hM hE hmb
  go_enter Tryd.func42, Tryd.ntmps42
  go_wp2_with fail
  go_loopw [11] (fun kv w' => ∃ (k : Nat) (b' c' : Nat → Nat) (M' : Nat → Nat → Int), k ≤ n ∧ kv = .int .i64 (k : Int) ∧ Hid (Ms w' S n b' c' (lok k) M') ∧ Hid (Mx.Ei 7 n A r k M') ∧ Hid (∀ i, i < n → m ≤ b' i) ∧ Hid (Below m w w')) (fun k _ => n - (intOf k).toNat)
  case atStart => exact ⟨0, b, c, M, by omega, rfl, HM0, HE0, HB0, B0⟩
  case round =>
    clear HM0 HE0 HB0 B0
    clear b c M
    obtain ⟨k, b, c, M, hk, rfl, hM, hE, hmb, hB⟩ := hrel
    by_cases hkn : k < n
    · have k0 : (0 : Int) ≤ (k : Int) := by omega
      have k1 : (k : Int) < (n : Int) := by omega
      have k2 : (k : Int) < ((n + 1 : Nat) : Int) := by omega
      have k3 : (k : Int) + 1 ≤ ((n + 1 : Nat) : Int) := by omega
      have k4 : (0 : Int) ≤ (k : Int) + 1 := by omega
      have k5 : (k : Int) + 1 ≤ (n : Int) := by omega
      have w9 : IntKind.i64.wrap ((k : Int) + 1) = (k : Int) + 1 := IntWalk.i64_in _ (by have := H40.out; omega)
      have PV := hidden (pivot_any S n cS k b c (lok k) M wr H40.out hkn (fun i h1 h2 => by unfold lok; rw [if_neg (by omega)]; exact Nat.le_refl _) hM.out)
      have HBM := hidden hm
      by_cases hz : ∀ i, k ≤ i → i < n → Mx.C 7 (M i k) 0
      · have PV1 := hidden (PV.out.mono (R' := fun e w' => e = .panicked [{ v := .iface 47 (.int .i64 61), recovered := false }] ∧ Below wr.heap.size wr w') (fun e w' h => by
          rcases h.2 with ⟨p, _, h1, h2, h3⟩ | ⟨h1, _⟩
          · exact absurd (hz p h1 h2) h3
          · exact ⟨h1, h.1⟩))
        have DZ := hidden (hE.out.none hkn hz)
        clear PV hz
        go_wp2_with (first | (go_at_call 54; refine (PV1.out).mono ?_; rintro e wa ⟨rfl, ha⟩; have HA := hidden ((hB.out).trans (ha.mono (Nat.le_trans HBM.out hB.out.size))); clear ha))
        exact ⟨rfl, HA.out, .inr ⟨rfl, DZ.out⟩⟩
      · have PV1 := hidden (PV.out.mono (R' := fun e w' => ∃ p : Nat, e = .returned (.int .i64 p) ∧ k ≤ p ∧ p < n ∧ ¬ Mx.C 7 (M p k) 0 ∧ Below wr.heap.size wr w') (fun e w' h => by
          rcases h.2 with ⟨p, h0, h1, h2, h3⟩ | ⟨h1, h2⟩
          · exact ⟨p, h0, h1, h2, h3, h.1⟩
          · exact absurd h2 hz))
        clear PV hz
        go_upto_region 4 with (first | (go_at_call 54; refine (PV1.out).mono ?_; rintro e wa ⟨p, rfl, hp1, hp2, hpz, ha⟩; have HA := hidden ha; have HPZ := hidden hpz; clear ha hpz))
        clear PV1
        have M1 := hidden (hM.out.keep HA.out)
        have B1 := hidden ((hB.out).trans (HA.out.mono (Nat.le_trans HBM.out hB.out.size)))
        have p0 : (0 : Int) ≤ (p : Int) := by omega
        have p1 : (p : Int) < (n : Int) := by omega
        clear hM HA hB
        go_cut [30] (fun _ wx => Ms wx S n (swn b k p) (swn c k p) (lok k) (Mx.sw M k p) ∧ Below m w wx)
        case first =>
          have c1 := M1.out.h k hkn
          have c2 := M1.out.h p hp2
          have f1 := M1.out.hf k hkn
          have f2 := M1.out.hf p hp2
          have MM := hidden ((M1.out.swap hkn hp2 (by unfold lok; rw [if_neg (by omega), if_neg (by omega)])).keep (bl_drew _))
          have BB := hidden ((B1.out.setCell (p := ⟨S, k, none⟩) hmS (.slice (some ⟨b p, 0, none⟩) (n + 1) (c p))).setCell (p := ⟨S, p, none⟩) hmS (.slice (some ⟨b k, 0, none⟩) (n + 1) (c k)) |>.drew)
          by_cases q : p = k
          · subst q
            have c3 : (wa.setCell ⟨S, p, none⟩ (.slice (some ⟨b p, 0, none⟩) (n + 1) (c p))).cell? ⟨S, p, none⟩ = some (.slice (some ⟨b p, 0, none⟩) (n + 1) (c p)) := World.cell?_setCell_same _ _ _ c1
            go_big_region
            all_goals
              go_wp2_with fail
              go_meet
              exact ⟨MM.out, BB.out⟩
          · have c3 : (wa.setCell ⟨S, k, none⟩ (.slice (some ⟨b p, 0, none⟩) (n + 1) (c p))).cell? ⟨S, p, none⟩ = some (.slice (some ⟨b p, 0, none⟩) (n + 1) (c p)) := (World.cell?_setCell_other _ _ _ _ (fun e => q (by have := congrArg Addr.off e; simp only at this; exact this.symm))).trans c2
            go_big_region
            all_goals
              go_wp2_with fail
              go_meet
              exact ⟨MM.out, BB.out⟩
        case rest =>
        obtain ⟨hM2, hB2⟩ := hcut
        have hmb1 : ∀ i, i < n → m ≤ swn b k p i := fun i hi => by rw [swn_at]; exact hmb.out _ (swn_lt hkn hp2 hi)
        have hE1 := hE.out.swap hkn hp1 hp2
        have hZ1 : ¬ Mx.C 7 (Mx.sw M k p k k) 0 := by rw [sw_at]; unfold swn; rw [if_pos rfl]; exact HPZ.out
        clear M1 B1 hE hmb HPZ
        generalize swn b k p = b1 at *
        generalize swn c k p = c1 at *
        generalize Mx.sw M k p = M1 at *
        clear p0 p1 hp1 hp2
        have HM := hidden hM2
        have HB := hidden hB2
        have HE := hidden hE1
        have HZ := hidden hZ1
        have HMB := hidden hmb1
        have hlk : lok k k = k := by unfold lok; rw [if_neg (by omega)]
        have HLK := hidden hlk
        clear hM2 hB2 hE1 hZ1 hmb1 hlk
        go_upto_region 5 with fail
        go_cut [4] (fun v4 wx => ∃ (bx : Nat) (u : Int), v4 = .pointer (some ⟨bx, 0, none⟩) ∧ Mx.C 7 (M1 k k * u) 1 ∧ Ms wx S n b1 c1 (lok k) M1 ∧ Below m w wx ∧ wx.cell? ⟨bx, 0, none⟩ = some (.int .i64 u) ∧ ∀ i, i < n → b1 i ≠ bx)
        case first =>
          have x1 := HM.out.h k hkn
          have x2 := HM.out.cell hkn (by rw [HLK.out]; exact Nat.le_refl _) (show k ≤ n by omega)
          have IV := hidden (fun w => sInvC (M1 k k) w)
          have m1 := mt_Invert (M1 k k)
          go_wp2_with (first | (go_at_call 83; refine (IV.out _).mono ?_; rintro e wb ⟨u, rfl, hu, hb⟩; have HU := hidden hu; have HWB := hidden hb; clear hu hb))
          go_meet
          have BB := bl_trans HWB.out (bl_alloc wb (.cells #[.int .i64 u] 51))
          exact ⟨_, u, rfl, HU.out HZ.out, HM.out.keep BB, HB.out.trans (BB.mono (Nat.le_trans hm HB.out.size)), (Bx.new HWB.out u _).c, fun i hi => by have := (HM.out.r i hi).lt; have := HWB.out.size; omega⟩
        case rest =>
        obtain ⟨bx, u, rfl, hu, hM3, hB3, hX3, hbx⟩ := hcut
        clear HM HB HZ
        have HM := hidden hM3
        have HB := hidden hB3
        have HX := hidden hX3
        have HU := hidden hu
        have HBX := hidden hbx
        clear hM3 hB3 hX3 hu hbx
        go_upto_region 6 with fail
        go_cut [5] (fun v5 wx => v5 = .slice (some ⟨b1 k, k + 1, none⟩) (n - k) (c1 k - (k + 1)) ∧ Ms wx S n b1 c1 (lok k) M1 ∧ Below m w wx ∧ wx.cell? ⟨bx, 0, none⟩ = some (.int .i64 u))
        case first =>
          have x1 := HM.out.h k hkn
          have kq : ¬ c1 k = k + 1 := by have := HM.out.cap k hkn; omega
          have kr : (k : Int) + 1 ≤ (n : Int) + 1 := by omega
          go_wp2_with fail
          go_meet
          exact ⟨rfl, HM.out, HB.out, HX.out⟩
        case rest =>
        obtain ⟨rfl, hM4, hB4, hX4⟩ := hcut
        clear HM HB HX
        have R4 := (hM4.r k hkn).sub 1 (n - k) (by rw [HLK.out]; omega)
        rw [HLK.out] at R4
        have HM := hidden hM4
        have HB := hidden hB4
        have HX := hidden hX4
        have HR := hidden (R4.congr (g := fun j => M1 k (k + 1 + j)) (fun j _ => by show M1 k (k + (1 + j)) = M1 k (k + 1 + j); rw [Nat.add_assoc]))
        clear hM4 hB4 hX4 R4
        go_wp2_with fail
        go_loopw [49] (fun jv w' => ∃ (j : Nat) (f : Nat → Int), j ≤ n - k ∧ jv = .int .i64 (j : Int) ∧ Hid (∀ x, x < n - k → Mx.C 7 (f x) (if x < j then M1 k (k + 1 + x) * u else M1 k (k + 1 + x))) ∧ Hid (Rk w' (b1 k) (k + 1) (n - k) f) ∧ Hid (But (b1 k) wc w')) (fun j _ => (n - k) - (intOf j).toNat)
        case atStart => exact ⟨0, _, by omega, rfl, hidden (fun x _ => by rw [if_neg (by omega)]; exact Mx.C.rfl), HR, hidden (But.refl _ _)⟩
        case round =>
          clear HR
          obtain ⟨j, f, hj, rfl, hf, hR, hT⟩ := hrel
          by_cases hjn : j < n - k
          · have j0 : (0 : Int) ≤ (j : Int) := by omega
            have j1 : (j : Int) < ((n - k : Nat) : Int) := by omega
            have v9 : IntKind.i64.wrap ((j : Int) + 1) = (j : Int) + 1 := IntWalk.i64_in _ (by have := H40.out; omega)
            have c3 := (hR.out.keep (bl_drew wr)).c j hjn
            have c4 : wr.drew.cell? ⟨bx, 0, none⟩ = some (.int .i64 u) := cell_keep (hT.out.cell HX.out (fun e => HBX.out k hkn e.symm)) (bl_drew _)
            have MU := hidden (fun w => sMulC (f j) u w)
            have m1 := mt_Mul (f j)
            go_upto_region 10 with fail
            go_region_with (first | (go_at_call 85; with_reducible refine (MU.out _).mono ?_; rintro e wa ⟨z, rfl, hz, ha⟩; have HZZ := hidden hz; have hab := bl_trans (bl_drew wr) ha; have c5 := (hR.out.keep hab).c j hjn; have f5 := (hR.out.keep hab).f j hjn; have HAB := hidden hab; clear hz ha hab))
            all_goals
              have NF : Hid (∀ x, x < n - k → Mx.C 7 (if x = j then z else f x) (if x < j + 1 then M1 k (k + 1 + x) * u else M1 k (k + 1 + x))) := hidden (fun x hx => by
                by_cases e : x = j
                · subst e
                  rw [if_pos rfl, if_pos (by omega)]
                  have := hf.out x hx
                  rw [if_neg (by omega)] at this
                  exact HZZ.out.trans (this.mul Mx.C.rfl)
                · rw [if_neg e]
                  have := hf.out x hx
                  by_cases l : x < j
                  · rw [if_pos l] at this; rw [if_pos (by omega)]; exact this
                  · rw [if_neg l] at this; rw [if_neg (by omega)]; exact this)
              have T1 := hidden ((hT.out.trans (But.of HAB.out)).set (o := k + 1 + j) (.int .i64 z))
              have R1 := hidden ((hR.out.keep HAB.out).set j hjn z)
              clear c3 c4 c5 f5 m1 hf hR hT
              go_wp2_with fail
              go_roundw
              case rel => exact ⟨j + 1, _, by omega, by go_num, NF, R1, T1⟩
              case measure => simp [intOf]; omega
          · obtain rfl : j = n - k := by omega
            have nj : ¬ (((n - k : Nat) : Int) < ((n - k : Nat) : Int)) := by omega
            have HMM := hidden (((HM.out.put hkn hT.out (l := k + 1) (f := f) (by omega) (by rw [show n + 1 - (k + 1) = n - k by omega]; exact hR.out)).congr (lo' := lom k 0) (fun i hi => by
              unfold lom lok
              by_cases e1 : i = k
              · rw [if_pos e1, if_neg (by omega), if_pos (by omega)]
              · rw [if_neg e1]
                by_cases e2 : i < k
                · rw [if_pos e2, if_pos e2]
                · rw [if_neg e2, if_neg e2, if_neg (by omega)])))
            have MD : Hid (Mid n k 0 M1 (fun x j => if x = k then f (j - (k + 1)) else M1 x j) u) := hidden ⟨fun i j h1 h2 h3 => by rw [if_neg (by omega)], fun j h1 h2 => by
              rw [if_pos rfl]
              have := hf.out (j - (k + 1)) (by omega)
              rw [if_pos (by omega), show k + 1 + (j - (k + 1)) = j by omega] at this
              exact this, fun i j h1 h2 h3 h4 => absurd h2 (by omega), fun i j h1 h2 h3 h4 => by rw [if_neg (by omega)]⟩
            have HBB := hidden (hT.out.below HB.out (HMB.out k hkn) (Nat.le_trans hm HB.out.size))
            clear hf hR hT HM HB HX
            generalize (fun x j => if x = k then f (j - (k + 1)) else M1 x j) = M2 at *
            by_cases hlast : k + 1 < n
            · have kq : ¬ cS = k + 1 := by have := HNS.out; omega
              go_wp2_with fail
              go_loopw [68] (fun tv w' => ∃ (t : Nat) (M2 : Nat → Nat → Int), t ≤ n - (k + 1) ∧ tv = .int .i64 (t : Int) ∧ Hid (Ms w' S n b1 c1 (lom k t) M2) ∧ Hid (Mid n k t M1 M2 u) ∧ Hid (Below m w w')) (fun t _ => (n - (k + 1)) - (intOf t).toNat)
              case atStart => exact ⟨0, M2, by omega, rfl, HMM, MD, HBB⟩
              case round =>
                clear HMM MD HBB
                clear M2
                obtain ⟨t, M2, ht, rfl, hM, hD, hB⟩ := hrel
                by_cases htn : t < n - (k + 1)
                · have t0 : (0 : Int) ≤ (t : Int) := by omega
                  have t1 : (t : Int) < ((n - (k + 1) : Nat) : Int) := by omega
                  have t2 : k + 1 + t < n := by omega
                  have v9 : IntKind.i64.wrap ((t : Int) + 1) = (t : Int) + 1 := IntWalk.i64_in _ (by have := H40.out; omega)
                  have lt : lom k t (k + 1 + t) = k := by unfold lom; rw [if_neg (by omega), if_neg (by omega)]
                  have lk : lom k t k = k + 1 := by unfold lom; rw [if_neg (by omega), if_pos (by omega)]
                  have c3 : wr.cell? ⟨S, k + 1 + t, none⟩ = _ := hM.out.h (k + 1 + t) t2
                  have c4 := hM.out.cell t2 (show lom k t (k + 1 + t) ≤ k by omega) (show k ≤ n by omega)
                  have kq2 : ¬ c1 (k + 1 + t) = k + 1 := by have := hM.out.cap (k + 1 + t) t2; omega
                  have kr : (k : Int) + 1 ≤ (n : Int) + 1 := by omega
                  have R5 := (hM.out.r (k + 1 + t) t2).sub 1 (n - k) (by rw [lt]; omega)
                  rw [lt] at R5
                  have R6 := R5.congr (g := fun j => M2 (k + 1 + t) (k + 1 + j)) (fun j _ => by show M2 (k + 1 + t) (k + (1 + j)) = M2 (k + 1 + t) (k + 1 + j); rw [Nat.add_assoc k 1 j])
                  have R7 := (hM.out.r k hkn).c
                  rw [lk] at R7
                  have TA := hidden (takeAway_any (b1 (k + 1 + t)) (k + 1) (n - k) (c1 (k + 1 + t) - (k + 1)) (b1 k) (k + 1) (n - k) (c1 k - (k + 1)) (fun j => M2 (k + 1 + t) (k + 1 + j)) (fun j => M2 k (k + 1 + j)) (M2 (k + 1 + t) k) wr.drew (by have := H40.out; omega) (Nat.le_refl _) (hM.out.apart _ _ hkn t2 (by omega)) (R6.keep (bl_drew _)) (fun j hj => cell_keep (R7 j (by omega)) (bl_drew _)))
                  unfold sv at TA
                  clear R5 R6 R7 lt lk
                  go_upto_region 15 with fail
                  go_region_with (first | (go_at_call 55; with_reducible refine (TA.out).mono ?_; rintro e wa ⟨rfl, ht1, f', ht2, ht3⟩; have T1 := hidden ht1; have T2 := hidden ht2; have T3 := hidden ht3; clear ht1 ht2 ht3))
                  all_goals
                    have HD2 := hidden (hD.out.next t2 T3.out)
                    have HM2 := hidden (((hM.out.keep (bl_drew wr)).put t2 T1.out (l := k + 1) (f := f') (by omega) (by rw [show n + 1 - (k + 1) = n - k by omega]; exact T2.out)).congr (lo' := lom k (t + 1)) (fun i hi => by
                      unfold lom
                      by_cases e1 : i = k + 1 + t
                      · rw [if_pos e1, if_neg (by omega), if_pos (by omega)]
                      · rw [if_neg e1]
                        by_cases e2 : i < k
                        · rw [if_pos e2, if_pos e2]
                        · rw [if_neg e2, if_neg e2]
                          by_cases e3 : i < k + 1 + t
                          · rw [if_pos e3, if_pos (by omega)]
                          · rw [if_neg e3, if_neg (by omega)]))
                    have HB2 := hidden (T1.out.below (hB.out.drew) (HMB.out _ t2) (Nat.le_trans hm hB.out.size))
                    clear hM hD hB c3 c4 kq2
                    go_wp2_with fail
                    go_roundw
                    case rel => exact ⟨t + 1, _, by omega, by go_num, HM2, HD2, HB2⟩
                    case measure => simp [intOf]; omega
                · obtain rfl : t = n - (k + 1) := by omega
                  have nt : ¬ (((n - (k + 1) : Nat) : Int) < ((n - (k + 1) : Nat) : Int)) := by omega
                  have HMF := hidden (hM.out.congr (lo' := lok (k + 1)) (fun i hi => by
                  unfold lom lok
                  by_cases e1 : i < k
                  · rw [if_pos e1, if_pos (by omega)]
                  · rw [if_neg e1, if_pos (by omega)]
                    by_cases e2 : i < k + 1
                    · rw [if_pos e2]; omega
                    · rw [if_neg e2]))
                  have HEF := hidden (hD.out.done pm7 (by omega) hkn HU.out HE.out)
                  clear hM hD
                  go_wp2_with fail
                  go_roundw
                  case rel => exact ⟨k + 1, b1, c1, M2, by omega, by go_num, HMF, HEF, HMB, hB⟩
                  case measure => simp [intOf]; omega
            · have e0 : n - (k + 1) = 0 := by omega
              have HMF := hidden (HMM.out.congr (lo' := lok (k + 1)) (fun i hi => by
                unfold lom lok
                by_cases e1 : i < k
                · rw [if_pos e1, if_pos (by omega)]
                · rw [if_neg e1, if_pos (by omega)]
                  by_cases e2 : i < k + 1
                  · rw [if_pos e2]; omega
                  · rw [if_neg e2]))
              have HEF := hidden (MD.out.done pm7 (by omega) hkn HU.out HE.out)
              clear HMM MD
              by_cases hcs : cS = k + 1
              · subst hcs
                go_wp2_with fail
                go_loopw [68] (fun tv w' => tv = .int .i64 0 ∧ Hid (Ms w' S n b1 c1 (lok (k + 1)) M2) ∧ Hid (Below m w w')) (fun _ _ => 0)
                case atStart => exact ⟨rfl, HMF, HBB⟩
                case round =>
                  obtain ⟨rfl, hM, hB⟩ := hrel
                  go_wp2_with fail
                  go_roundw
                  case rel => exact ⟨k + 1, b1, c1, M2, by omega, by go_num, hM, HEF, HMB, hB⟩
                  case measure => simp [intOf]; omega
              · go_wp2_with fail
                go_loopw [68] (fun tv w' => tv = .int .i64 0 ∧ Hid (Ms w' S n b1 c1 (lok (k + 1)) M2) ∧ Hid (Below m w w')) (fun _ _ => 0)
                case atStart => exact ⟨rfl, HMF, HBB⟩
                case round =>
                  obtain ⟨rfl, hM, hB⟩ := hrel
                  go_wp2_with fail
                  go_roundw
                  case rel => exact ⟨k + 1, b1, c1, M2, by omega, by go_num, hM, HEF, HMB, hB⟩
                  case measure => simp [intOf]; omega
    · obtain rfl : k = n := by omega
      clear hkn
      have HMF := hidden (hM.out.congr (lo' := fun i => i + 1) (fun i hi => by unfold lok; rw [if_pos hi]))
      go_wp2_with fail
      go_end0
      exact ⟨hB.out, .inl ⟨rfl, b, c, M, HMF.out, hE.out⟩⟩
end Go.Proofs.YtnbcfchbhappeaaDoor.Al
