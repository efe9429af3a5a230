import Derived.Test.YtnbcfchbhappeaaDoorAin
namespace Go.Proofs.YtnbcfchbhappeaaDoor.Al
open Go.RowKit
set_option maxRecDepth 100000 in
set_option maxHeartbeats 4000000 in
theorem takeAway_any (b o n c b2 o2 n2 c2 : Nat) (f g : Nat → Int) (t : Int) (w : World) (hn40 : n ≤ 40) (hn2 : n ≤ n2) (hne : b2 ≠ b) (hR : Rk w b o n f) (hG : ∀ k, k < n → w.cell? ⟨b2, o2 + k, none⟩ = some (.int .i64 (g k))) :
    Calls Tryd.prog 55 #[.slice (some ⟨b, o, none⟩) n c, sv t, .slice (some ⟨b2, o2, none⟩) n2 c2] w fun e w' => e = .returned (.tuple #[]) ∧ But b w w' ∧ ∃ f' : Nat → Int, Rk w' b o n f' ∧ ∀ k, k < n → Mx.C 7 (f' k) (f k - t * g k) := by
  have HR := hidden hR
  have HG := hidden hG
  have N40 := hidden hn40
  have nn0 : (0 : Int) ≤ (n : Int) := by omega
  unfold sv
  have X1 := hidden (Bx.new (Below.refl _ w) t 51)
  have B0 := hidden (But.of (b := b) (bl_alloc w (.cells #[.int .i64 t] 51)))
  have R0 := hidden (hR.keep (bl_alloc w (.cells #[.int .i64 t] 51)))
  have hbs := hR.lt
  clear hn40 hR hG
  go_enter Tryd.func55, Tryd.ntmps55
  go_wp2_with fail
  go_loopw [9] (fun kv w' => ∃ (k : Nat) (f' : Nat → Int), k ≤ n ∧ kv = .int .i64 (k : Int) ∧ Hid (∀ j, j < n → Mx.C 7 (f' j) (if j < k then f j - t * g j else f j)) ∧ Hid (But b w w') ∧ Hid (Bx w w' w.heap.size t) ∧ Hid (Rk w' b o n f')) (fun k _ => n - (intOf k).toNat)
  case atStart => exact ⟨0, f, by omega, rfl, hidden (fun j _ => by rw [if_neg (by omega)]; exact Mx.C.rfl), B0, X1, R0⟩
  case round =>
    clear B0 X1 R0
    obtain ⟨k, f', hk, rfl, hs, hB, h1, h2⟩ := hrel
    by_cases hkn : k < n
    · have k0 : (0 : Int) ≤ (k : Int) := by omega
      have k1 : (k : Int) < (n : Int) := by omega
      have k2 : (k : Int) < (n2 : Int) := by omega
      have w9 : IntKind.i64.wrap ((k : Int) + 1) = (k : Int) + 1 := IntWalk.i64_in _ (by have := N40.out; omega)
      have RD := h2.out.keep (bl_drew wr)
      have c1 := RD.c k hkn
      have c2 : wr.drew.cell? ⟨b2, o2 + k, none⟩ = some (.int .i64 (g k)) := cell_keep (hB.out.cell (HG.out k hkn) hne) (bl_drew _)
      have c3 : wr.drew.cell? ⟨w.heap.size, 0, none⟩ = some (.int .i64 t) := cell_keep h1.out.c (bl_drew _)
      have MU := hidden (fun w => sMulC t (g k) w)
      have SU := hidden (fun (x : Int) w => sSubC (f' k) x w)
      have m1 := mt_Mul t
      have m2 := mt_Sub (f' k)
      have ek := hs.out k hkn
      rw [if_neg (by omega)] at ek
      have HRD := hidden RD
      have EK := hidden ek
      clear ek RD
      go_upto_region 4 with fail
      go_region_with (first | (go_at_call 85; with_reducible refine (MU.out _).mono ?_; rintro e wa ⟨y, rfl, hy, ha⟩; have HY := hidden hy; clear hy; have c4 := cell_keep c1 ha; have HA := hidden ha; clear ha) | (go_at_call 87; with_reducible refine (SU.out _ _).mono ?_; rintro e wb ⟨z, rfl, hz, hb⟩; have HZ := hidden hz; clear hz; have hab := bl_trans (bl_trans (bl_drew wr) HA.out) hb; have f5 := (h2.out.keep hab).f k hkn; have c5 := (h2.out.keep hab).c k hkn; have HAB := hidden hab; clear hab hb))
      all_goals
        have NS : Hid (∀ j, j < n → Mx.C 7 (if j = k then z else f' j) (if j < k + 1 then f j - t * g j else f j)) := hidden (fun j hj => by
          by_cases e : j = k
          · subst e
            rw [if_pos rfl, if_pos (by omega)]
            exact HZ.out.trans (EK.out.sub HY.out)
          · rw [if_neg e]
            have := hs.out j hj
            by_cases l : j < k
            · rw [if_pos l] at this; rw [if_pos (by omega)]; exact this
            · rw [if_neg l] at this; rw [if_neg (by omega)]; exact this)
        have B1 := hidden ((hB.out.trans (But.of HAB.out)).set (o := o + k) (.int .i64 (z)))
        have Y1 := hidden ((h1.out.keep HAB.out).far (d := b) (o := o + k) (v := .int .i64 (z)) (by omega))
        have Y2 := hidden ((h2.out.keep HAB.out).set k hkn (z))
        clear c1 c2 c3 c4 c5 f5 m1 m2 hB hs h1 h2 HRD
        go_wp2_with fail
        go_roundw
        case rel => exact ⟨k + 1, _, by omega, by go_num, NS, B1, Y1, Y2⟩
        case measure => simp [intOf]; omega
    · obtain rfl : k = n := by omega
      have RR : Hid (∃ f' : Nat → Int, Rk wr b o k f' ∧ ∀ j, j < k → Mx.C 7 (f' j) (f j - t * g j)) := hidden ⟨f', h2.out, fun j hj => by have := hs.out j hj; rwa [if_pos hj] at this⟩
      clear hkn hs h1 h2
      go_wp2_with fail
      go_end0
      exact ⟨rfl, hB.out, RR.out⟩
end Go.Proofs.YtnbcfchbhappeaaDoor.Al
