import Derived.Test.YtnbcfchbhappeaaDoorAct
import Derived.Test.YtnbcfchbhappeaaDoorArw
namespace Go.Proofs.YtnbcfchbhappeaaDoor.Al
open Go.RowKit
theorem c7add {x y u v : Int} (h : Mx.C 7 x u) (g : Mx.C 7 y v) : Mx.C 7 (x % 7 + y % 7) (u + v) := ((Mx.C.emod 7 x).trans h).add ((Mx.C.emod 7 y).trans g)
theorem c7sub {x y u v : Int} (h : Mx.C 7 x u) (g : Mx.C 7 y v) : Mx.C 7 (x % 7 - y % 7) (u - v) := ((Mx.C.emod 7 x).trans h).sub ((Mx.C.emod 7 y).trans g)
theorem c7mul {x y u v : Int} (h : Mx.C 7 x u) (g : Mx.C 7 y v) : Mx.C 7 (x % 7 * (y % 7) % 7) (u * v) := (Mx.C.emod 7 _).trans (((Mx.C.emod 7 x).trans h).mul ((Mx.C.emod 7 y).trans g))
theorem sAddC (n m : Int) (w : World) : Calls Tryd.prog 82 #[.agg #[.int .i64 n], .agg #[.int .i64 m]] w fun e w' => ∃ z : Int, e = .returned (.agg #[.int .i64 z]) ∧ Mx.C 7 z (n + m) ∧ Below w.heap.size w w' :=
  (sAdd_any n m w).mono fun _ _ ⟨h1, h2⟩ => ⟨_, h1, c7add Mx.C.rfl Mx.C.rfl, h2⟩
theorem sSubC (n m : Int) (w : World) : Calls Tryd.prog 87 #[.agg #[.int .i64 n], .agg #[.int .i64 m]] w fun e w' => ∃ z : Int, e = .returned (.agg #[.int .i64 z]) ∧ Mx.C 7 z (n - m) ∧ Below w.heap.size w w' :=
  (sSub_any n m w).mono fun _ _ ⟨h1, h2⟩ => ⟨_, h1, c7sub Mx.C.rfl Mx.C.rfl, h2⟩
theorem sMulC (n m : Int) (w : World) : Calls Tryd.prog 85 #[.agg #[.int .i64 n], .agg #[.int .i64 m]] w fun e w' => ∃ z : Int, e = .returned (.agg #[.int .i64 z]) ∧ Mx.C 7 z (n * m) ∧ Below w.heap.size w w' :=
  (sMul_any n m w).mono fun _ _ ⟨h1, h2⟩ => ⟨_, h1, (Mx.C.emod 7 n).mul (Mx.C.emod 7 m), h2⟩
theorem sInvC (n : Int) (w : World) : Calls Tryd.prog 83 #[.agg #[.int .i64 n]] w fun e w' => ∃ z : Int, e = .returned (.agg #[.int .i64 z]) ∧ (¬ Mx.C 7 n 0 → Mx.C 7 (n * z) 1) ∧ Below w.heap.size w w' :=
  (sInvert_any n w).mono fun _ _ ⟨z, h1, _, _, h2, _, h3⟩ => ⟨z, h1, fun hn => ((Mx.C.emod 7 n).symm.mul Mx.C.rfl).trans (Mx.C.of_mod (h2 (fun e => hn (Mx.C.of_mod e)))), h3⟩
set_option maxRecDepth 100000 in
set_option maxHeartbeats 4000000 in
theorem inner_seven : InnerC := by
  intro P Q n cP cQ a b w hn40 hnP hnQ hP hQ
  have HP := hidden hP
  have HQ := hidden hQ
  have N40 := hidden hn40
  have nn0 : (0 : Int) ≤ (n : Int) := by omega
  unfold sv
  have B0 := bl_alloc w (.cells #[.int .i64 0] 51)
  have X1 := hidden ((Bx.new (Below.refl _ w) 0 51).keep (bl_alloc (w.alloc (.cells #[.int .i64 0] 51)) (.cells #[.int .i64 0] 51)))
  have X2 := hidden (Bx.new B0 0 51)
  rw [World.size_alloc] at X2
  replace B0 := hidden (bl_trans B0 (bl_alloc _ (.cells #[.int .i64 0] 51)))
  clear hn40 hnP hnQ hP hQ
  go_enter Tryd.func56, Tryd.ntmps56
  go_wp2_with fail
  go_loopw [16] (fun kv w' => ∃ (k : Nat) (s : Int), k ≤ n ∧ kv = .int .i64 (k : Int) ∧ Hid (Mx.C 7 s (Mx.sm k (fun j => a j * b j))) ∧ Hid (Below w.heap.size w w') ∧ Hid (Bx w w' w.heap.size 0) ∧ Hid (Bx w w' (w.heap.size + 1) s)) (fun k _ => n - (intOf k).toNat)
  case atStart => exact ⟨0, 0, by omega, rfl, hidden Mx.C.rfl, B0, X1, X2⟩
  case round =>
    clear B0 X1 X2
    obtain ⟨k, s, hk, rfl, hs, hB, h1, h2⟩ := hrel
    by_cases hkn : k < n
    · have k0 : (0 : Int) ≤ (k : Int) := by omega
      have k1 : (k : Int) < (n : Int) := by omega
      have w9 : IntKind.i64.wrap ((k : Int) + 1) = (k : Int) + 1 := IntWalk.i64_in _ (by have := N40.out; omega)
      obtain ⟨sa, oa, hPa, hca⟩ := HP.out
      obtain rfl := hPa (by omega)
      obtain ⟨sb, ob, hQb, hcb⟩ := HQ.out
      obtain rfl := hQb (by omega)
      have c1 : wr.drew.cell? ⟨sa, oa + k, none⟩ = some (.int .i64 (a k)) := cell_keep (cell_keep (hca k (by omega)) hB.out) (bl_drew _)
      have c2 : wr.drew.cell? ⟨sb, ob + k, none⟩ = some (.int .i64 (b k)) := cell_keep (cell_keep (hcb k (by omega)) hB.out) (bl_drew _)
      have c3 : wr.drew.cell? ⟨w.heap.size + 1, 0, none⟩ = some (.int .i64 s) := cell_keep h2.out.c (bl_drew _)
      have MU := hidden (fun w => sMulC (a k) (b k) w)
      have AD := hidden (fun (t : Int) w => sAddC s t w)
      have m1 := mt_Mul (a k)
      have m2 := mt_Add s
      clear hca hcb hPa hQb
      go_upto_region 7 with fail
      go_region_with (first | (go_at_call 85; with_reducible refine (MU.out _).mono ?_; rintro e wa ⟨y, rfl, hy, ha⟩; have HY := hidden hy; clear hy; have c4 := cell_keep c3 ha; have HA := hidden ha; clear ha) | (go_at_call 82; with_reducible refine (AD.out _ _).mono ?_; rintro e wb ⟨z, rfl, hz, hb⟩; have HZ := hidden hz; clear hz; have hab := bl_trans (bl_trans (bl_drew wr) HA.out) hb; have f5 := (h2.out.keep hab).f; have c5 := (h2.out.keep hab).c; have HAB := hidden hab; clear hab hb))
      all_goals
        have B1 := hidden ((h2.out.keep HAB.out).bel (x := z) (bl_trans hB.out HAB.out))
        have NS : Hid (Mx.C 7 z (Mx.sm (k + 1) (fun j => a j * b j))) := hidden (HZ.out.trans (hs.out.add HY.out))
        have Y1 := hidden ((h1.out.keep HAB.out).far (d := w.heap.size + 1) (o := 0) (v := .int .i64 (z)) (by omega))
        have Y2 := hidden ((h2.out.keep HAB.out).put (z))
        clear c1 c2 c3 c4 c5 f5 m1 m2 hB hs h1 h2
        go_wp2_with fail
        go_roundw
        case rel => exact ⟨k + 1, _, by omega, by go_num, NS, B1, Y1, Y2⟩
        case measure => simp [intOf]; omega
    · obtain rfl : k = n := by omega
      have c1 := h2.out.c
      have c2 := h1.out.c
      have f1 := h1.out.f
      have B2 := hidden (h1.out.bel (x := s) hB.out)
      have c9 := (h1.out.put s).c
      clear hkn
      go_wp2_with fail
      refine bodyPost_ret (v := .tuple #[.agg #[.int .i64 s], .int .i64 0]) (by simp [results, Tryd.results56, go_sem, c9]) rfl ⟨s, rfl, hs.out, B2.out⟩
end Go.Proofs.YtnbcfchbhappeaaDoor.Al
