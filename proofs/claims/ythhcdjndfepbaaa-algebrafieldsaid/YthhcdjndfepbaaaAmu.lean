import Derived.Test.YthhcdjndfepbaaaAsn
import Derived.Test.YthhcdjndfepbaaaAnm
namespace Go.Proofs.Ythhcdjndfepbaaa
open Go.RowKit
/-- the rest of Newton's polynomial from a place on -/
def nq (st xs : Nat → Int) (n m : Nat) (X : Int) : Int := Mx.ps (fun j => st (m + j)) (fun l => xs (m + l)) (n - m) X
theorem nq_step {st xs : Nat → Int} {n m : Nat} (h : m < n) (X : Int) : nq st xs n m X = st m + (X - xs m) * nq st xs n (m + 1) X := by
  unfold nq
  have e : n - m = (n - (m + 1)) + 1 := by omega
  rw [e]
  show st (m + 0) + (X - xs (m + 0)) * Mx.ps (fun j => st (m + (j + 1))) (fun l => xs (m + (l + 1))) (n - (m + 1)) X = _
  have e1 : (fun j => st (m + (j + 1))) = (fun j => st (m + 1 + j)) := by funext j; rw [show m + (j + 1) = m + 1 + j by omega]
  have e2 : (fun l => xs (m + (l + 1))) = (fun l => xs (m + 1 + l)) := by funext l; rw [show m + (l + 1) = m + 1 + l by omega]
  rw [e1, e2, Nat.add_zero]
theorem nq_none (st xs : Nat → Int) (n : Nat) (X : Int) : nq st xs n n X = 0 := by
  unfold nq
  rw [Nat.sub_self]
  rfl
theorem nq_all (st xs : Nat → Int) (n : Nat) (X : Int) : nq st xs n 0 X = Mx.ps st xs n X := by
  unfold nq
  have e1 : (fun j => st (0 + j)) = st := by funext j; rw [Nat.zero_add]
  have e2 : (fun l => xs (0 + l)) = xs := by funext l; rw [Nat.zero_add]
  rw [e1, e2, Nat.sub_zero]
/-- what the coefficients are: m steps are still to be taken in -/
structure Mo (n m : Nat) (st xs c : Nat → Int) : Prop where
  e : ∀ X, Mx.C 7 (Mx.ev n c X) (nq st xs n m X)
  z : ∀ j, n - m ≤ j → j < n → Mx.C 7 (c j) 0
/-- in the middle of a step: the places behind i are done -/
structure Mi (n k i : Nat) (x : Int) (c d : Nat → Int) : Prop where
  a : ∀ j, j ≤ i → j < n → d j = c j
  b : ∀ j, i < j → j ≤ n - 1 - k → j < n → Mx.C 7 (d j) (c (j - 1) - x * c j)
  z : ∀ j, n - 1 - k < j → j < n → Mx.C 7 (d j) 0
theorem Mi.next {n k i : Nat} {x y : Int} {c d : Nat → Int} (h : Mi n k (i + 1) x c d) (hi : i + 1 ≤ n - 1 - k) (hn : i + 1 < n) (hy : Mx.C 7 y (d i - x * d (i + 1))) : Mi n k i x c (fun j => if j = i + 1 then y else d j) := by
  refine ⟨fun j h1 h2 => ?_, fun j h1 h2 h3 => ?_, fun j h1 h2 => ?_⟩
  · rw [if_neg (by omega)]; exact h.a j (by omega) h2
  · by_cases e : j = i + 1
    · subst e
      rw [if_pos rfl, show i + 1 - 1 = i by omega]
      rw [h.a i (by omega) (by omega), h.a (i + 1) (by omega) (by omega)] at hy
      exact hy
    · rw [if_neg e]; exact h.b j (by omega) h2 h3
  · rw [if_neg (by omega)]; exact h.z j h1 h2
theorem Mi.done {n k : Nat} {st xs c d : Nat → Int} {y : Int} (h : Mi n k 0 (xs k) c d) (hk : k < n) (M : Mo n (k + 1) st xs c) (hy : Mx.C 7 y (st k - xs k * d 0)) : Mo n k st xs (fun j => if j = 0 then y else d j) := by
  rw [h.a 0 (by omega) (by omega)] at hy
  refine ⟨fun X => ?_, fun j h1 h2 => ?_⟩
  · rw [nq_step hk]
    refine (Mx.ev_out (m := 7) (c := c) (st := st k) (x := xs k) (by omega) (by rw [if_pos rfl]; exact hy) (fun i h1 h2 => ?_) (M.z (n - 1) (by omega) (by omega)) X).trans (Mx.C.rfl.add (Mx.C.rfl.mul (M.e X)))
    rw [if_neg (by omega)]
    by_cases e : i ≤ n - 1 - k
    · exact h.b i h1 e h2
    · refine (h.z i (by omega) h2).trans ?_
      exact ((M.z (i - 1) (by omega) (by omega)).sub ((M.z i (by omega) h2).mulz)).symm.trans (Mx.C.of_eq rfl) |> fun q => (Mx.C.of_eq (by omega : (0 : Int) = 0 - 0)).trans q
  · by_cases e : j = 0
    · omega
    · rw [if_neg e]; exact h.z j (by omega) h2
set_option maxRecDepth 100000 in
set_option maxHeartbeats 8000000 in
theorem multiplyOut_any (P Q : Option Addr) (n cP cQ : Nat) (st xs : Nat → Int) (w : World) (h40 : n ≤ 40) (hP : Il w P n st) (hQ : Il w Q n xs) :
    Calls Try.prog 30 #[.slice P n cP, .slice Q n cQ] w fun e w' => ∃ (I : Nat) (c : Nat → Int), e = .returned (.slice (some ⟨I, 0, none⟩) n n) ∧ Rk w' I 0 n c ∧ Mo n 0 st xs c ∧ Below w.heap.size w w' := by
  have N40 := hidden h40
  have HP := hidden hP
  have HQ := hidden hQ
  have nn0 : (0 : Int) ≤ (n : Int) := by omega
  have w8 : IntKind.i64.wrap ((n : Int) - 1) = (n : Int) - 1 := IntWalk.i64_in _ (by omega)
  obtain ⟨i0, hi, hz0, hz1, hz2⟩ := info_parts seveninfo
  have hmk := fun w => run_make (P := Try.prog) w 24 27 i0 (.agg #[.int .i64 0]) (by kernel_rfl) hi hz0 .i64 .i64 (n : Int) (n : Int) (by omega) (Int.le_refl _) (by rw [hz2]; omega) (by omega)
  simp only [Int.toNat_natCast, hz1, Nat.mul_one, Value.cells] at hmk
  have R0 := hidden (Rk.made w n 27)
  have B0 := hidden (bl_alloc w (.cells (madeCells #[.int .i64 0] n) 27))
  have M0 : Hid (Mo n n st xs (fun _ => 0)) := hidden ⟨fun X => by rw [nq_none]; exact Mx.ev_zeroC (fun _ _ => Mx.C.rfl), fun _ _ _ => Mx.C.rfl⟩
  clear h40 hP hQ hi hz0 hz1 hz2
  go_enter Try.func30, Try.ntmps30
  go_wp2_with fail
  clear hmk
  go_loopw [6] (fun kv w' => ∃ (m : Nat) (c : Nat → Int), m ≤ n ∧ kv = .int .i64 ((m : Int) - 1) ∧ Hid (Mo n m st xs c) ∧ Hid (Rk w' w.heap.size 0 n c) ∧ Hid (Below w.heap.size w w')) (fun i _ => (intOf i + 1).toNat)
  case atStart => exact ⟨n, _, by omega, rfl, M0, R0, B0⟩
  case round =>
    clear M0 R0 B0
    obtain ⟨m, c, hm, rfl, hM, hR, hB⟩ := hrel
    by_cases hm0 : 0 < m
    · obtain ⟨k, rfl⟩ : ∃ k, m = k + 1 := ⟨m - 1, by omega⟩
      rw [show ((k + 1 : Nat) : Int) - 1 = (k : Int) by omega]
      have k0 : (0 : Int) ≤ (k : Int) := by omega
      have k1 : (k : Int) < (n : Int) := by omega
      have hkn : k < n := by omega
      have w9 : IntKind.i64.wrap ((k : Int) - 1) = (k : Int) - 1 := IntWalk.i64_in _ (by have := N40.out; omega)
      have w7 : IntKind.i64.wrap ((n : Int) - 1 - (k : Int)) = ((n - 1 - k : Nat) : Int) := by rw [IntWalk.i64_in _ (by have := N40.out; omega)]; omega
      have I0 : Hid (Mi n k (n - 1 - k) (xs k) c c) := hidden ⟨fun _ _ _ => rfl, fun j h1 h2 => absurd h1 (by omega), fun j h1 h2 => hM.out.z j (by omega) h2⟩
      obtain ⟨sa, oa, hPa, hca⟩ := HP.out
      obtain rfl := hPa (by omega)
      obtain ⟨sb, ob, hQb, hcb⟩ := HQ.out
      obtain rfl := hQb (by omega)
      have HST := hidden (hca k hkn)
      have HXS := hidden (hcb k hkn)
      clear hca hcb hPa hQb HP HQ
      go_wp2_with fail
      clear w7
      go_loopw [7] (fun iv w' => ∃ (i : Nat) (d : Nat → Int), i ≤ n - 1 - k ∧ iv = .int .i64 (i : Int) ∧ Hid (Mi n k i (xs k) c d) ∧ Hid (Rk w' w.heap.size 0 n d) ∧ Hid (Below w.heap.size w w')) (fun i _ => (intOf i).toNat)
      case atStart => exact ⟨n - 1 - k, c, by omega, rfl, I0, hR, hB⟩
      case round =>
        clear I0 hR hB
        obtain ⟨i, d, hi, rfl, hI, hR, hB⟩ := hrel
        by_cases hi0 : 0 < i
        · obtain ⟨j, rfl⟩ : ∃ j, i = j + 1 := ⟨i - 1, by omega⟩
          have j0 : (0 : Int) ≤ (j : Int) := by omega
          have j1 : (j : Int) < (n : Int) := by omega
          have j2 : (0 : Int) < ((j + 1 : Nat) : Int) := by omega
          have j3 : ((j + 1 : Nat) : Int) < (n : Int) := by omega
          have j4 : (0 : Int) ≤ ((j + 1 : Nat) : Int) := by omega
          have hjn : j < n := by omega
          have hjn1 : j + 1 < n := by omega
          have v9 : IntKind.i64.wrap (((j + 1 : Nat) : Int) - 1) = (j : Int) := by rw [IntWalk.i64_in _ (by have := N40.out; omega)]; omega
          obtain ⟨J, hJ⟩ : ∃ J, J = j + 1 := ⟨_, rfl⟩
          rw [← hJ] at j2 j3 j4 hjn1 v9
          rw [← hJ]
          have NI : Hid (∀ y, Mx.C 7 y (d j - xs k * d J) → Mi n k j (xs k) c (fun x => if x = J then y else d x)) := hidden (fun y hy => by subst hJ; exact hI.out.next hi (by omega) hy)
          have HJ := hidden hJ
          clear hJ hI hi0
          have c1 := cell_keep (hR.out.c0 j hjn) (bl_drew _)
          have c2 := cell_keep (hR.out.c0 J hjn1) (bl_drew _)
          have c3 := cell_keep (cell_keep HXS.out hB.out) (bl_drew _)
          have MU := hidden (fun w => sMulC (xs k) (d J) w)
          have SU := hidden (fun (t : Int) w => sSubC (d j) t w)
          have m1 := mt_Mul (xs k)
          have m2 := mt_Sub (d j)
          go_upto_region 8 with fail
          go_region_with (first | (go_at_call 58; with_reducible refine (MU.out _).mono ?_; rintro e wa ⟨y, rfl, hy, ha⟩; have HY := hidden hy; have c4 := cell_keep c1 ha; have HA := hidden ha; clear ha hy) | (go_at_call 60; with_reducible refine (SU.out _ _).mono ?_; rintro e wb ⟨z, rfl, hz, hb⟩; have HZ := hidden hz; have hab := bl_trans (bl_trans (bl_drew wr) HA.out) hb; have f5 := (hR.out.keep hab).f0 J hjn1; have c5 := (hR.out.keep hab).c0 J hjn1; have HAB := hidden hab; clear hab hb hz))
          all_goals
            have N1 := hidden (NI.out z (HZ.out.trans (Mx.C.rfl.sub HY.out)))
            have R1 := hidden ((hR.out.keep HAB.out).set0 J hjn1 z)
            have B1 := hidden ((bl_trans hB.out HAB.out).setCell (p := ⟨w.heap.size, J, none⟩) (Nat.le_refl _) (.int .i64 z))
            clear c1 c2 c3 c4 c5 f5 m1 m2 hB hR
            go_wp2_with fail
            go_roundw
            case rel => exact ⟨j, _, by omega, by go_num, N1, R1, B1⟩
            case measure => simp [intOf]; have := HJ.out; omega
        · obtain rfl : i = 0 := by omega
          have z0 : ((0 : Nat) : Int) = 0 := rfl
          rw [z0]
          clear hi0
          have hn0 : 0 < n := by omega
          have n0 : (0 : Int) < (n : Int) := by omega
          have c1 := cell_keep (hR.out.c0 0 hn0) (bl_drew _)
          have c2 := cell_keep (cell_keep HST.out hB.out) (bl_drew _)
          have c3 := cell_keep (cell_keep HXS.out hB.out) (bl_drew _)
          have MU := hidden (fun w => sMulC (xs k) (d 0) w)
          have SU := hidden (fun (t : Int) w => sSubC (st k) t w)
          have m1 := mt_Mul (xs k)
          have m2 := mt_Sub (st k)
          go_upto_region 9 with fail
          go_region_with (first | (go_at_call 58; with_reducible refine (MU.out _).mono ?_; rintro e wa ⟨y, rfl, hy, ha⟩; have HY := hidden hy; have c4 := cell_keep c2 ha; have HA := hidden ha; clear ha hy) | (go_at_call 60; with_reducible refine (SU.out _ _).mono ?_; rintro e wb ⟨z, rfl, hz, hb⟩; have HZ := hidden hz; have hab := bl_trans (bl_trans (bl_drew wr) HA.out) hb; have f5 := (hR.out.keep hab).f0 0 hn0; have c5 := (hR.out.keep hab).c0 0 hn0; have HAB := hidden hab; clear hab hb hz))
          all_goals
            have N1 := hidden (hI.out.done hkn hM.out (HZ.out.trans (Mx.C.rfl.sub HY.out)))
            have R1 := hidden ((hR.out.keep HAB.out).set0 0 hn0 z)
            have B1 := hidden ((bl_trans hB.out HAB.out).setCell (p := ⟨w.heap.size, 0, none⟩) (Nat.le_refl _) (.int .i64 z))
            clear c1 c2 c3 c4 c5 f5 m1 m2 hB hR hI
            go_wp2_with fail
            go_roundw
            case rel => exact ⟨k, _, by omega, by go_num, N1, R1, B1⟩
            case measure => simp [intOf]
    · obtain rfl : m = 0 := by omega
      have e1 : ((0 : Nat) : Int) - 1 = -1 := rfl
      rw [e1]
      clear hm0
      go_wp2_with fail
      refine bodyPost_ret (v := .slice (some ⟨w.heap.size, 0, none⟩) n n) (by simp [results, Try.results30, go_sem]) rfl ⟨w.heap.size, c, rfl, hR.out, hM.out, hB.out⟩
end Go.Proofs.Ythhcdjndfepbaaa
