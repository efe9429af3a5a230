import Derived.Test.YtnbcfchbhappeaaDoorAelm
namespace Go.Proofs.YtnbcfchbhappeaaDoor.Al
open Go.RowKit
theorem Rk.c0 {w : World} {b n : Nat} {f : Nat → Int} (h : Rk w b 0 n f) (k : Nat) (hk : k < n) : w.cell? ⟨b, k, none⟩ = some (.int .i64 (f k)) := by
  have := h.c k hk
  rwa [Nat.zero_add] at this
theorem Rk.f0 {w : World} {b n : Nat} {f : Nat → Int} (h : Rk w b 0 n f) (k : Nat) (hk : k < n) : w.frozen? ⟨b, k, none⟩ = false := by
  have := h.f k hk
  rwa [Nat.zero_add] at this
theorem Rk.set0 {w : World} {b n : Nat} {f : Nat → Int} (h : Rk w b 0 n f) (k : Nat) (hk : k < n) (x : Int) : Rk (w.setCell ⟨b, k, none⟩ (.int .i64 x)) b 0 n (fun j => if j = k then x else f j) := by
  have := h.set k hk x
  rwa [Nat.zero_add] at this
/-- the last rows are solved -/
def Sx (n m : Nat) (M : Nat → Nat → Int) (xs : Nat → Int) : Prop := ∀ i, m ≤ i → i < n → Mx.C 7 (xs i + Mx.tl (i + 1) n (fun j => M i j * xs j)) (M i n)
theorem Sx.next {n i : Nat} {M : Nat → Nat → Int} {xs : Nat → Int} {z y : Int} (h : Sx n (i + 1) M xs) (hy : Mx.C 7 y (Mx.tl (i + 1) n (fun j => M i j * xs j))) (hz : Mx.C 7 z (M i n - y)) : Sx n i M (fun j => if j = i then z else xs j) := by
  have ht : ∀ l, i ≤ l → Mx.tl (l + 1) n (fun j => M l j * (if j = i then z else xs j)) = Mx.tl (l + 1) n (fun j => M l j * xs j) := fun l hl => by
    unfold Mx.tl
    refine Mx.sm_congr fun j _ => ?_
    show M l (l + 1 + j) * (if l + 1 + j = i then z else xs (l + 1 + j)) = M l (l + 1 + j) * xs (l + 1 + j)
    rw [if_neg (by omega)]
  intro l h1 h2
  rw [ht l h1]
  show Mx.C 7 ((if l = i then z else xs l) + _) _
  by_cases e : l = i
  · subst e
    rw [if_pos rfl]
    exact (hz.add hy.symm).trans (Mx.C.of_eq (by omega))
  · rw [if_neg e]
    exact h l (by omega) h2
set_option maxRecDepth 100000 in
set_option maxHeartbeats 8000000 in
theorem solution_any (S n cS : Nat) (b c : Nat → Nat) (M : Nat → Nat → Int) (w : World) (h40 : n ≤ 40) (hM : Ms w S n b c (fun i => i + 1) M) :
    Calls Tryd.prog 43 #[.slice (some ⟨S, 0, none⟩) n cS] w fun e w' => ∃ (X : Nat) (xs : Nat → Int), e = .returned (.slice (some ⟨X, 0, none⟩) n n) ∧ w.heap.size ≤ X ∧ Rk w' X 0 n xs ∧ Sx n 0 M xs ∧ Below w.heap.size w w' := by
  have H40 := hidden h40
  have HM := hidden hM
  have nn0 : (0 : Int) ≤ (n : Int) := by omega
  have w8 : IntKind.i64.wrap ((n : Int) - 1) = (n : Int) - 1 := IntWalk.i64_in _ (by omega)
  obtain ⟨i0, hi, hz0, hz1, hz2⟩ := info_parts seveninfo
  have hmk := fun w => run_make (P := Tryd.prog) w 46 51 i0 (.agg #[.int .i64 0]) (by kernel_rfl) hi hz0 .i64 .i64 (n : Int) (n : Int) (by omega) (Int.le_refl _) (by rw [hz2]; omega) (by omega)
  simp only [Int.toNat_natCast, hz1, Nat.mul_one, Value.cells] at hmk
  have R0 := hidden (Rk.made w n 51)
  have B0 := hidden (bl_alloc w (.cells (madeCells #[.int .i64 0] n) 51))
  clear hM h40 hi hz0 hz1 hz2
  go_enter Tryd.func43, Tryd.ntmps43
  go_wp2_with fail
  clear w8 hmk
  go_loopw [5] (fun iv w' => ∃ (m : Nat) (xs : Nat → Int), m ≤ n ∧ iv = .int .i64 ((m : Int) - 1) ∧ Hid (Rk w' w.heap.size 0 n xs) ∧ Hid (Sx n m M xs) ∧ Hid (Below w.heap.size w w')) (fun i _ => (intOf i + 1).toNat)
  case atStart => exact ⟨n, _, by omega, rfl, R0, hidden (fun i h1 h2 => absurd h1 (by omega)), B0⟩
  case round =>
    clear R0 B0
    obtain ⟨m, xs, hm, rfl, hR, hS, hB⟩ := hrel
    by_cases h0 : 0 < m
    · obtain ⟨i, rfl⟩ : ∃ i, m = i + 1 := ⟨m - 1, by omega⟩
      rw [show ((i + 1 : Nat) : Int) - 1 = (i : Int) by omega]
      have i0 : (0 : Int) ≤ (i : Int) := by omega
      have i1 : (i : Int) < (n : Int) := by omega
      have hin : i < n := by omega
      have i2 : (i : Int) + 1 ≤ (n : Int) := by omega
      have i3 : (0 : Int) ≤ (i : Int) + 1 := by omega
      have w9 : IntKind.i64.wrap ((i : Int) - 1) = (i : Int) - 1 := IntWalk.i64_in _ (by have := H40.out; omega)
      have w7 : IntKind.i64.wrap ((i : Int) + 1) = (i : Int) + 1 := IntWalk.i64_in _ (by have := H40.out; omega)
      have MK := hidden (HM.out.keep hB.out)
      go_upto_region 6 with fail
      go_cut [6] (fun v6 wx => ∃ (bx : Nat) (y : Int), v6 = .pointer (some ⟨bx, 0, none⟩) ∧ Mx.C 7 y (Mx.tl (i + 1) n (fun j => M i j * xs j)) ∧ wx.cell? ⟨bx, 0, none⟩ = some (.int .i64 y) ∧ Below wr.heap.size wr wx)
      case first =>
        have c1 := MK.out.h i hin
        have c1b := cell_keep c1 (bl_alloc wr (.cells #[.int .i64 0] 51))
        have sn : S < wr.heap.size := World.block_lt_of_cell? _ ⟨S, i, none⟩ c1
        have sm : ¬ S = wr.heap.size := by omega
        have kq : ¬ c i = i + 1 := by have := MK.out.cap i hin; omega
        have kr : (n : Int) ≤ (c i : Int) := by have := MK.out.cap i hin; omega
        have RA := MK.out.r i hin
        have RB := hR.out.sub (i + 1) (n - (i + 1)) (by omega)
        rw [Nat.zero_add] at RB
        have CI := MK.out.cap i hin
        obtain ⟨Q, hQ⟩ : ∃ Q, (if n = i + 1 then some (⟨w.heap.size, 0, none⟩ : Addr) else some ⟨w.heap.size, i + 1, none⟩) = Q := ⟨_, rfl⟩
        have HQ : 0 < n - (i + 1) → Q = some ⟨w.heap.size, i + 1, none⟩ := fun h => by rw [← hQ, if_neg (by omega)]
        have IN := hidden (fun (w1 : World) (h : Below wr.heap.size wr w1) => inner_seven (some ⟨b i, i + 1, none⟩) Q (n - (i + 1)) (c i - (i + 1)) (n - (i + 1)) (fun j => M i (i + 1 + j)) (fun j => xs (i + 1 + j)) w1 (by have := H40.out; omega) (by omega) (by omega) ⟨b i, i + 1, fun _ => rfl, fun k hk => cell_keep (RA.c k (by omega)) h⟩ ⟨w.heap.size, i + 1, HQ, fun k hk => cell_keep (RB.c k hk) h⟩)
        unfold sv at IN
        clear RA RB CI HQ
        go_region_with (first | (go_at_call 56; refine (IN.out _ (by first | exact bl_drew _ | exact bl_trans (bl_alloc _ _) (bl_drew _))).mono ?_; rintro e wa ⟨y, rfl, hy, ha⟩; have HY := hidden hy; have HA := hidden ha; (first | (have X5 := hidden (((Bx.new (Below.refl _ wr) 0 51).keep (bl_drew _)).keep ha); have c5 := X5.out.c; have f5 := X5.out.f) | skip); clear hy ha))
        all_goals
          go_wp2_with fail
          go_meet
          first
            | exact ⟨_, y, rfl, HY.out, (Bx.new (Below.refl _ wa) y 51).c, bl_trans (bl_trans (bl_drew wr) HA.out) (bl_alloc wa (.cells #[.int .i64 y] 51))⟩
            | exact ⟨_, y, rfl, HY.out, (X5.out.put y).c, X5.out.bel (bl_trans (bl_trans (bl_alloc wr _) (bl_drew _)) HA.out)⟩
      case rest =>
      obtain ⟨bx, y, rfl, hy, hX, hBx⟩ := hcut
      have HY := hidden hy
      have HX := hidden hX
      have MK2 := hidden (MK.out.keep hBx)
      have HR2 := hidden (hR.out.keep hBx)
      have HB2 := hidden (bl_trans hB.out hBx)
      clear hy hX hBx MK hR hB
      have c1 := cell_keep (MK2.out.h i hin) (bl_drew _)
      have c2 := cell_keep (MK2.out.cell hin (show i + 1 ≤ n by omega) (Nat.le_refl n)) (bl_drew _)
      have c3 := cell_keep HX.out (bl_drew _)
      have kr : (n : Int) < (n : Int) + 1 := by omega
      have SU := hidden (fun w => sSubC (M i n) y w)
      have m1 := mt_Sub (M i n)
      go_upto_region 7 with fail
      go_region_with (first | (go_at_call 87; with_reducible refine (SU.out _).mono ?_; rintro e wa ⟨z, rfl, hz, ha⟩; have HZ := hidden hz; have hab := bl_trans (bl_drew _) ha; have c5 := (HR2.out.keep hab).c0 i hin; have f5 := (HR2.out.keep hab).f0 i hin; have HAB := hidden hab; clear hz ha hab))
      all_goals
        have S1 := hidden (hS.out.next HY.out HZ.out)
        have R1 := hidden ((HR2.out.keep HAB.out).set0 i hin z)
        have B1 := hidden ((bl_trans HB2.out HAB.out).setCell (p := ⟨w.heap.size, i, none⟩) (Nat.le_refl _) (.int .i64 z))
        clear c1 c2 c3 c5 f5 m1 MK2 HR2 HB2 hS
        go_wp2_with fail
        go_roundw
        case rel => exact ⟨i, _, by omega, by go_num, R1, S1, B1⟩
        case measure => simp [intOf]
    · obtain rfl : m = 0 := by omega
      have e1 : ((0 : Nat) : Int) - 1 = -1 := rfl
      rw [e1]
      clear h0
      go_wp2_with fail
      refine bodyPost_ret (v := .slice (some ⟨w.heap.size, 0, none⟩) n n) (by simp [results, Tryd.results43, go_sem]) rfl ⟨w.heap.size, xs, rfl, Nat.le_refl _, hR.out, hS.out, hB.out⟩
end Go.Proofs.YtnbcfchbhappeaaDoor.Al
