import Derived.Test.YtnbcfchbhappeaaDoorFm
import Derived.Test.YtnbcfchbhappeaaDoorProg
import Derived.WalkKit
import Derived.WalkSpells
import Derived.WalkLawsBesides
import Derived.Laws.BitsAllLaws
namespace Go.Proofs.YtnbcfchbhappeaaDoor.Fe
open Go.RowKit

theorem hidden {p : Prop} (h : p) : Hid p := h

theorem mask51 (a : Int) (h0 : 0 ≤ a) (h1 : a ≤ 18446744073709551615) : bits .and .u64 a 2251799813685247 = a % 2251799813685248 := by
  rw [u64_and a 2251799813685247 h0 (by omega) (by omega) (by omega)]
  have : a.toNat &&& (2251799813685247 : Int).toNat = a.toNat % 2251799813685248 := Nat.and_two_pow_sub_one_eq_mod a.toNat 51
  rw [this]; omega

set_option maxHeartbeats 400000 in
theorem carry_raw (a0 a1 a2 a3 a4 : Int) (w : World) (h0 : Fm.Wd a0) (h1 : Fm.Wd a1) (h2 : Fm.Wd a2) (h3 : Fm.Wd a3) (h4 : Fm.Wd a4) :
    Calls Tryd.prog 48 #[.int .u64 a0, .int .u64 a1, .int .u64 a2, .int .u64 a3, .int .u64 a4] w fun e w' =>
      e = .returned (.tuple #[.int .u64 (Fm.cr 0 a0 a1 a2 a3 a4), .int .u64 (Fm.cr 1 a0 a1 a2 a3 a4), .int .u64 (Fm.cr 2 a0 a1 a2 a3 a4), .int .u64 (Fm.cr 3 a0 a1 a2 a3 a4), .int .u64 (Fm.cr 4 a0 a1 a2 a3 a4)]) ∧ w' = w := by
  unfold Fm.Wd at *
  have k0 := mask51 a0 h0.1 h0.2
  have k1 := mask51 a1 h1.1 h1.2
  have k2 := mask51 a2 h2.1 h2.2
  have k3 := mask51 a3 h3.1 h3.2
  have k4 := mask51 a4 h4.1 h4.2
  go_enter Tryd.func48, Tryd.ntmps48
  go_wp2
  exact bodyPost_ret (v := .tuple #[.int .u64 (Fm.cr 0 a0 a1 a2 a3 a4), .int .u64 (Fm.cr 1 a0 a1 a2 a3 a4), .int .u64 (Fm.cr 2 a0 a1 a2 a3 a4), .int .u64 (Fm.cr 3 a0 a1 a2 a3 a4), .int .u64 (Fm.cr 4 a0 a1 a2 a3 a4)]) (by simp [results, Tryd.results48, go_sem, Fm.cr]) rfl ⟨rfl, rfl⟩

/-- the least limbs, as five results -/
def lt (n : Int) : Value := .tuple #[.int .u64 (Fm.lim 0 n), .int .u64 (Fm.lim 1 n), .int .u64 (Fm.lim 2 n), .int .u64 (Fm.lim 3 n), .int .u64 (Fm.lim 4 n)]

set_option maxHeartbeats 1000000 in
theorem least_raw (a0 a1 a2 a3 a4 : Int) (w : World) (h0 : Fm.Wd a0) (h1 : Fm.Wd a1) (h2 : Fm.Wd a2) (h3 : Fm.Wd a3) (h4 : Fm.Wd a4) :
    Calls Tryd.prog 35 #[.int .u64 a0, .int .u64 a1, .int .u64 a2, .int .u64 a3, .int .u64 a4] w fun e w' =>
      e = .returned (lt (Fm.V a0 a1 a2 a3 a4 % Fm.P)) ∧ w' = w := by
  have c0 := Fm.cr_ls 0 a0 a1 a2 a3 a4 h0 h1 h2 h3 h4
  have c1 := Fm.cr_ls 1 a0 a1 a2 a3 a4 h0 h1 h2 h3 h4
  have c2 := Fm.cr_ls 2 a0 a1 a2 a3 a4 h0 h1 h2 h3 h4
  have c3 := Fm.cr_ls 3 a0 a1 a2 a3 a4 h0 h1 h2 h3 h4
  have c4 := Fm.cr_ls 4 a0 a1 a2 a3 a4 h0 h1 h2 h3 h4
  have hV := Fm.cr_V a0 a1 a2 a3 a4
  have hP := Fm.mod_sub_mul (Fm.V a0 a1 a2 a3 a4) (a4 / 2251799813685248)
  rw [← hV] at hP
  rw [← hP]
  have call := carry_raw a0 a1 a2 a3 a4 w h0 h1 h2 h3 h4
  generalize Fm.cr 0 a0 a1 a2 a3 a4 = r0 at *
  generalize Fm.cr 1 a0 a1 a2 a3 a4 = r1 at *
  generalize Fm.cr 2 a0 a1 a2 a3 a4 = r2 at *
  generalize Fm.cr 3 a0 a1 a2 a3 a4 = r3 at *
  generalize Fm.cr 4 a0 a1 a2 a3 a4 = r4 at *
  have main := Fm.least_math r0 r1 r2 r3 r4 c0 c1 c2 c3 c4 _ rfl _ _ _ _ _ rfl rfl rfl rfl rfl
  have MAIN := hidden main
  have CALL := hidden call
  clear main call hV hP h0 h1 h2 h3 h4
  unfold Fm.Ls at c0 c1 c2 c3 c4
  go_enter Tryd.func35, Tryd.ntmps35
  go_wp2_with fail
  refine CALL.out.mono ?_
  rintro e w' ⟨rfl, rfl⟩
  clear CALL
  go_wp2_with fail
  obtain ⟨_, e0, e1, e2, e3, e4⟩ := MAIN.out
  simp only [Fm.cn, Fm.c0] at e0 e1 e2 e3 e4
  refine bodyPost_ret (v := lt (Fm.V r0 r1 r2 r3 r4 % Fm.P)) ?_ rfl ⟨rfl, rfl⟩
  rw [lt, ← e0, ← e1, ← e2, ← e3, ← e4]
  clear e0 e1 e2 e3 e4 MAIN
  simp only [results, Tryd.results35]
  rw [mask51 _ (by omega) (by omega), mask51 _ (by omega) (by omega), mask51 _ (by omega) (by omega), mask51 _ (by omega) (by omega), mask51 _ (by omega) (by omega)]
  simp [go_sem]

/-- An element: five limbs. -/
structure E5 where
  x0 : Int
  x1 : Int
  x2 : Int
  x3 : Int
  x4 : Int
def E5.ok (a : E5) : Prop := Fm.Wd a.x0 ∧ Fm.Wd a.x1 ∧ Fm.Wd a.x2 ∧ Fm.Wd a.x3 ∧ Fm.Wd a.x4
def E5.v (a : E5) : Value := .agg #[.int .u64 a.x0, .int .u64 a.x1, .int .u64 a.x2, .int .u64 a.x3, .int .u64 a.x4]
def E5.n (a : E5) : Int := Fm.V a.x0 a.x1 a.x2 a.x3 a.x4
/-- the least limbs of a number modulo p -/
def lst (n : Int) : E5 := ⟨Fm.lim 0 (n % Fm.P), Fm.lim 1 (n % Fm.P), Fm.lim 2 (n % Fm.P), Fm.lim 3 (n % Fm.P), Fm.lim 4 (n % Fm.P)⟩

theorem lim_wd (i : Nat) (n : Int) : Fm.Wd (Fm.lim i n) := by
  have := Fm.lim_bd i n
  unfold Fm.Wd; omega
theorem lst_ok (n : Int) : (lst n).ok := ⟨lim_wd 0 _, lim_wd 1 _, lim_wd 2 _, lim_wd 3 _, lim_wd 4 _⟩
theorem lst_n (n : Int) : (lst n).n = n % Fm.P := by
  have h0 : 0 ≤ n % Fm.P := Int.emod_nonneg _ (by decide)
  have h1 : n % Fm.P < Fm.P := Int.emod_lt_of_pos _ (by decide)
  exact Fm.V_lim _ h0 (Int.lt_trans h1 (by decide))

set_option maxHeartbeats 1000000 in
theorem loose_any (a : E5) (w : World) (h : a.ok) :
    Calls Tryd.prog 32 #[a.v] w fun e w' =>
      e = .returned (.tuple #[.int .u64 (Fm.cr 0 a.x0 a.x1 a.x2 a.x3 a.x4), .int .u64 (Fm.cr 1 a.x0 a.x1 a.x2 a.x3 a.x4), .int .u64 (Fm.cr 2 a.x0 a.x1 a.x2 a.x3 a.x4), .int .u64 (Fm.cr 3 a.x0 a.x1 a.x2 a.x3 a.x4), .int .u64 (Fm.cr 4 a.x0 a.x1 a.x2 a.x3 a.x4)]) ∧ Below w.heap.size w w' := by
  obtain ⟨a0, a1, a2, a3, a4⟩ := a
  obtain ⟨h0, h1, h2, h3, h4⟩ := h
  simp only [E5.v]
  simp only at h0 h1 h2 h3 h4
  have call := fun w => carry_raw a0 a1 a2 a3 a4 w h0 h1 h2 h3 h4
  generalize Fm.cr 0 a0 a1 a2 a3 a4 = r0 at *
  generalize Fm.cr 1 a0 a1 a2 a3 a4 = r1 at *
  generalize Fm.cr 2 a0 a1 a2 a3 a4 = r2 at *
  generalize Fm.cr 3 a0 a1 a2 a3 a4 = r3 at *
  generalize Fm.cr 4 a0 a1 a2 a3 a4 = r4 at *
  have CALL := hidden call
  clear call h0 h1 h2 h3 h4
  go_enter Tryd.func32, Tryd.ntmps32
  go_wp2_with fail
  refine (CALL.out _).mono ?_
  rintro e w' ⟨rfl, rfl⟩
  clear CALL
  go_wp2_with fail
  refine bodyPost_ret (v := .tuple #[.int .u64 r0, .int .u64 r1, .int .u64 r2, .int .u64 r3, .int .u64 r4]) (by simp [results, Tryd.results32, go_sem]) rfl ⟨rfl, ?_⟩
  exact (Below.refl _ _).alloc (Nat.le_refl _) _

/-- it has the least limbs of n modulo p -/
def E5.is (r : E5) (n : Int) : Prop := r = lst n
theorem E5.is.ok {r : E5} {n : Int} (h : r.is n) : r.ok := by rw [h]; exact lst_ok n
theorem E5.is.n {r : E5} {n : Int} (h : r.is n) : r.n = n % Fm.P := by rw [h]; exact lst_n n

theorem lt_is (n : Int) : lt (n % Fm.P) = .tuple #[.int .u64 (lst n).x0, .int .u64 (lst n).x1, .int .u64 (lst n).x2, .int .u64 (lst n).x3, .int .u64 (lst n).x4] := rfl

set_option maxHeartbeats 1000000 in
theorem Least_any (a : E5) (w : World) (h : a.ok) :
    Calls Tryd.prog 29 #[a.v] w fun e w' => ∃ r : E5, e = .returned r.v ∧ r.is a.n ∧ Below w.heap.size w w' := by
  refine Calls.mono (R := fun e w' => e = .returned (lst a.n).v ∧ Below w.heap.size w w') ?_ (fun e w' h => ⟨lst a.n, h.1, rfl, h.2⟩)
  obtain ⟨a0, a1, a2, a3, a4⟩ := a
  obtain ⟨h0, h1, h2, h3, h4⟩ := h
  simp only [E5.v, E5.n, lst]
  simp only at h0 h1 h2 h3 h4
  have call := fun w => least_raw a0 a1 a2 a3 a4 w h0 h1 h2 h3 h4
  simp only [lt] at call
  generalize Fm.V a0 a1 a2 a3 a4 % Fm.P = n at *
  generalize Fm.lim 0 n = r0 at *
  generalize Fm.lim 1 n = r1 at *
  generalize Fm.lim 2 n = r2 at *
  generalize Fm.lim 3 n = r3 at *
  generalize Fm.lim 4 n = r4 at *
  have CALL := hidden call
  clear call h0 h1 h2 h3 h4
  go_enter Tryd.func29, Tryd.ntmps29
  go_wp2_with fail
  refine (CALL.out _).mono ?_
  rintro e w' ⟨rfl, rfl⟩
  clear CALL
  go_wp2_with fail
  refine bodyPost_ret (v := .agg #[.int .u64 r0, .int .u64 r1, .int .u64 r2, .int .u64 r3, .int .u64 r4]) (by simp [results, Tryd.results29, go_sem]) rfl ⟨rfl, ?_⟩
  exact ((Below.refl _ _).alloc (Nat.le_refl _) _).alloc (by simp) _
end Go.Proofs.YtnbcfchbhappeaaDoor.Fe
