import Derived.Test.YtalalgppdhpfiabEnc2
import Derived.Test.YtalalgppdhpfiabLive
namespace Go.Proofs.Ytalalgppdhpfiab
open Go.RowKit

def z0 : E5 := ⟨0, 0, 0, 0, 0⟩
theorem lst0 : lst 0 = z0 := zero_lst

theorem neg_emod (n : Int) (h : n % Fm.P ≠ 0) : (-n) % Fm.P = Fm.P - n % Fm.P := by
  have h0 : 0 ≤ n % Fm.P := Int.emod_nonneg _ (by decide)
  have h1 : n % Fm.P < Fm.P := Int.emod_lt_of_pos _ (by decide)
  have e : -n = (Fm.P - n % Fm.P) + Fm.P * (-(n / Fm.P) - 1) := by
    have := Int.mul_ediv_add_emod n Fm.P
    rw [Int.mul_sub, Int.mul_neg]; omega
  rw [e, Int.add_mul_emod_self_left]
  exact Int.emod_eq_of_lt (by omega) (by omega)
theorem neg_par (n : Int) (h : n % Fm.P ≠ 0) : (-n) % Fm.P % 2 = 1 - n % Fm.P % 2 := by
  rw [neg_emod n h]
  unfold Fm.P; omega
theorem lst_neg (n : Int) : lst (-(lst n).n) = lst (-n) := lst_congr (by
  have := lst_sub 0 0
  rw [← Int.zero_sub, ← Int.zero_sub n, Int.sub_emod, lst_n, emod_emod_P, ← Int.sub_emod])
theorem lst_par2 (n : Int) : (lst n).n % Fm.P % 2 = n % Fm.P % 2 := by rw [lst_n, emod_emod_P]

theorem negB {a : E5} {w : World} {s : Int} {b : Bool} (ha : a.ok) (hs : a.n % Fm.P % 2 = s) (hb : (s == 1) = b) : Calls Try.prog 15 #[a.v] w fun e w' => e = .returned (.bool b) ∧ Below w.heap.size w w' := by
  subst hs hb; exact Negative_any a w ha
theorem isz {a : E5} {w : World} {b : Bool} (ha : a.ok) (hb : decide (a.n % Fm.P = 0) = b) : Calls Try.prog 14 #[a.v] w fun e w' => e = .returned (.bool b) ∧ Below w.heap.size w w' := by
  subst hb; exact IsZero_any a w ha


set_option maxRecDepth 100000 in
set_option maxHeartbeats 64000000 in
theorem signs_zero (a : E5) (w : World) (ha : a.ok) (hz : a.n % Fm.P = 0) : Calls Try.prog 4 #[a.v] w fun e w' => e = .returned (.bool true) ∧ Below w.heap.size w w' := by
  obtain ⟨LA, hLA⟩ : ∃ t : E5, t = lst a.n := ⟨_, rfl⟩
  have LAok : LA.ok := by rw [hLA]; exact lst_ok _
  obtain ⟨NA, hNA⟩ : ∃ t : E5, t = lst (-a.n) := ⟨_, rfl⟩
  have NAok : NA.ok := by rw [hNA]; exact lst_ok _
  have lv := hidden live_any
  have n_a := hidden (fun w => fix (Neg_any a w ha) hNA.symm)
  have qx := fun (x : E5) w => (eq5 x x w).trans (by rw [E5.same_self] : _ = Result.ok true w)
  have hN0 : (-a.n) % Fm.P = 0 := by have := Int.emod_emod_of_dvd a.n (Int.dvd_refl Fm.P); rw [Int.neg_emod]; simp [Int.dvd_of_emod_eq_zero hz]
  have i_a := hidden (fun w => isz (w := w) (b := true) ha (by simp [hz]))
  have g_a := hidden (fun w => negB (w := w) (s := 0) (b := false) ha (by rw [hz]; rfl) rfl)
  have g_n := hidden (fun w => negB (w := w) (s := 0) (b := false) NAok (by rw [hNA, lst_par2, hN0]; rfl) rfl)
  have b_a := hidden (fun w => fix (Abs_any a w ha) (by unfold absn; rw [if_neg (by rw [hz]; decide)]; exact (zero_is _).2 hz : _ = z0))
  have q0 := fun w => (eq5 z0 z0 w).trans (by rw [E5.same_self] : _ = Result.ok true w)
  have qN := fun w => (eq5 NA z0 w).trans (by rw [show NA = z0 from hNA.trans ((zero_is _).2 hN0), E5.same_self] : _ = Result.ok true w)
  clear hLA hNA LAok NAok ha hz hN0
  simp only [E5.v, z0] at n_a i_a g_a g_n b_a qx q0 qN ⊢
  go_enter Try.func4, Try.ntmps4
  go_wp2_with fail
  refine (lv.out _).mono ?_
  rintro e w1 ⟨rfl, hb1⟩
  have s1 := (St.start w a 24).keep hb1
  clear hb1
  have a0 := (s1.live (w.heap.size, a) (by simp)).c0
  have a1 := (s1.live (w.heap.size, a) (by simp)).c1
  have a2 := (s1.live (w.heap.size, a) (by simp)).c2
  have a3 := (s1.live (w.heap.size, a) (by simp)).c3
  have a4 := (s1.live (w.heap.size, a) (by simp)).c4
  replace s1 := hidden s1
  go_wp2_with fail
  refine (n_a.out _).mono ?_
  rintro e w2 ⟨rfl, hb2⟩
  have s2 := s1.out.keep hb2
  clear hb2 s1 a0 a1 a2 a3 a4
  have a0 := (s2.live (w.heap.size, a) (by simp)).c0
  have a1 := (s2.live (w.heap.size, a) (by simp)).c1
  have a2 := (s2.live (w.heap.size, a) (by simp)).c2
  have a3 := (s2.live (w.heap.size, a) (by simp)).c3
  have a4 := (s2.live (w.heap.size, a) (by simp)).c4
  have hz2 := (s2.live (w.heap.size, a) (by simp)).lt
  have al2 := fun (o : Obj) (j : Nat) => (bl_alloc w2 o).cell (p := ⟨w.heap.size, j, none⟩) hz2
  replace s2 := hidden s2
  go_wp2_with fail
  refine (i_a.out _).mono ?_
  rintro e w3 ⟨rfl, hb3⟩
  have s3 := (show St w [(w2.heap.size, NA), (w.heap.size, a)] [] (w2.alloc (.cells #[.int .u64 NA.x0, .int .u64 NA.x1, .int .u64 NA.x2, .int .u64 NA.x3, .int .u64 NA.x4] 24)) from s2.out.new NA 24).keep hb3
  clear hb3 s2 hz2 al2 a0 a1 a2 a3 a4
  have a0 := (s3.live (w.heap.size, a) (by simp)).c0
  have a1 := (s3.live (w.heap.size, a) (by simp)).c1
  have a2 := (s3.live (w.heap.size, a) (by simp)).c2
  have a3 := (s3.live (w.heap.size, a) (by simp)).c3
  have a4 := (s3.live (w.heap.size, a) (by simp)).c4
  replace s3 := hidden s3
  go_wp2_with fail
  refine (g_a.out _).mono ?_
  rintro e w4 ⟨rfl, hb4⟩
  have s4 := s3.out.keep hb4
  clear a0 a1 a2 a3 a4
  have a0 := (s4.live (w2.heap.size, NA) (by simp)).c0
  have a1 := (s4.live (w2.heap.size, NA) (by simp)).c1
  have a2 := (s4.live (w2.heap.size, NA) (by simp)).c2
  have a3 := (s4.live (w2.heap.size, NA) (by simp)).c3
  have a4 := (s4.live (w2.heap.size, NA) (by simp)).c4
  replace s4 := hidden s4
  go_wp2_with fail
  refine (g_n.out _).mono ?_
  rintro e w5 ⟨rfl, hb5⟩
  have s5 := s4.out.keep hb5
  clear a0 a1 a2 a3 a4
  have a0 := (s5.live (w.heap.size, a) (by simp)).c0
  have a1 := (s5.live (w.heap.size, a) (by simp)).c1
  have a2 := (s5.live (w.heap.size, a) (by simp)).c2
  have a3 := (s5.live (w.heap.size, a) (by simp)).c3
  have a4 := (s5.live (w.heap.size, a) (by simp)).c4
  replace s5 := hidden s5
  go_wp2_with fail
  refine (b_a.out _).mono ?_
  rintro e w6 ⟨rfl, hb6⟩
  have s6 := s5.out.keep hb6
  clear a0 a1 a2 a3 a4
  have a0 := (s6.live (w2.heap.size, NA) (by simp)).c0
  have a1 := (s6.live (w2.heap.size, NA) (by simp)).c1
  have a2 := (s6.live (w2.heap.size, NA) (by simp)).c2
  have a3 := (s6.live (w2.heap.size, NA) (by simp)).c3
  have a4 := (s6.live (w2.heap.size, NA) (by simp)).c4
  replace s6 := hidden s6
  go_wp2_with fail
  go_ret
  exact ⟨rfl, s6.out.bel⟩

set_option maxRecDepth 100000 in
set_option maxHeartbeats 64000000 in
theorem signs_odd (a : E5) (w : World) (ha : a.ok) (hz : a.n % Fm.P ≠ 0) (hp : a.n % Fm.P % 2 = 1) : Calls Try.prog 4 #[a.v] w fun e w' => e = .returned (.bool true) ∧ Below w.heap.size w w' := by
  obtain ⟨LA, hLA⟩ : ∃ t : E5, t = lst a.n := ⟨_, rfl⟩
  have LAok : LA.ok := by rw [hLA]; exact lst_ok _
  obtain ⟨NA, hNA⟩ : ∃ t : E5, t = lst (-a.n) := ⟨_, rfl⟩
  have NAok : NA.ok := by rw [hNA]; exact lst_ok _
  have lv := hidden live_any
  have n_a := hidden (fun w => fix (Neg_any a w ha) hNA.symm)
  have qx := fun (x : E5) w => (eq5 x x w).trans (by rw [E5.same_self] : _ = Result.ok true w)
  have hq := neg_par a.n hz
  rw [hp] at hq
  have i_a := hidden (fun w => isz (w := w) (b := false) ha (by simp [hz]))
  have g_a := hidden (fun w => negB (w := w) (s := 1) (b := true) ha hp rfl)
  have g_n := hidden (fun w => negB (w := w) (s := 0) (b := false) NAok (by rw [hNA, lst_par2]; exact hq) rfl)
  have b_a := hidden (fun w => fix (Abs_any a w ha) (by unfold absn; rw [if_pos hp, hNA] : _ = NA))
  have b_n := hidden (fun w => fix (Abs_any NA w NAok) (by unfold absn; rw [if_neg (by rw [hNA, lst_par2, hq]; decide), hNA, lst_n'] : _ = NA))
  have qNL := fun w => (eq5 NA LA w).trans (by rw [show NA.same LA = false from by rw [Bool.eq_false_iff]; intro h; have h2 := (E5.same_iff NA LA).1 h; have h3 := lst_par2 (-a.n); have h4 := lst_par2 a.n; rw [← hNA, h2, hLA, h4, hp, hq] at h3; omega] : _ = Result.ok false w)
  have l_a := hidden (fun w => fix (Least_any a w ha) hLA.symm)
  have e_a := hidden (fun w => Encode_any a w ha)
  have ix := fun w => run_index_arr w 26 5 32 ((bytes (a.n % Fm.P)).map fun z => Value.int .u8 z).toArray .i64 0 (.int .u8 (byt (a.n % Fm.P) 0)) (P := Try.prog) (inf := (Try.prog.info? 5).get!) (by kernel_rfl) (by kernel_rfl) (by kernel_rfl) (by kernel_rfl) (by omega) (by simp [bytes_get])
  simp only [Int.ofNat_zero] at ix
  have kb : bits .and .u8 (byt (a.n % Fm.P) 0) 1 = 1 := by
    have hb := byt_bd (a.n % Fm.P) 0
    rw [u8_and _ _ hb.1 (by omega) (by omega) (by omega)]
    have e1 : (byt (a.n % Fm.P) 0).toNat &&& (1 : Int).toNat = (byt (a.n % Fm.P) 0).toNat % 2 := Nat.and_two_pow_sub_one_eq_mod _ 1
    rw [e1]; unfold byt at *; simp only [Int.pow_zero, Int.ediv_one] at *; omega
  generalize ((bytes (a.n % Fm.P)).map fun z => Value.int .u8 z).toArray = bs at *
  generalize byt (a.n % Fm.P) 0 = b0 at *
  clear hLA hNA LAok NAok ha hz hp hq
  simp only [E5.v] at n_a i_a g_a g_n b_a b_n l_a e_a qx qNL ⊢
  go_enter Try.func4, Try.ntmps4
  go_wp2_with fail
  refine (lv.out _).mono ?_
  rintro e w1 ⟨rfl, hb1⟩
  have s1 := (St.start w a 24).keep hb1
  clear hb1
  have a0 := (s1.live (w.heap.size, a) (by simp)).c0
  have a1 := (s1.live (w.heap.size, a) (by simp)).c1
  have a2 := (s1.live (w.heap.size, a) (by simp)).c2
  have a3 := (s1.live (w.heap.size, a) (by simp)).c3
  have a4 := (s1.live (w.heap.size, a) (by simp)).c4
  replace s1 := hidden s1
  go_wp2_with fail
  refine (n_a.out _).mono ?_
  rintro e w2 ⟨rfl, hb2⟩
  have s2 := s1.out.keep hb2
  clear hb2 s1 a0 a1 a2 a3 a4
  have a0 := (s2.live (w.heap.size, a) (by simp)).c0
  have a1 := (s2.live (w.heap.size, a) (by simp)).c1
  have a2 := (s2.live (w.heap.size, a) (by simp)).c2
  have a3 := (s2.live (w.heap.size, a) (by simp)).c3
  have a4 := (s2.live (w.heap.size, a) (by simp)).c4
  have hz2 := (s2.live (w.heap.size, a) (by simp)).lt
  have al2 := fun (o : Obj) (j : Nat) => (bl_alloc w2 o).cell (p := ⟨w.heap.size, j, none⟩) hz2
  replace s2 := hidden s2
  go_wp2_with fail
  refine (i_a.out _).mono ?_
  rintro e w3 ⟨rfl, hb3⟩
  have s3 := (show St w [(w2.heap.size, NA), (w.heap.size, a)] [] (w2.alloc (.cells #[.int .u64 NA.x0, .int .u64 NA.x1, .int .u64 NA.x2, .int .u64 NA.x3, .int .u64 NA.x4] 24)) from s2.out.new NA 24).keep hb3
  clear hb3 s2 hz2 al2 a0 a1 a2 a3 a4
  have a0 := (s3.live (w.heap.size, a) (by simp)).c0
  have a1 := (s3.live (w.heap.size, a) (by simp)).c1
  have a2 := (s3.live (w.heap.size, a) (by simp)).c2
  have a3 := (s3.live (w.heap.size, a) (by simp)).c3
  have a4 := (s3.live (w.heap.size, a) (by simp)).c4
  replace s3 := hidden s3
  go_wp2_with fail
  refine (b_a.out _).mono ?_
  rintro e w4 ⟨rfl, hb4⟩
  have s4 := hidden (s3.out.keep hb4)
  clear s3 hb4 a0 a1 a2 a3 a4
  go_wp2_with fail
  have s5 : St w [(w4.heap.size, NA), (w2.heap.size, NA), (w.heap.size, a)] [] (w4.alloc (.cells #[.int .u64 NA.x0, .int .u64 NA.x1, .int .u64 NA.x2, .int .u64 NA.x3, .int .u64 NA.x4] 24)) := s4.out.new NA 24
  have KSt : Hid (∀ w' : World, St w [(w4.heap.size, NA), (w2.heap.size, NA), (w.heap.size, a)] [] w' → (fun w' => St w [(w4.heap.size, NA), (w2.heap.size, NA), (w.heap.size, a)] [] w' ∧ w'.cell? ⟨w4.heap.size, 0, none⟩ = some (.int .u64 NA.x0) ∧ w'.cell? ⟨w4.heap.size, 1, none⟩ = some (.int .u64 NA.x1) ∧ w'.cell? ⟨w4.heap.size, 2, none⟩ = some (.int .u64 NA.x2) ∧ w'.cell? ⟨w4.heap.size, 3, none⟩ = some (.int .u64 NA.x3) ∧ w'.cell? ⟨w4.heap.size, 4, none⟩ = some (.int .u64 NA.x4) ∧ w'.cell? ⟨w2.heap.size, 0, none⟩ = some (.int .u64 NA.x0) ∧ w'.cell? ⟨w2.heap.size, 1, none⟩ = some (.int .u64 NA.x1) ∧ w'.cell? ⟨w2.heap.size, 2, none⟩ = some (.int .u64 NA.x2) ∧ w'.cell? ⟨w2.heap.size, 3, none⟩ = some (.int .u64 NA.x3) ∧ w'.cell? ⟨w2.heap.size, 4, none⟩ = some (.int .u64 NA.x4) ∧ w'.cell? ⟨w.heap.size, 0, none⟩ = some (.int .u64 a.x0) ∧ w'.cell? ⟨w.heap.size, 1, none⟩ = some (.int .u64 a.x1) ∧ w'.cell? ⟨w.heap.size, 2, none⟩ = some (.int .u64 a.x2) ∧ w'.cell? ⟨w.heap.size, 3, none⟩ = some (.int .u64 a.x3) ∧ w'.cell? ⟨w.heap.size, 4, none⟩ = some (.int .u64 a.x4)) w') := hidden (fun w' h => ⟨h, (h.live (w4.heap.size, NA) (by simp)).c0, (h.live (w4.heap.size, NA) (by simp)).c1, (h.live (w4.heap.size, NA) (by simp)).c2, (h.live (w4.heap.size, NA) (by simp)).c3, (h.live (w4.heap.size, NA) (by simp)).c4, (h.live (w2.heap.size, NA) (by simp)).c0, (h.live (w2.heap.size, NA) (by simp)).c1, (h.live (w2.heap.size, NA) (by simp)).c2, (h.live (w2.heap.size, NA) (by simp)).c3, (h.live (w2.heap.size, NA) (by simp)).c4, (h.live (w.heap.size, a) (by simp)).c0, (h.live (w.heap.size, a) (by simp)).c1, (h.live (w.heap.size, a) (by simp)).c2, (h.live (w.heap.size, a) (by simp)).c3, (h.live (w.heap.size, a) (by simp)).c4⟩)
  have K0 : Hid ((fun w' => St w [(w4.heap.size, NA), (w2.heap.size, NA), (w.heap.size, a)] [] w' ∧ w'.cell? ⟨w4.heap.size, 0, none⟩ = some (.int .u64 NA.x0) ∧ w'.cell? ⟨w4.heap.size, 1, none⟩ = some (.int .u64 NA.x1) ∧ w'.cell? ⟨w4.heap.size, 2, none⟩ = some (.int .u64 NA.x2) ∧ w'.cell? ⟨w4.heap.size, 3, none⟩ = some (.int .u64 NA.x3) ∧ w'.cell? ⟨w4.heap.size, 4, none⟩ = some (.int .u64 NA.x4) ∧ w'.cell? ⟨w2.heap.size, 0, none⟩ = some (.int .u64 NA.x0) ∧ w'.cell? ⟨w2.heap.size, 1, none⟩ = some (.int .u64 NA.x1) ∧ w'.cell? ⟨w2.heap.size, 2, none⟩ = some (.int .u64 NA.x2) ∧ w'.cell? ⟨w2.heap.size, 3, none⟩ = some (.int .u64 NA.x3) ∧ w'.cell? ⟨w2.heap.size, 4, none⟩ = some (.int .u64 NA.x4) ∧ w'.cell? ⟨w.heap.size, 0, none⟩ = some (.int .u64 a.x0) ∧ w'.cell? ⟨w.heap.size, 1, none⟩ = some (.int .u64 a.x1) ∧ w'.cell? ⟨w.heap.size, 2, none⟩ = some (.int .u64 a.x2) ∧ w'.cell? ⟨w.heap.size, 3, none⟩ = some (.int .u64 a.x3) ∧ w'.cell? ⟨w.heap.size, 4, none⟩ = some (.int .u64 a.x4)) _) := hidden (KSt.out _ (s5).drew)
  go_region_held3 (fun w' => St w [(w4.heap.size, NA), (w2.heap.size, NA), (w.heap.size, a)] [] w' ∧ w'.cell? ⟨w4.heap.size, 0, none⟩ = some (.int .u64 NA.x0) ∧ w'.cell? ⟨w4.heap.size, 1, none⟩ = some (.int .u64 NA.x1) ∧ w'.cell? ⟨w4.heap.size, 2, none⟩ = some (.int .u64 NA.x2) ∧ w'.cell? ⟨w4.heap.size, 3, none⟩ = some (.int .u64 NA.x3) ∧ w'.cell? ⟨w4.heap.size, 4, none⟩ = some (.int .u64 NA.x4) ∧ w'.cell? ⟨w2.heap.size, 0, none⟩ = some (.int .u64 NA.x0) ∧ w'.cell? ⟨w2.heap.size, 1, none⟩ = some (.int .u64 NA.x1) ∧ w'.cell? ⟨w2.heap.size, 2, none⟩ = some (.int .u64 NA.x2) ∧ w'.cell? ⟨w2.heap.size, 3, none⟩ = some (.int .u64 NA.x3) ∧ w'.cell? ⟨w2.heap.size, 4, none⟩ = some (.int .u64 NA.x4) ∧ w'.cell? ⟨w.heap.size, 0, none⟩ = some (.int .u64 a.x0) ∧ w'.cell? ⟨w.heap.size, 1, none⟩ = some (.int .u64 a.x1) ∧ w'.cell? ⟨w.heap.size, 2, none⟩ = some (.int .u64 a.x2) ∧ w'.cell? ⟨w.heap.size, 3, none⟩ = some (.int .u64 a.x3) ∧ w'.cell? ⟨w.heap.size, 4, none⟩ = some (.int .u64 a.x4)) (first | with_reducible exact K0.out | with_reducible exact hk.out)
    (first | (go_at_call 15; with_reducible refine (g_a.out _).mono ?_; rintro e wn ⟨rfl, hb⟩; have hk := hidden (KSt.out _ ((show St w [(w4.heap.size, NA), (w2.heap.size, NA), (w.heap.size, a)] [] _ from And.left (by assumption)).keep hb))) | (go_at_call 15; with_reducible refine (g_n.out _).mono ?_; rintro e wn ⟨rfl, hb⟩; have hk := hidden (KSt.out _ ((show St w [(w4.heap.size, NA), (w2.heap.size, NA), (w.heap.size, a)] [] _ from And.left (by assumption)).keep hb))) | (go_at_call 16; with_reducible refine (b_n.out _).mono ?_; rintro e wn ⟨rfl, hb⟩; have hk := hidden (KSt.out _ ((show St w [(w4.heap.size, NA), (w2.heap.size, NA), (w.heap.size, a)] [] _ from And.left (by assumption)).keep hb))) | (go_at_call 8; with_reducible refine (l_a.out _).mono ?_; rintro e wn ⟨rfl, hb⟩; have hk := hidden (KSt.out _ ((show St w [(w4.heap.size, NA), (w2.heap.size, NA), (w.heap.size, a)] [] _ from And.left (by assumption)).keep hb))) | (go_at_call 7; with_reducible refine (e_a.out _).mono ?_; rintro e wn ⟨rfl, hb⟩; have hk := hidden (KSt.out _ ((show St w [(w4.heap.size, NA), (w2.heap.size, NA), (w.heap.size, a)] [] _ from And.left (by assumption)).keep hb))))
  go_wp2_with fail
  go_ret
  exact ⟨rfl, hk.out.1.bel⟩

set_option maxRecDepth 100000 in
set_option maxHeartbeats 64000000 in
theorem signs_even (a : E5) (w : World) (ha : a.ok) (hz : a.n % Fm.P ≠ 0) (hp : a.n % Fm.P % 2 = 0) : Calls Try.prog 4 #[a.v] w fun e w' => e = .returned (.bool true) ∧ Below w.heap.size w w' := by
  obtain ⟨LA, hLA⟩ : ∃ t : E5, t = lst a.n := ⟨_, rfl⟩
  have LAok : LA.ok := by rw [hLA]; exact lst_ok _
  obtain ⟨NA, hNA⟩ : ∃ t : E5, t = lst (-a.n) := ⟨_, rfl⟩
  have NAok : NA.ok := by rw [hNA]; exact lst_ok _
  have lv := hidden live_any
  have n_a := hidden (fun w => fix (Neg_any a w ha) hNA.symm)
  have qx := fun (x : E5) w => (eq5 x x w).trans (by rw [E5.same_self] : _ = Result.ok true w)
  have hq := neg_par a.n hz
  rw [hp] at hq
  have i_a := hidden (fun w => isz (w := w) (b := false) ha (by simp [hz]))
  have g_a := hidden (fun w => negB (w := w) (s := 0) (b := false) ha hp rfl)
  have g_n := hidden (fun w => negB (w := w) (s := 1) (b := true) NAok (by rw [hNA, lst_par2]; exact hq) rfl)
  have b_a := hidden (fun w => fix (Abs_any a w ha) (by unfold absn; rw [if_neg (by rw [hp]; decide), hLA] : _ = LA))
  have b_n := hidden (fun w => fix (Abs_any NA w NAok) (by unfold absn; rw [if_pos (by rw [hNA, lst_par2, hq]; rfl), hNA, lst_neg, Int.neg_neg, hLA] : _ = LA))
  have g_l := hidden (fun w => negB (w := w) (s := 0) (b := false) LAok (by rw [hLA, lst_par2]; exact hp) rfl)
  have l_a := hidden (fun w => fix (Least_any a w ha) hLA.symm)
  have e_a := hidden (fun w => Encode_any a w ha)
  have ix := fun w => run_index_arr w 26 5 32 ((bytes (a.n % Fm.P)).map fun z => Value.int .u8 z).toArray .i64 0 (.int .u8 (byt (a.n % Fm.P) 0)) (P := Try.prog) (inf := (Try.prog.info? 5).get!) (by kernel_rfl) (by kernel_rfl) (by kernel_rfl) (by kernel_rfl) (by omega) (by simp [bytes_get])
  simp only [Int.ofNat_zero] at ix
  have kb : bits .and .u8 (byt (a.n % Fm.P) 0) 1 = 0 := by
    have hb := byt_bd (a.n % Fm.P) 0
    rw [u8_and _ _ hb.1 (by omega) (by omega) (by omega)]
    have e1 : (byt (a.n % Fm.P) 0).toNat &&& (1 : Int).toNat = (byt (a.n % Fm.P) 0).toNat % 2 := Nat.and_two_pow_sub_one_eq_mod _ 1
    rw [e1]; unfold byt at *; simp only [Int.pow_zero, Int.ediv_one] at *; omega
  generalize ((bytes (a.n % Fm.P)).map fun z => Value.int .u8 z).toArray = bs at *
  generalize byt (a.n % Fm.P) 0 = b0 at *
  clear hLA hNA LAok NAok ha hz hp hq
  simp only [E5.v] at n_a i_a g_a g_n b_a b_n l_a e_a qx g_l ⊢
  go_enter Try.func4, Try.ntmps4
  go_wp2_with fail
  refine (lv.out _).mono ?_
  rintro e w1 ⟨rfl, hb1⟩
  have s1 := (St.start w a 24).keep hb1
  clear hb1
  have a0 := (s1.live (w.heap.size, a) (by simp)).c0
  have a1 := (s1.live (w.heap.size, a) (by simp)).c1
  have a2 := (s1.live (w.heap.size, a) (by simp)).c2
  have a3 := (s1.live (w.heap.size, a) (by simp)).c3
  have a4 := (s1.live (w.heap.size, a) (by simp)).c4
  replace s1 := hidden s1
  go_wp2_with fail
  refine (n_a.out _).mono ?_
  rintro e w2 ⟨rfl, hb2⟩
  have s2 := s1.out.keep hb2
  clear hb2 s1 a0 a1 a2 a3 a4
  have a0 := (s2.live (w.heap.size, a) (by simp)).c0
  have a1 := (s2.live (w.heap.size, a) (by simp)).c1
  have a2 := (s2.live (w.heap.size, a) (by simp)).c2
  have a3 := (s2.live (w.heap.size, a) (by simp)).c3
  have a4 := (s2.live (w.heap.size, a) (by simp)).c4
  have hz2 := (s2.live (w.heap.size, a) (by simp)).lt
  have al2 := fun (o : Obj) (j : Nat) => (bl_alloc w2 o).cell (p := ⟨w.heap.size, j, none⟩) hz2
  replace s2 := hidden s2
  go_wp2_with fail
  refine (i_a.out _).mono ?_
  rintro e w3 ⟨rfl, hb3⟩
  have s3 := (show St w [(w2.heap.size, NA), (w.heap.size, a)] [] (w2.alloc (.cells #[.int .u64 NA.x0, .int .u64 NA.x1, .int .u64 NA.x2, .int .u64 NA.x3, .int .u64 NA.x4] 24)) from s2.out.new NA 24).keep hb3
  clear hb3 s2 hz2 al2 a0 a1 a2 a3 a4
  have a0 := (s3.live (w.heap.size, a) (by simp)).c0
  have a1 := (s3.live (w.heap.size, a) (by simp)).c1
  have a2 := (s3.live (w.heap.size, a) (by simp)).c2
  have a3 := (s3.live (w.heap.size, a) (by simp)).c3
  have a4 := (s3.live (w.heap.size, a) (by simp)).c4
  replace s3 := hidden s3
  go_wp2_with fail
  refine (b_a.out _).mono ?_
  rintro e w4 ⟨rfl, hb4⟩
  have s4 := hidden (s3.out.keep hb4)
  clear s3 hb4 a0 a1 a2 a3 a4
  go_wp2_with fail
  have s5 : St w [(w4.heap.size, LA), (w2.heap.size, NA), (w.heap.size, a)] [] (w4.alloc (.cells #[.int .u64 LA.x0, .int .u64 LA.x1, .int .u64 LA.x2, .int .u64 LA.x3, .int .u64 LA.x4] 24)) := s4.out.new LA 24
  have KSt : Hid (∀ w' : World, St w [(w4.heap.size, LA), (w2.heap.size, NA), (w.heap.size, a)] [] w' → (fun w' => St w [(w4.heap.size, LA), (w2.heap.size, NA), (w.heap.size, a)] [] w' ∧ w'.cell? ⟨w4.heap.size, 0, none⟩ = some (.int .u64 LA.x0) ∧ w'.cell? ⟨w4.heap.size, 1, none⟩ = some (.int .u64 LA.x1) ∧ w'.cell? ⟨w4.heap.size, 2, none⟩ = some (.int .u64 LA.x2) ∧ w'.cell? ⟨w4.heap.size, 3, none⟩ = some (.int .u64 LA.x3) ∧ w'.cell? ⟨w4.heap.size, 4, none⟩ = some (.int .u64 LA.x4) ∧ w'.cell? ⟨w2.heap.size, 0, none⟩ = some (.int .u64 NA.x0) ∧ w'.cell? ⟨w2.heap.size, 1, none⟩ = some (.int .u64 NA.x1) ∧ w'.cell? ⟨w2.heap.size, 2, none⟩ = some (.int .u64 NA.x2) ∧ w'.cell? ⟨w2.heap.size, 3, none⟩ = some (.int .u64 NA.x3) ∧ w'.cell? ⟨w2.heap.size, 4, none⟩ = some (.int .u64 NA.x4) ∧ w'.cell? ⟨w.heap.size, 0, none⟩ = some (.int .u64 a.x0) ∧ w'.cell? ⟨w.heap.size, 1, none⟩ = some (.int .u64 a.x1) ∧ w'.cell? ⟨w.heap.size, 2, none⟩ = some (.int .u64 a.x2) ∧ w'.cell? ⟨w.heap.size, 3, none⟩ = some (.int .u64 a.x3) ∧ w'.cell? ⟨w.heap.size, 4, none⟩ = some (.int .u64 a.x4)) w') := hidden (fun w' h => ⟨h, (h.live (w4.heap.size, LA) (by simp)).c0, (h.live (w4.heap.size, LA) (by simp)).c1, (h.live (w4.heap.size, LA) (by simp)).c2, (h.live (w4.heap.size, LA) (by simp)).c3, (h.live (w4.heap.size, LA) (by simp)).c4, (h.live (w2.heap.size, NA) (by simp)).c0, (h.live (w2.heap.size, NA) (by simp)).c1, (h.live (w2.heap.size, NA) (by simp)).c2, (h.live (w2.heap.size, NA) (by simp)).c3, (h.live (w2.heap.size, NA) (by simp)).c4, (h.live (w.heap.size, a) (by simp)).c0, (h.live (w.heap.size, a) (by simp)).c1, (h.live (w.heap.size, a) (by simp)).c2, (h.live (w.heap.size, a) (by simp)).c3, (h.live (w.heap.size, a) (by simp)).c4⟩)
  have K0 : Hid ((fun w' => St w [(w4.heap.size, LA), (w2.heap.size, NA), (w.heap.size, a)] [] w' ∧ w'.cell? ⟨w4.heap.size, 0, none⟩ = some (.int .u64 LA.x0) ∧ w'.cell? ⟨w4.heap.size, 1, none⟩ = some (.int .u64 LA.x1) ∧ w'.cell? ⟨w4.heap.size, 2, none⟩ = some (.int .u64 LA.x2) ∧ w'.cell? ⟨w4.heap.size, 3, none⟩ = some (.int .u64 LA.x3) ∧ w'.cell? ⟨w4.heap.size, 4, none⟩ = some (.int .u64 LA.x4) ∧ w'.cell? ⟨w2.heap.size, 0, none⟩ = some (.int .u64 NA.x0) ∧ w'.cell? ⟨w2.heap.size, 1, none⟩ = some (.int .u64 NA.x1) ∧ w'.cell? ⟨w2.heap.size, 2, none⟩ = some (.int .u64 NA.x2) ∧ w'.cell? ⟨w2.heap.size, 3, none⟩ = some (.int .u64 NA.x3) ∧ w'.cell? ⟨w2.heap.size, 4, none⟩ = some (.int .u64 NA.x4) ∧ w'.cell? ⟨w.heap.size, 0, none⟩ = some (.int .u64 a.x0) ∧ w'.cell? ⟨w.heap.size, 1, none⟩ = some (.int .u64 a.x1) ∧ w'.cell? ⟨w.heap.size, 2, none⟩ = some (.int .u64 a.x2) ∧ w'.cell? ⟨w.heap.size, 3, none⟩ = some (.int .u64 a.x3) ∧ w'.cell? ⟨w.heap.size, 4, none⟩ = some (.int .u64 a.x4)) _) := hidden (KSt.out _ (s5).drew)
  refine wp_region_noPanic ?_
  refine wp_region_held_drew (S := fun w' => St w [(w4.heap.size, LA), (w2.heap.size, NA), (w.heap.size, a)] [] w' ∧ w'.cell? ⟨w4.heap.size, 0, none⟩ = some (.int .u64 LA.x0) ∧ w'.cell? ⟨w4.heap.size, 1, none⟩ = some (.int .u64 LA.x1) ∧ w'.cell? ⟨w4.heap.size, 2, none⟩ = some (.int .u64 LA.x2) ∧ w'.cell? ⟨w4.heap.size, 3, none⟩ = some (.int .u64 LA.x3) ∧ w'.cell? ⟨w4.heap.size, 4, none⟩ = some (.int .u64 LA.x4) ∧ w'.cell? ⟨w2.heap.size, 0, none⟩ = some (.int .u64 NA.x0) ∧ w'.cell? ⟨w2.heap.size, 1, none⟩ = some (.int .u64 NA.x1) ∧ w'.cell? ⟨w2.heap.size, 2, none⟩ = some (.int .u64 NA.x2) ∧ w'.cell? ⟨w2.heap.size, 3, none⟩ = some (.int .u64 NA.x3) ∧ w'.cell? ⟨w2.heap.size, 4, none⟩ = some (.int .u64 NA.x4) ∧ w'.cell? ⟨w.heap.size, 0, none⟩ = some (.int .u64 a.x0) ∧ w'.cell? ⟨w.heap.size, 1, none⟩ = some (.int .u64 a.x1) ∧ w'.cell? ⟨w.heap.size, 2, none⟩ = some (.int .u64 a.x2) ∧ w'.cell? ⟨w.heap.size, 3, none⟩ = some (.int .u64 a.x3) ∧ w'.cell? ⟨w.heap.size, 4, none⟩ = some (.int .u64 a.x4)) (by kernel_rfl) K0.out (fun hHeld => ?_)
  refine wpAnyH_take (i := 0) (oi := { dst := some 32, op := Op.load 24 (Operand.tmp 1), type := 24, pos := "outright.go:121", after := #[], guard := none }) (v := ?_) rfl (by kernel_rfl) (by kernel_rfl) (by kernel_rfl) (fun _ _ _ h => h) (Or.inl ⟨by rfl, ?_⟩) hHeld ?_
  rotate_left 1
  · (intro w0 hSw; (try dsimp only at hSw); go_simp; try with_reducible rfl)
  simp only [Act.put, List.setIfInBounds_toArray, List.set_cons_zero, List.set_cons_succ]
  refine wpAnyH_take (i := 2) (oi := { dst := some 34, op := Op.load 24 (Operand.tmp 3), type := 24, pos := "outright.go:121", after := #[], guard := none }) (v := ?_) rfl (by kernel_rfl) (by kernel_rfl) (by kernel_rfl) (fun _ _ _ h => h) (Or.inl ⟨by rfl, ?_⟩) hHeld ?_
  rotate_left 1
  · (intro w0 hSw; (try dsimp only at hSw); go_simp; try with_reducible rfl)
  simp only [Act.put, List.setIfInBounds_toArray, List.set_cons_zero, List.set_cons_succ]
  refine wpAnyH_ready (rs := [1]) (by kernel_rfl) (by simp) ?_
  refine AllReadyH.cons (o := { dst := some 33, op := Op.call { callee := Callee.value (Operand.func 15), args := #[Operand.tmp 32], argTypes := #[24] }, type := 4, pos := "outright.go:121", after := #[{ on := 0, ground := Ground.data }], guard := none }) rfl (fun K hK => ?_) AllReadyH.nil
  go_simp
  refine (g_a.out _).mono ?_
  rintro e wn ⟨rfl, hb⟩
  have hk := hidden (KSt.out _ (hHeld.1.keep hb))
  go_wp2_with fail
  refine hK.out _ _ hk.out (fun hHeld2 => ?_)
  clear hK K hHeld
  have hHeld := hHeld2
  clear hHeld2
  refine wpAnyH_ready (rs := [3]) (by kernel_rfl) (by simp) ?_
  refine AllReadyH.cons (o := { dst := some 35, op := Op.call { callee := Callee.value (Operand.func 15), args := #[Operand.tmp 34], argTypes := #[24] }, type := 4, pos := "outright.go:121", after := #[{ on := 2, ground := Ground.data }, { on := 1, ground := Ground.chain }], guard := none }) rfl (fun K hK => ?_) AllReadyH.nil
  go_simp
  refine (g_n.out _).mono ?_
  rintro e wn ⟨rfl, hb⟩
  have hk := hidden (KSt.out _ (hHeld.1.keep hb))
  go_wp2_with fail
  refine hK.out _ _ hk.out (fun hHeld2 => ?_)
  clear hK K hHeld
  have hHeld := hHeld2
  clear hHeld2
  refine wpAnyH_take (i := 4) (oi := { dst := some 36, op := Op.binOp BinOp.neq 4 (Operand.tmp 33) (Operand.tmp 35) 4, type := 4, pos := "outright.go:121", after := #[{ on := 1, ground := Ground.data }, { on := 3, ground := Ground.data }], guard := none }) (v := ?_) rfl (by kernel_rfl) (by kernel_rfl) (by kernel_rfl) (fun _ _ _ h => h) (Or.inl ⟨by rfl, ?_⟩) hHeld ?_
  rotate_left 1
  · (intro w0 hSw; (try dsimp only at hSw); go_simp; try with_reducible rfl)
  simp only [Act.put, List.setIfInBounds_toArray, List.set_cons_zero, List.set_cons_succ]
  refine wpAnyH_take (i := 5) (oi := { dst := some 37, op := Op.move (Operand.tmp 36), type := 4, pos := "outright.go:121", after := #[{ on := 4, ground := Ground.data }, { on := 3, ground := Ground.chain }], guard := none }) (v := ?_) rfl (by kernel_rfl) (by kernel_rfl) (by kernel_rfl) (fun _ _ _ h => h) (Or.inl ⟨by rfl, ?_⟩) hHeld ?_
  rotate_left 1
  · (intro w0 hSw; (try dsimp only at hSw); go_simp; try with_reducible rfl)
  simp only [Act.put, List.setIfInBounds_toArray, List.set_cons_zero, List.set_cons_succ]
  refine wpAnyH_take (i := 6) (oi := { dst := some 38, op := Op.load 24 (Operand.tmp 4), type := 24, pos := "outright.go:121", after := #[{ on := 5, ground := Ground.guard }], guard := some (5, true) }) (v := ?_) rfl (by kernel_rfl) (by kernel_rfl) (by kernel_rfl) (fun _ _ _ h => h) (Or.inl ⟨by rfl, ?_⟩) hHeld ?_
  rotate_left 1
  · (intro w0 hSw; (try dsimp only at hSw); go_simp; try with_reducible rfl)
  simp only [Act.put, List.setIfInBounds_toArray, List.set_cons_zero, List.set_cons_succ]
  refine wpAnyH_ready (rs := [7]) (by kernel_rfl) (by simp) ?_
  refine AllReadyH.cons (o := { dst := some 39, op := Op.call { callee := Callee.value (Operand.func 15), args := #[Operand.tmp 38], argTypes := #[24] }, type := 4, pos := "outright.go:121", after := #[{ on := 6, ground := Ground.data }, { on := 5, ground := Ground.chain }, { on := 5, ground := Ground.guard }], guard := some (5, true) }) rfl (fun K hK => ?_) AllReadyH.nil
  go_simp
  refine (g_l.out _).mono ?_
  rintro e wn ⟨rfl, hb⟩
  have hk := hidden (KSt.out _ (hHeld.1.keep hb))
  go_wp2_with fail
  refine hK.out _ _ hk.out (fun hHeld2 => ?_)
  clear hK K hHeld
  have hHeld := hHeld2
  clear hHeld2
  refine wpAnyH_take (i := 8) (oi := { dst := some 40, op := Op.unOp UnOp.not 4 (Operand.tmp 39), type := 4, pos := "outright.go:121", after := #[{ on := 7, ground := Ground.data }, { on := 5, ground := Ground.guard }], guard := some (5, true) }) (v := ?_) rfl (by kernel_rfl) (by kernel_rfl) (by kernel_rfl) (fun _ _ _ h => h) (Or.inl ⟨by rfl, ?_⟩) hHeld ?_
  rotate_left 1
  · (intro w0 hSw; (try dsimp only at hSw); go_simp; try with_reducible rfl)
  simp only [Act.put, List.setIfInBounds_toArray, List.set_cons_zero, List.set_cons_succ]
  refine wpAnyH_take (i := 9) (oi := { dst := some 41, op := Op.pick (Operand.tmp 37) (Operand.tmp 40) (Operand.const (Value.bool false)), type := 4, pos := "outright.go:121", after := #[{ on := 5, ground := Ground.data }, { on := 8, ground := Ground.data }], guard := none }) (v := ?_) rfl (by kernel_rfl) (by kernel_rfl) (by kernel_rfl) (fun _ _ _ h => h) (Or.inl ⟨by rfl, ?_⟩) hHeld ?_
  rotate_left 1
  · (intro w0 hSw; (try dsimp only at hSw); go_simp; try with_reducible rfl)
  simp only [Act.put, List.setIfInBounds_toArray, List.set_cons_zero, List.set_cons_succ]
  refine wpAnyH_take (i := 10) (oi := { dst := some 42, op := Op.move (Operand.tmp 41), type := 4, pos := "outright.go:121", after := #[{ on := 9, ground := Ground.data }, { on := 7, ground := Ground.chain }], guard := none }) (v := ?_) rfl (by kernel_rfl) (by kernel_rfl) (by kernel_rfl) (fun _ _ _ h => h) (Or.inl ⟨by rfl, ?_⟩) hHeld ?_
  rotate_left 1
  · (intro w0 hSw; (try dsimp only at hSw); go_simp; try with_reducible rfl)
  simp only [Act.put, List.setIfInBounds_toArray, List.set_cons_zero, List.set_cons_succ]
  refine wpAnyH_take (i := 11) (oi := { dst := some 43, op := Op.load 24 (Operand.tmp 3), type := 24, pos := "outright.go:121", after := #[{ on := 10, ground := Ground.guard }], guard := some (10, true) }) (v := ?_) rfl (by kernel_rfl) (by kernel_rfl) (by kernel_rfl) (fun _ _ _ h => h) (Or.inl ⟨by rfl, ?_⟩) hHeld ?_
  rotate_left 1
  · (intro w0 hSw; (try dsimp only at hSw); go_simp; try with_reducible rfl)
  simp only [Act.put, List.setIfInBounds_toArray, List.set_cons_zero, List.set_cons_succ]
  refine wpAnyH_take (i := 13) (oi := { dst := some 45, op := Op.load 24 (Operand.tmp 4), type := 24, pos := "outright.go:121", after := #[{ on := 10, ground := Ground.guard }], guard := some (10, true) }) (v := ?_) rfl (by kernel_rfl) (by kernel_rfl) (by kernel_rfl) (fun _ _ _ h => h) (Or.inl ⟨by rfl, ?_⟩) hHeld ?_
  rotate_left 1
  · (intro w0 hSw; (try dsimp only at hSw); go_simp; try with_reducible rfl)
  simp only [Act.put, List.setIfInBounds_toArray, List.set_cons_zero, List.set_cons_succ]
  refine wpAnyH_ready (rs := [12]) (by kernel_rfl) (by simp) ?_
  refine AllReadyH.cons (o := { dst := some 44, op := Op.call { callee := Callee.value (Operand.func 16), args := #[Operand.tmp 43], argTypes := #[24] }, type := 24, pos := "outright.go:121", after := #[{ on := 11, ground := Ground.data }, { on := 10, ground := Ground.chain }, { on := 10, ground := Ground.guard }], guard := some (10, true) }) rfl (fun K hK => ?_) AllReadyH.nil
  go_simp
  refine (b_n.out _).mono ?_
  rintro e wn ⟨rfl, hb⟩
  have hk := hidden (KSt.out _ (hHeld.1.keep hb))
  go_wp2_with fail
  refine hK.out _ _ hk.out (fun hHeld2 => ?_)
  clear hK K hHeld
  have hHeld := hHeld2
  clear hHeld2
  refine wpAnyH_take (i := 14) (oi := { dst := some 46, op := Op.binOp BinOp.eql 24 (Operand.tmp 44) (Operand.tmp 45) 24, type := 4, pos := "outright.go:121", after := #[{ on := 12, ground := Ground.data }, { on := 13, ground := Ground.data }, { on := 10, ground := Ground.guard }], guard := some (10, true) }) (v := ?_) rfl (by kernel_rfl) (by kernel_rfl) (by kernel_rfl) (fun _ _ _ h => h) (Or.inl ⟨by rfl, ?_⟩) hHeld ?_
  rotate_left 1
  · (intro w0 hSw; (try dsimp only at hSw); go_simp; try with_reducible rfl)
  simp only [Act.put, List.setIfInBounds_toArray, List.set_cons_zero, List.set_cons_succ]
  refine wpAnyH_take (i := 15) (oi := { dst := some 47, op := Op.pick (Operand.tmp 42) (Operand.tmp 46) (Operand.const (Value.bool false)), type := 4, pos := "outright.go:121", after := #[{ on := 10, ground := Ground.data }, { on := 14, ground := Ground.data }], guard := none }) (v := ?_) rfl (by kernel_rfl) (by kernel_rfl) (by kernel_rfl) (fun _ _ _ h => h) (Or.inl ⟨by rfl, ?_⟩) hHeld ?_
  rotate_left 1
  · (intro w0 hSw; (try dsimp only at hSw); go_simp; try with_reducible rfl)
  simp only [Act.put, List.setIfInBounds_toArray, List.set_cons_zero, List.set_cons_succ]
  refine wpAnyH_take (i := 16) (oi := { dst := some 48, op := Op.move (Operand.tmp 47), type := 4, pos := "outright.go:121", after := #[{ on := 15, ground := Ground.data }, { on := 12, ground := Ground.chain }], guard := none }) (v := ?_) rfl (by kernel_rfl) (by kernel_rfl) (by kernel_rfl) (fun _ _ _ h => h) (Or.inl ⟨by rfl, ?_⟩) hHeld ?_
  rotate_left 1
  · (intro w0 hSw; (try dsimp only at hSw); go_simp; try with_reducible rfl)
  simp only [Act.put, List.setIfInBounds_toArray, List.set_cons_zero, List.set_cons_succ]
  refine wpAnyH_take (i := 17) (oi := { dst := some 49, op := Op.load 24 (Operand.tmp 4), type := 24, pos := "outright.go:121", after := #[{ on := 16, ground := Ground.guard }], guard := some (16, true) }) (v := ?_) rfl (by kernel_rfl) (by kernel_rfl) (by kernel_rfl) (fun _ _ _ h => h) (Or.inl ⟨by rfl, ?_⟩) hHeld ?_
  rotate_left 1
  · (intro w0 hSw; (try dsimp only at hSw); go_simp; try with_reducible rfl)
  simp only [Act.put, List.setIfInBounds_toArray, List.set_cons_zero, List.set_cons_succ]
  refine wpAnyH_take (i := 18) (oi := { dst := some 50, op := Op.load 24 (Operand.tmp 1), type := 24, pos := "outright.go:121", after := #[{ on := 16, ground := Ground.guard }], guard := some (16, true) }) (v := ?_) rfl (by kernel_rfl) (by kernel_rfl) (by kernel_rfl) (fun _ _ _ h => h) (Or.inl ⟨by rfl, ?_⟩) hHeld ?_
  rotate_left 1
  · (intro w0 hSw; (try dsimp only at hSw); go_simp; try with_reducible rfl)
  simp only [Act.put, List.setIfInBounds_toArray, List.set_cons_zero, List.set_cons_succ]
  refine wpAnyH_ready (rs := [19]) (by kernel_rfl) (by simp) ?_
  refine AllReadyH.cons (o := { dst := some 51, op := Op.call { callee := Callee.value (Operand.func 8), args := #[Operand.tmp 50], argTypes := #[24] }, type := 24, pos := "outright.go:121", after := #[{ on := 18, ground := Ground.data }, { on := 16, ground := Ground.chain }, { on := 16, ground := Ground.guard }], guard := some (16, true) }) rfl (fun K hK => ?_) AllReadyH.nil
  go_simp
  refine (l_a.out _).mono ?_
  rintro e wn ⟨rfl, hb⟩
  have hk := hidden (KSt.out _ (hHeld.1.keep hb))
  go_wp2_with fail
  refine hK.out _ _ hk.out (fun hHeld2 => ?_)
  clear hK K hHeld
  have hHeld := hHeld2
  clear hHeld2
  refine wpAnyH_take (i := 20) (oi := { dst := some 52, op := Op.binOp BinOp.eql 24 (Operand.tmp 49) (Operand.tmp 51) 24, type := 4, pos := "outright.go:121", after := #[{ on := 17, ground := Ground.data }, { on := 19, ground := Ground.data }, { on := 16, ground := Ground.guard }], guard := some (16, true) }) (v := ?_) rfl (by kernel_rfl) (by kernel_rfl) (by kernel_rfl) (fun _ _ _ h => h) (Or.inl ⟨by rfl, ?_⟩) hHeld ?_
  rotate_left 1
  · (intro w0 hSw; (try dsimp only at hSw); go_simp; try with_reducible rfl)
  simp only [Act.put, List.setIfInBounds_toArray, List.set_cons_zero, List.set_cons_succ]
  refine wpAnyH_take (i := 21) (oi := { dst := some 53, op := Op.move (Operand.tmp 52), type := 4, pos := "outright.go:121", after := #[{ on := 20, ground := Ground.data }, { on := 19, ground := Ground.chain }, { on := 16, ground := Ground.guard }], guard := some (16, true) }) (v := ?_) rfl (by kernel_rfl) (by kernel_rfl) (by kernel_rfl) (fun _ _ _ h => h) (Or.inl ⟨by rfl, ?_⟩) hHeld ?_
  rotate_left 1
  · (intro w0 hSw; (try dsimp only at hSw); go_simp; try with_reducible rfl)
  simp only [Act.put, List.setIfInBounds_toArray, List.set_cons_zero, List.set_cons_succ]
  refine wpAnyH_take (i := 22) (oi := { dst := some 54, op := Op.load 24 (Operand.tmp 4), type := 24, pos := "outright.go:121", after := #[{ on := 21, ground := Ground.guard }], guard := some (21, false) }) (v := undef) rfl (by kernel_rfl) (by kernel_rfl) (by kernel_rfl) (fun _ _ _ h => h) (Or.inr ⟨by rfl, rfl⟩) hHeld ?_
  simp only [Act.put, List.setIfInBounds_toArray, List.set_cons_zero, List.set_cons_succ]
  refine wpAnyH_take (i := 23) (oi := { dst := some 55, op := Op.load 24 (Operand.tmp 3), type := 24, pos := "outright.go:121", after := #[{ on := 21, ground := Ground.guard }], guard := some (21, false) }) (v := undef) rfl (by kernel_rfl) (by kernel_rfl) (by kernel_rfl) (fun _ _ _ h => h) (Or.inr ⟨by rfl, rfl⟩) hHeld ?_
  simp only [Act.put, List.setIfInBounds_toArray, List.set_cons_zero, List.set_cons_succ]
  refine wpAnyH_take (i := 24) (oi := { dst := some 56, op := Op.binOp BinOp.eql 24 (Operand.tmp 54) (Operand.tmp 55) 24, type := 4, pos := "outright.go:121", after := #[{ on := 22, ground := Ground.data }, { on := 23, ground := Ground.data }, { on := 21, ground := Ground.guard }], guard := some (21, false) }) (v := undef) rfl (by kernel_rfl) (by kernel_rfl) (by kernel_rfl) (fun _ _ _ h => h) (Or.inr ⟨by rfl, rfl⟩) hHeld ?_
  simp only [Act.put, List.setIfInBounds_toArray, List.set_cons_zero, List.set_cons_succ]
  refine wpAnyH_take (i := 25) (oi := { dst := some 57, op := Op.pick (Operand.tmp 53) (Operand.const (Value.bool true)) (Operand.tmp 56), type := 4, pos := "outright.go:121", after := #[{ on := 21, ground := Ground.data }, { on := 24, ground := Ground.data }, { on := 16, ground := Ground.guard }], guard := some (16, true) }) (v := ?_) rfl (by kernel_rfl) (by kernel_rfl) (by kernel_rfl) (fun _ _ _ h => h) (Or.inl ⟨by rfl, ?_⟩) hHeld ?_
  rotate_left 1
  · (intro w0 hSw; (try dsimp only at hSw); go_simp; try with_reducible rfl)
  simp only [Act.put, List.setIfInBounds_toArray, List.set_cons_zero, List.set_cons_succ]
  refine wpAnyH_take (i := 26) (oi := { dst := some 58, op := Op.pick (Operand.tmp 48) (Operand.tmp 57) (Operand.const (Value.bool false)), type := 4, pos := "outright.go:121", after := #[{ on := 16, ground := Ground.data }, { on := 25, ground := Ground.data }], guard := none }) (v := ?_) rfl (by kernel_rfl) (by kernel_rfl) (by kernel_rfl) (fun _ _ _ h => h) (Or.inl ⟨by rfl, ?_⟩) hHeld ?_
  rotate_left 1
  · (intro w0 hSw; (try dsimp only at hSw); go_simp; try with_reducible rfl)
  simp only [Act.put, List.setIfInBounds_toArray, List.set_cons_zero, List.set_cons_succ]
  refine wpAnyH_take (i := 27) (oi := { dst := some 59, op := Op.move (Operand.tmp 58), type := 4, pos := "outright.go:121", after := #[{ on := 26, ground := Ground.data }, { on := 21, ground := Ground.chain }], guard := none }) (v := ?_) rfl (by kernel_rfl) (by kernel_rfl) (by kernel_rfl) (fun _ _ _ h => h) (Or.inl ⟨by rfl, ?_⟩) hHeld ?_
  rotate_left 1
  · (intro w0 hSw; (try dsimp only at hSw); go_simp; try with_reducible rfl)
  simp only [Act.put, List.setIfInBounds_toArray, List.set_cons_zero, List.set_cons_succ]
  refine wpAnyH_take (i := 28) (oi := { dst := some 60, op := Op.load 24 (Operand.tmp 1), type := 24, pos := "outright.go:121", after := #[{ on := 27, ground := Ground.guard }], guard := some (27, true) }) (v := ?_) rfl (by kernel_rfl) (by kernel_rfl) (by kernel_rfl) (fun _ _ _ h => h) (Or.inl ⟨by rfl, ?_⟩) hHeld ?_
  rotate_left 1
  · (intro w0 hSw; (try dsimp only at hSw); go_simp; try with_reducible rfl)
  simp only [Act.put, List.setIfInBounds_toArray, List.set_cons_zero, List.set_cons_succ]
  refine wpAnyH_take (i := 30) (oi := { dst := some 62, op := Op.load 24 (Operand.tmp 1), type := 24, pos := "outright.go:121", after := #[{ on := 27, ground := Ground.guard }], guard := some (27, true) }) (v := ?_) rfl (by kernel_rfl) (by kernel_rfl) (by kernel_rfl) (fun _ _ _ h => h) (Or.inl ⟨by rfl, ?_⟩) hHeld ?_
  rotate_left 1
  · (intro w0 hSw; (try dsimp only at hSw); go_simp; try with_reducible rfl)
  simp only [Act.put, List.setIfInBounds_toArray, List.set_cons_zero, List.set_cons_succ]
  refine wpAnyH_ready (rs := [29]) (by kernel_rfl) (by simp) ?_
  refine AllReadyH.cons (o := { dst := some 61, op := Op.call { callee := Callee.value (Operand.func 15), args := #[Operand.tmp 60], argTypes := #[24] }, type := 4, pos := "outright.go:121", after := #[{ on := 28, ground := Ground.data }, { on := 27, ground := Ground.chain }, { on := 27, ground := Ground.guard }], guard := some (27, true) }) rfl (fun K hK => ?_) AllReadyH.nil
  go_simp
  refine (g_a.out _).mono ?_
  rintro e wn ⟨rfl, hb⟩
  have hk := hidden (KSt.out _ (hHeld.1.keep hb))
  go_wp2_with fail
  refine hK.out _ _ hk.out (fun hHeld2 => ?_)
  clear hK K hHeld
  have hHeld := hHeld2
  clear hHeld2
  refine wpAnyH_ready (rs := [31]) (by kernel_rfl) (by simp) ?_
  refine AllReadyH.cons (o := { dst := some 63, op := Op.call { callee := Callee.value (Operand.func 7), args := #[Operand.tmp 62], argTypes := #[24] }, type := 26, pos := "outright.go:121", after := #[{ on := 30, ground := Ground.data }, { on := 29, ground := Ground.chain }, { on := 27, ground := Ground.guard }], guard := some (27, true) }) rfl (fun K hK => ?_) AllReadyH.nil
  go_simp
  refine (e_a.out _).mono ?_
  rintro e wn ⟨rfl, hb⟩
  have hk := hidden (KSt.out _ (hHeld.1.keep hb))
  go_wp2_with fail
  refine hK.out _ _ hk.out (fun hHeld2 => ?_)
  clear hK K hHeld
  have hHeld := hHeld2
  clear hHeld2
  refine wpAnyH_ready (rs := [32]) (by kernel_rfl) (by simp) ?_
  refine AllReadyH.cons (o := { dst := some 64, op := Op.index 26 (Operand.tmp 63) (Operand.const (Value.int IntKind.i64 0)), type := 5, pos := "outright.go:121", after := #[{ on := 31, ground := Ground.data }, { on := 27, ground := Ground.guard }], guard := some (27, true) }) rfl (fun K hK => ?_) AllReadyH.nil
  go_simp
  refine hK.out _ _ hHeld (fun hHeld2 => ?_)
  clear hK K hHeld2
  refine wpAnyH_take (i := 33) (oi := { dst := some 65, op := Op.binOp BinOp.and 5 (Operand.tmp 64) (Operand.const (Value.int IntKind.u8 1)) 5, type := 5, pos := "outright.go:121", after := #[{ on := 32, ground := Ground.data }, { on := 27, ground := Ground.guard }], guard := some (27, true) }) (v := ?_) rfl (by kernel_rfl) (by kernel_rfl) (by kernel_rfl) (fun _ _ _ h => h) (Or.inl ⟨by rfl, ?_⟩) hHeld ?_
  rotate_left 1
  · (intro w0 hSw; (try dsimp only at hSw); go_simp; try with_reducible rfl)
  simp only [Act.put, List.setIfInBounds_toArray, List.set_cons_zero, List.set_cons_succ]
  refine wpAnyH_take (i := 34) (oi := { dst := some 66, op := Op.binOp BinOp.eql 5 (Operand.tmp 65) (Operand.const (Value.int IntKind.u8 1)) 5, type := 4, pos := "outright.go:121", after := #[{ on := 33, ground := Ground.data }, { on := 27, ground := Ground.guard }], guard := some (27, true) }) (v := ?_) rfl (by kernel_rfl) (by kernel_rfl) (by kernel_rfl) (fun _ _ _ h => h) (Or.inl ⟨by rfl, ?_⟩) hHeld ?_
  rotate_left 1
  · (intro w0 hSw; (try dsimp only at hSw); go_simp; try with_reducible rfl)
  simp only [Act.put, List.setIfInBounds_toArray, List.set_cons_zero, List.set_cons_succ]
  refine wpAnyH_take (i := 35) (oi := { dst := some 67, op := Op.binOp BinOp.eql 4 (Operand.tmp 61) (Operand.tmp 66) 4, type := 4, pos := "outright.go:121", after := #[{ on := 29, ground := Ground.data }, { on := 34, ground := Ground.data }, { on := 27, ground := Ground.guard }], guard := some (27, true) }) (v := ?_) rfl (by kernel_rfl) (by kernel_rfl) (by kernel_rfl) (fun _ _ _ h => h) (Or.inl ⟨by rfl, ?_⟩) hHeld ?_
  rotate_left 1
  · (intro w0 hSw; (try dsimp only at hSw); go_simp; try with_reducible rfl)
  simp only [Act.put, List.setIfInBounds_toArray, List.set_cons_zero, List.set_cons_succ]
  refine wpAnyH_take (i := 36) (oi := { dst := some 68, op := Op.pick (Operand.tmp 59) (Operand.tmp 67) (Operand.const (Value.bool false)), type := 4, pos := "outright.go:121", after := #[{ on := 27, ground := Ground.data }, { on := 35, ground := Ground.data }], guard := none }) (v := ?_) rfl (by kernel_rfl) (by kernel_rfl) (by kernel_rfl) (fun _ _ _ h => h) (Or.inl ⟨by rfl, ?_⟩) hHeld ?_
  rotate_left 1
  · (intro w0 hSw; (try dsimp only at hSw); go_simp; try with_reducible rfl)
  simp only [Act.put, List.setIfInBounds_toArray, List.set_cons_zero, List.set_cons_succ]
  refine wpAnyH_take (i := 37) (oi := { dst := some 2, op := Op.assign (Operand.tmp 68), type := 4, pos := "outright.go:121", after := #[{ on := 36, ground := Ground.data }, { on := 31, ground := Ground.chain }, { on := 0, ground := Ground.phase }, { on := 1, ground := Ground.phase }, { on := 2, ground := Ground.phase }, { on := 3, ground := Ground.phase }, { on := 4, ground := Ground.phase }, { on := 5, ground := Ground.phase }, { on := 6, ground := Ground.phase }, { on := 7, ground := Ground.phase }, { on := 8, ground := Ground.phase }, { on := 9, ground := Ground.phase }, { on := 10, ground := Ground.phase }, { on := 11, ground := Ground.phase }, { on := 12, ground := Ground.phase }, { on := 13, ground := Ground.phase }, { on := 14, ground := Ground.phase }, { on := 15, ground := Ground.phase }, { on := 16, ground := Ground.phase }, { on := 17, ground := Ground.phase }, { on := 18, ground := Ground.phase }, { on := 19, ground := Ground.phase }, { on := 20, ground := Ground.phase }, { on := 21, ground := Ground.phase }, { on := 22, ground := Ground.phase }, { on := 23, ground := Ground.phase }, { on := 24, ground := Ground.phase }, { on := 25, ground := Ground.phase }, { on := 26, ground := Ground.phase }, { on := 27, ground := Ground.phase }, { on := 28, ground := Ground.phase }, { on := 29, ground := Ground.phase }, { on := 30, ground := Ground.phase }, { on := 31, ground := Ground.phase }, { on := 32, ground := Ground.phase }, { on := 33, ground := Ground.phase }, { on := 34, ground := Ground.phase }, { on := 35, ground := Ground.phase }, { on := 36, ground := Ground.phase }], guard := none }) (v := ?_) rfl (by kernel_rfl) (by kernel_rfl) (by kernel_rfl) (fun _ _ _ h => h) (Or.inl ⟨by rfl, ?_⟩) hHeld ?_
  rotate_left 1
  · (intro w0 hSw; (try dsimp only at hSw); go_simp; try with_reducible rfl)
  simp only [Act.put, List.setIfInBounds_toArray, List.set_cons_zero, List.set_cons_succ]
  refine wpAnyH_done (by kernel_rfl) ?_ _
  refine NoPanic.normal ?_
  go_wp2_with fail
  go_ret
  exact ⟨rfl, hk.out.1.bel⟩

theorem signs_any (a : E5) (w : World) (ha : a.ok) : Calls Try.prog 4 #[a.v] w fun e w' => e = .returned (.bool true) ∧ Below w.heap.size w w' := by
  by_cases hz : a.n % Fm.P = 0
  · exact signs_zero a w ha hz
  · by_cases hp : a.n % Fm.P % 2 = 1
    · exact signs_odd a w ha hz hp
    · exact signs_even a w ha hz (by omega)
end Go.Proofs.Ytalalgppdhpfiab
