import Derived.Test.YtnbcfchbhappeaaDoorSum
import Derived.Deep.RegionHeld3
namespace Go.Proofs.YtnbcfchbhappeaaDoor.Fe
open Go.RowKit

theorem wd19 {x : Int} (h : Fm.Ls x) : Fm.Wd (19 * x) := by unfold Fm.Ls at h; unfold Fm.Wd; omega
theorem wd38 {x : Int} (h : Fm.Ls x) : Fm.Wd (38 * x) := by unfold Fm.Ls at h; unfold Fm.Wd; omega
theorem wd2 {x : Int} (h : Fm.Ls x) : Fm.Wd (2 * x) := by unfold Fm.Ls at h; unfold Fm.Wd; omega
theorem wd1 {x : Int} (h : Fm.Ls x) : Fm.Wd x := by unfold Fm.Ls at h; unfold Fm.Wd; omega

theorem prod_bd {x y : Int} (hx : 0 ≤ x) (hx1 : x ≤ 85568392930000858) (hy : Fm.Ls y) : 0 ≤ x * y ∧ x * y ≤ 192682891279553179480585996861478 := by
  unfold Fm.Ls at hy
  refine ⟨Int.mul_nonneg hx hy.1, ?_⟩
  have := Int.mul_le_mul hx1 hy.2 hy.1 (by omega)
  omega

theorem cell_keep {w1 w2 : World} {a : Addr} {v : Value} (h : w1.cell? a = some v) (hb : Below w1.heap.size w1 w2) : w2.cell? a = some v :=
  (hb.cell (World.block_lt_of_cell? w1 a h)).trans h

theorem new20 (w : World) (x y : Value) (t : TypeId) : (w.alloc (.cells #[x, y] t)).drew.cell? ⟨w.heap.size, 0, none⟩ = some x := by go_simp
theorem new21 (w : World) (x y : Value) (t : TypeId) : (w.alloc (.cells #[x, y] t)).drew.cell? ⟨w.heap.size, 1, none⟩ = some y := by go_simp

theorem cr_n (a : E5) : Fm.V (Fm.cr 0 a.x0 a.x1 a.x2 a.x3 a.x4) (Fm.cr 1 a.x0 a.x1 a.x2 a.x3 a.x4) (Fm.cr 2 a.x0 a.x1 a.x2 a.x3 a.x4) (Fm.cr 3 a.x0 a.x1 a.x2 a.x3 a.x4) (Fm.cr 4 a.x0 a.x1 a.x2 a.x3 a.x4) % Fm.P = a.n % Fm.P := by
  rw [Fm.cr_V, Fm.mod_sub_mul]; rfl

theorem mul_cong {a b c d : Int} (h : a % Fm.P = c % Fm.P) (k : b % Fm.P = d % Fm.P) : (a * b) % Fm.P = (c * d) % Fm.P := by
  rw [Int.mul_emod, h, k, ← Int.mul_emod]

theorem mul_fin (r0 r1 r2 r3 r4 s0 s1 s2 s3 s4 : Int) (p0 : Fm.Ls r0) (p1 : Fm.Ls r1) (p2 : Fm.Ls r2) (p3 : Fm.Ls r3) (p4 : Fm.Ls r4) (q0 : Fm.Ls s0) (q1 : Fm.Ls s1) (q2 : Fm.Ls s2) (q3 : Fm.Ls s3) (q4 : Fm.Ls s4)
    (N : Int) (hN : (Fm.V r0 r1 r2 r3 r4 * Fm.V s0 s1 s2 s3 s4) % Fm.P = N % Fm.P) (w : World) :
    Calls Tryd.prog 35 #[
      .int .u64 ((r0 * s0 + 19 * r1 * s4 + 19 * r2 * s3 + 19 * r3 * s2 + 19 * r4 * s1) % 2251799813685248 + 19 * ((r0 * s4 + r1 * s3 + r2 * s2 + r3 * s1 + r4 * s0) / 2251799813685248)),
      .int .u64 ((r0 * s1 + r1 * s0 + 19 * r2 * s4 + 19 * r3 * s3 + 19 * r4 * s2) % 2251799813685248 + (r0 * s0 + 19 * r1 * s4 + 19 * r2 * s3 + 19 * r3 * s2 + 19 * r4 * s1) / 2251799813685248),
      .int .u64 ((r0 * s2 + r1 * s1 + r2 * s0 + 19 * r3 * s4 + 19 * r4 * s3) % 2251799813685248 + (r0 * s1 + r1 * s0 + 19 * r2 * s4 + 19 * r3 * s3 + 19 * r4 * s2) / 2251799813685248),
      .int .u64 ((r0 * s3 + r1 * s2 + r2 * s1 + r3 * s0 + 19 * r4 * s4) % 2251799813685248 + (r0 * s2 + r1 * s1 + r2 * s0 + 19 * r3 * s4 + 19 * r4 * s3) / 2251799813685248),
      .int .u64 ((r0 * s4 + r1 * s3 + r2 * s2 + r3 * s1 + r4 * s0) % 2251799813685248 + (r0 * s3 + r1 * s2 + r2 * s1 + r3 * s0 + 19 * r4 * s4) / 2251799813685248)] w
      fun e w' => ∃ r : E5, e = .returned (.tuple #[.int .u64 r.x0, .int .u64 r.x1, .int .u64 r.x2, .int .u64 r.x3, .int .u64 r.x4]) ∧ r.is N ∧ w' = w := by
  obtain ⟨b0, b1, b2, b3, b4⟩ := Fm.m_bd r0 r1 r2 r3 r4 s0 s1 s2 s3 s4 p0 p1 p2 p3 p4 q0 q1 q2 q3 q4
  have hv := Fm.mul_V r0 r1 r2 r3 r4 s0 s1 s2 s3 s4
  have hw := fun i => Fm.cr_wd i _ _ _ _ _ b0 b1 b2 b3 b4
  have hc := Fm.cr_V (Fm.m0 r0 r1 r2 r3 r4 s0 s1 s2 s3 s4) (Fm.m1 r0 r1 r2 r3 r4 s0 s1 s2 s3 s4) (Fm.m2 r0 r1 r2 r3 r4 s0 s1 s2 s3 s4) (Fm.m3 r0 r1 r2 r3 r4 s0 s1 s2 s3 s4) (Fm.m4 r0 r1 r2 r3 r4 s0 s1 s2 s3 s4)
  have h1 := congrArg (fun z => z % Fm.P) hc
  rw [Fm.mod_sub_mul, hv, Fm.mod_sub_mul, hN] at h1
  exact ret5 h1 (least_raw _ _ _ _ _ w (hw 0) (hw 1) (hw 2) (hw 3) (hw 4))

theorem sq_fin (r0 r1 r2 r3 r4 : Int) (p0 : Fm.Ls r0) (p1 : Fm.Ls r1) (p2 : Fm.Ls r2) (p3 : Fm.Ls r3) (p4 : Fm.Ls r4)
    (N : Int) (hN : (Fm.V r0 r1 r2 r3 r4 * Fm.V r0 r1 r2 r3 r4) % Fm.P = N % Fm.P) (w : World) :
    Calls Tryd.prog 35 #[
      .int .u64 ((r0 * r0 + 38 * r1 * r4 + 38 * r2 * r3) % 2251799813685248 + 19 * ((2 * r0 * r4 + 2 * r1 * r3 + r2 * r2) / 2251799813685248)),
      .int .u64 ((2 * r0 * r1 + 38 * r2 * r4 + 19 * r3 * r3) % 2251799813685248 + (r0 * r0 + 38 * r1 * r4 + 38 * r2 * r3) / 2251799813685248),
      .int .u64 ((2 * r0 * r2 + r1 * r1 + 38 * r3 * r4) % 2251799813685248 + (2 * r0 * r1 + 38 * r2 * r4 + 19 * r3 * r3) / 2251799813685248),
      .int .u64 ((2 * r0 * r3 + 2 * r1 * r2 + 19 * r4 * r4) % 2251799813685248 + (2 * r0 * r2 + r1 * r1 + 38 * r3 * r4) / 2251799813685248),
      .int .u64 ((2 * r0 * r4 + 2 * r1 * r3 + r2 * r2) % 2251799813685248 + (2 * r0 * r3 + 2 * r1 * r2 + 19 * r4 * r4) / 2251799813685248)] w
      fun e w' => ∃ r : E5, e = .returned (.tuple #[.int .u64 r.x0, .int .u64 r.x1, .int .u64 r.x2, .int .u64 r.x3, .int .u64 r.x4]) ∧ r.is N ∧ w' = w := by
  obtain ⟨e0, e1, e2, e3, e4⟩ := Fm.sq_m r0 r1 r2 r3 r4
  have := mul_fin r0 r1 r2 r3 r4 r0 r1 r2 r3 r4 p0 p1 p2 p3 p4 p0 p1 p2 p3 p4 N hN w
  rw [e0, e1, e2, e3, e4]
  exact this

set_option maxRecDepth 100000 in
set_option maxHeartbeats 16000000 in
theorem Mul_any (a b : E5) (w : World) (ha : a.ok) (hb : b.ok) :
    Calls Tryd.prog 17 #[a.v, b.v] w fun e w' => ∃ r : E5, e = .returned r.v ∧ r.is (a.n * b.n) ∧ Below w.heap.size w w' := by
  have c1 := fun w => loose_any a w ha
  have l1 := fun i => Fm.cr_ls i _ _ _ _ _ ha.1 ha.2.1 ha.2.2.1 ha.2.2.2.1 ha.2.2.2.2
  have p0 := l1 0; have p1 := l1 1; have p2 := l1 2; have p3 := l1 3; have p4 := l1 4
  have va := cr_n a
  have c2 := fun w => loose_any b w hb
  have l2 := fun i => Fm.cr_ls i _ _ _ _ _ hb.1 hb.2.1 hb.2.2.1 hb.2.2.2.1 hb.2.2.2.2
  have q0 := l2 0; have q1 := l2 1; have q2 := l2 2; have q3 := l2 3; have q4 := l2 4
  have vb := cr_n b
  clear l1 ha l2 hb
  generalize Fm.cr 0 a.x0 a.x1 a.x2 a.x3 a.x4 = r0 at *
  generalize Fm.cr 1 a.x0 a.x1 a.x2 a.x3 a.x4 = r1 at *
  generalize Fm.cr 2 a.x0 a.x1 a.x2 a.x3 a.x4 = r2 at *
  generalize Fm.cr 3 a.x0 a.x1 a.x2 a.x3 a.x4 = r3 at *
  generalize Fm.cr 4 a.x0 a.x1 a.x2 a.x3 a.x4 = r4 at *
  generalize Fm.cr 0 b.x0 b.x1 b.x2 b.x3 b.x4 = s0 at *
  generalize Fm.cr 1 b.x0 b.x1 b.x2 b.x3 b.x4 = s1 at *
  generalize Fm.cr 2 b.x0 b.x1 b.x2 b.x3 b.x4 = s2 at *
  generalize Fm.cr 3 b.x0 b.x1 b.x2 b.x3 b.x4 = s3 at *
  generalize Fm.cr 4 b.x0 b.x1 b.x2 b.x3 b.x4 = s4 at *
  have fin := mul_fin r0 r1 r2 r3 r4 s0 s1 s2 s3 s4 p0 p1 p2 p3 p4 q0 q1 q2 q3 q4 (a.n * b.n) (mul_cong va vb)
  have P0 := hidden p0; have P1 := hidden p1; have P2 := hidden p2; have P3 := hidden p3; have P4 := hidden p4
  have Q0 := hidden q0; have Q1 := hidden q1; have Q2 := hidden q2; have Q3 := hidden q3; have Q4 := hidden q4
  unfold Fm.Ls at p0 p1 p2 p3 p4 q0 q1 q2 q3 q4
  have HB := hidden (And.intro (prod_bd (x := r0) (y := s0) (by omega) (by omega) Q0.out) (And.intro (prod_bd (x := (19 * r1)) (y := s4) (by omega) (by omega) Q4.out) (And.intro (prod_bd (x := (19 * r2)) (y := s3) (by omega) (by omega) Q3.out) (And.intro (prod_bd (x := (19 * r3)) (y := s2) (by omega) (by omega) Q2.out) (And.intro (prod_bd (x := (19 * r4)) (y := s1) (by omega) (by omega) Q1.out) (And.intro (prod_bd (x := r0) (y := s1) (by omega) (by omega) Q1.out) (And.intro (prod_bd (x := r1) (y := s0) (by omega) (by omega) Q0.out) (And.intro (prod_bd (x := (19 * r2)) (y := s4) (by omega) (by omega) Q4.out) (And.intro (prod_bd (x := (19 * r3)) (y := s3) (by omega) (by omega) Q3.out) (And.intro (prod_bd (x := (19 * r4)) (y := s2) (by omega) (by omega) Q2.out) (And.intro (prod_bd (x := r0) (y := s2) (by omega) (by omega) Q2.out) (And.intro (prod_bd (x := r1) (y := s1) (by omega) (by omega) Q1.out) (And.intro (prod_bd (x := r2) (y := s0) (by omega) (by omega) Q0.out) (And.intro (prod_bd (x := (19 * r3)) (y := s4) (by omega) (by omega) Q4.out) (And.intro (prod_bd (x := (19 * r4)) (y := s3) (by omega) (by omega) Q3.out) (And.intro (prod_bd (x := r0) (y := s3) (by omega) (by omega) Q3.out) (And.intro (prod_bd (x := r1) (y := s2) (by omega) (by omega) Q2.out) (And.intro (prod_bd (x := r2) (y := s1) (by omega) (by omega) Q1.out) (And.intro (prod_bd (x := r3) (y := s0) (by omega) (by omega) Q0.out) (And.intro (prod_bd (x := (19 * r4)) (y := s4) (by omega) (by omega) Q4.out) (And.intro (prod_bd (x := r0) (y := s4) (by omega) (by omega) Q4.out) (And.intro (prod_bd (x := r1) (y := s3) (by omega) (by omega) Q3.out) (And.intro (prod_bd (x := r2) (y := s2) (by omega) (by omega) Q2.out) (And.intro (prod_bd (x := r3) (y := s1) (by omega) (by omega) Q1.out) (prod_bd (x := r4) (y := s0) (by omega) (by omega) Q0.out)))))))))))))))))))))))))
  have C1 := hidden c1
  have C2 := hidden c2
  have FIN := hidden fin
  clear c1 fin va c2 vb
  generalize a.n * b.n = N at *
  simp only [E5.v]
  go_enter Tryd.func17, Tryd.ntmps17
  go_wp2_with fail
  refine (C1.out _).mono ?_
  rintro e w1 ⟨rfl, hb1⟩
  clear C1
  obtain ⟨hc1, hf1⟩ := bcell hb1
  have hA : Below w.heap.size w w1 := bl_trans (bl_alloc3 w _ _ _) hb1
  have HR0 : Hid (w1.cell? ⟨w.heap.size + 1 + 1, 0, none⟩ = some (.int .u64 0)) := hidden (by rw [hc1 (w.heap.size + 1 + 1) 0 (by simp)]; go_simp)
  have HF0 : Hid (w1.frozen? ⟨w.heap.size + 1 + 1, 0, none⟩ = false) := hidden (by rw [hf1 (w.heap.size + 1 + 1) 0 (by simp)]; go_simp)
  have HR1 : Hid (w1.cell? ⟨w.heap.size + 1 + 1, 1, none⟩ = some (.int .u64 0)) := hidden (by rw [hc1 (w.heap.size + 1 + 1) 1 (by simp)]; go_simp)
  have HF1 : Hid (w1.frozen? ⟨w.heap.size + 1 + 1, 1, none⟩ = false) := hidden (by rw [hf1 (w.heap.size + 1 + 1) 1 (by simp)]; go_simp)
  have HR2 : Hid (w1.cell? ⟨w.heap.size + 1 + 1, 2, none⟩ = some (.int .u64 0)) := hidden (by rw [hc1 (w.heap.size + 1 + 1) 2 (by simp)]; go_simp)
  have HF2 : Hid (w1.frozen? ⟨w.heap.size + 1 + 1, 2, none⟩ = false) := hidden (by rw [hf1 (w.heap.size + 1 + 1) 2 (by simp)]; go_simp)
  have HR3 : Hid (w1.cell? ⟨w.heap.size + 1 + 1, 3, none⟩ = some (.int .u64 0)) := hidden (by rw [hc1 (w.heap.size + 1 + 1) 3 (by simp)]; go_simp)
  have HF3 : Hid (w1.frozen? ⟨w.heap.size + 1 + 1, 3, none⟩ = false) := hidden (by rw [hf1 (w.heap.size + 1 + 1) 3 (by simp)]; go_simp)
  have HR4 : Hid (w1.cell? ⟨w.heap.size + 1 + 1, 4, none⟩ = some (.int .u64 0)) := hidden (by rw [hc1 (w.heap.size + 1 + 1) 4 (by simp)]; go_simp)
  have HF4 : Hid (w1.frozen? ⟨w.heap.size + 1 + 1, 4, none⟩ = false) := hidden (by rw [hf1 (w.heap.size + 1 + 1) 4 (by simp)]; go_simp)
  have HZ : Hid (w.heap.size + 1 + 1 < w1.heap.size) := hidden (by have := hb1.size; simp at this; omega)
  go_wp2_with fail
  refine (C2.out _).mono ?_
  rintro e w2 ⟨rfl, hb2⟩
  clear C2 hc1 hf1 hb1
  have hB2 : Below w1.heap.size w1 w2 := hb2
  clear hb2
  go_wp2_with fail
  refine (times_any r0 s0 _ (wd1 P0.out) (wd1 Q0.out)).mono ?_
  rintro e w3 ⟨rfl, hb3⟩
  have hB3 := bl_trans hB2 hb3
  clear hB2
  clear hb3
  go_wp2_with fail
  refine (plus_any (r0 * s0) (19 * r1) s4 _ (by have := HB.out; omega) (wd19 P1.out) (wd1 Q4.out) (by have := HB.out; omega)).mono ?_
  rintro e w4 ⟨rfl, hb4⟩
  have hB4 := bl_trans hB3 hb4
  clear hB3
  clear hb4
  go_wp2_with fail
  refine (plus_any (r0 * s0 + 19 * r1 * s4) (19 * r2) s3 _ (by have := HB.out; omega) (wd19 P2.out) (wd1 Q3.out) (by have := HB.out; omega)).mono ?_
  rintro e w5 ⟨rfl, hb5⟩
  have hB5 := bl_trans hB4 hb5
  clear hB4
  clear hb5
  go_wp2_with fail
  refine (plus_any (r0 * s0 + 19 * r1 * s4 + 19 * r2 * s3) (19 * r3) s2 _ (by have := HB.out; omega) (wd19 P3.out) (wd1 Q2.out) (by have := HB.out; omega)).mono ?_
  rintro e w6 ⟨rfl, hb6⟩
  have hB6 := bl_trans hB5 hb6
  clear hB5
  clear hb6
  go_wp2_with fail
  refine (plus_any (r0 * s0 + 19 * r1 * s4 + 19 * r2 * s3 + 19 * r3 * s2) (19 * r4) s1 _ (by have := HB.out; omega) (wd19 P4.out) (wd1 Q1.out) (by have := HB.out; omega)).mono ?_
  rintro e w7 ⟨rfl, hb7⟩
  have hB7 := bl_trans hB6 hb7
  clear hB6
  clear hb7
  have LB0 := hidden (fun w => limb_any (r0 * s0 + 19 * r1 * s4 + 19 * r2 * s3 + 19 * r3 * s2 + 19 * r4 * s1) w)
  have OV0 := hidden (fun w => over_any (r0 * s0 + 19 * r1 * s4 + 19 * r2 * s3 + 19 * r3 * s2 + 19 * r4 * s1) w (by have := HB.out; omega) (by have := HB.out; omega))
  simp only [wv] at LB0 OV0 ⊢
  generalize (r0 * s0 + 19 * r1 * s4 + 19 * r2 * s3 + 19 * r3 * s2 + 19 * r4 * s1) / 18446744073709551616 = h0 at *
  generalize (r0 * s0 + 19 * r1 * s4 + 19 * r2 * s3 + 19 * r3 * s2 + 19 * r4 * s1) % 18446744073709551616 = m0 at *
  have bx0 : 0 ≤ (r0 * s0 + 19 * r1 * s4 + 19 * r2 * s3 + 19 * r3 * s2 + 19 * r4 * s1) % 2251799813685248 ∧ (r0 * s0 + 19 * r1 * s4 + 19 * r2 * s3 + 19 * r3 * s2 + 19 * r4 * s1) % 2251799813685248 < 2251799813685248 := by omega
  have by0 : 0 ≤ (r0 * s0 + 19 * r1 * s4 + 19 * r2 * s3 + 19 * r3 * s2 + 19 * r4 * s1) / 2251799813685248 ∧ (r0 * s0 + 19 * r1 * s4 + 19 * r2 * s3 + 19 * r3 * s2 + 19 * r4 * s1) / 2251799813685248 ≤ 430000000000000000 := by have := HB.out; omega
  generalize (r0 * s0 + 19 * r1 * s4 + 19 * r2 * s3 + 19 * r3 * s2 + 19 * r4 * s1) % 2251799813685248 = x0 at *
  generalize (r0 * s0 + 19 * r1 * s4 + 19 * r2 * s3 + 19 * r3 * s2 + 19 * r4 * s1) / 2251799813685248 = y0 at *
  go_wp2_with fail
  refine (times_any r0 s1 _ (wd1 P0.out) (wd1 Q1.out)).mono ?_
  rintro e w8 ⟨rfl, hb8⟩
  have hB8 := bl_trans (bl_trans hB7 (bl_alloc _ _)) hb8
  clear hB7
  have hG0x8 := hb8
  clear hb8
  go_wp2_with fail
  refine (plus_any (r0 * s1) r1 s0 _ (by have := HB.out; omega) (wd1 P1.out) (wd1 Q0.out) (by have := HB.out; omega)).mono ?_
  rintro e w9 ⟨rfl, hb9⟩
  have hB9 := bl_trans hB8 hb9
  clear hB8
  have hG0x9 := bl_trans hG0x8 hb9
  clear hG0x8
  clear hb9
  go_wp2_with fail
  refine (plus_any (r0 * s1 + r1 * s0) (19 * r2) s4 _ (by have := HB.out; omega) (wd19 P2.out) (wd1 Q4.out) (by have := HB.out; omega)).mono ?_
  rintro e w10 ⟨rfl, hb10⟩
  have hB10 := bl_trans hB9 hb10
  clear hB9
  have hG0x10 := bl_trans hG0x9 hb10
  clear hG0x9
  clear hb10
  go_wp2_with fail
  refine (plus_any (r0 * s1 + r1 * s0 + 19 * r2 * s4) (19 * r3) s3 _ (by have := HB.out; omega) (wd19 P3.out) (wd1 Q3.out) (by have := HB.out; omega)).mono ?_
  rintro e w11 ⟨rfl, hb11⟩
  have hB11 := bl_trans hB10 hb11
  clear hB10
  have hG0x11 := bl_trans hG0x10 hb11
  clear hG0x10
  clear hb11
  go_wp2_with fail
  refine (plus_any (r0 * s1 + r1 * s0 + 19 * r2 * s4 + 19 * r3 * s3) (19 * r4) s2 _ (by have := HB.out; omega) (wd19 P4.out) (wd1 Q2.out) (by have := HB.out; omega)).mono ?_
  rintro e w12 ⟨rfl, hb12⟩
  have hB12 := bl_trans hB11 hb12
  clear hB11
  have hG0x12 := bl_trans hG0x11 hb12
  clear hG0x11
  clear hb12
  have LB1 := hidden (fun w => limb_any (r0 * s1 + r1 * s0 + 19 * r2 * s4 + 19 * r3 * s3 + 19 * r4 * s2) w)
  have OV1 := hidden (fun w => over_any (r0 * s1 + r1 * s0 + 19 * r2 * s4 + 19 * r3 * s3 + 19 * r4 * s2) w (by have := HB.out; omega) (by have := HB.out; omega))
  simp only [wv] at LB1 OV1 ⊢
  generalize (r0 * s1 + r1 * s0 + 19 * r2 * s4 + 19 * r3 * s3 + 19 * r4 * s2) / 18446744073709551616 = h1 at *
  generalize (r0 * s1 + r1 * s0 + 19 * r2 * s4 + 19 * r3 * s3 + 19 * r4 * s2) % 18446744073709551616 = m1 at *
  have bx1 : 0 ≤ (r0 * s1 + r1 * s0 + 19 * r2 * s4 + 19 * r3 * s3 + 19 * r4 * s2) % 2251799813685248 ∧ (r0 * s1 + r1 * s0 + 19 * r2 * s4 + 19 * r3 * s3 + 19 * r4 * s2) % 2251799813685248 < 2251799813685248 := by omega
  have by1 : 0 ≤ (r0 * s1 + r1 * s0 + 19 * r2 * s4 + 19 * r3 * s3 + 19 * r4 * s2) / 2251799813685248 ∧ (r0 * s1 + r1 * s0 + 19 * r2 * s4 + 19 * r3 * s3 + 19 * r4 * s2) / 2251799813685248 ≤ 430000000000000000 := by have := HB.out; omega
  generalize (r0 * s1 + r1 * s0 + 19 * r2 * s4 + 19 * r3 * s3 + 19 * r4 * s2) % 2251799813685248 = x1 at *
  generalize (r0 * s1 + r1 * s0 + 19 * r2 * s4 + 19 * r3 * s3 + 19 * r4 * s2) / 2251799813685248 = y1 at *
  go_wp2_with fail
  refine (times_any r0 s2 _ (wd1 P0.out) (wd1 Q2.out)).mono ?_
  rintro e w13 ⟨rfl, hb13⟩
  have hB13 := bl_trans (bl_trans hB12 (bl_alloc _ _)) hb13
  clear hB12
  have hG0x13 := bl_trans (bl_trans hG0x12 (bl_alloc _ _)) hb13
  clear hG0x12
  have hG1x13 := hb13
  clear hb13
  go_wp2_with fail
  refine (plus_any (r0 * s2) r1 s1 _ (by have := HB.out; omega) (wd1 P1.out) (wd1 Q1.out) (by have := HB.out; omega)).mono ?_
  rintro e w14 ⟨rfl, hb14⟩
  have hB14 := bl_trans hB13 hb14
  clear hB13
  have hG0x14 := bl_trans hG0x13 hb14
  clear hG0x13
  have hG1x14 := bl_trans hG1x13 hb14
  clear hG1x13
  clear hb14
  go_wp2_with fail
  refine (plus_any (r0 * s2 + r1 * s1) r2 s0 _ (by have := HB.out; omega) (wd1 P2.out) (wd1 Q0.out) (by have := HB.out; omega)).mono ?_
  rintro e w15 ⟨rfl, hb15⟩
  have hB15 := bl_trans hB14 hb15
  clear hB14
  have hG0x15 := bl_trans hG0x14 hb15
  clear hG0x14
  have hG1x15 := bl_trans hG1x14 hb15
  clear hG1x14
  clear hb15
  go_wp2_with fail
  refine (plus_any (r0 * s2 + r1 * s1 + r2 * s0) (19 * r3) s4 _ (by have := HB.out; omega) (wd19 P3.out) (wd1 Q4.out) (by have := HB.out; omega)).mono ?_
  rintro e w16 ⟨rfl, hb16⟩
  have hB16 := bl_trans hB15 hb16
  clear hB15
  have hG0x16 := bl_trans hG0x15 hb16
  clear hG0x15
  have hG1x16 := bl_trans hG1x15 hb16
  clear hG1x15
  clear hb16
  go_wp2_with fail
  refine (plus_any (r0 * s2 + r1 * s1 + r2 * s0 + 19 * r3 * s4) (19 * r4) s3 _ (by have := HB.out; omega) (wd19 P4.out) (wd1 Q3.out) (by have := HB.out; omega)).mono ?_
  rintro e w17 ⟨rfl, hb17⟩
  have hB17 := bl_trans hB16 hb17
  clear hB16
  have hG0x17 := bl_trans hG0x16 hb17
  clear hG0x16
  have hG1x17 := bl_trans hG1x16 hb17
  clear hG1x16
  clear hb17
  have LB2 := hidden (fun w => limb_any (r0 * s2 + r1 * s1 + r2 * s0 + 19 * r3 * s4 + 19 * r4 * s3) w)
  have OV2 := hidden (fun w => over_any (r0 * s2 + r1 * s1 + r2 * s0 + 19 * r3 * s4 + 19 * r4 * s3) w (by have := HB.out; omega) (by have := HB.out; omega))
  simp only [wv] at LB2 OV2 ⊢
  generalize (r0 * s2 + r1 * s1 + r2 * s0 + 19 * r3 * s4 + 19 * r4 * s3) / 18446744073709551616 = h2 at *
  generalize (r0 * s2 + r1 * s1 + r2 * s0 + 19 * r3 * s4 + 19 * r4 * s3) % 18446744073709551616 = m2 at *
  have bx2 : 0 ≤ (r0 * s2 + r1 * s1 + r2 * s0 + 19 * r3 * s4 + 19 * r4 * s3) % 2251799813685248 ∧ (r0 * s2 + r1 * s1 + r2 * s0 + 19 * r3 * s4 + 19 * r4 * s3) % 2251799813685248 < 2251799813685248 := by omega
  have by2 : 0 ≤ (r0 * s2 + r1 * s1 + r2 * s0 + 19 * r3 * s4 + 19 * r4 * s3) / 2251799813685248 ∧ (r0 * s2 + r1 * s1 + r2 * s0 + 19 * r3 * s4 + 19 * r4 * s3) / 2251799813685248 ≤ 430000000000000000 := by have := HB.out; omega
  generalize (r0 * s2 + r1 * s1 + r2 * s0 + 19 * r3 * s4 + 19 * r4 * s3) % 2251799813685248 = x2 at *
  generalize (r0 * s2 + r1 * s1 + r2 * s0 + 19 * r3 * s4 + 19 * r4 * s3) / 2251799813685248 = y2 at *
  go_wp2_with fail
  refine (times_any r0 s3 _ (wd1 P0.out) (wd1 Q3.out)).mono ?_
  rintro e w18 ⟨rfl, hb18⟩
  have hB18 := bl_trans (bl_trans hB17 (bl_alloc _ _)) hb18
  clear hB17
  have hG0x18 := bl_trans (bl_trans hG0x17 (bl_alloc _ _)) hb18
  clear hG0x17
  have hG1x18 := bl_trans (bl_trans hG1x17 (bl_alloc _ _)) hb18
  clear hG1x17
  have hG2x18 := hb18
  clear hb18
  go_wp2_with fail
  refine (plus_any (r0 * s3) r1 s2 _ (by have := HB.out; omega) (wd1 P1.out) (wd1 Q2.out) (by have := HB.out; omega)).mono ?_
  rintro e w19 ⟨rfl, hb19⟩
  have hB19 := bl_trans hB18 hb19
  clear hB18
  have hG0x19 := bl_trans hG0x18 hb19
  clear hG0x18
  have hG1x19 := bl_trans hG1x18 hb19
  clear hG1x18
  have hG2x19 := bl_trans hG2x18 hb19
  clear hG2x18
  clear hb19
  go_wp2_with fail
  refine (plus_any (r0 * s3 + r1 * s2) r2 s1 _ (by have := HB.out; omega) (wd1 P2.out) (wd1 Q1.out) (by have := HB.out; omega)).mono ?_
  rintro e w20 ⟨rfl, hb20⟩
  have hB20 := bl_trans hB19 hb20
  clear hB19
  have hG0x20 := bl_trans hG0x19 hb20
  clear hG0x19
  have hG1x20 := bl_trans hG1x19 hb20
  clear hG1x19
  have hG2x20 := bl_trans hG2x19 hb20
  clear hG2x19
  clear hb20
  go_wp2_with fail
  refine (plus_any (r0 * s3 + r1 * s2 + r2 * s1) r3 s0 _ (by have := HB.out; omega) (wd1 P3.out) (wd1 Q0.out) (by have := HB.out; omega)).mono ?_
  rintro e w21 ⟨rfl, hb21⟩
  have hB21 := bl_trans hB20 hb21
  clear hB20
  have hG0x21 := bl_trans hG0x20 hb21
  clear hG0x20
  have hG1x21 := bl_trans hG1x20 hb21
  clear hG1x20
  have hG2x21 := bl_trans hG2x20 hb21
  clear hG2x20
  clear hb21
  go_wp2_with fail
  refine (plus_any (r0 * s3 + r1 * s2 + r2 * s1 + r3 * s0) (19 * r4) s4 _ (by have := HB.out; omega) (wd19 P4.out) (wd1 Q4.out) (by have := HB.out; omega)).mono ?_
  rintro e w22 ⟨rfl, hb22⟩
  have hB22 := bl_trans hB21 hb22
  clear hB21
  have hG0x22 := bl_trans hG0x21 hb22
  clear hG0x21
  have hG1x22 := bl_trans hG1x21 hb22
  clear hG1x21
  have hG2x22 := bl_trans hG2x21 hb22
  clear hG2x21
  clear hb22
  have LB3 := hidden (fun w => limb_any (r0 * s3 + r1 * s2 + r2 * s1 + r3 * s0 + 19 * r4 * s4) w)
  have OV3 := hidden (fun w => over_any (r0 * s3 + r1 * s2 + r2 * s1 + r3 * s0 + 19 * r4 * s4) w (by have := HB.out; omega) (by have := HB.out; omega))
  simp only [wv] at LB3 OV3 ⊢
  generalize (r0 * s3 + r1 * s2 + r2 * s1 + r3 * s0 + 19 * r4 * s4) / 18446744073709551616 = h3 at *
  generalize (r0 * s3 + r1 * s2 + r2 * s1 + r3 * s0 + 19 * r4 * s4) % 18446744073709551616 = m3 at *
  have bx3 : 0 ≤ (r0 * s3 + r1 * s2 + r2 * s1 + r3 * s0 + 19 * r4 * s4) % 2251799813685248 ∧ (r0 * s3 + r1 * s2 + r2 * s1 + r3 * s0 + 19 * r4 * s4) % 2251799813685248 < 2251799813685248 := by omega
  have by3 : 0 ≤ (r0 * s3 + r1 * s2 + r2 * s1 + r3 * s0 + 19 * r4 * s4) / 2251799813685248 ∧ (r0 * s3 + r1 * s2 + r2 * s1 + r3 * s0 + 19 * r4 * s4) / 2251799813685248 ≤ 430000000000000000 := by have := HB.out; omega
  generalize (r0 * s3 + r1 * s2 + r2 * s1 + r3 * s0 + 19 * r4 * s4) % 2251799813685248 = x3 at *
  generalize (r0 * s3 + r1 * s2 + r2 * s1 + r3 * s0 + 19 * r4 * s4) / 2251799813685248 = y3 at *
  go_wp2_with fail
  refine (times_any r0 s4 _ (wd1 P0.out) (wd1 Q4.out)).mono ?_
  rintro e w23 ⟨rfl, hb23⟩
  have hB23 := bl_trans (bl_trans hB22 (bl_alloc _ _)) hb23
  clear hB22
  have hG0x23 := bl_trans (bl_trans hG0x22 (bl_alloc _ _)) hb23
  clear hG0x22
  have hG1x23 := bl_trans (bl_trans hG1x22 (bl_alloc _ _)) hb23
  clear hG1x22
  have hG2x23 := bl_trans (bl_trans hG2x22 (bl_alloc _ _)) hb23
  clear hG2x22
  have hG3x23 := hb23
  clear hb23
  go_wp2_with fail
  refine (plus_any (r0 * s4) r1 s3 _ (by have := HB.out; omega) (wd1 P1.out) (wd1 Q3.out) (by have := HB.out; omega)).mono ?_
  rintro e w24 ⟨rfl, hb24⟩
  have hB24 := bl_trans hB23 hb24
  clear hB23
  have hG0x24 := bl_trans hG0x23 hb24
  clear hG0x23
  have hG1x24 := bl_trans hG1x23 hb24
  clear hG1x23
  have hG2x24 := bl_trans hG2x23 hb24
  clear hG2x23
  have hG3x24 := bl_trans hG3x23 hb24
  clear hG3x23
  clear hb24
  go_wp2_with fail
  refine (plus_any (r0 * s4 + r1 * s3) r2 s2 _ (by have := HB.out; omega) (wd1 P2.out) (wd1 Q2.out) (by have := HB.out; omega)).mono ?_
  rintro e w25 ⟨rfl, hb25⟩
  have hB25 := bl_trans hB24 hb25
  clear hB24
  have hG0x25 := bl_trans hG0x24 hb25
  clear hG0x24
  have hG1x25 := bl_trans hG1x24 hb25
  clear hG1x24
  have hG2x25 := bl_trans hG2x24 hb25
  clear hG2x24
  have hG3x25 := bl_trans hG3x24 hb25
  clear hG3x24
  clear hb25
  go_wp2_with fail
  refine (plus_any (r0 * s4 + r1 * s3 + r2 * s2) r3 s1 _ (by have := HB.out; omega) (wd1 P3.out) (wd1 Q1.out) (by have := HB.out; omega)).mono ?_
  rintro e w26 ⟨rfl, hb26⟩
  have hB26 := bl_trans hB25 hb26
  clear hB25
  have hG0x26 := bl_trans hG0x25 hb26
  clear hG0x25
  have hG1x26 := bl_trans hG1x25 hb26
  clear hG1x25
  have hG2x26 := bl_trans hG2x25 hb26
  clear hG2x25
  have hG3x26 := bl_trans hG3x25 hb26
  clear hG3x25
  clear hb26
  go_wp2_with fail
  refine (plus_any (r0 * s4 + r1 * s3 + r2 * s2 + r3 * s1) r4 s0 _ (by have := HB.out; omega) (wd1 P4.out) (wd1 Q0.out) (by have := HB.out; omega)).mono ?_
  rintro e w27 ⟨rfl, hb27⟩
  have hB27 := bl_trans hB26 hb27
  clear hB26
  have hG0x27 := bl_trans hG0x26 hb27
  clear hG0x26
  have hG1x27 := bl_trans hG1x26 hb27
  clear hG1x26
  have hG2x27 := bl_trans hG2x26 hb27
  clear hG2x26
  have hG3x27 := bl_trans hG3x26 hb27
  clear hG3x26
  clear hb27
  have LB4 := hidden (fun w => limb_any (r0 * s4 + r1 * s3 + r2 * s2 + r3 * s1 + r4 * s0) w)
  have OV4 := hidden (fun w => over_any (r0 * s4 + r1 * s3 + r2 * s2 + r3 * s1 + r4 * s0) w (by have := HB.out; omega) (by have := HB.out; omega))
  simp only [wv] at LB4 OV4 ⊢
  generalize (r0 * s4 + r1 * s3 + r2 * s2 + r3 * s1 + r4 * s0) / 18446744073709551616 = h4 at *
  generalize (r0 * s4 + r1 * s3 + r2 * s2 + r3 * s1 + r4 * s0) % 18446744073709551616 = m4 at *
  have bx4 : 0 ≤ (r0 * s4 + r1 * s3 + r2 * s2 + r3 * s1 + r4 * s0) % 2251799813685248 ∧ (r0 * s4 + r1 * s3 + r2 * s2 + r3 * s1 + r4 * s0) % 2251799813685248 < 2251799813685248 := by omega
  have by4 : 0 ≤ (r0 * s4 + r1 * s3 + r2 * s2 + r3 * s1 + r4 * s0) / 2251799813685248 ∧ (r0 * s4 + r1 * s3 + r2 * s2 + r3 * s1 + r4 * s0) / 2251799813685248 ≤ 430000000000000000 := by have := HB.out; omega
  generalize (r0 * s4 + r1 * s3 + r2 * s2 + r3 * s1 + r4 * s0) % 2251799813685248 = x4 at *
  generalize (r0 * s4 + r1 * s3 + r2 * s2 + r3 * s1 + r4 * s0) / 2251799813685248 = y4 at *
  clear HB P0 P1 P2 P3 P4 Q0 Q1 Q2 Q3 Q4
  have WR0 := hidden (IntWalk.u64_in (19 * y4) (by omega))
  have WR1 := hidden (IntWalk.u64_in (x0 + 19 * y4) (by omega))
  have WR2 := hidden (IntWalk.u64_in (x1 + y0) (by omega))
  have WR3 := hidden (IntWalk.u64_in (x2 + y1) (by omega))
  have WR4 := hidden (IntWalk.u64_in (x3 + y2) (by omega))
  have WR5 := hidden (IntWalk.u64_in (x4 + y3) (by omega))
  go_wp2_with fail
  have hk00 : w27.cell? ⟨w7.heap.size, 0, none⟩ = some (.int .u64 h0) := by rw [(bcell hG0x27).1 w7.heap.size 0 (by simp)]; go_simp
  have hk01 : w27.cell? ⟨w7.heap.size, 1, none⟩ = some (.int .u64 m0) := by rw [(bcell hG0x27).1 w7.heap.size 1 (by simp)]; go_simp
  have hk10 : w27.cell? ⟨w12.heap.size, 0, none⟩ = some (.int .u64 h1) := by rw [(bcell hG1x27).1 w12.heap.size 0 (by simp)]; go_simp
  have hk11 : w27.cell? ⟨w12.heap.size, 1, none⟩ = some (.int .u64 m1) := by rw [(bcell hG1x27).1 w12.heap.size 1 (by simp)]; go_simp
  have hk20 : w27.cell? ⟨w17.heap.size, 0, none⟩ = some (.int .u64 h2) := by rw [(bcell hG2x27).1 w17.heap.size 0 (by simp)]; go_simp
  have hk21 : w27.cell? ⟨w17.heap.size, 1, none⟩ = some (.int .u64 m2) := by rw [(bcell hG2x27).1 w17.heap.size 1 (by simp)]; go_simp
  have hk30 : w27.cell? ⟨w22.heap.size, 0, none⟩ = some (.int .u64 h3) := by rw [(bcell hG3x27).1 w22.heap.size 0 (by simp)]; go_simp
  have hk31 : w27.cell? ⟨w22.heap.size, 1, none⟩ = some (.int .u64 m3) := by rw [(bcell hG3x27).1 w22.heap.size 1 (by simp)]; go_simp
  clear hG0x27
  clear hG1x27
  clear hG2x27
  clear hG3x27
  have KS : Hid (∀ w0 w2 : World, (fun w' => Below w1.heap.size w1 w' ∧ w'.cell? ⟨w7.heap.size, 0, none⟩ = some (.int .u64 h0) ∧ w'.cell? ⟨w7.heap.size, 1, none⟩ = some (.int .u64 m0) ∧ w'.cell? ⟨w12.heap.size, 0, none⟩ = some (.int .u64 h1) ∧ w'.cell? ⟨w12.heap.size, 1, none⟩ = some (.int .u64 m1) ∧ w'.cell? ⟨w17.heap.size, 0, none⟩ = some (.int .u64 h2) ∧ w'.cell? ⟨w17.heap.size, 1, none⟩ = some (.int .u64 m2) ∧ w'.cell? ⟨w22.heap.size, 0, none⟩ = some (.int .u64 h3) ∧ w'.cell? ⟨w22.heap.size, 1, none⟩ = some (.int .u64 m3) ∧ w'.cell? ⟨w27.heap.size, 0, none⟩ = some (.int .u64 h4) ∧ w'.cell? ⟨w27.heap.size, 1, none⟩ = some (.int .u64 m4)) w0 → Below w0.heap.size w0 w2 → (fun w' => Below w1.heap.size w1 w' ∧ w'.cell? ⟨w7.heap.size, 0, none⟩ = some (.int .u64 h0) ∧ w'.cell? ⟨w7.heap.size, 1, none⟩ = some (.int .u64 m0) ∧ w'.cell? ⟨w12.heap.size, 0, none⟩ = some (.int .u64 h1) ∧ w'.cell? ⟨w12.heap.size, 1, none⟩ = some (.int .u64 m1) ∧ w'.cell? ⟨w17.heap.size, 0, none⟩ = some (.int .u64 h2) ∧ w'.cell? ⟨w17.heap.size, 1, none⟩ = some (.int .u64 m2) ∧ w'.cell? ⟨w22.heap.size, 0, none⟩ = some (.int .u64 h3) ∧ w'.cell? ⟨w22.heap.size, 1, none⟩ = some (.int .u64 m3) ∧ w'.cell? ⟨w27.heap.size, 0, none⟩ = some (.int .u64 h4) ∧ w'.cell? ⟨w27.heap.size, 1, none⟩ = some (.int .u64 m4)) w2) := hidden (fun w0 w2 h hb => ⟨bl_trans h.1 hb, cell_keep (h.2.1) hb, cell_keep (h.2.2.1) hb, cell_keep (h.2.2.2.1) hb, cell_keep (h.2.2.2.2.1) hb, cell_keep (h.2.2.2.2.2.1) hb, cell_keep (h.2.2.2.2.2.2.1) hb, cell_keep (h.2.2.2.2.2.2.2.1) hb, cell_keep (h.2.2.2.2.2.2.2.2.1) hb, cell_keep (h.2.2.2.2.2.2.2.2.2.1) hb, cell_keep (h.2.2.2.2.2.2.2.2.2.2) hb⟩)
  have K0 : Hid ((fun w' => Below w1.heap.size w1 w' ∧ w'.cell? ⟨w7.heap.size, 0, none⟩ = some (.int .u64 h0) ∧ w'.cell? ⟨w7.heap.size, 1, none⟩ = some (.int .u64 m0) ∧ w'.cell? ⟨w12.heap.size, 0, none⟩ = some (.int .u64 h1) ∧ w'.cell? ⟨w12.heap.size, 1, none⟩ = some (.int .u64 m1) ∧ w'.cell? ⟨w17.heap.size, 0, none⟩ = some (.int .u64 h2) ∧ w'.cell? ⟨w17.heap.size, 1, none⟩ = some (.int .u64 m2) ∧ w'.cell? ⟨w22.heap.size, 0, none⟩ = some (.int .u64 h3) ∧ w'.cell? ⟨w22.heap.size, 1, none⟩ = some (.int .u64 m3) ∧ w'.cell? ⟨w27.heap.size, 0, none⟩ = some (.int .u64 h4) ∧ w'.cell? ⟨w27.heap.size, 1, none⟩ = some (.int .u64 m4)) (w27.alloc (.cells #[.int .u64 h4, .int .u64 m4] 64)).drew) := hidden ⟨(bl_trans hB27 (bl_alloc _ _)).drew, cell_keep hk00 (bl_alloc _ _).drew, cell_keep hk01 (bl_alloc _ _).drew, cell_keep hk10 (bl_alloc _ _).drew, cell_keep hk11 (bl_alloc _ _).drew, cell_keep hk20 (bl_alloc _ _).drew, cell_keep hk21 (bl_alloc _ _).drew, cell_keep hk30 (bl_alloc _ _).drew, cell_keep hk31 (bl_alloc _ _).drew, new20 _ _ _ _, new21 _ _ _ _⟩
  go_region_held3 (fun w' => Below w1.heap.size w1 w' ∧ w'.cell? ⟨w7.heap.size, 0, none⟩ = some (.int .u64 h0) ∧ w'.cell? ⟨w7.heap.size, 1, none⟩ = some (.int .u64 m0) ∧ w'.cell? ⟨w12.heap.size, 0, none⟩ = some (.int .u64 h1) ∧ w'.cell? ⟨w12.heap.size, 1, none⟩ = some (.int .u64 m1) ∧ w'.cell? ⟨w17.heap.size, 0, none⟩ = some (.int .u64 h2) ∧ w'.cell? ⟨w17.heap.size, 1, none⟩ = some (.int .u64 m2) ∧ w'.cell? ⟨w22.heap.size, 0, none⟩ = some (.int .u64 h3) ∧ w'.cell? ⟨w22.heap.size, 1, none⟩ = some (.int .u64 m3) ∧ w'.cell? ⟨w27.heap.size, 0, none⟩ = some (.int .u64 h4) ∧ w'.cell? ⟨w27.heap.size, 1, none⟩ = some (.int .u64 m4)) (first | exact K0.out | (refine KS.out _ _ ?_ hb; assumption) | assumption)
    (first | (go_at_call_of 36 h0; refine (LB0.out _).mono ?_; rintro e w2 ⟨rfl, hb⟩) | (go_at_call_of 37 h0; refine (OV0.out _).mono ?_; rintro e w2 ⟨rfl, hb⟩) | (go_at_call_of 36 h1; refine (LB1.out _).mono ?_; rintro e w2 ⟨rfl, hb⟩) | (go_at_call_of 37 h1; refine (OV1.out _).mono ?_; rintro e w2 ⟨rfl, hb⟩) | (go_at_call_of 36 h2; refine (LB2.out _).mono ?_; rintro e w2 ⟨rfl, hb⟩) | (go_at_call_of 37 h2; refine (OV2.out _).mono ?_; rintro e w2 ⟨rfl, hb⟩) | (go_at_call_of 36 h3; refine (LB3.out _).mono ?_; rintro e w2 ⟨rfl, hb⟩) | (go_at_call_of 37 h3; refine (OV3.out _).mono ?_; rintro e w2 ⟨rfl, hb⟩) | (go_at_call_of 36 h4; refine (LB4.out _).mono ?_; rintro e w2 ⟨rfl, hb⟩) | (go_at_call_of 37 h4; refine (OV4.out _).mono ?_; rintro e w2 ⟨rfl, hb⟩) | (go_at_call 35; rw [WR0.out, WR1.out, WR2.out, WR3.out, WR4.out, WR5.out]; refine (FIN.out _).mono ?_; rintro e w2 ⟨r, rfl, hr, rfl⟩))
  rename_i hS
  replace hS := hS.1
  obtain ⟨hcz, hfz⟩ := bcell hS
  have hz := HZ.out
  have hr0 := HR0.out; have hf0 := HF0.out
  have hr1 := HR1.out; have hf1 := HF1.out
  have hr2 := HR2.out; have hf2 := HF2.out
  have hr3 := HR3.out; have hf3 := HF3.out
  have hr4 := HR4.out; have hf4 := HF4.out
  go_wp2_with fail
  refine bodyPost_ret (v := .agg #[.int .u64 r.x0, .int .u64 r.x1, .int .u64 r.x2, .int .u64 r.x3, .int .u64 r.x4]) (by simp [results, Tryd.results17, go_sem, hcz, hz, hr0, hr1, hr2, hr3, hr4]) rfl ⟨r, rfl, hr, ?_⟩
  exact bl_set5 _ _ _ _ _ (bl_trans hA hS) (by omega)

set_option maxRecDepth 100000 in
set_option maxHeartbeats 16000000 in
theorem Square_any (a : E5) (w : World) (ha : a.ok) :
    Calls Tryd.prog 47 #[a.v] w fun e w' => ∃ r : E5, e = .returned r.v ∧ r.is (a.n * a.n) ∧ Below w.heap.size w w' := by
  have c1 := fun w => loose_any a w ha
  have l1 := fun i => Fm.cr_ls i _ _ _ _ _ ha.1 ha.2.1 ha.2.2.1 ha.2.2.2.1 ha.2.2.2.2
  have p0 := l1 0; have p1 := l1 1; have p2 := l1 2; have p3 := l1 3; have p4 := l1 4
  have va := cr_n a
  clear l1 ha
  generalize Fm.cr 0 a.x0 a.x1 a.x2 a.x3 a.x4 = r0 at *
  generalize Fm.cr 1 a.x0 a.x1 a.x2 a.x3 a.x4 = r1 at *
  generalize Fm.cr 2 a.x0 a.x1 a.x2 a.x3 a.x4 = r2 at *
  generalize Fm.cr 3 a.x0 a.x1 a.x2 a.x3 a.x4 = r3 at *
  generalize Fm.cr 4 a.x0 a.x1 a.x2 a.x3 a.x4 = r4 at *
  have fin := sq_fin r0 r1 r2 r3 r4 p0 p1 p2 p3 p4 (a.n * a.n) (mul_cong va va)
  have P0 := hidden p0; have P1 := hidden p1; have P2 := hidden p2; have P3 := hidden p3; have P4 := hidden p4
  unfold Fm.Ls at p0 p1 p2 p3 p4
  have HB := hidden (And.intro (prod_bd (x := r0) (y := r0) (by omega) (by omega) P0.out) (And.intro (prod_bd (x := (38 * r1)) (y := r4) (by omega) (by omega) P4.out) (And.intro (prod_bd (x := (38 * r2)) (y := r3) (by omega) (by omega) P3.out) (And.intro (prod_bd (x := (2 * r0)) (y := r1) (by omega) (by omega) P1.out) (And.intro (prod_bd (x := (38 * r2)) (y := r4) (by omega) (by omega) P4.out) (And.intro (prod_bd (x := (19 * r3)) (y := r3) (by omega) (by omega) P3.out) (And.intro (prod_bd (x := (2 * r0)) (y := r2) (by omega) (by omega) P2.out) (And.intro (prod_bd (x := r1) (y := r1) (by omega) (by omega) P1.out) (And.intro (prod_bd (x := (38 * r3)) (y := r4) (by omega) (by omega) P4.out) (And.intro (prod_bd (x := (2 * r0)) (y := r3) (by omega) (by omega) P3.out) (And.intro (prod_bd (x := (2 * r1)) (y := r2) (by omega) (by omega) P2.out) (And.intro (prod_bd (x := (19 * r4)) (y := r4) (by omega) (by omega) P4.out) (And.intro (prod_bd (x := (2 * r0)) (y := r4) (by omega) (by omega) P4.out) (And.intro (prod_bd (x := (2 * r1)) (y := r3) (by omega) (by omega) P3.out) (prod_bd (x := r2) (y := r2) (by omega) (by omega) P2.out)))))))))))))))
  have C1 := hidden c1
  have FIN := hidden fin
  clear c1 fin va
  generalize a.n * a.n = N at *
  simp only [E5.v]
  go_enter Tryd.func47, Tryd.ntmps47
  go_wp2_with fail
  refine (C1.out _).mono ?_
  rintro e w1 ⟨rfl, hb1⟩
  clear C1
  obtain ⟨hc1, hf1⟩ := bcell hb1
  have hA : Below w.heap.size w w1 := bl_trans (bl_alloc2 w _ _) hb1
  have HR0 : Hid (w1.cell? ⟨w.heap.size + 1, 0, none⟩ = some (.int .u64 0)) := hidden (by rw [hc1 (w.heap.size + 1) 0 (by simp)]; go_simp)
  have HF0 : Hid (w1.frozen? ⟨w.heap.size + 1, 0, none⟩ = false) := hidden (by rw [hf1 (w.heap.size + 1) 0 (by simp)]; go_simp)
  have HR1 : Hid (w1.cell? ⟨w.heap.size + 1, 1, none⟩ = some (.int .u64 0)) := hidden (by rw [hc1 (w.heap.size + 1) 1 (by simp)]; go_simp)
  have HF1 : Hid (w1.frozen? ⟨w.heap.size + 1, 1, none⟩ = false) := hidden (by rw [hf1 (w.heap.size + 1) 1 (by simp)]; go_simp)
  have HR2 : Hid (w1.cell? ⟨w.heap.size + 1, 2, none⟩ = some (.int .u64 0)) := hidden (by rw [hc1 (w.heap.size + 1) 2 (by simp)]; go_simp)
  have HF2 : Hid (w1.frozen? ⟨w.heap.size + 1, 2, none⟩ = false) := hidden (by rw [hf1 (w.heap.size + 1) 2 (by simp)]; go_simp)
  have HR3 : Hid (w1.cell? ⟨w.heap.size + 1, 3, none⟩ = some (.int .u64 0)) := hidden (by rw [hc1 (w.heap.size + 1) 3 (by simp)]; go_simp)
  have HF3 : Hid (w1.frozen? ⟨w.heap.size + 1, 3, none⟩ = false) := hidden (by rw [hf1 (w.heap.size + 1) 3 (by simp)]; go_simp)
  have HR4 : Hid (w1.cell? ⟨w.heap.size + 1, 4, none⟩ = some (.int .u64 0)) := hidden (by rw [hc1 (w.heap.size + 1) 4 (by simp)]; go_simp)
  have HF4 : Hid (w1.frozen? ⟨w.heap.size + 1, 4, none⟩ = false) := hidden (by rw [hf1 (w.heap.size + 1) 4 (by simp)]; go_simp)
  have HZ : Hid (w.heap.size + 1 < w1.heap.size) := hidden (by have := hb1.size; simp at this; omega)
  clear hc1 hf1 hb1
  have hB1 : Below w1.heap.size w1 w1 := Below.refl _ _
  go_wp2_with fail
  refine (times_any r0 r0 _ (wd1 P0.out) (wd1 P0.out)).mono ?_
  rintro e w2 ⟨rfl, hb2⟩
  have hB2 := bl_trans hB1 hb2
  clear hB1
  clear hb2
  go_wp2_with fail
  refine (plus_any (r0 * r0) (38 * r1) r4 _ (by have := HB.out; omega) (wd38 P1.out) (wd1 P4.out) (by have := HB.out; omega)).mono ?_
  rintro e w3 ⟨rfl, hb3⟩
  have hB3 := bl_trans hB2 hb3
  clear hB2
  clear hb3
  go_wp2_with fail
  refine (plus_any (r0 * r0 + 38 * r1 * r4) (38 * r2) r3 _ (by have := HB.out; omega) (wd38 P2.out) (wd1 P3.out) (by have := HB.out; omega)).mono ?_
  rintro e w4 ⟨rfl, hb4⟩
  have hB4 := bl_trans hB3 hb4
  clear hB3
  clear hb4
  have LB0 := hidden (fun w => limb_any (r0 * r0 + 38 * r1 * r4 + 38 * r2 * r3) w)
  have OV0 := hidden (fun w => over_any (r0 * r0 + 38 * r1 * r4 + 38 * r2 * r3) w (by have := HB.out; omega) (by have := HB.out; omega))
  simp only [wv] at LB0 OV0 ⊢
  generalize (r0 * r0 + 38 * r1 * r4 + 38 * r2 * r3) / 18446744073709551616 = h0 at *
  generalize (r0 * r0 + 38 * r1 * r4 + 38 * r2 * r3) % 18446744073709551616 = m0 at *
  have bx0 : 0 ≤ (r0 * r0 + 38 * r1 * r4 + 38 * r2 * r3) % 2251799813685248 ∧ (r0 * r0 + 38 * r1 * r4 + 38 * r2 * r3) % 2251799813685248 < 2251799813685248 := by omega
  have by0 : 0 ≤ (r0 * r0 + 38 * r1 * r4 + 38 * r2 * r3) / 2251799813685248 ∧ (r0 * r0 + 38 * r1 * r4 + 38 * r2 * r3) / 2251799813685248 ≤ 430000000000000000 := by have := HB.out; omega
  generalize (r0 * r0 + 38 * r1 * r4 + 38 * r2 * r3) % 2251799813685248 = x0 at *
  generalize (r0 * r0 + 38 * r1 * r4 + 38 * r2 * r3) / 2251799813685248 = y0 at *
  go_wp2_with fail
  refine (times_any (2 * r0) r1 _ (wd2 P0.out) (wd1 P1.out)).mono ?_
  rintro e w5 ⟨rfl, hb5⟩
  have hB5 := bl_trans (bl_trans hB4 (bl_alloc _ _)) hb5
  clear hB4
  have hG0x5 := hb5
  clear hb5
  go_wp2_with fail
  refine (plus_any (2 * r0 * r1) (38 * r2) r4 _ (by have := HB.out; omega) (wd38 P2.out) (wd1 P4.out) (by have := HB.out; omega)).mono ?_
  rintro e w6 ⟨rfl, hb6⟩
  have hB6 := bl_trans hB5 hb6
  clear hB5
  have hG0x6 := bl_trans hG0x5 hb6
  clear hG0x5
  clear hb6
  go_wp2_with fail
  refine (plus_any (2 * r0 * r1 + 38 * r2 * r4) (19 * r3) r3 _ (by have := HB.out; omega) (wd19 P3.out) (wd1 P3.out) (by have := HB.out; omega)).mono ?_
  rintro e w7 ⟨rfl, hb7⟩
  have hB7 := bl_trans hB6 hb7
  clear hB6
  have hG0x7 := bl_trans hG0x6 hb7
  clear hG0x6
  clear hb7
  have LB1 := hidden (fun w => limb_any (2 * r0 * r1 + 38 * r2 * r4 + 19 * r3 * r3) w)
  have OV1 := hidden (fun w => over_any (2 * r0 * r1 + 38 * r2 * r4 + 19 * r3 * r3) w (by have := HB.out; omega) (by have := HB.out; omega))
  simp only [wv] at LB1 OV1 ⊢
  generalize (2 * r0 * r1 + 38 * r2 * r4 + 19 * r3 * r3) / 18446744073709551616 = h1 at *
  generalize (2 * r0 * r1 + 38 * r2 * r4 + 19 * r3 * r3) % 18446744073709551616 = m1 at *
  have bx1 : 0 ≤ (2 * r0 * r1 + 38 * r2 * r4 + 19 * r3 * r3) % 2251799813685248 ∧ (2 * r0 * r1 + 38 * r2 * r4 + 19 * r3 * r3) % 2251799813685248 < 2251799813685248 := by omega
  have by1 : 0 ≤ (2 * r0 * r1 + 38 * r2 * r4 + 19 * r3 * r3) / 2251799813685248 ∧ (2 * r0 * r1 + 38 * r2 * r4 + 19 * r3 * r3) / 2251799813685248 ≤ 430000000000000000 := by have := HB.out; omega
  generalize (2 * r0 * r1 + 38 * r2 * r4 + 19 * r3 * r3) % 2251799813685248 = x1 at *
  generalize (2 * r0 * r1 + 38 * r2 * r4 + 19 * r3 * r3) / 2251799813685248 = y1 at *
  go_wp2_with fail
  refine (times_any (2 * r0) r2 _ (wd2 P0.out) (wd1 P2.out)).mono ?_
  rintro e w8 ⟨rfl, hb8⟩
  have hB8 := bl_trans (bl_trans hB7 (bl_alloc _ _)) hb8
  clear hB7
  have hG0x8 := bl_trans (bl_trans hG0x7 (bl_alloc _ _)) hb8
  clear hG0x7
  have hG1x8 := hb8
  clear hb8
  go_wp2_with fail
  refine (plus_any (2 * r0 * r2) r1 r1 _ (by have := HB.out; omega) (wd1 P1.out) (wd1 P1.out) (by have := HB.out; omega)).mono ?_
  rintro e w9 ⟨rfl, hb9⟩
  have hB9 := bl_trans hB8 hb9
  clear hB8
  have hG0x9 := bl_trans hG0x8 hb9
  clear hG0x8
  have hG1x9 := bl_trans hG1x8 hb9
  clear hG1x8
  clear hb9
  go_wp2_with fail
  refine (plus_any (2 * r0 * r2 + r1 * r1) (38 * r3) r4 _ (by have := HB.out; omega) (wd38 P3.out) (wd1 P4.out) (by have := HB.out; omega)).mono ?_
  rintro e w10 ⟨rfl, hb10⟩
  have hB10 := bl_trans hB9 hb10
  clear hB9
  have hG0x10 := bl_trans hG0x9 hb10
  clear hG0x9
  have hG1x10 := bl_trans hG1x9 hb10
  clear hG1x9
  clear hb10
  have LB2 := hidden (fun w => limb_any (2 * r0 * r2 + r1 * r1 + 38 * r3 * r4) w)
  have OV2 := hidden (fun w => over_any (2 * r0 * r2 + r1 * r1 + 38 * r3 * r4) w (by have := HB.out; omega) (by have := HB.out; omega))
  simp only [wv] at LB2 OV2 ⊢
  generalize (2 * r0 * r2 + r1 * r1 + 38 * r3 * r4) / 18446744073709551616 = h2 at *
  generalize (2 * r0 * r2 + r1 * r1 + 38 * r3 * r4) % 18446744073709551616 = m2 at *
  have bx2 : 0 ≤ (2 * r0 * r2 + r1 * r1 + 38 * r3 * r4) % 2251799813685248 ∧ (2 * r0 * r2 + r1 * r1 + 38 * r3 * r4) % 2251799813685248 < 2251799813685248 := by omega
  have by2 : 0 ≤ (2 * r0 * r2 + r1 * r1 + 38 * r3 * r4) / 2251799813685248 ∧ (2 * r0 * r2 + r1 * r1 + 38 * r3 * r4) / 2251799813685248 ≤ 430000000000000000 := by have := HB.out; omega
  generalize (2 * r0 * r2 + r1 * r1 + 38 * r3 * r4) % 2251799813685248 = x2 at *
  generalize (2 * r0 * r2 + r1 * r1 + 38 * r3 * r4) / 2251799813685248 = y2 at *
  go_wp2_with fail
  refine (times_any (2 * r0) r3 _ (wd2 P0.out) (wd1 P3.out)).mono ?_
  rintro e w11 ⟨rfl, hb11⟩
  have hB11 := bl_trans (bl_trans hB10 (bl_alloc _ _)) hb11
  clear hB10
  have hG0x11 := bl_trans (bl_trans hG0x10 (bl_alloc _ _)) hb11
  clear hG0x10
  have hG1x11 := bl_trans (bl_trans hG1x10 (bl_alloc _ _)) hb11
  clear hG1x10
  have hG2x11 := hb11
  clear hb11
  go_wp2_with fail
  refine (plus_any (2 * r0 * r3) (2 * r1) r2 _ (by have := HB.out; omega) (wd2 P1.out) (wd1 P2.out) (by have := HB.out; omega)).mono ?_
  rintro e w12 ⟨rfl, hb12⟩
  have hB12 := bl_trans hB11 hb12
  clear hB11
  have hG0x12 := bl_trans hG0x11 hb12
  clear hG0x11
  have hG1x12 := bl_trans hG1x11 hb12
  clear hG1x11
  have hG2x12 := bl_trans hG2x11 hb12
  clear hG2x11
  clear hb12
  go_wp2_with fail
  refine (plus_any (2 * r0 * r3 + 2 * r1 * r2) (19 * r4) r4 _ (by have := HB.out; omega) (wd19 P4.out) (wd1 P4.out) (by have := HB.out; omega)).mono ?_
  rintro e w13 ⟨rfl, hb13⟩
  have hB13 := bl_trans hB12 hb13
  clear hB12
  have hG0x13 := bl_trans hG0x12 hb13
  clear hG0x12
  have hG1x13 := bl_trans hG1x12 hb13
  clear hG1x12
  have hG2x13 := bl_trans hG2x12 hb13
  clear hG2x12
  clear hb13
  have LB3 := hidden (fun w => limb_any (2 * r0 * r3 + 2 * r1 * r2 + 19 * r4 * r4) w)
  have OV3 := hidden (fun w => over_any (2 * r0 * r3 + 2 * r1 * r2 + 19 * r4 * r4) w (by have := HB.out; omega) (by have := HB.out; omega))
  simp only [wv] at LB3 OV3 ⊢
  generalize (2 * r0 * r3 + 2 * r1 * r2 + 19 * r4 * r4) / 18446744073709551616 = h3 at *
  generalize (2 * r0 * r3 + 2 * r1 * r2 + 19 * r4 * r4) % 18446744073709551616 = m3 at *
  have bx3 : 0 ≤ (2 * r0 * r3 + 2 * r1 * r2 + 19 * r4 * r4) % 2251799813685248 ∧ (2 * r0 * r3 + 2 * r1 * r2 + 19 * r4 * r4) % 2251799813685248 < 2251799813685248 := by omega
  have by3 : 0 ≤ (2 * r0 * r3 + 2 * r1 * r2 + 19 * r4 * r4) / 2251799813685248 ∧ (2 * r0 * r3 + 2 * r1 * r2 + 19 * r4 * r4) / 2251799813685248 ≤ 430000000000000000 := by have := HB.out; omega
  generalize (2 * r0 * r3 + 2 * r1 * r2 + 19 * r4 * r4) % 2251799813685248 = x3 at *
  generalize (2 * r0 * r3 + 2 * r1 * r2 + 19 * r4 * r4) / 2251799813685248 = y3 at *
  go_wp2_with fail
  refine (times_any (2 * r0) r4 _ (wd2 P0.out) (wd1 P4.out)).mono ?_
  rintro e w14 ⟨rfl, hb14⟩
  have hB14 := bl_trans (bl_trans hB13 (bl_alloc _ _)) hb14
  clear hB13
  have hG0x14 := bl_trans (bl_trans hG0x13 (bl_alloc _ _)) hb14
  clear hG0x13
  have hG1x14 := bl_trans (bl_trans hG1x13 (bl_alloc _ _)) hb14
  clear hG1x13
  have hG2x14 := bl_trans (bl_trans hG2x13 (bl_alloc _ _)) hb14
  clear hG2x13
  have hG3x14 := hb14
  clear hb14
  go_wp2_with fail
  refine (plus_any (2 * r0 * r4) (2 * r1) r3 _ (by have := HB.out; omega) (wd2 P1.out) (wd1 P3.out) (by have := HB.out; omega)).mono ?_
  rintro e w15 ⟨rfl, hb15⟩
  have hB15 := bl_trans hB14 hb15
  clear hB14
  have hG0x15 := bl_trans hG0x14 hb15
  clear hG0x14
  have hG1x15 := bl_trans hG1x14 hb15
  clear hG1x14
  have hG2x15 := bl_trans hG2x14 hb15
  clear hG2x14
  have hG3x15 := bl_trans hG3x14 hb15
  clear hG3x14
  clear hb15
  go_wp2_with fail
  refine (plus_any (2 * r0 * r4 + 2 * r1 * r3) r2 r2 _ (by have := HB.out; omega) (wd1 P2.out) (wd1 P2.out) (by have := HB.out; omega)).mono ?_
  rintro e w16 ⟨rfl, hb16⟩
  have hB16 := bl_trans hB15 hb16
  clear hB15
  have hG0x16 := bl_trans hG0x15 hb16
  clear hG0x15
  have hG1x16 := bl_trans hG1x15 hb16
  clear hG1x15
  have hG2x16 := bl_trans hG2x15 hb16
  clear hG2x15
  have hG3x16 := bl_trans hG3x15 hb16
  clear hG3x15
  clear hb16
  have LB4 := hidden (fun w => limb_any (2 * r0 * r4 + 2 * r1 * r3 + r2 * r2) w)
  have OV4 := hidden (fun w => over_any (2 * r0 * r4 + 2 * r1 * r3 + r2 * r2) w (by have := HB.out; omega) (by have := HB.out; omega))
  simp only [wv] at LB4 OV4 ⊢
  generalize (2 * r0 * r4 + 2 * r1 * r3 + r2 * r2) / 18446744073709551616 = h4 at *
  generalize (2 * r0 * r4 + 2 * r1 * r3 + r2 * r2) % 18446744073709551616 = m4 at *
  have bx4 : 0 ≤ (2 * r0 * r4 + 2 * r1 * r3 + r2 * r2) % 2251799813685248 ∧ (2 * r0 * r4 + 2 * r1 * r3 + r2 * r2) % 2251799813685248 < 2251799813685248 := by omega
  have by4 : 0 ≤ (2 * r0 * r4 + 2 * r1 * r3 + r2 * r2) / 2251799813685248 ∧ (2 * r0 * r4 + 2 * r1 * r3 + r2 * r2) / 2251799813685248 ≤ 430000000000000000 := by have := HB.out; omega
  generalize (2 * r0 * r4 + 2 * r1 * r3 + r2 * r2) % 2251799813685248 = x4 at *
  generalize (2 * r0 * r4 + 2 * r1 * r3 + r2 * r2) / 2251799813685248 = y4 at *
  clear HB P0 P1 P2 P3 P4
  have WR0 := hidden (IntWalk.u64_in (19 * y4) (by omega))
  have WR1 := hidden (IntWalk.u64_in (x0 + 19 * y4) (by omega))
  have WR2 := hidden (IntWalk.u64_in (x1 + y0) (by omega))
  have WR3 := hidden (IntWalk.u64_in (x2 + y1) (by omega))
  have WR4 := hidden (IntWalk.u64_in (x3 + y2) (by omega))
  have WR5 := hidden (IntWalk.u64_in (x4 + y3) (by omega))
  go_wp2_with fail
  have hk00 : w16.cell? ⟨w4.heap.size, 0, none⟩ = some (.int .u64 h0) := by rw [(bcell hG0x16).1 w4.heap.size 0 (by simp)]; go_simp
  have hk01 : w16.cell? ⟨w4.heap.size, 1, none⟩ = some (.int .u64 m0) := by rw [(bcell hG0x16).1 w4.heap.size 1 (by simp)]; go_simp
  have hk10 : w16.cell? ⟨w7.heap.size, 0, none⟩ = some (.int .u64 h1) := by rw [(bcell hG1x16).1 w7.heap.size 0 (by simp)]; go_simp
  have hk11 : w16.cell? ⟨w7.heap.size, 1, none⟩ = some (.int .u64 m1) := by rw [(bcell hG1x16).1 w7.heap.size 1 (by simp)]; go_simp
  have hk20 : w16.cell? ⟨w10.heap.size, 0, none⟩ = some (.int .u64 h2) := by rw [(bcell hG2x16).1 w10.heap.size 0 (by simp)]; go_simp
  have hk21 : w16.cell? ⟨w10.heap.size, 1, none⟩ = some (.int .u64 m2) := by rw [(bcell hG2x16).1 w10.heap.size 1 (by simp)]; go_simp
  have hk30 : w16.cell? ⟨w13.heap.size, 0, none⟩ = some (.int .u64 h3) := by rw [(bcell hG3x16).1 w13.heap.size 0 (by simp)]; go_simp
  have hk31 : w16.cell? ⟨w13.heap.size, 1, none⟩ = some (.int .u64 m3) := by rw [(bcell hG3x16).1 w13.heap.size 1 (by simp)]; go_simp
  clear hG0x16
  clear hG1x16
  clear hG2x16
  clear hG3x16
  have KS : Hid (∀ w0 w2 : World, (fun w' => Below w1.heap.size w1 w' ∧ w'.cell? ⟨w4.heap.size, 0, none⟩ = some (.int .u64 h0) ∧ w'.cell? ⟨w4.heap.size, 1, none⟩ = some (.int .u64 m0) ∧ w'.cell? ⟨w7.heap.size, 0, none⟩ = some (.int .u64 h1) ∧ w'.cell? ⟨w7.heap.size, 1, none⟩ = some (.int .u64 m1) ∧ w'.cell? ⟨w10.heap.size, 0, none⟩ = some (.int .u64 h2) ∧ w'.cell? ⟨w10.heap.size, 1, none⟩ = some (.int .u64 m2) ∧ w'.cell? ⟨w13.heap.size, 0, none⟩ = some (.int .u64 h3) ∧ w'.cell? ⟨w13.heap.size, 1, none⟩ = some (.int .u64 m3) ∧ w'.cell? ⟨w16.heap.size, 0, none⟩ = some (.int .u64 h4) ∧ w'.cell? ⟨w16.heap.size, 1, none⟩ = some (.int .u64 m4)) w0 → Below w0.heap.size w0 w2 → (fun w' => Below w1.heap.size w1 w' ∧ w'.cell? ⟨w4.heap.size, 0, none⟩ = some (.int .u64 h0) ∧ w'.cell? ⟨w4.heap.size, 1, none⟩ = some (.int .u64 m0) ∧ w'.cell? ⟨w7.heap.size, 0, none⟩ = some (.int .u64 h1) ∧ w'.cell? ⟨w7.heap.size, 1, none⟩ = some (.int .u64 m1) ∧ w'.cell? ⟨w10.heap.size, 0, none⟩ = some (.int .u64 h2) ∧ w'.cell? ⟨w10.heap.size, 1, none⟩ = some (.int .u64 m2) ∧ w'.cell? ⟨w13.heap.size, 0, none⟩ = some (.int .u64 h3) ∧ w'.cell? ⟨w13.heap.size, 1, none⟩ = some (.int .u64 m3) ∧ w'.cell? ⟨w16.heap.size, 0, none⟩ = some (.int .u64 h4) ∧ w'.cell? ⟨w16.heap.size, 1, none⟩ = some (.int .u64 m4)) w2) := hidden (fun w0 w2 h hb => ⟨bl_trans h.1 hb, cell_keep (h.2.1) hb, cell_keep (h.2.2.1) hb, cell_keep (h.2.2.2.1) hb, cell_keep (h.2.2.2.2.1) hb, cell_keep (h.2.2.2.2.2.1) hb, cell_keep (h.2.2.2.2.2.2.1) hb, cell_keep (h.2.2.2.2.2.2.2.1) hb, cell_keep (h.2.2.2.2.2.2.2.2.1) hb, cell_keep (h.2.2.2.2.2.2.2.2.2.1) hb, cell_keep (h.2.2.2.2.2.2.2.2.2.2) hb⟩)
  have K0 : Hid ((fun w' => Below w1.heap.size w1 w' ∧ w'.cell? ⟨w4.heap.size, 0, none⟩ = some (.int .u64 h0) ∧ w'.cell? ⟨w4.heap.size, 1, none⟩ = some (.int .u64 m0) ∧ w'.cell? ⟨w7.heap.size, 0, none⟩ = some (.int .u64 h1) ∧ w'.cell? ⟨w7.heap.size, 1, none⟩ = some (.int .u64 m1) ∧ w'.cell? ⟨w10.heap.size, 0, none⟩ = some (.int .u64 h2) ∧ w'.cell? ⟨w10.heap.size, 1, none⟩ = some (.int .u64 m2) ∧ w'.cell? ⟨w13.heap.size, 0, none⟩ = some (.int .u64 h3) ∧ w'.cell? ⟨w13.heap.size, 1, none⟩ = some (.int .u64 m3) ∧ w'.cell? ⟨w16.heap.size, 0, none⟩ = some (.int .u64 h4) ∧ w'.cell? ⟨w16.heap.size, 1, none⟩ = some (.int .u64 m4)) (w16.alloc (.cells #[.int .u64 h4, .int .u64 m4] 64)).drew) := hidden ⟨(bl_trans hB16 (bl_alloc _ _)).drew, cell_keep hk00 (bl_alloc _ _).drew, cell_keep hk01 (bl_alloc _ _).drew, cell_keep hk10 (bl_alloc _ _).drew, cell_keep hk11 (bl_alloc _ _).drew, cell_keep hk20 (bl_alloc _ _).drew, cell_keep hk21 (bl_alloc _ _).drew, cell_keep hk30 (bl_alloc _ _).drew, cell_keep hk31 (bl_alloc _ _).drew, new20 _ _ _ _, new21 _ _ _ _⟩
  go_region_held3 (fun w' => Below w1.heap.size w1 w' ∧ w'.cell? ⟨w4.heap.size, 0, none⟩ = some (.int .u64 h0) ∧ w'.cell? ⟨w4.heap.size, 1, none⟩ = some (.int .u64 m0) ∧ w'.cell? ⟨w7.heap.size, 0, none⟩ = some (.int .u64 h1) ∧ w'.cell? ⟨w7.heap.size, 1, none⟩ = some (.int .u64 m1) ∧ w'.cell? ⟨w10.heap.size, 0, none⟩ = some (.int .u64 h2) ∧ w'.cell? ⟨w10.heap.size, 1, none⟩ = some (.int .u64 m2) ∧ w'.cell? ⟨w13.heap.size, 0, none⟩ = some (.int .u64 h3) ∧ w'.cell? ⟨w13.heap.size, 1, none⟩ = some (.int .u64 m3) ∧ w'.cell? ⟨w16.heap.size, 0, none⟩ = some (.int .u64 h4) ∧ w'.cell? ⟨w16.heap.size, 1, none⟩ = some (.int .u64 m4)) (first | exact K0.out | (refine KS.out _ _ ?_ hb; assumption) | assumption)
    (first | (go_at_call_of 36 h0; refine (LB0.out _).mono ?_; rintro e w2 ⟨rfl, hb⟩) | (go_at_call_of 37 h0; refine (OV0.out _).mono ?_; rintro e w2 ⟨rfl, hb⟩) | (go_at_call_of 36 h1; refine (LB1.out _).mono ?_; rintro e w2 ⟨rfl, hb⟩) | (go_at_call_of 37 h1; refine (OV1.out _).mono ?_; rintro e w2 ⟨rfl, hb⟩) | (go_at_call_of 36 h2; refine (LB2.out _).mono ?_; rintro e w2 ⟨rfl, hb⟩) | (go_at_call_of 37 h2; refine (OV2.out _).mono ?_; rintro e w2 ⟨rfl, hb⟩) | (go_at_call_of 36 h3; refine (LB3.out _).mono ?_; rintro e w2 ⟨rfl, hb⟩) | (go_at_call_of 37 h3; refine (OV3.out _).mono ?_; rintro e w2 ⟨rfl, hb⟩) | (go_at_call_of 36 h4; refine (LB4.out _).mono ?_; rintro e w2 ⟨rfl, hb⟩) | (go_at_call_of 37 h4; refine (OV4.out _).mono ?_; rintro e w2 ⟨rfl, hb⟩) | (go_at_call 35; rw [WR0.out, WR1.out, WR2.out, WR3.out, WR4.out, WR5.out]; refine (FIN.out _).mono ?_; rintro e w2 ⟨r, rfl, hr, rfl⟩))
  rename_i hS
  replace hS := hS.1
  obtain ⟨hcz, hfz⟩ := bcell hS
  have hz := HZ.out
  have hr0 := HR0.out; have hf0 := HF0.out
  have hr1 := HR1.out; have hf1 := HF1.out
  have hr2 := HR2.out; have hf2 := HF2.out
  have hr3 := HR3.out; have hf3 := HF3.out
  have hr4 := HR4.out; have hf4 := HF4.out
  go_wp2_with fail
  refine bodyPost_ret (v := .agg #[.int .u64 r.x0, .int .u64 r.x1, .int .u64 r.x2, .int .u64 r.x3, .int .u64 r.x4]) (by simp [results, Tryd.results47, go_sem, hcz, hz, hr0, hr1, hr2, hr3, hr4]) rfl ⟨r, rfl, hr, ?_⟩
  exact bl_set5 _ _ _ _ _ (bl_trans hA hS) (by omega)
end Go.Proofs.YtnbcfchbhappeaaDoor.Fe
