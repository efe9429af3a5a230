namespace Go.Proofs.YtnbcfchbhappeaaDoor.Fm

-- K = 2^51, K5 = 2^255, p = 2^255 - 19, M = 2^64
def V (a0 a1 a2 a3 a4 : Int) : Int := a0 + 2251799813685248 * a1 + 5070602400912917605986812821504 * a2 + 11417981541647679048466287755595961091061972992 * a3 + 25711008708143844408671393477458601640355247900524685364822016 * a4
def P : Int := 57896044618658097711785492504343953926634992332820282019728792003956564819949

/-- any limbs of a machine word -/
def Wd (x : Int) : Prop := 0 ≤ x ∧ x ≤ 18446744073709551615
/-- loose limbs -/
def Ls (x : Int) : Prop := 0 ≤ x ∧ x ≤ 2251799813947391

/-- limb i of a number -/
def lim (i : Nat) (n : Int) : Int := match i with
  | 0 => n % 2251799813685248
  | 1 => n / 2251799813685248 % 2251799813685248
  | 2 => n / 5070602400912917605986812821504 % 2251799813685248
  | 3 => n / 11417981541647679048466287755595961091061972992 % 2251799813685248
  | _ => n / 25711008708143844408671393477458601640355247900524685364822016 % 2251799813685248

theorem lim_of (n d0 d1 d2 d3 d4 : Int) (h0 : 0 ≤ d0 ∧ d0 < 2251799813685248) (h1 : 0 ≤ d1 ∧ d1 < 2251799813685248) (h2 : 0 ≤ d2 ∧ d2 < 2251799813685248) (h3 : 0 ≤ d3 ∧ d3 < 2251799813685248) (h4 : 0 ≤ d4 ∧ d4 < 2251799813685248)
    (hn : V d0 d1 d2 d3 d4 = n) : d0 = lim 0 n ∧ d1 = lim 1 n ∧ d2 = lim 2 n ∧ d3 = lim 3 n ∧ d4 = lim 4 n := by
  unfold V at hn
  simp only [lim]
  have e0 : n / 2251799813685248 = d1 + 2251799813685248 * d2 + 5070602400912917605986812821504 * d3 + 11417981541647679048466287755595961091061972992 * d4 := by omega
  have e1 : n / 5070602400912917605986812821504 = d2 + 2251799813685248 * d3 + 5070602400912917605986812821504 * d4 := by omega
  have e2 : n / 11417981541647679048466287755595961091061972992 = d3 + 2251799813685248 * d4 := by omega
  have e3 : n / 25711008708143844408671393477458601640355247900524685364822016 = d4 := by omega
  rw [e0, e1, e2, e3]
  refine ⟨by omega, by omega, by omega, by omega, by omega⟩

theorem V_lim (n : Int) (h0 : 0 ≤ n) (h1 : n < 57896044618658097711785492504343953926634992332820282019728792003956564819968) :
    V (lim 0 n) (lim 1 n) (lim 2 n) (lim 3 n) (lim 4 n) = n := by
  unfold V; simp only [lim]
  have f1 : n / 5070602400912917605986812821504 = n / 2251799813685248 / 2251799813685248 := by omega
  have f2 : n / 11417981541647679048466287755595961091061972992 = n / 5070602400912917605986812821504 / 2251799813685248 := by omega
  have f3 : n / 25711008708143844408671393477458601640355247900524685364822016 = n / 11417981541647679048466287755595961091061972992 / 2251799813685248 := by omega
  generalize hx1 : n / 2251799813685248 = x1 at *
  generalize hx2 : n / 5070602400912917605986812821504 = x2 at *
  generalize hx3 : n / 11417981541647679048466287755595961091061972992 = x3 at *
  generalize hx4 : n / 25711008708143844408671393477458601640355247900524685364822016 = x4 at *
  have : 0 ≤ x4 ∧ x4 < 2251799813685248 := by omega
  omega

theorem lim_bd (i : Nat) (n : Int) : 0 ≤ lim i n ∧ lim i n < 2251799813685248 := by
  unfold lim; split <;> omega

/-- what carry answers -/
def cr (i : Nat) (a0 a1 a2 a3 a4 : Int) : Int := match i with
  | 0 => a0 % 2251799813685248 + 19 * (a4 / 2251799813685248)
  | 1 => a1 % 2251799813685248 + a0 / 2251799813685248
  | 2 => a2 % 2251799813685248 + a1 / 2251799813685248
  | 3 => a3 % 2251799813685248 + a2 / 2251799813685248
  | _ => a4 % 2251799813685248 + a3 / 2251799813685248

theorem cr_ls (i : Nat) (a0 a1 a2 a3 a4 : Int) (h0 : Wd a0) (h1 : Wd a1) (h2 : Wd a2) (h3 : Wd a3) (h4 : Wd a4) : Ls (cr i a0 a1 a2 a3 a4) := by
  unfold Wd at *; unfold Ls cr; split <;> omega

theorem cr_V (a0 a1 a2 a3 a4 : Int) : V (cr 0 a0 a1 a2 a3 a4) (cr 1 a0 a1 a2 a3 a4) (cr 2 a0 a1 a2 a3 a4) (cr 3 a0 a1 a2 a3 a4) (cr 4 a0 a1 a2 a3 a4) = V a0 a1 a2 a3 a4 - P * (a4 / 2251799813685248) := by
  unfold V P; simp only [cr]; omega

theorem mod_sub_mul (n k : Int) : (n - P * k) % P = n % P := by
  rw [Int.sub_eq_add_neg, ← Int.mul_neg, Int.add_mul_emod_self_left]

/-- the second half of least -/
def c0 (r0 : Int) : Int := (r0 + 19) / 2251799813685248
def cn (r c : Int) : Int := (r + c) / 2251799813685248

theorem least_math (r0 r1 r2 r3 r4 : Int) (h0 : Ls r0) (h1 : Ls r1) (h2 : Ls r2) (h3 : Ls r3) (h4 : Ls r4)
    (o : Int) (ho : o = cn r4 (cn r3 (cn r2 (cn r1 (c0 r0)))))
    (s0 s1 s2 s3 s4 : Int) (e0 : s0 = r0 + 19 * o) (e1 : s1 = r1 + s0 / 2251799813685248) (e2 : s2 = r2 + s1 / 2251799813685248) (e3 : s3 = r3 + s2 / 2251799813685248) (e4 : s4 = r4 + s3 / 2251799813685248) :
    (o = 0 ∨ o = 1) ∧ s0 % 2251799813685248 = lim 0 (V r0 r1 r2 r3 r4 % P) ∧ s1 % 2251799813685248 = lim 1 (V r0 r1 r2 r3 r4 % P) ∧ s2 % 2251799813685248 = lim 2 (V r0 r1 r2 r3 r4 % P) ∧ s3 % 2251799813685248 = lim 3 (V r0 r1 r2 r3 r4 % P) ∧ s4 % 2251799813685248 = lim 4 (V r0 r1 r2 r3 r4 % P) := by
  unfold Ls at *
  have hn : ∃ n, n = V r0 r1 r2 r3 r4 := ⟨_, rfl⟩
  obtain ⟨n, hn⟩ := hn
  rw [← hn]
  have hD : ∃ D : Int, n + 19 = D + 57896044618658097711785492504343953926634992332820282019728792003956564819968 * o ∧ 0 ≤ D ∧ D < 57896044618658097711785492504343953926634992332820282019728792003956564819968 := by
    have g1 : ∃ x1, x1 = c0 r0 := ⟨_, rfl⟩
    obtain ⟨x1, g1⟩ := g1
    rw [← g1] at ho
    have g2 : ∃ x2, x2 = cn r1 x1 := ⟨_, rfl⟩
    obtain ⟨x2, g2⟩ := g2
    rw [← g2] at ho
    have g3 : ∃ x3, x3 = cn r2 x2 := ⟨_, rfl⟩
    obtain ⟨x3, g3⟩ := g3
    rw [← g3] at ho
    have g4 : ∃ x4, x4 = cn r3 x3 := ⟨_, rfl⟩
    obtain ⟨x4, g4⟩ := g4
    rw [← g4] at ho
    unfold c0 at g1
    unfold cn at *
    unfold V at hn
    refine ⟨(r0 + 19) % 2251799813685248 + 2251799813685248 * ((r1 + x1) % 2251799813685248) + 5070602400912917605986812821504 * ((r2 + x2) % 2251799813685248) + 11417981541647679048466287755595961091061972992 * ((r3 + x3) % 2251799813685248) + 25711008708143844408671393477458601640355247900524685364822016 * ((r4 + x4) % 2251799813685248), ?_, ?_, ?_⟩
    · omega
    · omega
    · omega
  obtain ⟨D, hD1, hD2, hD3⟩ := hD
  have hnb : 0 ≤ n ∧ n < 115792089237316195423570985008687907853269984665640564039457584007913129639898 := by
    unfold V at hn; omega
  have ho2 : o = 0 ∨ o = 1 := by omega
  refine ⟨ho2, ?_⟩
  have hF : s0 % 2251799813685248 + 2251799813685248 * (s1 % 2251799813685248) + 5070602400912917605986812821504 * (s2 % 2251799813685248) + 11417981541647679048466287755595961091061972992 * (s3 % 2251799813685248) + 25711008708143844408671393477458601640355247900524685364822016 * (s4 % 2251799813685248)
      + 57896044618658097711785492504343953926634992332820282019728792003956564819968 * (s4 / 2251799813685248) = n + 19 * o := by
    unfold V at hn; omega
  apply lim_of
  · omega
  · omega
  · omega
  · omega
  · omega
  · have hm : n % P = n - P * o := by
      unfold P
      rcases ho2 with h | h <;> subst h <;> omega
    rw [hm]; unfold P V
    have b0 : 0 ≤ s0 % 2251799813685248 ∧ s0 % 2251799813685248 < 2251799813685248 := by omega
    have b1 : 0 ≤ s1 % 2251799813685248 ∧ s1 % 2251799813685248 < 2251799813685248 := by omega
    have b2 : 0 ≤ s2 % 2251799813685248 ∧ s2 % 2251799813685248 < 2251799813685248 := by omega
    have b3 : 0 ≤ s3 % 2251799813685248 ∧ s3 % 2251799813685248 < 2251799813685248 := by omega
    have b4 : 0 ≤ s4 % 2251799813685248 ∧ s4 % 2251799813685248 < 2251799813685248 := by omega
    generalize s0 % 2251799813685248 = f0 at *
    generalize s1 % 2251799813685248 = f1 at *
    generalize s2 % 2251799813685248 = f2 at *
    generalize s3 % 2251799813685248 = f3 at *
    generalize s4 % 2251799813685248 = f4 at *
    generalize s4 / 2251799813685248 = q at *
    clear e0 e1 e2 e3 e4 ho hn
    rcases ho2 with h | h <;> subst h <;> omega


def m0 (a0 a1 a2 a3 a4 b0 b1 b2 b3 b4 : Int) : Int := a0 * b0 + 19 * a1 * b4 + 19 * a2 * b3 + 19 * a3 * b2 + 19 * a4 * b1
def m1 (a0 a1 a2 a3 a4 b0 b1 b2 b3 b4 : Int) : Int := a0 * b1 + a1 * b0 + 19 * a2 * b4 + 19 * a3 * b3 + 19 * a4 * b2
def m2 (a0 a1 a2 a3 a4 b0 b1 b2 b3 b4 : Int) : Int := a0 * b2 + a1 * b1 + a2 * b0 + 19 * a3 * b4 + 19 * a4 * b3
def m3 (a0 a1 a2 a3 a4 b0 b1 b2 b3 b4 : Int) : Int := a0 * b3 + a1 * b2 + a2 * b1 + a3 * b0 + 19 * a4 * b4
def m4 (a0 a1 a2 a3 a4 b0 b1 b2 b3 b4 : Int) : Int := a0 * b4 + a1 * b3 + a2 * b2 + a3 * b1 + a4 * b0

theorem mul_V (a0 a1 a2 a3 a4 b0 b1 b2 b3 b4 : Int) :
    V (m0 a0 a1 a2 a3 a4 b0 b1 b2 b3 b4) (m1 a0 a1 a2 a3 a4 b0 b1 b2 b3 b4) (m2 a0 a1 a2 a3 a4 b0 b1 b2 b3 b4) (m3 a0 a1 a2 a3 a4 b0 b1 b2 b3 b4) (m4 a0 a1 a2 a3 a4 b0 b1 b2 b3 b4)
      = V a0 a1 a2 a3 a4 * V b0 b1 b2 b3 b4 - P * ((a1 * b4 + a2 * b3 + a3 * b2 + a4 * b1) + 2251799813685248 * (a2 * b4 + a3 * b3 + a4 * b2) + 5070602400912917605986812821504 * (a3 * b4 + a4 * b3) + 11417981541647679048466287755595961091061972992 * (a4 * b4)) := by
  unfold V P m0 m1 m2 m3 m4
  grind

theorem ls_mul {a b : Int} (ha : Ls a) (hb : Ls b) : 0 ≤ a * b ∧ a * b ≤ 5070602402093509037119193088000 := by
  unfold Ls at *
  refine ⟨Int.mul_nonneg ha.1 hb.1, ?_⟩
  have := Int.mul_le_mul ha.2 hb.2 hb.1 (by omega)
  omega

theorem m_bd (a0 a1 a2 a3 a4 b0 b1 b2 b3 b4 : Int) (h0 : Ls a0) (h1 : Ls a1) (h2 : Ls a2) (h3 : Ls a3) (h4 : Ls a4) (g0 : Ls b0) (g1 : Ls b1) (g2 : Ls b2) (g3 : Ls b3) (g4 : Ls b4) :
    (0 ≤ m0 a0 a1 a2 a3 a4 b0 b1 b2 b3 b4 ∧ m0 a0 a1 a2 a3 a4 b0 b1 b2 b3 b4 < 649037107316853453566312041152512) ∧
    (0 ≤ m1 a0 a1 a2 a3 a4 b0 b1 b2 b3 b4 ∧ m1 a0 a1 a2 a3 a4 b0 b1 b2 b3 b4 < 649037107316853453566312041152512) ∧
    (0 ≤ m2 a0 a1 a2 a3 a4 b0 b1 b2 b3 b4 ∧ m2 a0 a1 a2 a3 a4 b0 b1 b2 b3 b4 < 649037107316853453566312041152512) ∧
    (0 ≤ m3 a0 a1 a2 a3 a4 b0 b1 b2 b3 b4 ∧ m3 a0 a1 a2 a3 a4 b0 b1 b2 b3 b4 < 649037107316853453566312041152512) ∧
    (0 ≤ m4 a0 a1 a2 a3 a4 b0 b1 b2 b3 b4 ∧ m4 a0 a1 a2 a3 a4 b0 b1 b2 b3 b4 < 649037107316853453566312041152512) := by
  unfold m0 m1 m2 m3 m4
  simp only [Int.mul_assoc]
  have x00 := ls_mul h0 g0
  have x01 := ls_mul h0 g1
  have x02 := ls_mul h0 g2
  have x03 := ls_mul h0 g3
  have x04 := ls_mul h0 g4
  have x10 := ls_mul h1 g0
  have x11 := ls_mul h1 g1
  have x12 := ls_mul h1 g2
  have x13 := ls_mul h1 g3
  have x14 := ls_mul h1 g4
  have x20 := ls_mul h2 g0
  have x21 := ls_mul h2 g1
  have x22 := ls_mul h2 g2
  have x23 := ls_mul h2 g3
  have x24 := ls_mul h2 g4
  have x30 := ls_mul h3 g0
  have x31 := ls_mul h3 g1
  have x32 := ls_mul h3 g2
  have x33 := ls_mul h3 g3
  have x34 := ls_mul h3 g4
  have x40 := ls_mul h4 g0
  have x41 := ls_mul h4 g1
  have x42 := ls_mul h4 g2
  have x43 := ls_mul h4 g3
  have x44 := ls_mul h4 g4
  clear h0 h1 h2 h3 h4 g0 g1 g2 g3 g4
  omega

theorem sq_m (a0 a1 a2 a3 a4 : Int) :
    a0 * a0 + 38 * a1 * a4 + 38 * a2 * a3 = m0 a0 a1 a2 a3 a4 a0 a1 a2 a3 a4 ∧
    2 * a0 * a1 + 38 * a2 * a4 + 19 * a3 * a3 = m1 a0 a1 a2 a3 a4 a0 a1 a2 a3 a4 ∧
    2 * a0 * a2 + a1 * a1 + 38 * a3 * a4 = m2 a0 a1 a2 a3 a4 a0 a1 a2 a3 a4 ∧
    2 * a0 * a3 + 2 * a1 * a2 + 19 * a4 * a4 = m3 a0 a1 a2 a3 a4 a0 a1 a2 a3 a4 ∧
    2 * a0 * a4 + 2 * a1 * a3 + a2 * a2 = m4 a0 a1 a2 a3 a4 a0 a1 a2 a3 a4 := by
  unfold m0 m1 m2 m3 m4
  refine ⟨by grind, by grind, by grind, by grind, by grind⟩

theorem cr_wd (i : Nat) (a0 a1 a2 a3 a4 : Int) (h0 : 0 ≤ a0 ∧ a0 < 649037107316853453566312041152512) (h1 : 0 ≤ a1 ∧ a1 < 649037107316853453566312041152512) (h2 : 0 ≤ a2 ∧ a2 < 649037107316853453566312041152512) (h3 : 0 ≤ a3 ∧ a3 < 649037107316853453566312041152512) (h4 : 0 ≤ a4 ∧ a4 < 649037107316853453566312041152512) : Wd (cr i a0 a1 a2 a3 a4) := by
  unfold Wd cr; split <;> omega


end Go.Proofs.YtnbcfchbhappeaaDoor.Fm
