import Derived.Test.YtglalahmcckjaaaDoorSap
import Derived.Test.YtglalahmcckjaaaDoorSdr
namespace Go.Proofs.YtglalahmcckjaaaDoor
open Go.RowKit

def b3 (x y z : Nat) : Nat → Nat
  | 0 => x
  | 1 => y
  | _ => z
def g3 (x y z : Nat → Int) : Nat → Nat → Int
  | 0 => x
  | 1 => y
  | _ => z
theorem ap3_rows (w0 w : World) (n x y z B : Nat) (f g h : Nat → Int) (n0 : 0 < n) (n1 : n < 1000) (bel : Below w0.heap.size w0 w) (h0 : w0.heap.size ≤ x) (hxy : x < y) (hyz : y < z) (hzB : z < B)
    (rx : Rwi w x n f) (ry : Rwi w y n g) (rz : Rwi w z n h) (c0 : w.cell? ⟨B, 0, none⟩ = some (.slice (some ⟨x, 0, none⟩) n n)) (c1 : w.cell? ⟨B, 1, none⟩ = some (.slice (some ⟨y, 0, none⟩) n n)) (c2 : w.cell? ⟨B, 2, none⟩ = some (.slice (some ⟨z, 0, none⟩) n n)) :
    Ap3 w0 B n (fun i => some ⟨b3 x y z i, 0, none⟩) (b3 x y z) ∧ ApW w0 B n (fun i => some ⟨b3 x y z i, 0, none⟩) (b3 x y z) (g3 f g h) w := by
  have i3 : ∀ i, i < 3 → i = 0 ∨ i = 1 ∨ i = 2 := by omega
  refine ⟨⟨n1, fun _ _ _ => rfl, fun h => by omega, fun _ i j hi hj hne => ?_, fun _ i hi => ?_, fun _ i hi => ?_⟩, ⟨bel, fun i hi => ?_, fun _ i hi => ?_⟩⟩
  · rcases i3 i hi with rfl | rfl | rfl <;> rcases i3 j hj with rfl | rfl | rfl <;> simp only [b3] <;> omega
  · rcases i3 i hi with rfl | rfl | rfl <;> simp only [b3] <;> omega
  · rcases i3 i hi with rfl | rfl | rfl <;> simp only [b3] <;> omega
  · rcases i3 i hi with rfl | rfl | rfl
    · exact c0
    · exact c1
    · exact c2
  · rcases i3 i hi with rfl | rfl | rfl
    · exact rx
    · exact ry
    · exact rz
theorem ap3_nil (w0 w : World) (B : Nat) (bel : Below w0.heap.size w0 w) (c : ∀ i, i < 3 → w.cell? ⟨B, i, none⟩ = some (.slice none 0 0)) :
    Ap3 w0 B 0 (fun _ => none) (fun _ => 0) ∧ ApW w0 B 0 (fun _ => none) (fun _ => 0) (fun _ _ => 0) w :=
  ⟨⟨by omega, fun h => by omega, fun _ _ _ => rfl, fun h => by omega, fun h => by omega, fun h => by omega⟩, ⟨bel, c, fun h => by omega⟩⟩

theorem apartInts_of (w0 w : World) {B n : Nat} (p : Nat → Option Addr) (b : Nat → Nat) (g : Nat → Nat → Int) (h : Ap3 w0 B n p b ∧ ApW w0 B n p b g w) :
    Calls Tryd.prog 31 #[.slice (some ⟨B, 0, none⟩) 3 3] w fun e w' => e = .returned (.bool true) ∧ Below w0.heap.size w0 w' := apartInts_any w0 w B n p b g h.1 h.2

set_option maxRecDepth 100000 in
set_option maxHeartbeats 16000000 in
theorem Sdl_in (a : E4) (m : Nat) (w : World) (hT : Tb w) (ha : a.ok) (hm0 : 1 ≤ m) (hm : m ≤ 12) : Calls Tryd.prog 8 #[a.v, .int .i64 m] w fun e w' => e = .returned (.bool true) ∧ Below w.heap.size w w' := by
  obtain ⟨X, hX⟩ : ∃ t : E4, lst a.n = t := ⟨_, rfl⟩
  obtain ⟨G, hG⟩ : ∃ t : E4, lst (-a.n) = t := ⟨_, rfl⟩
  have hXo : X.ok := by rw [← hX]; exact lst_ok _
  have hGo : G.ok := by rw [← hG]; exact lst_ok _
  have of_a := hidden (fun w => of_any a w ha)
  have ng := hidden (fun w T => fix (Neg_any a w T ha) hG)
  have na := hidden (fun w T => Digits_in a m w T ha hm0 hm)
  have nG := hidden (fun w T => Digits_in G m w T hGo hm0 hm)
  have rn := hidden (fun w => rDigits_in X m w hXo hm0 hm)
  rw [hX] at of_a na
  obtain ⟨N, hN⟩ : ∃ n, (253 / m + 1) = n := ⟨_, rfl⟩
  have hN0 : 0 < N := by rw [← hN]; exact Nat.succ_pos _
  have hN1 : N < 1000 := by rw [← hN]; exact (by have := Nat.div_le_self 253 m; omega)
  generalize dg X.n m = f at na rn
  generalize dg (lst G.n).n m = g at nG
  rw [hN] at na nG rn
  have HT := hidden hT
  have S0 := hidden (St.start w a 24)
  clear hX hG hXo hGo hT ha hN
  simp only [E4.v] at of_a ng na nG rn ⊢
  go_enter Tryd.func8, Tryd.ntmps8
  go_upto_region 1 with fail
  generalize (w.alloc (.cells #[.int .u64 a.x0, .int .u64 a.x1, .int .u64 a.x2, .int .u64 a.x3] 24)) = wB at S0 ⊢
  go_cut [5, 6] (fun vx ve wx => ∃ b1 : Nat, vx = .slice (some ⟨b1, 0, none⟩) N N ∧ ve = .int .i64 0 ∧ w.heap.size < b1 ∧ St w [(w.heap.size, a)] [] wx ∧ Rwi wx b1 N f)
  case first =>
    have x0 := (S0.out.live (w.heap.size, a) (by simp)).c0
    have x1 := (S0.out.live (w.heap.size, a) (by simp)).c1
    have x2 := (S0.out.live (w.heap.size, a) (by simp)).c2
    have x3 := (S0.out.live (w.heap.size, a) (by simp)).c3
    have hl := (S0.out.live (w.heap.size, a) (by simp)).lt
    have TB := hidden (S0.out.tb HT.out)
    go_wp2_with fail
    refine (na.out _ TB.out).mono ?_
    rintro e w1 ⟨b1, rfl, hb1, r1, hb⟩
    have S1 := hidden (S0.out.keep hb)
    have R1 := hidden r1
    have hlt : w.heap.size < b1 := by omega
    clear hb r1 x0 x1 x2 x3 hb1 hl
    go_wp2_with fail
    go_meet
    exact ⟨b1, rfl, rfl, hlt, S1.out, R1.out⟩
  case rest =>
  obtain ⟨b1, rfl, rfl, hb1, s1, r1⟩ := hcut
  clear S0
  have S0 := hidden s1
  have R1 := hidden r1
  clear s1 r1
  go_upto_region 2 with fail
  go_cut [7, 8] (fun vx ve wx => ∃ b2 : Nat, vx = .slice (some ⟨b2, 0, none⟩) N N ∧ ve = .int .i64 0 ∧ b1 < b2 ∧ St w [(w.heap.size, a)] [] wx ∧ Rwi wx b1 N f ∧ Rwi wx b2 N g)
  case first =>
    have x0 := (S0.out.live (w.heap.size, a) (by simp)).c0
    have x1 := (S0.out.live (w.heap.size, a) (by simp)).c1
    have x2 := (S0.out.live (w.heap.size, a) (by simp)).c2
    have x3 := (S0.out.live (w.heap.size, a) (by simp)).c3
    have TB := hidden (S0.out.tb HT.out)
    go_wp2_with fail
    refine (ng.out _ TB.out).mono ?_
    rintro e w1 ⟨rfl, hb⟩
    have S1 := hidden (S0.out.keep hb)
    have R2 := hidden (R1.out.keep hb)
    have TB2 := hidden (S1.out.tb HT.out)
    clear hb x0 x1 x2 x3
    go_wp2_with fail
    refine (nG.out _ TB2.out).mono ?_
    rintro e w2 ⟨b2, rfl, hb2, r2, hb⟩
    have S2 := hidden (S1.out.keep hb)
    have R3 := hidden (R2.out.keep hb)
    have R4 := hidden r2
    have hlt : b1 < b2 := Nat.lt_of_lt_of_le R2.out.lt hb2
    clear hb r2 hb2
    go_wp2_with fail
    go_meet
    exact ⟨b2, rfl, rfl, hlt, S2.out, R3.out, R4.out⟩
  case rest =>
  obtain ⟨b2, rfl, rfl, hb2, s1, r1, r2⟩ := hcut
  clear S0 R1
  have S0 := hidden s1
  have R1 := hidden r1
  have R2 := hidden r2
  clear s1 r1 r2 ng nG
  go_upto_region 3 with fail
  go_cut [9, 10] (fun vx ve wx => ∃ b3 : Nat, vx = .slice (some ⟨b3, 0, none⟩) N N ∧ ve = .int .i64 0 ∧ b2 < b3 ∧ St w [(w.heap.size, a)] [] wx ∧ Rwi wx b1 N f ∧ Rwi wx b2 N g ∧ Rwi wx b3 N f)
  case first =>
    have x0 := (S0.out.live (w.heap.size, a) (by simp)).c0
    have x1 := (S0.out.live (w.heap.size, a) (by simp)).c1
    have x2 := (S0.out.live (w.heap.size, a) (by simp)).c2
    have x3 := (S0.out.live (w.heap.size, a) (by simp)).c3
    have TB := hidden (S0.out.tb HT.out)
    go_wp2_with fail
    refine (na.out _ TB.out).mono ?_
    rintro e w1 ⟨b3, rfl, hb3, r3, hb⟩
    have S1 := hidden (S0.out.keep hb)
    have Q1 := hidden (R1.out.keep hb)
    have Q2 := hidden (R2.out.keep hb)
    have Q3 := hidden r3
    have hlt : b2 < b3 := Nat.lt_of_lt_of_le R2.out.lt hb3
    clear hb r3 x0 x1 x2 x3 hb3
    go_wp2_with fail
    go_meet
    exact ⟨b3, rfl, rfl, hlt, S1.out, Q1.out, Q2.out, Q3.out⟩
  case rest =>
  obtain ⟨b3', rfl, rfl, hb3, s1, r1, r2, r3⟩ := hcut
  clear S0 R1 R2
  have S0 := hidden s1
  have R1 := hidden r1
  have R2 := hidden r2
  have R3 := hidden r3
  clear s1 r1 r2 r3 na
  go_upto_region 4 with fail
  go_cut [11, 12] (fun vx ve wx => ∃ b4 c4 : Nat, vx = .slice (some ⟨b4, 0, none⟩) N c4 ∧ ve = .int .i64 0 ∧ St w [(w.heap.size, a)] [] wx ∧ Rwi wx b1 N f ∧ Rwi wx b2 N g ∧ Rwi wx b3' N f ∧ Rwi wx b4 N f)
  case first =>
    have x0 := (S0.out.live (w.heap.size, a) (by simp)).c0
    have x1 := (S0.out.live (w.heap.size, a) (by simp)).c1
    have x2 := (S0.out.live (w.heap.size, a) (by simp)).c2
    have x3 := (S0.out.live (w.heap.size, a) (by simp)).c3
    go_wp2_with fail
    refine (of_a.out _).mono ?_
    rintro e w1 ⟨rfl, hb⟩
    have S1 := hidden (S0.out.keep hb)
    have P1 := hidden (R1.out.keep hb)
    have P2 := hidden (R2.out.keep hb)
    have P3 := hidden (R3.out.keep hb)
    clear hb x0 x1 x2 x3
    go_wp2_with fail
    refine (rn.out _).mono ?_
    rintro e w2 ⟨b4, c4, rfl, r4, hb⟩
    have S2 := hidden (S1.out.keep hb)
    have Q1 := hidden (P1.out.keep hb)
    have Q2 := hidden (P2.out.keep hb)
    have Q3 := hidden (P3.out.keep hb)
    have Q4 := hidden r4
    clear hb r4
    go_wp2_with fail
    go_meet
    exact ⟨b4, c4, rfl, rfl, S2.out, Q1.out, Q2.out, Q3.out, Q4.out⟩
  case rest =>
  obtain ⟨b4, c4, rfl, rfl, s1, r1, r2, r3, r4⟩ := hcut
  have I1 := hidden (ints_cap b1 b4 N N c4 f wc (by omega) r1 r4)
  clear S0 R1 R2 R3
  have S0 := hidden s1
  have R1 := hidden r1
  have R2 := hidden r2
  have R3 := hidden r3
  have R4 := hidden r4
  clear s1 r1 r2 r3 r4 of_a rn
  go_upto_region 5 with fail
  go_wp2_with fail
  refine I1.out.mono ?_
  rintro e w5 ⟨rfl, hb⟩
  have S1 := hidden (S0.out.keep hb)
  have Q1 := hidden (R1.out.keep hb)
  have Q2 := hidden (R2.out.keep hb)
  have Q3 := hidden (R3.out.keep hb)
  have I2 := hidden (ints_cap b3' b4 N N c4 f w5 (by omega) (R3.out.keep hb) (R4.out.keep hb))
  clear S0 R1 R2 R3 R4 I1 hb
  go_wp2_with fail
  refine I2.out.mono ?_
  rintro e w6 ⟨rfl, hb⟩
  have S2 := hidden (S1.out.keep hb)
  have P1 := hidden (Q1.out.keep hb)
  have P2 := hidden (Q2.out.keep hb)
  have P3 := hidden (Q3.out.keep hb)
  clear S1 Q1 Q2 Q3 I2 hb
  go_wp2_with fail
  refine (apartInts_of w _ (fun i => some ⟨b3 b1 b2 b3' i, 0, none⟩) (b3 b1 b2 b3') (g3 f g f) (ap3_rows w _ N b1 b2 b3' w6.heap.size f g f hN0 hN1 (bl_trans S2.out.bel (bl_alloc _ _)) (by omega) hb2 hb3 P3.out.lt (P1.out.keep (bl_alloc _ _)) (P2.out.keep (bl_alloc _ _)) (P3.out.keep (bl_alloc _ _)) (by go_simp) (by go_simp) (by go_simp))).mono ?_
  rintro e w7 ⟨rfl, hb⟩
  have BE := hidden hb
  clear hb
  go_wp2_with fail
  go_ret
  exact ⟨rfl, BE.out⟩

set_option maxRecDepth 100000 in
set_option maxHeartbeats 16000000 in
theorem Sdl_out (a : E4) (i : Int) (w : World) (hT : Tb w) (ha : a.ok) (hi : i < 1 ∨ 12 < i) : Calls Tryd.prog 8 #[a.v, .int .i64 i] w fun e w' => e = .returned (.bool true) ∧ Below w.heap.size w w' := by
  obtain ⟨X, hX⟩ : ∃ t : E4, lst a.n = t := ⟨_, rfl⟩
  obtain ⟨G, hG⟩ : ∃ t : E4, lst (-a.n) = t := ⟨_, rfl⟩
  have of_a := hidden (fun w => of_any a w ha)
  have ng := hidden (fun w T => fix (Neg_any a w T ha) hG)
  have na := hidden (fun w => Digits_out a i w hi)
  have nG := hidden (fun w => Digits_out G i w hi)
  have rn := hidden (fun w => rDigits_out X i w hi)
  have ii := hidden (fun w => ints_any (.slice none 0 0) (.slice none 0 0) 0 (fun _ => 0) w (by omega) ⟨none, rfl, fun h => by omega⟩ ⟨none, rfl, fun h => by omega⟩)
  rw [hX] at of_a
  have HT := hidden hT
  have S0 := hidden (St.start w a 24)
  clear hX hG hT ha hi
  simp only [E4.v] at of_a ng na nG rn ⊢
  go_enter Tryd.func8, Tryd.ntmps8
  go_upto_region 1 with fail
  generalize (w.alloc (.cells #[.int .u64 a.x0, .int .u64 a.x1, .int .u64 a.x2, .int .u64 a.x3] 24)) = wB at S0 ⊢
  have x0 := (S0.out.live (w.heap.size, a) (by simp)).c0
  have x1 := (S0.out.live (w.heap.size, a) (by simp)).c1
  have x2 := (S0.out.live (w.heap.size, a) (by simp)).c2
  have x3 := (S0.out.live (w.heap.size, a) (by simp)).c3
  go_wp2_with fail
  refine (na.out _).mono ?_
  rintro e w1 ⟨rfl, hb⟩
  have S1 := hidden (S0.out.keep hb)
  clear hb S0 x0 x1 x2 x3
  have S0 := S1
  clear S1
  generalize w1 = wB at *
  have x0 := (S0.out.live (w.heap.size, a) (by simp)).c0
  have x1 := (S0.out.live (w.heap.size, a) (by simp)).c1
  have x2 := (S0.out.live (w.heap.size, a) (by simp)).c2
  have x3 := (S0.out.live (w.heap.size, a) (by simp)).c3
  go_wp2_with fail
  refine (ng.out _ (S0.out.tb HT.out)).mono ?_
  rintro e w1 ⟨rfl, hb⟩
  have S1 := hidden (S0.out.keep hb)
  clear hb S0 x0 x1 x2 x3
  have S0 := S1
  clear S1
  generalize w1 = wB at *
  go_wp2_with fail
  refine (nG.out _).mono ?_
  rintro e w1 ⟨rfl, hb⟩
  have S1 := hidden (S0.out.keep hb)
  clear hb S0
  have S0 := S1
  clear S1
  generalize w1 = wB at *
  have x0 := (S0.out.live (w.heap.size, a) (by simp)).c0
  have x1 := (S0.out.live (w.heap.size, a) (by simp)).c1
  have x2 := (S0.out.live (w.heap.size, a) (by simp)).c2
  have x3 := (S0.out.live (w.heap.size, a) (by simp)).c3
  go_wp2_with fail
  refine (na.out _).mono ?_
  rintro e w1 ⟨rfl, hb⟩
  have S1 := hidden (S0.out.keep hb)
  clear hb S0 x0 x1 x2 x3
  have S0 := S1
  clear S1
  generalize w1 = wB at *
  have x0 := (S0.out.live (w.heap.size, a) (by simp)).c0
  have x1 := (S0.out.live (w.heap.size, a) (by simp)).c1
  have x2 := (S0.out.live (w.heap.size, a) (by simp)).c2
  have x3 := (S0.out.live (w.heap.size, a) (by simp)).c3
  go_wp2_with fail
  refine (of_a.out _).mono ?_
  rintro e w1 ⟨rfl, hb⟩
  have S1 := hidden (S0.out.keep hb)
  clear hb S0 x0 x1 x2 x3
  have S0 := S1
  clear S1
  generalize w1 = wB at *
  go_wp2_with fail
  refine (rn.out _).mono ?_
  rintro e w1 ⟨rfl, hb⟩
  have S1 := hidden (S0.out.keep hb)
  clear hb S0
  have S0 := S1
  clear S1
  generalize w1 = wB at *
  go_wp2_with fail
  refine (ii.out _).mono ?_
  rintro e w1 ⟨rfl, hb⟩
  have S1 := hidden (S0.out.keep hb)
  clear hb S0
  have S0 := S1
  clear S1
  generalize w1 = wB at *
  go_wp2_with fail
  refine (ii.out _).mono ?_
  rintro e w1 ⟨rfl, hb⟩
  have S1 := hidden (S0.out.keep hb)
  clear hb S0
  have S0 := S1
  clear S1
  generalize w1 = wB at *
  go_wp2_with fail
  refine (apartInts_of w _ (fun _ => none) (fun _ => 0) (fun _ _ => 0) (ap3_nil w _ wB.heap.size (bl_trans S0.out.bel (bl_alloc _ _)) (fun i hi => by
    obtain rfl | rfl | rfl : i = 0 ∨ i = 1 ∨ i = 2 := by omega
    all_goals go_simp))).mono ?_
  rintro e w7 ⟨rfl, hb⟩
  have BE := hidden hb
  clear hb
  go_wp2_with fail
  go_ret
  exact ⟨rfl, BE.out⟩
theorem Sdl_any (a : E4) (i : Int) (w : World) (hT : Tb w) (ha : a.ok) : Calls Tryd.prog 8 #[a.v, .int .i64 i] w fun e w' => e = .returned (.bool true) ∧ Below w.heap.size w w' := by
  by_cases h : i < 1 ∨ 12 < i
  · exact Sdl_out a i w hT ha h
  · obtain ⟨m, rfl⟩ := Int.eq_ofNat_of_zero_le (show 0 ≤ i by omega)
    exact Sdl_in a m w hT ha (by omega) (by omega)
end Go.Proofs.YtglalahmcckjaaaDoor
