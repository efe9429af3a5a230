import Derived.Test.YtnbcfchbhappeaaDoorWide
namespace Go.Proofs.YtnbcfchbhappeaaDoor.Fe
open Go.RowKit

theorem add_math (a b : E5) (ha : a.ok) (hb : b.ok) :
    (∀ i, Fm.Wd (Fm.cr i a.x0 a.x1 a.x2 a.x3 a.x4 + Fm.cr i b.x0 b.x1 b.x2 b.x3 b.x4)) ∧
    Fm.V (Fm.cr 0 a.x0 a.x1 a.x2 a.x3 a.x4 + Fm.cr 0 b.x0 b.x1 b.x2 b.x3 b.x4) (Fm.cr 1 a.x0 a.x1 a.x2 a.x3 a.x4 + Fm.cr 1 b.x0 b.x1 b.x2 b.x3 b.x4) (Fm.cr 2 a.x0 a.x1 a.x2 a.x3 a.x4 + Fm.cr 2 b.x0 b.x1 b.x2 b.x3 b.x4) (Fm.cr 3 a.x0 a.x1 a.x2 a.x3 a.x4 + Fm.cr 3 b.x0 b.x1 b.x2 b.x3 b.x4) (Fm.cr 4 a.x0 a.x1 a.x2 a.x3 a.x4 + Fm.cr 4 b.x0 b.x1 b.x2 b.x3 b.x4) % Fm.P = (a.n + b.n) % Fm.P := by
  obtain ⟨h0, h1, h2, h3, h4⟩ := ha
  obtain ⟨g0, g1, g2, g3, g4⟩ := hb
  refine ⟨fun i => ?_, ?_⟩
  · have x := Fm.cr_ls i _ _ _ _ _ h0 h1 h2 h3 h4
    have y := Fm.cr_ls i _ _ _ _ _ g0 g1 g2 g3 g4
    unfold Fm.Ls at x y; unfold Fm.Wd; omega
  · have x := Fm.cr_V a.x0 a.x1 a.x2 a.x3 a.x4
    have y := Fm.cr_V b.x0 b.x1 b.x2 b.x3 b.x4
    have z := Fm.mod_sub_mul (a.n + b.n) (a.x4 / 2251799813685248 + b.x4 / 2251799813685248)
    rw [← z]
    congr 1
    unfold E5.n
    rw [Int.mul_add]
    generalize Fm.P * (a.x4 / 2251799813685248) = u at *
    generalize Fm.P * (b.x4 / 2251799813685248) = v at *
    unfold Fm.V at *
    omega

/-- the body of Add, the contracts of loose and of least at hand -/
theorem ret5 {F : Nat} {w : World} {args : Array Value} {n m : Int} (h : n % Fm.P = m % Fm.P) (c : Calls Tryd.prog F args w fun e w' => e = .returned (lt (n % Fm.P)) ∧ w' = w) :
    Calls Tryd.prog F args w fun e w' => ∃ r : E5, e = .returned (.tuple #[.int .u64 r.x0, .int .u64 r.x1, .int .u64 r.x2, .int .u64 r.x3, .int .u64 r.x4]) ∧ r.is m ∧ w' = w :=
  c.mono fun e w' q => ⟨lst n, q.1.trans (by rw [lt_is]), by unfold E5.is lst; rw [h], q.2⟩

theorem bcell {W w1 : World} (hb : Below W.heap.size W w1) : (∀ b o, b < W.heap.size → w1.cell? ⟨b, o, none⟩ = W.cell? ⟨b, o, none⟩) ∧ (∀ b o, b < W.heap.size → w1.frozen? ⟨b, o, none⟩ = W.frozen? ⟨b, o, none⟩) :=
  ⟨fun b o h => hb.cell (p := ⟨b, o, none⟩) h, fun b o h => hb.frozen (p := ⟨b, o, none⟩) h⟩

theorem bl_trans {w w1 w2 : World} (h1 : Below w.heap.size w w1) (h2 : Below w1.heap.size w1 w2) : Below w.heap.size w w2 := h1.trans (h2.mono h1.size)
theorem bl_alloc (w : World) (o : Obj) : Below w.heap.size w (w.alloc o) := (Below.refl _ _).alloc (Nat.le_refl _) _
theorem bl_alloc2 (w : World) (o p : Obj) : Below w.heap.size w ((w.alloc o).alloc p) := bl_trans (bl_alloc w o) (bl_alloc _ p)
theorem bl_alloc3 (w : World) (o p q : Obj) : Below w.heap.size w (((w.alloc o).alloc p).alloc q) := bl_trans (bl_alloc2 w o p) (bl_alloc _ q)
theorem bl_set5 {w w3 : World} {b : Nat} (v0 v1 v2 v3 v4 : Value) (h : Below w.heap.size w w3) (hb : w.heap.size ≤ b) :
    Below w.heap.size w (((((w3.setCell ⟨b, 0, none⟩ v0).setCell ⟨b, 1, none⟩ v1).setCell ⟨b, 2, none⟩ v2).setCell ⟨b, 3, none⟩ v3).setCell ⟨b, 4, none⟩ v4) :=
  ((((h.setCell hb _).setCell hb _).setCell hb _).setCell hb _).setCell hb _

set_option maxHeartbeats 1000000 in
theorem Add_any (a b : E5) (w : World) (ha : a.ok) (hb : b.ok) :
    Calls Tryd.prog 75 #[a.v, b.v] w fun e w' => ∃ r : E5, e = .returned r.v ∧ r.is (a.n + b.n) ∧ Below w.heap.size w w' := by
  have c1 := fun w => loose_any a w ha
  have c2 := fun w => loose_any b w hb
  obtain ⟨m1, m2⟩ := add_math a b ha hb
  have c3 := fun w => ret5 m2 (least_raw _ _ _ _ _ w (m1 0) (m1 1) (m1 2) (m1 3) (m1 4))
  have b1 := fun i => m1 i
  have l1 := fun i => Fm.cr_ls i _ _ _ _ _ ha.1 ha.2.1 ha.2.2.1 ha.2.2.2.1 ha.2.2.2.2
  have l2 := fun i => Fm.cr_ls i _ _ _ _ _ hb.1 hb.2.1 hb.2.2.1 hb.2.2.2.1 hb.2.2.2.2
  have p0 := l1 0; have p1 := l1 1; have p2 := l1 2; have p3 := l1 3; have p4 := l1 4
  have q0 := l2 0; have q1 := l2 1; have q2 := l2 2; have q3 := l2 3; have q4 := l2 4
  clear b1 l1 l2 m1 m2
  generalize Fm.cr 0 a.x0 a.x1 a.x2 a.x3 a.x4 = r0 at *
  generalize Fm.cr 1 a.x0 a.x1 a.x2 a.x3 a.x4 = r1 at *
  generalize Fm.cr 2 a.x0 a.x1 a.x2 a.x3 a.x4 = r2 at *
  generalize Fm.cr 3 a.x0 a.x1 a.x2 a.x3 a.x4 = r3 at *
  generalize Fm.cr 4 a.x0 a.x1 a.x2 a.x3 a.x4 = r4 at *
  generalize Fm.cr 0 b.x0 b.x1 b.x2 b.x3 b.x4 = s0 at *
  generalize Fm.cr 1 b.x0 b.x1 b.x2 b.x3 b.x4 = s1 at *
  generalize Fm.cr 2 b.x0 b.x1 b.x2 b.x3 b.x4 = s2 at *
  generalize Fm.cr 3 b.x0 b.x1 b.x2 b.x3 b.x4 = s3 at *
  generalize Fm.cr 4 b.x0 b.x1 b.x2 b.x3 b.x4 = s4 at *
  unfold Fm.Ls at p0 p1 p2 p3 p4 q0 q1 q2 q3 q4
  generalize a.n + b.n = N at *
  have C1 := hidden c1
  have C2 := hidden c2
  have C3 := hidden c3
  clear c1 c2 c3 ha hb
  simp only [E5.v]
  go_enter Tryd.func75, Tryd.ntmps75
  go_wp2_with fail
  refine (C1.out _).mono ?_
  rintro e w1 ⟨rfl, hb1⟩
  clear C1
  obtain ⟨hc1, hf1⟩ := bcell hb1
  go_wp2_with fail
  refine (C2.out _).mono ?_
  rintro e w2 ⟨rfl, hb2⟩
  clear C2
  obtain ⟨hc2, hf2⟩ := bcell hb2
  have hz1 : w.heap.size + 2 < w1.heap.size := by have := hb1.size; simp at this; omega
  go_wp2_with fail
  refine (C3.out _).mono ?_
  rintro e w3 ⟨r, rfl, hr, rfl⟩
  clear C3
  go_wp2_with fail
  refine bodyPost_ret (v := .agg #[.int .u64 r.x0, .int .u64 r.x1, .int .u64 r.x2, .int .u64 r.x3, .int .u64 r.x4]) (by simp [results, Tryd.results75, go_sem, hc2, hc1, hz1]) rfl ⟨r, rfl, hr, ?_⟩
  exact bl_set5 _ _ _ _ _ (bl_trans (bl_trans (bl_alloc3 w _ _ _) hb1) hb2) (by omega)

theorem sub_math (a b : E5) (ha : a.ok) (hb : b.ok) :
    (Fm.Wd (Fm.cr 0 a.x0 a.x1 a.x2 a.x3 a.x4 + 4503599627370458 - Fm.cr 0 b.x0 b.x1 b.x2 b.x3 b.x4) ∧ ∀ i, Fm.Wd (Fm.cr i a.x0 a.x1 a.x2 a.x3 a.x4 + 4503599627370494 - Fm.cr i b.x0 b.x1 b.x2 b.x3 b.x4)) ∧
    Fm.V (Fm.cr 0 a.x0 a.x1 a.x2 a.x3 a.x4 + 4503599627370458 - Fm.cr 0 b.x0 b.x1 b.x2 b.x3 b.x4) (Fm.cr 1 a.x0 a.x1 a.x2 a.x3 a.x4 + 4503599627370494 - Fm.cr 1 b.x0 b.x1 b.x2 b.x3 b.x4) (Fm.cr 2 a.x0 a.x1 a.x2 a.x3 a.x4 + 4503599627370494 - Fm.cr 2 b.x0 b.x1 b.x2 b.x3 b.x4) (Fm.cr 3 a.x0 a.x1 a.x2 a.x3 a.x4 + 4503599627370494 - Fm.cr 3 b.x0 b.x1 b.x2 b.x3 b.x4) (Fm.cr 4 a.x0 a.x1 a.x2 a.x3 a.x4 + 4503599627370494 - Fm.cr 4 b.x0 b.x1 b.x2 b.x3 b.x4) % Fm.P = (a.n - b.n) % Fm.P := by
  obtain ⟨h0, h1, h2, h3, h4⟩ := ha
  obtain ⟨g0, g1, g2, g3, g4⟩ := hb
  refine ⟨⟨?_, fun i => ?_⟩, ?_⟩
  · have x := Fm.cr_ls 0 _ _ _ _ _ h0 h1 h2 h3 h4
    have y := Fm.cr_ls 0 _ _ _ _ _ g0 g1 g2 g3 g4
    unfold Fm.Ls at x y; unfold Fm.Wd; omega
  · have x := Fm.cr_ls i _ _ _ _ _ h0 h1 h2 h3 h4
    have y := Fm.cr_ls i _ _ _ _ _ g0 g1 g2 g3 g4
    unfold Fm.Ls at x y; unfold Fm.Wd; omega
  · have x := Fm.cr_V a.x0 a.x1 a.x2 a.x3 a.x4
    have y := Fm.cr_V b.x0 b.x1 b.x2 b.x3 b.x4
    have z := Fm.mod_sub_mul (a.n - b.n) (a.x4 / 2251799813685248 - b.x4 / 2251799813685248 - 2)
    rw [← z]
    congr 1
    unfold E5.n
    rw [Int.mul_sub, Int.mul_sub]
    have hp : Fm.P * 2 = 115792089237316195423570985008687907853269984665640564039457584007913129639898 := rfl
    rw [hp]
    generalize Fm.P * (a.x4 / 2251799813685248) = u at *
    generalize Fm.P * (b.x4 / 2251799813685248) = v at *
    unfold Fm.V at *
    omega

set_option maxHeartbeats 1000000 in
theorem Sub_any (a b : E5) (w : World) (ha : a.ok) (hb : b.ok) :
    Calls Tryd.prog 38 #[a.v, b.v] w fun e w' => ∃ r : E5, e = .returned r.v ∧ r.is (a.n - b.n) ∧ Below w.heap.size w w' := by
  have c1 := fun w => loose_any a w ha
  have c2 := fun w => loose_any b w hb
  obtain ⟨m1, m2⟩ := sub_math a b ha hb
  have c3 := fun w => ret5 m2 (least_raw _ _ _ _ _ w m1.1 (m1.2 1) (m1.2 2) (m1.2 3) (m1.2 4))
  have l1 := fun i => Fm.cr_ls i _ _ _ _ _ ha.1 ha.2.1 ha.2.2.1 ha.2.2.2.1 ha.2.2.2.2
  have l2 := fun i => Fm.cr_ls i _ _ _ _ _ hb.1 hb.2.1 hb.2.2.1 hb.2.2.2.1 hb.2.2.2.2
  have p0 := l1 0; have p1 := l1 1; have p2 := l1 2; have p3 := l1 3; have p4 := l1 4
  have q0 := l2 0; have q1 := l2 1; have q2 := l2 2; have q3 := l2 3; have q4 := l2 4
  clear l1 l2 m1 m2
  generalize Fm.cr 0 a.x0 a.x1 a.x2 a.x3 a.x4 = r0 at *
  generalize Fm.cr 1 a.x0 a.x1 a.x2 a.x3 a.x4 = r1 at *
  generalize Fm.cr 2 a.x0 a.x1 a.x2 a.x3 a.x4 = r2 at *
  generalize Fm.cr 3 a.x0 a.x1 a.x2 a.x3 a.x4 = r3 at *
  generalize Fm.cr 4 a.x0 a.x1 a.x2 a.x3 a.x4 = r4 at *
  generalize Fm.cr 0 b.x0 b.x1 b.x2 b.x3 b.x4 = s0 at *
  generalize Fm.cr 1 b.x0 b.x1 b.x2 b.x3 b.x4 = s1 at *
  generalize Fm.cr 2 b.x0 b.x1 b.x2 b.x3 b.x4 = s2 at *
  generalize Fm.cr 3 b.x0 b.x1 b.x2 b.x3 b.x4 = s3 at *
  generalize Fm.cr 4 b.x0 b.x1 b.x2 b.x3 b.x4 = s4 at *
  unfold Fm.Ls at p0 p1 p2 p3 p4 q0 q1 q2 q3 q4
  generalize a.n - b.n = N at *
  have C1 := hidden c1
  have C2 := hidden c2
  have C3 := hidden c3
  clear c1 c2 c3 ha hb
  simp only [E5.v]
  go_enter Tryd.func38, Tryd.ntmps38
  go_wp2_with fail
  refine (C1.out _).mono ?_
  rintro e w1 ⟨rfl, hb1⟩
  clear C1
  obtain ⟨hc1, hf1⟩ := bcell hb1
  go_wp2_with fail
  refine (C2.out _).mono ?_
  rintro e w2 ⟨rfl, hb2⟩
  clear C2
  obtain ⟨hc2, hf2⟩ := bcell hb2
  have hz1 : w.heap.size + 2 < w1.heap.size := by have := hb1.size; simp at this; omega
  go_wp2_with fail
  refine (C3.out _).mono ?_
  rintro e w3 ⟨r, rfl, hr, rfl⟩
  clear C3
  go_wp2_with fail
  refine bodyPost_ret (v := .agg #[.int .u64 r.x0, .int .u64 r.x1, .int .u64 r.x2, .int .u64 r.x3, .int .u64 r.x4]) (by simp [results, Tryd.results38, go_sem, hc2, hc1, hz1]) rfl ⟨r, rfl, hr, ?_⟩
  exact bl_set5 _ _ _ _ _ (bl_trans (bl_trans (bl_alloc3 w _ _ _) hb1) hb2) (by omega)

set_option maxHeartbeats 1000000 in
theorem Neg_any (a : E5) (w : World) (ha : a.ok) :
    Calls Tryd.prog 19 #[a.v] w fun e w' => ∃ r : E5, e = .returned r.v ∧ r.is (-a.n) ∧ Below w.heap.size w w' := by
  have c1 := fun w => Sub_any ⟨0, 0, 0, 0, 0⟩ a w ⟨by unfold Fm.Wd; simp, by unfold Fm.Wd; simp, by unfold Fm.Wd; simp, by unfold Fm.Wd; simp, by unfold Fm.Wd; simp⟩ ha
  have e0 : (⟨0, 0, 0, 0, 0⟩ : E5).n - a.n = -a.n := by
    have : (⟨0, 0, 0, 0, 0⟩ : E5).n = 0 := rfl
    rw [this, Int.zero_sub]
  simp only [e0] at c1
  generalize -a.n = N at *
  simp only [E5.v] at c1 ⊢
  have C1 := hidden c1
  clear c1 ha e0
  go_enter Tryd.func19, Tryd.ntmps19
  go_wp2_with fail
  refine (C1.out _).mono ?_
  rintro e w1 ⟨r, rfl, hr, hb1⟩
  clear C1
  obtain ⟨hc1, hf1⟩ := bcell hb1
  have hz1 : w.heap.size + 1 < w1.heap.size := by have := hb1.size; simp at this; omega
  go_wp2_with fail
  refine bodyPost_ret (v := .agg #[.int .u64 r.x0, .int .u64 r.x1, .int .u64 r.x2, .int .u64 r.x3, .int .u64 r.x4]) (by simp [results, Tryd.results19, go_sem, hc1]) rfl ⟨r, rfl, hr, ?_⟩
  exact bl_set5 _ _ _ _ _ (bl_trans (bl_alloc2 w _ _) hb1) (by omega)

theorem int_is (n : Int) (h : Fm.Wd n) : lst n = ⟨n % 2251799813685248, n / 2251799813685248, 0, 0, 0⟩ := by
  unfold Fm.Wd at h
  have e : n % Fm.P = n := Int.emod_eq_of_lt h.1 (by unfold Fm.P; omega)
  unfold lst
  rw [e]
  simp only [Fm.lim]
  congr 1 <;> omega

set_option maxHeartbeats 1000000 in
theorem Int_any (n : Int) (w : World) (h : Fm.Wd n) :
    Calls Tryd.prog 18 #[.int .u64 n] w fun e w' => ∃ r : E5, e = .returned r.v ∧ r.is n ∧ Below w.heap.size w w' := by
  refine Calls.mono (R := fun e w' => e = .returned (lst n).v ∧ Below w.heap.size w w') ?_ (fun e w' h => ⟨lst n, h.1, rfl, h.2⟩)
  rw [int_is n h]
  unfold Fm.Wd at h
  have k := mask51 n h.1 h.2
  simp only [E5.v]
  go_enter Tryd.func18, Tryd.ntmps18
  go_wp2
  refine bodyPost_ret (v := .agg #[.int .u64 (n % 2251799813685248), .int .u64 (n / 2251799813685248), .int .u64 0, .int .u64 0, .int .u64 0]) (by simp [results, Tryd.results18, go_sem]) rfl ⟨rfl, ?_⟩
  exact bl_alloc w _

set_option maxHeartbeats 1000000 in
theorem One_any (a : E5) (w : World) :
    Calls Tryd.prog 76 #[a.v] w fun e w' => ∃ r : E5, e = .returned r.v ∧ r.is 1 ∧ Below w.heap.size w w' := by
  have c1 := fun w => Int_any 1 w ⟨by decide, by decide⟩
  simp only [E5.v] at c1 ⊢
  have C1 := hidden c1
  clear c1
  go_enter Tryd.func76, Tryd.ntmps76
  go_wp2_with fail
  refine (C1.out _).mono ?_
  rintro e w1 ⟨r, rfl, hr, hb1⟩
  clear C1
  obtain ⟨hc1, hf1⟩ := bcell hb1
  have hz1 : w.heap.size + 1 < w1.heap.size := by have := hb1.size; simp at this; omega
  go_wp2_with fail
  refine bodyPost_ret (v := .agg #[.int .u64 r.x0, .int .u64 r.x1, .int .u64 r.x2, .int .u64 r.x3, .int .u64 r.x4]) (by simp [results, Tryd.results76, go_sem, hc1]) rfl ⟨r, rfl, hr, ?_⟩
  exact bl_set5 _ _ _ _ _ (bl_trans (bl_alloc2 w _ _) hb1) (by omega)

/-- are they the same limbs? -/
def E5.same (a b : E5) : Bool := a.x0 == b.x0 && (a.x1 == b.x1 && (a.x2 == b.x2 && (a.x3 == b.x3 && a.x4 == b.x4)))
theorem E5.same_iff (a b : E5) : a.same b = true ↔ a = b := by
  obtain ⟨a0, a1, a2, a3, a4⟩ := a
  obtain ⟨b0, b1, b2, b3, b4⟩ := b
  simp [E5.same]
theorem E5.same_self (a : E5) : a.same a = true := (E5.same_iff a a).2 rfl
theorem eqItems_ints {P : Program} (w : World) {e : TypeId} {k : IntKind} (d : Nat) (hp : P.plainKey e = true) (hu : P.underlying e = some (.int k)) (xs ys : Array Value) (f g : Nat → Int) :
    ∀ is : List Nat, (∀ i ∈ is, xs[i]? = some (.int k (f i)) ∧ ys[i]? = some (.int k (g i))) → (Op.eqItems (d + 1) e 1 xs ys is).run P w = .ok (is.all fun i => f i == g i) w
  | [], _ => by simp [Op.eqItems]
  | i :: is, h => by
    have hi := h i (by simp)
    have ih := eqItems_ints w d hp hu xs ys f g is (fun j hj => h j (by simp [hj]))
    simp only [Op.eqItems, Sem.run_bind, Nat.mul_one, run_part_plain w hp hi.1, run_part_plain w hp hi.2, Result.andThen_ok, run_equalIn_int w d e k k _ _ hu, List.all_cons]
    by_cases hx : f i = g i
    · simp [hx, ih]
    · simp [hx]

theorem eq5 (a b : E5) (w : World) : (Op.equalIn 10000 31 a.v b.v).run Tryd.prog w = .ok (a.same b) w := by
  have hi : Tryd.prog.info? 29 = some (Tryd.prog.info? 29).get! := by kernel_rfl
  have hc : Tryd.prog.cellsOf 29 = 1 := by kernel_rfl
  unfold E5.v
  rw [run_equalIn_array w 9999 _ _ (by kernel_rfl : Tryd.prog.underlying 31 = some (.array 5 29)) hi, hc]
  rw [eqItems_ints w (k := .u64) 9998 (by kernel_rfl) (by kernel_rfl) _ _ (fun i => [a.x0, a.x1, a.x2, a.x3, a.x4].getD i 0) (fun i => [b.x0, b.x1, b.x2, b.x3, b.x4].getD i 0)]
  · rw [show List.range 5 = [0, 1, 2, 3, 4] from rfl]
    simp only [List.all_cons, List.all_nil, Bool.and_true]
    rfl
  · intro i hi
    have : i < 5 := List.mem_range.1 hi
    match i, this with
    | 0, _ => exact ⟨rfl, rfl⟩
    | 1, _ => exact ⟨rfl, rfl⟩
    | 2, _ => exact ⟨rfl, rfl⟩
    | 3, _ => exact ⟨rfl, rfl⟩
    | 4, _ => exact ⟨rfl, rfl⟩

theorem zero_is (n : Int) : lst n = ⟨0, 0, 0, 0, 0⟩ ↔ n % Fm.P = 0 := by
  constructor
  · intro h
    have := lst_n n
    rw [h] at this
    rw [← this]; rfl
  · intro h
    unfold lst; rw [h]; rfl

set_option maxHeartbeats 1000000 in
theorem IsZero_any (a : E5) (w : World) (ha : a.ok) :
    Calls Tryd.prog 16 #[a.v] w fun e w' => e = .returned (.bool (decide (a.n % Fm.P = 0))) ∧ Below w.heap.size w w' := by
  have c1 := fun w => Least_any a w ha
  have E := fun r w => eq5 r ⟨0, 0, 0, 0, 0⟩ w
  simp only [E5.v] at c1 E ⊢
  have C1 := hidden c1
  clear c1
  go_enter Tryd.func16, Tryd.ntmps16
  go_wp2_with fail
  refine (C1.out _).mono ?_
  rintro e w1 ⟨r, rfl, hr, hb1⟩
  clear C1
  have E1 := E r
  clear E
  have hv : r.same ⟨0, 0, 0, 0, 0⟩ = decide (a.n % Fm.P = 0) := by
    rw [Bool.eq_iff_iff, E5.same_iff, hr, zero_is, decide_eq_true_iff]
  generalize r.same ⟨0, 0, 0, 0, 0⟩ = b at *
  go_wp2_with fail
  go_ret
  exact ⟨rfl, bl_trans (bl_alloc w _) hb1⟩

end Go.Proofs.YtnbcfchbhappeaaDoor.Fe
