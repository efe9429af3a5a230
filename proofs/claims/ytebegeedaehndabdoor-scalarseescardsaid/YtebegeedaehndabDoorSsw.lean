import Derived.Test.YtebegeedaehndabDoorSsl
namespace Go.Proofs.YtebegeedaehndabDoor
open Go.RowKit

theorem selE_lst (p : Int) (a b : E4) : selE p (lst a.n) (lst b.n) = lst (selE p a b).n := by
  unfold selE
  split <;> rfl
theorem bit_same (a : E4) (ha : a.ok) (i : Int) : ∃ v : Int, (∀ w, Tb w → Calls Tryd.prog 19 #[a.v, .int .i64 i] w fun e w' => e = .returned (.int .i64 v) ∧ Below w.heap.size w w') ∧
    (∀ w, Calls Tryd.prog 20 #[(lst a.n).v, .int .i64 i] w fun e w' => e = .returned (.int .i64 v) ∧ Below w.heap.size w w') := by
  by_cases h0 : i < 0
  · exact ⟨0, fun w _ => Bit_out a i w (Or.inl h0), fun w => rBit_out _ i w (Or.inl h0)⟩
  by_cases h1 : 256 ≤ i
  · exact ⟨0, fun w _ => Bit_out a i w (Or.inr (by omega)), fun w => rBit_out _ i w (Or.inr h1)⟩
  obtain ⟨k, hk⟩ := Int.eq_ofNat_of_zero_le (show 0 ≤ i by omega)
  subst hk
  by_cases h2 : k ≤ 252
  · exact ⟨_, fun w T => Bit_in a k w T ha h2, fun w => rBit_in _ k w (lst_ok _) (by omega)⟩
  · refine ⟨0, fun w _ => Bit_out a k w (Or.inr (by omega)), fun w => ?_⟩
    have h := rBit_in (lst a.n) k w (lst_ok _) (by omega)
    rw [bit_high a.n k (by omega) (by omega)] at h
    exact h

set_option maxRecDepth 100000 in
set_option maxHeartbeats 32000000 in
theorem sees_any (a b : E4) (i p : Int) (w : World) (hT : Tb w) (ha : a.ok) (hb : b.ok) : Calls Tryd.prog 4 #[a.v, b.v, .int .i64 i, .int .i64 p] w fun e w' => e = .returned (.bool true) ∧ Below w.heap.size w w' := by
  obtain ⟨X, hX⟩ : ∃ t : E4, lst a.n = t := ⟨_, rfl⟩
  obtain ⟨Y, hY⟩ : ∃ t : E4, lst b.n = t := ⟨_, rfl⟩
  obtain ⟨Z, hZ⟩ : ∃ t : E4, lst (selE p a b).n = t := ⟨_, rfl⟩
  obtain ⟨C, hC⟩ : ∃ c, X.same Y = c := ⟨_, rfl⟩
  obtain ⟨D, hD⟩ : ∃ c, decide (a.n % Sm.L = 0) = c := ⟨_, rfl⟩
  obtain ⟨v, hv1, hv2⟩ := bit_same a ha i
  have hD2 : X.same zero4 = D := by
    rw [← hD, Bool.eq_iff_iff, E4.same_iff, ← hX]
    simp only [zero4, decide_eq_true_eq]
    exact zero_is a.n
  have of_a := hidden (fun w => of_any a w ha)
  have of_b := hidden (fun w => of_any b w hb)
  have sm := hidden (fun w T => Same_any a b w T ha hb)
  have ss := hidden (fun w T => Same_any a a w T ha ha)
  have rs := hidden (fun w => rSame_any X Y w)
  have iz := hidden (fun w T => IsZero_any a w T ha)
  have rz := hidden (fun w => rIsZero_any X w)
  have bt := hidden hv1
  have rb := hidden hv2
  have sl := hidden (fun w T => Select_any p a b w T ha hb)
  have rl := hidden (fun w => rSelect_any p X Y w)
  have iq := hidden (fun w => is_any Z w)
  have hZ2 : selE p X Y = Z := by rw [← hX, ← hY, ← hZ]; exact selE_lst p a b
  rw [hX] at of_a sm ss rb
  rw [hY] at of_b sm
  rw [hC] at sm rs
  rw [E4.same_self] at ss
  rw [hD] at iz
  rw [hD2] at rz
  rw [hZ] at sl
  rw [hZ2] at rl
  have HT := hidden hT
  have s0 := (((St.start w a 24).new b 24).new a 28).new b 28
  simp only [World.size_alloc] at s0
  have S0 := hidden s0
  clear s0 hX hY hZ hC hD hD2 hZ2 hv1 hv2 ha hb hT
  simp only [E4.v] at of_a of_b sm ss rs iz rz bt rb sl rl iq ⊢
  go_enter Tryd.func4, Tryd.ntmps4
  go_upto_region 3 with fail
  generalize ((((w.alloc (.cells #[.int .u64 a.x0, .int .u64 a.x1, .int .u64 a.x2, .int .u64 a.x3] 24)).alloc (.cells #[.int .u64 b.x0, .int .u64 b.x1, .int .u64 b.x2, .int .u64 b.x3] 24)).alloc (.cells #[.int .u64 a.x0, .int .u64 a.x1, .int .u64 a.x2, .int .u64 a.x3] 28)).alloc (.cells #[.int .u64 b.x0, .int .u64 b.x1, .int .u64 b.x2, .int .u64 b.x3] 28)) = wB at S0 ⊢
  have x0 := (S0.out.live (w.heap.size, a) (by simp)).c0
  have x1 := (S0.out.live (w.heap.size, a) (by simp)).c1
  have x2 := (S0.out.live (w.heap.size, a) (by simp)).c2
  have x3 := (S0.out.live (w.heap.size, a) (by simp)).c3
  go_wp2_with fail
  refine (of_a.out _).mono ?_
  rintro e w1 ⟨rfl, hb1⟩
  have S1 := hidden (((S0.out.keep hb1).new X 31).sub (M := [(w1.heap.size, X), (w.heap.size + 1 + 1 + 1, b), (w.heap.size + 1 + 1, a), (w.heap.size + 1, b)]) (by simp))
  clear x0 x1 x2 x3 hb1 S0
  go_upto_region 4 with fail
  generalize (w1.alloc (.cells #[.int .u64 X.x0, .int .u64 X.x1, .int .u64 X.x2, .int .u64 X.x3] 31)) = wC at S1 ⊢
  generalize w1.heap.size = P at S1 ⊢
  have x0 := (S1.out.live (w.heap.size + 1, b) (by simp)).c0
  have x1 := (S1.out.live (w.heap.size + 1, b) (by simp)).c1
  have x2 := (S1.out.live (w.heap.size + 1, b) (by simp)).c2
  have x3 := (S1.out.live (w.heap.size + 1, b) (by simp)).c3
  go_wp2_with fail
  refine (of_b.out _).mono ?_
  rintro e w2 ⟨rfl, hb2⟩
  have S2 := hidden (((S1.out.keep hb2).new Y 31).sub (M := [(w2.heap.size, Y), (P, X), (w.heap.size + 1 + 1 + 1, b), (w.heap.size + 1 + 1, a)]) (by simp))
  clear x0 x1 x2 x3 hb2 S1
  go_upto_region 5 with fail
  generalize (w2.alloc (.cells #[.int .u64 Y.x0, .int .u64 Y.x1, .int .u64 Y.x2, .int .u64 Y.x3] 31)) = wD at S2 ⊢
  generalize w2.heap.size = Q at S2 ⊢
  have KSt : Hid (∀ w' : World, St w [(Q, Y), (P, X), (w.heap.size + 1 + 1 + 1, b), (w.heap.size + 1 + 1, a)] [] w' → (fun w' => St w [(Q, Y), (P, X), (w.heap.size + 1 + 1 + 1, b), (w.heap.size + 1 + 1, a)] [] w' ∧ w'.cell? ⟨Q, 0, none⟩ = some (.int .u64 Y.x0) ∧ w'.cell? ⟨Q, 1, none⟩ = some (.int .u64 Y.x1) ∧ w'.cell? ⟨Q, 2, none⟩ = some (.int .u64 Y.x2) ∧ w'.cell? ⟨Q, 3, none⟩ = some (.int .u64 Y.x3) ∧ w'.cell? ⟨P, 0, none⟩ = some (.int .u64 X.x0) ∧ w'.cell? ⟨P, 1, none⟩ = some (.int .u64 X.x1) ∧ w'.cell? ⟨P, 2, none⟩ = some (.int .u64 X.x2) ∧ w'.cell? ⟨P, 3, none⟩ = some (.int .u64 X.x3) ∧ w'.cell? ⟨w.heap.size + 1 + 1 + 1, 0, none⟩ = some (.int .u64 b.x0) ∧ w'.cell? ⟨w.heap.size + 1 + 1 + 1, 1, none⟩ = some (.int .u64 b.x1) ∧ w'.cell? ⟨w.heap.size + 1 + 1 + 1, 2, none⟩ = some (.int .u64 b.x2) ∧ w'.cell? ⟨w.heap.size + 1 + 1 + 1, 3, none⟩ = some (.int .u64 b.x3) ∧ w'.cell? ⟨w.heap.size + 1 + 1, 0, none⟩ = some (.int .u64 a.x0) ∧ w'.cell? ⟨w.heap.size + 1 + 1, 1, none⟩ = some (.int .u64 a.x1) ∧ w'.cell? ⟨w.heap.size + 1 + 1, 2, none⟩ = some (.int .u64 a.x2) ∧ w'.cell? ⟨w.heap.size + 1 + 1, 3, none⟩ = some (.int .u64 a.x3)) w') := hidden (fun w' h => ⟨h, (h.live (Q, Y) (by simp)).c0, (h.live (Q, Y) (by simp)).c1, (h.live (Q, Y) (by simp)).c2, (h.live (Q, Y) (by simp)).c3, (h.live (P, X) (by simp)).c0, (h.live (P, X) (by simp)).c1, (h.live (P, X) (by simp)).c2, (h.live (P, X) (by simp)).c3, (h.live (w.heap.size + 1 + 1 + 1, b) (by simp)).c0, (h.live (w.heap.size + 1 + 1 + 1, b) (by simp)).c1, (h.live (w.heap.size + 1 + 1 + 1, b) (by simp)).c2, (h.live (w.heap.size + 1 + 1 + 1, b) (by simp)).c3, (h.live (w.heap.size + 1 + 1, a) (by simp)).c0, (h.live (w.heap.size + 1 + 1, a) (by simp)).c1, (h.live (w.heap.size + 1 + 1, a) (by simp)).c2, (h.live (w.heap.size + 1 + 1, a) (by simp)).c3⟩)
  have KTb : Hid (∀ w' : World, St w [(Q, Y), (P, X), (w.heap.size + 1 + 1 + 1, b), (w.heap.size + 1 + 1, a)] [] w' → Tb w') := hidden (fun w' h => h.tb HT.out)
  have K0 : Hid ((fun w' => St w [(Q, Y), (P, X), (w.heap.size + 1 + 1 + 1, b), (w.heap.size + 1 + 1, a)] [] w' ∧ w'.cell? ⟨Q, 0, none⟩ = some (.int .u64 Y.x0) ∧ w'.cell? ⟨Q, 1, none⟩ = some (.int .u64 Y.x1) ∧ w'.cell? ⟨Q, 2, none⟩ = some (.int .u64 Y.x2) ∧ w'.cell? ⟨Q, 3, none⟩ = some (.int .u64 Y.x3) ∧ w'.cell? ⟨P, 0, none⟩ = some (.int .u64 X.x0) ∧ w'.cell? ⟨P, 1, none⟩ = some (.int .u64 X.x1) ∧ w'.cell? ⟨P, 2, none⟩ = some (.int .u64 X.x2) ∧ w'.cell? ⟨P, 3, none⟩ = some (.int .u64 X.x3) ∧ w'.cell? ⟨w.heap.size + 1 + 1 + 1, 0, none⟩ = some (.int .u64 b.x0) ∧ w'.cell? ⟨w.heap.size + 1 + 1 + 1, 1, none⟩ = some (.int .u64 b.x1) ∧ w'.cell? ⟨w.heap.size + 1 + 1 + 1, 2, none⟩ = some (.int .u64 b.x2) ∧ w'.cell? ⟨w.heap.size + 1 + 1 + 1, 3, none⟩ = some (.int .u64 b.x3) ∧ w'.cell? ⟨w.heap.size + 1 + 1, 0, none⟩ = some (.int .u64 a.x0) ∧ w'.cell? ⟨w.heap.size + 1 + 1, 1, none⟩ = some (.int .u64 a.x1) ∧ w'.cell? ⟨w.heap.size + 1 + 1, 2, none⟩ = some (.int .u64 a.x2) ∧ w'.cell? ⟨w.heap.size + 1 + 1, 3, none⟩ = some (.int .u64 a.x3)) _) := hidden (KSt.out _ (S2.out).drew)
  go_region_held3 (fun w' => St w [(Q, Y), (P, X), (w.heap.size + 1 + 1 + 1, b), (w.heap.size + 1 + 1, a)] [] w' ∧ w'.cell? ⟨Q, 0, none⟩ = some (.int .u64 Y.x0) ∧ w'.cell? ⟨Q, 1, none⟩ = some (.int .u64 Y.x1) ∧ w'.cell? ⟨Q, 2, none⟩ = some (.int .u64 Y.x2) ∧ w'.cell? ⟨Q, 3, none⟩ = some (.int .u64 Y.x3) ∧ w'.cell? ⟨P, 0, none⟩ = some (.int .u64 X.x0) ∧ w'.cell? ⟨P, 1, none⟩ = some (.int .u64 X.x1) ∧ w'.cell? ⟨P, 2, none⟩ = some (.int .u64 X.x2) ∧ w'.cell? ⟨P, 3, none⟩ = some (.int .u64 X.x3) ∧ w'.cell? ⟨w.heap.size + 1 + 1 + 1, 0, none⟩ = some (.int .u64 b.x0) ∧ w'.cell? ⟨w.heap.size + 1 + 1 + 1, 1, none⟩ = some (.int .u64 b.x1) ∧ w'.cell? ⟨w.heap.size + 1 + 1 + 1, 2, none⟩ = some (.int .u64 b.x2) ∧ w'.cell? ⟨w.heap.size + 1 + 1 + 1, 3, none⟩ = some (.int .u64 b.x3) ∧ w'.cell? ⟨w.heap.size + 1 + 1, 0, none⟩ = some (.int .u64 a.x0) ∧ w'.cell? ⟨w.heap.size + 1 + 1, 1, none⟩ = some (.int .u64 a.x1) ∧ w'.cell? ⟨w.heap.size + 1 + 1, 2, none⟩ = some (.int .u64 a.x2) ∧ w'.cell? ⟨w.heap.size + 1 + 1, 3, none⟩ = some (.int .u64 a.x3)) (first | with_reducible exact K0.out | with_reducible exact hk.out)
    (first | (go_at_call 15; with_reducible refine (sm.out _ (KTb.out _ (And.left (by assumption)))).mono ?_; rintro e wn ⟨rfl, hb⟩; have hk := hidden (KSt.out _ ((show St w [(Q, Y), (P, X), (w.heap.size + 1 + 1 + 1, b), (w.heap.size + 1 + 1, a)] [] _ from And.left (by assumption)).keep hb))) | (go_at_call 16; with_reducible refine (rs.out _).mono ?_; rintro e wn ⟨rfl, hb⟩; have hk := hidden (KSt.out _ ((show St w [(Q, Y), (P, X), (w.heap.size + 1 + 1 + 1, b), (w.heap.size + 1 + 1, a)] [] _ from And.left (by assumption)).keep hb))) | (go_at_call 17; with_reducible refine (iz.out _ (KTb.out _ (And.left (by assumption)))).mono ?_; rintro e wn ⟨rfl, hb⟩; have hk := hidden (KSt.out _ ((show St w [(Q, Y), (P, X), (w.heap.size + 1 + 1 + 1, b), (w.heap.size + 1 + 1, a)] [] _ from And.left (by assumption)).keep hb))) | (go_at_call 18; with_reducible refine (rz.out _).mono ?_; rintro e wn ⟨rfl, hb⟩; have hk := hidden (KSt.out _ ((show St w [(Q, Y), (P, X), (w.heap.size + 1 + 1 + 1, b), (w.heap.size + 1 + 1, a)] [] _ from And.left (by assumption)).keep hb))) | (go_at_call 19; with_reducible refine (bt.out _ (KTb.out _ (And.left (by assumption)))).mono ?_; rintro e wn ⟨rfl, hb⟩; have hk := hidden (KSt.out _ ((show St w [(Q, Y), (P, X), (w.heap.size + 1 + 1 + 1, b), (w.heap.size + 1 + 1, a)] [] _ from And.left (by assumption)).keep hb))) | (go_at_call 20; with_reducible refine (rb.out _).mono ?_; rintro e wn ⟨rfl, hb⟩; have hk := hidden (KSt.out _ ((show St w [(Q, Y), (P, X), (w.heap.size + 1 + 1 + 1, b), (w.heap.size + 1 + 1, a)] [] _ from And.left (by assumption)).keep hb))))
  clear K0
  have k7 := hk
  go_upto_region 7 with fail
  have K0 : Hid ((fun w' => St w [(Q, Y), (P, X), (w.heap.size + 1 + 1 + 1, b), (w.heap.size + 1 + 1, a)] [] w' ∧ w'.cell? ⟨Q, 0, none⟩ = some (.int .u64 Y.x0) ∧ w'.cell? ⟨Q, 1, none⟩ = some (.int .u64 Y.x1) ∧ w'.cell? ⟨Q, 2, none⟩ = some (.int .u64 Y.x2) ∧ w'.cell? ⟨Q, 3, none⟩ = some (.int .u64 Y.x3) ∧ w'.cell? ⟨P, 0, none⟩ = some (.int .u64 X.x0) ∧ w'.cell? ⟨P, 1, none⟩ = some (.int .u64 X.x1) ∧ w'.cell? ⟨P, 2, none⟩ = some (.int .u64 X.x2) ∧ w'.cell? ⟨P, 3, none⟩ = some (.int .u64 X.x3) ∧ w'.cell? ⟨w.heap.size + 1 + 1 + 1, 0, none⟩ = some (.int .u64 b.x0) ∧ w'.cell? ⟨w.heap.size + 1 + 1 + 1, 1, none⟩ = some (.int .u64 b.x1) ∧ w'.cell? ⟨w.heap.size + 1 + 1 + 1, 2, none⟩ = some (.int .u64 b.x2) ∧ w'.cell? ⟨w.heap.size + 1 + 1 + 1, 3, none⟩ = some (.int .u64 b.x3) ∧ w'.cell? ⟨w.heap.size + 1 + 1, 0, none⟩ = some (.int .u64 a.x0) ∧ w'.cell? ⟨w.heap.size + 1 + 1, 1, none⟩ = some (.int .u64 a.x1) ∧ w'.cell? ⟨w.heap.size + 1 + 1, 2, none⟩ = some (.int .u64 a.x2) ∧ w'.cell? ⟨w.heap.size + 1 + 1, 3, none⟩ = some (.int .u64 a.x3)) _) := hidden (KSt.out _ (k7.out.1).drew)
  go_region_held3 (fun w' => St w [(Q, Y), (P, X), (w.heap.size + 1 + 1 + 1, b), (w.heap.size + 1 + 1, a)] [] w' ∧ w'.cell? ⟨Q, 0, none⟩ = some (.int .u64 Y.x0) ∧ w'.cell? ⟨Q, 1, none⟩ = some (.int .u64 Y.x1) ∧ w'.cell? ⟨Q, 2, none⟩ = some (.int .u64 Y.x2) ∧ w'.cell? ⟨Q, 3, none⟩ = some (.int .u64 Y.x3) ∧ w'.cell? ⟨P, 0, none⟩ = some (.int .u64 X.x0) ∧ w'.cell? ⟨P, 1, none⟩ = some (.int .u64 X.x1) ∧ w'.cell? ⟨P, 2, none⟩ = some (.int .u64 X.x2) ∧ w'.cell? ⟨P, 3, none⟩ = some (.int .u64 X.x3) ∧ w'.cell? ⟨w.heap.size + 1 + 1 + 1, 0, none⟩ = some (.int .u64 b.x0) ∧ w'.cell? ⟨w.heap.size + 1 + 1 + 1, 1, none⟩ = some (.int .u64 b.x1) ∧ w'.cell? ⟨w.heap.size + 1 + 1 + 1, 2, none⟩ = some (.int .u64 b.x2) ∧ w'.cell? ⟨w.heap.size + 1 + 1 + 1, 3, none⟩ = some (.int .u64 b.x3) ∧ w'.cell? ⟨w.heap.size + 1 + 1, 0, none⟩ = some (.int .u64 a.x0) ∧ w'.cell? ⟨w.heap.size + 1 + 1, 1, none⟩ = some (.int .u64 a.x1) ∧ w'.cell? ⟨w.heap.size + 1 + 1, 2, none⟩ = some (.int .u64 a.x2) ∧ w'.cell? ⟨w.heap.size + 1 + 1, 3, none⟩ = some (.int .u64 a.x3)) (first | with_reducible exact K0.out | with_reducible exact hk.out)
    (first | (go_at_call 15; with_reducible refine (ss.out _ (KTb.out _ (And.left (by assumption)))).mono ?_; rintro e wn ⟨rfl, hb⟩; have hk := hidden (KSt.out _ ((show St w [(Q, Y), (P, X), (w.heap.size + 1 + 1 + 1, b), (w.heap.size + 1 + 1, a)] [] _ from And.left (by assumption)).keep hb))) | (go_at_call 22; with_reducible refine (sl.out _ (KTb.out _ (And.left (by assumption)))).mono ?_; rintro e wn ⟨rfl, hb⟩; have hk := hidden (KSt.out _ ((show St w [(Q, Y), (P, X), (w.heap.size + 1 + 1 + 1, b), (w.heap.size + 1 + 1, a)] [] _ from And.left (by assumption)).keep hb))) | (go_at_call 23; with_reducible refine (rl.out _).mono ?_; rintro e wn ⟨rfl, hb⟩; have hk := hidden (KSt.out _ ((show St w [(Q, Y), (P, X), (w.heap.size + 1 + 1 + 1, b), (w.heap.size + 1 + 1, a)] [] _ from And.left (by assumption)).keep hb))) | (go_at_call 21; with_reducible refine (iq.out _).mono ?_; rintro e wn ⟨rfl, hb⟩; have hk := hidden (KSt.out _ ((show St w [(Q, Y), (P, X), (w.heap.size + 1 + 1 + 1, b), (w.heap.size + 1 + 1, a)] [] _ from And.left (by assumption)).keep hb))))
  go_wp2_with fail
  go_ret
  exact ⟨rfl, hk.out.1.bel⟩
end Go.Proofs.YtebegeedaehndabDoor
