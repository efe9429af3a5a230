import Derived.Test.YtglalahmcckjaabDoorSrm
import Derived.Test.YtglalahmcckjaabDoorSrb
import Derived.Test.YtglalahmcckjaabDoorSsb
namespace Go.Proofs.YtglalahmcckjaabDoor
open Go.RowKit

set_option maxRecDepth 100000 in
set_option maxHeartbeats 32000000 in
theorem ring_any (a b : E4) (w : World) (hT : Tb w) (ha : a.ok) (hb : b.ok) : Calls Tryd.prog 7 #[a.v, b.v] w fun e w' => e = .returned (.bool true) ∧ Below w.heap.size w w' := by
  obtain ⟨X, hX⟩ : ∃ t : E4, lst a.n = t := ⟨_, rfl⟩
  obtain ⟨Y, hY⟩ : ∃ t : E4, lst b.n = t := ⟨_, rfl⟩
  obtain ⟨A, hA⟩ : ∃ t : E4, lst (a.n + b.n) = t := ⟨_, rfl⟩
  obtain ⟨S, hS⟩ : ∃ t : E4, lst (a.n - b.n) = t := ⟨_, rfl⟩
  obtain ⟨G, hG⟩ : ∃ t : E4, lst (-a.n) = t := ⟨_, rfl⟩
  obtain ⟨M, hM⟩ : ∃ t : E4, lst (a.n * b.n) = t := ⟨_, rfl⟩
  have of_a := hidden (fun w => of_any a w ha)
  have of_b := hidden (fun w => of_any b w hb)
  have ad := hidden (fun w T => fix (Add_any a b w T ha hb) hA)
  have sb := hidden (fun w T => fix (Sub_any a b w T ha hb) hS)
  have ng := hidden (fun w T => fix (Neg_any a w T ha) hG)
  have ml := hidden (fun w T => fix (Mul_any a b w T ha hb) hM)
  have ra := hidden (fun w => rAdd_any a.n b.n w)
  have rs := hidden (fun w => rSub_any a.n b.n w)
  have rn := hidden (fun w => rNeg_any a.n w)
  have rm := hidden (fun w => rMul_any a.n b.n w)
  have iA := hidden (fun w => is_any A w)
  have iS := hidden (fun w => is_any S w)
  have iG := hidden (fun w => is_any G w)
  have iM := hidden (fun w => is_any M w)
  rw [hX] at of_a ra rs rn rm
  rw [hY] at of_b ra rs rm
  rw [hA] at ra
  rw [hS] at rs
  rw [hG] at rn
  rw [hM] at rm
  have HT := hidden hT
  have s0 := (((St.start w a 24).new b 24).new a 28).new b 28
  simp only [World.size_alloc] at s0
  have S0 := hidden s0
  clear s0 hX hY hA hS hG hM ha hb hT
  simp only [E4.v] at of_a of_b ad sb ng ml ra rs rn rm iA iS iG iM ⊢
  go_enter Tryd.func7, Tryd.ntmps7
  go_upto_region 3 with fail
  generalize ((((w.alloc (.cells #[.int .u64 a.x0, .int .u64 a.x1, .int .u64 a.x2, .int .u64 a.x3] 24)).alloc (.cells #[.int .u64 b.x0, .int .u64 b.x1, .int .u64 b.x2, .int .u64 b.x3] 24)).alloc (.cells #[.int .u64 a.x0, .int .u64 a.x1, .int .u64 a.x2, .int .u64 a.x3] 28)).alloc (.cells #[.int .u64 b.x0, .int .u64 b.x1, .int .u64 b.x2, .int .u64 b.x3] 28)) = wB at S0 ⊢
  have x0 := (S0.out.live (w.heap.size, a) (by simp)).c0
  have x1 := (S0.out.live (w.heap.size, a) (by simp)).c1
  have x2 := (S0.out.live (w.heap.size, a) (by simp)).c2
  have x3 := (S0.out.live (w.heap.size, a) (by simp)).c3
  go_wp2_with fail
  refine (of_a.out _).mono ?_
  rintro e w1 ⟨rfl, hb1⟩
  have S1 := hidden (((S0.out.keep hb1).new X 31).sub (M := [(w1.heap.size, X), (w.heap.size + 1 + 1 + 1, b), (w.heap.size + 1 + 1, a), (w.heap.size + 1, b)]) (by simp))
  clear x0 x1 x2 x3 hb1 S0
  go_upto_region 4 with fail
  generalize (w1.alloc (.cells #[.int .u64 X.x0, .int .u64 X.x1, .int .u64 X.x2, .int .u64 X.x3] 31)) = wC at S1 ⊢
  generalize w1.heap.size = P at S1 ⊢
  have x0 := (S1.out.live (w.heap.size + 1, b) (by simp)).c0
  have x1 := (S1.out.live (w.heap.size + 1, b) (by simp)).c1
  have x2 := (S1.out.live (w.heap.size + 1, b) (by simp)).c2
  have x3 := (S1.out.live (w.heap.size + 1, b) (by simp)).c3
  go_wp2_with fail
  refine (of_b.out _).mono ?_
  rintro e w2 ⟨rfl, hb2⟩
  have S2 := hidden (((S1.out.keep hb2).new Y 31).sub (M := [(w2.heap.size, Y), (P, X), (w.heap.size + 1 + 1 + 1, b), (w.heap.size + 1 + 1, a)]) (by simp))
  clear x0 x1 x2 x3 hb2 S1
  go_upto_region 5 with fail
  generalize (w2.alloc (.cells #[.int .u64 Y.x0, .int .u64 Y.x1, .int .u64 Y.x2, .int .u64 Y.x3] 31)) = wD at S2 ⊢
  generalize w2.heap.size = Q at S2 ⊢
  have KSt : Hid (∀ w' : World, St w [(Q, Y), (P, X), (w.heap.size + 1 + 1 + 1, b), (w.heap.size + 1 + 1, a)] [] w' → (fun w' => St w [(Q, Y), (P, X), (w.heap.size + 1 + 1 + 1, b), (w.heap.size + 1 + 1, a)] [] w' ∧ w'.cell? ⟨Q, 0, none⟩ = some (.int .u64 Y.x0) ∧ w'.cell? ⟨Q, 1, none⟩ = some (.int .u64 Y.x1) ∧ w'.cell? ⟨Q, 2, none⟩ = some (.int .u64 Y.x2) ∧ w'.cell? ⟨Q, 3, none⟩ = some (.int .u64 Y.x3) ∧ w'.cell? ⟨P, 0, none⟩ = some (.int .u64 X.x0) ∧ w'.cell? ⟨P, 1, none⟩ = some (.int .u64 X.x1) ∧ w'.cell? ⟨P, 2, none⟩ = some (.int .u64 X.x2) ∧ w'.cell? ⟨P, 3, none⟩ = some (.int .u64 X.x3) ∧ w'.cell? ⟨w.heap.size + 1 + 1 + 1, 0, none⟩ = some (.int .u64 b.x0) ∧ w'.cell? ⟨w.heap.size + 1 + 1 + 1, 1, none⟩ = some (.int .u64 b.x1) ∧ w'.cell? ⟨w.heap.size + 1 + 1 + 1, 2, none⟩ = some (.int .u64 b.x2) ∧ w'.cell? ⟨w.heap.size + 1 + 1 + 1, 3, none⟩ = some (.int .u64 b.x3) ∧ w'.cell? ⟨w.heap.size + 1 + 1, 0, none⟩ = some (.int .u64 a.x0) ∧ w'.cell? ⟨w.heap.size + 1 + 1, 1, none⟩ = some (.int .u64 a.x1) ∧ w'.cell? ⟨w.heap.size + 1 + 1, 2, none⟩ = some (.int .u64 a.x2) ∧ w'.cell? ⟨w.heap.size + 1 + 1, 3, none⟩ = some (.int .u64 a.x3)) w') := hidden (fun w' h => ⟨h, (h.live (Q, Y) (by simp)).c0, (h.live (Q, Y) (by simp)).c1, (h.live (Q, Y) (by simp)).c2, (h.live (Q, Y) (by simp)).c3, (h.live (P, X) (by simp)).c0, (h.live (P, X) (by simp)).c1, (h.live (P, X) (by simp)).c2, (h.live (P, X) (by simp)).c3, (h.live (w.heap.size + 1 + 1 + 1, b) (by simp)).c0, (h.live (w.heap.size + 1 + 1 + 1, b) (by simp)).c1, (h.live (w.heap.size + 1 + 1 + 1, b) (by simp)).c2, (h.live (w.heap.size + 1 + 1 + 1, b) (by simp)).c3, (h.live (w.heap.size + 1 + 1, a) (by simp)).c0, (h.live (w.heap.size + 1 + 1, a) (by simp)).c1, (h.live (w.heap.size + 1 + 1, a) (by simp)).c2, (h.live (w.heap.size + 1 + 1, a) (by simp)).c3⟩)
  have KTb : Hid (∀ w' : World, St w [(Q, Y), (P, X), (w.heap.size + 1 + 1 + 1, b), (w.heap.size + 1 + 1, a)] [] w' → Tb w') := hidden (fun w' h => h.tb HT.out)
  have K0 : Hid ((fun w' => St w [(Q, Y), (P, X), (w.heap.size + 1 + 1 + 1, b), (w.heap.size + 1 + 1, a)] [] w' ∧ w'.cell? ⟨Q, 0, none⟩ = some (.int .u64 Y.x0) ∧ w'.cell? ⟨Q, 1, none⟩ = some (.int .u64 Y.x1) ∧ w'.cell? ⟨Q, 2, none⟩ = some (.int .u64 Y.x2) ∧ w'.cell? ⟨Q, 3, none⟩ = some (.int .u64 Y.x3) ∧ w'.cell? ⟨P, 0, none⟩ = some (.int .u64 X.x0) ∧ w'.cell? ⟨P, 1, none⟩ = some (.int .u64 X.x1) ∧ w'.cell? ⟨P, 2, none⟩ = some (.int .u64 X.x2) ∧ w'.cell? ⟨P, 3, none⟩ = some (.int .u64 X.x3) ∧ w'.cell? ⟨w.heap.size + 1 + 1 + 1, 0, none⟩ = some (.int .u64 b.x0) ∧ w'.cell? ⟨w.heap.size + 1 + 1 + 1, 1, none⟩ = some (.int .u64 b.x1) ∧ w'.cell? ⟨w.heap.size + 1 + 1 + 1, 2, none⟩ = some (.int .u64 b.x2) ∧ w'.cell? ⟨w.heap.size + 1 + 1 + 1, 3, none⟩ = some (.int .u64 b.x3) ∧ w'.cell? ⟨w.heap.size + 1 + 1, 0, none⟩ = some (.int .u64 a.x0) ∧ w'.cell? ⟨w.heap.size + 1 + 1, 1, none⟩ = some (.int .u64 a.x1) ∧ w'.cell? ⟨w.heap.size + 1 + 1, 2, none⟩ = some (.int .u64 a.x2) ∧ w'.cell? ⟨w.heap.size + 1 + 1, 3, none⟩ = some (.int .u64 a.x3)) _) := hidden (KSt.out _ (S2.out).drew)
  go_region_held3 (fun w' => St w [(Q, Y), (P, X), (w.heap.size + 1 + 1 + 1, b), (w.heap.size + 1 + 1, a)] [] w' ∧ w'.cell? ⟨Q, 0, none⟩ = some (.int .u64 Y.x0) ∧ w'.cell? ⟨Q, 1, none⟩ = some (.int .u64 Y.x1) ∧ w'.cell? ⟨Q, 2, none⟩ = some (.int .u64 Y.x2) ∧ w'.cell? ⟨Q, 3, none⟩ = some (.int .u64 Y.x3) ∧ w'.cell? ⟨P, 0, none⟩ = some (.int .u64 X.x0) ∧ w'.cell? ⟨P, 1, none⟩ = some (.int .u64 X.x1) ∧ w'.cell? ⟨P, 2, none⟩ = some (.int .u64 X.x2) ∧ w'.cell? ⟨P, 3, none⟩ = some (.int .u64 X.x3) ∧ w'.cell? ⟨w.heap.size + 1 + 1 + 1, 0, none⟩ = some (.int .u64 b.x0) ∧ w'.cell? ⟨w.heap.size + 1 + 1 + 1, 1, none⟩ = some (.int .u64 b.x1) ∧ w'.cell? ⟨w.heap.size + 1 + 1 + 1, 2, none⟩ = some (.int .u64 b.x2) ∧ w'.cell? ⟨w.heap.size + 1 + 1 + 1, 3, none⟩ = some (.int .u64 b.x3) ∧ w'.cell? ⟨w.heap.size + 1 + 1, 0, none⟩ = some (.int .u64 a.x0) ∧ w'.cell? ⟨w.heap.size + 1 + 1, 1, none⟩ = some (.int .u64 a.x1) ∧ w'.cell? ⟨w.heap.size + 1 + 1, 2, none⟩ = some (.int .u64 a.x2) ∧ w'.cell? ⟨w.heap.size + 1 + 1, 3, none⟩ = some (.int .u64 a.x3)) (first | with_reducible exact K0.out | with_reducible exact hk.out)
    (first | (go_at_call 30; with_reducible refine (ad.out _ (KTb.out _ (And.left (by assumption)))).mono ?_; rintro e wn ⟨rfl, hb⟩; have hk := hidden (KSt.out _ ((show St w [(Q, Y), (P, X), (w.heap.size + 1 + 1 + 1, b), (w.heap.size + 1 + 1, a)] [] _ from And.left (by assumption)).keep hb))) | (go_at_call 37; with_reducible refine (ra.out _).mono ?_; rintro e wn ⟨rfl, hb⟩; have hk := hidden (KSt.out _ ((show St w [(Q, Y), (P, X), (w.heap.size + 1 + 1 + 1, b), (w.heap.size + 1 + 1, a)] [] _ from And.left (by assumption)).keep hb))) | (go_at_call 21; with_reducible refine (iA.out _).mono ?_; rintro e wn ⟨rfl, hb⟩; have hk := hidden (KSt.out _ ((show St w [(Q, Y), (P, X), (w.heap.size + 1 + 1 + 1, b), (w.heap.size + 1 + 1, a)] [] _ from And.left (by assumption)).keep hb))) | (go_at_call 31; with_reducible refine (sb.out _ (KTb.out _ (And.left (by assumption)))).mono ?_; rintro e wn ⟨rfl, hb⟩; have hk := hidden (KSt.out _ ((show St w [(Q, Y), (P, X), (w.heap.size + 1 + 1 + 1, b), (w.heap.size + 1 + 1, a)] [] _ from And.left (by assumption)).keep hb))) | (go_at_call 38; with_reducible refine (rs.out _).mono ?_; rintro e wn ⟨rfl, hb⟩; have hk := hidden (KSt.out _ ((show St w [(Q, Y), (P, X), (w.heap.size + 1 + 1 + 1, b), (w.heap.size + 1 + 1, a)] [] _ from And.left (by assumption)).keep hb))) | (go_at_call 21; with_reducible refine (iS.out _).mono ?_; rintro e wn ⟨rfl, hb⟩; have hk := hidden (KSt.out _ ((show St w [(Q, Y), (P, X), (w.heap.size + 1 + 1 + 1, b), (w.heap.size + 1 + 1, a)] [] _ from And.left (by assumption)).keep hb))) | (go_at_call 10; with_reducible refine (ng.out _ (KTb.out _ (And.left (by assumption)))).mono ?_; rintro e wn ⟨rfl, hb⟩; have hk := hidden (KSt.out _ ((show St w [(Q, Y), (P, X), (w.heap.size + 1 + 1 + 1, b), (w.heap.size + 1 + 1, a)] [] _ from And.left (by assumption)).keep hb))) | (go_at_call 39; with_reducible refine (rn.out _).mono ?_; rintro e wn ⟨rfl, hb⟩; have hk := hidden (KSt.out _ ((show St w [(Q, Y), (P, X), (w.heap.size + 1 + 1 + 1, b), (w.heap.size + 1 + 1, a)] [] _ from And.left (by assumption)).keep hb))) | (go_at_call 21; with_reducible refine (iG.out _).mono ?_; rintro e wn ⟨rfl, hb⟩; have hk := hidden (KSt.out _ ((show St w [(Q, Y), (P, X), (w.heap.size + 1 + 1 + 1, b), (w.heap.size + 1 + 1, a)] [] _ from And.left (by assumption)).keep hb))) | (go_at_call 32; with_reducible refine (ml.out _ (KTb.out _ (And.left (by assumption)))).mono ?_; rintro e wn ⟨rfl, hb⟩; have hk := hidden (KSt.out _ ((show St w [(Q, Y), (P, X), (w.heap.size + 1 + 1 + 1, b), (w.heap.size + 1 + 1, a)] [] _ from And.left (by assumption)).keep hb))) | (go_at_call 40; with_reducible refine (rm.out _).mono ?_; rintro e wn ⟨rfl, hb⟩; have hk := hidden (KSt.out _ ((show St w [(Q, Y), (P, X), (w.heap.size + 1 + 1 + 1, b), (w.heap.size + 1 + 1, a)] [] _ from And.left (by assumption)).keep hb))) | (go_at_call 21; with_reducible refine (iM.out _).mono ?_; rintro e wn ⟨rfl, hb⟩; have hk := hidden (KSt.out _ ((show St w [(Q, Y), (P, X), (w.heap.size + 1 + 1 + 1, b), (w.heap.size + 1 + 1, a)] [] _ from And.left (by assumption)).keep hb))))
  go_wp2_with fail
  go_ret
  exact ⟨rfl, hk.out.1.bel⟩
end Go.Proofs.YtglalahmcckjaabDoor
