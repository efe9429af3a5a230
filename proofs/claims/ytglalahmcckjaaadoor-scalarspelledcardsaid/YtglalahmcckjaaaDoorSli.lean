import Derived.Test.YtglalahmcckjaaaDoorSnum
namespace Go.Proofs.YtglalahmcckjaaaDoor
open Go.RowKit

set_option maxRecDepth 100000 in
set_option maxHeartbeats 16000000 in
theorem alive_any (w : World) (hT : Tb w) : Calls Tryd.prog 9 #[] w fun e w' => e = .returned (.bool true) ∧ Below w.heap.size w w' := by
  obtain ⟨t, ht⟩ : ∃ t : E4, t = lst (k2.n ^ 7237005577332262213973186563042994240857116359379907606001950938285454250987) := ⟨_, rfl⟩
  have tok : t.ok := by rw [ht]; exact lst_ok _
  have h21 : lst (k2.n * t.n) = k1 := by rw [ht, lst_mul', mul_inv k2.n (by decide), lst1]
  have i2 := hidden (fun w => fix (Int_any 2 w (by unfold Sm.Wd; omega)) lst2)
  have i3 := hidden (fun w => fix (Int_any 3 w (by unfold Sm.Wd; omega)) lst3)
  have ad := hidden (fun w T => fix (Add_any k2 k3 w T k2ok k3ok) (show lst (k2.n + k3.n) = k5 from lst5))
  have mu := hidden (fun w T => fix (Mul_any k2 k3 w T k2ok k3ok) (show lst (k2.n * k3.n) = k6 from lst6))
  have iv := hidden (fun w T => fix (Invert_any k2 w T k2ok) ht.symm)
  have m2 := hidden (fun w T => fix (Mul_any k2 t w T k2ok tok) h21)
  have q5 := fun w => (eq4 k5 k5 w).trans (by rw [E4.same_self])
  have q6 := fun w => (eq4 k6 k6 w).trans (by rw [E4.same_self])
  have q1 := fun w => (eq4 k1 k1 w).trans (by rw [E4.same_self])
  have HT := hidden hT
  clear ht tok h21 hT
  simp only [E4.v, k2, k3, k5, k6, k1] at i2 i3 ad mu iv m2 q5 q6 q1
  go_enter Tryd.func9, Tryd.ntmps9
  go_wp2_with fail
  refine (i2.out _).mono ?_
  rintro e w1 ⟨rfl, hb1⟩
  go_wp2_with fail
  refine (i3.out _).mono ?_
  rintro e w2 ⟨rfl, hb2⟩
  have s0 : St w [(w1.heap.size, k2)] [] w2 := (((St.nil w).keep hb1).new k2 25).keep hb2
  have s1 := s0.new k3 25
  have hlt : w1.heap.size < w2.heap.size := (s0.live (w1.heap.size, k2) (by simp)).lt
  have s2 : St w [(w2.heap.size, k3), (w1.heap.size, k2)] [] (w2.alloc (.cells #[.int .u64 3, .int .u64 0, .int .u64 0, .int .u64 0] 25)) := s1
  clear s1 s0
  replace s2 := hidden s2
  go_wp2_with fail
  have KSt : Hid (∀ w' : World, St w [(w2.heap.size, k3), (w1.heap.size, k2)] [] w' → (fun w' => St w [(w2.heap.size, k3), (w1.heap.size, k2)] [] w' ∧ w'.cell? ⟨w2.heap.size, 0, none⟩ = some (.int .u64 3) ∧ w'.cell? ⟨w2.heap.size, 1, none⟩ = some (.int .u64 0) ∧ w'.cell? ⟨w2.heap.size, 2, none⟩ = some (.int .u64 0) ∧ w'.cell? ⟨w2.heap.size, 3, none⟩ = some (.int .u64 0) ∧ w'.cell? ⟨w1.heap.size, 0, none⟩ = some (.int .u64 2) ∧ w'.cell? ⟨w1.heap.size, 1, none⟩ = some (.int .u64 0) ∧ w'.cell? ⟨w1.heap.size, 2, none⟩ = some (.int .u64 0) ∧ w'.cell? ⟨w1.heap.size, 3, none⟩ = some (.int .u64 0)) w') := hidden (fun w' h => ⟨h, (h.live (w2.heap.size, k3) (by simp)).c0, (h.live (w2.heap.size, k3) (by simp)).c1, (h.live (w2.heap.size, k3) (by simp)).c2, (h.live (w2.heap.size, k3) (by simp)).c3, (h.live (w1.heap.size, k2) (by simp)).c0, (h.live (w1.heap.size, k2) (by simp)).c1, (h.live (w1.heap.size, k2) (by simp)).c2, (h.live (w1.heap.size, k2) (by simp)).c3⟩)
  have KTb : Hid (∀ w' : World, St w [(w2.heap.size, k3), (w1.heap.size, k2)] [] w' → Tb w') := hidden (fun w' h => h.tb HT.out)
  have K0 : Hid ((fun w' => St w [(w2.heap.size, k3), (w1.heap.size, k2)] [] w' ∧ w'.cell? ⟨w2.heap.size, 0, none⟩ = some (.int .u64 3) ∧ w'.cell? ⟨w2.heap.size, 1, none⟩ = some (.int .u64 0) ∧ w'.cell? ⟨w2.heap.size, 2, none⟩ = some (.int .u64 0) ∧ w'.cell? ⟨w2.heap.size, 3, none⟩ = some (.int .u64 0) ∧ w'.cell? ⟨w1.heap.size, 0, none⟩ = some (.int .u64 2) ∧ w'.cell? ⟨w1.heap.size, 1, none⟩ = some (.int .u64 0) ∧ w'.cell? ⟨w1.heap.size, 2, none⟩ = some (.int .u64 0) ∧ w'.cell? ⟨w1.heap.size, 3, none⟩ = some (.int .u64 0)) _) := hidden (KSt.out _ (s2.out).drew)
  go_region_held3 (fun w' => St w [(w2.heap.size, k3), (w1.heap.size, k2)] [] w' ∧ w'.cell? ⟨w2.heap.size, 0, none⟩ = some (.int .u64 3) ∧ w'.cell? ⟨w2.heap.size, 1, none⟩ = some (.int .u64 0) ∧ w'.cell? ⟨w2.heap.size, 2, none⟩ = some (.int .u64 0) ∧ w'.cell? ⟨w2.heap.size, 3, none⟩ = some (.int .u64 0) ∧ w'.cell? ⟨w1.heap.size, 0, none⟩ = some (.int .u64 2) ∧ w'.cell? ⟨w1.heap.size, 1, none⟩ = some (.int .u64 0) ∧ w'.cell? ⟨w1.heap.size, 2, none⟩ = some (.int .u64 0) ∧ w'.cell? ⟨w1.heap.size, 3, none⟩ = some (.int .u64 0)) (first | with_reducible exact K0.out | with_reducible exact hk.out)
    (first | (go_at_call 15; with_reducible refine (ad.out _ (KTb.out _ (And.left (by assumption)))).mono ?_; rintro e wn ⟨rfl, hb⟩; have hk := hidden (KSt.out _ ((show St w [(w2.heap.size, k3), (w1.heap.size, k2)] [] _ from And.left (by assumption)).keep hb))) | (go_at_call 12; with_reducible refine (mu.out _ (KTb.out _ (And.left (by assumption)))).mono ?_; rintro e wn ⟨rfl, hb⟩; have hk := hidden (KSt.out _ ((show St w [(w2.heap.size, k3), (w1.heap.size, k2)] [] _ from And.left (by assumption)).keep hb))) | (go_at_call 18; with_reducible refine (iv.out _ (KTb.out _ (And.left (by assumption)))).mono ?_; rintro e wn ⟨rfl, hb⟩; have hk := hidden (KSt.out _ ((show St w [(w2.heap.size, k3), (w1.heap.size, k2)] [] _ from And.left (by assumption)).keep hb))) | (go_at_call 12; with_reducible refine (m2.out _ (KTb.out _ (And.left (by assumption)))).mono ?_; rintro e wn ⟨rfl, hb⟩; have hk := hidden (KSt.out _ ((show St w [(w2.heap.size, k3), (w1.heap.size, k2)] [] _ from And.left (by assumption)).keep hb))))
  go_wp2_with fail
  go_ret
  exact ⟨rfl, hk.out.1.bel⟩
end Go.Proofs.YtglalahmcckjaaaDoor
