import Derived.Test.YtalalgppdhpfiabNum
namespace Go.Proofs.Ytalalgppdhpfiab
open Go.RowKit

theorem fix {F : Nat} {args : Array Value} {w : World} {n : Int} {R : E5} (c : Calls Try.prog F args w (fun e w' => ∃ r : E5, e = .returned r.v ∧ r.is n ∧ Below w.heap.size w w')) (h : lst n = R) :
    Calls Try.prog F args w (fun e w' => e = .returned R.v ∧ Below w.heap.size w w') := by
  refine c.mono fun e w' q => ?_
  obtain ⟨r, q1, q2, q3⟩ := q
  have : r = R := Eq.trans q2 h
  subst this
  exact ⟨q1, q3⟩
theorem fixp {F : Nat} {args : Array Value} {w : World} {a R : E5} {k : Nat} (c : Calls Try.prog F args w (fun e w' => ∃ r : E5, e = .returned r.v ∧ r.pw a k ∧ Below w.heap.size w w')) (h : lst (a.n ^ k) = R) :
    Calls Try.prog F args w (fun e w' => e = .returned R.v ∧ Below w.heap.size w w') := fix c h

def k2 : E5 := ⟨2, 0, 0, 0, 0⟩
def k3 : E5 := ⟨3, 0, 0, 0, 0⟩
def k5 : E5 := ⟨5, 0, 0, 0, 0⟩
def k6 : E5 := ⟨6, 0, 0, 0, 0⟩
theorem lst2 : lst 2 = k2 := lst_small 2 ⟨by decide, by decide⟩ (by decide)
theorem lst3 : lst 3 = k3 := lst_small 3 ⟨by decide, by decide⟩ (by decide)
theorem lst5 : lst 5 = k5 := lst_small 5 ⟨by decide, by decide⟩ (by decide)
theorem lst6 : lst 6 = k6 := lst_small 6 ⟨by decide, by decide⟩ (by decide)
theorem k2n : k2.n = 2 := rfl
theorem k3n : k3.n = 3 := rfl
theorem k6n : k6.n = 6 := rfl
theorem k2ok : k2.ok := by rw [← lst2]; exact lst_ok _
theorem k3ok : k3.ok := by rw [← lst3]; exact lst_ok _
theorem k6ok : k6.ok := by rw [← lst6]; exact lst_ok _

theorem six_third (t : E5) (h : t = lst (k3.n ^ 57896044618658097711785492504343953926634992332820282019728792003956564819947)) : lst (k6.n * t.n) = k2 := by
  rw [h, lst_mul', k6n, k3n, ← lst2]
  have e1 : (6 : Int) * 3 ^ 57896044618658097711785492504343953926634992332820282019728792003956564819947 = 2 * (3 * 3 ^ 57896044618658097711785492504343953926634992332820282019728792003956564819947) := by
    rw [← Int.mul_assoc]; rfl
  rw [e1]
  refine lst_congr ?_
  rw [Int.mul_emod, inv_mul 3 (by decide)]
  rfl

set_option maxRecDepth 100000 in
set_option maxHeartbeats 16000000 in
theorem live_any (w : World) : Calls Try.prog 5 #[] w fun e w' => e = .returned (.bool true) ∧ Below w.heap.size w w' := by
  obtain ⟨t, ht⟩ : ∃ t : E5, t = lst (k3.n ^ 57896044618658097711785492504343953926634992332820282019728792003956564819947) := ⟨_, rfl⟩
  have tok : t.ok := by rw [ht]; exact lst_ok _
  have h62 := six_third t ht
  have i2 := hidden (fun w => fix (Int_any 2 w ⟨by decide, by decide⟩) lst2)
  have i3 := hidden (fun w => fix (Int_any 3 w ⟨by decide, by decide⟩) lst3)
  have i6 := hidden (fun w => fix (Int_any 6 w ⟨by decide, by decide⟩) lst6)
  have ad := hidden (fun w => fix (Add_any k2 k3 w k2ok k3ok) (show lst (k2.n + k3.n) = k5 from lst5))
  have mu := hidden (fun w => fix (Mul_any k2 k3 w k2ok k3ok) (show lst (k2.n * k3.n) = k6 from lst6))
  have iv := hidden (fun w => fixp (Invert_any k3 w k3ok) ht.symm)
  have m2 := hidden (fun w => fix (Mul_any k6 t w k6ok tok) h62)
  have q5 := fun w => (eq5 k5 k5 w).trans (by rw [E5.same_self])
  have q6 := fun w => (eq5 k6 k6 w).trans (by rw [E5.same_self])
  have q2 := fun w => (eq5 k2 k2 w).trans (by rw [E5.same_self])
  clear ht tok h62
  simp only [E5.v, k2, k3, k5, k6] at i2 i3 i6 ad mu iv m2 q5 q6 q2
  go_enter Try.func5, Try.ntmps5
  go_wp2_with fail
  refine (i2.out _).mono ?_
  rintro e w1 ⟨rfl, hb1⟩
  go_wp2_with fail
  refine (i3.out _).mono ?_
  rintro e w2 ⟨rfl, hb2⟩
  have s0 : St w [] [] w2 := ⟨fun p hp => absurd hp (by simp), fun b hb => absurd hb (by simp), bl_trans hb1 hb2⟩
  have s1 := (s0.new k2 24).new k3 24
  simp only [World.size_alloc] at s1
  have s2 : St w [(w2.heap.size + 1, k3), (w2.heap.size, k2)] [] ((w2.alloc (.cells #[.int .u64 2, .int .u64 0, .int .u64 0, .int .u64 0, .int .u64 0] 24)).alloc (.cells #[.int .u64 3, .int .u64 0, .int .u64 0, .int .u64 0, .int .u64 0] 24)) := s1
  clear s1
  go_wp2_with fail
  have KSt : Hid (∀ w' : World, St w [(w2.heap.size + 1, k3), (w2.heap.size, k2)] [] w' → (fun w' => St w [(w2.heap.size + 1, k3), (w2.heap.size, k2)] [] w' ∧ w'.cell? ⟨w2.heap.size + 1, 0, none⟩ = some (.int .u64 3) ∧ w'.cell? ⟨w2.heap.size + 1, 1, none⟩ = some (.int .u64 0) ∧ w'.cell? ⟨w2.heap.size + 1, 2, none⟩ = some (.int .u64 0) ∧ w'.cell? ⟨w2.heap.size + 1, 3, none⟩ = some (.int .u64 0) ∧ w'.cell? ⟨w2.heap.size + 1, 4, none⟩ = some (.int .u64 0) ∧ w'.cell? ⟨w2.heap.size, 0, none⟩ = some (.int .u64 2) ∧ w'.cell? ⟨w2.heap.size, 1, none⟩ = some (.int .u64 0) ∧ w'.cell? ⟨w2.heap.size, 2, none⟩ = some (.int .u64 0) ∧ w'.cell? ⟨w2.heap.size, 3, none⟩ = some (.int .u64 0) ∧ w'.cell? ⟨w2.heap.size, 4, none⟩ = some (.int .u64 0)) w') := hidden (fun w' h => ⟨h, (h.live (w2.heap.size + 1, k3) (by simp)).c0, (h.live (w2.heap.size + 1, k3) (by simp)).c1, (h.live (w2.heap.size + 1, k3) (by simp)).c2, (h.live (w2.heap.size + 1, k3) (by simp)).c3, (h.live (w2.heap.size + 1, k3) (by simp)).c4, (h.live (w2.heap.size, k2) (by simp)).c0, (h.live (w2.heap.size, k2) (by simp)).c1, (h.live (w2.heap.size, k2) (by simp)).c2, (h.live (w2.heap.size, k2) (by simp)).c3, (h.live (w2.heap.size, k2) (by simp)).c4⟩)
  have K0 : Hid ((fun w' => St w [(w2.heap.size + 1, k3), (w2.heap.size, k2)] [] w' ∧ w'.cell? ⟨w2.heap.size + 1, 0, none⟩ = some (.int .u64 3) ∧ w'.cell? ⟨w2.heap.size + 1, 1, none⟩ = some (.int .u64 0) ∧ w'.cell? ⟨w2.heap.size + 1, 2, none⟩ = some (.int .u64 0) ∧ w'.cell? ⟨w2.heap.size + 1, 3, none⟩ = some (.int .u64 0) ∧ w'.cell? ⟨w2.heap.size + 1, 4, none⟩ = some (.int .u64 0) ∧ w'.cell? ⟨w2.heap.size, 0, none⟩ = some (.int .u64 2) ∧ w'.cell? ⟨w2.heap.size, 1, none⟩ = some (.int .u64 0) ∧ w'.cell? ⟨w2.heap.size, 2, none⟩ = some (.int .u64 0) ∧ w'.cell? ⟨w2.heap.size, 3, none⟩ = some (.int .u64 0) ∧ w'.cell? ⟨w2.heap.size, 4, none⟩ = some (.int .u64 0)) _) := hidden (KSt.out _ (s2).drew)
  go_region_held3 (fun w' => St w [(w2.heap.size + 1, k3), (w2.heap.size, k2)] [] w' ∧ w'.cell? ⟨w2.heap.size + 1, 0, none⟩ = some (.int .u64 3) ∧ w'.cell? ⟨w2.heap.size + 1, 1, none⟩ = some (.int .u64 0) ∧ w'.cell? ⟨w2.heap.size + 1, 2, none⟩ = some (.int .u64 0) ∧ w'.cell? ⟨w2.heap.size + 1, 3, none⟩ = some (.int .u64 0) ∧ w'.cell? ⟨w2.heap.size + 1, 4, none⟩ = some (.int .u64 0) ∧ w'.cell? ⟨w2.heap.size, 0, none⟩ = some (.int .u64 2) ∧ w'.cell? ⟨w2.heap.size, 1, none⟩ = some (.int .u64 0) ∧ w'.cell? ⟨w2.heap.size, 2, none⟩ = some (.int .u64 0) ∧ w'.cell? ⟨w2.heap.size, 3, none⟩ = some (.int .u64 0) ∧ w'.cell? ⟨w2.heap.size, 4, none⟩ = some (.int .u64 0)) (first | with_reducible exact K0.out | with_reducible exact hk.out)
    (first | (go_at_call 11; with_reducible refine (ad.out _).mono ?_; rintro e wn ⟨rfl, hb⟩; have hk := hidden (KSt.out _ ((show St w [(w2.heap.size + 1, k3), (w2.heap.size, k2)] [] _ from And.left (by assumption)).keep hb))) | (go_at_call 12; with_reducible refine (mu.out _).mono ?_; rintro e wn ⟨rfl, hb⟩; have hk := hidden (KSt.out _ ((show St w [(w2.heap.size + 1, k3), (w2.heap.size, k2)] [] _ from And.left (by assumption)).keep hb))) | (go_at_call 17; with_reducible refine (i6.out _).mono ?_; rintro e wn ⟨rfl, hb⟩; have hk := hidden (KSt.out _ ((show St w [(w2.heap.size + 1, k3), (w2.heap.size, k2)] [] _ from And.left (by assumption)).keep hb))) | (go_at_call 18; with_reducible refine (iv.out _).mono ?_; rintro e wn ⟨rfl, hb⟩; have hk := hidden (KSt.out _ ((show St w [(w2.heap.size + 1, k3), (w2.heap.size, k2)] [] _ from And.left (by assumption)).keep hb))) | (go_at_call 12; with_reducible refine (m2.out _).mono ?_; rintro e wn ⟨rfl, hb⟩; have hk := hidden (KSt.out _ ((show St w [(w2.heap.size + 1, k3), (w2.heap.size, k2)] [] _ from And.left (by assumption)).keep hb))))
  go_wp2_with fail
  go_ret
  exact ⟨rfl, hk.out.1.bel⟩
end Go.Proofs.Ytalalgppdhpfiab
