import Derived.Test.YtljmgfclhbadjaaGreatDoorTk
import Derived.Test.YtljmgfclhbadjaaGreatDoorSnum
namespace Go.Proofs.YtljmgfclhbadjaaGreatDoor
open Go.RowKit
set_option maxRecDepth 100000 in
set_option maxHeartbeats 4000000 in
theorem Same_any (a b : E4) (w : World) (hT : Tb w) (ha : a.ok) (hb : b.ok) :
  Calls Tryz.prog 123 #[a.v, b.v] w fun e w' => e = .returned (.bool ((lst a.n).same (lst b.n))) ∧ Below w.heap.size w w' := by
 have s0 := ((St.start w a 53).new b 53)
 simp only [World.size_alloc] at s0
 have S0 := Hn s0
 have HT := Hn hT
 obtain ⟨A, hA⟩ : ∃ t : E4, lst a.n = t := ⟨_, rfl⟩
 obtain ⟨B, hB⟩ : ∃ t : E4, lst b.n = t := ⟨_, rfl⟩
 have CA := Hn (fun w T => fix (Least_any a w T ha) hA)
 have CB := Hn (fun w T => fix (Least_any b w T hb) hB)
 have hq := fun w => eq4 A B w
 rw [hA, hB]
 generalize hC : A.same B = C at hq
 clear s0 ha hb hT hA hB hC
 simp only [E4.v] at CA CB hq ⊢
 go_enter Tryz.func123, Tryz.ntmps123
 go_wp2_with fail
 have KSt : Hid (∀ w' : World, St w [(w.heap.size + 1, b), (w.heap.size, a)] [] w' → (fun w' => St w [(w.heap.size + 1, b), (w.heap.size, a)] [] w' ∧ w'.cell? ⟨w.heap.size + 1, 0, none⟩ = some (.int .u64 b.x0) ∧ w'.cell? ⟨w.heap.size + 1, 1, none⟩ = some (.int .u64 b.x1) ∧ w'.cell? ⟨w.heap.size + 1, 2, none⟩ = some (.int .u64 b.x2) ∧ w'.cell? ⟨w.heap.size + 1, 3, none⟩ = some (.int .u64 b.x3) ∧ w'.cell? ⟨w.heap.size, 0, none⟩ = some (.int .u64 a.x0) ∧ w'.cell? ⟨w.heap.size, 1, none⟩ = some (.int .u64 a.x1) ∧ w'.cell? ⟨w.heap.size, 2, none⟩ = some (.int .u64 a.x2) ∧ w'.cell? ⟨w.heap.size, 3, none⟩ = some (.int .u64 a.x3)) w') := Hn (fun w' h => ⟨h, (h.live (w.heap.size + 1, b) (by simp)).c0, (h.live (w.heap.size + 1, b) (by simp)).c1, (h.live (w.heap.size + 1, b) (by simp)).c2, (h.live (w.heap.size + 1, b) (by simp)).c3, (h.live (w.heap.size, a) (by simp)).c0, (h.live (w.heap.size, a) (by simp)).c1, (h.live (w.heap.size, a) (by simp)).c2, (h.live (w.heap.size, a) (by simp)).c3⟩)
 have KTb : Hid (∀ w' : World, St w [(w.heap.size + 1, b), (w.heap.size, a)] [] w' → Tb w') := Hn (fun w' h => h.tb HT.out)
 have K0 : Hid ((fun w' => St w [(w.heap.size + 1, b), (w.heap.size, a)] [] w' ∧ w'.cell? ⟨w.heap.size + 1, 0, none⟩ = some (.int .u64 b.x0) ∧ w'.cell? ⟨w.heap.size + 1, 1, none⟩ = some (.int .u64 b.x1) ∧ w'.cell? ⟨w.heap.size + 1, 2, none⟩ = some (.int .u64 b.x2) ∧ w'.cell? ⟨w.heap.size + 1, 3, none⟩ = some (.int .u64 b.x3) ∧ w'.cell? ⟨w.heap.size, 0, none⟩ = some (.int .u64 a.x0) ∧ w'.cell? ⟨w.heap.size, 1, none⟩ = some (.int .u64 a.x1) ∧ w'.cell? ⟨w.heap.size, 2, none⟩ = some (.int .u64 a.x2) ∧ w'.cell? ⟨w.heap.size, 3, none⟩ = some (.int .u64 a.x3)) _) := Hn (KSt.out _ (S0.out).drew)
 go_region_held3 (fun w' => St w [(w.heap.size + 1, b), (w.heap.size, a)] [] w' ∧ w'.cell? ⟨w.heap.size + 1, 0, none⟩ = some (.int .u64 b.x0) ∧ w'.cell? ⟨w.heap.size + 1, 1, none⟩ = some (.int .u64 b.x1) ∧ w'.cell? ⟨w.heap.size + 1, 2, none⟩ = some (.int .u64 b.x2) ∧ w'.cell? ⟨w.heap.size + 1, 3, none⟩ = some (.int .u64 b.x3) ∧ w'.cell? ⟨w.heap.size, 0, none⟩ = some (.int .u64 a.x0) ∧ w'.cell? ⟨w.heap.size, 1, none⟩ = some (.int .u64 a.x1) ∧ w'.cell? ⟨w.heap.size, 2, none⟩ = some (.int .u64 a.x2) ∧ w'.cell? ⟨w.heap.size, 3, none⟩ = some (.int .u64 a.x3)) (first | with_reducible exact K0.out | with_reducible exact hk.out)
  (first | (go_at_call 96; with_reducible refine (CA.out _ (KTb.out _ (And.left (by assumption)))).mono ?_; rintro e wn ⟨rfl, hb⟩; have hk := Hn (KSt.out _ ((show St w [(w.heap.size + 1, b), (w.heap.size, a)] [] _ from And.left (by assumption)).keep hb))) | (go_at_call 96; with_reducible refine (CB.out _ (KTb.out _ (And.left (by assumption)))).mono ?_; rintro e wn ⟨rfl, hb⟩; have hk := Hn (KSt.out _ ((show St w [(w.heap.size + 1, b), (w.heap.size, a)] [] _ from And.left (by assumption)).keep hb))))
 go_wp2_with fail
 go_ret
 exact ⟨rfl, hk.out.1.bel⟩
end Go.Proofs.YtljmgfclhbadjaaGreatDoor
