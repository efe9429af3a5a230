import Derived.Test.YtgijodenblpbgaaDoorWord
import Derived.Test.YtgijodenblpbgaaDoorLive
namespace Go.Proofs.YtgijodenblpbgaaDoor
open Go.RowKit

theorem lst_same (m n : Int) : (lst m).same (lst n) = decide (m % Fm.P = n % Fm.P) := by
  rw [Bool.eq_iff_iff, E5.same_iff, decide_eq_true_iff]
  constructor
  · intro h
    rw [← lst_n m, ← lst_n n, h]
  · intro h
    exact lst_congr h

set_option maxRecDepth 100000 in
set_option maxHeartbeats 4000000 in
theorem Same_any (a b : E5) (w : World) (ha : a.ok) (hb : b.ok) :
    Calls Tryd.prog 25 #[a.v, b.v] w fun e w' => e = .returned (.bool (decide (a.n % Fm.P = b.n % Fm.P))) ∧ Below w.heap.size w w' := by
  have c1 := hidden (fun w => fix (Least_any a w ha) rfl)
  have c2 := hidden (fun w => fix (Least_any b w hb) rfl)
  have hs := lst_same a.n b.n
  generalize lst a.n = r at *
  generalize lst b.n = s at *
  generalize decide (a.n % Fm.P = b.n % Fm.P) = B at *
  have q := fun w => (eq5 r s w).trans (by rw [hs])
  clear hs ha hb
  simp only [E5.v] at c1 c2 q ⊢
  go_enter Tryd.func25, Tryd.ntmps25
  have S0 := hidden ((St.start w a 24).new b 24)
  simp only [World.size_alloc] at S0
  go_upto_region 1 with fail
  have KSt : Hid (∀ w' : World, St w [(w.heap.size + 1, b), (w.heap.size, a)] [] w' → (fun w' => St w [(w.heap.size + 1, b), (w.heap.size, a)] [] w' ∧ w'.cell? ⟨w.heap.size + 1, 0, none⟩ = some (.int .u64 b.x0) ∧ w'.cell? ⟨w.heap.size + 1, 1, none⟩ = some (.int .u64 b.x1) ∧ w'.cell? ⟨w.heap.size + 1, 2, none⟩ = some (.int .u64 b.x2) ∧ w'.cell? ⟨w.heap.size + 1, 3, none⟩ = some (.int .u64 b.x3) ∧ w'.cell? ⟨w.heap.size + 1, 4, none⟩ = some (.int .u64 b.x4) ∧ w'.cell? ⟨w.heap.size, 0, none⟩ = some (.int .u64 a.x0) ∧ w'.cell? ⟨w.heap.size, 1, none⟩ = some (.int .u64 a.x1) ∧ w'.cell? ⟨w.heap.size, 2, none⟩ = some (.int .u64 a.x2) ∧ w'.cell? ⟨w.heap.size, 3, none⟩ = some (.int .u64 a.x3) ∧ w'.cell? ⟨w.heap.size, 4, none⟩ = some (.int .u64 a.x4)) w') := hidden (fun w' h => ⟨h, (h.live (w.heap.size + 1, b) (by simp)).c0, (h.live (w.heap.size + 1, b) (by simp)).c1, (h.live (w.heap.size + 1, b) (by simp)).c2, (h.live (w.heap.size + 1, b) (by simp)).c3, (h.live (w.heap.size + 1, b) (by simp)).c4, (h.live (w.heap.size, a) (by simp)).c0, (h.live (w.heap.size, a) (by simp)).c1, (h.live (w.heap.size, a) (by simp)).c2, (h.live (w.heap.size, a) (by simp)).c3, (h.live (w.heap.size, a) (by simp)).c4⟩)
  have K0 : Hid ((fun w' => St w [(w.heap.size + 1, b), (w.heap.size, a)] [] w' ∧ w'.cell? ⟨w.heap.size + 1, 0, none⟩ = some (.int .u64 b.x0) ∧ w'.cell? ⟨w.heap.size + 1, 1, none⟩ = some (.int .u64 b.x1) ∧ w'.cell? ⟨w.heap.size + 1, 2, none⟩ = some (.int .u64 b.x2) ∧ w'.cell? ⟨w.heap.size + 1, 3, none⟩ = some (.int .u64 b.x3) ∧ w'.cell? ⟨w.heap.size + 1, 4, none⟩ = some (.int .u64 b.x4) ∧ w'.cell? ⟨w.heap.size, 0, none⟩ = some (.int .u64 a.x0) ∧ w'.cell? ⟨w.heap.size, 1, none⟩ = some (.int .u64 a.x1) ∧ w'.cell? ⟨w.heap.size, 2, none⟩ = some (.int .u64 a.x2) ∧ w'.cell? ⟨w.heap.size, 3, none⟩ = some (.int .u64 a.x3) ∧ w'.cell? ⟨w.heap.size, 4, none⟩ = some (.int .u64 a.x4)) _) := hidden (KSt.out _ (S0.out).drew)
  go_region_held3 (fun w' => St w [(w.heap.size + 1, b), (w.heap.size, a)] [] w' ∧ w'.cell? ⟨w.heap.size + 1, 0, none⟩ = some (.int .u64 b.x0) ∧ w'.cell? ⟨w.heap.size + 1, 1, none⟩ = some (.int .u64 b.x1) ∧ w'.cell? ⟨w.heap.size + 1, 2, none⟩ = some (.int .u64 b.x2) ∧ w'.cell? ⟨w.heap.size + 1, 3, none⟩ = some (.int .u64 b.x3) ∧ w'.cell? ⟨w.heap.size + 1, 4, none⟩ = some (.int .u64 b.x4) ∧ w'.cell? ⟨w.heap.size, 0, none⟩ = some (.int .u64 a.x0) ∧ w'.cell? ⟨w.heap.size, 1, none⟩ = some (.int .u64 a.x1) ∧ w'.cell? ⟨w.heap.size, 2, none⟩ = some (.int .u64 a.x2) ∧ w'.cell? ⟨w.heap.size, 3, none⟩ = some (.int .u64 a.x3) ∧ w'.cell? ⟨w.heap.size, 4, none⟩ = some (.int .u64 a.x4)) (first | with_reducible exact K0.out | with_reducible exact hk.out)
    (first | (go_at_call 36; with_reducible refine (c1.out _).mono ?_; rintro e wn ⟨rfl, hb⟩; have hk := hidden (KSt.out _ ((show St w [(w.heap.size + 1, b), (w.heap.size, a)] [] _ from And.left (by assumption)).keep hb))) | (go_at_call 36; with_reducible refine (c2.out _).mono ?_; rintro e wn ⟨rfl, hb⟩; have hk := hidden (KSt.out _ ((show St w [(w.heap.size + 1, b), (w.heap.size, a)] [] _ from And.left (by assumption)).keep hb))))
  go_wp2_with fail
  go_ret
  exact ⟨rfl, hk.out.1.bel⟩
end Go.Proofs.YtgijodenblpbgaaDoor
