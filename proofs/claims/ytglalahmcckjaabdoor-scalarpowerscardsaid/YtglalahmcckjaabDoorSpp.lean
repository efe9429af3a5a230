import Derived.Test.YtglalahmcckjaabDoorSix
import Derived.Test.YtglalahmcckjaabDoorSsb
namespace Go.Proofs.YtglalahmcckjaabDoor
open Go.RowKit

set_option maxRecDepth 100000 in
set_option maxHeartbeats 32000000 in
theorem powers_any (a : E4) (E : Nat) (w : World) (hT : Tb w) (ha : a.ok) (hE : E < 18446744073709551616) : Calls Tryd.prog 8 #[a.v, .int .u64 E] w fun e w' => e = .returned (.bool true) ∧ Below w.heap.size w w' := by
  obtain ⟨X, hX⟩ : ∃ t : E4, lst a.n = t := ⟨_, rfl⟩
  obtain ⟨P, hP⟩ : ∃ t : E4, lst (a.n ^ E) = t := ⟨_, rfl⟩
  obtain ⟨V, hV⟩ : ∃ t : E4, lst (a.n ^ 7237005577332262213973186563042994240857116359379907606001950938285454250987) = t := ⟨_, rfl⟩
  have of_a := hidden (fun w => of_any a w ha)
  have pw := hidden (fun w T => fix (Power_any a E w T ha hE) hP)
  have iv := hidden (fun w T => fix (Invert_any a w T ha) hV)
  have rp := hidden (fun w => rPower_any a.n E w hE)
  have ri := hidden (fun w => rInvert_any a.n w)
  have iP := hidden (fun w => is_any P w)
  have iV := hidden (fun w => is_any V w)
  rw [hX] at of_a rp ri
  rw [hP] at rp
  rw [hV] at ri
  have HT := hidden hT
  have s0 := (St.start w a 24).new a 28
  simp only [World.size_alloc] at s0
  have S0 := hidden s0
  clear s0 hX hP hV ha hT hE
  simp only [E4.v] at of_a pw iv rp ri iP iV ⊢
  go_enter Tryd.func8, Tryd.ntmps8
  go_upto_region 2 with fail
  generalize ((w.alloc (.cells #[.int .u64 a.x0, .int .u64 a.x1, .int .u64 a.x2, .int .u64 a.x3] 24)).alloc (.cells #[.int .u64 a.x0, .int .u64 a.x1, .int .u64 a.x2, .int .u64 a.x3] 28)) = wB at S0 ⊢
  have KSt : Hid (∀ w' : World, St w [(w.heap.size + 1, a), (w.heap.size, a)] [] w' → (fun w' => St w [(w.heap.size + 1, a), (w.heap.size, a)] [] w' ∧ w'.cell? ⟨w.heap.size + 1, 0, none⟩ = some (.int .u64 a.x0) ∧ w'.cell? ⟨w.heap.size + 1, 1, none⟩ = some (.int .u64 a.x1) ∧ w'.cell? ⟨w.heap.size + 1, 2, none⟩ = some (.int .u64 a.x2) ∧ w'.cell? ⟨w.heap.size + 1, 3, none⟩ = some (.int .u64 a.x3) ∧ w'.cell? ⟨w.heap.size, 0, none⟩ = some (.int .u64 a.x0) ∧ w'.cell? ⟨w.heap.size, 1, none⟩ = some (.int .u64 a.x1) ∧ w'.cell? ⟨w.heap.size, 2, none⟩ = some (.int .u64 a.x2) ∧ w'.cell? ⟨w.heap.size, 3, none⟩ = some (.int .u64 a.x3)) w') := hidden (fun w' h => ⟨h, (h.live (w.heap.size + 1, a) (by simp)).c0, (h.live (w.heap.size + 1, a) (by simp)).c1, (h.live (w.heap.size + 1, a) (by simp)).c2, (h.live (w.heap.size + 1, a) (by simp)).c3, (h.live (w.heap.size, a) (by simp)).c0, (h.live (w.heap.size, a) (by simp)).c1, (h.live (w.heap.size, a) (by simp)).c2, (h.live (w.heap.size, a) (by simp)).c3⟩)
  have KTb : Hid (∀ w' : World, St w [(w.heap.size + 1, a), (w.heap.size, a)] [] w' → Tb w') := hidden (fun w' h => h.tb HT.out)
  have K0 : Hid ((fun w' => St w [(w.heap.size + 1, a), (w.heap.size, a)] [] w' ∧ w'.cell? ⟨w.heap.size + 1, 0, none⟩ = some (.int .u64 a.x0) ∧ w'.cell? ⟨w.heap.size + 1, 1, none⟩ = some (.int .u64 a.x1) ∧ w'.cell? ⟨w.heap.size + 1, 2, none⟩ = some (.int .u64 a.x2) ∧ w'.cell? ⟨w.heap.size + 1, 3, none⟩ = some (.int .u64 a.x3) ∧ w'.cell? ⟨w.heap.size, 0, none⟩ = some (.int .u64 a.x0) ∧ w'.cell? ⟨w.heap.size, 1, none⟩ = some (.int .u64 a.x1) ∧ w'.cell? ⟨w.heap.size, 2, none⟩ = some (.int .u64 a.x2) ∧ w'.cell? ⟨w.heap.size, 3, none⟩ = some (.int .u64 a.x3)) _) := hidden (KSt.out _ (S0.out).drew)
  go_region_held3 (fun w' => St w [(w.heap.size + 1, a), (w.heap.size, a)] [] w' ∧ w'.cell? ⟨w.heap.size + 1, 0, none⟩ = some (.int .u64 a.x0) ∧ w'.cell? ⟨w.heap.size + 1, 1, none⟩ = some (.int .u64 a.x1) ∧ w'.cell? ⟨w.heap.size + 1, 2, none⟩ = some (.int .u64 a.x2) ∧ w'.cell? ⟨w.heap.size + 1, 3, none⟩ = some (.int .u64 a.x3) ∧ w'.cell? ⟨w.heap.size, 0, none⟩ = some (.int .u64 a.x0) ∧ w'.cell? ⟨w.heap.size, 1, none⟩ = some (.int .u64 a.x1) ∧ w'.cell? ⟨w.heap.size, 2, none⟩ = some (.int .u64 a.x2) ∧ w'.cell? ⟨w.heap.size, 3, none⟩ = some (.int .u64 a.x3)) (first | with_reducible exact K0.out | with_reducible exact hk.out)
    (first | (go_at_call 41; with_reducible refine (pw.out _ (KTb.out _ (And.left (by assumption)))).mono ?_; rintro e wn ⟨rfl, hb⟩; have hk := hidden (KSt.out _ ((show St w [(w.heap.size + 1, a), (w.heap.size, a)] [] _ from And.left (by assumption)).keep hb))) | (go_at_call 11; with_reducible refine (of_a.out _).mono ?_; rintro e wn ⟨rfl, hb⟩; have hk := hidden (KSt.out _ ((show St w [(w.heap.size + 1, a), (w.heap.size, a)] [] _ from And.left (by assumption)).keep hb))) | (go_at_call 42; with_reducible refine (rp.out _).mono ?_; rintro e wn ⟨rfl, hb⟩; have hk := hidden (KSt.out _ ((show St w [(w.heap.size + 1, a), (w.heap.size, a)] [] _ from And.left (by assumption)).keep hb))) | (go_at_call 21; with_reducible refine (iP.out _).mono ?_; rintro e wn ⟨rfl, hb⟩; have hk := hidden (KSt.out _ ((show St w [(w.heap.size + 1, a), (w.heap.size, a)] [] _ from And.left (by assumption)).keep hb))) | (go_at_call 33; with_reducible refine (iv.out _ (KTb.out _ (And.left (by assumption)))).mono ?_; rintro e wn ⟨rfl, hb⟩; have hk := hidden (KSt.out _ ((show St w [(w.heap.size + 1, a), (w.heap.size, a)] [] _ from And.left (by assumption)).keep hb))) | (go_at_call 43; with_reducible refine (ri.out _).mono ?_; rintro e wn ⟨rfl, hb⟩; have hk := hidden (KSt.out _ ((show St w [(w.heap.size + 1, a), (w.heap.size, a)] [] _ from And.left (by assumption)).keep hb))) | (go_at_call 21; with_reducible refine (iV.out _).mono ?_; rintro e wn ⟨rfl, hb⟩; have hk := hidden (KSt.out _ ((show St w [(w.heap.size + 1, a), (w.heap.size, a)] [] _ from And.left (by assumption)).keep hb))))
  go_wp2_with fail
  go_ret
  exact ⟨rfl, hk.out.1.bel⟩
theorem powers_int (a : E4) (e : Int) (w : World) (hT : Tb w) (ha : a.ok) (he : Sm.Wd e) : Calls Tryd.prog 8 #[a.v, .int .u64 e] w fun e w' => e = .returned (.bool true) ∧ Below w.heap.size w w' := by
  obtain ⟨E, rfl⟩ := Int.eq_ofNat_of_zero_le he.1
  exact powers_any a E w hT ha (by have := he.2; omega)
end Go.Proofs.YtglalahmcckjaabDoor
