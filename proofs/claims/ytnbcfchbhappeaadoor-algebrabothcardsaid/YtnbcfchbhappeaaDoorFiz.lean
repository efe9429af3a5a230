import Derived.Test.YtnbcfchbhappeaaDoorSt
import Derived.Deep.RegionHeld3
import Derived.Deep.DeepCutAuto
import Derived.Test.YtnbcfchbhappeaaDoorNum
import Derived.Test.YtnbcfchbhappeaaDoorAim
namespace Go.Proofs.YtnbcfchbhappeaaDoor.Fe
open Go.RowKit

theorem lst_congr2 {n m : Int} (h : n % Fm.P = m % Fm.P) : lst n = lst m := by unfold lst; rw [h]
theorem fix2 {F : Nat} {args : Array Value} {w : World} {n : Int} (c : Calls Tryd.prog F args w (fun e w' => ∃ r : E5, e = .returned r.v ∧ r.is n ∧ Below w.heap.size w w')) : Calls Tryd.prog F args w (fun e w' => e = .returned (lst n).v ∧ Below w.heap.size w w') :=
  c.mono fun e w' ⟨r, he, hr, hb⟩ => ⟨by rw [he, hr], hb⟩
theorem lst_same (m n : Int) : (lst m).same (lst n) = decide (m % Fm.P = n % Fm.P) := by
  rw [Bool.eq_iff_iff, E5.same_iff, decide_eq_true_iff]
  constructor
  · intro h
    rw [← lst_n m, ← lst_n n, h]
  · intro h
    exact lst_congr2 h

set_option maxRecDepth 100000 in
set_option maxHeartbeats 4000000 in
theorem Same_any (a b : E5) (w : World) (ha : a.ok) (hb : b.ok) :
    Calls Tryd.prog 14 #[a.v, b.v] w fun e w' => e = .returned (.bool (decide (a.n % Fm.P = b.n % Fm.P))) ∧ Below w.heap.size w w' := by
  have c1 := hidden (fun w => fix2 (Least_any a w ha))
  have c2 := hidden (fun w => fix2 (Least_any b w hb))
  have hs := lst_same a.n b.n
  generalize lst a.n = r at *
  generalize lst b.n = s at *
  generalize decide (a.n % Fm.P = b.n % Fm.P) = B at *
  have q := fun w => (eq5 r s w).trans (by rw [hs])
  clear hs ha hb
  simp only [E5.v] at c1 c2 q ⊢
  go_enter Tryd.func14, Tryd.ntmps14
  have S0 := hidden ((St.start w a 31).new b 31)
  simp only [World.size_alloc] at S0
  go_upto_region 1 with fail
  have KSt : Hid (∀ w' : World, St w [(w.heap.size + 1, b), (w.heap.size, a)] [] w' → (fun w' => St w [(w.heap.size + 1, b), (w.heap.size, a)] [] w' ∧ w'.cell? ⟨w.heap.size + 1, 0, none⟩ = some (.int .u64 b.x0) ∧ w'.cell? ⟨w.heap.size + 1, 1, none⟩ = some (.int .u64 b.x1) ∧ w'.cell? ⟨w.heap.size + 1, 2, none⟩ = some (.int .u64 b.x2) ∧ w'.cell? ⟨w.heap.size + 1, 3, none⟩ = some (.int .u64 b.x3) ∧ w'.cell? ⟨w.heap.size + 1, 4, none⟩ = some (.int .u64 b.x4) ∧ w'.cell? ⟨w.heap.size, 0, none⟩ = some (.int .u64 a.x0) ∧ w'.cell? ⟨w.heap.size, 1, none⟩ = some (.int .u64 a.x1) ∧ w'.cell? ⟨w.heap.size, 2, none⟩ = some (.int .u64 a.x2) ∧ w'.cell? ⟨w.heap.size, 3, none⟩ = some (.int .u64 a.x3) ∧ w'.cell? ⟨w.heap.size, 4, none⟩ = some (.int .u64 a.x4)) w') := hidden (fun w' h => ⟨h, (h.live (w.heap.size + 1, b) (by simp)).c0, (h.live (w.heap.size + 1, b) (by simp)).c1, (h.live (w.heap.size + 1, b) (by simp)).c2, (h.live (w.heap.size + 1, b) (by simp)).c3, (h.live (w.heap.size + 1, b) (by simp)).c4, (h.live (w.heap.size, a) (by simp)).c0, (h.live (w.heap.size, a) (by simp)).c1, (h.live (w.heap.size, a) (by simp)).c2, (h.live (w.heap.size, a) (by simp)).c3, (h.live (w.heap.size, a) (by simp)).c4⟩)
  have K0 : Hid ((fun w' => St w [(w.heap.size + 1, b), (w.heap.size, a)] [] w' ∧ w'.cell? ⟨w.heap.size + 1, 0, none⟩ = some (.int .u64 b.x0) ∧ w'.cell? ⟨w.heap.size + 1, 1, none⟩ = some (.int .u64 b.x1) ∧ w'.cell? ⟨w.heap.size + 1, 2, none⟩ = some (.int .u64 b.x2) ∧ w'.cell? ⟨w.heap.size + 1, 3, none⟩ = some (.int .u64 b.x3) ∧ w'.cell? ⟨w.heap.size + 1, 4, none⟩ = some (.int .u64 b.x4) ∧ w'.cell? ⟨w.heap.size, 0, none⟩ = some (.int .u64 a.x0) ∧ w'.cell? ⟨w.heap.size, 1, none⟩ = some (.int .u64 a.x1) ∧ w'.cell? ⟨w.heap.size, 2, none⟩ = some (.int .u64 a.x2) ∧ w'.cell? ⟨w.heap.size, 3, none⟩ = some (.int .u64 a.x3) ∧ w'.cell? ⟨w.heap.size, 4, none⟩ = some (.int .u64 a.x4)) _) := hidden (KSt.out _ (S0.out).drew)
  go_region_held3 (fun w' => St w [(w.heap.size + 1, b), (w.heap.size, a)] [] w' ∧ w'.cell? ⟨w.heap.size + 1, 0, none⟩ = some (.int .u64 b.x0) ∧ w'.cell? ⟨w.heap.size + 1, 1, none⟩ = some (.int .u64 b.x1) ∧ w'.cell? ⟨w.heap.size + 1, 2, none⟩ = some (.int .u64 b.x2) ∧ w'.cell? ⟨w.heap.size + 1, 3, none⟩ = some (.int .u64 b.x3) ∧ w'.cell? ⟨w.heap.size + 1, 4, none⟩ = some (.int .u64 b.x4) ∧ w'.cell? ⟨w.heap.size, 0, none⟩ = some (.int .u64 a.x0) ∧ w'.cell? ⟨w.heap.size, 1, none⟩ = some (.int .u64 a.x1) ∧ w'.cell? ⟨w.heap.size, 2, none⟩ = some (.int .u64 a.x2) ∧ w'.cell? ⟨w.heap.size, 3, none⟩ = some (.int .u64 a.x3) ∧ w'.cell? ⟨w.heap.size, 4, none⟩ = some (.int .u64 a.x4)) (first | with_reducible exact K0.out | with_reducible exact hk.out)
    (first | (go_at_call 29; with_reducible refine (c1.out _).mono ?_; rintro e wn ⟨rfl, hb⟩; have hk := hidden (KSt.out _ ((show St w [(w.heap.size + 1, b), (w.heap.size, a)] [] _ from And.left (by assumption)).keep hb))) | (go_at_call 29; with_reducible refine (c2.out _).mono ?_; rintro e wn ⟨rfl, hb⟩; have hk := hidden (KSt.out _ ((show St w [(w.heap.size + 1, b), (w.heap.size, a)] [] _ from And.left (by assumption)).keep hb))))
  go_wp2_with fail
  go_ret
  exact ⟨rfl, hk.out.1.bel⟩
end Go.Proofs.YtnbcfchbhappeaaDoor.Fe
namespace Go.Proofs.YtnbcfchbhappeaaDoor.Fe
open Go.RowKit
/-- (the field has no table) -/
def Tb (_ : World) : Prop := True
theorem qpm : Al.Mx.Pm Fm.P := ⟨fun e => absurd (Al.c_zero.1 e) (by decide), fun a ha => ⟨a ^ 57896044618658097711785492504343953926634992332820282019728792003956564819947, Al.Mx.C.of_mod (by rw [inv_mul a (fun e => ha (Al.c_zero.2 e))]; decide)⟩⟩
theorem qis {r : E5} {n : Int} (h : r.is n) : Al.Mx.C Fm.P r.n n := Al.Mx.C.of_mod (by rw [h.n]; exact Int.emod_emod_of_dvd _ (Int.dvd_refl _))
theorem qMul (a b : E5) (ha : a.ok) (hb : b.ok) (w : World) (_ : Tb w) : Calls Tryd.prog 17 #[.agg #[.int .u64 a.x0, .int .u64 a.x1, .int .u64 a.x2, .int .u64 a.x3, .int .u64 a.x4], .agg #[.int .u64 b.x0, .int .u64 b.x1, .int .u64 b.x2, .int .u64 b.x3, .int .u64 b.x4]] w fun e w' => ∃ r : E5, e = .returned (.agg #[.int .u64 r.x0, .int .u64 r.x1, .int .u64 r.x2, .int .u64 r.x3, .int .u64 r.x4]) ∧ r.ok ∧ Al.Mx.C Fm.P r.n (a.n * b.n) ∧ Below w.heap.size w w' :=
  (Mul_any a b w ha hb).mono fun _ _ ⟨r, h1, h2, h3⟩ => ⟨r, h1, h2.ok, qis h2, h3⟩
theorem qOne (a : E5) (w : World) : Calls Tryd.prog 76 #[.agg #[.int .u64 a.x0, .int .u64 a.x1, .int .u64 a.x2, .int .u64 a.x3, .int .u64 a.x4]] w fun e w' => ∃ r : E5, e = .returned (.agg #[.int .u64 r.x0, .int .u64 r.x1, .int .u64 r.x2, .int .u64 r.x3, .int .u64 r.x4]) ∧ r.ok ∧ Al.Mx.C Fm.P r.n 1 ∧ Below w.heap.size w w' :=
  (One_any a w).mono fun _ _ ⟨r, h1, h2, h3⟩ => ⟨r, h1, h2.ok, qis h2, h3⟩
theorem qInv (a : E5) (ha : a.ok) (w : World) (_ : Tb w) : Calls Tryd.prog 15 #[.agg #[.int .u64 a.x0, .int .u64 a.x1, .int .u64 a.x2, .int .u64 a.x3, .int .u64 a.x4]] w fun e w' => ∃ r : E5, e = .returned (.agg #[.int .u64 r.x0, .int .u64 r.x1, .int .u64 r.x2, .int .u64 r.x3, .int .u64 r.x4]) ∧ r.ok ∧ (¬ Al.Mx.C Fm.P a.n 0 → Al.Mx.C Fm.P (a.n * r.n) 1) ∧ (Al.Mx.C Fm.P a.n 0 → Al.Mx.C Fm.P r.n 0) ∧ Below w.heap.size w w' :=
  (Invert_any a w ha).mono fun _ _ ⟨r, h1, h2, h3⟩ => ⟨r, h1, h2.ok, fun hn => (Al.Mx.C.rfl.mul (qis h2)).trans (Al.Mx.C.of_mod (by rw [inv_mul a.n (fun e => hn (Al.c_zero.2 e))]; decide)), fun hz => by rw [(show r = lst _ from h2).trans (zero_pow_P a.n (Al.c_zero.1 hz)), lst_n]; exact Al.Mx.C.of_eq (by decide), h3⟩
theorem qZer (a : E5) (ha : a.ok) (w : World) (_ : Tb w) : Calls Tryd.prog 16 #[.agg #[.int .u64 a.x0, .int .u64 a.x1, .int .u64 a.x2, .int .u64 a.x3, .int .u64 a.x4]] w fun e w' => e = .returned (.bool (decide (a.n % Fm.P = 0))) ∧ Below w.heap.size w w' := IsZero_any a w ha
theorem mq_Add (a : E5) (w : World) : (method 207 31 (.agg #[.int .u64 a.x0, .int .u64 a.x1, .int .u64 a.x2, .int .u64 a.x3, .int .u64 a.x4]) "Add").run Tryd.prog w = .ok (75, .agg #[.int .u64 a.x0, .int .u64 a.x1, .int .u64 a.x2, .int .u64 a.x3, .int .u64 a.x4]) w := by kernel_rfl
theorem mq_Mul (a : E5) (w : World) : (method 207 31 (.agg #[.int .u64 a.x0, .int .u64 a.x1, .int .u64 a.x2, .int .u64 a.x3, .int .u64 a.x4]) "Mul").run Tryd.prog w = .ok (17, .agg #[.int .u64 a.x0, .int .u64 a.x1, .int .u64 a.x2, .int .u64 a.x3, .int .u64 a.x4]) w := by kernel_rfl
theorem mq_One (a : E5) (w : World) : (method 207 31 (.agg #[.int .u64 a.x0, .int .u64 a.x1, .int .u64 a.x2, .int .u64 a.x3, .int .u64 a.x4]) "One").run Tryd.prog w = .ok (76, .agg #[.int .u64 a.x0, .int .u64 a.x1, .int .u64 a.x2, .int .u64 a.x3, .int .u64 a.x4]) w := by kernel_rfl
theorem mq_IsZero (a : E5) (w : World) : (method 207 31 (.agg #[.int .u64 a.x0, .int .u64 a.x1, .int .u64 a.x2, .int .u64 a.x3, .int .u64 a.x4]) "IsZero").run Tryd.prog w = .ok (16, .agg #[.int .u64 a.x0, .int .u64 a.x1, .int .u64 a.x2, .int .u64 a.x3, .int .u64 a.x4]) w := by kernel_rfl
theorem mq_Invert (a : E5) (w : World) : (method 207 31 (.agg #[.int .u64 a.x0, .int .u64 a.x1, .int .u64 a.x2, .int .u64 a.x3, .int .u64 a.x4]) "Invert").run Tryd.prog w = .ok (15, .agg #[.int .u64 a.x0, .int .u64 a.x1, .int .u64 a.x2, .int .u64 a.x3, .int .u64 a.x4]) w := by kernel_rfl
/-- an element in a block of its own, that may be written -/
structure Bq (w0 w : World) (b : Nat) (z : E5) : Prop where
  ge : w0.heap.size ≤ b
  c0 : w.cell? ⟨b, 0, none⟩ = some (.int .u64 z.x0)
  c1 : w.cell? ⟨b, 1, none⟩ = some (.int .u64 z.x1)
  c2 : w.cell? ⟨b, 2, none⟩ = some (.int .u64 z.x2)
  c3 : w.cell? ⟨b, 3, none⟩ = some (.int .u64 z.x3)
  c4 : w.cell? ⟨b, 4, none⟩ = some (.int .u64 z.x4)
  f0 : w.frozen? ⟨b, 0, none⟩ = false
  f1 : w.frozen? ⟨b, 1, none⟩ = false
  f2 : w.frozen? ⟨b, 2, none⟩ = false
  f3 : w.frozen? ⟨b, 3, none⟩ = false
  f4 : w.frozen? ⟨b, 4, none⟩ = false
def setq (w : World) (b o : Nat) (z : E5) : World := (((((w.setCell ⟨b, o, none⟩ (.int .u64 z.x0)).setCell ⟨b, o + 1, none⟩ (.int .u64 z.x1)).setCell ⟨b, o + 2, none⟩ (.int .u64 z.x2)).setCell ⟨b, o + 3, none⟩ (.int .u64 z.x3)).setCell ⟨b, o + 4, none⟩ (.int .u64 z.x4))
theorem setq_frozen (w : World) (b o : Nat) (z : E5) (a : Addr) : (setq w b o z).frozen? a = w.frozen? a := by unfold setq; simp only [World.frozen?_setCell]
theorem setq_size (w : World) (b o : Nat) (z : E5) : (setq w b o z).heap.size = w.heap.size := by unfold setq; simp
theorem setq_far (w : World) (b o : Nat) (z : E5) {a : Addr} (h : b ≠ a.block) : (setq w b o z).cell? a = w.cell? a := by
  unfold setq; rw [World.cell?_setCell_far _ _ _ _ h, World.cell?_setCell_far _ _ _ _ h, World.cell?_setCell_far _ _ _ _ h, World.cell?_setCell_far _ _ _ _ h, World.cell?_setCell_far _ _ _ _ h]
theorem setq_ne (W : World) (b x k : Nat) (v : Value) (h : k ≠ x) : (W.setCell ⟨b, x, none⟩ v).cell? ⟨b, k, none⟩ = W.cell? ⟨b, k, none⟩ := World.cell?_setCell_other _ _ _ _ (fun e => h (by have := congrArg Addr.off e; simp only at this; omega))
theorem setq_out (w : World) (b o : Nat) (z : E5) {k : Nat} (h : k < o ∨ o + 5 ≤ k) : (setq w b o z).cell? ⟨b, k, none⟩ = w.cell? ⟨b, k, none⟩ := by
  unfold setq; rw [setq_ne _ _ _ _ _ (by omega), setq_ne _ _ _ _ _ (by omega), setq_ne _ _ _ _ _ (by omega), setq_ne _ _ _ _ _ (by omega), setq_ne _ _ _ _ _ (by omega)]
theorem setq_in (w : World) (b o : Nat) (z : E5) {v0 : Value} {v1 : Value} {v2 : Value} {v3 : Value} {v4 : Value} (h0 : w.cell? ⟨b, o, none⟩ = some v0) (h1 : w.cell? ⟨b, o + 1, none⟩ = some v1) (h2 : w.cell? ⟨b, o + 2, none⟩ = some v2) (h3 : w.cell? ⟨b, o + 3, none⟩ = some v3) (h4 : w.cell? ⟨b, o + 4, none⟩ = some v4) : (setq w b o z).cell? ⟨b, o, none⟩ = some (.int .u64 z.x0) ∧ (setq w b o z).cell? ⟨b, o + 1, none⟩ = some (.int .u64 z.x1) ∧ (setq w b o z).cell? ⟨b, o + 2, none⟩ = some (.int .u64 z.x2) ∧ (setq w b o z).cell? ⟨b, o + 3, none⟩ = some (.int .u64 z.x3) ∧ (setq w b o z).cell? ⟨b, o + 4, none⟩ = some (.int .u64 z.x4) := by
  unfold setq
  refine ⟨?_, ?_, ?_, ?_, ?_⟩
  · rw [setq_ne _ _ _ _ _ (by omega), setq_ne _ _ _ _ _ (by omega), setq_ne _ _ _ _ _ (by omega), setq_ne _ _ _ _ _ (by omega)]; refine World.cell?_setCell_same (u := v0) _ _ _ ?_; exact h0
  · rw [setq_ne _ _ _ _ _ (by omega), setq_ne _ _ _ _ _ (by omega), setq_ne _ _ _ _ _ (by omega)]; refine World.cell?_setCell_same (u := v1) _ _ _ ?_; rw [setq_ne _ _ _ _ _ (by omega)]; exact h1
  · rw [setq_ne _ _ _ _ _ (by omega), setq_ne _ _ _ _ _ (by omega)]; refine World.cell?_setCell_same (u := v2) _ _ _ ?_; rw [setq_ne _ _ _ _ _ (by omega), setq_ne _ _ _ _ _ (by omega)]; exact h2
  · rw [setq_ne _ _ _ _ _ (by omega)]; refine World.cell?_setCell_same (u := v3) _ _ _ ?_; rw [setq_ne _ _ _ _ _ (by omega), setq_ne _ _ _ _ _ (by omega), setq_ne _ _ _ _ _ (by omega)]; exact h3
  · refine World.cell?_setCell_same (u := v4) _ _ _ ?_; rw [setq_ne _ _ _ _ _ (by omega), setq_ne _ _ _ _ _ (by omega), setq_ne _ _ _ _ _ (by omega), setq_ne _ _ _ _ _ (by omega)]; exact h4
theorem setq_bel {w0 w : World} {m b o : Nat} {z : E5} (h : Below m w0 w) (hb : m ≤ b) : Below m w0 (setq w b o z) := by
  unfold setq
  exact (((((h.setCell (p := ⟨b, o, none⟩) hb _).setCell (p := ⟨b, o + 1, none⟩) hb _).setCell (p := ⟨b, o + 2, none⟩) hb _).setCell (p := ⟨b, o + 3, none⟩) hb _).setCell (p := ⟨b, o + 4, none⟩) hb _)
theorem Bq.lt {w0 w : World} {b : Nat} {z : E5} (h : Bq w0 w b z) : b < w.heap.size := World.block_lt_of_cell? _ ⟨b, 0, none⟩ h.c0
theorem Bq.keep {w0 w w' : World} {b : Nat} {z : E5} (h : Bq w0 w b z) (hb : Below w.heap.size w w') : Bq w0 w' b z := ⟨h.ge, Al.cell_keep h.c0 hb, Al.cell_keep h.c1 hb, Al.cell_keep h.c2 hb, Al.cell_keep h.c3 hb, Al.cell_keep h.c4 hb, Al.frozen_keep h.f0 h.lt hb, Al.frozen_keep h.f1 h.lt hb, Al.frozen_keep h.f2 h.lt hb, Al.frozen_keep h.f3 h.lt hb, Al.frozen_keep h.f4 h.lt hb⟩
theorem Bq.put {w0 w : World} {b : Nat} {z : E5} (h : Bq w0 w b z) (y : E5) : Bq w0 (setq w b 0 y) b y := by
  obtain ⟨e0, e1, e2, e3, e4⟩ := setq_in w b 0 y h.c0 h.c1 h.c2 h.c3 h.c4
  exact ⟨h.ge, e0, e1, e2, e3, e4, by rw [setq_frozen]; exact h.f0, by rw [setq_frozen]; exact h.f1, by rw [setq_frozen]; exact h.f2, by rw [setq_frozen]; exact h.f3, by rw [setq_frozen]; exact h.f4⟩
theorem Bq.far {w0 w : World} {b d o : Nat} {z y : E5} (h : Bq w0 w b z) (hn : d ≠ b) : Bq w0 (setq w d o y) b z :=
  ⟨h.ge, by rw [setq_far _ _ _ _ hn]; exact h.c0, by rw [setq_far _ _ _ _ hn]; exact h.c1, by rw [setq_far _ _ _ _ hn]; exact h.c2, by rw [setq_far _ _ _ _ hn]; exact h.c3, by rw [setq_far _ _ _ _ hn]; exact h.c4, by rw [setq_frozen]; exact h.f0, by rw [setq_frozen]; exact h.f1, by rw [setq_frozen]; exact h.f2, by rw [setq_frozen]; exact h.f3, by rw [setq_frozen]; exact h.f4⟩
theorem Bq.new {w0 w : World} (hb : Below w0.heap.size w0 w) (z : E5) (t : TypeId) : Bq w0 (w.alloc (.cells #[.int .u64 z.x0, .int .u64 z.x1, .int .u64 z.x2, .int .u64 z.x3, .int .u64 z.x4] t)) w.heap.size z := ⟨hb.size, by go_simp, by go_simp, by go_simp, by go_simp, by go_simp, by go_simp, by go_simp, by go_simp, by go_simp, by go_simp⟩
/-- elements in a block, that may be written -/
structure Rq (w : World) (b n : Nat) (g : Nat → E5) : Prop where
  lt : b < w.heap.size
  c0 : ∀ k, k < n → w.cell? ⟨b, k * 5, none⟩ = some (.int .u64 (g k).x0)
  c1 : ∀ k, k < n → w.cell? ⟨b, k * 5 + 1, none⟩ = some (.int .u64 (g k).x1)
  c2 : ∀ k, k < n → w.cell? ⟨b, k * 5 + 2, none⟩ = some (.int .u64 (g k).x2)
  c3 : ∀ k, k < n → w.cell? ⟨b, k * 5 + 3, none⟩ = some (.int .u64 (g k).x3)
  c4 : ∀ k, k < n → w.cell? ⟨b, k * 5 + 4, none⟩ = some (.int .u64 (g k).x4)
  f0 : ∀ k, k < n → w.frozen? ⟨b, k * 5, none⟩ = false
  f1 : ∀ k, k < n → w.frozen? ⟨b, k * 5 + 1, none⟩ = false
  f2 : ∀ k, k < n → w.frozen? ⟨b, k * 5 + 2, none⟩ = false
  f3 : ∀ k, k < n → w.frozen? ⟨b, k * 5 + 3, none⟩ = false
  f4 : ∀ k, k < n → w.frozen? ⟨b, k * 5 + 4, none⟩ = false
theorem Rq.keep {w w' : World} {b n : Nat} {g : Nat → E5} (h : Rq w b n g) (hb : Below w.heap.size w w') : Rq w' b n g :=
  ⟨Nat.lt_of_lt_of_le h.lt hb.size, fun k hk => Al.cell_keep (h.c0 k hk) hb, fun k hk => Al.cell_keep (h.c1 k hk) hb, fun k hk => Al.cell_keep (h.c2 k hk) hb, fun k hk => Al.cell_keep (h.c3 k hk) hb, fun k hk => Al.cell_keep (h.c4 k hk) hb, fun k hk => Al.frozen_keep (h.f0 k hk) h.lt hb, fun k hk => Al.frozen_keep (h.f1 k hk) h.lt hb, fun k hk => Al.frozen_keep (h.f2 k hk) h.lt hb, fun k hk => Al.frozen_keep (h.f3 k hk) h.lt hb, fun k hk => Al.frozen_keep (h.f4 k hk) h.lt hb⟩
theorem Rq.far {w : World} {b n d o : Nat} {g : Nat → E5} {z : E5} (h : Rq w b n g) (hn : d ≠ b) : Rq (setq w d o z) b n g :=
  ⟨by rw [setq_size]; exact h.lt, fun k hk => by rw [setq_far _ _ _ _ hn]; exact h.c0 k hk, fun k hk => by rw [setq_far _ _ _ _ hn]; exact h.c1 k hk, fun k hk => by rw [setq_far _ _ _ _ hn]; exact h.c2 k hk, fun k hk => by rw [setq_far _ _ _ _ hn]; exact h.c3 k hk, fun k hk => by rw [setq_far _ _ _ _ hn]; exact h.c4 k hk, fun k hk => by rw [setq_frozen]; exact h.f0 k hk, fun k hk => by rw [setq_frozen]; exact h.f1 k hk, fun k hk => by rw [setq_frozen]; exact h.f2 k hk, fun k hk => by rw [setq_frozen]; exact h.f3 k hk, fun k hk => by rw [setq_frozen]; exact h.f4 k hk⟩
theorem Rq.set {w : World} {b n : Nat} {g : Nat → E5} (h : Rq w b n g) (k : Nat) (hk : k < n) (z : E5) : Rq (setq w b (k * 5) z) b n (fun j => if j = k then z else g j) := by
  obtain ⟨e0, e1, e2, e3, e4⟩ := setq_in w b (k * 5) z (h.c0 k hk) (h.c1 k hk) (h.c2 k hk) (h.c3 k hk) (h.c4 k hk)
  refine ⟨by rw [setq_size]; exact h.lt, fun j hj => ?_, fun j hj => ?_, fun j hj => ?_, fun j hj => ?_, fun j hj => ?_, fun j hj => by rw [setq_frozen]; exact h.f0 j hj, fun j hj => by rw [setq_frozen]; exact h.f1 j hj, fun j hj => by rw [setq_frozen]; exact h.f2 j hj, fun j hj => by rw [setq_frozen]; exact h.f3 j hj, fun j hj => by rw [setq_frozen]; exact h.f4 j hj⟩
  · show (setq w b (k * 5) z).cell? ⟨b, j * 5, none⟩ = some (.int .u64 (if j = k then z else g j).x0)
    by_cases e : j = k
    · rw [if_pos e, e]; exact e0
    · rw [if_neg e, setq_out _ _ _ _ (by omega)]; exact h.c0 j hj
  · show (setq w b (k * 5) z).cell? ⟨b, j * 5 + 1, none⟩ = some (.int .u64 (if j = k then z else g j).x1)
    by_cases e : j = k
    · rw [if_pos e, e]; exact e1
    · rw [if_neg e, setq_out _ _ _ _ (by omega)]; exact h.c1 j hj
  · show (setq w b (k * 5) z).cell? ⟨b, j * 5 + 2, none⟩ = some (.int .u64 (if j = k then z else g j).x2)
    by_cases e : j = k
    · rw [if_pos e, e]; exact e2
    · rw [if_neg e, setq_out _ _ _ _ (by omega)]; exact h.c2 j hj
  · show (setq w b (k * 5) z).cell? ⟨b, j * 5 + 3, none⟩ = some (.int .u64 (if j = k then z else g j).x3)
    by_cases e : j = k
    · rw [if_pos e, e]; exact e3
    · rw [if_neg e, setq_out _ _ _ _ (by omega)]; exact h.c3 j hj
  · show (setq w b (k * 5) z).cell? ⟨b, j * 5 + 4, none⟩ = some (.int .u64 (if j = k then z else g j).x4)
    by_cases e : j = k
    · rw [if_pos e, e]; exact e4
    · rw [if_neg e, setq_out _ _ _ _ (by omega)]; exact h.c4 j hj
theorem Rq.made (w : World) (n : Nat) (t : TypeId) : Rq (w.alloc (.cells (madeCells #[.int .u64 0, .int .u64 0, .int .u64 0, .int .u64 0, .int .u64 0] (n * 5)) t)) w.heap.size n (fun _ => ⟨0, 0, 0, 0, 0⟩) := by
  have hc : ∀ j, j < n * 5 → (w.alloc (.cells (madeCells #[.int .u64 0, .int .u64 0, .int .u64 0, .int .u64 0, .int .u64 0] (n * 5)) t)).cell? ⟨w.heap.size, j, none⟩ = some (.int .u64 0) := fun j hj => by
    rw [cell_of_row (w.alloc (.cells (madeCells #[.int .u64 0, .int .u64 0, .int .u64 0, .int .u64 0, .int .u64 0] (n * 5)) t)) w.heap.size j _ t (0, 0) (heap_alloc_new w _)]
    have h2 : j % 5 = 0 ∨ j % 5 = 1 ∨ j % 5 = 2 ∨ j % 5 = 3 ∨ j % 5 = 4 := by omega
    rcases h2 with h2 | h2 | h2 | h2 | h2 <;> simp [madeCells, hj, h2]
  exact ⟨by simp, fun k hk => hc _ (by omega), fun k hk => hc _ (by omega), fun k hk => hc _ (by omega), fun k hk => hc _ (by omega), fun k hk => hc _ (by omega), fun k hk => by go_simp, fun k hk => by go_simp, fun k hk => by go_simp, fun k hk => by go_simp, fun k hk => by go_simp⟩
theorem qinfo : (Tryd.prog.info? 31).map (fun i => (i.zero, i.size, i.bytes)) = some (some (.agg #[.int .u64 0, .int .u64 0, .int .u64 0, .int .u64 0, .int .u64 0]), 5, 40) := by kernel_rfl
set_option maxRecDepth 100000 in
set_option maxHeartbeats 16000000 in
theorem invAll_any (P : Option Addr) (G n cG : Nat) (g : Nat → E5) (w : World) (h40 : n ≤ 40) (hP : 0 < n → P = some ⟨G, 0, none⟩) (hG : ∀ k, k < n → w.cell? ⟨G, k * 5, none⟩ = some (.int .u64 (g k).x0) ∧ w.cell? ⟨G, k * 5 + 1, none⟩ = some (.int .u64 (g k).x1) ∧ w.cell? ⟨G, k * 5 + 2, none⟩ = some (.int .u64 (g k).x2) ∧ w.cell? ⟨G, k * 5 + 3, none⟩ = some (.int .u64 (g k).x3) ∧ w.cell? ⟨G, k * 5 + 4, none⟩ = some (.int .u64 (g k).x4)) (hok : ∀ k, k < n → (g k).ok) :
    Calls Tryd.prog 8 #[.slice P n cG] w fun e w' => ∃ (I : Nat) (r : Nat → E5), e = .returned (.slice (some ⟨I, 0, none⟩) n n) ∧ w.heap.size ≤ I ∧ Rq w' I n r ∧ (∀ k, k < n → (r k).ok ∧ (Al.Mx.C Fm.P (g k).n 0 → Al.Mx.C Fm.P (r k).n 0) ∧ (¬ Al.Mx.C Fm.P (g k).n 0 → Al.Mx.C Fm.P ((g k).n * (r k).n) 1)) ∧ Below w.heap.size w w' := by
  have N40 := hidden h40
  have HG := hidden hG
  have HO := hidden hok
  have HP := hidden hP
  have TBL : Hid (∀ w' : World, Below w.heap.size w w' → Tb w') := hidden (fun _ _ => trivial)
  obtain ⟨a, ha⟩ : ∃ a : Nat → Int, ∀ k, (g k).n = a k := ⟨_, fun _ => rfl⟩
  have HA := hidden ha
  have nn0 : (0 : Int) ≤ (n : Int) := by omega
  have w8 : IntKind.i64.wrap ((n : Int) - 1) = (n : Int) - 1 := IntWalk.i64_in _ (by omega)
  obtain ⟨i0, hi, hz0, hz1, hz2⟩ := info_parts qinfo
  have hmk := fun w => run_make (P := Tryd.prog) w 28 31 i0 (.agg #[.int .u64 0, .int .u64 0, .int .u64 0, .int .u64 0, .int .u64 0]) (by kernel_rfl) hi hz0 .i64 .i64 (n : Int) (n : Int) (by omega) (Int.le_refl _) (by rw [hz2]; omega) (by omega)
  simp only [Int.toNat_natCast, hz1, Value.cells] at hmk
  have B0 := Al.bl_alloc w (.cells (madeCells #[.int .u64 0, .int .u64 0, .int .u64 0, .int .u64 0, .int .u64 0] (n * 5)) 31)
  have R0 := hidden ((Rq.made w n 31).keep (Al.bl_alloc _ (.cells #[.int .u64 0, .int .u64 0, .int .u64 0, .int .u64 0, .int .u64 0] 31)))
  have X0 := Bq.new B0 ⟨0, 0, 0, 0, 0⟩ 31
  rw [World.size_alloc] at X0
  replace X0 := hidden X0
  replace B0 := hidden (Al.bl_trans B0 (Al.bl_alloc _ (.cells #[.int .u64 0, .int .u64 0, .int .u64 0, .int .u64 0, .int .u64 0] 31)))
  clear h40 hG hok hP ha hi hz0 hz1 hz2
  go_enter Tryd.func8, Tryd.ntmps8
  go_upto_region 3 with fail
  generalize ((w.alloc (.cells (madeCells #[.int .u64 0, .int .u64 0, .int .u64 0, .int .u64 0, .int .u64 0] (n * 5)) 31)).alloc (.cells #[.int .u64 0, .int .u64 0, .int .u64 0, .int .u64 0, .int .u64 0] 31)) = w1 at *
  go_cut [5] (fun v5 wx => ∃ (bp : Nat) (z : E5), v5 = .pointer (some ⟨bp, 0, none⟩) ∧ w.heap.size < bp ∧ Bq w wx bp z ∧ z.ok ∧ Al.Mx.C Fm.P z.n 1 ∧ Rq wx w.heap.size n (fun _ => ⟨0, 0, 0, 0, 0⟩) ∧ Below w.heap.size w wx)
  case first =>
    have c0 := X0.out.c0; have c1 := X0.out.c1; have c2 := X0.out.c2; have c3 := X0.out.c3; have c4 := X0.out.c4
    have m1 := mq_One ⟨0, 0, 0, 0, 0⟩
    have ON := hidden (fun w => qOne ⟨0, 0, 0, 0, 0⟩ w)
    simp only at c0 c1 c2 c3 c4 m1 ON
    go_wp2_with (first | (go_at_call 76; refine (ON.out _).mono ?_; rintro e wa ⟨z, rfl, zo, zn, ha⟩; have HA2 := hidden ha; have HZO := hidden zo; have HZN := hidden zn; clear ha zo zn))
    go_meet
    have hl := (R0.out.keep HA2.out).lt
    exact ⟨_, z, rfl, hl, Bq.new (Al.bl_trans B0.out HA2.out) z _, HZO.out, HZN.out, (R0.out.keep HA2.out).keep (Al.bl_alloc _ _), Al.bl_trans (Al.bl_trans B0.out HA2.out) (Al.bl_alloc _ _)⟩
  case rest =>
  obtain ⟨bp, z, rfl, hbp, hx, hzo, hzn, hr, hb⟩ := hcut
  clear X0 R0 B0 hmk
  have X0 := hidden hx
  have R0 := hidden hr
  have B0 := hidden hb
  have F0 : Hid (Al.Fw E5.n E5.ok Fm.P n 0 a z (fun _ => ⟨0, 0, 0, 0, 0⟩)) := hidden ⟨hzo, hzn, fun _ _ => by exact ⟨by unfold Fm.Wd; simp, by unfold Fm.Wd; simp, by unfold Fm.Wd; simp, by unfold Fm.Wd; simp, by unfold Fm.Wd; simp⟩, fun _ _ _ => Al.Mx.C.of_eq (by decide), fun j hj => absurd hj (by omega)⟩
  clear hx hr hb hzo hzn
  go_wp2_with fail
  go_loopw [18] (fun kv w' => ∃ (k : Nat) (s : E5) (f : Nat → E5), k ≤ n ∧ kv = .int .i64 (k : Int) ∧ Hid (Al.Fw E5.n E5.ok Fm.P n k a s f) ∧ Hid (Bq w w' bp s) ∧ Hid (Rq w' w.heap.size n f) ∧ Hid (Below w.heap.size w w')) (fun k _ => n - (intOf k).toNat)
  case atStart => exact ⟨0, z, _, by omega, rfl, F0, X0, R0, B0⟩
  case round =>
    clear X0 R0 B0 F0
    clear z
    obtain ⟨k, s, f, hk, rfl, hF, h1, hR, hB⟩ := hrel
    by_cases hkn : k < n
    · have k0 : (0 : Int) ≤ (k : Int) := by omega
      have k1 : (k : Int) < (n : Int) := by omega
      have w9 : IntKind.i64.wrap ((k : Int) + 1) = (k : Int) + 1 := IntWalk.i64_in _ (by have := N40.out; omega)
      obtain rfl := HP.out (by omega)
      obtain ⟨c0, c1, c2, c3, c4⟩ := HG.out k hkn
      replace c0 := Al.cell_keep c0 hB.out; replace c1 := Al.cell_keep c1 hB.out; replace c2 := Al.cell_keep c2 hB.out; replace c3 := Al.cell_keep c3 hB.out; replace c4 := Al.cell_keep c4 hB.out
      have yo := HO.out k hkn
      have yn := HA.out k
      generalize g k = y at c0 c1 c2 c3 c4 yo yn
      have IZ := hidden (fun w T => qZer y yo w T)
      rw [yn] at IZ
      have m1 := mq_IsZero y
      have BX := hidden (Al.bl_alloc wr (.cells #[.int .u64 y.x0, .int .u64 y.x1, .int .u64 y.x2, .int .u64 y.x3, .int .u64 y.x4] 31))
      have TX := hidden (Bq.new hB.out y 31)
      by_cases hz : a k % Fm.P = 0
      · simp only [hz, decide_true] at IZ
        have NF := hidden (hF.out.skip (Al.c_zero.2 hz))
        clear hz
        go_wp2_with (first | (go_at_call 16; refine (IZ.out _ (TBL.out _ (Al.bl_trans hB.out BX.out))).mono ?_; rintro e wa ⟨rfl, ha⟩; have BA := hidden (Al.bl_trans BX.out ha); clear ha))
        go_roundw
        case rel => exact ⟨k + 1, s, f, by omega, by go_num, NF, hidden (h1.out.keep BA.out), hidden (hR.out.keep BA.out), hidden (Al.bl_trans hB.out BA.out)⟩
        case measure => simp [intOf]; omega
      · have hd : decide (a k % Fm.P = 0) = false := decide_eq_false hz
        simp only [hd] at IZ
        have HNZ := hidden hz
        clear hz hd
        have m2 := mq_Mul s
        have MU := hidden (fun w T => qMul s y hF.out.so yo w T)
        rw [yn] at MU
        have hXl : bp < wr.heap.size := h1.out.lt
        have hXr : w.heap.size < wr.heap.size := hR.out.lt
        have STEP : Hid (∀ wa, Below wr.heap.size wr wa → Bq w (setq wa w.heap.size (k * 5) s) bp s ∧ Rq (setq wa w.heap.size (k * 5) s) w.heap.size n (fun j => if j = k then s else f j) ∧ Below w.heap.size w (setq wa w.heap.size (k * 5) s)) := hidden (fun wa hb => ⟨(h1.out.keep hb).far (by omega), (hR.out.keep hb).set k hkn s, setq_bel (Al.bl_trans hB.out hb) (Nat.le_refl _)⟩)
        go_wp2_with (first | (go_at_call 16; refine (IZ.out _ (TBL.out _ (Al.bl_trans hB.out BX.out))).mono ?_; rintro e wa ⟨rfl, ha⟩; have BA := Al.bl_trans BX.out ha; have P1 := h1.out.keep BA; have R1 := hR.out.keep BA; have T1 := TX.out.keep ha; have p0 := P1.c0; have p1 := P1.c1; have p2 := P1.c2; have p3 := P1.c3; have p4 := P1.c4; have l0 := R1.c0 k hkn; have l1 := R1.c1 k hkn; have l2 := R1.c2 k hkn; have l3 := R1.c3 k hkn; have l4 := R1.c4 k hkn; have q0 := R1.f0 k hkn; have q1 := R1.f1 k hkn; have q2 := R1.f2 k hkn; have q3 := R1.f3 k hkn; have q4 := R1.f4 k hkn; have T2 := T1.far (d := w.heap.size) (o := k * 5) (y := s) (by omega); obtain ⟨P2, R2, B2⟩ := STEP.out _ BA; have r0 := P2.c0; have r1 := P2.c1; have r2 := P2.c2; have r3 := P2.c3; have r4 := P2.c4; have t0 := T2.c0; have t1 := T2.c1; have t2 := T2.c2; have t3 := T2.c3; have t4 := T2.c4; have HP2 := hidden P2; have HR2 := hidden R2; have HB2 := hidden B2; unfold setq at r0 r1 r2 r3 r4 t0 t1 t2 t3 t4; clear ha BA P1 R1 T1 P2 R2 B2 T2) | (go_at_call 17; refine (MU.out _ (TBL.out _ HB2.out)).mono ?_; rintro e wb ⟨z, rfl, zo, zn, hb⟩; have HZO := hidden zo; have HZN := hidden zn; have P3 := HP2.out.keep hb; have u0 := P3.c0; have u1 := P3.c1; have u2 := P3.c2; have u3 := P3.c3; have u4 := P3.c4; have v0 := P3.f0; have v1 := P3.f1; have v2 := P3.f2; have v3 := P3.f3; have v4 := P3.f4; have HWB := hidden hb; clear zo zn hb P3))
        have NF := hidden (hF.out.next (fun e => HNZ.out (Al.c_zero.1 e)) HZO.out HZN.out)
        have Y1 := hidden ((HP2.out.keep HWB.out).put z)
        have YR := hidden ((HR2.out.keep HWB.out).far (d := bp) (o := 0) (z := z) (by omega))
        have YB := hidden (setq_bel (o := 0) (z := z) (Al.bl_trans HB2.out HWB.out) h1.out.ge)
        unfold setq at Y1 YR YB
        go_roundw
        case rel => exact ⟨k + 1, z, _, by omega, by go_num, NF, Y1, YR, YB⟩
        case measure => simp [intOf]; omega
    · obtain rfl : k = n := by omega
      clear hkn
      go_upto_region 11 with fail
      go_cut [8] (fun v8 wx => ∃ (br : Nat) (z : E5), v8 = .pointer (some ⟨br, 0, none⟩) ∧ w.heap.size < br ∧ Al.Bw E5.n E5.ok Fm.P k k a z f ∧ Bq w wx br z ∧ Rq wx w.heap.size k f ∧ Below w.heap.size w wx)
      case first =>
        have c0 := h1.out.c0; have c1 := h1.out.c1; have c2 := h1.out.c2; have c3 := h1.out.c3; have c4 := h1.out.c4
        have m1 := mq_Invert s
        have IV := hidden (fun w T => qInv s hF.out.so w T)
        go_wp2_with (first | (go_at_call 15; refine (IV.out _ (TBL.out _ hB.out)).mono ?_; rintro e wa ⟨z, rfl, zo, zi, -, ha⟩; have HZO := hidden zo; have HZI := hidden zi; have HA2 := hidden ha; clear zo zi ha))
        go_meet
        have hl := (hR.out.keep HA2.out).lt
        have nz : ¬ Al.Mx.C Fm.P s.n 0 := fun e => Al.prz_nz qpm a k (hF.out.s.symm.trans e)
        exact ⟨_, z, rfl, hl, hF.out.turn HZO.out (HZI.out nz), Bq.new (Al.bl_trans hB.out HA2.out) z _, (hR.out.keep HA2.out).keep (Al.bl_alloc _ _), Al.bl_trans (Al.bl_trans hB.out HA2.out) (Al.bl_alloc _ _)⟩
      case rest =>
      obtain ⟨br, z, rfl, hbr, hbw, hx, hr, hb⟩ := hcut
      clear h1 hR hB hF
      have W0 := hidden hbw
      have X0 := hidden hx
      have R0 := hidden hr
      have B0 := hidden hb
      clear hx hr hb hbw
      go_wp2_with fail
      clear w8
      go_loopw [9] (fun iv w' => ∃ (m : Nat) (s : E5) (q : Nat → E5), m ≤ k ∧ iv = .int .i64 ((m : Int) - 1) ∧ Hid (Al.Bw E5.n E5.ok Fm.P k m a s q) ∧ Hid (Bq w w' br s) ∧ Hid (Rq w' w.heap.size k q) ∧ Hid (Below w.heap.size w w')) (fun i _ => (intOf i + 1).toNat)
      case atStart => exact ⟨k, z, f, by omega, rfl, W0, X0, R0, B0⟩
      case round =>
        clear X0 R0 B0 W0
        clear f z s
        obtain ⟨m, s, f, hm, rfl, hW, h1, hR, hB⟩ := hrel
        by_cases hm0 : 0 < m
        · obtain ⟨i, rfl⟩ : ∃ i, m = i + 1 := ⟨m - 1, by omega⟩
          rw [show ((i + 1 : Nat) : Int) - 1 = (i : Int) by omega]
          have i0 : (0 : Int) ≤ (i : Int) := by omega
          have i1 : (i : Int) < (k : Int) := by omega
          have hik : i < k := by omega
          have v9 : IntKind.i64.wrap ((i : Int) - 1) = (i : Int) - 1 := IntWalk.i64_in _ (by have := N40.out; omega)
          obtain rfl := HP.out (by omega)
          have HGI := hidden (HG.out i hik)
          have yo := HO.out i hik
          have yn := HA.out i
          generalize g i = y at HGI yo yn
          obtain ⟨c0, c1, c2, c3, c4⟩ := HGI.out
          replace c0 := Al.cell_keep c0 hB.out; replace c1 := Al.cell_keep c1 hB.out; replace c2 := Al.cell_keep c2 hB.out; replace c3 := Al.cell_keep c3 hB.out; replace c4 := Al.cell_keep c4 hB.out
          have IZ := hidden (fun w T => qZer y yo w T)
          rw [yn] at IZ
          have m1 := mq_IsZero y
          by_cases hz : a i % Fm.P = 0
          · simp only [hz, decide_true] at IZ
            have NF := hidden (hW.out.skip (Al.c_zero.2 hz))
            clear hz
            go_wp2_with (first | (go_at_call 16; refine (IZ.out _ (TBL.out _ hB.out)).mono ?_; rintro e wa ⟨rfl, ha⟩; have BA := hidden ha; clear ha))
            go_roundw
            case rel => exact ⟨i, s, f, by omega, by go_num, NF, hidden (h1.out.keep BA.out), hidden (hR.out.keep BA.out), hidden (Al.bl_trans hB.out BA.out)⟩
            case measure => simp [intOf]
          · have hd : decide (a i % Fm.P = 0) = false := decide_eq_false hz
            simp only [hd] at IZ
            have HNZ := hidden hz
            clear hz hd
            go_upto_region 16 with (first | (go_at_call 16; refine (IZ.out _ (TBL.out _ hB.out)).mono ?_; rintro e wa ⟨rfl, ha⟩; have HA2 := hidden ha; clear ha))
            have K1 := hidden (h1.out.keep HA2.out)
            have KR := hidden (hR.out.keep HA2.out)
            have KB := hidden (Al.bl_trans hB.out HA2.out)
            clear h1 hR hB HA2 c0 c1 c2 c3 c4 m1 IZ
            go_cut [62] (fun _ wx => ∃ q : E5, q.ok ∧ Al.Mx.C Fm.P q.n ((f i).n * s.n) ∧ Bq w wx br s ∧ Rq wx w.heap.size k (fun j => if j = i then q else f j) ∧ Below w.heap.size w wx)
            case first =>
              have RD := KR.out.keep (Al.bl_drew _)
              have XD := K1.out.keep (Al.bl_drew _)
              have l0 := RD.c0 i hik; have l1 := RD.c1 i hik; have l2 := RD.c2 i hik; have l3 := RD.c3 i hik; have l4 := RD.c4 i hik
              have p0 := XD.c0; have p1 := XD.c1; have p2 := XD.c2; have p3 := XD.c3; have p4 := XD.c4
              have lo := hW.out.o i hik
              have PUT : Hid (∀ wb (q : E5), Below wa.heap.size wa wb → Bq w (setq wb w.heap.size (i * 5) q) br s ∧ Rq (setq wb w.heap.size (i * 5) q) w.heap.size k (fun j => if j = i then q else f j) ∧ Below w.heap.size w (setq wb w.heap.size (i * 5) q)) := hidden (fun wb q hb => ⟨(K1.out.keep hb).far (by omega), (KR.out.keep hb).set i hik q, setq_bel (Al.bl_trans KB.out hb) (Nat.le_refl _)⟩)
              unfold setq at PUT
              have ROW : Hid (∀ wb, Below wa.heap.size wa wb → Rq wb w.heap.size k f) := hidden (fun wb hb => KR.out.keep hb)
              have KT := hidden (TBL.out _ (Al.bl_trans KB.out (Al.bl_drew wa)))
              generalize hfi : f i = x at l0 l1 l2 l3 l4 lo
              have HFI := hidden hfi
              clear hfi
              have m2 := mq_Mul x
              have MU := hidden (fun w T => qMul x s lo hW.out.so w T)
              clear RD XD
              go_region_with (first | (go_at_call 17; with_reducible refine (MU.out _ KT.out).mono ?_; rintro e wb ⟨q, rfl, qo, qn, hb⟩; have HQO := hidden qo; have HQN := hidden qn; have hab := Al.bl_trans (Al.bl_drew wa) hb; have R9 := ROW.out _ hab; have r0 := R9.c0 i hik; have r1 := R9.c1 i hik; have r2 := R9.c2 i hik; have r3 := R9.c3 i hik; have r4 := R9.c4 i hik; have t0 := R9.f0 i hik; have t1 := R9.f1 i hik; have t2 := R9.f2 i hik; have t3 := R9.f3 i hik; have t4 := R9.f4 i hik; have HAB := hidden hab; clear qo qn hb hab R9))
              all_goals
                go_wp2_with fail
                go_meet
                exact ⟨q, HQO.out, by rw [HFI.out]; exact HQN.out, PUT.out _ q HAB.out⟩
            case rest =>
            obtain ⟨q, qo, qn, hx, hr, hb⟩ := hcut
            clear KR KB K1
            have HQO := hidden qo
            have HQN := hidden qn
            have K1 := hidden hx
            have KR := hidden hr
            have KB := hidden hb
            clear qo qn hx hr hb
            have XD := K1.out.keep (Al.bl_drew _)
            have p0 := XD.c0; have p1 := XD.c1; have p2 := XD.c2; have p3 := XD.c3; have p4 := XD.c4
            obtain ⟨c0, c1, c2, c3, c4⟩ := HGI.out
            replace c0 := Al.cell_keep (Al.cell_keep c0 KB.out) (Al.bl_drew _); replace c1 := Al.cell_keep (Al.cell_keep c1 KB.out) (Al.bl_drew _); replace c2 := Al.cell_keep (Al.cell_keep c2 KB.out) (Al.bl_drew _); replace c3 := Al.cell_keep (Al.cell_keep c3 KB.out) (Al.bl_drew _); replace c4 := Al.cell_keep (Al.cell_keep c4 KB.out) (Al.bl_drew _)
            have m2 := mq_Mul s
            have MU := hidden (fun w T => qMul s y hW.out.so yo w T)
            rw [yn] at MU
            have KT := hidden (TBL.out _ (Al.bl_trans KB.out (Al.bl_drew _)))
            have BOX : Hid (∀ wb, Below wc.heap.size wc wb → Bq w wb br s) := hidden (fun wb hb => K1.out.keep hb)
            clear XD
            go_upto_region 17 with fail
            go_region_with (first | (go_at_call 17; with_reducible refine (MU.out _ KT.out).mono ?_; rintro e wb ⟨z, rfl, zo, zn, hb⟩; have HZO := hidden zo; have HZN := hidden zn; have hab := Al.bl_trans (Al.bl_drew _) hb; have X9 := BOX.out _ hab; have r0 := X9.c0; have r1 := X9.c1; have r2 := X9.c2; have r3 := X9.c3; have r4 := X9.c4; have t0 := X9.f0; have t1 := X9.f1; have t2 := X9.f2; have t3 := X9.f3; have t4 := X9.f4; have HAB := hidden hab; clear zo zn hb hab X9))
            all_goals
              have Y1 := hidden ((K1.out.keep HAB.out).put z)
              have YR := hidden ((KR.out.keep HAB.out).far (d := br) (o := 0) (z := z) (by omega))
              have YB := hidden (setq_bel (o := 0) (z := z) (Al.bl_trans KB.out HAB.out) K1.out.ge)
              have NF := hidden (hW.out.next hik (fun e => HNZ.out (Al.c_zero.1 e)) HQO.out HQN.out HZO.out HZN.out)
              unfold setq at Y1 YR YB
              clear c0 c1 c2 c3 c4 p0 p1 p2 p3 p4 r0 r1 r2 r3 r4 t0 t1 t2 t3 t4 m2
              go_wp2_with fail
              go_roundw
              case rel => exact ⟨i, z, _, by omega, by go_num, NF, Y1, YR, YB⟩
              case measure => simp [intOf]
        · obtain rfl : m = 0 := by omega
          have e1 : ((0 : Nat) : Int) - 1 = -1 := rfl
          rw [e1]
          clear hm0
          have FIN : Hid (∀ j, j < k → (f j).ok ∧ (Al.Mx.C Fm.P (g j).n 0 → Al.Mx.C Fm.P (f j).n 0) ∧ (¬ Al.Mx.C Fm.P (g j).n 0 → Al.Mx.C Fm.P ((g j).n * (f j).n) 1)) := hidden (fun j hj => by rw [HA.out j]; exact ⟨hW.out.o j hj, hW.out.z j hj, hW.out.d j (Nat.zero_le _) hj⟩)
          go_wp2_with fail
          refine bodyPost_ret (v := .slice (some ⟨w.heap.size, 0, none⟩) k k) (by simp [results, Tryd.results8, go_sem]) rfl ⟨w.heap.size, f, rfl, Nat.le_refl _, hR.out, FIN.out, hB.out⟩
end Go.Proofs.YtnbcfchbhappeaaDoor.Fe
namespace Go.Proofs.YtnbcfchbhappeaaDoor.Fe
open Go.RowKit
theorem qAdd (a b : E5) (ha : a.ok) (hb : b.ok) (w : World) : Calls Tryd.prog 75 #[.agg #[.int .u64 a.x0, .int .u64 a.x1, .int .u64 a.x2, .int .u64 a.x3, .int .u64 a.x4], .agg #[.int .u64 b.x0, .int .u64 b.x1, .int .u64 b.x2, .int .u64 b.x3, .int .u64 b.x4]] w fun e w' => ∃ r : E5, e = .returned (.agg #[.int .u64 r.x0, .int .u64 r.x1, .int .u64 r.x2, .int .u64 r.x3, .int .u64 r.x4]) ∧ r.ok ∧ Al.Mx.C Fm.P r.n (a.n + b.n) ∧ Below w.heap.size w w' :=
  (Add_any a b w ha hb).mono fun _ _ ⟨r, h1, h2, h3⟩ => ⟨r, h1, h2.ok, qis h2, h3⟩
set_option maxRecDepth 100000 in
set_option maxHeartbeats 8000000 in
theorem sum_any (P : Option Addr) (G n cP : Nat) (g : Nat → E5) (w : World) (h100 : n ≤ 100) (hP : 0 < n → P = some ⟨G, 0, none⟩) (hG : ∀ k, k < n → w.cell? ⟨G, k * 5, none⟩ = some (.int .u64 (g k).x0) ∧ w.cell? ⟨G, k * 5 + 1, none⟩ = some (.int .u64 (g k).x1) ∧ w.cell? ⟨G, k * 5 + 2, none⟩ = some (.int .u64 (g k).x2) ∧ w.cell? ⟨G, k * 5 + 3, none⟩ = some (.int .u64 (g k).x3) ∧ w.cell? ⟨G, k * 5 + 4, none⟩ = some (.int .u64 (g k).x4)) (hok : ∀ k, k < n → (g k).ok) :
    Calls Tryd.prog 20 #[.slice P n cP] w fun e w' => ∃ r : E5, e = .returned (.agg #[.int .u64 r.x0, .int .u64 r.x1, .int .u64 r.x2, .int .u64 r.x3, .int .u64 r.x4]) ∧ r.ok ∧ Al.Mx.C Fm.P r.n (Al.Mx.sm n (fun k => (g k).n)) ∧ Below w.heap.size w w' := by
  have N100 := hidden h100
  have HG := hidden hG
  have HO := hidden hok
  have HP := hidden hP
  have nn0 : (0 : Int) ≤ (n : Int) := by omega
  have B0 := Al.bl_alloc w (.cells #[.int .u64 0, .int .u64 0, .int .u64 0, .int .u64 0, .int .u64 0] 31)
  have X1 := hidden ((Bq.new (Below.refl _ w) ⟨0, 0, 0, 0, 0⟩ 31).keep (Al.bl_alloc _ (.cells #[.int .u64 0, .int .u64 0, .int .u64 0, .int .u64 0, .int .u64 0] 31)))
  have X2 := Bq.new B0 ⟨0, 0, 0, 0, 0⟩ 31
  rw [World.size_alloc] at X2
  replace X2 := hidden X2
  replace B0 := hidden (Al.bl_trans B0 (Al.bl_alloc _ (.cells #[.int .u64 0, .int .u64 0, .int .u64 0, .int .u64 0, .int .u64 0] 31)))
  have ZO : Hid ((⟨0, 0, 0, 0, 0⟩ : E5).ok) := hidden ⟨by unfold Fm.Wd; simp, by unfold Fm.Wd; simp, by unfold Fm.Wd; simp, by unfold Fm.Wd; simp, by unfold Fm.Wd; simp⟩
  clear h100 hG hok hP
  go_enter Tryd.func20, Tryd.ntmps20
  go_wp2_with fail
  go_loopw [8] (fun kv w' => ∃ (k : Nat) (s : E5), k ≤ n ∧ kv = .int .i64 (k : Int) ∧ Hid s.ok ∧ Hid (Al.Mx.C Fm.P s.n (Al.Mx.sm k (fun k => (g k).n))) ∧ Hid (Bq w w' w.heap.size ⟨0, 0, 0, 0, 0⟩) ∧ Hid (Bq w w' (w.heap.size + 1) s) ∧ Hid (Below w.heap.size w w')) (fun k _ => n - (intOf k).toNat)
  case atStart => exact ⟨0, ⟨0, 0, 0, 0, 0⟩, by omega, rfl, ZO, hidden (Al.Mx.C.of_eq (show (⟨0, 0, 0, 0, 0⟩ : E5).n = 0 by decide)), X1, X2, B0⟩
  case round =>
    clear X1 X2 B0 ZO
    obtain ⟨k, s, hk, rfl, hso, hs, h1, h2, hB⟩ := hrel
    by_cases hkn : k < n
    · have k0 : (0 : Int) ≤ (k : Int) := by omega
      have k1 : (k : Int) < (n : Int) := by omega
      have w9 : IntKind.i64.wrap ((k : Int) + 1) = (k : Int) + 1 := IntWalk.i64_in _ (by have := N100.out; omega)
      obtain rfl := HP.out (by omega)
      obtain ⟨c0, c1, c2, c3, c4⟩ := HG.out k hkn
      replace c0 := Al.cell_keep c0 hB.out; replace c1 := Al.cell_keep c1 hB.out; replace c2 := Al.cell_keep c2 hB.out; replace c3 := Al.cell_keep c3 hB.out; replace c4 := Al.cell_keep c4 hB.out
      have yo := HO.out k hkn
      have HE : Hid (Al.Mx.sm (k + 1) (fun k => (g k).n) = Al.Mx.sm k (fun k => (g k).n) + (g k).n) := hidden rfl
      generalize g k = y at c0 c1 c2 c3 c4 yo HE
      have BX := hidden (Al.bl_alloc wr (.cells #[.int .u64 y.x0, .int .u64 y.x1, .int .u64 y.x2, .int .u64 y.x3, .int .u64 y.x4] 31))
      have P1 := h2.out.keep BX.out
      have p0 := P1.c0; have p1 := P1.c1; have p2 := P1.c2; have p3 := P1.c3; have p4 := P1.c4
      have m2 := mq_Add s
      have AD := hidden (fun w => qAdd s y hso.out yo w)
      clear P1
      go_wp2_with (first | (go_at_call 75; refine (AD.out _).mono ?_; rintro e wa ⟨z, rfl, zo, zn, ha⟩; have HZO := hidden zo; have HZN := hidden zn; have BA := Al.bl_trans BX.out ha; have P3 := h2.out.keep BA; have u0 := P3.c0; have u1 := P3.c1; have u2 := P3.c2; have u3 := P3.c3; have u4 := P3.c4; have v0 := P3.f0; have v1 := P3.f1; have v2 := P3.f2; have v3 := P3.f3; have v4 := P3.f4; have HBA := hidden BA; clear zo zn ha BA P3))
      have NS : Hid (Al.Mx.C Fm.P z.n (Al.Mx.sm (k + 1) (fun k => (g k).n))) := hidden (by rw [HE.out]; exact HZN.out.trans (hs.out.add Al.Mx.C.rfl))
      have Y1 := hidden ((h1.out.keep HBA.out).far (d := w.heap.size + 1) (o := 0) (y := z) (by omega))
      have Y2 := hidden ((h2.out.keep HBA.out).put z)
      have YB := hidden (setq_bel (o := 0) (z := z) (Al.bl_trans hB.out HBA.out) h2.out.ge)
      unfold setq at Y1 Y2 YB
      go_roundw
      case rel => exact ⟨k + 1, z, by omega, by go_num, HZO, NS, Y1, Y2, YB⟩
      case measure => simp [intOf]; omega
    · obtain rfl : k = n := by omega
      clear hkn
      have c0 := h2.out.c0; have c1 := h2.out.c1; have c2 := h2.out.c2; have c3 := h2.out.c3; have c4 := h2.out.c4
      have d0 := h1.out.c0; have d1 := h1.out.c1; have d2 := h1.out.c2; have d3 := h1.out.c3; have d4 := h1.out.c4
      have e0 := h1.out.f0; have e1 := h1.out.f1; have e2 := h1.out.f2; have e3 := h1.out.f3; have e4 := h1.out.f4
      have PP := h1.out.put s
      have q0 := PP.c0; have q1 := PP.c1; have q2 := PP.c2; have q3 := PP.c3; have q4 := PP.c4
      have B2 := hidden (setq_bel (o := 0) (z := s) hB.out h1.out.ge)
      unfold setq at B2 q0 q1 q2 q3 q4
      clear PP
      simp only at d0 d1 d2 d3 d4
      go_wp2_with fail
      refine bodyPost_ret (v := .agg #[.int .u64 s.x0, .int .u64 s.x1, .int .u64 s.x2, .int .u64 s.x3, .int .u64 s.x4]) (by simp [results, Tryd.results20, go_sem, q0, q1, q2, q3, q4]) rfl ⟨s, rfl, hso.out, hs.out, B2.out⟩
end Go.Proofs.YtnbcfchbhappeaaDoor.Fe
