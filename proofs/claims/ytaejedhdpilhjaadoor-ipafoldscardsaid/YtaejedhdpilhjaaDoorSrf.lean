import Derived.Test.YtaejedhdpilhjaaDoorSop
namespace Go.Proofs.YtaejedhdpilhjaaDoor
open Go.RowKit

def E4.put (o : E4) (k : Nat) (v : Int) : E4 := match k with
  | 0 => ⟨v, o.x1, o.x2, o.x3⟩
  | 1 => ⟨o.x0, v, o.x2, o.x3⟩
  | 2 => ⟨o.x0, o.x1, v, o.x3⟩
  | _ => ⟨o.x0, o.x1, o.x2, v⟩
theorem E4.put_get (o : E4) (k : Nat) (v : Int) : (o.put k v).get k = v := by
  unfold E4.put; split <;> simp_all [E4.get]
theorem E4.put_other (o : E4) (k j : Nat) (v : Int) (hk : k < 4) (hj : j < 4) (h : j ≠ k) : (o.put k v).get j = o.get j := by
  have hk4 : k = 0 ∨ k = 1 ∨ k = 2 ∨ k = 3 := by omega
  have hj4 : j = 0 ∨ j = 1 ∨ j = 2 ∨ j = 3 := by omega
  rcases hk4 with rfl | rfl | rfl | rfl <;> rcases hj4 with rfl | rfl | rfl | rfl <;> first | exact absurd rfl h | rfl
theorem E4.put_ok {o : E4} (h : o.ok) (k : Nat) {v : Int} (hv : Sm.Wd v) : (o.put k v).ok := by
  obtain ⟨h0, h1, h2, h3⟩ := h
  unfold E4.put; split
  · exact ⟨hv, h1, h2, h3⟩
  · exact ⟨h0, hv, h2, h3⟩
  · exact ⟨h0, h1, hv, h3⟩
  · exact ⟨h0, h1, h2, hv⟩
theorem E4.put_low (o : E4) (k : Nat) (v : Int) (hk : k < 4) : (o.put k v).low k = o.low k := by
  have hk4 : k = 0 ∨ k = 1 ∨ k = 2 ∨ k = 3 := by omega
  rcases hk4 with rfl | rfl | rfl | rfl <;> simp [E4.low, E4.get, E4.put]
theorem Wrt.get {w : World} {b : Nat} (h : Wrt w b) (k : Nat) (hk : k < 4) : w.frozen? ⟨b, k, none⟩ = false := by
  match k, hk with
  | 0, _ => exact h.f0
  | 1, _ => exact h.f1
  | 2, _ => exact h.f2
  | 3, _ => exact h.f3
theorem Blc.put {w : World} {b : Nat} {o : E4} (h : Blc w b o) (k : Nat) (hk : k < 4) (v : Int) : Blc (w.setCell ⟨b, k, none⟩ (.int .u64 v)) b (o.put k v) := by
  obtain ⟨h0, h1, h2, h3⟩ := h
  have hk4 : k = 0 ∨ k = 1 ∨ k = 2 ∨ k = 3 := by omega
  rcases hk4 with rfl | rfl | rfl | rfl <;> (simp only [E4.put]; constructor <;> go_simp)
theorem Blc.far1 {w : World} {b c : Nat} {o : E4} (h : Blc w b o) (hne : c ≠ b) (k : Nat) (v : Value) : Blc (w.setCell ⟨c, k, none⟩ v) b o :=
  ⟨(World.cell?_setCell_far w _ _ _ hne).trans h.c0, (World.cell?_setCell_far w _ _ _ hne).trans h.c1, (World.cell?_setCell_far w _ _ _ hne).trans h.c2, (World.cell?_setCell_far w _ _ _ hne).trans h.c3⟩
theorem Wrt.put {w : World} {b : Nat} (h : Wrt w b) (c k : Nat) (v : Value) : Wrt (w.setCell ⟨c, k, none⟩ v) b := by
  obtain ⟨h0, h1, h2, h3⟩ := h
  constructor <;> go_simp
theorem St.put {w0 : World} {L M : List (Nat × E4)} {R : List Nat} {w1 : World} {b : Nat} {o : E4} (h : St w0 L R w1) (k : Nat) (hk : k < 4) (v : Int) (hb : (b, o) ∈ L) (h0 : w0.heap.size ≤ b) (hs : ∀ p ∈ M, p ∈ L ∧ b ≠ p.1) :
    St w0 ((b, o.put k v) :: M) R (w1.setCell ⟨b, k, none⟩ (.int .u64 v)) := by
  refine ⟨fun p hp => ?_, fun c hc => ⟨(h.wrt c hc).1.put b k _, by simpa using (h.wrt c hc).2⟩, h.bel.setCell h0 _⟩
  rcases List.mem_cons.1 hp with rfl | hp
  · exact (h.live _ hb).put k hk v
  · exact (h.live p (hs p hp).1).far1 (hs p hp).2 k _

theorem below_math (a b : E4) (ha : a.ok) (hb : b.ok) (m : Nat) (hm : m < 4) (he : ∀ j, m < j → j < 4 → a.get j = b.get j) (hne : a.get m ≠ b.get m) : decide (a.get m < b.get m) = decide (a.n < b.n) := by
  obtain ⟨a0, a1, a2, a3⟩ := ha
  obtain ⟨b0, b1, b2, b3⟩ := hb
  unfold Sm.Wd at *
  rw [decide_eq_decide]
  have e1 := he 1
  have e2 := he 2
  have e3 := he 3
  have hm4 : m = 0 ∨ m = 1 ∨ m = 2 ∨ m = 3 := by omega
  rcases hm4 with rfl | rfl | rfl | rfl <;> simp only [E4.get, E4.n, Sm.V] at * <;> omega
theorem below_same (a b : E4) (he : ∀ j, j < 4 → a.get j = b.get j) : decide (a.n < b.n) = false := by
  have e0 := he 0 (by omega)
  have e1 := he 1 (by omega)
  have e2 := he 2 (by omega)
  have e3 := he 3 (by omega)
  simp only [E4.get] at e0 e1 e2 e3
  rw [decide_eq_false_iff_not]
  simp only [E4.n, e0, e1, e2, e3]
  omega

end Go.Proofs.YtaejedhdpilhjaaDoor
