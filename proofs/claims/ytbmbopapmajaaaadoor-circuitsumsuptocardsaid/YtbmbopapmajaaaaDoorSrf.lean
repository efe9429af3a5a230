import Derived.Test.YtbmbopapmajaaaaDoorSop
namespace Go.Proofs.YtbmbopapmajaaaaDoor
open Go.RowKit

def E4.put (o : E4) (k : Nat) (v : Int) : E4 := match k with
  | 0 => ⟨v, o.x1, o.x2, o.x3⟩
  | 1 => ⟨o.x0, v, o.x2, o.x3⟩
  | 2 => ⟨o.x0, o.x1, v, o.x3⟩
  | _ => ⟨o.x0, o.x1, o.x2, v⟩
theorem E4.put_get (o : E4) (k : Nat) (v : Int) : (o.put k v).get k = v := by
  unfold E4.put; split <;> simp_all [E4.get]
theorem E4.put_other (o : E4) (k j : Nat) (v : Int) (hk : k < 4) (hj : j < 4) (h : j ≠ k) : (o.put k v).get j = o.get j := by
  have hk4 : k = 0 ∨ k = 1 ∨ k = 2 ∨ k = 3 := by omega
  have hj4 : j = 0 ∨ j = 1 ∨ j = 2 ∨ j = 3 := by omega
  rcases hk4 with rfl | rfl | rfl | rfl <;> rcases hj4 with rfl | rfl | rfl | rfl <;> first | exact absurd rfl h | rfl
theorem E4.put_ok {o : E4} (h : o.ok) (k : Nat) {v : Int} (hv : Sm.Wd v) : (o.put k v).ok := by
  obtain ⟨h0, h1, h2, h3⟩ := h
  unfold E4.put; split
  · exact ⟨hv, h1, h2, h3⟩
  · exact ⟨h0, hv, h2, h3⟩
  · exact ⟨h0, h1, hv, h3⟩
  · exact ⟨h0, h1, h2, hv⟩
theorem E4.put_low (o : E4) (k : Nat) (v : Int) (hk : k < 4) : (o.put k v).low k = o.low k := by
  have hk4 : k = 0 ∨ k = 1 ∨ k = 2 ∨ k = 3 := by omega
  rcases hk4 with rfl | rfl | rfl | rfl <;> simp [E4.low, E4.get, E4.put]
theorem Wrt.get {w : World} {b : Nat} (h : Wrt w b) (k : Nat) (hk : k < 4) : w.frozen? ⟨b, k, none⟩ = false := by
  match k, hk with
  | 0, _ => exact h.f0
  | 1, _ => exact h.f1
  | 2, _ => exact h.f2
  | 3, _ => exact h.f3
theorem Blc.put {w : World} {b : Nat} {o : E4} (h : Blc w b o) (k : Nat) (hk : k < 4) (v : Int) : Blc (w.setCell ⟨b, k, none⟩ (.int .u64 v)) b (o.put k v) := by
  obtain ⟨h0, h1, h2, h3⟩ := h
  have hk4 : k = 0 ∨ k = 1 ∨ k = 2 ∨ k = 3 := by omega
  rcases hk4 with rfl | rfl | rfl | rfl <;> (simp only [E4.put]; constructor <;> go_simp)
theorem Blc.far1 {w : World} {b c : Nat} {o : E4} (h : Blc w b o) (hne : c ≠ b) (k : Nat) (v : Value) : Blc (w.setCell ⟨c, k, none⟩ v) b o :=
  ⟨(World.cell?_setCell_far w _ _ _ hne).trans h.c0, (World.cell?_setCell_far w _ _ _ hne).trans h.c1, (World.cell?_setCell_far w _ _ _ hne).trans h.c2, (World.cell?_setCell_far w _ _ _ hne).trans h.c3⟩
theorem Wrt.put {w : World} {b : Nat} (h : Wrt w b) (c k : Nat) (v : Value) : Wrt (w.setCell ⟨c, k, none⟩ v) b := by
  obtain ⟨h0, h1, h2, h3⟩ := h
  constructor <;> go_simp
theorem St.put {w0 : World} {L M : List (Nat × E4)} {R : List Nat} {w1 : World} {b : Nat} {o : E4} (h : St w0 L R w1) (k : Nat) (hk : k < 4) (v : Int) (hb : (b, o) ∈ L) (h0 : w0.heap.size ≤ b) (hs : ∀ p ∈ M, p ∈ L ∧ b ≠ p.1) :
    St w0 ((b, o.put k v) :: M) R (w1.setCell ⟨b, k, none⟩ (.int .u64 v)) := by
  refine ⟨fun p hp => ?_, fun c hc => ⟨(h.wrt c hc).1.put b k _, by simpa using (h.wrt c hc).2⟩, h.bel.setCell h0 _⟩
  rcases List.mem_cons.1 hp with rfl | hp
  · exact (h.live _ hb).put k hk v
  · exact (h.live p (hs p hp).1).far1 (hs p hp).2 k _

theorem below_math (a b : E4) (ha : a.ok) (hb : b.ok) (m : Nat) (hm : m < 4) (he : ∀ j, m < j → j < 4 → a.get j = b.get j) (hne : a.get m ≠ b.get m) : decide (a.get m < b.get m) = decide (a.n < b.n) := by
  obtain ⟨a0, a1, a2, a3⟩ := ha
  obtain ⟨b0, b1, b2, b3⟩ := hb
  unfold Sm.Wd at *
  rw [decide_eq_decide]
  have e1 := he 1
  have e2 := he 2
  have e3 := he 3
  have hm4 : m = 0 ∨ m = 1 ∨ m = 2 ∨ m = 3 := by omega
  rcases hm4 with rfl | rfl | rfl | rfl <;> simp only [E4.get, E4.n, Sm.V] at * <;> omega
theorem below_same (a b : E4) (he : ∀ j, j < 4 → a.get j = b.get j) : decide (a.n < b.n) = false := by
  have e0 := he 0 (by omega)
  have e1 := he 1 (by omega)
  have e2 := he 2 (by omega)
  have e3 := he 3 (by omega)
  simp only [E4.get] at e0 e1 e2 e3
  rw [decide_eq_false_iff_not]
  simp only [E4.n, e0, e1, e2, e3]
  omega

set_option maxRecDepth 100000 in
set_option maxHeartbeats 4000000 in
theorem rbelow_any (a b : E4) (w : World) (ha : a.ok) (hb : b.ok) :
    Calls Tryd.prog 60 #[a.v, b.v] w fun e w' => e = .returned (.bool (decide (a.n < b.n))) ∧ Below w.heap.size w w' := by
  have BM := hidden (below_math a b ha hb)
  have BS := hidden (below_same a b)
  have HA := hidden ha
  have HB := hidden hb
  have s0 := (St.start w a 41).new b 41
  simp only [World.size_alloc] at s0
  have S0 := hidden s0
  clear s0 ha hb
  simp only [E4.v]
  go_enter Tryd.func60, Tryd.ntmps60
  go_wp2_with fail
  go_loopw [5] (fun i w' => ∃ k : Nat, k ≤ 4 ∧ i = .int .i64 ((k : Int) - 1) ∧ (∀ j, k ≤ j → j < 4 → a.get j = b.get j) ∧ St w [(w.heap.size + 1, b), (w.heap.size, a)] [] w') (fun i _ => (intOf i + 1).toNat)
  case atStart => exact ⟨4, by omega, rfl, fun j h1 h2 => by omega, S0.out⟩
  case round =>
    obtain ⟨k, hk, rfl, heq, hst⟩ := hrel
    clear S0
    by_cases hk0 : k = 0
    · subst hk0
      rw [show ((0 : Nat) : Int) - 1 = -1 from rfl]
      have BH := hidden hst.bel
      have hf := BS.out (fun j hj => heq j (by omega) hj)
      have HF := hidden hf
      clear hst heq hf
      go_wp2_with fail
      go_ret
      exact ⟨by rw [HF.out]; rfl, BH.out⟩
    · obtain ⟨m, rfl⟩ : ∃ m, k = m + 1 := ⟨k - 1, by omega⟩
      have em : ((m + 1 : Nat) : Int) - 1 = (m : Int) := by omega
      rw [em]
      clear em hk0
      have kk0 : (0 : Int) ≤ (m : Int) := by omega
      have kk1 : (m : Int) < 4 := by omega
      have HEQ := hidden heq
      have ca := (hst.live (w.heap.size, a) (by simp)).get m (by omega)
      have cb := (hst.live (w.heap.size + 1, b) (by simp)).get m (by omega)
      have xa := E4.get_wd HA.out m
      have xb := E4.get_wd HB.out m
      unfold Sm.Wd at xa xb
      have BMm := hidden (fun h => BM.out m (by omega) (fun j h1 h2 => HEQ.out j (by omega) h2) h)
      have NE := hidden (fun (h : a.get m = b.get m) j (h1 : m ≤ j) (h2 : j < 4) => (if hj : j = m then by rw [hj]; exact h else HEQ.out j (by omega) h2 : a.get j = b.get j))
      have KS : Hid (∀ w', St w [(w.heap.size + 1, b), (w.heap.size, a)] [] w' → (fun w' => St w [(w.heap.size + 1, b), (w.heap.size, a)] [] w' ∧ w'.cell? ⟨w.heap.size, m, none⟩ = some (.int .u64 (a.get m)) ∧ w'.cell? ⟨w.heap.size + 1, m, none⟩ = some (.int .u64 (b.get m))) w') := hidden (fun w' h => ⟨h, (h.live (w.heap.size, a) (by simp)).get m (by omega), (h.live (w.heap.size + 1, b) (by simp)).get m (by omega)⟩)
      have K0 := hidden (KS.out _ hst.drew)
      have K1 := hidden (KS.out _ hst.drew.drew)
      have SD := hidden hst.drew
      clear hst heq ca cb KS
      generalize a.get m = x at *
      generalize b.get m = y at *
      by_cases hxy : x = y
      · subst hxy
        go_upto_region 4 with fail
        go_region_held3 (fun w' => St w [(w.heap.size + 1, b), (w.heap.size, a)] [] w' ∧ w'.cell? ⟨w.heap.size, m, none⟩ = some (.int .u64 x) ∧ w'.cell? ⟨w.heap.size + 1, m, none⟩ = some (.int .u64 x)) (with_reducible exact K0.out) (fail)
        clear K0 K1
        go_wp2_with fail
        go_roundw
        case rel => exact ⟨m, by omega, by go_num, NE.out rfl, SD.out⟩
        case measure => simp [intOf]
      · go_upto_region 4 with fail
        go_region_held3 (fun w' => St w [(w.heap.size + 1, b), (w.heap.size, a)] [] w' ∧ w'.cell? ⟨w.heap.size, m, none⟩ = some (.int .u64 x) ∧ w'.cell? ⟨w.heap.size + 1, m, none⟩ = some (.int .u64 y)) (with_reducible exact K0.out) (fail)
        go_upto_region 5 with fail
        go_region_held3 (fun w' => St w [(w.heap.size + 1, b), (w.heap.size, a)] [] w' ∧ w'.cell? ⟨w.heap.size, m, none⟩ = some (.int .u64 x) ∧ w'.cell? ⟨w.heap.size + 1, m, none⟩ = some (.int .u64 y)) (with_reducible exact K1.out) (fail)
        clear K0 K1
        go_wp2_with fail
        go_ret
        exact ⟨by rw [← BMm.out hxy]; rfl, SD.out.drew.bel⟩
end Go.Proofs.YtbmbopapmajaaaaDoor
