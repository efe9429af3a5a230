import Derived.Test.YtgijodenblpbgaaDoorSt
import Derived.Test.YtgijodenblpbgaaDoorSgn
import Derived.Deep.DeepCutAuto
import Derived.RegionTactic
namespace Go.Proofs.YtgijodenblpbgaaDoor
open Go.RowKit

theorem wrap_m1 : IntKind.u64.wrap (-1) = 18446744073709551615 := by rw [IntKind.wrap_u64]; decide

theorem Wrt.poke {w : World} {b : Nat} {p : Addr} {v : Value} (h : Wrt w b) : Wrt (w.setCell p v) b := by
  obtain ⟨h0, h1, h2, h3, h4⟩ := h
  constructor <;> go_simp
theorem Blc.away {w : World} {b : Nat} {r : E5} {p : Addr} {v : Value} (h : Blc w b r) (hne : p.block ≠ b) : Blc (w.setCell p v) b r :=
  ⟨(World.cell?_setCell_far w p _ v hne).trans h.c0, (World.cell?_setCell_far w p _ v hne).trans h.c1, (World.cell?_setCell_far w p _ v hne).trans h.c2, (World.cell?_setCell_far w p _ v hne).trans h.c3, (World.cell?_setCell_far w p _ v hne).trans h.c4⟩
theorem St.poke {w0 : World} {L M : List (Nat × E5)} {R : List Nat} {w1 : World} {b j : Nat} {v : Value} {new : E5} (h : St w0 L R w1) (h0 : w0.heap.size ≤ b) (hnew : Blc (w1.setCell ⟨b, j, none⟩ v) b new) (hs : ∀ p ∈ M, p ∈ L ∧ b ≠ p.1) :
    St w0 ((b, new) :: M) R (w1.setCell ⟨b, j, none⟩ v) := by
  refine ⟨fun p hp => ?_, fun c hc => ⟨(h.wrt c hc).1.poke, by simpa using (h.wrt c hc).2⟩, h.bel.setCell h0 v⟩
  rcases List.mem_cons.1 hp with rfl | hp
  · exact hnew
  · exact (h.live p (hs p hp).1).away (hs p hp).2

theorem mix_poke0 {w : World} {b : Nat} {x y : E5} (h : Blc w b (mix 0 x y)) : Blc (w.setCell ⟨b, 0, none⟩ (.int .u64 x.x0)) b (mix 1 x y) := by
  obtain ⟨h0, h1, h2, h3, h4⟩ := h
  simp [mix] at h0 h1 h2 h3 h4
  constructor <;> (simp [mix]; go_simp)
theorem same_poke0 {w : World} {b : Nat} {y : E5} (h : Blc w b y) : Blc (w.setCell ⟨b, 0, none⟩ (.int .u64 y.x0)) b y := by
  obtain ⟨h0, h1, h2, h3, h4⟩ := h
  constructor <;> go_simp
theorem mix_poke1 {w : World} {b : Nat} {x y : E5} (h : Blc w b (mix 1 x y)) : Blc (w.setCell ⟨b, 1, none⟩ (.int .u64 x.x1)) b (mix 2 x y) := by
  obtain ⟨h0, h1, h2, h3, h4⟩ := h
  simp [mix] at h0 h1 h2 h3 h4
  constructor <;> (simp [mix]; go_simp)
theorem same_poke1 {w : World} {b : Nat} {y : E5} (h : Blc w b y) : Blc (w.setCell ⟨b, 1, none⟩ (.int .u64 y.x1)) b y := by
  obtain ⟨h0, h1, h2, h3, h4⟩ := h
  constructor <;> go_simp
theorem mix_poke2 {w : World} {b : Nat} {x y : E5} (h : Blc w b (mix 2 x y)) : Blc (w.setCell ⟨b, 2, none⟩ (.int .u64 x.x2)) b (mix 3 x y) := by
  obtain ⟨h0, h1, h2, h3, h4⟩ := h
  simp [mix] at h0 h1 h2 h3 h4
  constructor <;> (simp [mix]; go_simp)
theorem same_poke2 {w : World} {b : Nat} {y : E5} (h : Blc w b y) : Blc (w.setCell ⟨b, 2, none⟩ (.int .u64 y.x2)) b y := by
  obtain ⟨h0, h1, h2, h3, h4⟩ := h
  constructor <;> go_simp
theorem mix_poke3 {w : World} {b : Nat} {x y : E5} (h : Blc w b (mix 3 x y)) : Blc (w.setCell ⟨b, 3, none⟩ (.int .u64 x.x3)) b (mix 4 x y) := by
  obtain ⟨h0, h1, h2, h3, h4⟩ := h
  simp [mix] at h0 h1 h2 h3 h4
  constructor <;> (simp [mix]; go_simp)
theorem same_poke3 {w : World} {b : Nat} {y : E5} (h : Blc w b y) : Blc (w.setCell ⟨b, 3, none⟩ (.int .u64 y.x3)) b y := by
  obtain ⟨h0, h1, h2, h3, h4⟩ := h
  constructor <;> go_simp
theorem mix_poke4 {w : World} {b : Nat} {x y : E5} (h : Blc w b (mix 4 x y)) : Blc (w.setCell ⟨b, 4, none⟩ (.int .u64 x.x4)) b (mix 5 x y) := by
  obtain ⟨h0, h1, h2, h3, h4⟩ := h
  simp [mix] at h0 h1 h2 h3 h4
  constructor <;> (simp [mix]; go_simp)
theorem same_poke4 {w : World} {b : Nat} {y : E5} (h : Blc w b y) : Blc (w.setCell ⟨b, 4, none⟩ (.int .u64 y.x4)) b y := by
  obtain ⟨h0, h1, h2, h3, h4⟩ := h
  constructor <;> go_simp

set_option maxRecDepth 100000 in
set_option maxHeartbeats 4000000 in
theorem Sel1 (pick : Int) (a b : E5) (w : World) (ha : a.ok) (hb : b.ok) (hk : bits .and .i64 pick 1 = 1) :
    Calls Tryd.prog 31 #[.int .i64 pick, a.v, b.v] w fun e w' => ∃ r : E5, e = .returned r.v ∧ r.is a.n ∧ Below w.heap.size w w' := by
  have LE := hidden (fun (r : E5) (h : r.ok) w => Least_any r w h)
  have HA := hidden ha
  have HB := hidden hb
  clear ha hb
  simp only [E5.v] at LE ⊢
  go_enter Tryd.func31, Tryd.ntmps31
  go_wp2_with fail
  have s0 := ((St.start w a 24).new b 24).room 24
  simp only [World.size_alloc] at s0
  have hw0 : St w [(w.heap.size + 1, (mix 0 a b)), (w.heap.size + 1 + 1, zero5), (w.heap.size, a)] [w.heap.size + 1 + 1, w.heap.size + 1] _ := ⟨fun p hp => s0.live p (by simp at hp ⊢; rcases hp with rfl | rfl | rfl <;> simp [mix]), fun c hc => by
    simp at hc
    rcases hc with rfl | rfl
    · exact s0.wrt _ (by simp)
    · exact ⟨((Wrt.new (w.alloc (.cells #[.int .u64 a.x0, .int .u64 a.x1, .int .u64 a.x2, .int .u64 a.x3, .int .u64 a.x4] 24)) b 24).keep (by simp) (bl_alloc _ _) |> fun h => by simpa using h), by simp⟩, s0.bel⟩
  go_loopw [13] (fun i w' => ∃ k : Nat, k ≤ 5 ∧ i = .int .i64 k ∧ St w [(w.heap.size + 1, (mix k a b)), (w.heap.size + 1 + 1, zero5), (w.heap.size, a)] [w.heap.size + 1 + 1, w.heap.size + 1] w') (fun i _ => 5 - (intOf i).toNat)
  case atStart => exact ⟨0, by omega, rfl, hw0⟩
  case round =>
    obtain ⟨k, hk5, rfl, hst⟩ := hrel
    clear hw0 s0
    by_cases hlt : k < 5
    · have hc : k = 0 ∨ k = 1 ∨ k = 2 ∨ k = 3 ∨ k = 4 := by omega
      rcases hc with rfl | rfl | rfl | rfl | rfl
      · have hB := hst.live (w.heap.size + 1, (mix 0 a b)) (by simp)
        have hA := hst.live (w.heap.size, a) (by simp)
        have wB := (hst.wrt (w.heap.size + 1) (by simp)).1
        have cA := hA.c0
        have cB : wr.cell? ⟨w.heap.size + 1, 0, none⟩ = some (.int .u64 b.x0) := hB.c0
        have fB := wB.f0
        have hx := xor_pick a.x0 b.x0 HA.out.1 HB.out.1
        have NEXT := hidden (hst.poke (M := [(w.heap.size + 1 + 1, zero5), (w.heap.size, a)]) (b := w.heap.size + 1) (by omega) (mix_poke0 hB) (by simp))
        clear hB hA wB hst
        go_upto_region 5 with fail
        go_region
        all_goals go_wp2_with fail
        refine ⟨⟨1, by omega, rfl, ?_⟩, by simp [intOf]⟩
        rw [wrap_m1, hx]
        exact NEXT.out.drew
      · have hB := hst.live (w.heap.size + 1, (mix 1 a b)) (by simp)
        have hA := hst.live (w.heap.size, a) (by simp)
        have wB := (hst.wrt (w.heap.size + 1) (by simp)).1
        have cA := hA.c1
        have cB : wr.cell? ⟨w.heap.size + 1, 1, none⟩ = some (.int .u64 b.x1) := hB.c1
        have fB := wB.f1
        have hx := xor_pick a.x1 b.x1 HA.out.2.1 HB.out.2.1
        have NEXT := hidden (hst.poke (M := [(w.heap.size + 1 + 1, zero5), (w.heap.size, a)]) (b := w.heap.size + 1) (by omega) (mix_poke1 hB) (by simp))
        clear hB hA wB hst
        go_upto_region 5 with fail
        go_region
        all_goals go_wp2_with fail
        refine ⟨⟨2, by omega, rfl, ?_⟩, by simp [intOf]⟩
        rw [wrap_m1, hx]
        exact NEXT.out.drew
      · have hB := hst.live (w.heap.size + 1, (mix 2 a b)) (by simp)
        have hA := hst.live (w.heap.size, a) (by simp)
        have wB := (hst.wrt (w.heap.size + 1) (by simp)).1
        have cA := hA.c2
        have cB : wr.cell? ⟨w.heap.size + 1, 2, none⟩ = some (.int .u64 b.x2) := hB.c2
        have fB := wB.f2
        have hx := xor_pick a.x2 b.x2 HA.out.2.2.1 HB.out.2.2.1
        have NEXT := hidden (hst.poke (M := [(w.heap.size + 1 + 1, zero5), (w.heap.size, a)]) (b := w.heap.size + 1) (by omega) (mix_poke2 hB) (by simp))
        clear hB hA wB hst
        go_upto_region 5 with fail
        go_region
        all_goals go_wp2_with fail
        refine ⟨⟨3, by omega, rfl, ?_⟩, by simp [intOf]⟩
        rw [wrap_m1, hx]
        exact NEXT.out.drew
      · have hB := hst.live (w.heap.size + 1, (mix 3 a b)) (by simp)
        have hA := hst.live (w.heap.size, a) (by simp)
        have wB := (hst.wrt (w.heap.size + 1) (by simp)).1
        have cA := hA.c3
        have cB : wr.cell? ⟨w.heap.size + 1, 3, none⟩ = some (.int .u64 b.x3) := hB.c3
        have fB := wB.f3
        have hx := xor_pick a.x3 b.x3 HA.out.2.2.2.1 HB.out.2.2.2.1
        have NEXT := hidden (hst.poke (M := [(w.heap.size + 1 + 1, zero5), (w.heap.size, a)]) (b := w.heap.size + 1) (by omega) (mix_poke3 hB) (by simp))
        clear hB hA wB hst
        go_upto_region 5 with fail
        go_region
        all_goals go_wp2_with fail
        refine ⟨⟨4, by omega, rfl, ?_⟩, by simp [intOf]⟩
        rw [wrap_m1, hx]
        exact NEXT.out.drew
      · have hB := hst.live (w.heap.size + 1, (mix 4 a b)) (by simp)
        have hA := hst.live (w.heap.size, a) (by simp)
        have wB := (hst.wrt (w.heap.size + 1) (by simp)).1
        have cA := hA.c4
        have cB : wr.cell? ⟨w.heap.size + 1, 4, none⟩ = some (.int .u64 b.x4) := hB.c4
        have fB := wB.f4
        have hx := xor_pick a.x4 b.x4 HA.out.2.2.2.2 HB.out.2.2.2.2
        have NEXT := hidden (hst.poke (M := [(w.heap.size + 1 + 1, zero5), (w.heap.size, a)]) (b := w.heap.size + 1) (by omega) (mix_poke4 hB) (by simp))
        clear hB hA wB hst
        go_upto_region 5 with fail
        go_region
        all_goals go_wp2_with fail
        refine ⟨⟨5, by omega, rfl, ?_⟩, by simp [intOf]⟩
        rw [wrap_m1, hx]
        exact NEXT.out.drew
    · have hk6 : k = 5 := by omega
      subst hk6
      have hB : Blc wr (w.heap.size + 1) a := hst.live (w.heap.size + 1, (mix 5 a b)) (by simp)
      obtain ⟨c0, c1, c2, c3, c4⟩ := id hB
      have ST := hidden hst
      clear hst hB
      go_wp2_with fail
      refine (LE.out a HA.out _).mono ?_
      rintro e w1 ⟨r, rfl, hr, hb1⟩
      have s1 := ST.out.keep hb1
      clear c0 c1 c2 c3 c4
      obtain ⟨c0, c1, c2, c3, c4⟩ := s1.live (w.heap.size + 1 + 1, zero5) (by simp)
      obtain ⟨f0, f1, f2, f3, f4⟩ := (s1.wrt (w.heap.size + 1 + 1) (by simp)).1
      have HB1 := hidden s1.bel
      clear s1
      go_wp2_with fail
      refine bodyPost_ret (v := .agg #[.int .u64 r.x0, .int .u64 r.x1, .int .u64 r.x2, .int .u64 r.x3, .int .u64 r.x4]) (by simp [results, Tryd.results31, go_sem, c0, c1, c2, c3, c4]) rfl ⟨r, rfl, hr, ?_⟩
      exact set5_below _ _ _ HB1.out (by omega)

set_option maxRecDepth 100000 in
set_option maxHeartbeats 4000000 in
theorem Sel0 (pick : Int) (a b : E5) (w : World) (ha : a.ok) (hb : b.ok) (hk : bits .and .i64 pick 1 = 0) :
    Calls Tryd.prog 31 #[.int .i64 pick, a.v, b.v] w fun e w' => ∃ r : E5, e = .returned r.v ∧ r.is b.n ∧ Below w.heap.size w w' := by
  have LE := hidden (fun (r : E5) (h : r.ok) w => Least_any r w h)
  have HA := hidden ha
  have HB := hidden hb
  clear ha hb
  simp only [E5.v] at LE ⊢
  go_enter Tryd.func31, Tryd.ntmps31
  go_wp2_with fail
  have s0 := ((St.start w a 24).new b 24).room 24
  simp only [World.size_alloc] at s0
  have hw0 : St w [(w.heap.size + 1, b), (w.heap.size + 1 + 1, zero5), (w.heap.size, a)] [w.heap.size + 1 + 1, w.heap.size + 1] _ := ⟨fun p hp => s0.live p (by simp at hp ⊢; rcases hp with rfl | rfl | rfl <;> simp), fun c hc => by
    simp at hc
    rcases hc with rfl | rfl
    · exact s0.wrt _ (by simp)
    · exact ⟨((Wrt.new (w.alloc (.cells #[.int .u64 a.x0, .int .u64 a.x1, .int .u64 a.x2, .int .u64 a.x3, .int .u64 a.x4] 24)) b 24).keep (by simp) (bl_alloc _ _) |> fun h => by simpa using h), by simp⟩, s0.bel⟩
  go_loopw [13] (fun i w' => ∃ k : Nat, k ≤ 5 ∧ i = .int .i64 k ∧ St w [(w.heap.size + 1, b), (w.heap.size + 1 + 1, zero5), (w.heap.size, a)] [w.heap.size + 1 + 1, w.heap.size + 1] w') (fun i _ => 5 - (intOf i).toNat)
  case atStart => exact ⟨0, by omega, rfl, hw0⟩
  case round =>
    obtain ⟨k, hk5, rfl, hst⟩ := hrel
    clear hw0 s0
    by_cases hlt : k < 5
    · have hc : k = 0 ∨ k = 1 ∨ k = 2 ∨ k = 3 ∨ k = 4 := by omega
      rcases hc with rfl | rfl | rfl | rfl | rfl
      · have hB := hst.live (w.heap.size + 1, b) (by simp)
        have hA := hst.live (w.heap.size, a) (by simp)
        have wB := (hst.wrt (w.heap.size + 1) (by simp)).1
        have cA := hA.c0
        have cB : wr.cell? ⟨w.heap.size + 1, 0, none⟩ = some (.int .u64 b.x0) := hB.c0
        have fB := wB.f0
        have hx := xor_zero a.x0 b.x0 HB.out.1
        have NEXT := hidden (hst.poke (M := [(w.heap.size + 1 + 1, zero5), (w.heap.size, a)]) (b := w.heap.size + 1) (by omega) (same_poke0 hB) (by simp))
        clear hB hA wB hst
        go_upto_region 5 with fail
        go_region
        all_goals go_wp2_with fail
        refine ⟨⟨1, by omega, rfl, ?_⟩, by simp [intOf]⟩
        skip
        exact NEXT.out.drew
      · have hB := hst.live (w.heap.size + 1, b) (by simp)
        have hA := hst.live (w.heap.size, a) (by simp)
        have wB := (hst.wrt (w.heap.size + 1) (by simp)).1
        have cA := hA.c1
        have cB : wr.cell? ⟨w.heap.size + 1, 1, none⟩ = some (.int .u64 b.x1) := hB.c1
        have fB := wB.f1
        have hx := xor_zero a.x1 b.x1 HB.out.2.1
        have NEXT := hidden (hst.poke (M := [(w.heap.size + 1 + 1, zero5), (w.heap.size, a)]) (b := w.heap.size + 1) (by omega) (same_poke1 hB) (by simp))
        clear hB hA wB hst
        go_upto_region 5 with fail
        go_region
        all_goals go_wp2_with fail
        refine ⟨⟨2, by omega, rfl, ?_⟩, by simp [intOf]⟩
        skip
        exact NEXT.out.drew
      · have hB := hst.live (w.heap.size + 1, b) (by simp)
        have hA := hst.live (w.heap.size, a) (by simp)
        have wB := (hst.wrt (w.heap.size + 1) (by simp)).1
        have cA := hA.c2
        have cB : wr.cell? ⟨w.heap.size + 1, 2, none⟩ = some (.int .u64 b.x2) := hB.c2
        have fB := wB.f2
        have hx := xor_zero a.x2 b.x2 HB.out.2.2.1
        have NEXT := hidden (hst.poke (M := [(w.heap.size + 1 + 1, zero5), (w.heap.size, a)]) (b := w.heap.size + 1) (by omega) (same_poke2 hB) (by simp))
        clear hB hA wB hst
        go_upto_region 5 with fail
        go_region
        all_goals go_wp2_with fail
        refine ⟨⟨3, by omega, rfl, ?_⟩, by simp [intOf]⟩
        skip
        exact NEXT.out.drew
      · have hB := hst.live (w.heap.size + 1, b) (by simp)
        have hA := hst.live (w.heap.size, a) (by simp)
        have wB := (hst.wrt (w.heap.size + 1) (by simp)).1
        have cA := hA.c3
        have cB : wr.cell? ⟨w.heap.size + 1, 3, none⟩ = some (.int .u64 b.x3) := hB.c3
        have fB := wB.f3
        have hx := xor_zero a.x3 b.x3 HB.out.2.2.2.1
        have NEXT := hidden (hst.poke (M := [(w.heap.size + 1 + 1, zero5), (w.heap.size, a)]) (b := w.heap.size + 1) (by omega) (same_poke3 hB) (by simp))
        clear hB hA wB hst
        go_upto_region 5 with fail
        go_region
        all_goals go_wp2_with fail
        refine ⟨⟨4, by omega, rfl, ?_⟩, by simp [intOf]⟩
        skip
        exact NEXT.out.drew
      · have hB := hst.live (w.heap.size + 1, b) (by simp)
        have hA := hst.live (w.heap.size, a) (by simp)
        have wB := (hst.wrt (w.heap.size + 1) (by simp)).1
        have cA := hA.c4
        have cB : wr.cell? ⟨w.heap.size + 1, 4, none⟩ = some (.int .u64 b.x4) := hB.c4
        have fB := wB.f4
        have hx := xor_zero a.x4 b.x4 HB.out.2.2.2.2
        have NEXT := hidden (hst.poke (M := [(w.heap.size + 1 + 1, zero5), (w.heap.size, a)]) (b := w.heap.size + 1) (by omega) (same_poke4 hB) (by simp))
        clear hB hA wB hst
        go_upto_region 5 with fail
        go_region
        all_goals go_wp2_with fail
        refine ⟨⟨5, by omega, rfl, ?_⟩, by simp [intOf]⟩
        skip
        exact NEXT.out.drew
    · have hk6 : k = 5 := by omega
      subst hk6
      have hB : Blc wr (w.heap.size + 1) b := hst.live (w.heap.size + 1, b) (by simp)
      obtain ⟨c0, c1, c2, c3, c4⟩ := id hB
      have ST := hidden hst
      clear hst hB
      go_wp2_with fail
      refine (LE.out b HB.out _).mono ?_
      rintro e w1 ⟨r, rfl, hr, hb1⟩
      have s1 := ST.out.keep hb1
      clear c0 c1 c2 c3 c4
      obtain ⟨c0, c1, c2, c3, c4⟩ := s1.live (w.heap.size + 1 + 1, zero5) (by simp)
      obtain ⟨f0, f1, f2, f3, f4⟩ := (s1.wrt (w.heap.size + 1 + 1) (by simp)).1
      have HB1 := hidden s1.bel
      clear s1
      go_wp2_with fail
      refine bodyPost_ret (v := .agg #[.int .u64 r.x0, .int .u64 r.x1, .int .u64 r.x2, .int .u64 r.x3, .int .u64 r.x4]) (by simp [results, Tryd.results31, go_sem, c0, c1, c2, c3, c4]) rfl ⟨r, rfl, hr, ?_⟩
      exact set5_below _ _ _ HB1.out (by omega)

/-- the one that is not negative -/
def absn (n : Int) : Int := if n % Fm.P % 2 = 1 then -n else n

set_option maxRecDepth 100000 in
set_option maxHeartbeats 4000000 in
theorem Abs_any (a : E5) (w : World) (ha : a.ok) :
    Calls Tryd.prog 29 #[a.v] w fun e w' => ∃ r : E5, e = .returned r.v ∧ r.is (absn a.n) ∧ Below w.heap.size w w' := by
  have SG := hidden (fun w => sign_any a w ha)
  have NE := hidden (fun w => Neg_any a w ha)
  obtain ⟨s, hs⟩ : ∃ s, s = a.n % Fm.P % 2 := ⟨_, rfl⟩
  have SE : Hid (∀ (n : E5) (w : World), n.is (-a.n) → Calls Tryd.prog 31 #[.int .i64 s, n.v, a.v] w fun e w' => ∃ r : E5, e = .returned r.v ∧ r.is (absn a.n) ∧ Below w.heap.size w w') := hidden (by
    intro n w hn
    by_cases h1 : s = 1
    · rw [h1]
      refine (Sel1 1 n a w hn.ok ha (by decide)).mono fun e w' q => ?_
      obtain ⟨r, q1, q2, q3⟩ := q
      refine ⟨r, q1, ?_, q3⟩
      have e1 : absn a.n = -a.n := by unfold absn; rw [if_pos (by rw [← hs]; exact h1)]
      rw [e1]
      exact is_of q2 (by rw [hn.n, Int.emod_emod_of_dvd _ (Int.dvd_refl _)])
    · have h0 : s = 0 := by omega
      rw [h0]
      refine (Sel0 0 n a w hn.ok ha (by decide)).mono fun e w' q => ?_
      obtain ⟨r, q1, q2, q3⟩ := q
      refine ⟨r, q1, ?_, q3⟩
      have e1 : absn a.n = a.n := by unfold absn; rw [if_neg (by rw [← hs]; exact h1)]
      rw [e1]
      exact q2)
  rw [← hs] at SG
  clear ha hs
  simp only [E5.v] at SG NE SE ⊢
  go_enter Tryd.func29, Tryd.ntmps29
  go_wp2_with fail
  have s0 := (St.start w a 24).room 24
  simp only [World.size_alloc] at s0
  have SH := hidden s0
  clear s0
  have KSt : Hid (∀ w' : World, St w [(w.heap.size, a)] [w.heap.size + 1] w' → (fun w' => St w [(w.heap.size, a)] [w.heap.size + 1] w' ∧ w'.cell? ⟨w.heap.size, 0, none⟩ = some (.int .u64 a.x0) ∧ w'.cell? ⟨w.heap.size, 1, none⟩ = some (.int .u64 a.x1) ∧ w'.cell? ⟨w.heap.size, 2, none⟩ = some (.int .u64 a.x2) ∧ w'.cell? ⟨w.heap.size, 3, none⟩ = some (.int .u64 a.x3) ∧ w'.cell? ⟨w.heap.size, 4, none⟩ = some (.int .u64 a.x4)) w') := hidden (fun w' h => ⟨h, (h.live (w.heap.size, a) (by simp)).c0, (h.live (w.heap.size, a) (by simp)).c1, (h.live (w.heap.size, a) (by simp)).c2, (h.live (w.heap.size, a) (by simp)).c3, (h.live (w.heap.size, a) (by simp)).c4⟩)
  have K0 := hidden (KSt.out _ (SH.out.sub (by simp)).drew)
  have KT1 : ∀ (w2 : World) (t : E5), St w [(w.heap.size, a)] [w.heap.size + 1] w2 → (fun w' => St w [(w.heap.size, a)] [w.heap.size + 1] w' ∧ w'.cell? ⟨w.heap.size, 0, none⟩ = some (.int .u64 a.x0) ∧ w'.cell? ⟨w.heap.size, 1, none⟩ = some (.int .u64 a.x1) ∧ w'.cell? ⟨w.heap.size, 2, none⟩ = some (.int .u64 a.x2) ∧ w'.cell? ⟨w.heap.size, 3, none⟩ = some (.int .u64 a.x3) ∧ w'.cell? ⟨w.heap.size, 4, none⟩ = some (.int .u64 a.x4)) (set5 w2 (w.heap.size + 1) t) := fun w2 t h => KSt.out _ (h.aside (by simp) (by omega) t)
  simp only [set5] at KT1
  replace KT1 := hidden KT1
  go_region_held3 (fun w' => St w [(w.heap.size, a)] [w.heap.size + 1] w' ∧ w'.cell? ⟨w.heap.size, 0, none⟩ = some (.int .u64 a.x0) ∧ w'.cell? ⟨w.heap.size, 1, none⟩ = some (.int .u64 a.x1) ∧ w'.cell? ⟨w.heap.size, 2, none⟩ = some (.int .u64 a.x2) ∧ w'.cell? ⟨w.heap.size, 3, none⟩ = some (.int .u64 a.x3) ∧ w'.cell? ⟨w.heap.size, 4, none⟩ = some (.int .u64 a.x4)) (first | with_reducible exact K0.out | with_reducible exact KC.out | with_reducible exact KB.out | with_reducible exact KA.out | with_reducible exact KT1.out wC t KC.out.1)
    (first | (go_at_call 49; refine (SG.out _).mono ?_; rintro e wA ⟨rfl, hbA⟩; have KA := hidden (KSt.out _ ((SH.out.sub (by simp)).drew.keep hbA))) | (go_at_call 20; refine (NE.out _).mono ?_; rintro e wB ⟨u, rfl, hu, hbB⟩; have KB := hidden (KSt.out _ (KA.out.1.keep hbB))) | (go_at_call 31; refine (SE.out u _ hu).mono ?_; rintro e wC ⟨t, rfl, ht, hbC⟩; have sB := ((SH.out.drew.keep hbA).keep hbB).keep hbC; have KC := hidden (KSt.out _ (sB.sub (by simp))); have q0 := (sB.live (w.heap.size + 1, zero5) (by simp)).c0; have q1 := (sB.live (w.heap.size + 1, zero5) (by simp)).c1; have q2 := (sB.live (w.heap.size + 1, zero5) (by simp)).c2; have q3 := (sB.live (w.heap.size + 1, zero5) (by simp)).c3; have q4 := (sB.live (w.heap.size + 1, zero5) (by simp)).c4; have f0 := (sB.wrt (w.heap.size + 1) (by simp)).1.f0; have f1 := (sB.wrt (w.heap.size + 1) (by simp)).1.f1; have f2 := (sB.wrt (w.heap.size + 1) (by simp)).1.f2; have f3 := (sB.wrt (w.heap.size + 1) (by simp)).1.f3; have f4 := (sB.wrt (w.heap.size + 1) (by simp)).1.f4; clear sB))
  go_wp2_with fail
  refine bodyPost_ret (v := .agg #[.int .u64 t.x0, .int .u64 t.x1, .int .u64 t.x2, .int .u64 t.x3, .int .u64 t.x4]) (by simp [results, Tryd.results29, go_sem, q0, q1, q2, q3, q4]) rfl ⟨t, rfl, ht, ?_⟩
  with_reducible exact (KT1.out wC t KC.out.1).1.bel

end Go.Proofs.YtgijodenblpbgaaDoor
