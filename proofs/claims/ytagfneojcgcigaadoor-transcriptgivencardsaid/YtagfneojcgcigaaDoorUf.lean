import Derived.Test.YtagfneojcgcigaaDoorUe
import Derived.Test.YtagfneojcgcigaaDoorSop
namespace Go.Proofs.YtagfneojcgcigaaDoor.Tr
open Go.RowKit
/-- a box of a scalar -/
def B4 (w : World) (b : Nat) (t : TypeId) (z : E4) : Prop := w.heap[b]? = some (.cells #[.int .u64 z.x0, .int .u64 z.x1, .int .u64 z.x2, .int .u64 z.x3] t (0, 0))
theorem B4.c0 {w : World} {b : Nat} {t : TypeId} {z : E4} (h : B4 w b t z) : w.cell? ⟨b, 0, none⟩ = some (.int .u64 z.x0) := by
  rw [cell_of_row w b 0 _ t (0, 0) h]; rfl
theorem B4.c1 {w : World} {b : Nat} {t : TypeId} {z : E4} (h : B4 w b t z) : w.cell? ⟨b, 1, none⟩ = some (.int .u64 z.x1) := by
  rw [cell_of_row w b 1 _ t (0, 0) h]; rfl
theorem B4.c2 {w : World} {b : Nat} {t : TypeId} {z : E4} (h : B4 w b t z) : w.cell? ⟨b, 2, none⟩ = some (.int .u64 z.x2) := by
  rw [cell_of_row w b 2 _ t (0, 0) h]; rfl
theorem B4.c3 {w : World} {b : Nat} {t : TypeId} {z : E4} (h : B4 w b t z) : w.cell? ⟨b, 3, none⟩ = some (.int .u64 z.x3) := by
  rw [cell_of_row w b 3 _ t (0, 0) h]; rfl
theorem B4.f {w : World} {b : Nat} {t : TypeId} {z : E4} (h : B4 w b t z) (j : Nat) : w.frozen? ⟨b, j, none⟩ = false := frozen_of_row w b j _ t h
theorem B4.lt {w : World} {b : Nat} {t : TypeId} {z : E4} (h : B4 w b t z) : b < w.heap.size := (Array.getElem?_eq_some_iff.1 h).1
theorem B4.blk {w w' : World} {b : Nat} {t : TypeId} {z : E4} (h : B4 w b t z) (e : w'.heap[b]? = w.heap[b]?) : B4 w' b t z := e.trans h
theorem B4.keep {w w' : World} {b n : Nat} {t : TypeId} {z : E4} (h : B4 w b t z) (e : Below n w w') (hb : b < n) : B4 w' b t z := h.blk (e.block b hb)
/-- a scalar is written -/
def put4 (w : World) (b : Nat) (z : E4) : World := (((w.setCell ⟨b, 0, none⟩ (.int .u64 z.x0)).setCell ⟨b, 1, none⟩ (.int .u64 z.x1)).setCell ⟨b, 2, none⟩ (.int .u64 z.x2)).setCell ⟨b, 3, none⟩ (.int .u64 z.x3)
theorem B4.put {w : World} {b : Nat} {t : TypeId} {y : E4} (h : B4 w b t y) (z : E4) : B4 (put4 w b z) b t z := by
  have h0 := heap_setCell_same w b 0 _ t (.int .u64 z.x0) h
  have h1 := heap_setCell_same _ b 1 _ t (.int .u64 z.x1) h0
  have h2 := heap_setCell_same _ b 2 _ t (.int .u64 z.x2) h1
  exact heap_setCell_same _ b 3 _ t (.int .u64 z.x3) h2
theorem put4_ne (w : World) (b k : Nat) (z : E4) (h : k ≠ b) : (put4 w b z).heap[k]? = w.heap[k]? := by
  unfold put4
  rw [set_ne _ _ _ _ _ h, set_ne _ _ _ _ _ h, set_ne _ _ _ _ _ h, set_ne _ _ _ _ _ h]
theorem put4_bel {w0 w : World} {m b : Nat} (z : E4) (h : Below m w0 w) (hb : m ≤ b) : Below m w0 (put4 w b z) := (((h.setCell hb _).setCell hb _).setCell hb _).setCell hb _
theorem put4_size (w : World) (b : Nat) (z : E4) : (put4 w b z).heap.size = w.heap.size := by unfold put4; simp
set_option maxRecDepth 100000 in
set_option maxHeartbeats 4000000 in
theorem challenge_any (z : E4) (w : World) (hT : Go.Proofs.YtagfneojcgcigaaDoor.Tb w) (hz : z.ok) :
    Calls Tryd.prog 18 #[z.v] w fun e w' => e = .returned (.tuple #[(lst z.n).v, .int .i64 (if z.n % Sm.L = 0 then 4 else 0)]) ∧ Below w.heap.size w w' := by
  have IZ := hidden (fun w T => IsZero_any z w T hz)
  have LE := hidden (fun w T => Least_any z w T hz)
  have HT := hidden ((hT.keep (bl_alloc w (.cells #[.int .u64 z.x0, .int .u64 z.x1, .int .u64 z.x2, .int .u64 z.x3] 27))).keep (bl_alloc _ (.cells #[.int .u64 0, .int .u64 0, .int .u64 0, .int .u64 0] 27)))
  have HB := hidden (bl_trans (bl_alloc w (.cells #[.int .u64 z.x0, .int .u64 z.x1, .int .u64 z.x2, .int .u64 z.x3] 27)) (bl_alloc _ (.cells #[.int .u64 0, .int .u64 0, .int .u64 0, .int .u64 0] 27)))
  have XZ : Hid (B4 ((w.alloc (.cells #[.int .u64 z.x0, .int .u64 z.x1, .int .u64 z.x2, .int .u64 z.x3] 27)).alloc (.cells #[.int .u64 0, .int .u64 0, .int .u64 0, .int .u64 0] 27)) w.heap.size 27 z) := hidden ((heap_alloc_old _ _ (by simp)).trans (heap_alloc_new w _))
  have X0 : Hid (B4 ((w.alloc (.cells #[.int .u64 z.x0, .int .u64 z.x1, .int .u64 z.x2, .int .u64 z.x3] 27)).alloc (.cells #[.int .u64 0, .int .u64 0, .int .u64 0, .int .u64 0] 27)) (w.heap.size + 1) 27 ⟨0, 0, 0, 0⟩) := hidden (by
    have := heap_alloc_new (w.alloc (.cells #[.int .u64 z.x0, .int .u64 z.x1, .int .u64 z.x2, .int .u64 z.x3] 27)) (.cells #[.int .u64 0, .int .u64 0, .int .u64 0, .int .u64 0] 27)
    rw [World.size_alloc] at this
    exact this)
  have HR : Hid ((lst z.n).v = .agg #[.int .u64 (lst z.n).x0, .int .u64 (lst z.n).x1, .int .u64 (lst z.n).x2, .int .u64 (lst z.n).x3]) := hidden rfl
  rw [HR.out]
  generalize hr : lst z.n = r
  have HRR := hidden hr
  simp only [E4.v] at IZ LE ⊢
  have hb0 : (if z.n % Sm.L = 0 then (4 : Int) else 0) = (if decide (z.n % Sm.L = 0) = true then 4 else 0) := by simp
  rw [hb0]
  have HZ : Hid (decide (z.n % Sm.L = 0) = true → r = ⟨0, 0, 0, 0⟩) := hidden (fun h => by rw [← hr]; exact (zero_is z.n).2 (of_decide_eq_true h))
  generalize decide (z.n % Sm.L = 0) = B at IZ HZ
  clear hT hz hr HR hb0
  go_enter Tryd.func18, Tryd.ntmps18
  go_upto_region 1 with fail
  obtain ⟨N, hN⟩ : ∃ N, w.heap.size = N := ⟨_, rfl⟩
  rw [hN] at XZ X0
  rw [hN]
  have HN := hidden hN
  clear hN
  generalize (w.alloc (.cells #[.int .u64 z.x0, .int .u64 z.x1, .int .u64 z.x2, .int .u64 z.x3] 27)).alloc (.cells #[.int .u64 0, .int .u64 0, .int .u64 0, .int .u64 0] 27) = w1 at HT HB XZ X0 ⊢
  have a0 := XZ.out.c0; have a1 := XZ.out.c1; have a2 := XZ.out.c2; have a3 := XZ.out.c3
  have fc : ∀ w', Below w1.heap.size w1 w' → Hid (B4 w' N 27 z ∧ B4 w' (N + 1) 27 ⟨0, 0, 0, 0⟩ ∧ Go.Proofs.YtagfneojcgcigaaDoor.Tb w' ∧ Below w.heap.size w w') := fun w' hb => hidden ⟨XZ.out.keep hb XZ.out.lt, X0.out.keep hb X0.out.lt, HT.out.keep hb, bl_trans HB.out hb⟩
  cases B with
  | true =>
    obtain rfl := HZ.out rfl
    clear LE HZ HRR
    go_wp2_with (first | (go_at_call 23; refine (IZ.out _ HT.out).mono ?_; rintro e w2 ⟨rfl, hb⟩; have F := fc w2 hb; have b0 := F.out.2.1.c0; have b1 := F.out.2.1.c1; have b2 := F.out.2.1.c2; have b3 := F.out.2.1.c3; have g0 := F.out.2.1.f 0; have g1 := F.out.2.1.f 1; have g2 := F.out.2.1.f 2; have g3 := F.out.2.1.f 3; clear hb))
    have R1 := hidden (F.out.2.1.put ⟨0, 0, 0, 0⟩)
    have R2 := hidden (put4_bel (b := N + 1) ⟨0, 0, 0, 0⟩ F.out.2.2.2 (by rw [HN.out]; omega))
    unfold put4 at R1 R2
    have c0 := R1.out.c0; have c1 := R1.out.c1; have c2 := R1.out.c2; have c3 := R1.out.c3
    refine bodyPost_ret (v := .tuple #[.agg #[.int .u64 0, .int .u64 0, .int .u64 0, .int .u64 0], .int .i64 4]) (by simp only [results, Tryd.results18]; simp [go_sem, c0, c1, c2, c3]) rfl ⟨rfl, R2.out⟩
  | false =>
    go_wp2_with (first | (go_at_call 23; refine (IZ.out _ HT.out).mono ?_; rintro e w2 ⟨rfl, hb⟩; have F := fc w2 hb; have d0 := F.out.1.c0; have d1 := F.out.1.c1; have d2 := F.out.1.c2; have d3 := F.out.1.c3; have BB := hidden hb; clear hb) | (go_at_call 24; refine (LE.out _ F.out.2.2.1).mono ?_; rintro e w3 ⟨r', rfl, hr', hb⟩; have G := fc w3 (bl_trans BB.out hb); obtain rfl : r' = r := hr'.trans HRR.out; have b0 := G.out.2.1.c0; have b1 := G.out.2.1.c1; have b2 := G.out.2.1.c2; have b3 := G.out.2.1.c3; have g0 := G.out.2.1.f 0; have g1 := G.out.2.1.f 1; have g2 := G.out.2.1.f 2; have g3 := G.out.2.1.f 3; clear hb hr'))
    have R1 := hidden (G.out.2.1.put r')
    have R2 := hidden (put4_bel (b := N + 1) r' G.out.2.2.2 (by rw [HN.out]; omega))
    unfold put4 at R1 R2
    have c0 := R1.out.c0; have c1 := R1.out.c1; have c2 := R1.out.c2; have c3 := R1.out.c3
    refine bodyPost_ret (v := .tuple #[.agg #[.int .u64 r'.x0, .int .u64 r'.x1, .int .u64 r'.x2, .int .u64 r'.x3], .int .i64 0]) (by simp only [results, Tryd.results18]; simp [go_sem, c0, c1, c2, c3]) rfl ⟨rfl, R2.out⟩
end Go.Proofs.YtagfneojcgcigaaDoor.Tr
