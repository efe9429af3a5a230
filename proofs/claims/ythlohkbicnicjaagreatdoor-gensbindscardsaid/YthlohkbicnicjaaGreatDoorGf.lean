import Derived.Test.YthlohkbicnicjaaGreatDoorGe
namespace Go.Proofs.YthlohkbicnicjaaGreatDoor
open Go.RowKit
set_option maxRecDepth 100000 in
set_option maxHeartbeats 4000000 in
theorem basis_no (n : Int) (w : World) (hn : n < 0 ∨ 64 < n) :
    Calls Tryz.prog 4 #[.int .i64 n] w fun e w' => e = .returned (.tuple #[.agg #[.slice none 0 0, .slice none 0 0, .slice none 0 0, .slice none 0 0, .slice none 0 0], .int .i64 1]) ∧ Below w.heap.size w w' := by
  have hmf : ∀ (fn : Fn) (first cap : Array Value) (w : World), (Instr.makeFunc fn first cap).run Tryz.prog w = .ok (.func fn first cap) w := fun _ _ _ _ => rfl
  have C := hidden (fun v w => setOf_no n v w hn)
  have G0 := hidden (Gs.five (w.alloc (.cells #[.int .i64 n] 3)) 30)
  simp only [World.size_alloc] at G0
  have B0 := hidden (bl_alloc2 w (.cells #[.int .i64 n] 3) (.cells #[.slice none 0 0, .slice none 0 0, .slice none 0 0, .slice none 0 0, .slice none 0 0] 30))
  clear hn
  go_enter Tryz.func4, Tryz.ntmps4
  go_wp2_with (first | (go_at_call 12; refine (C.out _ _).mono ?_; rintro e wa ⟨rfl, ha⟩; have G1 := G0.out.keep ha; have t0 := G1.c 0 (by omega); have t1 := G1.c 1 (by omega); have t2 := G1.c 2 (by omega); have t3 := G1.c 3 (by omega); have t4 := G1.c 4 (by omega); have f0 := G1.fr 0 (by omega); have f1 := G1.fr 1 (by omega); have f2 := G1.fr 2 (by omega); have f3 := G1.fr 3 (by omega); have f4 := G1.fr 4 (by omega); have BB := hidden (bl_trans B0.out ha); clear ha G1))
  refine bodyPost_ret (v := .tuple #[.agg #[.slice none 0 0, .slice none 0 0, .slice none 0 0, .slice none 0 0, .slice none 0 0], .int .i64 1]) (by simp [results, Tryz.results4, go_sem, *]) rfl ⟨rfl, ((((BB.out.setCell (Nat.le_succ _) _).setCell (Nat.le_succ _) _).setCell (Nat.le_succ _) _).setCell (Nat.le_succ _) _).setCell (Nat.le_succ _) _⟩
set_option maxRecDepth 100000 in
set_option maxHeartbeats 4000000 in
theorem basis_any (n : Nat) (hn : n ≤ 64) (w : World) :
    Calls Tryz.prog 4 #[.int .i64 (n : Int)] w fun e w' => ∃ b0 b1 b2 g1 g2 s : Nat, e = .returned (.tuple #[.agg #[.slice (some ⟨b0, 0, none⟩) 1 1, .slice (some ⟨b1, 0, none⟩) 2 2, .slice (some ⟨b2, 0, none⟩) 3 3, .slice (some ⟨g1, 0, none⟩) n n, .slice (some ⟨g2, 0, none⟩) n n], .int .i64 0]) ∧ Sg w.heap.size w' b0 b1 b2 g1 g2 s n n ∧ Below w.heap.size w w' := by
  have hmf : ∀ (fn : Fn) (first cap : Array Value) (w : World), (Instr.makeFunc fn first cap).run Tryz.prog w = .ok (.func fn first cap) w := fun _ _ _ _ => rfl
  have hX : ((w.alloc (.cells #[.int .i64 (n : Int)] 3)).alloc (.cells #[.slice none 0 0, .slice none 0 0, .slice none 0 0, .slice none 0 0, .slice none 0 0] 30)).cell? ⟨w.heap.size, 0, none⟩ = some (.int .i64 (n : Int)) := cell_keep (by rw [cell_of_row _ _ _ _ _ (0, 0) (heap_alloc_new w _)]; rfl) (bl_alloc _ _)
  have C := hidden (setOf_any n w.heap.size hn _ hX)
  have XX := hidden hX
  have x1 : (w.alloc (.cells #[.int .i64 (n : Int)] 3)).cell? ⟨w.heap.size, 0, none⟩ = some (.int .i64 (n : Int)) := by rw [cell_of_row _ _ _ _ _ (0, 0) (heap_alloc_new w _)]; rfl
  have G0 := hidden (Gs.five (w.alloc (.cells #[.int .i64 (n : Int)] 3)) 30)
  simp only [World.size_alloc] at G0
  have B0 := hidden (bl_alloc2 w (.cells #[.int .i64 (n : Int)] 3) (.cells #[.slice none 0 0, .slice none 0 0, .slice none 0 0, .slice none 0 0, .slice none 0 0] 30))
  have LT := hidden (show w.heap.size + 1 < ((w.alloc (.cells #[.int .i64 (n : Int)] 3)).alloc (.cells #[.slice none 0 0, .slice none 0 0, .slice none 0 0, .slice none 0 0, .slice none 0 0] 30)).heap.size by simp)
  unfold fv at C
  clear hn
  go_enter Tryz.func4, Tryz.ntmps4
  go_wp2_with (first | (go_at_call 12; refine (C.out).mono ?_; rintro e wa ⟨b0, b1, b2, g1, g2, s, rfl, hg, ha⟩; have G1 := G0.out.keep ha; have t0 := G1.c 0 (by omega); have t1 := G1.c 1 (by omega); have t2 := G1.c 2 (by omega); have t3 := G1.c 3 (by omega); have t4 := G1.c 4 (by omega); have f0 := G1.fr 0 (by omega); have f1 := G1.fr 1 (by omega); have f2 := G1.fr 2 (by omega); have f3 := G1.fr 3 (by omega); have f4 := G1.fr 4 (by omega); have BB := hidden (bl_trans B0.out ha); have SG := hidden (fun (v0 v1 v2 v3 v4 : Value) => ((((((hg.under (a := ⟨w.heap.size + 1, 0, none⟩) LT.out v0).under (a := ⟨w.heap.size + 1, 1, none⟩) LT.out v1).under (a := ⟨w.heap.size + 1, 2, none⟩) LT.out v2).under (a := ⟨w.heap.size + 1, 3, none⟩) LT.out v3).under (a := ⟨w.heap.size + 1, 4, none⟩) LT.out v4)).less B0.out.size); clear ha G1 hg hX x1))
  refine bodyPost_ret (v := .tuple #[.agg #[.slice (some ⟨b0, 0, none⟩) 1 1, .slice (some ⟨b1, 0, none⟩) 2 2, .slice (some ⟨b2, 0, none⟩) 3 3, .slice (some ⟨g1, 0, none⟩) n n, .slice (some ⟨g2, 0, none⟩) n n], .int .i64 0]) (by simp [results, Tryz.results4, go_sem, *]) rfl ⟨b0, b1, b2, g1, g2, s, rfl, SG.out _ _ _ _ _, ((((BB.out.setCell (Nat.le_succ _) _).setCell (Nat.le_succ _) _).setCell (Nat.le_succ _) _).setCell (Nat.le_succ _) _).setCell (Nat.le_succ _) _⟩
end Go.Proofs.YthlohkbicnicjaaGreatDoor
