import Derived.Test.YtnbcfchbhappeaaDoorAct
namespace Go.Proofs.YtnbcfchbhappeaaDoor.Al
open Go.RowKit
/-- Horner: from the end on -/
def hn (a : Nat → Int) (x : Int) (n k : Nat) : Int := Mx.ev (n - k) (fun j => a (k + j)) x
theorem hn_step {a : Nat → Int} {x : Int} {n k : Nat} (h : k < n) : hn a x n k = a k + x * hn a x n (k + 1) := by
  unfold hn
  rw [show n - k = (n - (k + 1)) + 1 by omega, Mx.ev_first]
  congr 2
  congr 1
  funext j
  congr 1
  omega
theorem horner {s H x ak : Int} (h : Mx.C 7 s H) : Mx.C 7 (s % 7 * (x % 7) % 7 + ak % 7) (ak + x * H) := by
  have e1 : Mx.C 7 (s % 7 * (x % 7) % 7) (H * x) := (Mx.C.emod 7 _).trans (((Mx.C.emod 7 s).mul (Mx.C.emod 7 x)).trans (h.mul Mx.C.rfl))
  exact (e1.add (Mx.C.emod 7 ak)).trans (Mx.C.of_eq (by grind))
/-- what the loop keeps -/
def Ev7 (w w' : World) (x s : Int) : Prop := Below w.heap.size w w' ∧ w'.cell? ⟨w.heap.size, 0, none⟩ = some (.int .i64 x) ∧ w'.cell? ⟨w.heap.size + 1, 0, none⟩ = some (.int .i64 0) ∧ w'.frozen? ⟨w.heap.size + 1, 0, none⟩ = false ∧ w'.cell? ⟨w.heap.size + 1 + 1, 0, none⟩ = some (.int .i64 s) ∧ w'.frozen? ⟨w.heap.size + 1 + 1, 0, none⟩ = false
theorem Ev7.put {w w1 w2 : World} {x s : Int} (h : Ev7 w w1 x s) (hb : Below w1.heap.size w1 w2) (t : Int) : Ev7 w (w2.setCell ⟨w.heap.size + 1 + 1, 0, none⟩ (.int .i64 t)) x t := by
  obtain ⟨h1, h2, h3, h4, h5, h6⟩ := h
  have y1 := cell_keep h2 hb
  have y2 := cell_keep h3 hb
  have y3 := frozen_keep h4 (World.block_lt_of_cell? _ ⟨w.heap.size + 1, 0, none⟩ h3) hb
  have y4 := cell_keep h5 hb
  have y5 := frozen_keep h6 (World.block_lt_of_cell? _ ⟨w.heap.size + 1 + 1, 0, none⟩ h5) hb
  refine ⟨(bl_trans h1 hb).setCell (p := ⟨w.heap.size + 1 + 1, 0, none⟩) (by show w.heap.size ≤ w.heap.size + 1 + 1; omega) _, ?_, ?_, ?_, ?_, ?_⟩
  · rw [World.cell?_setCell_far _ _ _ _ (by show w.heap.size + 1 + 1 ≠ w.heap.size; omega)]; exact y1
  · rw [World.cell?_setCell_far _ _ _ _ (by show w.heap.size + 1 + 1 ≠ w.heap.size + 1; omega)]; exact y2
  · rw [World.frozen?_setCell]; exact y3
  · go_simp
  · rw [World.frozen?_setCell]; exact y5
set_option maxRecDepth 100000 in
set_option maxHeartbeats 4000000 in
theorem ev_seven : EvalC := by
  intro P n cP a x w hn40 hnc hI
  have HI := hidden hI
  have N40 := hidden hn40
  unfold sv
  have w8 : IntKind.i64.wrap ((n : Int) - 1) = (n : Int) - 1 := IntWalk.i64_in _ (by omega)
  have I0 : Hid (Below w.heap.size w (((w.alloc (.cells #[.int .i64 x] 51)).alloc (.cells #[.int .i64 0] 51)).alloc (.cells #[.int .i64 0] 51)) ∧ (((w.alloc (.cells #[.int .i64 x] 51)).alloc (.cells #[.int .i64 0] 51)).alloc (.cells #[.int .i64 0] 51)).cell? ⟨w.heap.size, 0, none⟩ = some (.int .i64 x) ∧ (((w.alloc (.cells #[.int .i64 x] 51)).alloc (.cells #[.int .i64 0] 51)).alloc (.cells #[.int .i64 0] 51)).cell? ⟨w.heap.size + 1, 0, none⟩ = some (.int .i64 0) ∧ (((w.alloc (.cells #[.int .i64 x] 51)).alloc (.cells #[.int .i64 0] 51)).alloc (.cells #[.int .i64 0] 51)).frozen? ⟨w.heap.size + 1, 0, none⟩ = false ∧ (((w.alloc (.cells #[.int .i64 x] 51)).alloc (.cells #[.int .i64 0] 51)).alloc (.cells #[.int .i64 0] 51)).cell? ⟨w.heap.size + 1 + 1, 0, none⟩ = some (.int .i64 0) ∧ (((w.alloc (.cells #[.int .i64 x] 51)).alloc (.cells #[.int .i64 0] 51)).alloc (.cells #[.int .i64 0] 51)).frozen? ⟨w.heap.size + 1 + 1, 0, none⟩ = false) := hidden ⟨bl_trans (bl_trans (bl_alloc w _) (bl_alloc _ _)) (bl_alloc _ _), by go_simp, by go_simp, by go_simp, by go_simp, by go_simp⟩
  clear hn40 hnc hI
  go_enter Tryd.func22, Tryd.ntmps22
  go_wp2_with fail
  clear w8
  go_loopw [6] (fun kv w' => ∃ (k : Nat) (s : Int), k ≤ n ∧ kv = .int .i64 ((k : Int) - 1) ∧ Hid (Mx.C 7 s (hn a x n k)) ∧ Hid (Below w.heap.size w w' ∧ w'.cell? ⟨w.heap.size, 0, none⟩ = some (.int .i64 x) ∧ w'.cell? ⟨w.heap.size + 1, 0, none⟩ = some (.int .i64 0) ∧ w'.frozen? ⟨w.heap.size + 1, 0, none⟩ = false ∧ w'.cell? ⟨w.heap.size + 1 + 1, 0, none⟩ = some (.int .i64 s) ∧ w'.frozen? ⟨w.heap.size + 1 + 1, 0, none⟩ = false)) (fun k _ => (intOf k + 1).toNat)
  case atStart => exact ⟨n, 0, by omega, rfl, hidden (Mx.C.of_eq (by unfold hn; rw [Nat.sub_self]; rfl)), I0⟩
  case round =>
    clear I0
    obtain ⟨m, s, hm, rfl, hs, hI⟩ := hrel
    by_cases h0 : 0 < m
    · obtain ⟨k, rfl⟩ : ∃ k, m = k + 1 := ⟨m - 1, by omega⟩
      rw [show ((k + 1 : Nat) : Int) - 1 = (k : Int) by omega]
      have k0 : (0 : Int) ≤ (k : Int) := by omega
      have k1 : (k : Int) < (n : Int) := by omega
      have w9 : IntKind.i64.wrap ((k : Int) - 1) = (k : Int) - 1 := IntWalk.i64_in _ (by have := N40.out; omega)
      obtain ⟨sb, so, hP, hcl⟩ := HI.out
      obtain rfl := hP (by omega)
      have c1 : wr.drew.cell? ⟨sb, so + k, none⟩ = some (.int .i64 (a k)) := cell_keep (cell_keep (hcl k (by omega)) hI.out.1) (bl_drew _)
      have c2 : wr.drew.cell? ⟨w.heap.size, 0, none⟩ = some (.int .i64 x) := cell_keep hI.out.2.1 (bl_drew _)
      have c3 : wr.drew.cell? ⟨w.heap.size + 1 + 1, 0, none⟩ = some (.int .i64 s) := cell_keep hI.out.2.2.2.2.1 (bl_drew _)
      have MU := hidden (fun w => sMul_any s x w)
      have AD := hidden (fun (t : Int) w => sAdd_any t (a k) w)
      unfold sv at MU AD
      have m1 := mt_Mul s
      have m2 := fun t => mt_Add t
      have NS : Hid (Mx.C 7 (s % 7 * (x % 7) % 7 + a k % 7) (hn a x n k)) := hidden (by rw [hn_step (a := a) (x := x) (n := n) (k := k) (by omega)]; exact horner hs.out)
      clear hcl
      go_upto_region 5 with fail
      go_region_with (first | (go_at_call 85; with_reducible refine (MU.out _).mono ?_; rintro e wa ⟨rfl, ha⟩; have c4 := cell_keep c1 ha; have HA := hidden ha; clear ha) | (go_at_call 82; with_reducible refine (AD.out _ _).mono ?_; rintro e wb ⟨rfl, hb⟩; have hab := bl_trans (bl_trans (bl_drew wr) HA.out) hb; have f5 := frozen_keep hI.out.2.2.2.2.2 (World.block_lt_of_cell? _ ⟨w.heap.size + 1 + 1, 0, none⟩ hI.out.2.2.2.2.1) hab; have c5 := cell_keep hI.out.2.2.2.2.1 hab; have HAB := hidden hab; clear hab hb))
      all_goals
        have NI := hidden ((show Ev7 w wr x s from hI.out).put HAB.out (s % 7 * (x % 7) % 7 + a k % 7))
        unfold Ev7 at NI
        clear c1 c2 c3 c4 c5 f5 m1 m2 hI hs
        go_wp2_with fail
        go_roundw
        case rel => exact ⟨k, _, by omega, by go_num, NS, NI⟩
        case measure => simp [intOf]
    · obtain rfl : m = 0 := by omega
      have e1 : ((0 : Nat) : Int) - 1 = -1 := rfl
      rw [e1]
      obtain ⟨b1, b2, b3, b4, b5, b6⟩ := hI.out
      have HS : Hid (Mx.C 7 s (Mx.ev n a x)) := hidden (hs.out.trans (Mx.C.of_eq (by unfold hn; rw [Nat.sub_zero]; congr 1; funext j; congr 1; omega)))
      have B2 := hidden (b1.setCell (p := ⟨w.heap.size + 1, 0, none⟩) (by show w.heap.size ≤ w.heap.size + 1; omega) (.int .i64 s))
      have c9 : (wr.setCell ⟨w.heap.size + 1, 0, none⟩ (.int .i64 s)).cell? ⟨w.heap.size + 1, 0, none⟩ = some (.int .i64 s) := by go_simp
      clear hI hs b1 b2 b6
      go_wp2_with fail
      refine bodyPost_ret (v := .agg #[.int .i64 s]) (by simp [results, Tryd.results22, go_sem, c9]) rfl ⟨s, rfl, HS.out, B2.out⟩
end Go.Proofs.YtnbcfchbhappeaaDoor.Al
