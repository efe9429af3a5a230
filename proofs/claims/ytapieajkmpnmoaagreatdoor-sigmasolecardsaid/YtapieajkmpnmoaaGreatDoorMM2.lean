import Derived.Test.YtapieajkmpnmoaaGreatDoorMM1
namespace Go.Proofs.YtapieajkmpnmoaaGreatDoor
open Go.RowKit
set_option linter.unusedVariables false
set_option maxRecDepth 100000 in
set_option maxHeartbeats 8000000 in
theorem simulate_any (R I g n cR cI cn cx : Nat) (Px Pi : Option Addr) (ni ci : Nat) (ch : E4) (ks : Nat → E4) (Pf : Nat → Option Addr) (nf cf : Nat → Nat) (fs : Nat → Nat → Int) (fi : Nat → Int) (w : World) (hn : n ≤ 20) (hn1 : 1 ≤ n) (hT : Tb w) (hch : ch.ok) (hl : Lm w Px n ks) (ok : ∀ i, i < n → (ks i).ok) (hr : w.cell? ⟨R, 0, none⟩ = some (.slice (some ⟨g, 0, none⟩) n cn)) (hg : ∀ q, q < n → w.cell? ⟨g, q, none⟩ = some (.slice (Pf q) (nf q) (cf q)) ∧ Fr w (.agg #[.slice (Pf q) (nf q) (cf q)]) (fs q)) (him : w.cell? ⟨I, 0, none⟩ = some (.slice Pi ni ci)) (hF : Fr w (.agg #[.slice Pi ni ci]) fi) :
    Calls Tryz.prog 6 #[.agg #[.slice (some ⟨R, 0, none⟩) 1 cR, .slice (some ⟨I, 0, none⟩) 1 cI], .agg #[.int .u64 ch.x0, .int .u64 ch.x1, .int .u64 ch.x2, .int .u64 ch.x3], .slice Px n cx] w fun e w' => ∃ D A m c : Nat, e = .returned (.tuple #[.slice (some ⟨D, 0, none⟩) 1 1, .int .i64 0]) ∧ w.heap.size ≤ D ∧ w'.cell? ⟨D, 0, none⟩ = some (.slice (some ⟨A, 0, none⟩) m c) ∧ Fl w' (.agg #[.slice (some ⟨A, 0, none⟩) m c]) (fun t => tot (fun q => (ks q).n * fs q t) n + -ch.n * fi t) ∧ Below w.heap.size w w' := by
  have B3 : Below w.heap.size w (((w.alloc (.cells #[.slice (some ⟨R, 0, none⟩) 1 cR, .slice (some ⟨I, 0, none⟩) 1 cI] 29)).alloc (.cells #[.int .u64 ch.x0, .int .u64 ch.x1, .int .u64 ch.x2, .int .u64 ch.x3] 25)).alloc (.cells #[.slice Px n cx] 22)) := bl_trans (bl_trans (bl_alloc w _) (bl_alloc _ _)) (bl_alloc _ _)
  have e0 : (((w.alloc (.cells #[.slice (some ⟨R, 0, none⟩) 1 cR, .slice (some ⟨I, 0, none⟩) 1 cI] 29)).alloc (.cells #[.int .u64 ch.x0, .int .u64 ch.x1, .int .u64 ch.x2, .int .u64 ch.x3] 25)).alloc (.cells #[.slice Px n cx] 22)).cell? ⟨w.heap.size, 0, none⟩ = some (.slice (some ⟨R, 0, none⟩) 1 cR) := by go_simp
  have e1 : (((w.alloc (.cells #[.slice (some ⟨R, 0, none⟩) 1 cR, .slice (some ⟨I, 0, none⟩) 1 cI] 29)).alloc (.cells #[.int .u64 ch.x0, .int .u64 ch.x1, .int .u64 ch.x2, .int .u64 ch.x3] 25)).alloc (.cells #[.slice Px n cx] 22)).cell? ⟨w.heap.size, 1, none⟩ = some (.slice (some ⟨I, 0, none⟩) 1 cI) := by go_simp
  have cc0 : (((w.alloc (.cells #[.slice (some ⟨R, 0, none⟩) 1 cR, .slice (some ⟨I, 0, none⟩) 1 cI] 29)).alloc (.cells #[.int .u64 ch.x0, .int .u64 ch.x1, .int .u64 ch.x2, .int .u64 ch.x3] 25)).alloc (.cells #[.slice Px n cx] 22)).cell? ⟨w.heap.size + 1, 0, none⟩ = some (.int .u64 ch.x0) := by go_simp
  have cc1 : (((w.alloc (.cells #[.slice (some ⟨R, 0, none⟩) 1 cR, .slice (some ⟨I, 0, none⟩) 1 cI] 29)).alloc (.cells #[.int .u64 ch.x0, .int .u64 ch.x1, .int .u64 ch.x2, .int .u64 ch.x3] 25)).alloc (.cells #[.slice Px n cx] 22)).cell? ⟨w.heap.size + 1, 1, none⟩ = some (.int .u64 ch.x1) := by go_simp
  have cc2 : (((w.alloc (.cells #[.slice (some ⟨R, 0, none⟩) 1 cR, .slice (some ⟨I, 0, none⟩) 1 cI] 29)).alloc (.cells #[.int .u64 ch.x0, .int .u64 ch.x1, .int .u64 ch.x2, .int .u64 ch.x3] 25)).alloc (.cells #[.slice Px n cx] 22)).cell? ⟨w.heap.size + 1, 2, none⟩ = some (.int .u64 ch.x2) := by go_simp
  have cc3 : (((w.alloc (.cells #[.slice (some ⟨R, 0, none⟩) 1 cR, .slice (some ⟨I, 0, none⟩) 1 cI] 29)).alloc (.cells #[.int .u64 ch.x0, .int .u64 ch.x1, .int .u64 ch.x2, .int .u64 ch.x3] 25)).alloc (.cells #[.slice Px n cx] 22)).cell? ⟨w.heap.size + 1, 3, none⟩ = some (.int .u64 ch.x3) := by go_simp
  have t0 : (((w.alloc (.cells #[.slice (some ⟨R, 0, none⟩) 1 cR, .slice (some ⟨I, 0, none⟩) 1 cI] 29)).alloc (.cells #[.int .u64 ch.x0, .int .u64 ch.x1, .int .u64 ch.x2, .int .u64 ch.x3] 25)).alloc (.cells #[.slice Px n cx] 22)).cell? ⟨w.heap.size + 1 + 1, 0, none⟩ = some (.slice Px n cx) := by go_simp
  have CF := hidden (fits_F R I g n cR cI cn (w.heap.size + 1 + 1) cx Px (((w.alloc (.cells #[.slice (some ⟨R, 0, none⟩) 1 cR, .slice (some ⟨I, 0, none⟩) 1 cI] 29)).alloc (.cells #[.int .u64 ch.x0, .int .u64 ch.x1, .int .u64 ch.x2, .int .u64 ch.x3] 25)).alloc (.cells #[.slice Px n cx] 22)) hn1 (cell_keep hr B3) t0)
  have CS := hidden (fun (x : World) (hx : Below w.heap.size w x) => sim_any R I g n cR cI cn cx Px Pi ni ci ch ks Pf nf cf fs fi x hn hn1 (hT.keep hx) hch (hl.keep hx) ok (cell_keep hr hx) (fun q hq => ⟨cell_keep (hg q hq).1 hx, (hg q hq).2.keep hx⟩) (cell_keep him hx) (hF.keep hx))
  clear hT hl hr hg him hF
  go_enter Tryz.func6, Tryz.ntmps6
  go_wp2_with (first
    | (go_at_call 10; refine CF.out.mono ?_; rintro e wa ⟨rfl, ha⟩; have a0 := cell_keep e0 ha; have a1 := cell_keep e1 ha; have b0 := cell_keep cc0 ha; have b1 := cell_keep cc1 ha; have b2 := cell_keep cc2 ha; have b3 := cell_keep cc3 ha; have BA := hidden (bl_trans B3 ha); clear ha CF)
    | (go_at_call 11; refine (CS.out _ BA.out).mono ?_; rintro e wb ⟨D, A, m, c, rfl, hD, q1, q2, hb⟩; have RR := hidden (And.intro hD (And.intro q1 (And.intro q2 hb))); clear hD q1 q2 hb CS))
  obtain ⟨hD, q1, q2, hb⟩ := RR.out
  have := BA.out.size
  refine bodyPost_ret (v := .tuple #[.slice (some ⟨D, 0, none⟩) 1 1, .int .i64 0]) (by simp [results, Tryz.results6, go_sem]) rfl ⟨D, A, m, c, rfl, by omega, q1, q2, bl_trans BA.out hb⟩
end Go.Proofs.YtapieajkmpnmoaaGreatDoor
namespace Go.Proofs.YtapieajkmpnmoaaGreatDoor
open Go.RowKit
set_option linter.unusedVariables false
set_option maxRecDepth 100000 in
set_option maxHeartbeats 8000000 in
theorem accepts_F (R I g n cR cI cn cx : Nat) (Px Pi : Option Addr) (ni ci : Nat) (ch : E4) (ks : Nat → E4) (Pf : Nat → Option Addr) (nf cf : Nat → Nat) (fs : Nat → Nat → Int) (fi : Nat → Int) (X cX : Nat) (P2 : Option Addr) (n2 c2 : Nat) (fx : Nat → Int) (b : Bool) (w : World) (hn : n ≤ 20) (hn1 : 1 ≤ n) (hT : Tb w) (hch : ch.ok) (hl : Lm w Px n ks) (ok : ∀ i, i < n → (ks i).ok) (hr : w.cell? ⟨R, 0, none⟩ = some (.slice (some ⟨g, 0, none⟩) n cn)) (hg : ∀ q, q < n → w.cell? ⟨g, q, none⟩ = some (.slice (Pf q) (nf q) (cf q)) ∧ Fr w (.agg #[.slice (Pf q) (nf q) (cf q)]) (fs q)) (him : w.cell? ⟨I, 0, none⟩ = some (.slice Pi ni ci)) (hF : Fr w (.agg #[.slice Pi ni ci]) fi) (hX : w.cell? ⟨X, 0, none⟩ = some (.slice P2 n2 c2)) (hFX : Fr w (.agg #[.slice P2 n2 c2]) fx) (hb : b = true ↔ ∀ t, lst (tot (fun q => (ks q).n * fs q t) n + -ch.n * fi t) = lst (fx t)) :
    Calls Tryz.prog 8 #[.agg #[.slice (some ⟨R, 0, none⟩) 1 cR, .slice (some ⟨I, 0, none⟩) 1 cI], .slice (some ⟨X, 0, none⟩) 1 cX, .agg #[.int .u64 ch.x0, .int .u64 ch.x1, .int .u64 ch.x2, .int .u64 ch.x3], .slice Px n cx] w fun e w' => e = .returned (.int .i64 (if b then 0 else 111)) ∧ Below w.heap.size w w' := by
  have B3 : Below w.heap.size w (((w.alloc (.cells #[.slice (some ⟨R, 0, none⟩) 1 cR, .slice (some ⟨I, 0, none⟩) 1 cI] 29)).alloc (.cells #[.int .u64 ch.x0, .int .u64 ch.x1, .int .u64 ch.x2, .int .u64 ch.x3] 25)).alloc (.cells #[.slice Px n cx] 22)) := bl_trans (bl_trans (bl_alloc w _) (bl_alloc _ _)) (bl_alloc _ _)
  have e0 : (((w.alloc (.cells #[.slice (some ⟨R, 0, none⟩) 1 cR, .slice (some ⟨I, 0, none⟩) 1 cI] 29)).alloc (.cells #[.int .u64 ch.x0, .int .u64 ch.x1, .int .u64 ch.x2, .int .u64 ch.x3] 25)).alloc (.cells #[.slice Px n cx] 22)).cell? ⟨w.heap.size, 0, none⟩ = some (.slice (some ⟨R, 0, none⟩) 1 cR) := by go_simp
  have e1 : (((w.alloc (.cells #[.slice (some ⟨R, 0, none⟩) 1 cR, .slice (some ⟨I, 0, none⟩) 1 cI] 29)).alloc (.cells #[.int .u64 ch.x0, .int .u64 ch.x1, .int .u64 ch.x2, .int .u64 ch.x3] 25)).alloc (.cells #[.slice Px n cx] 22)).cell? ⟨w.heap.size, 1, none⟩ = some (.slice (some ⟨I, 0, none⟩) 1 cI) := by go_simp
  have cc0 : (((w.alloc (.cells #[.slice (some ⟨R, 0, none⟩) 1 cR, .slice (some ⟨I, 0, none⟩) 1 cI] 29)).alloc (.cells #[.int .u64 ch.x0, .int .u64 ch.x1, .int .u64 ch.x2, .int .u64 ch.x3] 25)).alloc (.cells #[.slice Px n cx] 22)).cell? ⟨w.heap.size + 1, 0, none⟩ = some (.int .u64 ch.x0) := by go_simp
  have cc1 : (((w.alloc (.cells #[.slice (some ⟨R, 0, none⟩) 1 cR, .slice (some ⟨I, 0, none⟩) 1 cI] 29)).alloc (.cells #[.int .u64 ch.x0, .int .u64 ch.x1, .int .u64 ch.x2, .int .u64 ch.x3] 25)).alloc (.cells #[.slice Px n cx] 22)).cell? ⟨w.heap.size + 1, 1, none⟩ = some (.int .u64 ch.x1) := by go_simp
  have cc2 : (((w.alloc (.cells #[.slice (some ⟨R, 0, none⟩) 1 cR, .slice (some ⟨I, 0, none⟩) 1 cI] 29)).alloc (.cells #[.int .u64 ch.x0, .int .u64 ch.x1, .int .u64 ch.x2, .int .u64 ch.x3] 25)).alloc (.cells #[.slice Px n cx] 22)).cell? ⟨w.heap.size + 1, 2, none⟩ = some (.int .u64 ch.x2) := by go_simp
  have cc3 : (((w.alloc (.cells #[.slice (some ⟨R, 0, none⟩) 1 cR, .slice (some ⟨I, 0, none⟩) 1 cI] 29)).alloc (.cells #[.int .u64 ch.x0, .int .u64 ch.x1, .int .u64 ch.x2, .int .u64 ch.x3] 25)).alloc (.cells #[.slice Px n cx] 22)).cell? ⟨w.heap.size + 1, 3, none⟩ = some (.int .u64 ch.x3) := by go_simp
  have t0 : (((w.alloc (.cells #[.slice (some ⟨R, 0, none⟩) 1 cR, .slice (some ⟨I, 0, none⟩) 1 cI] 29)).alloc (.cells #[.int .u64 ch.x0, .int .u64 ch.x1, .int .u64 ch.x2, .int .u64 ch.x3] 25)).alloc (.cells #[.slice Px n cx] 22)).cell? ⟨w.heap.size + 1 + 1, 0, none⟩ = some (.slice Px n cx) := by go_simp
  have CF := hidden (fits_F R I g n cR cI cn (w.heap.size + 1 + 1) cx Px (((w.alloc (.cells #[.slice (some ⟨R, 0, none⟩) 1 cR, .slice (some ⟨I, 0, none⟩) 1 cI] 29)).alloc (.cells #[.int .u64 ch.x0, .int .u64 ch.x1, .int .u64 ch.x2, .int .u64 ch.x3] 25)).alloc (.cells #[.slice Px n cx] 22)) hn1 (cell_keep hr B3) t0)
  have CS := hidden (fun (x : World) (hx : Below w.heap.size w x) => sim_any R I g n cR cI cn cx Px Pi ni ci ch ks Pf nf cf fs fi x hn hn1 (hT.keep hx) hch (hl.keep hx) ok (cell_keep hr hx) (fun q hq => ⟨cell_keep (hg q hq).1 hx, (hg q hq).2.keep hx⟩) (cell_keep him hx) (hF.keep hx))
  have SM : Hid (∀ (wb : World) (A m c : Nat), Below w.heap.size w wb → Fl wb (.agg #[.slice (some ⟨A, 0, none⟩) m c]) (fun t => tot (fun q => (ks q).n * fs q t) n + -ch.n * fi t) → ∀ y, Below wb.heap.size wb y → Calls Tryz.prog 132 #[.agg #[.slice (some ⟨A, 0, none⟩) m c], .agg #[.slice P2 n2 c2]] y fun e w' => e = .returned (.bool b) ∧ Below y.heap.size y w') := hidden (fun wb A m c BB q2 y hy => (frSame _ _ _ _ y (hT.keep (bl_trans BB hy)) (q2.fr.keep hy) (hFX.keep (bl_trans BB hy))).mono (fun e w' q => by
    obtain ⟨b2, rfl, hb2, hw⟩ := q
    have e : b2 = b := by rw [Bool.eq_iff_iff, hb2, hb]
    exact ⟨by rw [e], hw⟩))
  have HX := hidden hX
  clear hl hr hg him hb hF hFX hT hch ok hX
  cases b with
  | true =>
    go_enter Tryz.func8, Tryz.ntmps8
    go_wp2_with (first
      | (go_at_call 10; refine CF.out.mono ?_; rintro e wa ⟨rfl, ha⟩; have a0 := cell_keep e0 ha; have a1 := cell_keep e1 ha; have b0 := cell_keep cc0 ha; have b1 := cell_keep cc1 ha; have b2 := cell_keep cc2 ha; have b3 := cell_keep cc3 ha; have BA := hidden (bl_trans B3 ha); clear ha CF)
      | (go_at_call 11; refine (CS.out _ BA.out).mono ?_; rintro e wb ⟨D, A, m, c, rfl, hD, q1, q2, hc⟩; have BB := bl_trans BA.out hc; have EQ := hidden (equal_F D X 1 cX (some ⟨A, 0, none⟩) P2 m c n2 c2 _ wb q1 (cell_keep HX.out BB) (SM.out wb A m c BB q2)); have BW := hidden BB; clear hD q1 q2 hc BB CS)
      | (go_at_call 16; refine EQ.out.mono ?_; rintro e wc ⟨rfl, hd⟩; have BC := hidden (bl_trans BW.out hd); clear hd EQ))
    refine bodyPost_ret (v := .int .i64 0) (by simp [results, Tryz.results8, go_sem]) rfl ⟨rfl, BC.out⟩
  | false =>
    go_enter Tryz.func8, Tryz.ntmps8
    go_wp2_with (first
      | (go_at_call 10; refine CF.out.mono ?_; rintro e wa ⟨rfl, ha⟩; have a0 := cell_keep e0 ha; have a1 := cell_keep e1 ha; have b0 := cell_keep cc0 ha; have b1 := cell_keep cc1 ha; have b2 := cell_keep cc2 ha; have b3 := cell_keep cc3 ha; have BA := hidden (bl_trans B3 ha); clear ha CF)
      | (go_at_call 11; refine (CS.out _ BA.out).mono ?_; rintro e wb ⟨D, A, m, c, rfl, hD, q1, q2, hc⟩; have BB := bl_trans BA.out hc; have EQ := hidden (equal_F D X 1 cX (some ⟨A, 0, none⟩) P2 m c n2 c2 _ wb q1 (cell_keep HX.out BB) (SM.out wb A m c BB q2)); have BW := hidden BB; clear hD q1 q2 hc BB CS)
      | (go_at_call 16; refine EQ.out.mono ?_; rintro e wc ⟨rfl, hd⟩; have BC := hidden (bl_trans BW.out hd); clear hd EQ))
    refine bodyPost_ret (v := .int .i64 111) (by simp [results, Tryz.results8, go_sem]) rfl ⟨rfl, BC.out⟩
end Go.Proofs.YtapieajkmpnmoaaGreatDoor
namespace Go.Proofs.YtapieajkmpnmoaaGreatDoor.Li
open Go.RowKit
set_option linter.unusedVariables false
set_option maxRecDepth 100000 in
set_option maxHeartbeats 8000000 in
theorem accepts_L (R I g n cR cI cn cx : Nat) (Px : Option Addr) (ch im : E4) (ks gs : Nat → E4) (X cX : Nat) (fx : E4) (b : Bool) (w : World) (hn : n ≤ 20) (hn1 : 1 ≤ n) (hT : Tb w) (hch : ch.ok) (hl : Lm w Px n ks) (ok : ∀ i, i < n → (ks i).ok) (hr : w.cell? ⟨R, 0, none⟩ = some (.slice (some ⟨g, 0, none⟩) n cn)) (hg : Rl w g 0 n gs) (og : ∀ q, q < n → (gs q).ok) (him : w.rangeAt I 0 [.int .u64 im.x0, .int .u64 im.x1, .int .u64 im.x2, .int .u64 im.x3]) (oi : im.ok) (hX : w.rangeAt X 0 [.int .u64 fx.x0, .int .u64 fx.x1, .int .u64 fx.x2, .int .u64 fx.x3]) (ofx : fx.ok) (hb : (lst (lst (tot (fun q => (ks q).n * (gs q).n) n + -ch.n * im.n)).n).same (lst fx.n) = b) :
    Calls Tryz.prog 15 #[.agg #[.slice (some ⟨R, 0, none⟩) 1 cR, .slice (some ⟨I, 0, none⟩) 1 cI], .slice (some ⟨X, 0, none⟩) 1 cX, .agg #[.int .u64 ch.x0, .int .u64 ch.x1, .int .u64 ch.x2, .int .u64 ch.x3], .slice Px n cx] w fun e w' => e = .returned (.int .i64 (if b then 0 else 111)) ∧ Below w.heap.size w w' := by
  have B3 : Below w.heap.size w (((w.alloc (.cells #[.slice (some ⟨R, 0, none⟩) 1 cR, .slice (some ⟨I, 0, none⟩) 1 cI] 48)).alloc (.cells #[.int .u64 ch.x0, .int .u64 ch.x1, .int .u64 ch.x2, .int .u64 ch.x3] 25)).alloc (.cells #[.slice Px n cx] 22)) := bl_trans (bl_trans (bl_alloc w _) (bl_alloc _ _)) (bl_alloc _ _)
  have e0 : (((w.alloc (.cells #[.slice (some ⟨R, 0, none⟩) 1 cR, .slice (some ⟨I, 0, none⟩) 1 cI] 48)).alloc (.cells #[.int .u64 ch.x0, .int .u64 ch.x1, .int .u64 ch.x2, .int .u64 ch.x3] 25)).alloc (.cells #[.slice Px n cx] 22)).cell? ⟨w.heap.size, 0, none⟩ = some (.slice (some ⟨R, 0, none⟩) 1 cR) := by go_simp
  have e1 : (((w.alloc (.cells #[.slice (some ⟨R, 0, none⟩) 1 cR, .slice (some ⟨I, 0, none⟩) 1 cI] 48)).alloc (.cells #[.int .u64 ch.x0, .int .u64 ch.x1, .int .u64 ch.x2, .int .u64 ch.x3] 25)).alloc (.cells #[.slice Px n cx] 22)).cell? ⟨w.heap.size, 1, none⟩ = some (.slice (some ⟨I, 0, none⟩) 1 cI) := by go_simp
  have cc0 : (((w.alloc (.cells #[.slice (some ⟨R, 0, none⟩) 1 cR, .slice (some ⟨I, 0, none⟩) 1 cI] 48)).alloc (.cells #[.int .u64 ch.x0, .int .u64 ch.x1, .int .u64 ch.x2, .int .u64 ch.x3] 25)).alloc (.cells #[.slice Px n cx] 22)).cell? ⟨w.heap.size + 1, 0, none⟩ = some (.int .u64 ch.x0) := by go_simp
  have cc1 : (((w.alloc (.cells #[.slice (some ⟨R, 0, none⟩) 1 cR, .slice (some ⟨I, 0, none⟩) 1 cI] 48)).alloc (.cells #[.int .u64 ch.x0, .int .u64 ch.x1, .int .u64 ch.x2, .int .u64 ch.x3] 25)).alloc (.cells #[.slice Px n cx] 22)).cell? ⟨w.heap.size + 1, 1, none⟩ = some (.int .u64 ch.x1) := by go_simp
  have cc2 : (((w.alloc (.cells #[.slice (some ⟨R, 0, none⟩) 1 cR, .slice (some ⟨I, 0, none⟩) 1 cI] 48)).alloc (.cells #[.int .u64 ch.x0, .int .u64 ch.x1, .int .u64 ch.x2, .int .u64 ch.x3] 25)).alloc (.cells #[.slice Px n cx] 22)).cell? ⟨w.heap.size + 1, 2, none⟩ = some (.int .u64 ch.x2) := by go_simp
  have cc3 : (((w.alloc (.cells #[.slice (some ⟨R, 0, none⟩) 1 cR, .slice (some ⟨I, 0, none⟩) 1 cI] 48)).alloc (.cells #[.int .u64 ch.x0, .int .u64 ch.x1, .int .u64 ch.x2, .int .u64 ch.x3] 25)).alloc (.cells #[.slice Px n cx] 22)).cell? ⟨w.heap.size + 1, 3, none⟩ = some (.int .u64 ch.x3) := by go_simp
  have t0 : (((w.alloc (.cells #[.slice (some ⟨R, 0, none⟩) 1 cR, .slice (some ⟨I, 0, none⟩) 1 cI] 48)).alloc (.cells #[.int .u64 ch.x0, .int .u64 ch.x1, .int .u64 ch.x2, .int .u64 ch.x3] 25)).alloc (.cells #[.slice Px n cx] 22)).cell? ⟨w.heap.size + 1 + 1, 0, none⟩ = some (.slice Px n cx) := by go_simp
  have CF := hidden (fits_L R I g n cR cI cn (w.heap.size + 1 + 1) cx Px (((w.alloc (.cells #[.slice (some ⟨R, 0, none⟩) 1 cR, .slice (some ⟨I, 0, none⟩) 1 cI] 48)).alloc (.cells #[.int .u64 ch.x0, .int .u64 ch.x1, .int .u64 ch.x2, .int .u64 ch.x3] 25)).alloc (.cells #[.slice Px n cx] 22)) hn1 (cell_keep hr B3) t0)
  have CS := hidden (fun (x : World) (hx : Below w.heap.size w x) => sim_any R I g n cR cI cn cx Px ch im ks gs x hn hn1 (hT.keep hx) hch (hl.keep hx) ok (cell_keep hr hx) (hg.keep hx) og (range_bl him hx) oi)
  have SM : Hid (∀ (wb : World), Below w.heap.size w wb → ∀ y, Below wb.heap.size wb y → Calls Tryz.prog 145 #[.agg #[.int .u64 (lst (tot (fun q => (ks q).n * (gs q).n) n + -ch.n * im.n)).x0, .int .u64 (lst (tot (fun q => (ks q).n * (gs q).n) n + -ch.n * im.n)).x1, .int .u64 (lst (tot (fun q => (ks q).n * (gs q).n) n + -ch.n * im.n)).x2, .int .u64 (lst (tot (fun q => (ks q).n * (gs q).n) n + -ch.n * im.n)).x3], .agg #[.int .u64 fx.x0, .int .u64 fx.x1, .int .u64 fx.x2, .int .u64 fx.x3]] y fun e w' => e = .returned (.bool b) ∧ Below y.heap.size y w') := hidden (fun wb BB y hy => (lSame_any _ fx y (hT.keep (bl_trans BB hy)) (lst_ok _) ofx).mono (fun e w' q => ⟨by rw [q.1, hb], q.2⟩))
  have HX := hidden hX
  clear hl hr hg him hb ofx oi og hT hch ok hX
  cases b with
  | true =>
    go_enter Tryz.func15, Tryz.ntmps15
    go_wp2_with (first
      | (go_at_call 22; refine CF.out.mono ?_; rintro e wa ⟨rfl, ha⟩; have a0 := cell_keep e0 ha; have a1 := cell_keep e1 ha; have b0 := cell_keep cc0 ha; have b1 := cell_keep cc1 ha; have b2 := cell_keep cc2 ha; have b3 := cell_keep cc3 ha; have BA := hidden (bl_trans B3 ha); clear ha CF)
      | (go_at_call 26; refine (CS.out _ BA.out).mono ?_; rintro e wb ⟨D, rfl, hD, q1, hc⟩; have BB := bl_trans BA.out hc; have EQ := hidden (equal_L D X 1 cX _ fx _ wb (q1 0 _ rfl) (q1 1 _ rfl) (q1 2 _ rfl) (q1 3 _ rfl) (cell_keep (HX.out 0 _ rfl) BB) (cell_keep (HX.out 1 _ rfl) BB) (cell_keep (HX.out 2 _ rfl) BB) (cell_keep (HX.out 3 _ rfl) BB) (SM.out wb BB)); have BW := hidden BB; clear hD q1 hc BB CS)
      | (go_at_call 27; refine EQ.out.mono ?_; rintro e wc ⟨rfl, hd⟩; have BC := hidden (bl_trans BW.out hd); clear hd EQ))
    refine bodyPost_ret (v := .int .i64 0) (by simp [results, Tryz.results15, go_sem]) rfl ⟨rfl, BC.out⟩
  | false =>
    go_enter Tryz.func15, Tryz.ntmps15
    go_wp2_with (first
      | (go_at_call 22; refine CF.out.mono ?_; rintro e wa ⟨rfl, ha⟩; have a0 := cell_keep e0 ha; have a1 := cell_keep e1 ha; have b0 := cell_keep cc0 ha; have b1 := cell_keep cc1 ha; have b2 := cell_keep cc2 ha; have b3 := cell_keep cc3 ha; have BA := hidden (bl_trans B3 ha); clear ha CF)
      | (go_at_call 26; refine (CS.out _ BA.out).mono ?_; rintro e wb ⟨D, rfl, hD, q1, hc⟩; have BB := bl_trans BA.out hc; have EQ := hidden (equal_L D X 1 cX _ fx _ wb (q1 0 _ rfl) (q1 1 _ rfl) (q1 2 _ rfl) (q1 3 _ rfl) (cell_keep (HX.out 0 _ rfl) BB) (cell_keep (HX.out 1 _ rfl) BB) (cell_keep (HX.out 2 _ rfl) BB) (cell_keep (HX.out 3 _ rfl) BB) (SM.out wb BB)); have BW := hidden BB; clear hD q1 hc BB CS)
      | (go_at_call 27; refine EQ.out.mono ?_; rintro e wc ⟨rfl, hd⟩; have BC := hidden (bl_trans BW.out hd); clear hd EQ))
    refine bodyPost_ret (v := .int .i64 111) (by simp [results, Tryz.results15, go_sem]) rfl ⟨rfl, BC.out⟩
end Go.Proofs.YtapieajkmpnmoaaGreatDoor.Li
namespace Go.Proofs.YtapieajkmpnmoaaGreatDoor.Li
open Go.RowKit
set_option linter.unusedVariables false
def pl5o : Array Oper := #[{ dst := some 12, op := Op.load 51 (Operand.tmp 3), type := 51, pos := "msm.go:43", after := #[], guard := none },
  { dst := some 13, op := Op.makeInterface 51 (Operand.tmp 12), type := 20, pos := "msm.go:43", after := #[{ on := 0, ground := Ground.data }], guard := none },
  { dst := some 14, op := Op.fieldAddr 93 (Operand.tmp 5) 1, type := 0, pos := "msm.go:43", after := #[], guard := none },
  { dst := some 15, op := Op.load 51 (Operand.tmp 14), type := 51, pos := "msm.go:43", after := #[{ on := 2, ground := Ground.data }], guard := none },
  { dst := some 16, op := Op.makeInterface 51 (Operand.tmp 15), type := 20, pos := "msm.go:43", after := #[{ on := 3, ground := Ground.data }], guard := none },
  { dst := some 17, op := Op.fieldAddr 93 (Operand.tmp 5) 0, type := 0, pos := "msm.go:43", after := #[], guard := none },
  { dst := some 18, op := Op.load 25 (Operand.tmp 17), type := 25, pos := "msm.go:43", after := #[{ on := 5, ground := Ground.data }], guard := none },
  { dst := some 19, op := Op.call { callee := Callee.invoke (Operand.tmp 16) "Times", args := #[Operand.tmp 18], argTypes := #[25] }, type := 51, pos := "msm.go:43", after := #[{ on := 4, ground := Ground.data }, { on := 6, ground := Ground.data }], guard := none },
  { dst := some 20, op := Op.call { callee := Callee.invoke (Operand.tmp 13) "Add", args := #[Operand.tmp 19], argTypes := #[51] }, type := 51, pos := "msm.go:43", after := #[{ on := 1, ground := Ground.data }, { on := 7, ground := Ground.data }, { on := 7, ground := Ground.chain }], guard := none },
  { dst := none, op := Op.store 51 (Operand.tmp 3) (Operand.tmp 20), type := 0, pos := "msm.go:43", after := #[{ on := 8, ground := Ground.data }, { on := 8, ground := Ground.chain }, { on := 0, ground := Ground.phase }, { on := 1, ground := Ground.phase }, { on := 2, ground := Ground.phase }, { on := 3, ground := Ground.phase }, { on := 4, ground := Ground.phase }, { on := 5, ground := Ground.phase }, { on := 6, ground := Ground.phase }, { on := 7, ground := Ground.phase }, { on := 8, ground := Ground.phase }], guard := none }]
set_option maxRecDepth 100000 in
set_option maxHeartbeats 16000000 in
theorem pl5 (Q : Exit → Act → World → Prop) (T3 T5 : Nat) (z k p u r : E4) (u0 u1 u2 u4 u6 u7 u8 u9 u10 u11 u12 u13 u14 u15 u16 u17 u18 u19 u20 u21 u22 : Value) (W : World)
    (ne5 : T5 ≠ T3) (rg : W.rangeAt T3 0 [.int .u64 z.x0, .int .u64 z.x1, .int .u64 z.x2, .int .u64 z.x3]) (th : W.there T3 0 4) (ck0 : W.cell? ⟨T5, 0, none⟩ = some (.int .u64 k.x0)) (ck1 : W.cell? ⟨T5, 1, none⟩ = some (.int .u64 k.x1)) (ck2 : W.cell? ⟨T5, 2, none⟩ = some (.int .u64 k.x2)) (ck3 : W.cell? ⟨T5, 3, none⟩ = some (.int .u64 k.x3)) (cp0 : W.cell? ⟨T5, 4, none⟩ = some (.int .u64 p.x0)) (cp1 : W.cell? ⟨T5, 5, none⟩ = some (.int .u64 p.x1)) (cp2 : W.cell? ⟨T5, 6, none⟩ = some (.int .u64 p.x2)) (cp3 : W.cell? ⟨T5, 7, none⟩ = some (.int .u64 p.x3))
    (mt : ∀ (p : E4) (w : World), (method 318 51 (.agg #[.int .u64 p.x0, .int .u64 p.x1, .int .u64 p.x2, .int .u64 p.x3]) "Times").run Tryz.prog w = .ok (146, .agg #[.int .u64 p.x0, .int .u64 p.x1, .int .u64 p.x2, .int .u64 p.x3]) w)
    (ma : ∀ (p : E4) (w : World), (method 318 51 (.agg #[.int .u64 p.x0, .int .u64 p.x1, .int .u64 p.x2, .int .u64 p.x3]) "Add").run Tryz.prog w = .ok (142, .agg #[.int .u64 p.x0, .int .u64 p.x1, .int .u64 p.x2, .int .u64 p.x3]) w)
    (C7 : Hid (∀ x, W.grownBy x (some T3) → Calls Tryz.prog 146 #[.agg #[.int .u64 p.x0, .int .u64 p.x1, .int .u64 p.x2, .int .u64 p.x3], .agg #[.int .u64 k.x0, .int .u64 k.x1, .int .u64 k.x2, .int .u64 k.x3]] x fun e w' => e = .returned (.agg #[.int .u64 u.x0, .int .u64 u.x1, .int .u64 u.x2, .int .u64 u.x3]) ∧ Below x.heap.size x w'))
    (C8 : Hid (∀ x, W.grownBy x (some T3) → Calls Tryz.prog 142 #[.agg #[.int .u64 z.x0, .int .u64 z.x1, .int .u64 z.x2, .int .u64 z.x3], .agg #[.int .u64 u.x0, .int .u64 u.x1, .int .u64 u.x2, .int .u64 u.x3]] x fun e w' => e = .returned (.agg #[.int .u64 r.x0, .int .u64 r.x1, .int .u64 r.x2, .int .u64 r.x3]) ∧ Below x.heap.size x w'))
    (HQ : Hid (∀ (wz : World), (∃ wy, W.grownBy wy (some T3) ∧ wy.there T3 0 4 ∧ wz = wy.setCells T3 0 [.int .u64 r.x0, .int .u64 r.x1, .int .u64 r.x2, .int .u64 r.x3]) → Q .normal ⟨#[u0, u1, u2, .pointer (some ⟨T3, 0, none⟩), u4, .pointer (some ⟨T5, 0, none⟩), u6, u7, u8, u9, u10, u11, .agg #[.int .u64 z.x0, .int .u64 z.x1, .int .u64 z.x2, .int .u64 z.x3], .iface 51 (.agg #[.int .u64 z.x0, .int .u64 z.x1, .int .u64 z.x2, .int .u64 z.x3]), .pointer (some ⟨T5, 4, none⟩), .agg #[.int .u64 p.x0, .int .u64 p.x1, .int .u64 p.x2, .int .u64 p.x3], .iface 51 (.agg #[.int .u64 p.x0, .int .u64 p.x1, .int .u64 p.x2, .int .u64 p.x3]), .pointer (some ⟨T5, 0, none⟩), .agg #[.int .u64 k.x0, .int .u64 k.x1, .int .u64 k.x2, .int .u64 k.x3], .agg #[.int .u64 u.x0, .int .u64 u.x1, .int .u64 u.x2, .int .u64 u.x3], .agg #[.int .u64 r.x0, .int .u64 r.x1, .int .u64 r.x2, .int .u64 r.x3], u21, u22], []⟩ wz)) : (Code.region 5 pl5o true).wp Tryz.prog Q ⟨#[u0, u1, u2, .pointer (some ⟨T3, 0, none⟩), u4, .pointer (some ⟨T5, 0, none⟩), u6, u7, u8, u9, u10, u11, u12, u13, u14, u15, u16, u17, u18, u19, u20, u21, u22], []⟩ W := by
  have RG := hidden (range_bl rg (bl_drew W))
  have TH := hidden (there_bl th (bl_drew W))
  clear rg th
  unfold pl5o
  refine wp_region_noPanic ?_
  refine wp_region_held_drew (S := fun x => W.grownBy x (some T3)) (by kernel_rfl) (gbI (bl_drew W) _) (fun hH0 => ?_)
  refine wpAnyH_take (i := 2) (oi := { dst := some 14, op := Op.fieldAddr 93 (Operand.tmp 5) 1, type := 0, pos := "msm.go:43", after := #[], guard := none }) (v := .pointer (some ⟨T5, 4, none⟩)) rfl (by kernel_rfl) (by kernel_rfl) (by kernel_rfl) (fun _ _ _ h => h) (Or.inl ⟨by rfl, fun w0 hSw => ?_⟩) hH0 ?_
  · (clear hSw; go_simp)
  simp only [Act.put, List.setIfInBounds_toArray, List.set_cons_zero, List.set_cons_succ]
  refine wpAnyH_take (i := 5) (oi := { dst := some 17, op := Op.fieldAddr 93 (Operand.tmp 5) 0, type := 0, pos := "msm.go:43", after := #[], guard := none }) (v := .pointer (some ⟨T5, 0, none⟩)) rfl (by kernel_rfl) (by kernel_rfl) (by kernel_rfl) (fun _ _ _ h => h) (Or.inl ⟨by rfl, fun w0 hSw => ?_⟩) hH0 ?_
  · (clear hSw; go_simp)
  simp only [Act.put, List.setIfInBounds_toArray, List.set_cons_zero, List.set_cons_succ]
  refine wpAnyH_take (i := 3) (oi := { dst := some 15, op := Op.load 51 (Operand.tmp 14), type := 51, pos := "msm.go:43", after := #[{ on := 2, ground := Ground.data }], guard := none }) (v := .agg #[.int .u64 p.x0, .int .u64 p.x1, .int .u64 p.x2, .int .u64 p.x3]) rfl (by kernel_rfl) (by kernel_rfl) (by kernel_rfl) (fun _ _ _ h => h) (Or.inl ⟨by rfl, fun w0 hSw => ?_⟩) hH0 ?_
  · (have hS : W.grownBy w0 (some T3) := hSw; have a0 := hS.cell cp0 (fun e => ne5 (Option.some.inj e)); have a1 := hS.cell cp1 (fun e => ne5 (Option.some.inj e)); have a2 := hS.cell cp2 (fun e => ne5 (Option.some.inj e)); have a3 := hS.cell cp3 (fun e => ne5 (Option.some.inj e)); clear hS hSw; go_simp)
  simp only [Act.put, List.setIfInBounds_toArray, List.set_cons_zero, List.set_cons_succ]
  refine wpAnyH_take (i := 6) (oi := { dst := some 18, op := Op.load 25 (Operand.tmp 17), type := 25, pos := "msm.go:43", after := #[{ on := 5, ground := Ground.data }], guard := none }) (v := .agg #[.int .u64 k.x0, .int .u64 k.x1, .int .u64 k.x2, .int .u64 k.x3]) rfl (by kernel_rfl) (by kernel_rfl) (by kernel_rfl) (fun _ _ _ h => h) (Or.inl ⟨by rfl, fun w0 hSw => ?_⟩) hH0 ?_
  · (have hS : W.grownBy w0 (some T3) := hSw; have a0 := hS.cell ck0 (fun e => ne5 (Option.some.inj e)); have a1 := hS.cell ck1 (fun e => ne5 (Option.some.inj e)); have a2 := hS.cell ck2 (fun e => ne5 (Option.some.inj e)); have a3 := hS.cell ck3 (fun e => ne5 (Option.some.inj e)); clear hS hSw; go_simp)
  simp only [Act.put, List.setIfInBounds_toArray, List.set_cons_zero, List.set_cons_succ]
  refine wpAnyH_take (i := 4) (oi := { dst := some 16, op := Op.makeInterface 51 (Operand.tmp 15), type := 20, pos := "msm.go:43", after := #[{ on := 3, ground := Ground.data }], guard := none }) (v := .iface 51 (.agg #[.int .u64 p.x0, .int .u64 p.x1, .int .u64 p.x2, .int .u64 p.x3])) rfl (by kernel_rfl) (by kernel_rfl) (by kernel_rfl) (fun _ _ _ h => h) (Or.inl ⟨by rfl, fun w0 hSw => ?_⟩) hH0 ?_
  · (clear hSw; go_simp)
  simp only [Act.put, List.setIfInBounds_toArray, List.set_cons_zero, List.set_cons_succ]
  refine wpAnyH_ready (rs := [0, 7]) (by kernel_rfl) (by simp) ?_
  refine AllReadyH.cons (o := { dst := some 12, op := Op.load 51 (Operand.tmp 3), type := 51, pos := "msm.go:43", after := #[], guard := none }) rfl (fun K hK => ?_) (AllReadyH.cons (o := { dst := some 19, op := Op.call { callee := Callee.invoke (Operand.tmp 16) "Times", args := #[Operand.tmp 18], argTypes := #[25] }, type := 51, pos := "msm.go:43", after := #[{ on := 4, ground := Ground.data }, { on := 6, ground := Ground.data }], guard := none }) rfl (fun K hK => ?_) AllReadyH.nil)
  · have HH := hidden hH0
    clear hH0
    refine wp_load_mid 51 _ rfl T3 0 (by rfl) [.int .u64 z.x0, .int .u64 z.x1, .int .u64 z.x2, .int .u64 z.x3] _ RG.out Tryz.underlying51 rfl i4_L ?_
    simp only [Act.put, List.setIfInBounds_toArray, List.set_cons_zero, List.set_cons_succ]
    have SN := HH
    clear HH
    refine hK.out _ _ SN.out (fun hH1 => ?_)
    clear hK K SN
    refine wpAnyH_take (i := 1) (oi := { dst := some 13, op := Op.makeInterface 51 (Operand.tmp 12), type := 20, pos := "msm.go:43", after := #[{ on := 0, ground := Ground.data }], guard := none }) (v := .iface 51 (.agg #[.int .u64 z.x0, .int .u64 z.x1, .int .u64 z.x2, .int .u64 z.x3])) rfl (by kernel_rfl) (by kernel_rfl) (by kernel_rfl) (fun _ _ _ h => h) (Or.inl ⟨by rfl, fun w0 hSw => ?_⟩) hH1 ?_
    · (clear hSw; go_simp)
    simp only [Act.put, List.setIfInBounds_toArray, List.set_cons_zero, List.set_cons_succ]
    refine wpAnyH_ready (rs := [7]) (by kernel_rfl) (by simp) ?_
    refine AllReadyH.cons (o := { dst := some 19, op := Op.call { callee := Callee.invoke (Operand.tmp 16) "Times", args := #[Operand.tmp 18], argTypes := #[25] }, type := 51, pos := "msm.go:43", after := #[{ on := 4, ground := Ground.data }, { on := 6, ground := Ground.data }], guard := none }) rfl (fun K hK => ?_) AllReadyH.nil
    have HH := hidden hH1
    clear hH1
    go_simp
    refine (C7.out _ HH.out).mono ?_
    rintro e wn2 ⟨rfl, hb⟩
    replace RG := hidden (range_bl RG.out hb)
    replace TH := hidden (there_bl TH.out hb)
    have SN := hidden (HH.out.trans (gbI hb _))
    clear HH C7 hb
    go_wp2_with fail
    refine hK.out _ _ SN.out (fun hH2 => ?_)
    clear hK K SN
    refine wpAnyH_ready (rs := [8]) (by kernel_rfl) (by simp) ?_
    refine AllReadyH.cons (o := { dst := some 20, op := Op.call { callee := Callee.invoke (Operand.tmp 13) "Add", args := #[Operand.tmp 19], argTypes := #[51] }, type := 51, pos := "msm.go:43", after := #[{ on := 1, ground := Ground.data }, { on := 7, ground := Ground.data }, { on := 7, ground := Ground.chain }], guard := none }) rfl (fun K hK => ?_) AllReadyH.nil
    have HH := hidden hH2
    clear hH2
    go_simp
    refine (C8.out _ HH.out).mono ?_
    rintro e wn3 ⟨rfl, hb⟩
    replace RG := hidden (range_bl RG.out hb)
    replace TH := hidden (there_bl TH.out hb)
    have SN := hidden (HH.out.trans (gbI hb _))
    clear HH C8 hb
    go_wp2_with fail
    refine hK.out _ _ SN.out (fun hH3 => ?_)
    clear hK K SN
    refine wpAnyH_ready (rs := [9]) (by kernel_rfl) (by simp) ?_
    refine AllReadyH.cons (o := { dst := none, op := Op.store 51 (Operand.tmp 3) (Operand.tmp 20), type := 0, pos := "msm.go:43", after := #[{ on := 8, ground := Ground.data }, { on := 8, ground := Ground.chain }, { on := 0, ground := Ground.phase }, { on := 1, ground := Ground.phase }, { on := 2, ground := Ground.phase }, { on := 3, ground := Ground.phase }, { on := 4, ground := Ground.phase }, { on := 5, ground := Ground.phase }, { on := 6, ground := Ground.phase }, { on := 7, ground := Ground.phase }, { on := 8, ground := Ground.phase }], guard := none }) rfl (fun K hK => ?_) AllReadyH.nil
    have HH := hidden hH3
    clear hH3
    refine wp_storeE 51 _ _ rfl T3 0 ([.int .u64 r.x0, .int .u64 r.x1, .int .u64 r.x2, .int .u64 r.x3]) (by rfl) (by rfl) TH.out i4_L (one4 r) rfl (fun wn4 hw => ?_)
    have SN := hidden (HH.out.trans (gb_setCells T3 [.int .u64 r.x0, .int .u64 r.x1, .int .u64 r.x2, .int .u64 r.x3] 0 _))
    have FE := hidden ((⟨_, HH.out, TH.out, hw⟩ : ∃ wy, W.grownBy wy (some T3) ∧ wy.there T3 0 4 ∧ _ = wy.setCells T3 0 [.int .u64 r.x0, .int .u64 r.x1, .int .u64 r.x2, .int .u64 r.x3]))
    rw [← hw] at SN
    clear HH hw
    refine hK.out _ _ SN.out (fun hH4 => ?_)
    clear hK K SN
    have HH := hidden hH4
    have FQ := hidden (HQ.out _ FE.out)
    refine wpAnyH_done (by kernel_rfl) ?_ _
    refine NoPanic.normal ?_
    exact FQ.out
  · have HH := hidden hH0
    clear hH0
    go_simp
    refine (C7.out _ HH.out).mono ?_
    rintro e wn1 ⟨rfl, hb⟩
    replace RG := hidden (range_bl RG.out hb)
    replace TH := hidden (there_bl TH.out hb)
    have SN := hidden (HH.out.trans (gbI hb _))
    clear HH C7 hb
    go_wp2_with fail
    refine hK.out _ _ SN.out (fun hH1 => ?_)
    clear hK K SN
    refine wpAnyH_ready (rs := [0]) (by kernel_rfl) (by simp) ?_
    refine AllReadyH.cons (o := { dst := some 12, op := Op.load 51 (Operand.tmp 3), type := 51, pos := "msm.go:43", after := #[], guard := none }) rfl (fun K hK => ?_) AllReadyH.nil
    have HH := hidden hH1
    clear hH1
    refine wp_load_mid 51 _ rfl T3 0 (by rfl) [.int .u64 z.x0, .int .u64 z.x1, .int .u64 z.x2, .int .u64 z.x3] _ RG.out Tryz.underlying51 rfl i4_L ?_
    simp only [Act.put, List.setIfInBounds_toArray, List.set_cons_zero, List.set_cons_succ]
    have SN := HH
    clear HH
    refine hK.out _ _ SN.out (fun hH2 => ?_)
    clear hK K SN
    refine wpAnyH_take (i := 1) (oi := { dst := some 13, op := Op.makeInterface 51 (Operand.tmp 12), type := 20, pos := "msm.go:43", after := #[{ on := 0, ground := Ground.data }], guard := none }) (v := .iface 51 (.agg #[.int .u64 z.x0, .int .u64 z.x1, .int .u64 z.x2, .int .u64 z.x3])) rfl (by kernel_rfl) (by kernel_rfl) (by kernel_rfl) (fun _ _ _ h => h) (Or.inl ⟨by rfl, fun w0 hSw => ?_⟩) hH2 ?_
    · (clear hSw; go_simp)
    simp only [Act.put, List.setIfInBounds_toArray, List.set_cons_zero, List.set_cons_succ]
    refine wpAnyH_ready (rs := [8]) (by kernel_rfl) (by simp) ?_
    refine AllReadyH.cons (o := { dst := some 20, op := Op.call { callee := Callee.invoke (Operand.tmp 13) "Add", args := #[Operand.tmp 19], argTypes := #[51] }, type := 51, pos := "msm.go:43", after := #[{ on := 1, ground := Ground.data }, { on := 7, ground := Ground.data }, { on := 7, ground := Ground.chain }], guard := none }) rfl (fun K hK => ?_) AllReadyH.nil
    have HH := hidden hH2
    clear hH2
    go_simp
    refine (C8.out _ HH.out).mono ?_
    rintro e wn3 ⟨rfl, hb⟩
    replace RG := hidden (range_bl RG.out hb)
    replace TH := hidden (there_bl TH.out hb)
    have SN := hidden (HH.out.trans (gbI hb _))
    clear HH C8 hb
    go_wp2_with fail
    refine hK.out _ _ SN.out (fun hH3 => ?_)
    clear hK K SN
    refine wpAnyH_ready (rs := [9]) (by kernel_rfl) (by simp) ?_
    refine AllReadyH.cons (o := { dst := none, op := Op.store 51 (Operand.tmp 3) (Operand.tmp 20), type := 0, pos := "msm.go:43", after := #[{ on := 8, ground := Ground.data }, { on := 8, ground := Ground.chain }, { on := 0, ground := Ground.phase }, { on := 1, ground := Ground.phase }, { on := 2, ground := Ground.phase }, { on := 3, ground := Ground.phase }, { on := 4, ground := Ground.phase }, { on := 5, ground := Ground.phase }, { on := 6, ground := Ground.phase }, { on := 7, ground := Ground.phase }, { on := 8, ground := Ground.phase }], guard := none }) rfl (fun K hK => ?_) AllReadyH.nil
    have HH := hidden hH3
    clear hH3
    refine wp_storeE 51 _ _ rfl T3 0 ([.int .u64 r.x0, .int .u64 r.x1, .int .u64 r.x2, .int .u64 r.x3]) (by rfl) (by rfl) TH.out i4_L (one4 r) rfl (fun wn4 hw => ?_)
    have SN := hidden (HH.out.trans (gb_setCells T3 [.int .u64 r.x0, .int .u64 r.x1, .int .u64 r.x2, .int .u64 r.x3] 0 _))
    have FE := hidden ((⟨_, HH.out, TH.out, hw⟩ : ∃ wy, W.grownBy wy (some T3) ∧ wy.there T3 0 4 ∧ _ = wy.setCells T3 0 [.int .u64 r.x0, .int .u64 r.x1, .int .u64 r.x2, .int .u64 r.x3]))
    rw [← hw] at SN
    clear HH hw
    refine hK.out _ _ SN.out (fun hH4 => ?_)
    clear hK K SN
    have HH := hidden hH4
    have FQ := hidden (HQ.out _ FE.out)
    refine wpAnyH_done (by kernel_rfl) ?_ _
    refine NoPanic.normal ?_
    exact FQ.out
set_option maxRecDepth 100000 in
set_option maxHeartbeats 8000000 in
theorem plain1 (L lo cap : Nat) (k p u r : E4) (w : World) (hT : Tb w) (hk : k.ok) (hp : p.ok) (hu : u = lst (p.n * k.n)) (hr : r = lst (zero4.n + u.n)) (ck : w.rangeAt L lo [.int .u64 k.x0, .int .u64 k.x1, .int .u64 k.x2, .int .u64 k.x3]) (cp : w.rangeAt L (lo + 4) [.int .u64 p.x0, .int .u64 p.x1, .int .u64 p.x2, .int .u64 p.x3]) :
    Calls Tryz.prog 44 #[.slice (some ⟨L, lo, none⟩) 1 cap] w fun e w' => e = .returned (.agg #[.int .u64 r.x0, .int .u64 r.x1, .int .u64 r.x2, .int .u64 r.x3]) ∧ Below w.heap.size w w' := by
  have B2 := bl_alloc2 w (.cells #[.int .u64 0, .int .u64 0, .int .u64 0, .int .u64 0] 51) (.cells #[.int .u64 0, .int .u64 0, .int .u64 0, .int .u64 0] 51)
  have a0 : ((w.alloc (.cells #[.int .u64 0, .int .u64 0, .int .u64 0, .int .u64 0] 51)).alloc (.cells #[.int .u64 0, .int .u64 0, .int .u64 0, .int .u64 0] 51)).cell? ⟨w.heap.size, 0, none⟩ = some (.int .u64 0) := by go_simp
  have z0 : ((w.alloc (.cells #[.int .u64 0, .int .u64 0, .int .u64 0, .int .u64 0] 51)).alloc (.cells #[.int .u64 0, .int .u64 0, .int .u64 0, .int .u64 0] 51)).frozen? ⟨w.heap.size, 0, none⟩ = false := by go_simp
  have b0 : ((w.alloc (.cells #[.int .u64 0, .int .u64 0, .int .u64 0, .int .u64 0] 51)).alloc (.cells #[.int .u64 0, .int .u64 0, .int .u64 0, .int .u64 0] 51)).cell? ⟨w.heap.size + 1, 0, none⟩ = some (.int .u64 0) := by go_simp
  have y0 : ((w.alloc (.cells #[.int .u64 0, .int .u64 0, .int .u64 0, .int .u64 0] 51)).alloc (.cells #[.int .u64 0, .int .u64 0, .int .u64 0, .int .u64 0] 51)).frozen? ⟨w.heap.size + 1, 0, none⟩ = false := by go_simp
  have a1 : ((w.alloc (.cells #[.int .u64 0, .int .u64 0, .int .u64 0, .int .u64 0] 51)).alloc (.cells #[.int .u64 0, .int .u64 0, .int .u64 0, .int .u64 0] 51)).cell? ⟨w.heap.size, 1, none⟩ = some (.int .u64 0) := by go_simp
  have z1 : ((w.alloc (.cells #[.int .u64 0, .int .u64 0, .int .u64 0, .int .u64 0] 51)).alloc (.cells #[.int .u64 0, .int .u64 0, .int .u64 0, .int .u64 0] 51)).frozen? ⟨w.heap.size, 1, none⟩ = false := by go_simp
  have b1 : ((w.alloc (.cells #[.int .u64 0, .int .u64 0, .int .u64 0, .int .u64 0] 51)).alloc (.cells #[.int .u64 0, .int .u64 0, .int .u64 0, .int .u64 0] 51)).cell? ⟨w.heap.size + 1, 1, none⟩ = some (.int .u64 0) := by go_simp
  have y1 : ((w.alloc (.cells #[.int .u64 0, .int .u64 0, .int .u64 0, .int .u64 0] 51)).alloc (.cells #[.int .u64 0, .int .u64 0, .int .u64 0, .int .u64 0] 51)).frozen? ⟨w.heap.size + 1, 1, none⟩ = false := by go_simp
  have a2 : ((w.alloc (.cells #[.int .u64 0, .int .u64 0, .int .u64 0, .int .u64 0] 51)).alloc (.cells #[.int .u64 0, .int .u64 0, .int .u64 0, .int .u64 0] 51)).cell? ⟨w.heap.size, 2, none⟩ = some (.int .u64 0) := by go_simp
  have z2 : ((w.alloc (.cells #[.int .u64 0, .int .u64 0, .int .u64 0, .int .u64 0] 51)).alloc (.cells #[.int .u64 0, .int .u64 0, .int .u64 0, .int .u64 0] 51)).frozen? ⟨w.heap.size, 2, none⟩ = false := by go_simp
  have b2 : ((w.alloc (.cells #[.int .u64 0, .int .u64 0, .int .u64 0, .int .u64 0] 51)).alloc (.cells #[.int .u64 0, .int .u64 0, .int .u64 0, .int .u64 0] 51)).cell? ⟨w.heap.size + 1, 2, none⟩ = some (.int .u64 0) := by go_simp
  have y2 : ((w.alloc (.cells #[.int .u64 0, .int .u64 0, .int .u64 0, .int .u64 0] 51)).alloc (.cells #[.int .u64 0, .int .u64 0, .int .u64 0, .int .u64 0] 51)).frozen? ⟨w.heap.size + 1, 2, none⟩ = false := by go_simp
  have a3 : ((w.alloc (.cells #[.int .u64 0, .int .u64 0, .int .u64 0, .int .u64 0] 51)).alloc (.cells #[.int .u64 0, .int .u64 0, .int .u64 0, .int .u64 0] 51)).cell? ⟨w.heap.size, 3, none⟩ = some (.int .u64 0) := by go_simp
  have z3 : ((w.alloc (.cells #[.int .u64 0, .int .u64 0, .int .u64 0, .int .u64 0] 51)).alloc (.cells #[.int .u64 0, .int .u64 0, .int .u64 0, .int .u64 0] 51)).frozen? ⟨w.heap.size, 3, none⟩ = false := by go_simp
  have b3 : ((w.alloc (.cells #[.int .u64 0, .int .u64 0, .int .u64 0, .int .u64 0] 51)).alloc (.cells #[.int .u64 0, .int .u64 0, .int .u64 0, .int .u64 0] 51)).cell? ⟨w.heap.size + 1, 3, none⟩ = some (.int .u64 0) := by go_simp
  have y3 : ((w.alloc (.cells #[.int .u64 0, .int .u64 0, .int .u64 0, .int .u64 0] 51)).alloc (.cells #[.int .u64 0, .int .u64 0, .int .u64 0, .int .u64 0] 51)).frozen? ⟨w.heap.size + 1, 3, none⟩ = false := by go_simp
  have SZ : Hid (((w.alloc (.cells #[.int .u64 0, .int .u64 0, .int .u64 0, .int .u64 0] 51)).alloc (.cells #[.int .u64 0, .int .u64 0, .int .u64 0, .int .u64 0] 51)).heap.size = w.heap.size + 1 + 1) := hidden (by simp only [World.size_alloc])
  have k0 : ((w.alloc (.cells #[.int .u64 0, .int .u64 0, .int .u64 0, .int .u64 0] 51)).alloc (.cells #[.int .u64 0, .int .u64 0, .int .u64 0, .int .u64 0] 51)).cell? ⟨L, lo, none⟩ = some (.int .u64 k.x0) := cell_keep (ck 0 _ rfl) B2
  have k1 : ((w.alloc (.cells #[.int .u64 0, .int .u64 0, .int .u64 0, .int .u64 0] 51)).alloc (.cells #[.int .u64 0, .int .u64 0, .int .u64 0, .int .u64 0] 51)).cell? ⟨L, lo + 1, none⟩ = some (.int .u64 k.x1) := cell_keep (ck 1 _ rfl) B2
  have k2 : ((w.alloc (.cells #[.int .u64 0, .int .u64 0, .int .u64 0, .int .u64 0] 51)).alloc (.cells #[.int .u64 0, .int .u64 0, .int .u64 0, .int .u64 0] 51)).cell? ⟨L, lo + 2, none⟩ = some (.int .u64 k.x2) := cell_keep (ck 2 _ rfl) B2
  have k3 : ((w.alloc (.cells #[.int .u64 0, .int .u64 0, .int .u64 0, .int .u64 0] 51)).alloc (.cells #[.int .u64 0, .int .u64 0, .int .u64 0, .int .u64 0] 51)).cell? ⟨L, lo + 3, none⟩ = some (.int .u64 k.x3) := cell_keep (ck 3 _ rfl) B2
  have p0 : ((w.alloc (.cells #[.int .u64 0, .int .u64 0, .int .u64 0, .int .u64 0] 51)).alloc (.cells #[.int .u64 0, .int .u64 0, .int .u64 0, .int .u64 0] 51)).cell? ⟨L, lo + 4, none⟩ = some (.int .u64 p.x0) := cell_keep (cp 0 _ rfl) B2
  have p1 : ((w.alloc (.cells #[.int .u64 0, .int .u64 0, .int .u64 0, .int .u64 0] 51)).alloc (.cells #[.int .u64 0, .int .u64 0, .int .u64 0, .int .u64 0] 51)).cell? ⟨L, lo + 5, none⟩ = some (.int .u64 p.x1) := cell_keep (cp 1 _ rfl) B2
  have p2 : ((w.alloc (.cells #[.int .u64 0, .int .u64 0, .int .u64 0, .int .u64 0] 51)).alloc (.cells #[.int .u64 0, .int .u64 0, .int .u64 0, .int .u64 0] 51)).cell? ⟨L, lo + 6, none⟩ = some (.int .u64 p.x2) := cell_keep (cp 2 _ rfl) B2
  have p3 : ((w.alloc (.cells #[.int .u64 0, .int .u64 0, .int .u64 0, .int .u64 0] 51)).alloc (.cells #[.int .u64 0, .int .u64 0, .int .u64 0, .int .u64 0] 51)).cell? ⟨L, lo + 7, none⟩ = some (.int .u64 p.x3) := cell_keep (cp 3 _ rfl) B2
  have RG : Hid (((w.alloc (.cells #[.int .u64 0, .int .u64 0, .int .u64 0, .int .u64 0] 51)).alloc (.cells #[.int .u64 0, .int .u64 0, .int .u64 0, .int .u64 0] 51)).rangeAt (w.heap.size + 1) 0 [.int .u64 (⟨0, 0, 0, 0⟩ : E4).x0, .int .u64 (⟨0, 0, 0, 0⟩ : E4).x1, .int .u64 (⟨0, 0, 0, 0⟩ : E4).x2, .int .u64 (⟨0, 0, 0, 0⟩ : E4).x3] ∧ ((w.alloc (.cells #[.int .u64 0, .int .u64 0, .int .u64 0, .int .u64 0] 51)).alloc (.cells #[.int .u64 0, .int .u64 0, .int .u64 0, .int .u64 0] 51)).there (w.heap.size + 1) 0 4) := hidden (by
    have q : ((w.alloc (.cells #[.int .u64 0, .int .u64 0, .int .u64 0, .int .u64 0] 51)).alloc (.cells #[.int .u64 0, .int .u64 0, .int .u64 0, .int .u64 0] 51)).rangeAt (w.heap.size + 1) 0 [.int .u64 (⟨0, 0, 0, 0⟩ : E4).x0, .int .u64 (⟨0, 0, 0, 0⟩ : E4).x1, .int .u64 (⟨0, 0, 0, 0⟩ : E4).x2, .int .u64 (⟨0, 0, 0, 0⟩ : E4).x3] := range4 (p := (⟨0, 0, 0, 0⟩ : E4)) b0 b1 b2 b3
    refine ⟨q, there4 q (fun j hj => ?_)⟩
    match j, hj with
    | 0, _ => exact y0
    | 1, _ => exact y1
    | 2, _ => exact y2
    | 3, _ => exact y3)
  have ZR : Hid (((w.alloc (.cells #[.int .u64 0, .int .u64 0, .int .u64 0, .int .u64 0] 51)).alloc (.cells #[.int .u64 0, .int .u64 0, .int .u64 0, .int .u64 0] 51)).rangeAt (w.heap.size) 0 [.int .u64 (⟨0, 0, 0, 0⟩ : E4).x0, .int .u64 (⟨0, 0, 0, 0⟩ : E4).x1, .int .u64 (⟨0, 0, 0, 0⟩ : E4).x2, .int .u64 (⟨0, 0, 0, 0⟩ : E4).x3] ∧ ((w.alloc (.cells #[.int .u64 0, .int .u64 0, .int .u64 0, .int .u64 0] 51)).alloc (.cells #[.int .u64 0, .int .u64 0, .int .u64 0, .int .u64 0] 51)).there (w.heap.size) 0 4) := hidden (by
    have q : ((w.alloc (.cells #[.int .u64 0, .int .u64 0, .int .u64 0, .int .u64 0] 51)).alloc (.cells #[.int .u64 0, .int .u64 0, .int .u64 0, .int .u64 0] 51)).rangeAt (w.heap.size) 0 [.int .u64 (⟨0, 0, 0, 0⟩ : E4).x0, .int .u64 (⟨0, 0, 0, 0⟩ : E4).x1, .int .u64 (⟨0, 0, 0, 0⟩ : E4).x2, .int .u64 (⟨0, 0, 0, 0⟩ : E4).x3] := range4 (p := (⟨0, 0, 0, 0⟩ : E4)) a0 a1 a2 a3
    refine ⟨q, there4 q (fun j hj => ?_)⟩
    match j, hj with
    | 0, _ => exact z0
    | 1, _ => exact z1
    | 2, _ => exact z2
    | 3, _ => exact z3)
  have HT := hidden hT
  have HO : Hid (k.ok ∧ p.ok ∧ u = lst (p.n * k.n) ∧ r = lst (zero4.n + u.n)) := hidden ⟨hk, hp, hu, hr⟩
  clear hT hk hp hu hr ck cp a0 a1 a2 a3 b0 b1 b2 b3 z0 z1 z2 z3 y0 y1 y2 y3
  go_enter Tryz.func44, Tryz.ntmps44
  go_upto_region 2 with fail
  generalize ((w.alloc (.cells #[.int .u64 0, .int .u64 0, .int .u64 0, .int .u64 0] 51)).alloc (.cells #[.int .u64 0, .int .u64 0, .int .u64 0, .int .u64 0] 51)) = w2 at *
  go_wp2_with fail
  go_loopw [8] (fun iv w' => ∃ i : Nat, (i = 0 ∧ w' = w2 ∨ i = 1 ∧ Hid (w'.rangeAt (w.heap.size + 1) 0 [.int .u64 r.x0, .int .u64 r.x1, .int .u64 r.x2, .int .u64 r.x3] ∧ w'.rangeAt (w.heap.size) 0 [.int .u64 (⟨0, 0, 0, 0⟩ : E4).x0, .int .u64 (⟨0, 0, 0, 0⟩ : E4).x1, .int .u64 (⟨0, 0, 0, 0⟩ : E4).x2, .int .u64 (⟨0, 0, 0, 0⟩ : E4).x3] ∧ w'.there (w.heap.size) 0 4 ∧ Below w.heap.size w w')) ∧ iv = .int .i64 i) (fun i _ => 1 - (intOf i).toNat)
  case atStart => exact ⟨0, .inl ⟨rfl, rfl⟩, rfl⟩
  case round =>
    obtain ⟨i, ⟨rfl, rfl⟩ | ⟨rfl, hP⟩, rfl⟩ := hrel
    · have BN := bl_alloc wr (.cells #[.int .u64 k.x0, .int .u64 k.x1, .int .u64 k.x2, .int .u64 k.x3, .int .u64 p.x0, .int .u64 p.x1, .int .u64 p.x2, .int .u64 p.x3] 93)
      have g0 : (wr.alloc (.cells #[.int .u64 k.x0, .int .u64 k.x1, .int .u64 k.x2, .int .u64 k.x3, .int .u64 p.x0, .int .u64 p.x1, .int .u64 p.x2, .int .u64 p.x3] 93)).cell? ⟨wr.heap.size, 0, none⟩ = some (.int .u64 k.x0) := by go_simp
      have g1 : (wr.alloc (.cells #[.int .u64 k.x0, .int .u64 k.x1, .int .u64 k.x2, .int .u64 k.x3, .int .u64 p.x0, .int .u64 p.x1, .int .u64 p.x2, .int .u64 p.x3] 93)).cell? ⟨wr.heap.size, 1, none⟩ = some (.int .u64 k.x1) := by go_simp
      have g2 : (wr.alloc (.cells #[.int .u64 k.x0, .int .u64 k.x1, .int .u64 k.x2, .int .u64 k.x3, .int .u64 p.x0, .int .u64 p.x1, .int .u64 p.x2, .int .u64 p.x3] 93)).cell? ⟨wr.heap.size, 2, none⟩ = some (.int .u64 k.x2) := by go_simp
      have g3 : (wr.alloc (.cells #[.int .u64 k.x0, .int .u64 k.x1, .int .u64 k.x2, .int .u64 k.x3, .int .u64 p.x0, .int .u64 p.x1, .int .u64 p.x2, .int .u64 p.x3] 93)).cell? ⟨wr.heap.size, 3, none⟩ = some (.int .u64 k.x3) := by go_simp
      have g4 : (wr.alloc (.cells #[.int .u64 k.x0, .int .u64 k.x1, .int .u64 k.x2, .int .u64 k.x3, .int .u64 p.x0, .int .u64 p.x1, .int .u64 p.x2, .int .u64 p.x3] 93)).cell? ⟨wr.heap.size, 4, none⟩ = some (.int .u64 p.x0) := by go_simp
      have g5 : (wr.alloc (.cells #[.int .u64 k.x0, .int .u64 k.x1, .int .u64 k.x2, .int .u64 k.x3, .int .u64 p.x0, .int .u64 p.x1, .int .u64 p.x2, .int .u64 p.x3] 93)).cell? ⟨wr.heap.size, 5, none⟩ = some (.int .u64 p.x1) := by go_simp
      have g6 : (wr.alloc (.cells #[.int .u64 k.x0, .int .u64 k.x1, .int .u64 k.x2, .int .u64 k.x3, .int .u64 p.x0, .int .u64 p.x1, .int .u64 p.x2, .int .u64 p.x3] 93)).cell? ⟨wr.heap.size, 6, none⟩ = some (.int .u64 p.x2) := by go_simp
      have g7 : (wr.alloc (.cells #[.int .u64 k.x0, .int .u64 k.x1, .int .u64 k.x2, .int .u64 k.x3, .int .u64 p.x0, .int .u64 p.x1, .int .u64 p.x2, .int .u64 p.x3] 93)).cell? ⟨wr.heap.size, 7, none⟩ = some (.int .u64 p.x3) := by go_simp
      go_upto_region 5 with fail
      have SZ1 := SZ.out
      have RG2 := range_bl RG.out.1 BN
      have TH2 := there_bl RG.out.2 BN
      have SN2 : (wr.alloc (.cells #[.int .u64 k.x0, .int .u64 k.x1, .int .u64 k.x2, .int .u64 k.x3, .int .u64 p.x0, .int .u64 p.x1, .int .u64 p.x2, .int .u64 p.x3] 93)).heap.size = wr.heap.size + 1 := by simp only [World.size_alloc]
      have ZR2 := And.intro (range_bl ZR.out.1 BN) (there_bl ZR.out.2 BN)
      have B3 := bl_trans B2 BN
      generalize (wr.alloc (.cells #[.int .u64 k.x0, .int .u64 k.x1, .int .u64 k.x2, .int .u64 k.x3, .int .u64 p.x0, .int .u64 p.x1, .int .u64 p.x2, .int .u64 p.x3] 93)) = w3 at *
      have AL : ∀ x, w3.grownBy x (some (w.heap.size + 1)) → Below w.heap.size w x := fun x hx => B3.grown hx B3.size (fun j hj => by obtain rfl := Option.some.inj hj; omega)
      obtain ⟨hk, hp, hu, hr⟩ := HO.out
      have C7 := hidden (fun x (hx : w3.grownBy x (some (w.heap.size + 1))) => lTimes_any p k hp hk x (HT.out.keep (AL x hx)))
      have C8 := hidden (fun x (hx : w3.grownBy x (some (w.heap.size + 1))) => lAdd_any zero4 u z4ok (hu ▸ lst_ok _) x (HT.out.keep (AL x hx)))
      rw [← hu] at C7
      rw [← hr] at C8
      refine pl5 _ (w.heap.size + 1) wr.heap.size (⟨0, 0, 0, 0⟩ : E4) k p u r _ _ _ _ _ _ _ _ _ _ _ _ _ _ _ _ _ _ _ _ _ w3 (by omega) RG2 TH2 g0 g1 g2 g3 g4 g5 g6 g7 mt_Times mt_Add C7 C8 (hidden ?_)
      intro wz hz
      have PN : Hid (wz.rangeAt (w.heap.size + 1) 0 [.int .u64 r.x0, .int .u64 r.x1, .int .u64 r.x2, .int .u64 r.x3] ∧ wz.rangeAt (w.heap.size) 0 [.int .u64 (⟨0, 0, 0, 0⟩ : E4).x0, .int .u64 (⟨0, 0, 0, 0⟩ : E4).x1, .int .u64 (⟨0, 0, 0, 0⟩ : E4).x2, .int .u64 (⟨0, 0, 0, 0⟩ : E4).x3] ∧ wz.there (w.heap.size) 0 4 ∧ Below w.heap.size w wz) := hidden (by
        obtain ⟨wy, hy, hty, rfl⟩ := hz
        have g := gb_setCells (w.heap.size + 1) [.int .u64 r.x0, .int .u64 r.x1, .int .u64 r.x2, .int .u64 r.x3] 0 wy
        exact ⟨World.rangeAt_setCells_same wy (w.heap.size + 1) 0 [.int .u64 r.x0, .int .u64 r.x1, .int .u64 r.x2, .int .u64 r.x3] hty, range_gb (range_gb ZR2.1 hy (by omega)) g (by omega), there_gb (there_gb ZR2.2 hy (by omega)) g (by omega), (AL wy hy).grown g (AL wy hy).size (fun j hj => by obtain rfl := Option.some.inj hj; omega)⟩)
      clear C7 C8 RG2 TH2 ZR2 AL hz g0 g1 g2 g3 g4 g5 g6 g7
      go_wp2_with fail
      go_roundw
      case rel => exact ⟨1, .inr ⟨rfl, PN⟩, by go_num⟩
      case measure => simp [intOf]
    · obtain ⟨q1, q2, q3, q4⟩ := hP.out
      have s0 : wr.cell? ⟨w.heap.size + 1, 0, none⟩ = some (.int .u64 r.x0) := q1 0 _ rfl
      have s1 : wr.cell? ⟨w.heap.size + 1, 1, none⟩ = some (.int .u64 r.x1) := q1 1 _ rfl
      have s2 : wr.cell? ⟨w.heap.size + 1, 2, none⟩ = some (.int .u64 r.x2) := q1 2 _ rfl
      have s3 : wr.cell? ⟨w.heap.size + 1, 3, none⟩ = some (.int .u64 r.x3) := q1 3 _ rfl
      have t0 : wr.cell? ⟨w.heap.size, 0, none⟩ = some (.int .u64 0) := q2 0 _ rfl
      have t1 : wr.cell? ⟨w.heap.size, 1, none⟩ = some (.int .u64 0) := q2 1 _ rfl
      have t2 : wr.cell? ⟨w.heap.size, 2, none⟩ = some (.int .u64 0) := q2 2 _ rfl
      have t3 : wr.cell? ⟨w.heap.size, 3, none⟩ = some (.int .u64 0) := q2 3 _ rfl
      have v0 : wr.frozen? ⟨w.heap.size, 0, none⟩ = false := (q3 0 (by omega)).2
      have v1 : wr.frozen? ⟨w.heap.size, 1, none⟩ = false := (q3 1 (by omega)).2
      have v2 : wr.frozen? ⟨w.heap.size, 2, none⟩ = false := (q3 2 (by omega)).2
      have v3 : wr.frozen? ⟨w.heap.size, 3, none⟩ = false := (q3 3 (by omega)).2
      have Q4 := hidden q4
      clear q1 q2 q3 q4
      go_wp2_with fail
      refine bodyPost_ret (v := .agg #[.int .u64 r.x0, .int .u64 r.x1, .int .u64 r.x2, .int .u64 r.x3]) (by simp [results, Tryz.results44, go_sem, t0, t1, t2, t3]) rfl ⟨rfl, (((Q4.out.setCell (Nat.le_refl _) _).setCell (Nat.le_refl _) _).setCell (Nat.le_refl _) _).setCell (Nat.le_refl _) _⟩
set_option maxRecDepth 100000 in
set_option maxHeartbeats 8000000 in
theorem total1 (L lo cap : Nat) (k p u r : E4) (w : World) (hT : Tb w) (hk : k.ok) (hp : p.ok) (hu : u = lst (p.n * k.n)) (hr : r = lst (zero4.n + u.n)) (ck : w.rangeAt L lo [.int .u64 k.x0, .int .u64 k.x1, .int .u64 k.x2, .int .u64 k.x3]) (cp : w.rangeAt L (lo + 4) [.int .u64 p.x0, .int .u64 p.x1, .int .u64 p.x2, .int .u64 p.x3]) :
    Calls Tryz.prog 37 #[.slice (some ⟨L, lo, none⟩) 1 cap] w fun e w' => e = .returned (.agg #[.int .u64 r.x0, .int .u64 r.x1, .int .u64 r.x2, .int .u64 r.x3]) ∧ Below w.heap.size w w' := by
  have B1 := bl_alloc w (.cells #[.int .u64 0, .int .u64 0, .int .u64 0, .int .u64 0] 51)
  have a0 : (w.alloc (.cells #[.int .u64 0, .int .u64 0, .int .u64 0, .int .u64 0] 51)).cell? ⟨w.heap.size, 0, none⟩ = some (.int .u64 0) := by go_simp
  have z0 : (w.alloc (.cells #[.int .u64 0, .int .u64 0, .int .u64 0, .int .u64 0] 51)).frozen? ⟨w.heap.size, 0, none⟩ = false := by go_simp
  have a1 : (w.alloc (.cells #[.int .u64 0, .int .u64 0, .int .u64 0, .int .u64 0] 51)).cell? ⟨w.heap.size, 1, none⟩ = some (.int .u64 0) := by go_simp
  have z1 : (w.alloc (.cells #[.int .u64 0, .int .u64 0, .int .u64 0, .int .u64 0] 51)).frozen? ⟨w.heap.size, 1, none⟩ = false := by go_simp
  have a2 : (w.alloc (.cells #[.int .u64 0, .int .u64 0, .int .u64 0, .int .u64 0] 51)).cell? ⟨w.heap.size, 2, none⟩ = some (.int .u64 0) := by go_simp
  have z2 : (w.alloc (.cells #[.int .u64 0, .int .u64 0, .int .u64 0, .int .u64 0] 51)).frozen? ⟨w.heap.size, 2, none⟩ = false := by go_simp
  have a3 : (w.alloc (.cells #[.int .u64 0, .int .u64 0, .int .u64 0, .int .u64 0] 51)).cell? ⟨w.heap.size, 3, none⟩ = some (.int .u64 0) := by go_simp
  have z3 : (w.alloc (.cells #[.int .u64 0, .int .u64 0, .int .u64 0, .int .u64 0] 51)).frozen? ⟨w.heap.size, 3, none⟩ = false := by go_simp
  have SM := hidden (plain1 L lo cap k p u r (w.alloc (.cells #[.int .u64 0, .int .u64 0, .int .u64 0, .int .u64 0] 51)) (hT.keep B1) hk hp hu hr (range_bl ck B1) (range_bl cp B1))
  clear hT hk hp hu hr ck cp
  go_enter Tryz.func37, Tryz.ntmps37
  go_upto_region 1 with fail
  generalize (w.alloc (.cells #[.int .u64 0, .int .u64 0, .int .u64 0, .int .u64 0] 51)) = w1 at *
  go_wp2_with (first | (go_at_call 44; refine SM.out.mono ?_; rintro e wc ⟨rfl, hc⟩; have lt := World.block_lt_of_cell? _ _ a0; have c0 := cell_keep a0 hc; have c1 := cell_keep a1 hc; have c2 := cell_keep a2 hc; have c3 := cell_keep a3 hc; have y0 := ((bcell hc).2 _ 0 lt).trans z0; have y1 := ((bcell hc).2 _ 1 lt).trans z1; have y2 := ((bcell hc).2 _ 2 lt).trans z2; have y3 := ((bcell hc).2 _ 3 lt).trans z3; have HX := hidden hc; clear hc SM lt a0 a1 a2 a3 z0 z1 z2 z3))
  refine bodyPost_ret (v := .agg #[.int .u64 r.x0, .int .u64 r.x1, .int .u64 r.x2, .int .u64 r.x3]) (by simp [results, Tryz.results37, go_sem, c0, c1, c2, c3]) rfl ⟨rfl, ((((bl_trans B1 HX.out).setCell (Nat.le_refl _) _).setCell (Nat.le_refl _) _).setCell (Nat.le_refl _) _).setCell (Nat.le_refl _) _⟩
end Go.Proofs.YtapieajkmpnmoaaGreatDoor.Li
namespace Go.Proofs.YtapieajkmpnmoaaGreatDoor.Li
open Go.RowKit
set_option linter.unusedVariables false
theorem made1 (w : World) (t : TypeId) : (w.alloc (.cells (madeCells #[.int .u64 0, .int .u64 0, .int .u64 0, .int .u64 0] 4) t)).rangeAt w.heap.size 0 [.int .u64 (⟨0, 0, 0, 0⟩ : E4).x0, .int .u64 (⟨0, 0, 0, 0⟩ : E4).x1, .int .u64 (⟨0, 0, 0, 0⟩ : E4).x2, .int .u64 (⟨0, 0, 0, 0⟩ : E4).x3] ∧ (w.alloc (.cells (madeCells #[.int .u64 0, .int .u64 0, .int .u64 0, .int .u64 0] 4) t)).there w.heap.size 0 4 := by
  have h := Rm.made w 1 t
  rw [Nat.one_mul] at h
  have q := Rm.range h (show 0 < 1 by omega)
  exact ⟨q, there4 q (fun j hj => h.fr _ (by omega))⟩
set_option maxRecDepth 100000 in
set_option maxHeartbeats 8000000 in
theorem first1 (R I g cR cI cn cx : Nat) (Px : Option Addr) (ks gs : Nat → E4) (u r : E4) (w : World) (hT : Tb w) (hl : Lm w Px 1 ks) (ok : (ks 0).ok) (og : (gs 0).ok) (hr : w.cell? ⟨R, 0, none⟩ = some (.slice (some ⟨g, 0, none⟩) 1 cn)) (hg : Rl w g 0 1 gs) (hu : u = lst ((gs 0).n * (ks 0).n)) (hrr : r = lst (zero4.n + u.n)) :
    Calls Tryz.prog 23 #[.agg #[.slice (some ⟨R, 0, none⟩) 1 cR, .slice (some ⟨I, 0, none⟩) 1 cI, .int .u64 0, .int .u64 0, .int .u64 0, .int .u64 0, .slice Px 1 cx]] w fun e w' => ∃ D : Nat, e = .returned (.slice (some ⟨D, 0, none⟩) 1 1) ∧ w.heap.size ≤ D ∧ w'.rangeAt D 0 [.int .u64 r.x0, .int .u64 r.x1, .int .u64 r.x2, .int .u64 r.x3] ∧ Below w.heap.size w w' := by
  obtain ⟨i0, hi, hz0, hz1, hz2⟩ := info_parts linfo
  have hmk := fun w => run_make (P := Tryz.prog) w 46 51 i0 (.agg #[.int .u64 0, .int .u64 0, .int .u64 0, .int .u64 0]) (by kernel_rfl) hi hz0 .i64 .i64 1 1 (by omega) (Int.le_refl _) (by rw [hz2]; omega) (by omega)
  simp only [show ((1 : Int)).toNat = 1 from rfl, hz1, Value.cells, Nat.one_mul] at hmk
  clear hi hz0 hz1 hz2
  have B1 := bl_alloc w (.cells #[.slice (some ⟨R, 0, none⟩) 1 cR, .slice (some ⟨I, 0, none⟩) 1 cI, .int .u64 0, .int .u64 0, .int .u64 0, .int .u64 0, .slice Px 1 cx] 70)
  have B2 := bl_trans B1 (bl_alloc (w.alloc (.cells #[.slice (some ⟨R, 0, none⟩) 1 cR, .slice (some ⟨I, 0, none⟩) 1 cI, .int .u64 0, .int .u64 0, .int .u64 0, .int .u64 0, .slice Px 1 cx] 70)) (.cells (madeCells #[.int .u64 0, .int .u64 0, .int .u64 0, .int .u64 0] 4) 51))
  have e0 : ((w.alloc (.cells #[.slice (some ⟨R, 0, none⟩) 1 cR, .slice (some ⟨I, 0, none⟩) 1 cI, .int .u64 0, .int .u64 0, .int .u64 0, .int .u64 0, .slice Px 1 cx] 70)).alloc (.cells (madeCells #[.int .u64 0, .int .u64 0, .int .u64 0, .int .u64 0] 4) 51)).cell? ⟨w.heap.size, 0, none⟩ = some (.slice (some ⟨R, 0, none⟩) 1 cR) := cell_keep (by go_simp) (bl_alloc _ _)
  have e6 : ((w.alloc (.cells #[.slice (some ⟨R, 0, none⟩) 1 cR, .slice (some ⟨I, 0, none⟩) 1 cI, .int .u64 0, .int .u64 0, .int .u64 0, .int .u64 0, .slice Px 1 cx] 70)).alloc (.cells (madeCells #[.int .u64 0, .int .u64 0, .int .u64 0, .int .u64 0] 4) 51)).cell? ⟨w.heap.size, 6, none⟩ = some (.slice Px 1 cx) := cell_keep (by go_simp) (bl_alloc _ _)
  have M1 := made1 (w.alloc (.cells #[.slice (some ⟨R, 0, none⟩) 1 cR, .slice (some ⟨I, 0, none⟩) 1 cI, .int .u64 0, .int .u64 0, .int .u64 0, .int .u64 0, .slice Px 1 cx] 70)) 51
  simp only [World.size_alloc] at M1
  have HM := hidden M1
  have rr := cell_keep hr B2
  have SZ2 : Hid (((w.alloc (.cells #[.slice (some ⟨R, 0, none⟩) 1 cR, .slice (some ⟨I, 0, none⟩) 1 cI, .int .u64 0, .int .u64 0, .int .u64 0, .int .u64 0, .slice Px 1 cx] 70)).alloc (.cells (madeCells #[.int .u64 0, .int .u64 0, .int .u64 0, .int .u64 0] 4) 51)).heap.size = w.heap.size + 1 + 1) := hidden (by simp only [World.size_alloc])
  clear M1
  go_enter Tryz.func23, Tryz.ntmps23
  go_upto_region 2 with fail
  generalize ((w.alloc (.cells #[.slice (some ⟨R, 0, none⟩) 1 cR, .slice (some ⟨I, 0, none⟩) 1 cI, .int .u64 0, .int .u64 0, .int .u64 0, .int .u64 0, .slice Px 1 cx] 70)).alloc (.cells (madeCells #[.int .u64 0, .int .u64 0, .int .u64 0, .int .u64 0] 4) 51)) = w2 at *
  clear hmk
  have ZC := hidden (zip_any Px g 1 cx cn ks gs w2 (by omega) (hl.keep B2) (hg.keep B2))
  have TC := hidden (fun (x : World) (t cap : Nat) (hx : Below w2.heap.size w2 x) (h : x.rowIs t 93 (1 * 8) (tvl ks gs)) => total1 t 0 cap (ks 0) (gs 0) u r x (hT.keep (bl_trans B2 hx)) ok og hu hrr (range4 (by rw [h.cell (by omega)]; exact congrArg some (tvl0 ks gs 0)) (by rw [h.cell (by omega)]; exact congrArg some (tvl1 ks gs 0)) (by rw [h.cell (by omega)]; exact congrArg some (tvl2 ks gs 0)) (by rw [h.cell (by omega)]; exact congrArg some (tvl3 ks gs 0))) (range4 (by rw [h.cell (by omega)]; exact congrArg some (tvl4 ks gs 0)) (by rw [h.cell (by omega)]; exact congrArg some (tvl5 ks gs 0)) (by rw [h.cell (by omega)]; exact congrArg some (tvl6 ks gs 0)) (by rw [h.cell (by omega)]; exact congrArg some (tvl7 ks gs 0))))
  have HB2 := hidden B2
  clear hT hl ok og hr hg hu hrr
  go_wp2_with fail
  go_loopw [17] (fun iv w' => ∃ i : Nat, (i = 0 ∧ w' = w2 ∨ i = 1 ∧ Hid (w'.rangeAt (w.heap.size + 1) 0 [.int .u64 r.x0, .int .u64 r.x1, .int .u64 r.x2, .int .u64 r.x3] ∧ Below w.heap.size w w')) ∧ iv = .int .i64 i) (fun i _ => 1 - (intOf i).toNat)
  case atStart => exact ⟨0, .inl ⟨rfl, rfl⟩, rfl⟩
  case round =>
    obtain ⟨i, ⟨rfl, rfl⟩ | ⟨rfl, hP⟩, rfl⟩ := hrel
    · go_wp2_with (first
        | (go_at_call 36; refine ZC.out.mono ?_; rintro e wa ⟨tl, rfl, hl0, rl, ba⟩; have HA := hidden (And.intro rl ba); clear hl0 rl ba ZC)
        | (go_at_call 37; refine (TC.out _ tl 1 HA.out.2 HA.out.1).mono ?_; rintro e wb ⟨rfl, hb⟩; have BW := bl_trans HA.out.2 hb; have rb := range_bl HM.out.1 BW; have tb := there_bl HM.out.2 BW; have s0 : wb.cell? ⟨w.heap.size + 1, 0, none⟩ = some (.int .u64 0) := rb 0 _ rfl; have s1 : wb.cell? ⟨w.heap.size + 1, 1, none⟩ = some (.int .u64 0) := rb 1 _ rfl; have s2 : wb.cell? ⟨w.heap.size + 1, 2, none⟩ = some (.int .u64 0) := rb 2 _ rfl; have s3 : wb.cell? ⟨w.heap.size + 1, 3, none⟩ = some (.int .u64 0) := rb 3 _ rfl; have v0 : wb.frozen? ⟨w.heap.size + 1, 0, none⟩ = false := (tb 0 (by omega)).2; have v1 : wb.frozen? ⟨w.heap.size + 1, 1, none⟩ = false := (tb 1 (by omega)).2; have v2 : wb.frozen? ⟨w.heap.size + 1, 2, none⟩ = false := (tb 2 (by omega)).2; have v3 : wb.frozen? ⟨w.heap.size + 1, 3, none⟩ = false := (tb 3 (by omega)).2; have PN : Hid ((setS wb (w.heap.size + 1) 0 r).rangeAt (w.heap.size + 1) 0 [.int .u64 r.x0, .int .u64 r.x1, .int .u64 r.x2, .int .u64 r.x3] ∧ Below w.heap.size w (setS wb (w.heap.size + 1) 0 r)) := hidden ⟨World.rangeAt_setCells_same wb (w.heap.size + 1) 0 [.int .u64 r.x0, .int .u64 r.x1, .int .u64 r.x2, .int .u64 r.x3] tb, setS_bel (bl_trans HB2.out BW) (by omega)⟩; unfold setS at PN; clear hb BW rb tb TC))
      go_roundw
      case rel => exact ⟨1, .inr ⟨rfl, PN⟩, by go_num⟩
      case measure => simp [intOf]
    · go_wp2_with fail
      obtain ⟨q1, q4⟩ := hP.out
      refine bodyPost_ret (v := .slice (some ⟨w.heap.size + 1, 0, none⟩) 1 1) (by simp [results, Tryz.results23, go_sem]) rfl ⟨w.heap.size + 1, rfl, by omega, q1, q4⟩
set_option maxRecDepth 100000 in
set_option maxHeartbeats 8000000 in
theorem First1 (R I g cR cI cn cx : Nat) (Px : Option Addr) (ks gs : Nat → E4) (u r : E4) (w : World) (hT : Tb w) (hl : Lm w Px 1 ks) (ok : (ks 0).ok) (og : (gs 0).ok) (hr : w.cell? ⟨R, 0, none⟩ = some (.slice (some ⟨g, 0, none⟩) 1 cn)) (hg : Rl w g 0 1 gs) (hu : u = lst ((gs 0).n * (ks 0).n)) (hrr : r = lst (zero4.n + u.n)) :
    Calls Tryz.prog 13 #[.agg #[.slice (some ⟨R, 0, none⟩) 1 cR, .slice (some ⟨I, 0, none⟩) 1 cI], .slice Px 1 cx] w fun e w' => ∃ D : Nat, e = .returned (.tuple #[.slice (some ⟨D, 0, none⟩) 1 1, .int .i64 0]) ∧ w.heap.size ≤ D ∧ w'.rangeAt D 0 [.int .u64 r.x0, .int .u64 r.x1, .int .u64 r.x2, .int .u64 r.x3] ∧ Below w.heap.size w w' := by
  have B3 : Below w.heap.size w ((w.alloc (.cells #[.slice (some ⟨R, 0, none⟩) 1 cR, .slice (some ⟨I, 0, none⟩) 1 cI] 48)).alloc (.cells #[.slice Px 1 cx] 22)) := bl_trans (bl_alloc w _) (bl_alloc _ _)
  have e0 : ((w.alloc (.cells #[.slice (some ⟨R, 0, none⟩) 1 cR, .slice (some ⟨I, 0, none⟩) 1 cI] 48)).alloc (.cells #[.slice Px 1 cx] 22)).cell? ⟨w.heap.size, 0, none⟩ = some (.slice (some ⟨R, 0, none⟩) 1 cR) := by go_simp
  have e1 : ((w.alloc (.cells #[.slice (some ⟨R, 0, none⟩) 1 cR, .slice (some ⟨I, 0, none⟩) 1 cI] 48)).alloc (.cells #[.slice Px 1 cx] 22)).cell? ⟨w.heap.size, 1, none⟩ = some (.slice (some ⟨I, 0, none⟩) 1 cI) := by go_simp
  have t0 : ((w.alloc (.cells #[.slice (some ⟨R, 0, none⟩) 1 cR, .slice (some ⟨I, 0, none⟩) 1 cI] 48)).alloc (.cells #[.slice Px 1 cx] 22)).cell? ⟨w.heap.size + 1, 0, none⟩ = some (.slice Px 1 cx) := by go_simp
  have CF := hidden (fits_L R I g 1 cR cI cn (w.heap.size + 1) cx Px ((w.alloc (.cells #[.slice (some ⟨R, 0, none⟩) 1 cR, .slice (some ⟨I, 0, none⟩) 1 cI] 48)).alloc (.cells #[.slice Px 1 cx] 22)) (by omega) (cell_keep hr B3) t0)
  have CS := hidden (fun (x : World) (hx : Below w.heap.size w x) => first1 R I g cR cI cn cx Px ks gs u r x (hT.keep hx) (hl.keep hx) ok og (cell_keep hr hx) (hg.keep hx) hu hrr)
  clear hT hl hr hg ok og hu hrr
  go_enter Tryz.func13, Tryz.ntmps13
  go_wp2_with (first
    | (go_at_call 22; refine CF.out.mono ?_; rintro e wa ⟨rfl, ha⟩; have a0 := cell_keep e0 ha; have a1 := cell_keep e1 ha; have BA := hidden (bl_trans B3 ha); clear ha CF)
    | (go_at_call 23; refine (CS.out _ BA.out).mono ?_; rintro e wb ⟨D, rfl, hD, q1, hb⟩; have RR := hidden (And.intro hD (And.intro q1 hb)); clear hD q1 hb CS))
  obtain ⟨hD, q1, hb⟩ := RR.out
  have := BA.out.size
  refine bodyPost_ret (v := .tuple #[.slice (some ⟨D, 0, none⟩) 1 1, .int .i64 0]) (by simp [results, Tryz.results13, go_sem]) rfl ⟨D, rfl, by omega, q1, bl_trans BA.out hb⟩
def an7o : Array Oper := #[{ dst := some 26, op := Op.move (Operand.tmp 8), type := 22, pos := "sigma.go:45", after := #[], guard := none },
  { dst := some 27, op := Op.move (Operand.tmp 9), type := 3, pos := "sigma.go:45", after := #[], guard := none },
  { dst := some 28, op := Op.move (Operand.tmp 0), type := 22, pos := "sigma.go:45", after := #[], guard := none },
  { dst := some 29, op := Op.move (Operand.tmp 9), type := 3, pos := "sigma.go:45", after := #[], guard := none },
  { dst := some 30, op := Op.indexAddr 22 (Operand.tmp 28) (Operand.tmp 29), type := 0, pos := "sigma.go:45", after := #[{ on := 2, ground := Ground.data }, { on := 3, ground := Ground.data }], guard := none },
  { dst := some 31, op := Op.load 25 (Operand.tmp 30), type := 25, pos := "sigma.go:45", after := #[{ on := 4, ground := Ground.data }], guard := none },
  { dst := some 32, op := Op.load 25 (Operand.tmp 5), type := 25, pos := "sigma.go:45", after := #[], guard := none },
  { dst := some 33, op := Op.load 25 (Operand.tmp 10), type := 25, pos := "sigma.go:45", after := #[], guard := none },
  { dst := some 34, op := Op.call { callee := Callee.value (Operand.func 25), args := #[Operand.tmp 32, Operand.tmp 33], argTypes := #[25, 25] }, type := 25, pos := "sigma.go:45", after := #[{ on := 6, ground := Ground.data }, { on := 7, ground := Ground.data }], guard := none },
  { dst := some 35, op := Op.call { callee := Callee.value (Operand.func 24), args := #[Operand.tmp 31, Operand.tmp 34], argTypes := #[25, 25] }, type := 25, pos := "sigma.go:45", after := #[{ on := 5, ground := Ground.data }, { on := 8, ground := Ground.data }, { on := 8, ground := Ground.chain }], guard := none },
  { dst := some 36, op := Op.indexAddr 22 (Operand.tmp 26) (Operand.tmp 27), type := 0, pos := "sigma.go:45", after := #[{ on := 0, ground := Ground.data }, { on := 1, ground := Ground.data }, { on := 0, ground := Ground.phase }, { on := 1, ground := Ground.phase }, { on := 2, ground := Ground.phase }, { on := 3, ground := Ground.phase }, { on := 4, ground := Ground.phase }, { on := 5, ground := Ground.phase }, { on := 6, ground := Ground.phase }, { on := 7, ground := Ground.phase }, { on := 8, ground := Ground.phase }, { on := 9, ground := Ground.phase }], guard := none },
  { dst := none, op := Op.store 25 (Operand.tmp 36) (Operand.tmp 35), type := 0, pos := "sigma.go:45", after := #[{ on := 10, ground := Ground.data }, { on := 9, ground := Ground.data }, { on := 9, ground := Ground.chain }, { on := 0, ground := Ground.phase }, { on := 1, ground := Ground.phase }, { on := 2, ground := Ground.phase }, { on := 3, ground := Ground.phase }, { on := 4, ground := Ground.phase }, { on := 5, ground := Ground.phase }, { on := 6, ground := Ground.phase }, { on := 7, ground := Ground.phase }, { on := 8, ground := Ground.phase }, { on := 9, ground := Ground.phase }], guard := none }]
set_option maxRecDepth 100000 in
set_option maxHeartbeats 16000000 in
theorem an7 (Q : Exit → Act → World → Prop) (A D T5 T10 cA : Nat) (a ch x u r : E4) (u1 u2 u3 u4 u6 u7 u11 u12 u13 u14 u15 u16 u17 u18 u19 u20 u21 u22 u23 u24 u25 u26 u27 u28 u29 u30 u31 u32 u33 u34 u35 u36 u37 u38 : Value) (W : World)
    (neA : A ≠ D) (ne5 : T5 ≠ D) (neX : T10 ≠ D) (th : W.there D 0 4) (ca0 : W.cell? ⟨A, 0, none⟩ = some (.int .u64 a.x0)) (ca1 : W.cell? ⟨A, 1, none⟩ = some (.int .u64 a.x1)) (ca2 : W.cell? ⟨A, 2, none⟩ = some (.int .u64 a.x2)) (ca3 : W.cell? ⟨A, 3, none⟩ = some (.int .u64 a.x3)) (cc0 : W.cell? ⟨T5, 0, none⟩ = some (.int .u64 ch.x0)) (cc1 : W.cell? ⟨T5, 1, none⟩ = some (.int .u64 ch.x1)) (cc2 : W.cell? ⟨T5, 2, none⟩ = some (.int .u64 ch.x2)) (cc3 : W.cell? ⟨T5, 3, none⟩ = some (.int .u64 ch.x3)) (cx0 : W.cell? ⟨T10, 0, none⟩ = some (.int .u64 x.x0)) (cx1 : W.cell? ⟨T10, 1, none⟩ = some (.int .u64 x.x1)) (cx2 : W.cell? ⟨T10, 2, none⟩ = some (.int .u64 x.x2)) (cx3 : W.cell? ⟨T10, 3, none⟩ = some (.int .u64 x.x3))
    (C8 : Hid (∀ y, W.grownBy y (some D) → Calls Tryz.prog 25 #[.agg #[.int .u64 ch.x0, .int .u64 ch.x1, .int .u64 ch.x2, .int .u64 ch.x3], .agg #[.int .u64 x.x0, .int .u64 x.x1, .int .u64 x.x2, .int .u64 x.x3]] y fun e w' => e = .returned (.agg #[.int .u64 u.x0, .int .u64 u.x1, .int .u64 u.x2, .int .u64 u.x3]) ∧ Below y.heap.size y w'))
    (C9 : Hid (∀ y, W.grownBy y (some D) → Calls Tryz.prog 24 #[.agg #[.int .u64 a.x0, .int .u64 a.x1, .int .u64 a.x2, .int .u64 a.x3], .agg #[.int .u64 u.x0, .int .u64 u.x1, .int .u64 u.x2, .int .u64 u.x3]] y fun e w' => e = .returned (.agg #[.int .u64 r.x0, .int .u64 r.x1, .int .u64 r.x2, .int .u64 r.x3]) ∧ Below y.heap.size y w'))
    (HQ : Hid (∀ (wz : World), (∃ wy, W.grownBy wy (some D) ∧ wy.there D 0 4 ∧ wz = wy.setCells D 0 [.int .u64 r.x0, .int .u64 r.x1, .int .u64 r.x2, .int .u64 r.x3]) → Q .normal ⟨#[.slice (some ⟨A, 0, none⟩) 1 cA, u1, u2, u3, u4, .pointer (some ⟨T5, 0, none⟩), u6, u7, .slice (some ⟨D, 0, none⟩) 1 1, .int .i64 0, .pointer (some ⟨T10, 0, none⟩), u11, u12, u13, u14, u15, u16, u17, u18, u19, u20, u21, u22, u23, u24, u25, .slice (some ⟨D, 0, none⟩) 1 1, .int .i64 0, .slice (some ⟨A, 0, none⟩) 1 cA, .int .i64 0, .pointer (some ⟨A, 0, none⟩), .agg #[.int .u64 a.x0, .int .u64 a.x1, .int .u64 a.x2, .int .u64 a.x3], .agg #[.int .u64 ch.x0, .int .u64 ch.x1, .int .u64 ch.x2, .int .u64 ch.x3], .agg #[.int .u64 x.x0, .int .u64 x.x1, .int .u64 x.x2, .int .u64 x.x3], .agg #[.int .u64 u.x0, .int .u64 u.x1, .int .u64 u.x2, .int .u64 u.x3], .agg #[.int .u64 r.x0, .int .u64 r.x1, .int .u64 r.x2, .int .u64 r.x3], .pointer (some ⟨D, 0, none⟩), u37, u38], []⟩ wz)) : (Code.region 7 an7o true).wp Tryz.prog Q ⟨#[.slice (some ⟨A, 0, none⟩) 1 cA, u1, u2, u3, u4, .pointer (some ⟨T5, 0, none⟩), u6, u7, .slice (some ⟨D, 0, none⟩) 1 1, .int .i64 0, .pointer (some ⟨T10, 0, none⟩), u11, u12, u13, u14, u15, u16, u17, u18, u19, u20, u21, u22, u23, u24, u25, u26, u27, u28, u29, u30, u31, u32, u33, u34, u35, u36, u37, u38], []⟩ W := by
  have TH := hidden (there_bl th (bl_drew W))
  clear th
  unfold an7o
  refine wp_region_noPanic ?_
  refine wp_region_held_drew (S := fun x => W.grownBy x (some D)) (by kernel_rfl) (gbI (bl_drew W) _) (fun hH0 => ?_)
  refine wpAnyH_take (i := 0) (oi := { dst := some 26, op := Op.move (Operand.tmp 8), type := 22, pos := "sigma.go:45", after := #[], guard := none }) (v := .slice (some ⟨D, 0, none⟩) 1 1) rfl (by kernel_rfl) (by kernel_rfl) (by kernel_rfl) (fun _ _ _ h => h) (Or.inl ⟨by rfl, fun w0 hSw => ?_⟩) hH0 ?_
  · (clear hSw; go_simp)
  simp only [Act.put, List.setIfInBounds_toArray, List.set_cons_zero, List.set_cons_succ]
  refine wpAnyH_take (i := 1) (oi := { dst := some 27, op := Op.move (Operand.tmp 9), type := 3, pos := "sigma.go:45", after := #[], guard := none }) (v := .int .i64 0) rfl (by kernel_rfl) (by kernel_rfl) (by kernel_rfl) (fun _ _ _ h => h) (Or.inl ⟨by rfl, fun w0 hSw => ?_⟩) hH0 ?_
  · (clear hSw; go_simp)
  simp only [Act.put, List.setIfInBounds_toArray, List.set_cons_zero, List.set_cons_succ]
  refine wpAnyH_take (i := 2) (oi := { dst := some 28, op := Op.move (Operand.tmp 0), type := 22, pos := "sigma.go:45", after := #[], guard := none }) (v := .slice (some ⟨A, 0, none⟩) 1 cA) rfl (by kernel_rfl) (by kernel_rfl) (by kernel_rfl) (fun _ _ _ h => h) (Or.inl ⟨by rfl, fun w0 hSw => ?_⟩) hH0 ?_
  · (clear hSw; go_simp)
  simp only [Act.put, List.setIfInBounds_toArray, List.set_cons_zero, List.set_cons_succ]
  refine wpAnyH_take (i := 3) (oi := { dst := some 29, op := Op.move (Operand.tmp 9), type := 3, pos := "sigma.go:45", after := #[], guard := none }) (v := .int .i64 0) rfl (by kernel_rfl) (by kernel_rfl) (by kernel_rfl) (fun _ _ _ h => h) (Or.inl ⟨by rfl, fun w0 hSw => ?_⟩) hH0 ?_
  · (clear hSw; go_simp)
  simp only [Act.put, List.setIfInBounds_toArray, List.set_cons_zero, List.set_cons_succ]
  refine wpAnyH_take (i := 6) (oi := { dst := some 32, op := Op.load 25 (Operand.tmp 5), type := 25, pos := "sigma.go:45", after := #[], guard := none }) (v := .agg #[.int .u64 ch.x0, .int .u64 ch.x1, .int .u64 ch.x2, .int .u64 ch.x3]) rfl (by kernel_rfl) (by kernel_rfl) (by kernel_rfl) (fun _ _ _ h => h) (Or.inl ⟨by rfl, fun w0 hSw => ?_⟩) hH0 ?_
  · (have hS : W.grownBy w0 (some D) := hSw; have a0 := hS.cell cc0 (fun e => ne5 (Option.some.inj e)); have a1 := hS.cell cc1 (fun e => ne5 (Option.some.inj e)); have a2 := hS.cell cc2 (fun e => ne5 (Option.some.inj e)); have a3 := hS.cell cc3 (fun e => ne5 (Option.some.inj e)); clear hS hSw; go_simp)
  simp only [Act.put, List.setIfInBounds_toArray, List.set_cons_zero, List.set_cons_succ]
  refine wpAnyH_take (i := 7) (oi := { dst := some 33, op := Op.load 25 (Operand.tmp 10), type := 25, pos := "sigma.go:45", after := #[], guard := none }) (v := .agg #[.int .u64 x.x0, .int .u64 x.x1, .int .u64 x.x2, .int .u64 x.x3]) rfl (by kernel_rfl) (by kernel_rfl) (by kernel_rfl) (fun _ _ _ h => h) (Or.inl ⟨by rfl, fun w0 hSw => ?_⟩) hH0 ?_
  · (have hS : W.grownBy w0 (some D) := hSw; have a0 := hS.cell cx0 (fun e => neX (Option.some.inj e)); have a1 := hS.cell cx1 (fun e => neX (Option.some.inj e)); have a2 := hS.cell cx2 (fun e => neX (Option.some.inj e)); have a3 := hS.cell cx3 (fun e => neX (Option.some.inj e)); clear hS hSw; go_simp)
  simp only [Act.put, List.setIfInBounds_toArray, List.set_cons_zero, List.set_cons_succ]
  refine wpAnyH_take (i := 4) (oi := { dst := some 30, op := Op.indexAddr 22 (Operand.tmp 28) (Operand.tmp 29), type := 0, pos := "sigma.go:45", after := #[{ on := 2, ground := Ground.data }, { on := 3, ground := Ground.data }], guard := none }) (v := .pointer (some ⟨A, 0, none⟩)) rfl (by kernel_rfl) (by kernel_rfl) (by kernel_rfl) (fun _ _ _ h => h) (Or.inl ⟨by rfl, fun w0 hSw => ?_⟩) hH0 ?_
  · (clear hSw; go_simp)
  simp only [Act.put, List.setIfInBounds_toArray, List.set_cons_zero, List.set_cons_succ]
  refine wpAnyH_take (i := 5) (oi := { dst := some 31, op := Op.load 25 (Operand.tmp 30), type := 25, pos := "sigma.go:45", after := #[{ on := 4, ground := Ground.data }], guard := none }) (v := .agg #[.int .u64 a.x0, .int .u64 a.x1, .int .u64 a.x2, .int .u64 a.x3]) rfl (by kernel_rfl) (by kernel_rfl) (by kernel_rfl) (fun _ _ _ h => h) (Or.inl ⟨by rfl, fun w0 hSw => ?_⟩) hH0 ?_
  · (have hS : W.grownBy w0 (some D) := hSw; have a0 := hS.cell ca0 (fun e => neA (Option.some.inj e)); have a1 := hS.cell ca1 (fun e => neA (Option.some.inj e)); have a2 := hS.cell ca2 (fun e => neA (Option.some.inj e)); have a3 := hS.cell ca3 (fun e => neA (Option.some.inj e)); clear hS hSw; go_simp)
  simp only [Act.put, List.setIfInBounds_toArray, List.set_cons_zero, List.set_cons_succ]
  refine wpAnyH_ready (rs := [8]) (by kernel_rfl) (by simp) ?_
  refine AllReadyH.cons (o := { dst := some 34, op := Op.call { callee := Callee.value (Operand.func 25), args := #[Operand.tmp 32, Operand.tmp 33], argTypes := #[25, 25] }, type := 25, pos := "sigma.go:45", after := #[{ on := 6, ground := Ground.data }, { on := 7, ground := Ground.data }], guard := none }) rfl (fun K hK => ?_) AllReadyH.nil
  have HH := hidden hH0
  clear hH0
  go_simp
  refine (C8.out _ HH.out).mono ?_
  rintro e wn1 ⟨rfl, hb⟩
  replace TH := hidden (there_bl TH.out hb)
  have SN := hidden (HH.out.trans (gbI hb _))
  clear HH C8 hb
  go_wp2_with fail
  refine hK.out _ _ SN.out (fun hH1 => ?_)
  clear hK K SN
  refine wpAnyH_ready (rs := [9]) (by kernel_rfl) (by simp) ?_
  refine AllReadyH.cons (o := { dst := some 35, op := Op.call { callee := Callee.value (Operand.func 24), args := #[Operand.tmp 31, Operand.tmp 34], argTypes := #[25, 25] }, type := 25, pos := "sigma.go:45", after := #[{ on := 5, ground := Ground.data }, { on := 8, ground := Ground.data }, { on := 8, ground := Ground.chain }], guard := none }) rfl (fun K hK => ?_) AllReadyH.nil
  have HH := hidden hH1
  clear hH1
  go_simp
  refine (C9.out _ HH.out).mono ?_
  rintro e wn2 ⟨rfl, hb⟩
  replace TH := hidden (there_bl TH.out hb)
  have SN := hidden (HH.out.trans (gbI hb _))
  clear HH C9 hb
  go_wp2_with fail
  refine hK.out _ _ SN.out (fun hH2 => ?_)
  clear hK K SN
  refine wpAnyH_take (i := 10) (oi := { dst := some 36, op := Op.indexAddr 22 (Operand.tmp 26) (Operand.tmp 27), type := 0, pos := "sigma.go:45", after := #[{ on := 0, ground := Ground.data }, { on := 1, ground := Ground.data }, { on := 0, ground := Ground.phase }, { on := 1, ground := Ground.phase }, { on := 2, ground := Ground.phase }, { on := 3, ground := Ground.phase }, { on := 4, ground := Ground.phase }, { on := 5, ground := Ground.phase }, { on := 6, ground := Ground.phase }, { on := 7, ground := Ground.phase }, { on := 8, ground := Ground.phase }, { on := 9, ground := Ground.phase }], guard := none }) (v := .pointer (some ⟨D, 0, none⟩)) rfl (by kernel_rfl) (by kernel_rfl) (by kernel_rfl) (fun _ _ _ h => h) (Or.inl ⟨by rfl, fun w0 hSw => ?_⟩) hH2 ?_
  · (clear hSw; go_simp)
  simp only [Act.put, List.setIfInBounds_toArray, List.set_cons_zero, List.set_cons_succ]
  refine wpAnyH_ready (rs := [11]) (by kernel_rfl) (by simp) ?_
  refine AllReadyH.cons (o := { dst := none, op := Op.store 25 (Operand.tmp 36) (Operand.tmp 35), type := 0, pos := "sigma.go:45", after := #[{ on := 10, ground := Ground.data }, { on := 9, ground := Ground.data }, { on := 9, ground := Ground.chain }, { on := 0, ground := Ground.phase }, { on := 1, ground := Ground.phase }, { on := 2, ground := Ground.phase }, { on := 3, ground := Ground.phase }, { on := 4, ground := Ground.phase }, { on := 5, ground := Ground.phase }, { on := 6, ground := Ground.phase }, { on := 7, ground := Ground.phase }, { on := 8, ground := Ground.phase }, { on := 9, ground := Ground.phase }], guard := none }) rfl (fun K hK => ?_) AllReadyH.nil
  have HH := hidden hH2
  clear hH2
  refine wp_storeE 25 _ _ rfl D 0 ([.int .u64 r.x0, .int .u64 r.x1, .int .u64 r.x2, .int .u64 r.x3]) (by rfl) (by rfl) TH.out i4_s (one4 r) rfl (fun wn3 hw => ?_)
  have SN := hidden (HH.out.trans (gb_setCells D [.int .u64 r.x0, .int .u64 r.x1, .int .u64 r.x2, .int .u64 r.x3] 0 _))
  have FE := hidden ((⟨_, HH.out, TH.out, hw⟩ : ∃ wy, W.grownBy wy (some D) ∧ wy.there D 0 4 ∧ _ = wy.setCells D 0 [.int .u64 r.x0, .int .u64 r.x1, .int .u64 r.x2, .int .u64 r.x3]))
  rw [← hw] at SN
  clear HH hw
  refine hK.out _ _ SN.out (fun hH3 => ?_)
  clear hK K SN
  have HH := hidden hH3
  have FQ := hidden (HQ.out _ FE.out)
  refine wpAnyH_done (by kernel_rfl) ?_ _
  refine NoPanic.normal ?_
  exact FQ.out
set_option maxRecDepth 100000 in
set_option maxHeartbeats 8000000 in
theorem Answer1 (A X cA cX : Nat) (a x ch u r : E4) (w : World) (hT : Tb w) (oa : a.ok) (ox : x.ok) (oc : ch.ok) (ha : w.rangeAt A 0 [.int .u64 a.x0, .int .u64 a.x1, .int .u64 a.x2, .int .u64 a.x3]) (hx : w.rangeAt X 0 [.int .u64 x.x0, .int .u64 x.x1, .int .u64 x.x2, .int .u64 x.x3]) (hu : u = lst (ch.n * x.n)) (hr : r = lst (a.n + u.n)) :
    Calls Tryz.prog 14 #[.slice (some ⟨A, 0, none⟩) 1 cA, .slice (some ⟨X, 0, none⟩) 1 cX, .agg #[.int .u64 ch.x0, .int .u64 ch.x1, .int .u64 ch.x2, .int .u64 ch.x3]] w fun e w' => ∃ D : Nat, e = .returned (.tuple #[.slice (some ⟨D, 0, none⟩) 1 1, .int .i64 0]) ∧ w.heap.size ≤ D ∧ w'.rangeAt D 0 [.int .u64 r.x0, .int .u64 r.x1, .int .u64 r.x2, .int .u64 r.x3] ∧ Below w.heap.size w w' := by
  obtain ⟨i0, hi, hz0, hz1, hz2⟩ := info_parts sinfoG
  have hmk := fun w => run_make (P := Tryz.prog) w 22 25 i0 (.agg #[.int .u64 0, .int .u64 0, .int .u64 0, .int .u64 0]) (by kernel_rfl) hi hz0 .i64 .i64 1 1 (by omega) (Int.le_refl _) (by rw [hz2]; omega) (by omega)
  simp only [show ((1 : Int)).toNat = 1 from rfl, hz1, Value.cells, Nat.one_mul] at hmk
  clear hi hz0 hz1 hz2
  have B2 := bl_trans (bl_alloc w (.cells #[.int .u64 ch.x0, .int .u64 ch.x1, .int .u64 ch.x2, .int .u64 ch.x3] 25)) (bl_alloc (w.alloc (.cells #[.int .u64 ch.x0, .int .u64 ch.x1, .int .u64 ch.x2, .int .u64 ch.x3] 25)) (.cells (madeCells #[.int .u64 0, .int .u64 0, .int .u64 0, .int .u64 0] 4) 25))
  have c0 : ((w.alloc (.cells #[.int .u64 ch.x0, .int .u64 ch.x1, .int .u64 ch.x2, .int .u64 ch.x3] 25)).alloc (.cells (madeCells #[.int .u64 0, .int .u64 0, .int .u64 0, .int .u64 0] 4) 25)).cell? ⟨w.heap.size, 0, none⟩ = some (.int .u64 ch.x0) := cell_keep (by go_simp) (bl_alloc _ _)
  have c1 : ((w.alloc (.cells #[.int .u64 ch.x0, .int .u64 ch.x1, .int .u64 ch.x2, .int .u64 ch.x3] 25)).alloc (.cells (madeCells #[.int .u64 0, .int .u64 0, .int .u64 0, .int .u64 0] 4) 25)).cell? ⟨w.heap.size, 1, none⟩ = some (.int .u64 ch.x1) := cell_keep (by go_simp) (bl_alloc _ _)
  have c2 : ((w.alloc (.cells #[.int .u64 ch.x0, .int .u64 ch.x1, .int .u64 ch.x2, .int .u64 ch.x3] 25)).alloc (.cells (madeCells #[.int .u64 0, .int .u64 0, .int .u64 0, .int .u64 0] 4) 25)).cell? ⟨w.heap.size, 2, none⟩ = some (.int .u64 ch.x2) := cell_keep (by go_simp) (bl_alloc _ _)
  have c3 : ((w.alloc (.cells #[.int .u64 ch.x0, .int .u64 ch.x1, .int .u64 ch.x2, .int .u64 ch.x3] 25)).alloc (.cells (madeCells #[.int .u64 0, .int .u64 0, .int .u64 0, .int .u64 0] 4) 25)).cell? ⟨w.heap.size, 3, none⟩ = some (.int .u64 ch.x3) := cell_keep (by go_simp) (bl_alloc _ _)
  have M1 := made1 (w.alloc (.cells #[.int .u64 ch.x0, .int .u64 ch.x1, .int .u64 ch.x2, .int .u64 ch.x3] 25)) 25
  simp only [World.size_alloc] at M1
  have HM := hidden M1
  have SZ2 : Hid (((w.alloc (.cells #[.int .u64 ch.x0, .int .u64 ch.x1, .int .u64 ch.x2, .int .u64 ch.x3] 25)).alloc (.cells (madeCells #[.int .u64 0, .int .u64 0, .int .u64 0, .int .u64 0] 4) 25)).heap.size = w.heap.size + 1 + 1) := hidden (by simp only [World.size_alloc])
  have x0 : ((w.alloc (.cells #[.int .u64 ch.x0, .int .u64 ch.x1, .int .u64 ch.x2, .int .u64 ch.x3] 25)).alloc (.cells (madeCells #[.int .u64 0, .int .u64 0, .int .u64 0, .int .u64 0] 4) 25)).cell? ⟨X, 0, none⟩ = some (.int .u64 x.x0) := cell_keep (hx 0 _ rfl) B2
  have x1 : ((w.alloc (.cells #[.int .u64 ch.x0, .int .u64 ch.x1, .int .u64 ch.x2, .int .u64 ch.x3] 25)).alloc (.cells (madeCells #[.int .u64 0, .int .u64 0, .int .u64 0, .int .u64 0] 4) 25)).cell? ⟨X, 1, none⟩ = some (.int .u64 x.x1) := cell_keep (hx 1 _ rfl) B2
  have x2 : ((w.alloc (.cells #[.int .u64 ch.x0, .int .u64 ch.x1, .int .u64 ch.x2, .int .u64 ch.x3] 25)).alloc (.cells (madeCells #[.int .u64 0, .int .u64 0, .int .u64 0, .int .u64 0] 4) 25)).cell? ⟨X, 2, none⟩ = some (.int .u64 x.x2) := cell_keep (hx 2 _ rfl) B2
  have x3 : ((w.alloc (.cells #[.int .u64 ch.x0, .int .u64 ch.x1, .int .u64 ch.x2, .int .u64 ch.x3] 25)).alloc (.cells (madeCells #[.int .u64 0, .int .u64 0, .int .u64 0, .int .u64 0] 4) 25)).cell? ⟨X, 3, none⟩ = some (.int .u64 x.x3) := cell_keep (hx 3 _ rfl) B2
  have lA := World.block_lt_of_cell? w _ (ha 0 _ rfl)
  have HH := hidden (And.intro hT (And.intro oa (And.intro ox (And.intro oc (And.intro ha (And.intro hu hr))))))
  clear M1 hx hT oa ox oc ha hu hr
  go_enter Tryz.func14, Tryz.ntmps14
  go_upto_region 4 with fail
  generalize ((w.alloc (.cells #[.int .u64 ch.x0, .int .u64 ch.x1, .int .u64 ch.x2, .int .u64 ch.x3] 25)).alloc (.cells (madeCells #[.int .u64 0, .int .u64 0, .int .u64 0, .int .u64 0] 4) 25)) = w2 at *
  clear hmk
  go_wp2_with fail
  go_loopw [21] (fun iv w' => ∃ i : Nat, (i = 0 ∧ w' = w2 ∨ i = 1 ∧ Hid (w'.rangeAt (w.heap.size + 1) 0 [.int .u64 r.x0, .int .u64 r.x1, .int .u64 r.x2, .int .u64 r.x3] ∧ Below w.heap.size w w')) ∧ iv = .int .i64 i) (fun i _ => 1 - (intOf i).toNat)
  case atStart => exact ⟨0, .inl ⟨rfl, rfl⟩, rfl⟩
  case round =>
    obtain ⟨i, ⟨rfl, rfl⟩ | ⟨rfl, hP⟩, rfl⟩ := hrel
    · have BN := bl_alloc wr (.cells #[.int .u64 x.x0, .int .u64 x.x1, .int .u64 x.x2, .int .u64 x.x3] 25)
      have g0 : (wr.alloc (.cells #[.int .u64 x.x0, .int .u64 x.x1, .int .u64 x.x2, .int .u64 x.x3] 25)).cell? ⟨wr.heap.size, 0, none⟩ = some (.int .u64 x.x0) := by go_simp
      have g1 : (wr.alloc (.cells #[.int .u64 x.x0, .int .u64 x.x1, .int .u64 x.x2, .int .u64 x.x3] 25)).cell? ⟨wr.heap.size, 1, none⟩ = some (.int .u64 x.x1) := by go_simp
      have g2 : (wr.alloc (.cells #[.int .u64 x.x0, .int .u64 x.x1, .int .u64 x.x2, .int .u64 x.x3] 25)).cell? ⟨wr.heap.size, 2, none⟩ = some (.int .u64 x.x2) := by go_simp
      have g3 : (wr.alloc (.cells #[.int .u64 x.x0, .int .u64 x.x1, .int .u64 x.x2, .int .u64 x.x3] 25)).cell? ⟨wr.heap.size, 3, none⟩ = some (.int .u64 x.x3) := by go_simp
      go_upto_region 7 with fail
      have SZ1 := SZ2.out
      have B3 := bl_trans B2 BN
      have TH2 := there_bl HM.out.2 BN
      obtain ⟨hT, oa, ox, oc, ha, hu, hr⟩ := HH.out
      have d0 := cell_keep c0 BN
      have d1 := cell_keep c1 BN
      have d2 := cell_keep c2 BN
      have d3 := cell_keep c3 BN
      generalize (wr.alloc (.cells #[.int .u64 x.x0, .int .u64 x.x1, .int .u64 x.x2, .int .u64 x.x3] 25)) = w3 at *
      have AL : ∀ y, w3.grownBy y (some (w.heap.size + 1)) → Below w.heap.size w y := fun y hy => B3.grown hy B3.size (fun j hj => by obtain rfl := Option.some.inj hj; omega)
      have C8 := hidden (fun y (hy : w3.grownBy y (some (w.heap.size + 1))) => fix (R := lst (ch.n * x.n)) (Mul_any ch x y (hT.keep (AL y hy)) oc ox) rfl)
      have C9 := hidden (fun y (hy : w3.grownBy y (some (w.heap.size + 1))) => fix (R := lst (a.n + u.n)) (Add_any a u y (hT.keep (AL y hy)) oa (hu ▸ lst_ok _)) rfl)
      rw [← hu] at C8
      rw [← hr] at C9
      refine an7 _ A (w.heap.size + 1) w.heap.size wr.heap.size cA a ch x u r _ _ _ _ _ _ _ _ _ _ _ _ _ _ _ _ _ _ _ _ _ _ _ _ _ _ _ _ _ _ _ _ _ _ w3 (by omega) (by omega) (by omega) TH2 (cell_keep (ha 0 _ rfl) B3) (cell_keep (ha 1 _ rfl) B3) (cell_keep (ha 2 _ rfl) B3) (cell_keep (ha 3 _ rfl) B3) d0 d1 d2 d3 g0 g1 g2 g3 C8 C9 (hidden ?_)
      intro wz hz
      have PN : Hid (wz.rangeAt (w.heap.size + 1) 0 [.int .u64 r.x0, .int .u64 r.x1, .int .u64 r.x2, .int .u64 r.x3] ∧ Below w.heap.size w wz) := hidden (by
        obtain ⟨wy, hy, hty, rfl⟩ := hz
        exact ⟨World.rangeAt_setCells_same wy (w.heap.size + 1) 0 [.int .u64 r.x0, .int .u64 r.x1, .int .u64 r.x2, .int .u64 r.x3] hty, (AL wy hy).grown (gb_setCells _ _ 0 _) (AL wy hy).size (fun j hj => by obtain rfl := Option.some.inj hj; omega)⟩)
      clear C8 C9 TH2 AL hz g0 g1 g2 g3 d0 d1 d2 d3
      go_wp2_with fail
      go_roundw
      case rel => exact ⟨1, .inr ⟨rfl, PN⟩, by go_num⟩
      case measure => simp [intOf]
    · go_wp2_with fail
      obtain ⟨q1, q4⟩ := hP.out
      refine bodyPost_ret (v := .tuple #[.slice (some ⟨w.heap.size + 1, 0, none⟩) 1 1, .int .i64 0]) (by simp [results, Tryz.results14, go_sem]) rfl ⟨w.heap.size + 1, rfl, by omega, q1, q4⟩
set_option maxRecDepth 100000 in
set_option maxHeartbeats 8000000 in
theorem Key1 (p q : E4) (w : World) :
    Calls Tryz.prog 12 #[.agg #[.int .u64 p.x0, .int .u64 p.x1, .int .u64 p.x2, .int .u64 p.x3], .agg #[.int .u64 q.x0, .int .u64 q.x1, .int .u64 q.x2, .int .u64 q.x3]] w fun e w' => ∃ R I g : Nat, e = .returned (.agg #[.slice (some ⟨R, 0, none⟩) 1 1, .slice (some ⟨I, 0, none⟩) 1 1]) ∧ w'.cell? ⟨R, 0, none⟩ = some (.slice (some ⟨g, 0, none⟩) 1 1) ∧ Rl w' g 0 1 (fun _ => p) ∧ w'.rangeAt I 0 [.int .u64 q.x0, .int .u64 q.x1, .int .u64 q.x2, .int .u64 q.x3] ∧ Below w.heap.size w w' := by
  go_enter Tryz.func12, Tryz.ntmps12
  go_wp2_with fail
  refine bodyPost_ret (v := .agg #[.slice (some ⟨w.heap.size + 1 + 1 + 1 + 1, 0, none⟩) 1 1, .slice (some ⟨w.heap.size + 1 + 1 + 1 + 1 + 1, 0, none⟩) 1 1]) (by simp [results, Tryz.results12, go_sem]) rfl ⟨w.heap.size + 1 + 1 + 1 + 1, w.heap.size + 1 + 1 + 1 + 1 + 1, w.heap.size + 1 + 1 + 1, rfl, ?_, ?_, ?_, ?_⟩
  · go_simp
  · refine ⟨fun i hi => ?_, fun i hi => ?_, fun i hi => ?_, fun i hi => ?_⟩ <;> (obtain rfl : i = 0 := by omega) <;> go_simp
  · exact range4 (by go_simp) (by go_simp) (by go_simp) (by go_simp)
  · first | exact bl_trans (bl_trans (bl_trans (bl_trans (bl_trans (bl_alloc w _) (bl_alloc _ _)) (bl_alloc _ _)) (bl_alloc _ _)) (bl_alloc _ _)) (bl_alloc _ _) | exact ((bl_trans (bl_trans (bl_trans (bl_trans (bl_trans (bl_alloc w _) (bl_alloc _ _)) (bl_alloc _ _)) (bl_alloc _ _)) (bl_alloc _ _)) (bl_alloc _ _)).setCell (by simp only; omega) _).setCell (by simp only; omega) _
end Go.Proofs.YtapieajkmpnmoaaGreatDoor.Li
