import Derived.Test.YtnbcfchbhappeaaDoorAsn
import Derived.Test.YtnbcfchbhappeaaDoorAel
import Derived.Test.YtnbcfchbhappeaaDoorAns
import Derived.Test.YtnbcfchbhappeaaDoorAsq
import Derived.Test.YtnbcfchbhappeaaDoorAct
import Derived.Defers
import Derived.Recover
namespace Go.Proofs.YtnbcfchbhappeaaDoor.Al
open Go.RowKit
theorem Ns.ms {w0 w : World} {S n : Nat} {b c : Nat → Nat} {A : Nat → Nat → Int} {r : Nat → Int} (h : Ns w0 w S n n b c A r) : Ms w S n b c (fun _ => 0) (fun i j => if j < n then A i j else r i) :=
  ⟨h.h, h.hf, h.cap, fun i hi => (h.r i hi).congr fun j _ => by rw [Nat.zero_add], h.apart, h.off, fun _ _ => Nat.zero_le _⟩
theorem ns_ei {n : Nat} {A : Nat → Nat → Int} {r : Nat → Int} : Mx.Ei 7 n A r 0 (fun i j => if j < n then A i j else r i) := Mx.Ei.start (fun i j _ hj => by rw [if_pos hj]) (fun i _ => by rw [if_neg (Nat.lt_irrefl n)])
theorem catch_panicking (px pe : Addr) (u : TypeId) (pv vx ve : Value) (older : List PanicEntry) (w : World) (hx : w.cell? px = some vx) (hxf : w.frozen? px = false) (he : (w.setCell px (.slice none 0 0)).cell? pe = some ve) (hef : w.frozen? pe = false) :
    CallsD Tryd.prog 40 #[.pointer (some px), .pointer (some pe)] (.panicking ({ v := .iface u pv, recovered := false } :: older)) w fun e u' w' =>
      e = .returned (.tuple #[]) ∧ u' = .panicking ({ v := .iface u pv, recovered := true } :: older) ∧ w' = (w.setCell px (.slice none 0 0)).setCell pe (.int .i64 61) := by
  refine callsD_of_wpS Tryd.func40 rfl fun c₀ cs hu => ?_
  apply wpS_seq
  apply wpS_region
  simp [wpOpsS, go_sem, recoverD, hu, Tryd.ntmps40, Exit.thenS]
  refine wpS_cond (t := true) (by simp [Act.eval, Array.replicate]) ?_
  simp only [if_true]
  apply wpS_region
  simp [wpOpsS, go_sem, hx, hxf, he, hef, bodyPostS, results, Tryd.results40]
theorem catch_idle (px pe : Addr) (w : World) :
    CallsD Tryd.prog 40 #[.pointer (some px), .pointer (some pe)] .returning w fun e u' w' => e = .returned (.tuple #[]) ∧ u' = .returning ∧ w' = w := by
  refine callsD_of_wpS Tryd.func40 rfl fun c₀ cs hu => ?_
  apply wpS_seq
  apply wpS_region
  simp [wpOpsS, go_sem, recoverD, hu, Tryd.ntmps40, Exit.thenS]
  refine wpS_cond (t := false) (by simp [Act.eval, Array.replicate]) ?_
  simp only [Bool.false_eq_true, if_false]
  refine wpS_of_wp (wp_skip ?_)
  cases c₀
  simp_all [bodyPostS, results, Tryd.results40]
set_option maxRecDepth 100000 in
set_option maxHeartbeats 8000000 in
theorem solve_seven : SolveC := by
  intro B o n cB b f c A P Q cQ r w hn hcB hcQ hP hM hc hQ
  have hmf : ∀ (fn : Fn) (first cap : Array Value) (w : World), (Instr.makeFunc fn first cap).run Tryd.prog w = .ok (.func fn first cap) w := fun _ _ _ _ => rfl
  have SQ := hidden (fun (w1 : World) (h : Below w.heap.size w w1) => square_any P B o n cB b f c A w1 (by omega) hP (hM.keep h))
  have NS := hidden (fun (w1 : World) (h : Below w.heap.size w w1) => newSystem_any P Q B o n cB cQ b f c A r w1 (by omega) hcQ hP (hM.keep h) (hQ.keep h))
  have nn0 : (0 : Int) ≤ (n : Int) := by omega
  have HN := hidden hn
  clear hn hcB hcQ hP hM hc hQ
  have B0 := hidden (bl_trans (bl_alloc w (.cells #[.slice none 0 0] 46)) (bl_alloc _ (.cells #[.int .i64 0] 47)))
  have X0 : Hid (((w.alloc (.cells #[.slice none 0 0] 46)).alloc (.cells #[.int .i64 0] 47)).cell? ⟨w.heap.size, 0, none⟩ = some (.slice none 0 0)) := hidden (by go_simp)
  have X1 : Hid (((w.alloc (.cells #[.slice none 0 0] 46)).alloc (.cells #[.int .i64 0] 47)).cell? ⟨w.heap.size + 1, 0, none⟩ = some (.int .i64 0)) := hidden (by go_simp)
  have X2 : Hid (((w.alloc (.cells #[.slice none 0 0] 46)).alloc (.cells #[.int .i64 0] 47)).frozen? ⟨w.heap.size, 0, none⟩ = false) := hidden (by go_simp)
  have X3 : Hid (((w.alloc (.cells #[.slice none 0 0] 46)).alloc (.cells #[.int .i64 0] 47)).frozen? ⟨w.heap.size + 1, 0, none⟩ = false) := hidden (by go_simp)
  by_cases hd : Mx.C 7 (Mx.det n A) 0
  · have EL := hidden (fun (S : Nat) (b' c' : Nat → Nat) (w0 w1 : World) (hN : Ns w0 w1 S n n b' c' A r) (hS : w0.heap.size ≤ S) (hb : w0.heap.size ≤ w1.heap.size) =>
      (eliminate_any S n n w0.heap.size b' c' A _ r w1 (by have := HN.out; omega) (Nat.le_refl _) hb hS hN.ge hN.ms ns_ei).mono (R' := fun e w' => e = .panicked [{ v := .iface 47 (.int .i64 61), recovered := false }] ∧ Below w0.heap.size w1 w') (fun e w' h => by
        rcases h.2 with ⟨_, b2, c2, M2, _, hE⟩ | ⟨h1, _⟩
        · exact absurd hd (hE.full pm7)
        · exact ⟨h1, h.1⟩))
    have HD := hidden hd
    clear hd
    go_enter_defers Tryd.func21, Tryd.ntmps21
    go_wp2_with (first | (go_at_call 39; refine (SQ.out _ B0.out).mono ?_; rintro e ws ⟨rfl, hs⟩; have x0 := hidden (cell_keep X0.out hs); have x1 := hidden (cell_keep X1.out hs); have x2 := hidden (frozen_keep X2.out (World.block_lt_of_cell? _ _ X0.out) hs); have x3 := hidden (frozen_keep X3.out (World.block_lt_of_cell? _ _ X1.out) hs); have B1 := hidden (bl_trans B0.out hs); clear hs B0 X0 X1 X2 X3) | (go_at_call 41; refine (NS.out _ B1.out).mono ?_; rintro e wn ⟨S, b', c', rfl, hS, hN, hb⟩; have HS := hidden hS; have HNS := hidden hN; have HB := hidden hb; clear hS hN hb) | (go_at_call 42; refine (EL.out _ _ _ _ _ HNS.out HS.out HB.out.size).mono ?_; rintro e we ⟨rfl, hc⟩; have HC := hidden (below_trans HB.out hc); clear hc))
    have y0 := cell_keep x0.out HC.out
    have y1 := cell_keep x1.out HC.out
    have y2 := frozen_keep x2.out (World.block_lt_of_cell? _ _ x0.out) HC.out
    have y3 := frozen_keep x3.out (World.block_lt_of_cell? _ _ x1.out) HC.out
    have y4 : (we.setCell ⟨w.heap.size, 0, none⟩ (.slice none 0 0)).cell? ⟨w.heap.size + 1, 0, none⟩ = some (.int .i64 0) := by
      rw [World.cell?_setCell_far _ _ _ _ (by show w.heap.size ≠ w.heap.size + 1; omega)]; exact y1
    refine leaves_cons (f := 40) (args := #[.pointer (some ⟨w.heap.size, 0, none⟩), .pointer (some ⟨w.heap.size + 1, 0, none⟩)]) (by simp) (by simp [go_sem]) ?_
    refine (catch_panicking ⟨w.heap.size, 0, none⟩ ⟨w.heap.size + 1, 0, none⟩ _ _ _ _ [] _ y0 y2 y4 y3).mono ?_
    rintro e u' w'' ⟨rfl, rfl, rfl⟩
    have z0 : ((we.setCell ⟨w.heap.size, 0, none⟩ (.slice none 0 0)).setCell ⟨w.heap.size + 1, 0, none⟩ (.int .i64 61)).cell? ⟨w.heap.size, 0, none⟩ = some (.slice none 0 0) := by
      rw [World.cell?_setCell_far _ _ _ _ (by show w.heap.size + 1 ≠ w.heap.size; omega)]; exact World.cell?_setCell_same _ _ _ y0
    have z1 : ((we.setCell ⟨w.heap.size, 0, none⟩ (.slice none 0 0)).setCell ⟨w.heap.size + 1, 0, none⟩ (.int .i64 61)).cell? ⟨w.heap.size + 1, 0, none⟩ = some (.int .i64 61) := World.cell?_setCell_same _ _ _ y4
    have BB : Below w.heap.size w ((we.setCell ⟨w.heap.size, 0, none⟩ (.slice none 0 0)).setCell ⟨w.heap.size + 1, 0, none⟩ (.int .i64 61)) := ((bl_trans B1.out HC.out).setCell (p := ⟨w.heap.size, 0, none⟩) (Nat.le_refl _) _).setCell (p := ⟨w.heap.size + 1, 0, none⟩) (by show w.heap.size ≤ w.heap.size + 1; omega) _
    simp only [settle, List.dropWhile]
    refine ⟨.tuple #[.slice none 0 0, .int .i64 61], by simp [results, Tryd.results21, go_sem, z0, z1], .slice none 0 0, 61, rfl, ⟨BB, .inr ⟨rfl, HD.out, none, 0, rfl⟩⟩⟩
  · have EL := hidden (fun (S : Nat) (b' c' : Nat → Nat) (w0 w1 : World) (hN : Ns w0 w1 S n n b' c' A r) (hS : w0.heap.size ≤ S) (hb : w0.heap.size ≤ w1.heap.size) =>
      (eliminate_any S n n w0.heap.size b' c' A _ r w1 (by have := HN.out; omega) (Nat.le_refl _) hb hS hN.ge hN.ms ns_ei).mono (R' := fun e w' => e = .returned (.tuple #[]) ∧ Below w0.heap.size w1 w' ∧ ∃ (b2 c2 : Nat → Nat) (M2 : Nat → Nat → Int), Ms w' S n b2 c2 (fun i => i + 1) M2 ∧ Mx.Ei 7 n A r n M2) (fun e w' h => by
        rcases h.2 with ⟨h1, h2⟩ | ⟨_, h1⟩
        · exact ⟨h1, h.1, h2⟩
        · exact absurd h1 hd))
    have HD := hidden hd
    clear hd
    go_enter_defers Tryd.func21, Tryd.ntmps21
    go_wp2_with (first | (go_at_call 39; refine (SQ.out _ B0.out).mono ?_; rintro e ws ⟨rfl, hs⟩; have x0 := hidden (cell_keep X0.out hs); have x1 := hidden (cell_keep X1.out hs); have x2 := hidden (frozen_keep X2.out (World.block_lt_of_cell? _ _ X0.out) hs); have x3 := hidden (frozen_keep X3.out (World.block_lt_of_cell? _ _ X1.out) hs); have B1 := hidden (bl_trans B0.out hs); clear hs B0 X0 X1 X2 X3) | (go_at_call 41; refine (NS.out _ B1.out).mono ?_; rintro e wn ⟨S, b', c', rfl, hS, hN, hb⟩; have HS := hidden hS; have HNS := hidden hN; have HB := hidden hb; clear hS hN hb) | (go_at_call 42; refine (EL.out _ _ _ _ _ HNS.out HS.out HB.out.size).mono ?_; rintro e we ⟨rfl, hc, b2, c2, M2, hM2, hE2⟩; have HC := hidden (below_trans HB.out hc); have HM2 := hidden hM2; have HE2 := hidden hE2; have SO := hidden (solution_any S n n b2 c2 M2 we (by have := HN.out; omega) hM2); clear hc hM2 hE2) | (go_at_call 43; refine (SO.out).mono ?_; rintro e wf ⟨X, xs, rfl, hX, hR, hS, hf⟩; have HX := hidden hX; have HR := hidden hR; have HSX := hidden hS; have HF := hidden (bl_trans HC.out hf); have HF2 := hidden hf; have y0 := cell_keep x0.out HF.out; have y1 := cell_keep x1.out HF.out; have y2 := frozen_keep x2.out (World.block_lt_of_cell? _ _ x0.out) HF.out; have y3 := frozen_keep x3.out (World.block_lt_of_cell? _ _ x1.out) HF.out; clear hX hR hS hf))
    have hl0 : w.heap.size + 1 < ws.heap.size := World.block_lt_of_cell? _ ⟨w.heap.size + 1, 0, none⟩ x1.out
    have hl1 : ws.heap.size ≤ we.heap.size := HC.out.size
    have hXX : we.heap.size ≤ X := HX.out
    have y4 : (wf.setCell ⟨w.heap.size, 0, none⟩ (.slice (some ⟨X, 0, none⟩) n n)).cell? ⟨w.heap.size + 1, 0, none⟩ = some (.int .i64 0) := by
      rw [World.cell?_setCell_far _ _ _ _ (by show w.heap.size ≠ w.heap.size + 1; omega)]; exact y1
    refine leaves_cons (f := 40) (args := #[.pointer (some ⟨w.heap.size, 0, none⟩), .pointer (some ⟨w.heap.size + 1, 0, none⟩)]) (by simp) (by simp [go_sem]) ?_
    refine (catch_idle ⟨w.heap.size, 0, none⟩ ⟨w.heap.size + 1, 0, none⟩ _).mono ?_
    rintro e u' w'' ⟨rfl, rfl, rfl⟩
    have z0 : ((wf.setCell ⟨w.heap.size, 0, none⟩ (.slice (some ⟨X, 0, none⟩) n n)).setCell ⟨w.heap.size + 1, 0, none⟩ (.int .i64 0)).cell? ⟨w.heap.size, 0, none⟩ = some (.slice (some ⟨X, 0, none⟩) n n) := by
      rw [World.cell?_setCell_far _ _ _ _ (by show w.heap.size + 1 ≠ w.heap.size; omega)]; exact World.cell?_setCell_same _ _ _ y0
    have z1 : ((wf.setCell ⟨w.heap.size, 0, none⟩ (.slice (some ⟨X, 0, none⟩) n n)).setCell ⟨w.heap.size + 1, 0, none⟩ (.int .i64 0)).cell? ⟨w.heap.size + 1, 0, none⟩ = some (.int .i64 0) := World.cell?_setCell_same _ _ _ y4
    have BB : Below w.heap.size w ((wf.setCell ⟨w.heap.size, 0, none⟩ (.slice (some ⟨X, 0, none⟩) n n)).setCell ⟨w.heap.size + 1, 0, none⟩ (.int .i64 0)) := ((bl_trans B1.out HF.out).setCell (p := ⟨w.heap.size, 0, none⟩) (Nat.le_refl _) _).setCell (p := ⟨w.heap.size + 1, 0, none⟩) (by show w.heap.size ≤ w.heap.size + 1; omega) _
    have RR : Rk ((wf.setCell ⟨w.heap.size, 0, none⟩ (.slice (some ⟨X, 0, none⟩) n n)).setCell ⟨w.heap.size + 1, 0, none⟩ (.int .i64 0)) X 0 n xs := (HR.out.but ((But.refl w.heap.size wf).set _) (by omega)).but ((But.refl (w.heap.size + 1) _).set _) (by omega)
    simp only [settle]
    refine ⟨.tuple #[.slice (some ⟨X, 0, none⟩) n n, .int .i64 0], by simp [results, Tryd.results21, go_sem, z0, z1], .slice (some ⟨X, 0, none⟩) n n, 0, rfl, ⟨BB, .inl ⟨rfl, HD.out, some ⟨X, 0, none⟩, n, xs, Nat.le_refl _, rfl, RR.il, HE2.out.solve (fun i hi => HSX.out i (Nat.zero_le _) hi)⟩⟩⟩
end Go.Proofs.YtnbcfchbhappeaaDoor.Al
