import Derived.Test.YtpldkolphmbahaaDoorKb
namespace Go.Proofs.YtpldkolphmbahaaDoor
open Go.RowKit
set_option linter.unusedVariables false
/-- a claim of the program's over Line: m rows of n elements -/
def PC (w : World) (v : Value) (m n : Nat) (g : Nat → Nat → E4) (gi : Nat → E4) : Prop :=
  ∃ (rb ib : Nat) (bl : Nat → Nat), v = .agg #[.slice (some ⟨rb, 0, none⟩) m m, .slice (some ⟨ib, 0, none⟩) m m] ∧ (∀ k, k < m → w.cell? ⟨rb, k, none⟩ = some (.slice (some ⟨bl k, 0, none⟩) n n)) ∧ (∀ k, k < m → Rl w (bl k) 0 n (g k)) ∧ Rl w ib 0 m gi
/-- a claim of the document's -/
def DC (w : World) (v : Value) (m n : Nat) (g : Nat → Nat → E4) (gi : Nat → E4) : Prop :=
  ∃ (z : Value) (rb ib : Nat) (bl : Nat → Nat), v = .agg #[z, .slice (some ⟨rb, 0, none⟩) m m, .slice (some ⟨ib, 0, none⟩) m m] ∧ (∀ k, k < m → w.cell? ⟨rb, k, none⟩ = some (.slice (some ⟨bl k, 0, none⟩) n n)) ∧ (∀ k, k < m → Rk w (bl k) n (g k)) ∧ Rk w ib m gi
theorem PC.keep {w w' : World} {v : Value} {m n : Nat} {g : Nat → Nat → E4} {gi : Nat → E4} (h : PC w v m n g gi) (hb : Below w.heap.size w w') : PC w' v m n g gi := by
  obtain ⟨rb, ib, bl, rfl, h1, h2, h3⟩ := h
  exact ⟨rb, ib, bl, rfl, fun k hk => cell_keep (h1 k hk) hb, fun k hk => (h2 k hk).keep hb, h3.keep hb⟩
theorem DC.keep {w w' : World} {v : Value} {m n : Nat} {g : Nat → Nat → E4} {gi : Nat → E4} (h : DC w v m n g gi) (hb : Below w.heap.size w w') : DC w' v m n g gi := by
  obtain ⟨z, rb, ib, bl, rfl, h1, h2, h3⟩ := h
  exact ⟨z, rb, ib, bl, rfl, fun k hk => cell_keep (h1 k hk) hb, fun k hk => (h2 k hk).keep hb, h3.keep hb⟩
set_option maxRecDepth 100000 in
set_option maxHeartbeats 8000000 in
theorem isClaim_any (v v' : Value) (m n : Nat) (g h : Nat → Nat → E4) (gi hi : Nat → E4) (w : World) (hT : Tb w) (hm : m ≤ 1048576) (hn : n ≤ 1048576) (p : PC w v m n g gi) (d : DC w v' m n h hi)
    (og : ∀ k, k < m → ∀ j, j < n → (g k j).ok) (oi : ∀ k, k < m → (gi k).ok) (eg : ∀ k, k < m → ∀ j, j < n → h k j = lst (g k j).n) (ei : ∀ k, k < m → hi k = lst (gi k).n) :
    Calls Tryd.prog 6 #[v, v'] w fun e w' => e = .returned (.bool true) ∧ Below w.heap.size w w' := by
  obtain ⟨rb, ib, bl, rfl, p1, p2, p3⟩ := p
  obtain ⟨z, rb', ib', bl', rfl, d1, d2, d3⟩ := d
  have B0 := bl_alloc2 w (.cells #[.slice (some ⟨rb, 0, none⟩) m m, .slice (some ⟨ib, 0, none⟩) m m] 48) (.cells #[z, .slice (some ⟨rb', 0, none⟩) m m, .slice (some ⟨ib', 0, none⟩) m m] 52)
  have K1 := range_keepM (range_newM w [.slice (some ⟨rb, 0, none⟩) m m, .slice (some ⟨ib, 0, none⟩) m m] 48) (bl_alloc _ (.cells #[z, .slice (some ⟨rb', 0, none⟩) m m, .slice (some ⟨ib', 0, none⟩) m m] 52))
  have K2 := range_newM (w.alloc (.cells #[.slice (some ⟨rb, 0, none⟩) m m, .slice (some ⟨ib, 0, none⟩) m m] 48)) [z, .slice (some ⟨rb', 0, none⟩) m m, .slice (some ⟨ib', 0, none⟩) m m] 52
  simp only [World.size_alloc] at K2
  generalize hW : (w.alloc (.cells #[.slice (some ⟨rb, 0, none⟩) m m, .slice (some ⟨ib, 0, none⟩) m m] 48)).alloc (.cells #[z, .slice (some ⟨rb', 0, none⟩) m m, .slice (some ⟨ib', 0, none⟩) m m] 52) = W at B0 K1 K2
  have x0 : W.cell? ⟨w.heap.size, 0, none⟩ = some (.slice (some ⟨rb, 0, none⟩) m m) := K1 0 _ rfl
  have x1 : W.cell? ⟨w.heap.size, 1, none⟩ = some (.slice (some ⟨ib, 0, none⟩) m m) := K1 1 _ rfl
  have y1 : W.cell? ⟨w.heap.size + 1, 1, none⟩ = some (.slice (some ⟨rb', 0, none⟩) m m) := K2 1 _ rfl
  have y2 : W.cell? ⟨w.heap.size + 1, 2, none⟩ = some (.slice (some ⟨ib', 0, none⟩) m m) := K2 2 _ rfl
  have X0 := hidden x0
  have Y1 := hidden y1
  have TW := hidden (hT.keep B0)
  have CI := hidden (isLines_any ib ib' m m m gi hi W TW.out hm oi ei (p3.keep B0) (d3.keep B0))
  have P1 := hidden (fun k hk => cell_keep (p1 k hk) B0)
  have P2 := hidden (fun k hk => (p2 k hk).keep B0)
  have D1 := hidden (fun k hk => cell_keep (d1 k hk) B0)
  have D2 := hidden (fun k hk => (d2 k hk).keep B0)
  have OG := hidden og
  have EG := hidden eg
  have HB := hidden B0
  have HN := hidden hn
  have HM := hidden hm
  clear hT hm hn p1 p2 p3 d1 d2 d3 og oi eg ei B0 K1 K2
  go_enter Tryd.func6, Tryd.ntmps6
  go_upto_region 4 with (first | (go_at_call 14; refine (CI.out).mono ?_; rintro e wa ⟨rfl, ha⟩; have BA := hidden ha; clear ha CI x0 x1 y1 y2 hW))
  go_loopw [5] (fun kv w' => ∃ k : Nat, k ≤ m ∧ kv = .int .i64 (k : Int) ∧ Hid (Below W.heap.size W w')) (fun k _ => m - (intOf k).toNat)
  case atStart => exact ⟨0, by omega, rfl, BA⟩
  case round =>
    clear BA
    obtain ⟨k, hk, rfl, BW⟩ := hrel
    have x0 := cell_keep X0.out BW.out
    by_cases hkn : k < m
    · have k0 : (0 : Int) ≤ (k : Int) := by omega
      have k1 : (k : Int) < (m : Int) := by omega
      have w9 : IntKind.i64.wrap ((k : Int) + 1) = (k : Int) + 1 := IntWalk.i64_in _ (by have := HM.out; omega)
      have CL : Hid (∀ x : World, Below wr.heap.size wr x → Calls Tryd.prog 14 #[.slice (some ⟨bl k, 0, none⟩) n n, .slice (some ⟨bl' k, 0, none⟩) n n] x fun e w' => e = .returned (.bool true) ∧ Below x.heap.size x w') :=
        hidden (fun x hb => isLines_any (bl k) (bl' k) n n n (g k) (h k) x (TW.out.keep (bl_trans BW.out hb)) HN.out (OG.out k hkn) (EG.out k hkn) ((P2.out k hkn).keep (bl_trans BW.out hb)) ((D2.out k hkn).keep (bl_trans BW.out hb)))
      have HK : Hid (∀ x, Below wr.heap.size wr x → Below wr.heap.size wr x ∧ x.cell? ⟨w.heap.size, 0, none⟩ = some (.slice (some ⟨rb, 0, none⟩) m m) ∧ x.cell? ⟨w.heap.size + 1, 1, none⟩ = some (.slice (some ⟨rb', 0, none⟩) m m) ∧ x.cell? ⟨rb, k, none⟩ = some (.slice (some ⟨bl k, 0, none⟩) n n) ∧ x.cell? ⟨rb', k, none⟩ = some (.slice (some ⟨bl' k, 0, none⟩) n n)) :=
        hidden (fun x hb => ⟨hb, cell_keep X0.out (bl_trans BW.out hb), cell_keep Y1.out (bl_trans BW.out hb), cell_keep (P1.out k hkn) (bl_trans BW.out hb), cell_keep (D1.out k hkn) (bl_trans BW.out hb)⟩)
      go_upto_region 6 with fail
      clear x0
      have K0 := hidden (HK.out _ (drew_blW wr))
      go_region_held3 (fun x => Below wr.heap.size wr x ∧ x.cell? ⟨w.heap.size, 0, none⟩ = some (.slice (some ⟨rb, 0, none⟩) m m) ∧ x.cell? ⟨w.heap.size + 1, 1, none⟩ = some (.slice (some ⟨rb', 0, none⟩) m m) ∧ x.cell? ⟨rb, k, none⟩ = some (.slice (some ⟨bl k, 0, none⟩) n n) ∧ x.cell? ⟨rb', k, none⟩ = some (.slice (some ⟨bl' k, 0, none⟩) n n)) (first | with_reducible exact K0.out | with_reducible exact hk2.out)
        (first | (go_at_call 14; with_reducible refine (CL.out _ (And.left (by assumption))).mono ?_; rintro e wn ⟨rfl, hb⟩; have hk2 := hidden (HK.out _ (bl_trans (And.left K0.out) hb))))
      go_wp2_with fail
      go_roundw
      case rel => exact ⟨k + 1, by omega, by go_num, hidden (bl_trans BW.out hk2.out.1)⟩
      case measure => simp [intOf]; omega
    · have lq : ¬ (k : Int) < (m : Int) := by omega
      go_wp2_with fail
      refine bodyPost_ret (v := .bool true) (by simp [results, Tryd.results6, go_sem]) rfl ⟨rfl, bl_trans HB.out BW.out⟩
end Go.Proofs.YtpldkolphmbahaaDoor
