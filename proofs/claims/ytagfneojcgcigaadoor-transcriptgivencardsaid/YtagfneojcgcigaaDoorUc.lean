import Derived.Test.YtagfneojcgcigaaDoorUb
namespace Go.Proofs.YtagfneojcgcigaaDoor.Tr
open Go.RowKit
/-- lists that may be written over -/
structure Sp (w : World) (S : Nat → Prop) (b k i0 : Nat) (n C : Nat → Nat) (Q : Nat → Option Addr) : Prop where
  hd : ∀ i, i0 ≤ i → i < k → w.cell? ⟨b, i, none⟩ = some (.slice (Q i) (n i) (C i))
  fr : ∀ i, i < k → w.frozen? ⟨b, i, none⟩ = false
  row : ∀ i, i < k → 0 < n i → ∃ g, Q i = some ⟨g, 0, none⟩ ∧ g ≠ b ∧ S g ∧ ∀ j, j < n i → (∃ x : UInt8, w.cell? ⟨g, j, none⟩ = some (.int .u8 (x.toNat : Int))) ∧ w.frozen? ⟨g, j, none⟩ = false
  lt : ∀ i, i < k → n i ≤ 2 ^ 60
theorem Sp.setRow {w : World} {S : Nat → Prop} {b k i0 : Nat} {n C : Nat → Nat} {Q : Nat → Option Addr} (h : Sp w S b k i0 n C Q) {g : Nat} (hg : g ≠ b) (j : Nat) (y : UInt8) : Sp (w.setCell ⟨g, j, none⟩ (.int .u8 (y.toNat : Int))) S b k i0 n C Q := by
  refine ⟨fun i h1 h2 => ?_, fun i hi => ?_, fun i hi hn => ?_, h.lt⟩
  · rw [World.cell?_setCell_far _ _ _ _ (by exact hg)]
    exact h.hd i h1 h2
  · rw [World.frozen?_setCell]
    exact h.fr i hi
  · obtain ⟨g', e, hb, hs, hr⟩ := h.row i hi hn
    refine ⟨g', e, hb, hs, fun t ht => ⟨?_, by rw [World.frozen?_setCell]; exact (hr t ht).2⟩⟩
    obtain ⟨x, hx⟩ := (hr t ht).1
    by_cases e1 : g = g' ∧ j = t
    · obtain ⟨rfl, rfl⟩ := e1
      exact ⟨y, World.cell?_setCell_same _ _ _ hx⟩
    · refine ⟨x, ?_⟩
      rw [World.cell?_setCell_other _ _ _ _ (fun e2 => e1 (by simp only [Addr.mk.injEq, and_true] at e2; exact e2))]
      exact hx
theorem Sp.setHd {w : World} {S : Nat → Prop} {b k i0 : Nat} {n C : Nat → Nat} {Q : Nat → Option Addr} (h : Sp w S b k i0 n C Q) (v : Value) : Sp (w.setCell ⟨b, i0, none⟩ v) S b k (i0 + 1) n C Q := by
  refine ⟨fun i h1 h2 => ?_, fun i hi => ?_, fun i hi hn => ?_, h.lt⟩
  · rw [World.cell?_setCell_other _ _ _ _ (fun e2 => by simp only [Addr.mk.injEq, and_true, true_and] at e2; omega)]
    exact h.hd i (by omega) h2
  · rw [World.frozen?_setCell]
    exact h.fr i hi
  · obtain ⟨g', e, hb, hs, hr⟩ := h.row i hi hn
    refine ⟨g', e, hb, hs, fun t ht => ⟨?_, by rw [World.frozen?_setCell]; exact (hr t ht).2⟩⟩
    obtain ⟨x, hx⟩ := (hr t ht).1
    refine ⟨x, ?_⟩
    rw [World.cell?_setCell_far _ _ _ _ (by exact fun e => hb e.symm)]
    exact hx
theorem Sp.drew {w : World} {S : Nat → Prop} {b k i0 : Nat} {n C : Nat → Nat} {Q : Nat → Option Addr} (h : Sp w S b k i0 n C Q) : Sp w.drew S b k i0 n C Q := ⟨h.hd, h.fr, h.row, h.lt⟩
set_option maxRecDepth 100000 in
set_option maxHeartbeats 8000000 in
theorem spoil_any (S : Nat → Prop) (P : Option Addr) (b k cap : Nat) (n C : Nat → Nat) (Q : Nat → Option Addr) (w : World) (hP : 0 < k → P = some ⟨b, 0, none⟩) (hS : 0 < k → S b) (h : Sp w S b k 0 n C Q) (hk : k ≤ 2 ^ 60) :
    Calls Tryd.prog 9 #[.slice P k cap] w fun e w' => e = .returned (.tuple #[]) ∧ Bt S w w' := by
  have HP := hidden hP
  have HS := hidden hS
  have H := hidden h
  have HK := hidden hk
  clear hP hS h hk
  go_enter Tryd.func9, Tryd.ntmps9
  go_wp2_with fail
  go_loopw [2] (fun iv w' => ∃ i : Nat, i ≤ k ∧ iv = .int .i64 (i : Int) ∧ Hid (Sp w' S b k i n C Q) ∧ Hid (Bt S w w')) (fun i _ => k - (intOf i).toNat)
  case atStart => exact ⟨0, by omega, rfl, H, hidden (Bt.refl _ _)⟩
  case round =>
    clear H
    obtain ⟨i, hi, rfl, H, HB⟩ := hrel
    by_cases hin : i < k
    · obtain rfl := HP.out (by omega)
      have ii0 : (0 : Int) ≤ (i : Int) := by omega
      have ii1 : (i : Int) < (k : Int) := by omega
      have w9 : IntKind.i64.wrap ((i : Int) + 1) = (i : Int) + 1 := IntWalk.i64_in _ (by have := HK.out; omega)
      have HNL := hidden (H.out.lt i hin)
      obtain ⟨m, hm⟩ : ∃ m, m = n i := ⟨_, rfl⟩
      have HM := hidden hm
      rw [← hm] at HNL
      clear hm
      go_upto_region 3 with fail
      go_wp2_with fail
      go_loopw [3] (fun jv w' => ∃ j : Nat, j ≤ m ∧ jv = .int .i64 (j : Int) ∧ Hid (Sp w' S b k i n C Q) ∧ Hid (Bt S w w')) (fun j _ => m - (intOf j).toNat)
      case atStart => exact ⟨0, by omega, rfl, H, HB⟩
      case round =>
        clear H HB
        rename World => wv
        obtain ⟨j, hj, rfl, H, HB⟩ := hrel
        have x0 := H.out.hd i (Nat.le_refl _) hin
        rw [← HM.out] at x0
        by_cases hjn : j < m
        · obtain ⟨g, hq, hgb, hsg, hr⟩ := H.out.row i hin (by rw [← HM.out]; omega)
          rw [hq] at x0
          obtain ⟨⟨x, hx⟩, hf⟩ := hr j (by rw [← HM.out]; exact hjn)
          have x1 : wv.drew.cell? ⟨b, i, none⟩ = some (.slice (some ⟨g, 0, none⟩) m (C i)) := x0
          have x2 : wv.drew.cell? ⟨g, j, none⟩ = some (.int .u8 (x.toNat : Int)) := hx
          have f2 : wv.drew.frozen? ⟨g, j, none⟩ = false := hf
          have j0 : (0 : Int) ≤ (j : Int) := by omega
          have j1 : (j : Int) < (m : Int) := by omega
          have w8 : IntKind.i64.wrap ((j : Int) + 1) = (j : Int) + 1 := IntWalk.i64_in _ (by have := HNL.out; omega)
          have hxx : bits .xor .u8 (x.toNat : Int) 119 = ((x ^^^ 119).toNat : Int) := bits_xor8 x 119
          have NH := hidden (H.out.setRow hgb j (x ^^^ 119)).drew
          have NB := hidden ((HB.out.trans (Bt.set (w := wv) (S := S) hsg j (.int .u8 ((x ^^^ 119).toNat : Int)))).trans (Bt.of (drew_blW _)))
          generalize ((x ^^^ 119).toNat : Int) = y at hxx NH NB
          generalize (x.toNat : Int) = z at hxx x2
          clear hr hx hf hq H HB
          go_upto_region 6 with fail
          go_big_region
          all_goals
            clear x0 x1 x2 f2 hxx
            go_wp2_with fail
            go_roundw
            case rel => exact ⟨j + 1, by omega, by go_num, NH, NB⟩
            case measure => simp [intOf]; omega
        · obtain rfl : j = m := by omega
          have lq : ¬ (j : Int) < (j : Int) := by omega
          have f0 := H.out.fr i hin
          have NH := hidden (H.out.setHd (.slice none 0 0))
          have NB := hidden (HB.out.trans (Bt.set (w := wv) (S := S) (HS.out (by omega)) i (.slice none 0 0)))
          go_wp2_with fail
          refine ⟨⟨i + 1, by omega, by go_num, NH, NB⟩, by simp [intOf]; omega⟩
    · obtain rfl : i = k := by omega
      have lq : ¬ (i : Int) < (i : Int) := by omega
      go_wp2_with fail
      refine bodyPost_end (v := .tuple #[]) (by simp [results, Tryd.results9, go_sem]) rfl ⟨rfl, HB.out⟩
end Go.Proofs.YtagfneojcgcigaaDoor.Tr
