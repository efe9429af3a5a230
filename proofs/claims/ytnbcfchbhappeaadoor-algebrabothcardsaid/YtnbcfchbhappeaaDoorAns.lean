import Derived.Test.YtnbcfchbhappeaaDoorAhg
import Derived.Test.YtnbcfchbhappeaaDoorAco
import Derived.Test.YtnbcfchbhappeaaDoorApi
namespace Go.Proofs.YtnbcfchbhappeaaDoor.Al
open Go.RowKit
/-- the system's first rows are made -/
structure Ns (w0 w : World) (S n k : Nat) (b c : Nat → Nat) (A : Nat → Nat → Int) (r : Nat → Int) : Prop where
  h : ∀ i, i < k → w.cell? ⟨S, i, none⟩ = some (.slice (some ⟨b i, 0, none⟩) (n + 1) (c i))
  any : ∀ i, i < n → ∃ v, w.cell? ⟨S, i, none⟩ = some v
  hf : ∀ i, i < n → w.frozen? ⟨S, i, none⟩ = false
  cap : ∀ i, i < k → n + 1 ≤ c i
  r : ∀ i, i < k → Rk w (b i) 0 (n + 1) (fun j => if j < n then A i j else r i)
  apart : ∀ i j, i < k → j < k → i ≠ j → b i ≠ b j
  off : ∀ i, i < k → b i ≠ S
  ge : ∀ i, i < k → w0.heap.size ≤ b i
  lt : S < w.heap.size
theorem Ns.keep {w0 w w' : World} {S n k : Nat} {b c : Nat → Nat} {A : Nat → Nat → Int} {r : Nat → Int} (h : Ns w0 w S n k b c A r) (hb : Below w.heap.size w w') : Ns w0 w' S n k b c A r :=
  ⟨fun i hi => cell_keep (h.h i hi) hb, fun i hi => let ⟨v, e⟩ := h.any i hi; ⟨v, cell_keep e hb⟩, fun i hi => frozen_keep (h.hf i hi) h.lt hb, h.cap, fun i hi => (h.r i hi).keep hb, h.apart, h.off, h.ge, Nat.lt_of_lt_of_le h.lt hb.size⟩
theorem Ns.put {w0 w w' : World} {S n k g cap : Nat} {b c : Nat → Nat} {A : Nat → Nat → Int} {r : Nat → Int} (h : Ns w0 w S n k b c A r) (hk : k < n) (hb : Below w.heap.size w w') (h0 : w0.heap.size ≤ w.heap.size) (hg : w.heap.size ≤ g) (hc : n + 1 ≤ cap) (hR : Rk w' g 0 (n + 1) (fun j => if j < n then A k j else r k)) :
    Ns w0 (w'.setCell ⟨S, k, none⟩ (.slice (some ⟨g, 0, none⟩) (n + 1) cap)) S n (k + 1) (fun i => if i = k then g else b i) (fun i => if i = k then cap else c i) A r := by
  have h' := h.keep hb
  have hlb : ∀ i, i < k → b i < w.heap.size := fun i hi => (h.r i hi).lt
  have hgS : g ≠ S := by have := h.lt; omega
  obtain ⟨v0, e0⟩ := h'.any k hk
  refine ⟨fun i hi => ?_, fun i hi => ?_, fun i hi => by rw [World.frozen?_setCell]; exact h'.hf i hi, fun i hi => ?_, fun i hi => ?_, fun i j hi hj hn => ?_, fun i hi => ?_, fun i hi => ?_, by simpa using h'.lt⟩
  · by_cases e : i = k
    · subst e; simp only [if_pos]; exact World.cell?_setCell_same _ _ _ e0
    · simp only [if_neg e]
      rw [World.cell?_setCell_other _ _ _ _ (fun q => e (by have := congrArg Addr.off q; simp only at this; omega))]
      exact h'.h i (by omega)
  · by_cases e : i = k
    · subst e; exact ⟨_, World.cell?_setCell_same _ _ _ e0⟩
    · obtain ⟨v, hv⟩ := h'.any i hi
      exact ⟨v, by rw [World.cell?_setCell_other _ _ _ _ (fun q => e (by have := congrArg Addr.off q; simp only at this; omega))]; exact hv⟩
  · by_cases e : i = k
    · simp only [if_pos e]; exact hc
    · simp only [if_neg e]; exact h.cap i (by omega)
  · have bs : But S w' (w'.setCell ⟨S, k, none⟩ (.slice (some ⟨g, 0, none⟩) (n + 1) cap)) := (But.refl _ _).set _
    by_cases e : i = k
    · subst e
      simp only [if_pos]
      exact hR.but bs hgS
    · simp only [if_neg e]
      exact (h'.r i (by omega)).but bs (h.off i (by omega))
  · by_cases e1 : i = k
    · by_cases e2 : j = k
      · omega
      · simp only [if_pos e1, if_neg e2]; have := hlb j (by omega); omega
    · by_cases e2 : j = k
      · simp only [if_neg e1, if_pos e2]; have := hlb i (by omega); omega
      · simp only [if_neg e1, if_neg e2]; exact h.apart i j (by omega) (by omega) hn
  · by_cases e : i = k
    · simp only [if_pos e]; exact hgS
    · simp only [if_neg e]; exact h.off i (by omega)
  · by_cases e : i = k
    · simp only [if_pos e]; omega
    · simp only [if_neg e]; exact h.ge i (by omega)
theorem svl_app (f g : Nat → Int) (n : Nat) : svl f n ++ svl g 1 = svl (fun j => if j < n then f j else g 0) (n + 1) := by
  have e1 : svl (fun j => if j < n then f j else g 0) n = svl f n := by
    unfold svl
    refine List.map_congr_left fun k hk => ?_
    simp only
    rw [if_pos (by simpa using hk)]
  have e2 : svl g 1 = [.int .i64 (g 0)] := rfl
  rw [svl_succ (fun j => if j < n then f j else g 0) n, e1, e2]
  simp
theorem rowsinfo : (Tryd.prog.info? 46).map (fun i => (i.zero, i.size, i.bytes)) = some (some (.slice none 0 0), 1, 24) := by kernel_rfl
theorem Ns.start (w : World) (n : Nat) (A : Nat → Nat → Int) (r : Nat → Int) (t : TypeId) : Ns w (w.alloc (.cells (madeCells #[.slice none 0 0] n) t)) w.heap.size n 0 (fun _ => 0) (fun _ => 0) A r := by
  refine ⟨fun i hi => absurd hi (by omega), fun i hi => ⟨.slice none 0 0, ?_⟩, fun i hi => by go_simp, fun i hi => absurd hi (by omega), fun i hi => absurd hi (by omega), fun i j hi => absurd hi (by omega), fun i hi => absurd hi (by omega), fun i hi => absurd hi (by omega), by simp⟩
  rw [cell_of_row (w.alloc (.cells (madeCells #[.slice none 0 0] n) t)) w.heap.size i _ t (0, 0) (heap_alloc_new w _)]
  simp [madeCells, hi, Nat.mod_one]
set_option maxRecDepth 100000 in
set_option maxHeartbeats 4000000 in
theorem newSystem_any (P Q : Option Addr) (B o n cB cQ : Nat) (b f c : Nat → Nat) (A : Nat → Nat → Int) (r : Nat → Int) (w : World) (h40 : n ≤ 40) (hnQ : n ≤ cQ) (hP : 0 < n → P = some ⟨B, o, none⟩) (hM : Mt w B o n b f c A) (hQ : Il w Q n r) :
    Calls Tryd.prog 41 #[.slice P n cB, .slice Q n cQ] w fun e w' => ∃ (S : Nat) (b' c' : Nat → Nat), e = .returned (.slice (some ⟨S, 0, none⟩) n n) ∧ w.heap.size ≤ S ∧ Ns w w' S n n b' c' A r ∧ Below w.heap.size w w' := by
  have HM := hidden hM
  have HP := hidden hP
  have HQ := hidden hQ
  have H40 := hidden h40
  have HNQ := hidden hnQ
  have nn0 : (0 : Int) ≤ (n : Int) := by omega
  obtain ⟨i0, hi, hz0, hz1, hz2⟩ := info_parts rowsinfo
  have hmk := fun w => run_make (P := Tryd.prog) w 70 46 i0 (.slice none 0 0) (by kernel_rfl) hi hz0 .i64 .i64 (n : Int) (n : Int) (by omega) (Int.le_refl _) (by rw [hz2]; omega) (by omega)
  simp only [Int.toNat_natCast, hz1, Nat.mul_one, Value.cells] at hmk
  have N0 := hidden (Ns.start w n A r 46)
  have B0 := hidden (bl_alloc w (.cells (madeCells #[.slice none 0 0] n) 46))
  clear hM hP hQ h40 hnQ hi hz0 hz1 hz2
  go_enter Tryd.func41, Tryd.ntmps41
  go_wp2_with fail
  go_loopw [12] (fun kv w' => ∃ (k : Nat) (b' c' : Nat → Nat), k ≤ n ∧ kv = .int .i64 (k : Int) ∧ Hid (Ns w w' w.heap.size n k b' c' A r) ∧ Hid (Below w.heap.size w w')) (fun k _ => n - (intOf k).toNat)
  case atStart => exact ⟨0, _, _, by omega, rfl, N0, B0⟩
  case round =>
    clear N0 B0
    obtain ⟨k, b', c', hk, rfl, hN, hB⟩ := hrel
    by_cases hkn : k < n
    · have k0 : (0 : Int) ≤ (k : Int) := by omega
      have k1 : (k : Int) < (n : Int) := by omega
      have k2 : (k : Int) ≤ (k : Int) + 1 := by omega
      have k3 : (k : Int) + 1 ≤ (cQ : Int) := by have := HNQ.out; omega
      have k4 : (0 : Int) ≤ (k : Int) + 1 := by omega
      have w9 : IntKind.i64.wrap ((k : Int) + 1) = (k : Int) + 1 := IntWalk.i64_in _ (by have := H40.out; omega)
      obtain rfl := HP.out (by omega)
      obtain ⟨qa, oq, hQa, hqc⟩ := HQ.out
      obtain rfl := hQa (by omega)
      have c1 := cell_keep (cell_keep (HM.out.row k hkn) hB.out) (bl_drew _)
      have kq : ¬ cQ = k := by have := HNQ.out; omega
      have CO := hidden (concat_any wr.heap.size 2 n (c k) (cQ - k) (b k) (f k) qa (oq + k) (fun j => A k j) (fun _ => r k) (wr.alloc (.cells #[.slice (some ⟨b k, f k, none⟩) n (c k), .slice (some ⟨qa, oq + k, none⟩) 1 (cQ - k)] 46)).drew (by omega) H40.out (by go_simp) (by go_simp)
        (fun j hj => cell_keep (cell_keep (cell_keep (HM.out.el k j hkn hj) hB.out) (bl_alloc _ _)) (bl_drew _)) (fun j hj => by
          have e : j = 0 := by omega
          subst e
          exact cell_keep (cell_keep (cell_keep (hqc k hkn) hB.out) (bl_alloc _ _)) (bl_drew _)))
      have BA := hidden (bl_trans (bl_alloc wr (.cells #[.slice (some ⟨b k, f k, none⟩) n (c k), .slice (some ⟨qa, oq + k, none⟩) 1 (cQ - k)] 46)) (bl_drew _))
      clear hqc hQa
      go_upto_region 5 with fail
      go_region_with (first | (go_at_call 53; with_reducible refine (CO.out).mono ?_; rintro e wa ⟨v, rfl, ho, ha⟩; rw [svl_app] at ho; obtain ⟨g, cg, rfl, hcg, hgg, hR⟩ := own_rk ho (by omega); have hab := bl_trans BA.out ha; have hgg2 : wr.heap.size ≤ g := Nat.le_trans BA.out.size hgg; have NK := hN.out.keep hab; have f5 := NK.hf k hkn; obtain ⟨v5, c5⟩ := NK.any k hkn; have HAB := hidden hab; have HR := hidden hR; clear ho ha hR hab hgg NK))
      all_goals
        have B1 := hidden ((bl_trans hB.out HAB.out).setCell (p := ⟨w.heap.size, k, none⟩) (Nat.le_refl _) (.slice (some ⟨g, 0, none⟩) (n + 1) cg))
        have N1 := hidden (hN.out.put hkn HAB.out hB.out.size hgg2 hcg HR.out)
        clear c1 c5 f5 hB hN
        go_wp2_with fail
        go_roundw
        case rel => exact ⟨k + 1, _, _, by omega, by go_num, N1, B1⟩
        case measure => simp [intOf]; omega
    · obtain rfl : k = n := by omega
      clear hkn
      go_wp2_with fail
      refine bodyPost_ret (v := .slice (some ⟨w.heap.size, 0, none⟩) k k) (by simp [results, Tryd.results41, go_sem]) rfl ⟨w.heap.size, b', c', rfl, Nat.le_refl _, hN.out, hB.out⟩
end Go.Proofs.YtnbcfchbhappeaaDoor.Al
