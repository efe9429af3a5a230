import Derived.Test.YtlijigolfggcfaaDoorGi
namespace Go.Proofs.YtlijigolfggcfaaDoor
open Go.RowKit
theorem grown_setCellG (w : World) (a : Addr) (u : Value) : w.grownBy (w.setCell a u) (some a.block) :=
  ⟨rfl, rfl, rfl, by simp, fun k _ hk => heap_setCell_other w a k u (fun e => hk (by rw [e]))⟩
theorem own_ne {w : World} {B C s1 s2 n1 n2 : Nat} {e1 e2 : TypeId} {v1 v2 : Value} {x1 x2 : List Value} (h1 : w.ownsRow B e1 s1 v1 n1 x1) (h2 : w.ownsRow C e2 s2 v2 n2 x2) (hne : e1 ≠ e2) : v1.ownBlock = none ∨ v1.ownBlock ≠ v2.ownBlock := by
  rcases h1.2 with ⟨rfl, _⟩ | ⟨g, cap, cur, rfl, _, hg, _⟩
  · exact .inl rfl
  · refine .inr fun he => ?_
    rcases h2.2 with ⟨rfl, _⟩ | ⟨g2, cap2, cur2, rfl, _, hg2, _⟩
    · simp [Value.ownBlock] at he
    · simp only [Value.ownBlock, Option.some.injEq] at he
      subst he
      rw [hg] at hg2
      simp only [Option.some.injEq, Obj.cells.injEq] at hg2
      exact hne hg2.2.1
theorem own_nb {w : World} {B s1 n1 b : Nat} {e1 e2 : TypeId} {v1 : Value} {x1 : List Value} {C : Array Value} (h1 : w.ownsRow B e1 s1 v1 n1 x1) (h2 : w.heap[b]? = some (.cells C e2 (0, 0))) (hne : e1 ≠ e2) : v1.ownBlock ≠ some b := by
  rcases h1.2 with ⟨rfl, _⟩ | ⟨g, cap, cur, rfl, _, hg, _⟩
  · simp [Value.ownBlock]
  · intro he
    simp only [Value.ownBlock, Option.some.injEq] at he
    subst he
    rw [hg] at h2
    simp only [Option.some.injEq, Obj.cells.injEq] at h2
    exact hne h2.2.1
/-- the cells of the document's elements of lists -/
def fvs (n : Nat) (f : Nat → Value) : List Value := (List.range n).flatMap fun k => fe (f k)
theorem fvs_succ (n : Nat) (f : Nat → Value) : fvs (n + 1) f = fvs n f ++ fe (f n) := by simp [fvs, List.range_succ]
theorem fvs_len (n : Nat) (f : Nat → Value) : (fvs n f).length = n * 26 := by
  induction n with
  | zero => rfl
  | succ n ih => rw [fvs_succ, List.length_append, ih, fe_len]; omega
theorem fvs_congr {n : Nat} {f g : Nat → Value} (h : ∀ k, k < n → f k = g k) : fvs n f = fvs n g := by
  induction n with
  | zero => rfl
  | succ n ih => rw [fvs_succ, fvs_succ, ih (fun k hk => h k (by omega)), h n (by omega)]
/-- a list of the document's elements, the j-th with 1 in place o + j -/
def OL (B o : Nat) (w : World) (v : Value) (k : Nat) : Prop := ∃ f : Nat → Value, w.ownsRow B 44 26 v k (fvs k f) ∧ ∀ j, j < k → w.ownsRow B 41 4 (f j) (o + j + 1) (svs (o + j + 1) (uf (o + j)))
theorem none_or (v : Value) : v.ownBlock = none ∨ v.ownBlock ≠ none := by cases v.ownBlock <;> simp
theorem OL.keep {B o : Nat} {w w' : World} {v : Value} {k : Nat} (h : OL B o w v k) (hb : Below w.heap.size w w') : OL B o w' v k := by
  obtain ⟨f, h1, h2⟩ := h
  have hg : w.grownBy w' none := ⟨hb.os, hb.tape, hb.output, hb.size, fun k hk _ => hb.block k hk⟩
  exact ⟨f, h1.kept hg (none_or _), fun j hj => (h2 j hj).kept hg (none_or _)⟩
/-- another list, or the set, is written -/
theorem OL.kept {B o : Nat} {w w' : World} {v : Value} {k : Nat} {row : Option Nat} (h : OL B o w v k) (hg : w.grownBy w' row) (hv : v.ownBlock = none ∨ v.ownBlock ≠ row) (hr : ∀ {L : Value} {m : Nat} {xs : List Value}, w.ownsRow B 41 4 L m xs → L.ownBlock = none ∨ L.ownBlock ≠ row) : OL B o w' v k := by
  obtain ⟨f, h1, h2⟩ := h
  exact ⟨f, h1.kept hg hv, fun j hj => (h2 j hj).kept hg (hr (h2 j hj))⟩
theorem OL.own {B o : Nat} {w : World} {v : Value} {k : Nat} (h : OL B o w v k) : ∃ xs, w.ownsRow B 44 26 v k xs := by
  obtain ⟨f, h1, _⟩ := h
  exact ⟨_, h1⟩
/-- what stands ahead of the two lists of the document's set -/
def hd3 (L0 L1 L2 : Value) : List Value := .int .i64 3 :: (fe L0 ++ fe L1 ++ fe L2)
theorem hd3_len (L0 L1 L2 : Value) : (hd3 L0 L1 L2).length = 79 := rfl
/-- the document's set, with k1 of G and k2 of H -/
structure Sr (B n : Nat) (w : World) (s : Nat) (L0 L1 L2 : Value) (k1 k2 : Nat) (Gv Hv : Value) : Prop where
  lt : B ≤ s
  ps : w.heap[s]? = some (.cells (hd3 L0 L1 L2 ++ [Gv, Hv]).toArray 47 (0, 0))
  g : OL B 3 w Gv k1
  h : OL B (3 + n) w Hv k2
  d : Gv.ownBlock = none ∨ Gv.ownBlock ≠ Hv.ownBlock
  l0 : w.ownsRow B 41 4 L0 1 (svs 1 (uf 0))
  l1 : w.ownsRow B 41 4 L1 2 (svs 2 (uf 1))
  l2 : w.ownsRow B 41 4 L2 3 (svs 3 (uf 2))
theorem Sr.slt {B n s k1 k2 : Nat} {w : World} {L0 L1 L2 Gv Hv : Value} (h : Sr B n w s L0 L1 L2 k1 k2 Gv Hv) : s < w.heap.size := (Array.getElem?_eq_some_iff.1 h.ps).1
theorem Sr.keep {B n s k1 k2 : Nat} {w w' : World} {L0 L1 L2 Gv Hv : Value} (h : Sr B n w s L0 L1 L2 k1 k2 Gv Hv) (hb : Below w.heap.size w w') : Sr B n w' s L0 L1 L2 k1 k2 Gv Hv := by
  have hg : w.grownBy w' none := ⟨hb.os, hb.tape, hb.output, hb.size, fun k hk _ => hb.block k hk⟩
  exact ⟨h.lt, (hb.block s h.slt).trans h.ps, h.g.keep hb, h.h.keep hb, h.d, h.l0.kept hg (none_or _), h.l1.kept hg (none_or _), h.l2.kept hg (none_or _)⟩
theorem Sr.c79 {B n s k1 k2 : Nat} {w : World} {L0 L1 L2 Gv Hv : Value} (h : Sr B n w s L0 L1 L2 k1 k2 Gv Hv) : w.cell? ⟨s, 79, none⟩ = some Gv := by rw [cell_of_row w s 79 _ _ (0, 0) h.ps]; rfl
theorem Sr.c80 {B n s k1 k2 : Nat} {w : World} {L0 L1 L2 Gv Hv : Value} (h : Sr B n w s L0 L1 L2 k1 k2 Gv Hv) : w.cell? ⟨s, 80, none⟩ = some Hv := by rw [cell_of_row w s 80 _ _ (0, 0) h.ps]; rfl
theorem Sr.fr {B n s k1 k2 : Nat} {w : World} {L0 L1 L2 Gv Hv : Value} (h : Sr B n w s L0 L1 L2 k1 k2 Gv Hv) (j : Nat) : w.frozen? ⟨s, j, none⟩ = false := frozen_of_row w s j _ _ h.ps
theorem et_ne : (41 : TypeId) ≠ 44 := by decide
theorem es_ne : (44 : TypeId) ≠ 47 := by decide
theorem ls_ne : (41 : TypeId) ≠ 47 := by decide
theorem own_far {w : World} {B s n b o : Nat} {e : TypeId} {v : Value} {xs : List Value} (h : w.ownsRow B e s v n xs) (hb : v.ownBlock ≠ some b) (u : Value) : (w.setCell ⟨b, o, none⟩ u).ownsRow B e s v n xs := h.kept (grown_setCellG w ⟨b, o, none⟩ u) (.inr hb)
/-- one more of G -/
theorem Sr.addG {B n s k1 k2 : Nat} {w w' : World} {L0 L1 L2 Gv Hv L v' : Value} (h : Sr B n w s L0 L1 L2 k1 k2 Gv Hv) (hL : w.ownsRow B 41 4 L (3 + k1 + 1) (svs (3 + k1 + 1) (uf (3 + k1))))
    (f : Nat → Value) (hf : ∀ j, j < k1 → w.ownsRow B 41 4 (f j) (3 + j + 1) (svs (3 + j + 1) (uf (3 + j)))) (hG : w.ownsRow B 44 26 Gv k1 (fvs k1 f)) (ho : w'.ownsRow B 44 26 v' (k1 + 1) (fvs k1 f ++ fe L)) (hg : w.grownBy w' Gv.ownBlock) (hat : v'.ownBlock = Gv.ownBlock ∨ v'.ownBlock = some w.heap.size) :
    Sr B n (w'.setCell ⟨s, 79, none⟩ v') s L0 L1 L2 (k1 + 1) k2 v' Hv ∧ w'.cell? ⟨s, 79, none⟩ = some Gv ∧ w'.frozen? ⟨s, 79, none⟩ = false := by
  have hs := own_nb hG h.ps es_ne
  have ps' : w'.heap[s]? = some (.cells (hd3 L0 L1 L2 ++ [Gv, Hv]).toArray 47 (0, 0)) := (hg.block s h.slt (fun e => hs e.symm)).trans h.ps
  have lk : ∀ {L : Value} {m : Nat} {xs : List Value}, w.ownsRow B 41 4 L m xs → w'.ownsRow B 41 4 L m xs := fun hl => hl.kept hg (own_ne hl hG et_ne)
  have lf : ∀ {L : Value} {m : Nat} {xs : List Value}, w'.ownsRow B 41 4 L m xs → (w'.setCell ⟨s, 79, none⟩ v').ownsRow B 41 4 L m xs := fun hl => own_far hl (own_nb hl ps' ls_ne) _
  obtain ⟨xH, oH⟩ := h.h.own
  have hH : OL B (3 + n) w' Hv k2 := h.h.kept hg (by
    rcases h.d with e | e
    · rw [e]; exact none_or _
    · exact .inr (Ne.symm e)) (fun hl => own_ne hl hG et_ne)
  refine ⟨⟨h.lt, ?_, ⟨fun j => if j = k1 then L else f j, ?_, fun j hj => ?_⟩, ?_, ?_, lf (lk h.l0), lf (lk h.l1), lf (lk h.l2)⟩, ?_, frozen_of_row w' s 79 _ _ ps'⟩
  · exact heap_setCell_same w' s 79 _ _ v' ps'
  · rw [fvs_succ, if_pos rfl, fvs_congr (f := fun j => if j = k1 then L else f j) (g := f) (fun j hj => if_neg (by omega))]
    exact own_far ho (own_nb ho ps' es_ne) _
  · by_cases e : j = k1
    · simp only [if_pos e]; subst e; exact lf (lk hL)
    · simp only [if_neg e]; exact lf (lk (hf j (by omega)))
  · obtain ⟨xH', oH'⟩ := hH.own
    exact hH.kept (grown_setCellG w' ⟨s, 79, none⟩ v') (.inr (own_nb oH' ps' es_ne)) (fun hl => .inr (own_nb hl ps' ls_ne))
  · rcases hat with e | e
    · rw [e]; exact h.d
    · refine .inr fun e2 => ?_
      have := oH.lt w.heap.size (by rw [← e2, e])
      omega
  · rw [cell_of_row w' s 79 _ _ (0, 0) ps']; rfl
/-- one more of H -/
theorem Sr.addH {B n s k1 k2 : Nat} {w w' : World} {L0 L1 L2 Gv Hv L v' : Value} (h : Sr B n w s L0 L1 L2 k1 k2 Gv Hv) (hL : w.ownsRow B 41 4 L (3 + n + k2 + 1) (svs (3 + n + k2 + 1) (uf (3 + n + k2))))
    (f : Nat → Value) (hf : ∀ j, j < k2 → w.ownsRow B 41 4 (f j) (3 + n + j + 1) (svs (3 + n + j + 1) (uf (3 + n + j)))) (hG : w.ownsRow B 44 26 Hv k2 (fvs k2 f)) (ho : w'.ownsRow B 44 26 v' (k2 + 1) (fvs k2 f ++ fe L)) (hg : w.grownBy w' Hv.ownBlock) (hat : v'.ownBlock = Hv.ownBlock ∨ v'.ownBlock = some w.heap.size) :
    Sr B n (w'.setCell ⟨s, 80, none⟩ v') s L0 L1 L2 k1 (k2 + 1) Gv v' ∧ w'.cell? ⟨s, 80, none⟩ = some Hv ∧ w'.frozen? ⟨s, 80, none⟩ = false := by
  have hs := own_nb hG h.ps es_ne
  have ps' : w'.heap[s]? = some (.cells (hd3 L0 L1 L2 ++ [Gv, Hv]).toArray 47 (0, 0)) := (hg.block s h.slt (fun e => hs e.symm)).trans h.ps
  have lk : ∀ {L : Value} {m : Nat} {xs : List Value}, w.ownsRow B 41 4 L m xs → w'.ownsRow B 41 4 L m xs := fun hl => hl.kept hg (own_ne hl hG et_ne)
  have lf : ∀ {L : Value} {m : Nat} {xs : List Value}, w'.ownsRow B 41 4 L m xs → (w'.setCell ⟨s, 80, none⟩ v').ownsRow B 41 4 L m xs := fun hl => own_far hl (own_nb hl ps' ls_ne) _
  obtain ⟨xH, oH⟩ := h.g.own
  have hH : OL B 3 w' Gv k1 := h.g.kept hg h.d (fun hl => own_ne hl hG et_ne)
  refine ⟨⟨h.lt, ?_, ?_, ⟨fun j => if j = k2 then L else f j, ?_, fun j hj => ?_⟩, ?_, lf (lk h.l0), lf (lk h.l1), lf (lk h.l2)⟩, ?_, frozen_of_row w' s 80 _ _ ps'⟩
  · exact heap_setCell_same w' s 80 _ _ v' ps'
  · obtain ⟨xH', oH'⟩ := hH.own
    exact hH.kept (grown_setCellG w' ⟨s, 80, none⟩ v') (.inr (own_nb oH' ps' es_ne)) (fun hl => .inr (own_nb hl ps' ls_ne))
  · rw [fvs_succ, if_pos rfl, fvs_congr (f := fun j => if j = k2 then L else f j) (g := f) (fun j hj => if_neg (by omega))]
    exact own_far ho (own_nb ho ps' es_ne) _
  · by_cases e : j = k2
    · simp only [if_pos e]; subst e; exact lf (lk hL)
    · simp only [if_neg e]; exact lf (lk (hf j (by omega)))
  · rcases hat with e | e
    · rw [e]; exact h.d
    · rcases hk : Gv.ownBlock with _ | gb
      · exact .inl rfl
      · refine .inr fun e2 => ?_
        have := oH.lt w.heap.size (by rw [hk, e2, e])
        omega
  · rw [cell_of_row w' s 80 _ _ (0, 0) ps']; rfl
theorem buildE (P : Option Addr) (n c : Nat) (w : World) : (Instr.buildSlice 45 1 #[(0, .agg (fe (.slice P n c)).toArray)]).run Tryd.prog w = .ok (.slice (some ⟨w.heap.size, 0, none⟩) 1 1) (w.alloc (.cells (fe (.slice P n c)).toArray 44)) := by kernel_rfl
end Go.Proofs.YtlijigolfggcfaaDoor
