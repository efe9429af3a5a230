import Derived.Test.YtagfneojcgcigaaDoorTj
namespace Go.Proofs.YtagfneojcgcigaaDoor.Tr
open Go.RowKit
theorem own_blk {w w' : World} {base size n : Nat} {e : TypeId} {v : Value} {xs : List Value} (h : w.ownsRow base e size v n xs) (hb : ∀ g, v.ownBlock = some g → w'.heap[g]? = w.heap[g]?) : w'.ownsRow base e size v n xs := by
  refine ⟨h.1, ?_⟩
  rcases h.2 with hn | ⟨g, cap, cur, rfl, hbg, hgg, rest⟩
  · exact .inl hn
  · refine .inr ⟨g, cap, cur, rfl, hbg, ?_, rest⟩
    rw [hb g rfl]
    exact hgg
theorem own_base {w : World} {base b size n : Nat} {e : TypeId} {v : Value} {xs : List Value} (h : w.ownsRow base e size v n xs) (hb : b ≤ base) : w.ownsRow b e size v n xs := by
  refine ⟨h.1, ?_⟩
  rcases h.2 with hn | ⟨g, cap, cur, rfl, hbg, rest⟩
  · exact .inl hn
  · exact .inr ⟨g, cap, cur, rfl, by omega, rest⟩
/-- a box of two cells -/
def B2 (w : World) (b : Nat) (t : TypeId) (x y : Value) : Prop := w.heap[b]? = some (.cells #[x, y] t (0, 0))
theorem B2.c0 {w : World} {b : Nat} {t : TypeId} {x y : Value} (h : B2 w b t x y) : w.cell? ⟨b, 0, none⟩ = some x := by
  rw [cell_of_row w b 0 _ t (0, 0) h]; rfl
theorem B2.c1 {w : World} {b : Nat} {t : TypeId} {x y : Value} (h : B2 w b t x y) : w.cell? ⟨b, 1, none⟩ = some y := by
  rw [cell_of_row w b 1 _ t (0, 0) h]; rfl
theorem B2.f {w : World} {b : Nat} {t : TypeId} {x y : Value} (h : B2 w b t x y) (j : Nat) : w.frozen? ⟨b, j, none⟩ = false := frozen_of_row w b j _ t h
theorem B2.lt {w : World} {b : Nat} {t : TypeId} {x y : Value} (h : B2 w b t x y) : b < w.heap.size := (Array.getElem?_eq_some_iff.1 h).1
theorem B2.set0 {w : World} {b : Nat} {t : TypeId} {x y : Value} (h : B2 w b t x y) (v : Value) : B2 (w.setCell ⟨b, 0, none⟩ v) b t v y := heap_setCell_same w b 0 _ t v h
theorem B2.set1 {w : World} {b : Nat} {t : TypeId} {x y : Value} (h : B2 w b t x y) (v : Value) : B2 (w.setCell ⟨b, 1, none⟩ v) b t x v := heap_setCell_same w b 1 _ t v h
theorem B2.blk {w w' : World} {b : Nat} {t : TypeId} {x y : Value} (h : B2 w b t x y) (e : w'.heap[b]? = w.heap[b]?) : B2 w' b t x y := e.trans h
theorem B2.keep {w w' : World} {b n : Nat} {t : TypeId} {x y : Value} (h : B2 w b t x y) (e : Below n w w') (hb : b < n) : B2 w' b t x y := h.blk (e.block b hb)
theorem set_ne (w : World) (b j k : Nat) (v : Value) (h : k ≠ b) : (w.setCell ⟨b, j, none⟩ v).heap[k]? = w.heap[k]? := heap_setCell_other w ⟨b, j, none⟩ k v (fun e => h e)
/-- headers -/
def shd (n f cp : Nat → Nat) (k : Nat) : List Value := (List.range k).map fun i => .slice (some ⟨f i, 0, none⟩) (n i) (cp i)
theorem shd_len (n f cp : Nat → Nat) (k : Nat) : (shd n f cp k).length = k := by simp [shd]
theorem shd_succ (n f cp : Nat → Nat) (k : Nat) : shd n f cp (k + 1) = shd n f cp k ++ [.slice (some ⟨f k, 0, none⟩) (n k) (cp k)] := by simp [shd, List.range_succ]
theorem shd_at (n f cp : Nat → Nat) (k i : Nat) (h : i < k) : (shd n f cp k)[i]? = some (.slice (some ⟨f i, 0, none⟩) (n i) (cp i)) := by simp [shd, List.getElem?_range h]
def upd (f : Nat → Nat) (k x : Nat) : Nat → Nat := fun i => if i = k then x else f i
theorem upd_at (f : Nat → Nat) (k x : Nat) : upd f k x k = x := if_pos rfl
theorem upd_ne (f : Nat → Nat) (k x i : Nat) (h : i ≠ k) : upd f k x i = f i := if_neg h
theorem shd_upd (n f cp : Nat → Nat) (k m g c : Nat) (h : k ≤ m) : shd n (upd f m g) (upd cp m c) k = shd n f cp k := by
  unfold shd
  refine List.map_congr_left fun i hi => ?_
  have := List.mem_range.1 hi
  rw [upd_ne _ _ _ _ (by omega), upd_ne _ _ _ _ (by omega)]
/-- the marks -/
def mk8 : List UInt8 := [11, 12, 13, 14, 15, 16, 17, 18]
/-- lists that are handed in -/
structure Hd (w : World) (base : Nat) (vF vH : Value) (kF kH kR : Nat) (ex : List Value) (n : Nat → Nat) (r : Nat → List UInt8) (f cp : Nat → Nat) : Prop where
  full : w.ownsRow base 55 1 vF kF (shd (fun i => n i + 8) f cp kF)
  head : w.ownsRow base 55 1 vH (kH + ex.length) (shd n f cp kH ++ ex)
  row : ∀ i, i < kR → w.ownsRow base 5 1 (.slice (some ⟨f i, 0, none⟩) (n i + 8) (cp i)) (n i + 8) (cb (r i))
  off : ∀ i, i < kR → vF.ownBlock ≠ some (f i) ∧ vH.ownBlock ≠ some (f i)
  ne : ∀ i j, i < kR → j < kR → i ≠ j → f i ≠ f j
  fh : vF.ownBlock = none ∨ vF.ownBlock ≠ vH.ownBlock
theorem Hd.keep {w w' : World} {base : Nat} {vF vH : Value} {kF kH kR : Nat} {ex : List Value} {n : Nat → Nat} {r : Nat → List UInt8} {f cp : Nat → Nat} (h : Hd w base vF vH kF kH kR ex n r f cp) (hb : ∀ k, base ≤ k → k < w.heap.size → w'.heap[k]? = w.heap[k]?) : Hd w' base vF vH kF kH kR ex n r f cp :=
  ⟨own_blk h.full (fun g hg => have := h.full.lt g hg; hb g this.1 this.2), own_blk h.head (fun g hg => have := h.head.lt g hg; hb g this.1 this.2), fun i hi => own_blk (h.row i hi) (fun g hg => have := (h.row i hi).lt g hg; hb g this.1 this.2), h.off, h.ne, h.fh⟩
theorem Hd.stay {w w' : World} {base : Nat} {vF vH : Value} {kF kH kR : Nat} {ex : List Value} {n : Nat → Nat} {r : Nat → List UInt8} {f cp : Nat → Nat} (h : Hd w base vF vH kF kH kR ex n r f cp) (hb : Below w.heap.size w w') : Hd w' base vF vH kF kH kR ex n r f cp := h.keep (fun k _ hk => hb.block k hk)
theorem Hd.addRow {w w' : World} {base : Nat} {vF vH : Value} {kF kH kR : Nat} {ex : List Value} {n : Nat → Nat} {r : Nat → List UInt8} {f cp : Nat → Nat} (h : Hd w base vF vH kF kH kR ex n r f cp) (hb : Below w.heap.size w w') (hbase : base ≤ w.heap.size) (h1 : kF ≤ kR) (h2 : kH ≤ kR) {g c : Nat}
    (ho : w'.ownsRow w.heap.size 5 1 (.slice (some ⟨g, 0, none⟩) (n kR + 8) c) (n kR + 8) (cb (r kR))) : Hd w' base vF vH kF kH (kR + 1) ex n r (upd f kR g) (upd cp kR c) := by
  have hs := h.stay hb
  have hg : w.heap.size ≤ g := (ho.lt g rfl).1
  refine ⟨by rw [shd_upd _ _ _ _ _ _ _ h1]; exact hs.full, by rw [shd_upd _ _ _ _ _ _ _ h2]; exact hs.head, fun i hi => ?_, fun i hi => ?_, fun i j hi hj hij => ?_, h.fh⟩
  · by_cases e : i = kR
    · subst e
      rw [upd_at, upd_at]
      exact own_base ho hbase
    · rw [upd_ne _ _ _ _ e, upd_ne _ _ _ _ e]
      exact hs.row i (by omega)
  · by_cases e : i = kR
    · subst e
      rw [upd_at]
      exact ⟨fun e => by have := (h.full.lt g e).2; omega, fun e => by have := (h.head.lt g e).2; omega⟩
    · rw [upd_ne _ _ _ _ e]
      exact h.off i (by omega)
  · by_cases e : i = kR
    · subst e
      rw [upd_at, upd_ne _ _ _ _ (by omega)]
      have := ((h.row j (by omega)).lt (f j) rfl).2
      omega
    · rw [upd_ne _ _ _ _ e]
      by_cases e2 : j = kR
      · subst e2
        rw [upd_at]
        have := ((h.row i (by omega)).lt (f i) rfl).2
        omega
      · rw [upd_ne _ _ _ _ e2]
        exact h.ne i j (by omega) (by omega) hij
theorem Hd.addFull {w w' : World} {o : Obj} {base : Nat} {vF vH vn : Value} {kF kH kR : Nat} {ex : List Value} {n : Nat → Nat} {r : Nat → List UInt8} {f cp : Nat → Nat} (h : Hd w base vF vH kF kH kR ex n r f cp)
    (hg : (w.alloc o).grownBy w' vF.ownBlock) (ho : w'.ownsRow base 55 1 vn (kF + 1) (shd (fun i => n i + 8) f cp kF ++ [.slice (some ⟨f kF, 0, none⟩) (n kF + 8) (cp kF)])) (hat : vn.ownBlock = vF.ownBlock ∨ vn.ownBlock = some (w.alloc o).heap.size) : Hd w' base vn vH (kF + 1) kH kR ex n r f cp := by
  have hb : ∀ k, k < w.heap.size → some k ≠ vF.ownBlock → w'.heap[k]? = w.heap[k]? := fun k hk hn => (hg.block k (by simp; omega) hn).trans (heap_alloc_old w o hk)
  refine ⟨by rw [shd_succ]; exact ho, own_blk h.head (fun g e => hb g (h.head.lt g e).2 (fun e2 => ?_)), fun i hi => own_blk (h.row i hi) (fun g e => hb g ((h.row i hi).lt g e).2 (fun e2 => ?_)), fun i hi => ⟨fun e => ?_, (h.off i hi).2⟩, h.ne, ?_⟩
  · rcases h.fh with h0 | h0
    · rw [h0] at e2; cases e2
    · exact h0 (e2.symm.trans e.symm)
  · have : g = f i := (Option.some.inj e).symm
    subst this
    exact (h.off i hi).1 e2.symm
  · rcases hat with ha | ha
    · exact (h.off i hi).1 (ha.symm.trans e)
    · have := Option.some.inj (ha.symm.trans e)
      have h2 := ((h.row i hi).lt (f i) rfl).2
      simp at this
      omega
  · rcases hat with ha | ha
    · rw [ha]; exact h.fh
    · refine Or.inr fun e => ?_
      have := (h.head.lt _ (e.symm.trans ha)).2
      simp at this
      omega
theorem Hd.addHead {w w' : World} {o : Obj} {base : Nat} {vF vH vn : Value} {kF kH kR : Nat} {n : Nat → Nat} {r : Nat → List UInt8} {f cp : Nat → Nat} {x : Value} {ex : List Value} {kH' : Nat} (h : Hd w base vF vH kF kH kR [] n r f cp)
    (hg : (w.alloc o).grownBy w' vH.ownBlock) (ho : w'.ownsRow base 55 1 vn (kH + 1) (shd n f cp kH ++ [x])) (hat : vn.ownBlock = vH.ownBlock ∨ vn.ownBlock = some (w.alloc o).heap.size) (hxs : shd n f cp kH' ++ ex = shd n f cp kH ++ [x]) (hk : kH' + ex.length = kH + 1) : Hd w' base vF vn kF kH' kR ex n r f cp := by
  have hb : ∀ k, k < w.heap.size → some k ≠ vH.ownBlock → w'.heap[k]? = w.heap[k]? := fun k hk hn => (hg.block k (by simp; omega) hn).trans (heap_alloc_old w o hk)
  refine ⟨own_blk h.full (fun g e => hb g (h.full.lt g e).2 (fun e2 => ?_)), by rw [hxs, hk]; exact ho, fun i hi => own_blk (h.row i hi) (fun g e => hb g ((h.row i hi).lt g e).2 (fun e2 => ?_)), fun i hi => ⟨(h.off i hi).1, fun e => ?_⟩, h.ne, ?_⟩
  · rcases h.fh with h0 | h0
    · rw [h0] at e; cases e
    · exact h0 (e.trans e2)
  · have : g = f i := (Option.some.inj e).symm
    subst this
    exact (h.off i hi).2 e2.symm
  · rcases hat with ha | ha
    · exact (h.off i hi).2 (ha.symm.trans e)
    · have := Option.some.inj (ha.symm.trans e)
      have h2 := ((h.row i hi).lt (f i) rfl).2
      simp at this
      omega
  · rcases hat with ha | ha
    · rw [ha]; exact h.fh
    · by_cases e0 : vF.ownBlock = none
      · exact Or.inl e0
      · refine Or.inr fun e => ?_
        have := (h.full.lt _ (e.trans ha)).2
        simp at this
        omega
theorem Hd.start (w : World) (base : Nat) (n : Nat → Nat) (r : Nat → List UInt8) (f cp : Nat → Nat) : Hd w base (.slice none 0 0) (.slice none 0 0) 0 0 0 [] n r f cp :=
  ⟨World.ownsRow_nil w base _ 1, World.ownsRow_nil w base _ 1, fun i hi => absurd hi (by omega), fun i hi => absurd hi (by omega), fun i j hi => absurd hi (by omega), Or.inl rfl⟩
end Go.Proofs.YtagfneojcgcigaaDoor.Tr
