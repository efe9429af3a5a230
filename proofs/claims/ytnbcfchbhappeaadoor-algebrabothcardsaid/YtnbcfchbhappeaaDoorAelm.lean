import Derived.Test.YtnbcfchbhappeaaDoorApi
namespace Go.Proofs.YtnbcfchbhappeaaDoor.Al
open Go.RowKit
theorem Ms.congr {w : World} {S n : Nat} {b c lo lo' : Nat → Nat} {M : Nat → Nat → Int} (h : Ms w S n b c lo M) (e : ∀ i, i < n → lo i = lo' i) : Ms w S n b c lo' M :=
  ⟨h.h, h.hf, h.cap, fun i hi => by rw [← e i hi]; exact h.r i hi, h.apart, h.off, fun i hi => by rw [← e i hi]; exact h.lo i hi⟩
theorem Ms.put {w w' : World} {S n i l : Nat} {b c lo : Nat → Nat} {M : Nat → Nat → Int} {f : Nat → Int} (h : Ms w S n b c lo M) (hi : i < n) (hb : But (b i) w w') (hl : l ≤ n) (hR : Rk w' (b i) l (n + 1 - l) f) :
    Ms w' S n b c (fun x => if x = i then l else lo x) (fun x j => if x = i then f (j - l) else M x j) := by
  have hS : ∀ x, x < n → S < w.heap.size := fun x hx => World.block_lt_of_cell? _ ⟨S, x, none⟩ (h.h x hx)
  refine ⟨fun x hx => hb.cell (h.h x hx) (fun e => h.off i hi e.symm), fun x hx => hb.frozen (h.hf x hx) (hS x hx) (fun e => h.off i hi e.symm), h.cap, fun x hx => ?_, h.apart, h.off, fun x hx => ?_⟩
  · by_cases e : x = i
    · subst e
      simp only [if_pos]
      exact hR.congr fun k _ => by rw [show l + k - l = k by omega]
    · simp only [if_neg e]
      exact (h.r x hx).but hb (h.apart x i hx hi e)
  · by_cases e : x = i
    · simp only [if_pos e]; exact hl
    · simp only [if_neg e]; exact h.lo x hx
/-- two numbers changed for one another -/
def swn (b : Nat → Nat) (k p i : Nat) : Nat := if i = k then b p else if i = p then b k else b i
theorem swn_at (b : Nat → Nat) (k p i : Nat) : swn b k p i = b (swn id k p i) := by
  unfold swn
  split
  · rfl
  · split <;> rfl
theorem swn_lt {n k p : Nat} (hk : k < n) (hp : p < n) {i : Nat} (hi : i < n) : swn id k p i < n := by
  unfold swn
  split
  · exact hp
  · split
    · exact hk
    · exact hi
theorem swn_ne {k p i j : Nat} (h : i ≠ j) : swn id k p i ≠ swn id k p j := by
  unfold swn
  simp only [id]
  split <;> split <;> (try split) <;> (try split) <;> omega
theorem sw_at (M : Nat → Nat → Int) (k p i : Nat) : Mx.sw M k p i = M (swn id k p i) := by
  unfold swn Mx.sw
  split
  · rfl
  · split <;> rfl
theorem Ms.swap {w : World} {S n k p : Nat} {b c lo : Nat → Nat} {M : Nat → Nat → Int} (h : Ms w S n b c lo M) (hk : k < n) (hp : p < n) (e : lo k = lo p) :
    Ms ((w.setCell ⟨S, k, none⟩ (.slice (some ⟨b p, 0, none⟩) (n + 1) (c p))).setCell ⟨S, p, none⟩ (.slice (some ⟨b k, 0, none⟩) (n + 1) (c k))) S n (swn b k p) (swn c k p) lo (Mx.sw M k p) := by
  have el : ∀ i, lo (swn id k p i) = lo i := fun i => by
    unfold swn
    split
    · rename_i q; rw [q]; exact e.symm
    · split
      · rename_i q; rw [q]; exact e
      · rfl
  have bs : But S w ((w.setCell ⟨S, k, none⟩ (.slice (some ⟨b p, 0, none⟩) (n + 1) (c p))).setCell ⟨S, p, none⟩ (.slice (some ⟨b k, 0, none⟩) (n + 1) (c k))) := ((But.refl _ _).set _).set _
  have c1 : (w.setCell ⟨S, k, none⟩ (.slice (some ⟨b p, 0, none⟩) (n + 1) (c p))).cell? ⟨S, k, none⟩ = some (.slice (some ⟨b p, 0, none⟩) (n + 1) (c p)) := World.cell?_setCell_same _ _ _ (h.h k hk)
  have co : ∀ (W : World) (x y : Nat) (v : Value), x ≠ y → (W.setCell ⟨S, x, none⟩ v).cell? ⟨S, y, none⟩ = W.cell? ⟨S, y, none⟩ := fun W x y v hxy => World.cell?_setCell_other _ _ _ _ (fun q => hxy (by have := congrArg Addr.off q; simpa using this))
  have c2 : ∃ v, (w.setCell ⟨S, k, none⟩ (.slice (some ⟨b p, 0, none⟩) (n + 1) (c p))).cell? ⟨S, p, none⟩ = some v := by
    by_cases q : k = p
    · subst q; exact ⟨_, c1⟩
    · exact ⟨_, (co _ _ _ _ q).trans (h.h p hp)⟩
  obtain ⟨v2, c2⟩ := c2
  refine ⟨fun i hi => ?_, fun i hi => by rw [World.frozen?_setCell, World.frozen?_setCell]; exact h.hf i hi, fun i hi => ?_, fun i hi => ?_, fun i j hi hj hn => ?_, fun i hi => ?_, h.lo⟩
  · by_cases q : i = p
    · subst q
      rw [World.cell?_setCell_same _ _ _ c2]
      unfold swn
      by_cases q2 : i = k
      · subst q2; rw [if_pos rfl, if_pos rfl]
      · rw [if_neg q2, if_pos rfl, if_neg q2, if_pos rfl]
    · rw [co _ _ _ _ (Ne.symm q)]
      unfold swn
      by_cases q2 : i = k
      · subst q2
        rw [if_pos rfl, if_pos rfl]
        exact c1
      · rw [if_neg q2, if_neg q, if_neg q2, if_neg q, co _ _ _ _ (Ne.symm q2)]
        exact h.h i hi
  · rw [swn_at]; exact h.cap _ (swn_lt hk hp hi)
  · rw [swn_at, sw_at, ← el i]; exact (h.r _ (swn_lt hk hp hi)).but bs (h.off _ (swn_lt hk hp hi))
  · rw [swn_at b, swn_at b]; exact h.apart _ _ (swn_lt hk hp hi) (swn_lt hk hp hj) (swn_ne hn)
  · rw [swn_at]; exact h.off _ (swn_lt hk hp hi)
/-- from which column on the rows are kept -/
def lok (k i : Nat) : Nat := if i < k then i + 1 else k
def lom (k t i : Nat) : Nat := if i < k then i + 1 else if i < k + 1 + t then k + 1 else k
/-- in the middle of a step: t rows below the pivot's are done -/
structure Mid (n k t : Nat) (M1 M2 : Nat → Nat → Int) (u : Int) : Prop where
  a : ∀ i j, i < k → j ≤ n → i < j → M2 i j = M1 i j
  p : ∀ j, k < j → j ≤ n → Mx.C 7 (M2 k j) (M1 k j * u)
  d : ∀ i j, k < i → i < k + 1 + t → k < j → j ≤ n → Mx.C 7 (M2 i j) (M1 i j - M1 i k * M2 k j)
  r : ∀ i j, k + 1 + t ≤ i → i < n → k ≤ j → j ≤ n → M2 i j = M1 i j
theorem Mid.next {n k t : Nat} {M1 M2 : Nat → Nat → Int} {u : Int} {f : Nat → Int} (h : Mid n k t M1 M2 u) (ht : k + 1 + t < n) (hf : ∀ j, j < n - k → Mx.C 7 (f j) (M2 (k + 1 + t) (k + 1 + j) - M2 (k + 1 + t) k * M2 k (k + 1 + j))) :
    Mid n k (t + 1) M1 (fun x j => if x = k + 1 + t then f (j - (k + 1)) else M2 x j) u := by
  refine ⟨fun i j h1 h2 h3 => ?_, fun j h1 h2 => ?_, fun i j h1 h2 h3 h4 => ?_, fun i j h1 h2 h3 h4 => ?_⟩
  · rw [if_neg (by omega)]; exact h.a i j h1 h2 h3
  · rw [if_neg (by omega)]; exact h.p j h1 h2
  · rw [if_neg (show ¬ k = k + 1 + t by omega)]
    by_cases e : i = k + 1 + t
    · rw [if_pos e]
      have := hf (j - (k + 1)) (by omega)
      rw [show k + 1 + (j - (k + 1)) = j by omega, ← e, h.r i j (by omega) (by omega) (by omega) h4, h.r i k (by omega) (by omega) (by omega) (by omega)] at this
      exact this
    · rw [if_neg e]; exact h.d i j h1 (by omega) h3 h4
  · rw [if_neg (by omega)]; exact h.r i j (by omega) h2 h3 h4
theorem Mid.done {n k t : Nat} {A M1 M2 : Nat → Nat → Int} {r : Nat → Int} {u : Int} (pm : Mx.Pm 7) (h : Mid n k t M1 M2 u) (ht : n ≤ k + 1 + t) (hk : k < n) (hu : Mx.C 7 (M1 k k * u) 1) (e : Mx.Ei 7 n A r k M1) : Mx.Ei 7 n A r (k + 1) M2 :=
  e.step pm hk hu h.a h.p fun i j h1 h2 h3 h4 => h.d i j h1 (by omega) h3 h4
end Go.Proofs.YtnbcfchbhappeaaDoor.Al
