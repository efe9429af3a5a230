import Derived.Test.YtapieajkmpnmoaaGreatDoorGb
namespace Go.Proofs.YtapieajkmpnmoaaGreatDoor
open Go.RowKit
/-- an element with 1 in a place: it lies in a block from B on -/
def Uv (B : Nat) (w : World) (v : Value) (p : Nat) : Prop := ∃ b : Nat, v = .agg #[.slice (some ⟨b, 0, none⟩) (p + 1) (p + 1)] ∧ B ≤ b ∧ Rl w b 0 (p + 1) (uf p)
theorem Uv.keep {B : Nat} {w w' : World} {v : Value} {p : Nat} (h : Uv B w v p) (hb : Below w.heap.size w w') : Uv B w' v p := by
  obtain ⟨b, h1, h2, h3⟩ := h
  exact ⟨b, h1, h2, h3.keep hb⟩
theorem Uv.less {B C : Nat} {w : World} {v : Value} {p : Nat} (h : Uv B w v p) (hb : C ≤ B) : Uv C w v p := by
  obtain ⟨b, h1, h2, h3⟩ := h
  exact ⟨b, h1, by omega, h3⟩
/-- cells in a block, that may be written -/
structure Gs (w : World) (b n : Nat) (f : Nat → Value) : Prop where
  lt : b < w.heap.size
  c : ∀ k, k < n → w.cell? ⟨b, k, none⟩ = some (f k)
  fr : ∀ k, k < n → w.frozen? ⟨b, k, none⟩ = false
theorem Gs.keep {w w' : World} {b n : Nat} {f : Nat → Value} (h : Gs w b n f) (hb : Below w.heap.size w w') : Gs w' b n f :=
  ⟨Nat.lt_of_lt_of_le h.lt hb.size, fun k hk => cell_keep (h.c k hk) hb, fun k hk => ((bcell hb).2 _ _ h.lt).trans (h.fr k hk)⟩
theorem Gs.far {w : World} {b n : Nat} {f : Nat → Value} (h : Gs w b n f) {a : Addr} (v : Value) (hn : a.block ≠ b) : Gs (w.setCell a v) b n f :=
  ⟨by simpa using h.lt, fun k hk => (World.cell?_setCell_far _ _ _ _ hn).trans (h.c k hk), fun k hk => by rw [World.frozen?_setCell]; exact h.fr k hk⟩
theorem Gs.set {w : World} {b n : Nat} {f : Nat → Value} (h : Gs w b n f) (k : Nat) (hk : k < n) (v : Value) : Gs (w.setCell ⟨b, k, none⟩ v) b n (fun j => if j = k then v else f j) :=
  ⟨by simpa using h.lt, fun j hj => by
    by_cases e : j = k
    · subst e
      rw [if_pos rfl]
      have := h.c j hj
      go_simp
    · rw [if_neg e, setC_neG _ _ _ _ _ e]
      exact h.c j hj, fun k hk => by rw [World.frozen?_setCell]; exact h.fr k hk⟩
theorem Gs.made (w : World) (n : Nat) (t : TypeId) : Gs (w.alloc (.cells (madeCells #[.slice none 0 0] n) t)) w.heap.size n (fun _ => .slice none 0 0) :=
  ⟨by simp, fun k hk => by
    rw [cell_of_row (w.alloc (.cells (madeCells #[.slice none 0 0] n) t)) w.heap.size k _ t (0, 0) (heap_alloc_new w _)]
    simp [madeCells, hk, Nat.mod_one], fun k hk => by go_simp⟩
theorem Gs.five (w : World) (t : TypeId) : Gs (w.alloc (.cells #[.slice none 0 0, .slice none 0 0, .slice none 0 0, .slice none 0 0, .slice none 0 0] t)) w.heap.size 5 (fun _ => .slice none 0 0) :=
  ⟨by simp, fun k hk => by
    rw [cell_of_row _ w.heap.size k _ t (0, 0) (heap_alloc_new w _)]
    match k, hk with
    | 0, _ => rfl | 1, _ => rfl | 2, _ => rfl | 3, _ => rfl | 4, _ => rfl, fun k hk => by go_simp⟩
/-- a made list of n elements, none yet; a made set -/
def Mv (B : Nat) (w : World) (v : Value) (n : Nat) : Prop := ∃ g : Nat, v = .slice (some ⟨g, 0, none⟩) n n ∧ B ≤ g ∧ Gs w g n (fun _ => .slice none 0 0)
def Av (B : Nat) (w : World) (v : Value) : Prop := ∃ g : Nat, v = .pointer (some ⟨g, 0, none⟩) ∧ B ≤ g ∧ Gs w g 5 (fun _ => .slice none 0 0)
def bkOf : Value → Nat
  | .slice (some a) _ _ => a.block
  | .pointer (some a) => a.block
  | _ => 0
theorem Mv.keep {B : Nat} {w w' : World} {v : Value} {n : Nat} (h : Mv B w v n) (hb : Below w.heap.size w w') : Mv B w' v n := by
  obtain ⟨b, h1, h2, h3⟩ := h
  exact ⟨b, h1, h2, h3.keep hb⟩
theorem Av.keep {B : Nat} {w w' : World} {v : Value} (h : Av B w v) (hb : Below w.heap.size w w') : Av B w' v := by
  obtain ⟨b, h1, h2, h3⟩ := h
  exact ⟨b, h1, h2, h3.keep hb⟩
theorem Mv.lt {B : Nat} {w : World} {v : Value} {n : Nat} (h : Mv B w v n) : bkOf v < w.heap.size := by
  obtain ⟨b, rfl, h2, h3⟩ := h
  exact h3.lt
theorem Av.lt {B : Nat} {w : World} {v : Value} (h : Av B w v) : bkOf v < w.heap.size := by
  obtain ⟨b, rfl, h2, h3⟩ := h
  exact h3.lt
end Go.Proofs.YtapieajkmpnmoaaGreatDoor
