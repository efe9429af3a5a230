import Derived.Test.YtaejedhdpilhjaaDoorSar
import Derived.Test.YtaejedhdpilhjaaDoorSwi
import Derived.Laws.MakeOwn
namespace Go.Proofs.YtaejedhdpilhjaaDoor
open Go.RowKit

theorem made4 (n j : Nat) (hj : j < n * 4) : (madeCells #[.int .u64 0, .int .u64 0, .int .u64 0, .int .u64 0] (n * 4))[j]? = some (.int .u64 0) := by
  have h4 : j % 4 = 0 ∨ j % 4 = 1 ∨ j % 4 = 2 ∨ j % 4 = 3 := by omega
  simp only [madeCells]
  rw [Array.getElem?_map, Array.getElem?_range]
  rw [if_pos hj]
  rcases h4 with h | h | h | h <;> simp [h]
theorem Rws.made (w : World) (n : Nat) (t : TypeId) : Rws (w.alloc (.cells (madeCells #[.int .u64 0, .int .u64 0, .int .u64 0, .int .u64 0] (n * 4)) t)) w.heap.size n (fun _ => zero4) := by
  have hc : ∀ j, j < n * 4 → (w.alloc (.cells (madeCells #[.int .u64 0, .int .u64 0, .int .u64 0, .int .u64 0] (n * 4)) t)).cell? ⟨w.heap.size, j, none⟩ = some (.int .u64 0) := fun j hj => by
    rw [cell_of_row (w.alloc (.cells (madeCells #[.int .u64 0, .int .u64 0, .int .u64 0, .int .u64 0] (n * 4)) t)) w.heap.size j (madeCells #[.int .u64 0, .int .u64 0, .int .u64 0, .int .u64 0] (n * 4)) t (0, 0) (heap_alloc_new w _)]
    exact made4 n j hj
  exact ⟨fun k hk => hc _ (by omega), fun k hk => hc _ (by omega), fun k hk => hc _ (by omega), fun k hk => hc _ (by omega), fun k hk => by go_simp, by simp⟩
/-- 32 bytes from a place on -/
def b32 (f : Nat → Int) (o : Nat) : List Int := (List.range 32).map fun j => f (o + j)
theorem b32_len (f : Nat → Int) (o : Nat) : (b32 f o).length = 32 := by simp [b32]
/-- the scalar of 64 bytes -/
def tp (f : Nat → Int) (i : Nat) : E4 := lst (num (b32 f (64 * i)) + num (b32 f (64 * i + 32)) * R)
/-- bytes that lie from an address on -/
structure Bs (w : World) (b o n : Nat) (f : Nat → Int) : Prop where
  c : ∀ j, j < n → w.cell? ⟨b, o + j, none⟩ = some (.int .u8 (f j))
  r : ∀ j, j < n → 0 ≤ f j ∧ f j ≤ 255
theorem Bs.keep {w1 w2 : World} {b o n : Nat} {f : Nat → Int} (h : Bs w1 b o n f) (hb : Below w1.heap.size w1 w2) : Bs w2 b o n f := ⟨fun j hj => cell_keep (h.c j hj) hb, h.r⟩
theorem b32_in {w : World} {b o n : Nat} {f : Nat → Int} (h : Bs w b o n f) (p : Nat) (hp : p + 32 ≤ n) : ∀ z ∈ b32 f p, 0 ≤ z ∧ z ≤ 255 := fun z hz => by
  obtain ⟨j, hj, rfl⟩ := List.mem_map.1 hz
  have := List.mem_range.1 hj
  exact h.r _ (by omega)
theorem b64_range {w : World} {b o n : Nat} {f : Nat → Int} (h : Bs w b o n f) (p : Nat) (hp : p + 64 ≤ n) : w.rangeAt b (o + p) ((b32 f p ++ b32 f (p + 32)).map fun z => Value.int .u8 z) := fun j v hv => by
  have hj : j < 64 := by
    obtain ⟨h1, _⟩ := List.getElem?_eq_some_iff.1 hv
    simpa [b32] using h1
  rw [Nat.add_assoc, h.c (p + j) (by omega), ← hv]
  by_cases h32 : j < 32
  · simp [b32, h32, List.getElem?_append_left]
  · rw [List.getElem?_map, List.getElem?_append_right (by rw [b32_len]; omega), b32_len]
    simp [b32, show j - 32 < 32 by omega, show p + 32 + (j - 32) = p + j by omega]

end Go.Proofs.YtaejedhdpilhjaaDoor
