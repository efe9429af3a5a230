import Derived.Test.YtagfneojcgcigaaDoorTg
namespace Go.Proofs.YtagfneojcgcigaaDoor.Tr
open Go.RowKit
/-- a length half written -/
def lz (N k : Nat) : List UInt8 := (List.range 8).map fun i => if i < k then UInt8.ofNat (N / 2 ^ (8 * i)) else 0
theorem lz_len (N k : Nat) : (lz N k).length = 8 := by simp [lz]
theorem lz_all (N : Nat) : lz N 8 = le8 N := by
  unfold lz le8
  refine List.map_congr_left fun i hi => ?_
  rw [if_pos (List.mem_range.1 hi)]
theorem lz_none (N : Nat) : cb (lz N 0) = List.replicate 8 (.int .u8 0) := by
  have : lz N 0 = List.replicate 8 0 := by
    unfold lz
    simp
    rfl
  rw [this]
  rfl
theorem lz_set (N k : Nat) (h : k < 8) : (cb (lz N k)).set k (.int .u8 ((UInt8.ofNat (N / 2 ^ (8 * k))).toNat : Int)) = cb (lz N (k + 1)) := by
  refine List.ext_getElem? fun j => ?_
  by_cases hj : j < 8
  · rw [List.getElem?_set]
    by_cases e : k = j
    · subst e
      rw [if_pos rfl, if_pos (by simp [cb_len, lz_len, h])]
      simp [cb, lz, List.getElem?_range hj]
    · rw [if_neg e]
      have : (j < k + 1) = (j < k) := by apply propext; constructor <;> intro <;> omega
      simp only [cb, lz, List.getElem?_map, List.getElem?_range hj, Option.map_some, this]
  · rw [List.getElem?_eq_none (by simp [cb_len, lz_len]; omega), List.getElem?_eq_none (by simp [cb_len, lz_len]; omega)]
theorem own_stay {w w' : World} {base size n : Nat} {e : TypeId} {v : Value} {xs : List Value} (h : w.ownsRow base e size v n xs) (hb : Below w.heap.size w w') : w'.ownsRow base e size v n xs := by
  refine ⟨h.1, ?_⟩
  rcases h.2 with hn | ⟨g, cap, cur, rfl, hbg, hgg, rest⟩
  · exact .inl hn
  · refine .inr ⟨g, cap, cur, rfl, hbg, ?_, rest⟩
    rw [hb.block g (Array.getElem?_eq_some_iff.1 hgg).1]
    exact hgg
end Go.Proofs.YtagfneojcgcigaaDoor.Tr
