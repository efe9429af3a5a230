import Derived.Test.YtaejedhdpilhjaaDoorSop
import Derived.Test.YtaejedhdpilhjaaDoorSrd2
namespace Go.Proofs.YtaejedhdpilhjaaDoor
open Go.RowKit

/-- byte j of a number -/
def byt (N : Int) (j : Nat) : Int := N / 256 ^ j % 256
def bytes (N : Int) : List Int := (List.range 32).map (byt N)
theorem bytes_len (N : Int) : (bytes N).length = 32 := by simp [bytes]
theorem bytes_get (N : Int) (j : Nat) (h : j < 32) : (bytes N)[j]? = some (byt N j) := by simp [bytes, h]
theorem byt_bd (N : Int) (j : Nat) : 0 ≤ byt N j ∧ byt N j ≤ 255 := by unfold byt; omega

def word64 (N : Int) (q : Nat) : Int := N / 18446744073709551616 ^ q % 18446744073709551616

theorem byt_word (N : Int) (k : Nat) : word64 N (k / 8) / 2 ^ (8 * (k % 8)) % 256 = byt N k := by
  unfold word64 byt
  have e : N / 256 ^ k = N / 18446744073709551616 ^ (k / 8) / 2 ^ (8 * (k % 8)) := by
    rw [Int.ediv_ediv_of_nonneg (Int.le_of_lt (Int.pow_pos (by decide)))]
    congr 1
    rw [show (18446744073709551616 : Int) = 2 ^ 64 from rfl, show (256 : Int) = 2 ^ 8 from rfl, ← Int.pow_mul, ← Int.pow_mul, ← Int.pow_add]
    congr 1; omega
  rw [e]
  generalize N / 18446744073709551616 ^ (k / 8) = M
  have hc : k % 8 = 0 ∨ k % 8 = 1 ∨ k % 8 = 2 ∨ k % 8 = 3 ∨ k % 8 = 4 ∨ k % 8 = 5 ∨ k % 8 = 6 ∨ k % 8 = 7 := by omega
  rcases hc with h | h | h | h | h | h | h | h <;> rw [h] <;> simp <;> omega

theorem there_keep {w1 w2 : World} {b o n : Nat} (h : w1.there b o n) (hl : b < w1.heap.size) (hb : Below w1.heap.size w1 w2) : w2.there b o n := fun j hj =>
  ⟨by rw [hb.cell (p := ⟨b, o + j, none⟩) hl]; exact (h j hj).1, by rw [hb.frozen (p := ⟨b, o + j, none⟩) hl]; exact (h j hj).2⟩
theorem there_new (w : World) (C : Array Value) (t : TypeId) : (w.alloc (.cells C t)).there w.heap.size 0 C.size := fun j hj => by
  refine ⟨?_, by go_simp⟩
  rw [Nat.zero_add, World.cell?_alloc_mark]
  simp [hj]

/-- what lies where while the bytes are written -/
structure EncW (w0 : World) (n : Int) (Wb Bb R k : Nat) (w : World) : Prop where
  wd : ∀ q, q < 4 → w.cell? ⟨Wb, q, none⟩ = some (.int .u64 (word64 n q))
  bt : ∀ j, j < 32 → w.cell? ⟨Bb, j, none⟩ = some (.int .u8 (if j < k then byt n j else 0))
  fr : ∀ j, j < 32 → w.frozen? ⟨Bb, j, none⟩ = false
  th : w.there R 0 32
  bel : Below w0.heap.size w0 w

theorem EncW.step {w0 : World} {n : Int} {Wb Bb R k : Nat} {w : World} (h : EncW w0 n Wb Bb R k w) (hk : k < 32) (h1 : Bb ≠ Wb) (h0 : w0.heap.size ≤ Bb) :
    EncW w0 n Wb Bb R (k + 1) (w.setCell ⟨Bb, k, none⟩ (.int .u8 (byt n k))) := by
  refine ⟨fun q hq => (World.cell?_setCell_far w _ _ _ h1).trans (h.wd q hq), fun j hj => ?_, fun j hj => by have := h.fr j hj; go_simp, fun j hj => ⟨?_, by rw [World.frozen?_setCell]; exact (h.th j hj).2⟩, h.bel.setCell h0 _⟩
  · by_cases hjk : j = k
    · subst hjk
      have hb := h.bt j hj
      rw [if_pos (by omega)]
      go_simp
    · rw [World.cell?_setCell_other w _ _ _ (by intro e; exact hjk (congrArg Addr.off e).symm), h.bt j hj]
      by_cases hlt : j < k
      · rw [if_pos hlt, if_pos (by omega)]
      · rw [if_neg hlt, if_neg (by omega)]
  · exact World.isSome_setCells Bb [.int .u8 (byt n k)] k w _ (h.th j hj).1

theorem below_setCells {w0 : World} (b : Nat) : ∀ (vs : List Value) (o : Nat) {w : World}, Below w0.heap.size w0 w → w0.heap.size ≤ b → Below w0.heap.size w0 (w.setCells b o vs)
  | [], _, _, h, _ => h
  | v :: vs, o, w, h, hb => by
    rw [World.setCells]
    exact below_setCells b vs (o + 1) (h.setCell hb v) hb

theorem results_cell1 {fn : Func} {p : Tmp} {ty : TypeId} (h : fn.results = #[.cell p ty]) (tmps : Array Value) (P : Program) (w : World) (a : Addr) (v : Value) (ha : tmps.getD p undef = .pointer (some a)) (hl : (loadVar ty a).run P w = .ok v w) :
    (results fn tmps).run P w = .ok v w := by
  have e : (results fn tmps).run P w = ((asAddr (tmps.getD p undef)).run P w).andThen fun a w1 => (loadVar ty a).run P w1 := by
    simp only [results, h]
    simp [Sem.run_bind, Result.andThen]
  rw [e, ha]
  simp [asAddr, hl, Result.andThen]

theorem bytesV (n : Int) (j : Nat) (v : Value) (h : ((bytes n).map fun z => Value.int .u8 z)[j]? = some v) : j < 32 ∧ v = .int .u8 (byt n j) := by
  have hj : j < 32 := by
    have := (List.getElem?_eq_some_iff.1 h).1
    simpa [bytes] using this
  refine ⟨hj, ?_⟩
  rw [List.getElem?_map, bytes_get n j hj] at h
  simpa using h.symm


theorem word_lim (n : Int) (q : Nat) (hq : q < 4) : word64 n q = Sm.lim q n := by
  unfold word64
  have h4 : q = 0 ∨ q = 1 ∨ q = 2 ∨ q = 3 := by omega
  rcases h4 with rfl | rfl | rfl | rfl <;> simp [Sm.lim]

end Go.Proofs.YtaejedhdpilhjaaDoor
