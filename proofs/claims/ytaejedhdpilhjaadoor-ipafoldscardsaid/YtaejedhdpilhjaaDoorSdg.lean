import Derived.Test.YtaejedhdpilhjaaDoorSwn
import Derived.Deep.OwnRows
namespace Go.Proofs.YtaejedhdpilhjaaDoor
open Go.RowKit

/-- a row of ints -/
structure Rwi (w : World) (b n : Nat) (f : Nat → Int) : Prop where
  c : ∀ j, j < n → w.cell? ⟨b, j, none⟩ = some (.int .i64 (f j))
  fr : ∀ j, j < n → w.frozen? ⟨b, j, none⟩ = false
  lt : b < w.heap.size
theorem Rwi.keep {w1 w2 : World} {b n : Nat} {f : Nat → Int} (h : Rwi w1 b n f) (hb : Below w1.heap.size w1 w2) : Rwi w2 b n f :=
  ⟨fun j hj => cell_keep (h.c j hj) hb, fun j hj => ((bcell hb).2 _ _ h.lt).trans (h.fr j hj), Nat.lt_of_lt_of_le h.lt hb.size⟩
theorem Rwi.drew {w : World} {b n : Nat} {f : Nat → Int} (h : Rwi w b n f) : Rwi w.drew b n f := h.keep ((Below.refl _ _).drew)
theorem Rwi.far {w : World} {b n : Nat} {f : Nat → Int} (h : Rwi w b n f) {c : Nat} (hne : c ≠ b) (k : Nat) (v : Value) : Rwi (w.setCell ⟨c, k, none⟩ v) b n f :=
  ⟨fun j hj => (World.cell?_setCell_far w _ _ _ hne).trans (h.c j hj), fun j hj => by have := h.fr j hj; go_simp, by have := h.lt; simpa using this⟩
theorem Rwi.far4 {w : World} {b n : Nat} {f : Nat → Int} (h : Rwi w b n f) {c : Nat} (hne : c ≠ b) (s : E4) : Rwi (set4 w c s) b n f :=
  (((h.far hne 0 _).far hne 1 _).far hne 2 _).far hne 3 _
theorem Rwi.congr {w : World} {b n : Nat} {f g : Nat → Int} (h : Rwi w b n f) (e : ∀ j, j < n → f j = g j) : Rwi w b n g := ⟨fun j hj => by rw [← e j hj]; exact h.c j hj, h.fr, h.lt⟩
theorem Rwi.at {w : World} {b n : Nat} {f : Nat → Int} (h : Rwi w b n f) (k : Nat) (hk : k < n) (v : Int) : Rwi (w.setCell ⟨b, k, none⟩ (.int .i64 v)) b n (fun j => if j = k then v else f j) := by
  refine ⟨fun j hj => ?_, fun j hj => by have := h.fr j hj; go_simp, by have := h.lt; simpa using this⟩
  by_cases hjk : j = k
  · subst hjk
    have hb := h.c j hj
    rw [if_pos rfl]
    go_simp
  · rw [World.cell?_setCell_other w _ _ _ (by intro e; exact hjk (congrArg Addr.off e).symm), h.c j hj, if_neg hjk]
theorem Rwi.made (w : World) (n : Nat) (t : TypeId) : Rwi (w.alloc (.cells (madeCells #[.int .i64 0] n) t)) w.heap.size n (fun _ => 0) := by
  have h := World.rowIs_made w (.int .i64 0) n t
  exact ⟨fun j hj => h.cell hj, fun j hj => h.frozen j, by simp⟩
theorem St.asideI {w0 : World} {L : List (Nat × E4)} {R : List Nat} {w1 : World} {b : Nat} (h : St w0 L R w1) (hn : ∀ p ∈ L, b ≠ p.1) (h0 : w0.heap.size ≤ b) (k : Nat) (v : Value) : St w0 L R (w1.setCell ⟨b, k, none⟩ v) :=
  ⟨fun p hp => (h.live p hp).far1 (hn p hp) _ _, fun c hc => ⟨(h.wrt c hc).1.put _ _ _, by simpa using (h.wrt c hc).2⟩, h.bel.setCell h0 _⟩

/-- what is carried ahead of digit i, and the digit -/
def dgc (N : Int) (m : Nat) : Nat → Int
  | 0 => 0
  | i + 1 => if win N (m * i) m + dgc N m i > 2 ^ (m - 1) then 1 else 0
def dg (N : Int) (m i : Nat) : Int := if win N (m * i) m + dgc N m i > 2 ^ (m - 1) then win N (m * i) m + dgc N m i - 2 ^ m else win N (m * i) m + dgc N m i
theorem dgc_bd (N : Int) (m i : Nat) : 0 ≤ dgc N m i ∧ dgc N m i ≤ 1 := by
  cases i with
  | zero => simp [dgc]
  | succ i => unfold dgc; split <;> omega
theorem pow12 (m : Nat) (h : m ≤ 12) : (2 : Int) ^ m ≤ 4096 := by
  have := p2pos (12 - m)
  rw [show (4096 : Int) = 2 ^ 12 from rfl, p2mul m 12 h]
  have h1 := Int.mul_le_mul_of_nonneg_left (c := 2 ^ m) (show (1 : Int) ≤ 2 ^ (12 - m) by omega) (by have := p2pos m; omega)
  rw [Int.mul_one] at h1
  exact h1

end Go.Proofs.YtaejedhdpilhjaaDoor
