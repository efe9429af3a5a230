import Derived.Test.YtalalgppdhpfiaaPow
import Derived.Deep.MidRow
import Derived.RegionTactic
namespace Go.Proofs.Ytalalgppdhpfiaa
open Go.RowKit

theorem there_keep {w1 w2 : World} {b o n : Nat} (h : w1.there b o n) (hl : b < w1.heap.size) (hb : Below w1.heap.size w1 w2) : w2.there b o n := fun j hj =>
  ⟨by rw [hb.cell (p := ⟨b, o + j, none⟩) hl]; exact (h j hj).1, by rw [hb.frozen (p := ⟨b, o + j, none⟩) hl]; exact (h j hj).2⟩
theorem there_new (w : World) (C : Array Value) (t : TypeId) : (w.alloc (.cells C t)).there w.heap.size 0 C.size := fun j hj => by
  refine ⟨?_, by go_simp⟩
  rw [Nat.zero_add, World.cell?_alloc_mark]
  simp [hj]
theorem below_setCells {w0 : World} (b : Nat) : ∀ (vs : List Value) (o : Nat) {w : World}, Below w0.heap.size w0 w → w0.heap.size ≤ b → Below w0.heap.size w0 (w.setCells b o vs)
  | [], _, _, h, _ => h
  | v :: vs, o, w, h, hb => by
    rw [World.setCells]
    exact below_setCells b vs (o + 1) (h.setCell hb v) hb
theorem range_keep {w1 w2 : World} {b o : Nat} {cs : List Value} (h : w1.rangeAt b o cs) (hb : Below w1.heap.size w1 w2) : w2.rangeAt b o cs := fun j v hv => cell_keep (h j v hv) hb

/-- byte j of a number -/
def nb (T j : Nat) : Int := ((T / 256 ^ j % 256 : Nat) : Int)
def nbs (T : Nat) : List Int := (List.range 32).map (nb T)
theorem nbs_len (T : Nat) : (nbs T).length = 32 := by simp [nbs]
theorem nbs_bd (T : Nat) : ∀ z ∈ nbs T, 0 ≤ z ∧ z ≤ 255 := by
  intro z hz
  obtain ⟨j, _, rfl⟩ := List.mem_map.1 hz
  unfold nb; omega
theorem num_map (n : Nat) : ∀ T : Nat, num ((List.range n).map fun j => ((T / 256 ^ j % 256 : Nat) : Int)) = T % 256 ^ n := by
  induction n with
  | zero => intro T; simp [num, Nat.mod_one]
  | succ n ih =>
    intro T
    rw [List.range_succ_eq_map, List.map_cons, List.map_map, num]
    have e : ((fun j => ((T / 256 ^ j % 256 : Nat) : Int)) ∘ Nat.succ) = fun j => ((T / 256 / 256 ^ j % 256 : Nat) : Int) := by
      funext j
      show ((T / 256 ^ (j + 1) % 256 : Nat) : Int) = _
      rw [Nat.pow_succ, Nat.mul_comm (256 ^ j), ← Nat.div_div_eq_div_mul]
    rw [e, ih]
    simp only [Nat.pow_zero, Nat.div_one, Int.toNat_natCast]
    rw [Nat.pow_succ, Nat.mul_comm (256 ^ n), Nat.mod_mul]
theorem num_nbs (T : Nat) : num (nbs T) = T % 256 ^ 32 := num_map 32 T

theorem num_get : ∀ (zs : List Int) (k : Nat), (∀ z ∈ zs, 0 ≤ z ∧ z ≤ 255) → zs.getD k 0 = ((num zs / 256 ^ k % 256 : Nat) : Int)
  | [], k, _ => by simp [num]
  | z :: zs, 0, h => by
    have hz := h z (by simp)
    simp only [List.getD_cons_zero, num, Nat.pow_zero, Nat.div_one]
    omega
  | z :: zs, k + 1, h => by
    have hz := h z (by simp)
    rw [List.getD_cons_succ, num_get zs k (fun y hy => h y (by simp [hy])), num, Nat.pow_succ, Nat.mul_comm (256 ^ k), ← Nat.div_div_eq_div_mul]
    have e3 : (z.toNat + 256 * num zs) / 256 = num zs := by omega
    rw [e3]

/-- the carry ahead of place k -/
def cy (A B k : Nat) : Nat := (A % 256 ^ k + B % 256 ^ k) / 256 ^ k
theorem cy_le (A B k : Nat) : cy A B k ≤ 1 := by
  unfold cy
  have hp : 0 < 256 ^ k := Nat.pow_pos (by decide)
  have h1 := Nat.mod_lt A hp
  have h2 := Nat.mod_lt B hp
  have : (A % 256 ^ k + B % 256 ^ k) / 256 ^ k < 2 := (Nat.div_lt_iff_lt_mul hp).2 (by omega)
  omega
theorem sum_div (A B k : Nat) : (A + B) / 256 ^ k = A / 256 ^ k + B / 256 ^ k + cy A B k := by
  unfold cy
  have hp : 0 < 256 ^ k := Nat.pow_pos (by decide)
  have e : A + B = (A % 256 ^ k + B % 256 ^ k) + 256 ^ k * (A / 256 ^ k + B / 256 ^ k) := by
    have h1 := Nat.div_add_mod A (256 ^ k)
    have h2 := Nat.div_add_mod B (256 ^ k)
    rw [Nat.mul_add]; omega
  have e2 := Nat.add_mul_div_left (A % 256 ^ k + B % 256 ^ k) (A / 256 ^ k + B / 256 ^ k) hp
  rw [← e] at e2
  omega
theorem cy_step (A B k : Nat) : cy A B (k + 1) = (cy A B k + A / 256 ^ k % 256 + B / 256 ^ k % 256) / 256 ∧ (A + B) / 256 ^ k % 256 = (cy A B k + A / 256 ^ k % 256 + B / 256 ^ k % 256) % 256 := by
  have s0 := sum_div A B k
  have s1 := sum_div A B (k + 1)
  have d : ∀ X : Nat, X / 256 ^ (k + 1) = X / 256 ^ k / 256 := fun X => by rw [Nat.pow_succ, Nat.div_div_eq_div_mul]
  rw [d, d, d] at s1
  have hc := cy_le A B k
  have hc1 := cy_le A B (k + 1)
  omega

/-- what lies where while the sum is written -/
structure PlW (w0 : World) (zs ys : List Int) (Ob R k : Nat) (w : World) : Prop where
  bz : Byt w w0.heap.size zs
  bY : Byt w (w0.heap.size + 1) ys
  ot : ∀ j, j < 32 → w.cell? ⟨Ob, j, none⟩ = some (.int .u8 (if j < k then nb (num zs + num ys) j else 0))
  fr : ∀ j, j < 32 → w.frozen? ⟨Ob, j, none⟩ = false
  th : w.there R 0 32
  bel : Below w0.heap.size w0 w

theorem Byt.poke {w : World} {b : Nat} {zs : List Int} {p : Addr} {v : Value} (h : Byt w b zs) (hne : p.block ≠ b) : Byt (w.setCell p v) b zs := ⟨h.1, fun j hj => (World.cell?_setCell_far w p _ v hne).trans (h.2 j hj)⟩
theorem PlW.step {w0 : World} {zs ys : List Int} {Ob R k : Nat} {w : World} (h : PlW w0 zs ys Ob R k w) (hk : k < 32) (h0 : w0.heap.size + 1 < Ob) :
    PlW w0 zs ys Ob R (k + 1) (w.setCell ⟨Ob, k, none⟩ (.int .u8 (nb (num zs + num ys) k))) := by
  refine ⟨h.bz.poke (show Ob ≠ w0.heap.size by omega), h.bY.poke (show Ob ≠ w0.heap.size + 1 by omega), fun j hj => ?_, fun j hj => by have := h.fr j hj; go_simp, fun j hj => ⟨?_, by rw [World.frozen?_setCell]; exact (h.th j hj).2⟩, h.bel.setCell (by show _ ≤ Ob; omega) _⟩
  · by_cases hjk : j = k
    · subst hjk
      have hb := h.ot j hj
      rw [if_pos (by omega)]
      go_simp
    · rw [World.cell?_setCell_other w _ _ _ (by intro e; exact hjk (congrArg Addr.off e).symm), h.ot j hj]
      by_cases hlt : j < k
      · rw [if_pos hlt, if_pos (by omega)]
      · rw [if_neg hlt, if_neg (by omega)]
  · exact World.isSome_setCells Ob [.int .u8 (nb (num zs + num ys) k)] k w _ (h.th j hj).1
end Go.Proofs.Ytalalgppdhpfiaa
