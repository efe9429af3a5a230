import Derived.Test.YtbmbopapmajaaaaDoorSrd
namespace Go.Proofs.YtbmbopapmajaaaaDoor
open Go.RowKit

/-- the limbs of a number of 256 bits -/
def limE (N : Int) : E4 := ⟨Sm.lim 0 N, Sm.lim 1 N, Sm.lim 2 N, Sm.lim 3 N⟩
theorem limE_ok (N : Int) : (limE N).ok := ⟨Sm.lim_wd 0 _, Sm.lim_wd 1 _, Sm.lim_wd 2 _, Sm.lim_wd 3 _⟩
theorem limE_n (N : Int) (h0 : 0 ≤ N) (h1 : N < 115792089237316195423570985008687907853269984665640564039457584007913129639936) : (limE N).n = N := Sm.V_lim N h0 h1

/-- while the limbs are read -/
structure RdW (w0 : World) (N : Int) (k : Nat) (w : World) : Prop where
  c : ∀ j, j < 4 → w.cell? ⟨w0.heap.size + 1 + 1, j, none⟩ = some (.int .u64 (Sm.lim j (N % 256 ^ k)))
  f : ∀ j, j < 4 → w.frozen? ⟨w0.heap.size + 1 + 1, j, none⟩ = false
  rs : Blc w (w0.heap.size + 1) zero4
  rf : Wrt w (w0.heap.size + 1)
  bel : Below w0.heap.size w0 w
theorem RdW.drew {w0 : World} {N : Int} {k : Nat} {w : World} (h : RdW w0 N k w) : RdW w0 N k w.drew := by
  have hb : Below w.heap.size w w.drew := (Below.refl _ _).drew
  have hl := World.block_lt_of_cell? w ⟨w0.heap.size + 1 + 1, 0, none⟩ (h.c 0 (by omega))
  exact ⟨fun j hj => cell_keep (h.c j hj) hb, fun j hj => ((bcell hb).2 _ _ hl).trans (h.f j hj), h.rs.keep hb, h.rf.keep h.rs.lt hb, bl_trans h.bel hb⟩
theorem RdW.step {w0 : World} {N : Int} {k : Nat} {w : World} (h : RdW w0 N k w) (hk : k < 32) :
    RdW w0 N (k + 1) (w.setCell ⟨w0.heap.size + 1 + 1, k / 8, none⟩ (.int .u64 (Sm.lim (k / 8) (N % 256 ^ (k + 1))))) := by
  obtain ⟨s1, -, -⟩ := read_step N k hk
  have hq : k / 8 < 4 := by omega
  refine ⟨fun j hj => ?_, fun j hj => by have := h.f j hj; go_simp, ?_, ?_, h.bel.setCell (by show w0.heap.size ≤ w0.heap.size + 1 + 1; omega) _⟩
  · by_cases hjk : j = k / 8
    · subst hjk
      have hb := h.c (k / 8) hj
      go_simp
    · rw [World.cell?_setCell_other w _ _ _ (by intro e; exact hjk (congrArg Addr.off e).symm), h.c j hj, s1 j hj hjk]
  · obtain ⟨a0, a1, a2, a3⟩ := h.rs
    exact ⟨(World.cell?_setCell_far w _ _ _ (by show w0.heap.size + 1 + 1 ≠ w0.heap.size + 1; omega)).trans a0, (World.cell?_setCell_far w _ _ _ (by show w0.heap.size + 1 + 1 ≠ w0.heap.size + 1; omega)).trans a1, (World.cell?_setCell_far w _ _ _ (by show w0.heap.size + 1 + 1 ≠ w0.heap.size + 1; omega)).trans a2, (World.cell?_setCell_far w _ _ _ (by show w0.heap.size + 1 + 1 ≠ w0.heap.size + 1; omega)).trans a3⟩
  · obtain ⟨a0, a1, a2, a3⟩ := h.rf
    exact ⟨by go_simp, by go_simp, by go_simp, by go_simp⟩

theorem or_step (N : Int) (k : Nat) (hk : k < 32) : bits .or .u64 (Sm.lim (k / 8) (N % 256 ^ k)) (N / 256 ^ k % 256 * 2 ^ (8 * (k % 8))) = Sm.lim (k / 8) (N % 256 ^ (k + 1)) ∧ 0 ≤ N / 256 ^ k % 256 * 2 ^ (8 * (k % 8)) ∧ N / 256 ^ k % 256 * 2 ^ (8 * (k % 8)) ≤ 18446744073709551615 := by
  obtain ⟨-, s2, s3⟩ := read_step N k hk
  have hb : 0 ≤ N / 256 ^ k % 256 ∧ N / 256 ^ k % 256 ≤ 255 := by omega
  have hl := Sm.lim_wd (k / 8) (N % 256 ^ k)
  have hm : k % 8 < 8 := by omega
  have hup : N / 256 ^ k % 256 * 2 ^ (8 * (k % 8)) ≤ 255 * 72057594037927936 := by
    have hp : (2 : Int) ^ (8 * (k % 8)) ≤ 72057594037927936 := by
      have hc : k % 8 = 0 ∨ k % 8 = 1 ∨ k % 8 = 2 ∨ k % 8 = 3 ∨ k % 8 = 4 ∨ k % 8 = 5 ∨ k % 8 = 6 ∨ k % 8 = 7 := by omega
      rcases hc with h | h | h | h | h | h | h | h <;> rw [h] <;> decide
    exact Int.mul_le_mul hb.2 hp (Int.le_of_lt (Int.pow_pos (by decide))) (by decide)
  have hlo : 0 ≤ N / 256 ^ k % 256 * 2 ^ (8 * (k % 8)) := Int.mul_nonneg hb.1 (Int.le_of_lt (Int.pow_pos (by decide)))
  refine ⟨?_, hlo, by omega⟩
  rw [or_parts (8 * (k % 8)) _ _ hl.1 s3 hb.1 (by omega) (by omega), s2]

theorem run_index_arr {P : Program} {w : World} {t e : TypeId} {n : Nat} {cs : Array Value} {k : IntKind} {i : Nat} {v : Value} (h : P.underlying t = some (.array n e)) (hp : P.plainKey e = true) {x : TypeInfo} (hinfo : P.info? e = some x) (hc : P.cellsOf e = 1) (hn : (i : Int) < n) (hv : cs[i]? = some v) :
    (Instr.index t (.agg cs) (.int k i)).run P w = .ok v w := by
  have hr : 0 ≤ (i : Int) ∧ (i : Int) < (n : Int) := by omega
  have hsz := run_sizeOf w hinfo
  rw [hc] at hsz
  simp only [Instr.index, run_underlying h, asIntOf, Sem.run_bind, Sem.run_pure, Result.andThen_ok, if_pos hr, hsz, Int.toNat_natCast, Nat.mul_one, run_part_plain w hp hv]

end Go.Proofs.YtbmbopapmajaaaaDoor
