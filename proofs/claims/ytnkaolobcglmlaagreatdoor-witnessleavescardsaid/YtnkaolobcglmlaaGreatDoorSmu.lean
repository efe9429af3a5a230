import Derived.Test.YtnkaolobcglmlaaGreatDoorSrh
import Derived.Test.YtnkaolobcglmlaaGreatDoorSnum
namespace Go.Proofs.YtnkaolobcglmlaaGreatDoor
open Go.RowKit
def nv (f : Nat → Int) : Nat → Int
 | 0 => 0
 | m + 1 => nv f m + f m * 4294967296 ^ m
theorem nv_succ (f : Nat → Int) (m : Nat) : nv f (m + 1) = nv f m + f m * 4294967296 ^ m := rfl
def upd (f : Nat → Int) (j : Nat) (v : Int) (i : Nat) : Int := if i = j then v else f i
theorem upd_at (f : Nat → Int) (j : Nat) (v : Int) : upd f j v j = v := if_pos rfl
theorem upd_ne (f : Nat → Int) (j : Nat) (v : Int) {i : Nat} (h : i ≠ j) : upd f j v i = f i := if_neg h
theorem nv_out (f : Nat → Int) (j : Nat) (v : Int) (m : Nat) (h : m ≤ j) : nv (upd f j v) m = nv f m := by
 induction m with
 | zero => rfl
 | succ m ih => rw [nv, nv, ih (by omega), upd_ne f j v (by omega)]
theorem nv_upd (f : Nat → Int) (j : Nat) (v : Int) (m : Nat) (h : j < m) : nv (upd f j v) m = nv f m + (v - f j) * 4294967296 ^ j := by
 induction m with
 | zero => omega
 | succ m ih =>
  rw [nv, nv]
  by_cases hj : j = m
  ·subst hj
   rw [nv_out f j v j (Nat.le_refl _), upd_at, Int.sub_mul]
   omega
  ·rw [ih (by omega), upd_ne f j v (by omega)]
   omega
theorem nv_zero (m : Nat) : nv (fun _ => 0) m = 0 := by
 induction m with
 | zero => rfl
 | succ m ih => rw [nv, ih]; omega
theorem nv_hv (a : E4) : nv (hv a) 8 = a.n := by
 rw [← hv_sum]
 simp only [nv]
 generalize hv a 0 = h0
 generalize hv a 1 = h1
 generalize hv a 2 = h2
 generalize hv a 3 = h3
 generalize hv a 4 = h4
 generalize hv a 5 = h5
 generalize hv a 6 = h6
 generalize hv a 7 = h7
 omega
def tv (f : Nat → Int) : Nat → Int
 | 0 => 0
 | d + 1 => f (15 - d) + 4294967296 * tv f d
theorem tv_nv (f : Nat → Int) : tv f 16 = nv f 16 := by
 simp only [nv, tv, Nat.reduceSub]
 generalize f 0 = f0
 generalize f 1 = f1
 generalize f 2 = f2
 generalize f 3 = f3
 generalize f 4 = f4
 generalize f 5 = f5
 generalize f 6 = f6
 generalize f 7 = f7
 generalize f 8 = f8
 generalize f 9 = f9
 generalize f 10 = f10
 generalize f 11 = f11
 generalize f 12 = f12
 generalize f 13 = f13
 generalize f 14 = f14
 generalize f 15 = f15
 omega
structure Mo (x y P : Nat → Int) (i : Nat) : Prop where
 s : nv P 16 = nv x i * nv y 8
 b : ∀ j, 0 ≤ P j ∧ P j < 4294967296
 z : ∀ j, i + 8 ≤ j → P j = 0
structure Mi (x y P : Nat → Int) (c : Int) (i k : Nat) : Prop where
 s : nv P 16 + c * 4294967296 ^ (i + k) = nv x i * nv y 8 + x i * nv y k * 4294967296 ^ i
 b : ∀ j, 0 ≤ P j ∧ P j < 4294967296
 z : ∀ j, i + 8 ≤ j → P j = 0
 c0 : 0 ≤ c
 c1 : c < 4294967296
theorem Mo.start (x y : Nat → Int) : Mo x y (fun _ => 0) 0 := ⟨by rw [nv_zero]; simp [nv], fun _ => by omega, fun _ _ => rfl⟩
theorem Mo.inner {x y P : Nat → Int} {i : Nat} (h : Mo x y P i) : Mi x y P 0 i 0 := ⟨by rw [h.s]; simp [nv], h.b, h.z, by omega, by omega⟩
def mt (x y P : Nat → Int) (c : Int) (i k : Nat) : Int := x i * y k + P (i + k) + c
theorem Mi.bd {x y P : Nat → Int} {c : Int} {i k : Nat} (h : Mi x y P c i k) (hx : 0 ≤ x i ∧ x i < 4294967296) (hy : 0 ≤ y k ∧ y k < 4294967296) :
  0 ≤ x i * y k ∧ x i * y k ≤ 18446744065119617025 ∧ 0 ≤ mt x y P c i k ∧ mt x y P c i k < 18446744073709551616 := by
 have p0 := Int.mul_nonneg hx.1 hy.1
 have p1 : x i * y k ≤ 4294967295 * 4294967295 := Int.mul_le_mul (by omega) (by omega) hy.1 (by omega)
 have := h.b (i + k)
 have := h.c0
 have := h.c1
 unfold mt
 omega
theorem Mi.next {x y P : Nat → Int} {c : Int} {i k : Nat} (h : Mi x y P c i k) (hi : i < 8) (hk : k < 8) (hx : 0 ≤ x i ∧ x i < 4294967296) (hy : 0 ≤ y k ∧ y k < 4294967296) :
  Mi x y (upd P (i + k) (mt x y P c i k % 4294967296)) (mt x y P c i k / 4294967296) i (k + 1) := by
 have hb := h.bd hx hy
 refine ⟨?_, fun j => ?_, fun j hj => ?_, ?_, ?_⟩
 ·rw [nv_upd _ _ _ _ (by omega), nv_succ y k, show i + (k + 1) = i + k + 1 by omega, Int.pow_succ 4294967296 (i + k)]
  have e : mt x y P c i k = 4294967296 * (mt x y P c i k / 4294967296) + mt x y P c i k % 4294967296 := by omega
  have e2 : (mt x y P c i k % 4294967296 - P (i + k)) * 4294967296 ^ (i + k) + mt x y P c i k / 4294967296 * (4294967296 ^ (i + k) * 4294967296) = (x i * y k + c) * 4294967296 ^ (i + k) := by
   have : mt x y P c i k % 4294967296 = x i * y k + P (i + k) + c - 4294967296 * (mt x y P c i k / 4294967296) := by
    have u : mt x y P c i k = x i * y k + P (i + k) + c := rfl
    omega
   rw [this]
   generalize mt x y P c i k / 4294967296 = q
   generalize (4294967296 : Int) ^ (i + k) = Q
   generalize x i * y k = m
   generalize P (i + k) = p
   rw [show m + p + c - 4294967296 * q - p = m + c - 4294967296 * q by omega, Int.sub_mul, show q * (Q * 4294967296) = 4294967296 * q * Q by rw [Int.mul_comm Q, ← Int.mul_assoc, Int.mul_comm q]]
   omega
  rw [Int.add_assoc, e2, Int.mul_add, Int.add_mul (x i * nv y k), ← Int.add_assoc (nv x i * nv y 8), ← h.s, Int.add_mul, show x i * (y k * 4294967296 ^ k) * 4294967296 ^ i = x i * y k * 4294967296 ^ (i + k) by rw [Int.pow_add, ← Int.mul_assoc, Int.mul_assoc (x i * y k), Int.mul_comm (4294967296 ^ k)]]
  omega
 ·by_cases hj : j = i + k
  ·subst hj
   rw [upd_at]
   omega
  ·rw [upd_ne _ _ _ hj]
   exact h.b j
 ·rw [upd_ne _ _ _ (by omega)]
  exact h.z j hj
 ·omega
 ·omega
theorem Mi.close {x y P : Nat → Int} {c : Int} {i : Nat} (h : Mi x y P c i 8) (hi : i < 8) : Mo x y (upd P (i + 8) c) (i + 1) := by
 refine ⟨?_, fun j => ?_, fun j hj => ?_⟩
 ·rw [nv_upd _ _ _ _ (by omega), h.z (i + 8) (by omega), Int.sub_zero, h.s, nv_succ x i, Int.add_mul, Int.mul_assoc (x i), Int.mul_comm (nv y 8), Int.mul_assoc (x i)]
 ·by_cases hj : j = i + 8
  ·subst hj
   rw [upd_at]
   exact ⟨h.c0, h.c1⟩
  ·rw [upd_ne _ _ _ hj]
   exact h.b j
 ·rw [upd_ne _ _ _ (by omega)]
  exact h.z j (by omega)
theorem Mo.all {a b : E4} {P : Nat → Int} (h : Mo (hv a) (hv b) P 8) : tv P 16 = a.n * b.n := by
 rw [tv_nv, h.s, nv_hv, nv_hv]
theorem tv_next {f : Nat → Int} {d : Nat} {r s t : E4} (hr : r.is (tv f d)) (hs : s.is (65536 * r.n + f (15 - d) / 65536)) (ht : t.is (65536 * s.n + f (15 - d) % 65536)) : t.is (tv f (d + 1)) := by
 refine is_of ht ?_
 have e1 : (65536 * s.n + f (15 - d) % 65536) % Sm.L = (65536 * (65536 * r.n + f (15 - d) / 65536) + f (15 - d) % 65536) % Sm.L := by
  rw [Int.add_emod, Int.mul_emod, hs.m, ← Int.mul_emod, ← Int.add_emod]
 rw [e1, show 65536 * (65536 * r.n + f (15 - d) / 65536) + f (15 - d) % 65536 = f (15 - d) + 4294967296 * r.n by omega, tv, Int.add_emod, Int.mul_emod, hr.m, ← Int.mul_emod, ← Int.add_emod]
structure Rw (w : World) (b n : Nat) (f : Nat → Int) : Prop where
 c : ∀ j, j < n → w.cell? ⟨b, j, none⟩ = some (.int .u64 (f j))
 fr : ∀ j, j < n → w.frozen? ⟨b, j, none⟩ = false
theorem Rw.lt {w : World} {b n : Nat} {f : Nat → Int} (h : Rw w b n f) (hn : 0 < n) : b < w.heap.size := World.block_lt_of_cell? w ⟨b, 0, none⟩ (h.c 0 hn)
theorem Rw.keep {w1 w2 : World} {b n : Nat} {f : Nat → Int} (h : Rw w1 b n f) (hn : 0 < n) (hb : Below w1.heap.size w1 w2) : Rw w2 b n f :=
 ⟨fun j hj => cell_keep (h.c j hj) hb, fun j hj => ((bcell hb).2 _ _ (h.lt hn)).trans (h.fr j hj)⟩
theorem Rw.drew {w : World} {b n : Nat} {f : Nat → Int} (h : Rw w b n f) (hn : 0 < n) : Rw w.drew b n f := h.keep hn ((Below.refl _ _).drew)
theorem Rw.far {w : World} {b n : Nat} {f : Nat → Int} (h : Rw w b n f) {c : Nat} (hne : c ≠ b) (k : Nat) (v : Value) : Rw (w.setCell ⟨c, k, none⟩ v) b n f :=
 ⟨fun j hj => (World.cell?_setCell_far w _ _ _ hne).trans (h.c j hj), fun j hj => by have := h.fr j hj; go_simp⟩
theorem Rw.far4 {w : World} {b n : Nat} {f : Nat → Int} (h : Rw w b n f) {c : Nat} (hne : c ≠ b) (s : E4) : Rw (set4 w c s) b n f :=
 (((h.far hne 0 _).far hne 1 _).far hne 2 _).far hne 3 _
theorem Rw.at {w : World} {b n : Nat} {f : Nat → Int} (h : Rw w b n f) (k : Nat) (hk : k < n) (v : Int) : Rw (w.setCell ⟨b, k, none⟩ (.int .u64 v)) b n (upd f k v) := by
 refine ⟨fun j hj => ?_, fun j hj => by have := h.fr j hj; go_simp⟩
 by_cases hjk : j = k
 ·subst hjk
  have hb := h.c j hj
  rw [upd_at]
  go_simp
 ·rw [World.cell?_setCell_other w _ _ _ (by intro e; exact hjk (congrArg Addr.off e).symm), h.c j hj, upd_ne _ _ _ hjk]
end Go.Proofs.YtnkaolobcglmlaaGreatDoor
