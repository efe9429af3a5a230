import Derived.Test.YtebmaneogekhjaaGreatDoorTk
import Derived.Test.YtebmaneogekhjaaGreatDoorRy
import Derived.Test.YtebmaneogekhjaaGreatDoorSnum
namespace Go.Proofs.YtebmaneogekhjaaGreatDoor
open Go.RowKit
def hv (a : E4) (j : Nat) : Int := if j % 2 = 0 then a.get (j / 2) % 4294967296 else a.get (j / 2) / 4294967296
theorem hv_even (a : E4) (k : Nat) : hv a (2 * k) = a.get k % 4294967296 := by
 unfold hv
 rw [if_pos (by omega), show 2 * k / 2 = k by omega]
theorem hv_odd (a : E4) (k : Nat) : hv a (2 * k + 1) = a.get k / 4294967296 := by
 unfold hv
 rw [if_neg (by omega), show (2 * k + 1) / 2 = k by omega]
theorem hv_bd (a : E4) (h : a.ok) (j : Nat) : 0 ≤ hv a j ∧ hv a j < 4294967296 := by
 have hw := E4.get_wd h (j / 2)
 unfold Sm.Wd at hw
 unfold hv
 split <;> omega
theorem hv_sum (a : E4) : hv a 0 + hv a 1 * 4294967296 + (hv a 2 + hv a 3 * 4294967296) * 18446744073709551616 + (hv a 4 + hv a 5 * 4294967296) * 340282366920938463463374607431768211456 + (hv a 6 + hv a 7 * 4294967296) * 6277101735386680763835789423207666416102355444464034512896 = a.n := by
 simp only [hv, Nat.reduceMod, Nat.reduceDiv, E4.get, E4.n, Sm.V]
 simp
 omega
structure HvW (w0 : World) (a : E4) (m : Nat) (w : World) : Prop where
 av : Blc w w0.heap.size a
 bt : ∀ j, j < 8 → w.cell? ⟨w0.heap.size + 1 + 1, j, none⟩ = some (.int .u64 (if j < m then hv a j else 0))
 fr : ∀ j, j < 8 → w.frozen? ⟨w0.heap.size + 1 + 1, j, none⟩ = false
 rs : ∀ j, j < 8 → w.cell? ⟨w0.heap.size + 1, j, none⟩ = some (.int .u64 0)
 rf : ∀ j, j < 8 → w.frozen? ⟨w0.heap.size + 1, j, none⟩ = false
 bel : Below w0.heap.size w0 w
theorem HvW.step {w0 : World} {a : E4} {m : Nat} {w : World} (h : HvW w0 a m w) (hm : m < 8) : HvW w0 a (m + 1) (w.setCell ⟨w0.heap.size + 1 + 1, m, none⟩ (.int .u64 (hv a m))) := by
 refine ⟨h.av.far1 (by omega) _ _, fun j hj => ?_, fun j hj => by have := h.fr j hj; go_simp, fun j hj => (World.cell?_setCell_far w _ _ _ (by show w0.heap.size + 1 + 1 ≠ w0.heap.size + 1; omega)).trans (h.rs j hj), fun j hj => by have := h.rf j hj; go_simp, h.bel.setCell (by show w0.heap.size ≤ w0.heap.size + 1 + 1; omega) _⟩
 by_cases hjk : j = m
 ·subst hjk
  have hb := h.bt j hj
  rw [if_pos (by omega)]
  go_simp
 ·rw [World.cell?_setCell_other w _ _ _ (by intro e; exact hjk (congrArg Addr.off e).symm), h.bt j hj]
  by_cases hlt : j < m
  ·rw [if_pos hlt, if_pos (by omega)]
  ·rw [if_neg hlt, if_neg (by omega)]
set_option maxRecDepth 100000 in
set_option maxHeartbeats 8000000 in
theorem rhalves_any (a : E4) (w : World) (ha : a.ok) :
  Calls Tryz.prog 164 #[a.v] w fun e w' => e = .returned (.agg #[.int .u64 (hv a 0), .int .u64 (hv a 1), .int .u64 (hv a 2), .int .u64 (hv a 3), .int .u64 (hv a 4), .int .u64 (hv a 5), .int .u64 (hv a 6), .int .u64 (hv a 7)]) ∧ Below w.heap.size w w' := by
 have HA := Hn ha
 obtain ⟨h0, e0⟩ : ∃ h, Hid (hv a 0 = h) := ⟨_, Hn rfl⟩
 obtain ⟨h1, e1⟩ : ∃ h, Hid (hv a 1 = h) := ⟨_, Hn rfl⟩
 obtain ⟨h2, e2⟩ : ∃ h, Hid (hv a 2 = h) := ⟨_, Hn rfl⟩
 obtain ⟨h3, e3⟩ : ∃ h, Hid (hv a 3 = h) := ⟨_, Hn rfl⟩
 obtain ⟨h4, e4⟩ : ∃ h, Hid (hv a 4 = h) := ⟨_, Hn rfl⟩
 obtain ⟨h5, e5⟩ : ∃ h, Hid (hv a 5 = h) := ⟨_, Hn rfl⟩
 obtain ⟨h6, e6⟩ : ∃ h, Hid (hv a 6 = h) := ⟨_, Hn rfl⟩
 obtain ⟨h7, e7⟩ : ∃ h, Hid (hv a 7 = h) := ⟨_, Hn rfl⟩
 rw [e0.out, e1.out, e2.out, e3.out, e4.out, e5.out, e6.out, e7.out]
 have s0 : HvW w a 0 (((w.alloc (.cells #[.int .u64 a.x0, .int .u64 a.x1, .int .u64 a.x2, .int .u64 a.x3] 107)).alloc (.cells #[.int .u64 0, .int .u64 0, .int .u64 0, .int .u64 0, .int .u64 0, .int .u64 0, .int .u64 0, .int .u64 0] 198)).alloc (.cells #[.int .u64 0, .int .u64 0, .int .u64 0, .int .u64 0, .int .u64 0, .int .u64 0, .int .u64 0, .int .u64 0] 198)) := by
  refine ⟨((Blc.new w a _).keep (bl_alloc _ _)).keep (bl_alloc _ _), fun j hj => ?_, fun j hj => ?_, fun j hj => ?_, fun j hj => ?_, bl_alloc3 _ _ _ _⟩
  ·rw [if_neg (by omega)]
   have h8 : j = 0 ∨ j = 1 ∨ j = 2 ∨ j = 3 ∨ j = 4 ∨ j = 5 ∨ j = 6 ∨ j = 7 := by omega
   rcases h8 with rfl | rfl | rfl | rfl | rfl | rfl | rfl | rfl <;> go_simp
  ·go_simp
  ·have h8 : j = 0 ∨ j = 1 ∨ j = 2 ∨ j = 3 ∨ j = 4 ∨ j = 5 ∨ j = 6 ∨ j = 7 := by omega
   rcases h8 with rfl | rfl | rfl | rfl | rfl | rfl | rfl | rfl <;> go_simp
  ·go_simp
 have S0 := Hn s0
 clear s0 ha
 simp only [E4.v]
 go_enter Tryz.func164, Tryz.ntmps164
 go_wp2_with fail
 go_loopw [4] (fun i w' => ∃ k : Nat, k ≤ 4 ∧ i = .int .i64 k ∧ HvW w a (2 * k) w') (fun i _ => 4 - (intOf i).toNat)
 case atStart => exact ⟨0, by omega, rfl, S0.out⟩
 case round =>
  obtain ⟨k, hk, rfl, hst⟩ := hrel
  clear S0
  by_cases hk4 : k < 4
  ·have kk0 : (0 : Int) ≤ (k : Int) := by omega
   have kk1 : (k : Int) < 4 := by omega
   have xw := E4.get_wd HA.out k
   unfold Sm.Wd at xw
   have n1 := hst.step (by omega)
   rw [hv_even] at n1
   have n2 := n1.step (by omega)
   rw [hv_odd] at n2
   have A0 := and32 (a.get k) xw.1 (by omega)
   have ca := hst.av.get k hk4
   have cb := hst.bt (2 * k) (by omega)
   have fb := hst.fr (2 * k) (by omega)
   have cd := n1.bt (2 * k + 1) (by omega)
   have fd := n1.fr (2 * k + 1) (by omega)
   have ce := n1.av.get k hk4
   rw [if_neg (by omega)] at cb cd
   have NX := Hn n2
   have hi1 : (2 * (k : Int)).toNat = 2 * k := by omega
   have hi2 : (2 * (k : Int) + 1).toNat = 2 * k + 1 := by omega
   have hi3 : IntKind.i64.wrap (2 * (k : Int)) = 2 * (k : Int) := IntWalk.i64_in _ (by omega)
   have hi4 : IntKind.i64.wrap (2 * (k : Int) + 1) = 2 * (k : Int) + 1 := IntWalk.i64_in _ (by omega)
   clear hst n1 n2
   generalize a.get k = x at *
   go_wp2_with fail
   go_roundw
   case rel => exact ⟨k + 1, by omega, by go_num, NX.out⟩
   case measure => simp [intOf]; omega
  ·have hkk : k = 4 := by omega
   subst hkk
   have c0 := hst.bt 0 (by omega)
   rw [if_pos (by omega), e0.out] at c0
   have d0 := hst.rs 0 (by omega)
   have f0 := hst.rf 0 (by omega)
   have c1 := hst.bt 1 (by omega)
   rw [if_pos (by omega), e1.out] at c1
   have d1 := hst.rs 1 (by omega)
   have f1 := hst.rf 1 (by omega)
   have c2 := hst.bt 2 (by omega)
   rw [if_pos (by omega), e2.out] at c2
   have d2 := hst.rs 2 (by omega)
   have f2 := hst.rf 2 (by omega)
   have c3 := hst.bt 3 (by omega)
   rw [if_pos (by omega), e3.out] at c3
   have d3 := hst.rs 3 (by omega)
   have f3 := hst.rf 3 (by omega)
   have c4 := hst.bt 4 (by omega)
   rw [if_pos (by omega), e4.out] at c4
   have d4 := hst.rs 4 (by omega)
   have f4 := hst.rf 4 (by omega)
   have c5 := hst.bt 5 (by omega)
   rw [if_pos (by omega), e5.out] at c5
   have d5 := hst.rs 5 (by omega)
   have f5 := hst.rf 5 (by omega)
   have c6 := hst.bt 6 (by omega)
   rw [if_pos (by omega), e6.out] at c6
   have d6 := hst.rs 6 (by omega)
   have f6 := hst.rf 6 (by omega)
   have c7 := hst.bt 7 (by omega)
   rw [if_pos (by omega), e7.out] at c7
   have d7 := hst.rs 7 (by omega)
   have f7 := hst.rf 7 (by omega)
   have BE := Hn hst.bel
   clear hst
   rw [show ((4 : Nat) : Int) = 4 from rfl]
   go_wp2_with fail
   refine bodyPost_ret (v := .agg #[.int .u64 h0, .int .u64 h1, .int .u64 h2, .int .u64 h3, .int .u64 h4, .int .u64 h5, .int .u64 h6, .int .u64 h7]) (by simp [results, Tryz.results164, go_sem, d0, d1, d2, d3, d4, d5, d6, d7]) rfl ⟨rfl, ?_⟩
   have hb : w.heap.size ≤ w.heap.size + 1 := by omega
   iterate 8 refine Below.setCell ?_ hb _
   exact BE.out
end Go.Proofs.YtebmaneogekhjaaGreatDoor
namespace Go.Proofs.YtebmaneogekhjaaGreatDoor
open Go.RowKit
def nv (f : Nat → Int) : Nat → Int
 | 0 => 0
 | m + 1 => nv f m + f m * 4294967296 ^ m
theorem nv_succ (f : Nat → Int) (m : Nat) : nv f (m + 1) = nv f m + f m * 4294967296 ^ m := rfl
def upd (f : Nat → Int) (j : Nat) (v : Int) (i : Nat) : Int := if i = j then v else f i
theorem upd_at (f : Nat → Int) (j : Nat) (v : Int) : upd f j v j = v := if_pos rfl
theorem upd_ne (f : Nat → Int) (j : Nat) (v : Int) {i : Nat} (h : i ≠ j) : upd f j v i = f i := if_neg h
theorem nv_out (f : Nat → Int) (j : Nat) (v : Int) (m : Nat) (h : m ≤ j) : nv (upd f j v) m = nv f m := by
 induction m with
 | zero => rfl
 | succ m ih => rw [nv, nv, ih (by omega), upd_ne f j v (by omega)]
theorem nv_upd (f : Nat → Int) (j : Nat) (v : Int) (m : Nat) (h : j < m) : nv (upd f j v) m = nv f m + (v - f j) * 4294967296 ^ j := by
 induction m with
 | zero => omega
 | succ m ih =>
  rw [nv, nv]
  by_cases hj : j = m
  ·subst hj
   rw [nv_out f j v j (Nat.le_refl _), upd_at, Int.sub_mul]
   omega
  ·rw [ih (by omega), upd_ne f j v (by omega)]
   omega
theorem nv_zero (m : Nat) : nv (fun _ => 0) m = 0 := by
 induction m with
 | zero => rfl
 | succ m ih => rw [nv, ih]; omega
theorem nv_hv (a : E4) : nv (hv a) 8 = a.n := by
 rw [← hv_sum]
 simp only [nv]
 generalize hv a 0 = h0
 generalize hv a 1 = h1
 generalize hv a 2 = h2
 generalize hv a 3 = h3
 generalize hv a 4 = h4
 generalize hv a 5 = h5
 generalize hv a 6 = h6
 generalize hv a 7 = h7
 omega
def tv (f : Nat → Int) : Nat → Int
 | 0 => 0
 | d + 1 => f (15 - d) + 4294967296 * tv f d
theorem tv_nv (f : Nat → Int) : tv f 16 = nv f 16 := by
 simp only [nv, tv, Nat.reduceSub]
 generalize f 0 = f0
 generalize f 1 = f1
 generalize f 2 = f2
 generalize f 3 = f3
 generalize f 4 = f4
 generalize f 5 = f5
 generalize f 6 = f6
 generalize f 7 = f7
 generalize f 8 = f8
 generalize f 9 = f9
 generalize f 10 = f10
 generalize f 11 = f11
 generalize f 12 = f12
 generalize f 13 = f13
 generalize f 14 = f14
 generalize f 15 = f15
 omega
structure Mo (x y P : Nat → Int) (i : Nat) : Prop where
 s : nv P 16 = nv x i * nv y 8
 b : ∀ j, 0 ≤ P j ∧ P j < 4294967296
 z : ∀ j, i + 8 ≤ j → P j = 0
structure Mi (x y P : Nat → Int) (c : Int) (i k : Nat) : Prop where
 s : nv P 16 + c * 4294967296 ^ (i + k) = nv x i * nv y 8 + x i * nv y k * 4294967296 ^ i
 b : ∀ j, 0 ≤ P j ∧ P j < 4294967296
 z : ∀ j, i + 8 ≤ j → P j = 0
 c0 : 0 ≤ c
 c1 : c < 4294967296
theorem Mo.start (x y : Nat → Int) : Mo x y (fun _ => 0) 0 := ⟨by rw [nv_zero]; simp [nv], fun _ => by omega, fun _ _ => rfl⟩
theorem Mo.inner {x y P : Nat → Int} {i : Nat} (h : Mo x y P i) : Mi x y P 0 i 0 := ⟨by rw [h.s]; simp [nv], h.b, h.z, by omega, by omega⟩
def mt (x y P : Nat → Int) (c : Int) (i k : Nat) : Int := x i * y k + P (i + k) + c
theorem Mi.bd {x y P : Nat → Int} {c : Int} {i k : Nat} (h : Mi x y P c i k) (hx : 0 ≤ x i ∧ x i < 4294967296) (hy : 0 ≤ y k ∧ y k < 4294967296) :
  0 ≤ x i * y k ∧ x i * y k ≤ 18446744065119617025 ∧ 0 ≤ mt x y P c i k ∧ mt x y P c i k < 18446744073709551616 := by
 have p0 := Int.mul_nonneg hx.1 hy.1
 have p1 : x i * y k ≤ 4294967295 * 4294967295 := Int.mul_le_mul (by omega) (by omega) hy.1 (by omega)
 have := h.b (i + k)
 have := h.c0
 have := h.c1
 unfold mt
 omega
theorem Mi.next {x y P : Nat → Int} {c : Int} {i k : Nat} (h : Mi x y P c i k) (hi : i < 8) (hk : k < 8) (hx : 0 ≤ x i ∧ x i < 4294967296) (hy : 0 ≤ y k ∧ y k < 4294967296) :
  Mi x y (upd P (i + k) (mt x y P c i k % 4294967296)) (mt x y P c i k / 4294967296) i (k + 1) := by
 have hb := h.bd hx hy
 refine ⟨?_, fun j => ?_, fun j hj => ?_, ?_, ?_⟩
 ·rw [nv_upd _ _ _ _ (by omega), nv_succ y k, show i + (k + 1) = i + k + 1 by omega, Int.pow_succ 4294967296 (i + k)]
  have e : mt x y P c i k = 4294967296 * (mt x y P c i k / 4294967296) + mt x y P c i k % 4294967296 := by omega
  have e2 : (mt x y P c i k % 4294967296 - P (i + k)) * 4294967296 ^ (i + k) + mt x y P c i k / 4294967296 * (4294967296 ^ (i + k) * 4294967296) = (x i * y k + c) * 4294967296 ^ (i + k) := by
   have : mt x y P c i k % 4294967296 = x i * y k + P (i + k) + c - 4294967296 * (mt x y P c i k / 4294967296) := by
    have u : mt x y P c i k = x i * y k + P (i + k) + c := rfl
    omega
   rw [this]
   generalize mt x y P c i k / 4294967296 = q
   generalize (4294967296 : Int) ^ (i + k) = Q
   generalize x i * y k = m
   generalize P (i + k) = p
   rw [show m + p + c - 4294967296 * q - p = m + c - 4294967296 * q by omega, Int.sub_mul, show q * (Q * 4294967296) = 4294967296 * q * Q by rw [Int.mul_comm Q, ← Int.mul_assoc, Int.mul_comm q]]
   omega
  rw [Int.add_assoc, e2, Int.mul_add, Int.add_mul (x i * nv y k), ← Int.add_assoc (nv x i * nv y 8), ← h.s, Int.add_mul, show x i * (y k * 4294967296 ^ k) * 4294967296 ^ i = x i * y k * 4294967296 ^ (i + k) by rw [Int.pow_add, ← Int.mul_assoc, Int.mul_assoc (x i * y k), Int.mul_comm (4294967296 ^ k)]]
  omega
 ·by_cases hj : j = i + k
  ·subst hj
   rw [upd_at]
   omega
  ·rw [upd_ne _ _ _ hj]
   exact h.b j
 ·rw [upd_ne _ _ _ (by omega)]
  exact h.z j hj
 ·omega
 ·omega
theorem Mi.close {x y P : Nat → Int} {c : Int} {i : Nat} (h : Mi x y P c i 8) (hi : i < 8) : Mo x y (upd P (i + 8) c) (i + 1) := by
 refine ⟨?_, fun j => ?_, fun j hj => ?_⟩
 ·rw [nv_upd _ _ _ _ (by omega), h.z (i + 8) (by omega), Int.sub_zero, h.s, nv_succ x i, Int.add_mul, Int.mul_assoc (x i), Int.mul_comm (nv y 8), Int.mul_assoc (x i)]
 ·by_cases hj : j = i + 8
  ·subst hj
   rw [upd_at]
   exact ⟨h.c0, h.c1⟩
  ·rw [upd_ne _ _ _ hj]
   exact h.b j
 ·rw [upd_ne _ _ _ (by omega)]
  exact h.z j (by omega)
theorem Mo.all {a b : E4} {P : Nat → Int} (h : Mo (hv a) (hv b) P 8) : tv P 16 = a.n * b.n := by
 rw [tv_nv, h.s, nv_hv, nv_hv]
theorem tv_next {f : Nat → Int} {d : Nat} {r s t : E4} (hr : r.is (tv f d)) (hs : s.is (65536 * r.n + f (15 - d) / 65536)) (ht : t.is (65536 * s.n + f (15 - d) % 65536)) : t.is (tv f (d + 1)) := by
 refine is_of ht ?_
 have e1 : (65536 * s.n + f (15 - d) % 65536) % Sm.L = (65536 * (65536 * r.n + f (15 - d) / 65536) + f (15 - d) % 65536) % Sm.L := by
  rw [Int.add_emod, Int.mul_emod, hs.m, ← Int.mul_emod, ← Int.add_emod]
 rw [e1, show 65536 * (65536 * r.n + f (15 - d) / 65536) + f (15 - d) % 65536 = f (15 - d) + 4294967296 * r.n by omega, tv, Int.add_emod, Int.mul_emod, hr.m, ← Int.mul_emod, ← Int.add_emod]
structure Rw (w : World) (b n : Nat) (f : Nat → Int) : Prop where
 c : ∀ j, j < n → w.cell? ⟨b, j, none⟩ = some (.int .u64 (f j))
 fr : ∀ j, j < n → w.frozen? ⟨b, j, none⟩ = false
theorem Rw.lt {w : World} {b n : Nat} {f : Nat → Int} (h : Rw w b n f) (hn : 0 < n) : b < w.heap.size := World.block_lt_of_cell? w ⟨b, 0, none⟩ (h.c 0 hn)
theorem Rw.keep {w1 w2 : World} {b n : Nat} {f : Nat → Int} (h : Rw w1 b n f) (hn : 0 < n) (hb : Below w1.heap.size w1 w2) : Rw w2 b n f :=
 ⟨fun j hj => cell_keep (h.c j hj) hb, fun j hj => ((bcell hb).2 _ _ (h.lt hn)).trans (h.fr j hj)⟩
theorem Rw.drew {w : World} {b n : Nat} {f : Nat → Int} (h : Rw w b n f) (hn : 0 < n) : Rw w.drew b n f := h.keep hn ((Below.refl _ _).drew)
theorem Rw.far {w : World} {b n : Nat} {f : Nat → Int} (h : Rw w b n f) {c : Nat} (hne : c ≠ b) (k : Nat) (v : Value) : Rw (w.setCell ⟨c, k, none⟩ v) b n f :=
 ⟨fun j hj => (World.cell?_setCell_far w _ _ _ hne).trans (h.c j hj), fun j hj => by have := h.fr j hj; go_simp⟩
theorem Rw.far4 {w : World} {b n : Nat} {f : Nat → Int} (h : Rw w b n f) {c : Nat} (hne : c ≠ b) (s : E4) : Rw (set4 w c s) b n f :=
 (((h.far hne 0 _).far hne 1 _).far hne 2 _).far hne 3 _
theorem Rw.at {w : World} {b n : Nat} {f : Nat → Int} (h : Rw w b n f) (k : Nat) (hk : k < n) (v : Int) : Rw (w.setCell ⟨b, k, none⟩ (.int .u64 v)) b n (upd f k v) := by
 refine ⟨fun j hj => ?_, fun j hj => by have := h.fr j hj; go_simp⟩
 by_cases hjk : j = k
 ·subst hjk
  have hb := h.c j hj
  rw [upd_at]
  go_simp
 ·rw [World.cell?_setCell_other w _ _ _ (by intro e; exact hjk (congrArg Addr.off e).symm), h.c j hj, upd_ne _ _ _ hjk]
end Go.Proofs.YtebmaneogekhjaaGreatDoor
namespace Go.Proofs.YtebmaneogekhjaaGreatDoor
open Go.RowKit
theorem St.aside1 {w0 : World} {L : List (Nat × E4)} {R : List Nat} {w1 : World} {b : Nat} (h : St w0 L R w1) (hn : ∀ p ∈ L, b ≠ p.1) (h0 : w0.heap.size ≤ b) (k : Nat) (v : Value) : St w0 L R (w1.setCell ⟨b, k, none⟩ v) :=
 ⟨fun p hp => (h.live p hp).far1 (hn p hp) _ _, fun c hc => ⟨(h.wrt c hc).1.put _ _ _, by simpa using (h.wrt c hc).2⟩, h.bel.setCell h0 _⟩
theorem Rw.new (w : World) (n : Nat) (f : Nat → Int) (xs : Array Value) (t : TypeId) (h : ∀ j, j < n → xs[j]? = some (.int .u64 (f j))) : Rw (w.alloc (.cells xs t)) w.heap.size n f := by
 refine ⟨fun j hj => ?_, fun j hj => ?_⟩
 ·have := h j hj
  go_simp
 ·go_simp
theorem and16m (u : Int) (h0 : 0 ≤ u) (h1 : u ≤ 18446744073709551615) : bits .and .u64 u 65535 = u % 65536 := by
 rw [u64_and u 65535 h0 (by omega) (by omega) (by omega)]
 have : u.toNat &&& (65535 : Int).toNat = u.toNat % 65536 := Nat.and_two_pow_sub_one_eq_mod u.toNat 16
 rw [this]; omega
structure MuW (w0 : World) (bx bb bp : Nat) (x y P : Nat → Int) (w : World) : Prop where
 st : St w0 [(w0.heap.size + 1 + 1, zero4)] [w0.heap.size + 1 + 1] w
 xr : Rw w bx 8 x
 yr : Rw w bb 8 y
 pr : Rw w bp 16 P
 n1 : bp ≠ bx
 n2 : bp ≠ bb
 n3 : w0.heap.size + 1 + 1 < bp
theorem MuW.drew {w0 : World} {bx bb bp : Nat} {x y P : Nat → Int} {w : World} (h : MuW w0 bx bb bp x y P w) : MuW w0 bx bb bp x y P w.drew :=
 ⟨h.st.drew, h.xr.drew (by omega), h.yr.drew (by omega), h.pr.drew (by omega), h.n1, h.n2, h.n3⟩
theorem MuW.put {w0 : World} {bx bb bp : Nat} {x y P : Nat → Int} {w : World} (h : MuW w0 bx bb bp x y P w) (k : Nat) (hk : k < 16) (v : Int) : MuW w0 bx bb bp x y (upd P k v) (w.setCell ⟨bp, k, none⟩ (.int .u64 v)) := by
 have n3 := h.n3
 exact ⟨h.st.aside1 (by intro p hp; rw [List.mem_singleton] at hp; subst hp; show bp ≠ w0.heap.size + 1 + 1; omega) (by omega) k _, h.xr.far h.n1 k _, h.yr.far h.n2 k _, h.pr.at k hk v, h.n1, h.n2, h.n3⟩
set_option maxRecDepth 100000 in
set_option maxHeartbeats 8000000 in
theorem rMul_raw (a b : E4) (w : World) (ha : a.ok) (hb : b.ok) :
  Calls Tryz.prog 157 #[a.v, b.v] w fun e w' => ∃ t : E4, e = .returned t.v ∧ t.is (a.n * b.n) ∧ Below w.heap.size w w' := by
 have HA := Hn ha
 have HB := Hn hb
 have ra := Hn (fun w => rhalves_any a w ha)
 have rb := Hn (fun w => rhalves_any b w hb)
 have s0 := ((St.start w a 107).new b 107).room 107
 simp only [World.size_alloc] at s0
 have S0 := Hn s0
 clear s0 ha hb
 simp only [E4.v] at ra rb ⊢
 go_enter Tryz.func157, Tryz.ntmps157
 go_upto_region 1 with fail
 generalize (((w.alloc (.cells #[.int .u64 a.x0, .int .u64 a.x1, .int .u64 a.x2, .int .u64 a.x3] 107)).alloc (.cells #[.int .u64 b.x0, .int .u64 b.x1, .int .u64 b.x2, .int .u64 b.x3] 107)).alloc (.cells #[.int .u64 0, .int .u64 0, .int .u64 0, .int .u64 0] 107)) = wB at S0 ⊢
 have x0 := (S0.out.live (w.heap.size, a) (by simp)).c0
 have x1 := (S0.out.live (w.heap.size, a) (by simp)).c1
 have x2 := (S0.out.live (w.heap.size, a) (by simp)).c2
 have x3 := (S0.out.live (w.heap.size, a) (by simp)).c3
 go_cut [5] (fun vx wx => ∃ bx : Nat, vx = .pointer (some ⟨bx, 0, none⟩) ∧ w.heap.size + 1 + 1 < bx ∧ St w [(w.heap.size + 1 + 1, zero4), (w.heap.size + 1, b)] [w.heap.size + 1 + 1] wx ∧ Rw wx bx 8 (hv a))
 case first =>
  go_wp2_with fail
  refine (ra.out _).mono ?_
  rintro e w1 ⟨rfl, hb1⟩
  have s1 := S0.out.keep hb1
  have hl := (s1.live (w.heap.size + 1 + 1, zero4) (by simp)).lt
  have X0 := Hn (Rw.new w1 8 (hv a) #[.int .u64 (hv a 0), .int .u64 (hv a 1), .int .u64 (hv a 2), .int .u64 (hv a 3), .int .u64 (hv a 4), .int .u64 (hv a 5), .int .u64 (hv a 6), .int .u64 (hv a 7)] 198 (fun j hj => by
  have h8 : j = 0 ∨ j = 1 ∨ j = 2 ∨ j = 3 ∨ j = 4 ∨ j = 5 ∨ j = 6 ∨ j = 7 := by omega
  rcases h8 with rfl | rfl | rfl | rfl | rfl | rfl | rfl | rfl <;> rfl))
  have S1 := Hn (St.sub (M := [(w.heap.size + 1 + 1, zero4), (w.heap.size + 1, b)]) (s1.keep (bl_alloc _ (.cells #[.int .u64 (hv a 0), .int .u64 (hv a 1), .int .u64 (hv a 2), .int .u64 (hv a 3), .int .u64 (hv a 4), .int .u64 (hv a 5), .int .u64 (hv a 6), .int .u64 (hv a 7)] 198))) (by simp))
  clear x0 x1 x2 x3 hb1 S0 s1
  go_wp2_with fail
  go_meet
  exact ⟨_, rfl, hl, S1.out, X0.out⟩
 case rest =>
 obtain ⟨bx, rfl, hbx, s1, x1⟩ := hcut
 have S1 := Hn s1
 have X1 := Hn x1
 clear s1 x1 S0 x0 x2 x3 ra
 have x0 := (S1.out.live (w.heap.size + 1, b) (by simp)).c0
 have x1 := (S1.out.live (w.heap.size + 1, b) (by simp)).c1
 have x2 := (S1.out.live (w.heap.size + 1, b) (by simp)).c2
 have x3 := (S1.out.live (w.heap.size + 1, b) (by simp)).c3
 go_upto_region 2 with fail
 go_cut [6] (fun vx wx => ∃ bb : Nat, vx = .pointer (some ⟨bb, 0, none⟩) ∧ w.heap.size + 1 + 1 < bb ∧ St w [(w.heap.size + 1 + 1, zero4)] [w.heap.size + 1 + 1] wx ∧ Rw wx bx 8 (hv a) ∧ Rw wx bb 8 (hv b))
 case first =>
  go_wp2_with fail
  refine (rb.out _).mono ?_
  rintro e w1 ⟨rfl, hb1⟩
  have s1 := S1.out.keep hb1
  have y1 := X1.out.keep (by omega) hb1
  have hl := (s1.live (w.heap.size + 1 + 1, zero4) (by simp)).lt
  have X0 := Hn (Rw.new w1 8 (hv b) #[.int .u64 (hv b 0), .int .u64 (hv b 1), .int .u64 (hv b 2), .int .u64 (hv b 3), .int .u64 (hv b 4), .int .u64 (hv b 5), .int .u64 (hv b 6), .int .u64 (hv b 7)] 198 (fun j hj => by
  have h8 : j = 0 ∨ j = 1 ∨ j = 2 ∨ j = 3 ∨ j = 4 ∨ j = 5 ∨ j = 6 ∨ j = 7 := by omega
  rcases h8 with rfl | rfl | rfl | rfl | rfl | rfl | rfl | rfl <;> rfl))
  have S2 := Hn (St.sub (M := [(w.heap.size + 1 + 1, zero4)]) (s1.keep (bl_alloc _ (.cells #[.int .u64 (hv b 0), .int .u64 (hv b 1), .int .u64 (hv b 2), .int .u64 (hv b 3), .int .u64 (hv b 4), .int .u64 (hv b 5), .int .u64 (hv b 6), .int .u64 (hv b 7)] 198))) (by simp))
  have Y2 := Hn (y1.keep (by omega) (bl_alloc _ (.cells #[.int .u64 (hv b 0), .int .u64 (hv b 1), .int .u64 (hv b 2), .int .u64 (hv b 3), .int .u64 (hv b 4), .int .u64 (hv b 5), .int .u64 (hv b 6), .int .u64 (hv b 7)] 198)))
  clear x0 x1 x2 x3 hb1 S1 X1 s1 y1
  go_wp2_with fail
  go_meet
  exact ⟨_, rfl, hl, S2.out, Y2.out, X0.out⟩
 case rest =>
 obtain ⟨bb, rfl, hbb, s2, x1, y1⟩ := hcut
 have hxs := x1.lt (by omega)
 have hys := y1.lt (by omega)
 have S2 := Hn s2
 have X2 := Hn x1
 have Y2 := Hn y1
 clear s2 x1 y1 S1 X1 x0 x2 x3 rb
 go_upto_region 3 with fail
 go_cut [7] (fun vx wx => ∃ bp : Nat, vx = .pointer (some ⟨bp, 0, none⟩) ∧ MuW w bx bb bp (hv a) (hv b) (fun _ => 0) wx)
 case first =>
  go_wp2_with fail
  go_meet
  refine ⟨_, rfl, S2.out.keep (bl_alloc _ _), X2.out.keep (by omega) (bl_alloc _ _), Y2.out.keep (by omega) (bl_alloc _ _), Rw.new _ 16 _ _ _ (fun j hj => ?_), by omega, by omega, by omega⟩
  have h8 : j = 0 ∨ j = 1 ∨ j = 2 ∨ j = 3 ∨ j = 4 ∨ j = 5 ∨ j = 6 ∨ j = 7 ∨ j = 8 ∨ j = 9 ∨ j = 10 ∨ j = 11 ∨ j = 12 ∨ j = 13 ∨ j = 14 ∨ j = 15 := by omega
  rcases h8 with rfl | rfl | rfl | rfl | rfl | rfl | rfl | rfl | rfl | rfl | rfl | rfl | rfl | rfl | rfl | rfl <;> rfl
 case rest =>
 obtain ⟨bp, rfl, m0⟩ := hcut
 have M0 := Hn m0
 clear m0 S2 X2 Y2 hxs hys
 have n3 := M0.out.n3
 go_wp2_with fail
 go_loopw [8] (fun iv w' => ∃ (i : Nat) (P : Nat → Int), i ≤ 8 ∧ iv = .int .i64 i ∧ Hid (Mo (hv a) (hv b) P i) ∧ Hid (MuW w bx bb bp (hv a) (hv b) P w')) (fun i _ => 8 - (intOf i).toNat)
 case atStart => exact ⟨0, _, by omega, rfl, Hn (Mo.start _ _), M0⟩
 case round =>
  obtain ⟨i, P, hi, rfl, hmo, hmu⟩ := hrel
  clear M0
  by_cases hi8 : i < 8
  ·have ii0 : (0 : Int) ≤ (i : Int) := by omega
   have ii1 : (i : Int) < 8 := by omega
   have MI := Hn hmo.out.inner
   clear hmo
   go_wp2_with fail
   go_loopw [9, 10] (fun cv kv w' => ∃ (k : Nat) (P : Nat → Int) (c : Int), k ≤ 8 ∧ cv = .int .u64 c ∧ kv = .int .i64 k ∧ Hid (Mi (hv a) (hv b) P c i k) ∧ Hid (MuW w bx bb bp (hv a) (hv b) P w')) (fun _ k _ => 8 - (intOf k).toNat)
   case atStart => exact ⟨0, P, 0, by omega, rfl, rfl, MI, hmu⟩
   case round =>
    clear MI hmu
    obtain ⟨k, P, c, hk, rfl, rfl, hmi, hmu⟩ := hrel
    by_cases hk8 : k < 8
    ·have kk0 : (0 : Int) ≤ (k : Int) := by omega
     have kk1 : (k : Int) < 8 := by omega
     have nx := hmi.out.next hi8 hk8 (hv_bd a HA.out i) (hv_bd b HB.out k)
     have bd := hmi.out.bd (hv_bd a HA.out i) (hv_bd b HB.out k)
     have pb := hmi.out.b (i + k)
     have c0 := hmi.out.c0
     have c1 := hmi.out.c1
     have NU := Hn (hmu.out.drew.put (i + k) (by omega) (mt (hv a) (hv b) P c i k % 4294967296))
     have NX := Hn nx
     have cx := hmu.out.drew.xr.c i hi8
     have cy := hmu.out.drew.yr.c k hk8
     have cp := hmu.out.drew.pr.c (i + k) (by omega)
     have fp := hmu.out.drew.pr.fr (i + k) (by omega)
     clear nx hmu hmi
     have V : mt (hv a) (hv b) P c i k = hv a i * hv b k + P (i + k) + c := rfl
     generalize mt (hv a) (hv b) P c i k = t at *
     generalize hv a i = X at *
     generalize hv b k = Y at *
     generalize P (i + k) = p at *
     obtain ⟨q, hq⟩ : ∃ q, X * Y = q := ⟨_, rfl⟩
     rw [hq] at V bd
     have w1 : IntKind.u64.wrap (X * Y) = q := by rw [hq, IntKind.wrap_u64]; omega
     have w2 : IntKind.u64.wrap (q + p) = q + p := by rw [IntKind.wrap_u64]; omega
     have w3 : IntKind.u64.wrap (q + p + c) = t := by rw [IntKind.wrap_u64]; omega
     have A0 := and32 t bd.2.2.1 (by omega)
     have hi1 : IntKind.i64.wrap ((i : Int) + (k : Int)) = (i : Int) + (k : Int) := IntWalk.i64_in _ (by omega)
     have hi2 : ((i : Int) + (k : Int)).toNat = i + k := by omega
     have hi3 : (i : Int) + (k : Int) < 16 := by omega
     have hi4 : (0 : Int) ≤ (i : Int) + (k : Int) := by omega
     clear bd pb V hq
     go_upto_region 11 with fail
     go_region_with fail
     all_goals
      clear cx cy w1 w2 w3
      go_wp2_with fail
      go_roundw
      case rel => exact ⟨k + 1, _, _, by omega, rfl, by go_num, NX, NU⟩
      case measure => simp [intOf]; omega
    ·have hkk : k = 8 := by omega
     subst hkk
     have NX := Hn (hmi.out.close hi8)
     have NU := Hn (hmu.out.put (i + 8) (by omega) c)
     have cp := hmu.out.pr.c (i + 8) (by omega)
     have fp := hmu.out.pr.fr (i + 8) (by omega)
     have hi1 : IntKind.i64.wrap ((i : Int) + 8) = (i : Int) + 8 := IntWalk.i64_in _ (by omega)
     have hi2 : ((i : Int) + 8).toNat = i + 8 := by omega
     have hi3 : (i : Int) + 8 < 16 := by omega
     have hi4 : (0 : Int) ≤ (i : Int) + 8 := by omega
     clear hmi hmu
     rw [show ((8 : Nat) : Int) = 8 from rfl]
     go_wp2_with fail
     go_roundw
     case rel => exact ⟨i + 1, _, by omega, by go_num, NX, NU⟩
     case measure => simp [intOf]; omega
  ·have hii : i = 8 := by omega
   subst hii
   have TV := Hn hmo.out.all
   have PB := Hn hmo.out.b
   have st0 := hmu.out.st
   have pr0 := hmu.out.pr
   clear hmo
   rw [show ((8 : Nat) : Int) = 8 from rfl]
   go_upto_region 15 with fail
   go_cut [12] (fun vx wx => ∃ br : Nat, vx = .pointer (some ⟨br, 0, none⟩) ∧ bp < br ∧ St w [(br, zero4), (w.heap.size + 1 + 1, zero4)] [br, w.heap.size + 1 + 1] wx ∧ Rw wx bp 16 P)
   case first =>
    have hl := pr0.lt (by omega)
    have S1 := Hn (st0.roomR zero4 107)
    have P1 := Hn (pr0.keep (by omega) (bl_alloc _ (.cells #[.int .u64 0, .int .u64 0, .int .u64 0, .int .u64 0] 107)))
    clear st0 pr0 hmu
    go_wp2_with fail
    go_meet
    exact ⟨_, rfl, hl, S1.out, P1.out⟩
   case rest =>
   obtain ⟨br, rfl, hbr, s1, p1⟩ := hcut
   have S1 := Hn s1
   have P1 := Hn p1
   clear s1 p1 st0 pr0 hmu
   go_wp2_with fail
   go_loopw [13] (fun iv w' => ∃ (d : Nat) (r : E4), d ≤ 16 ∧ iv = .int .i64 (15 - (d : Int)) ∧ r.is (tv P d) ∧ Hid (St w [(br, r), (w.heap.size + 1 + 1, zero4)] [br, w.heap.size + 1 + 1] w') ∧ Hid (Rw w' bp 16 P)) (fun i _ => (intOf i + 1).toNat)
   case atStart => exact ⟨0, zero4, by omega, rfl, zero_lst.symm, S1, P1⟩
   case round =>
    obtain ⟨d, r, hd, rfl, hr, hst, hpr⟩ := hrel
    clear S1 P1
    by_cases hd16 : d < 16
    ·obtain ⟨m, hm⟩ : ∃ m : Nat, m = 15 - d := ⟨_, rfl⟩
     rw [show (15 : Int) - (d : Int) = (m : Int) by omega]
     have mm0 : (0 : Int) ≤ (m : Int) := by omega
     have mm1 : (m : Int) < 16 := by omega
     obtain ⟨p, hp⟩ : ∃ p, P m = p := ⟨_, rfl⟩
     have pb := PB.out m
     rw [hp] at pb
     have pq : 0 ≤ p / 65536 ∧ p / 65536 < 65536 := by omega
     have pr : 0 ≤ p % 65536 ∧ p % 65536 < 65536 := by omega
     have A16 := and16m p pb.1 (by omega)
     have TN := Hn (fun (s t : E4) (hs : s.is (65536 * r.n + p / 65536)) (ht : t.is (65536 * s.n + p % 65536)) => (show t.is (tv P (d + 1)) from tv_next hr (by rw [← hm, hp]; exact hs) (by rw [← hm, hp]; exact ht)))
     have RS := Hn (fun w => rstep_any r (p / 65536) w hr.ok hr.lt pq.1 pq.2)
     have RT := Hn (fun (s : E4) (hk : s.ok) (hl : s.n < Sm.L) w => rstep_any s (p % 65536) w hk hl pr.1 pr.2)
     have SD := Hn hst.out.drew
     have PD := Hn (hpr.out.drew (by omega))
     have c0 : wr.drew.cell? ⟨br, 0, none⟩ = some (.int .u64 r.x0) := (SD.out.live (br, r) (by simp)).c0
     have c1 : wr.drew.cell? ⟨br, 1, none⟩ = some (.int .u64 r.x1) := (SD.out.live (br, r) (by simp)).c1
     have c2 : wr.drew.cell? ⟨br, 2, none⟩ = some (.int .u64 r.x2) := (SD.out.live (br, r) (by simp)).c2
     have c3 : wr.drew.cell? ⟨br, 3, none⟩ = some (.int .u64 r.x3) := (SD.out.live (br, r) (by simp)).c3
     have cp : wr.drew.cell? ⟨bp, m, none⟩ = some (.int .u64 p) := by have h := PD.out.c m (by omega); rw [hp] at h; exact h
     have HM := Hn hm
     have HP := Hn hp
     clear hst hpr hr hm hp
     simp only [E4.v] at RS RT
     go_upto_region 19 with fail
     go_cut [] (fun wx => ∃ s : E4, s.is (65536 * r.n + p / 65536) ∧ Hid (St w [(br, s), (w.heap.size + 1 + 1, zero4)] [br, w.heap.size + 1 + 1] wx) ∧ Hid (Rw wx bp 16 P))
     case first =>
      go_region_with (first | (go_at_call 136; with_reducible refine (RS.out _).mono ?_; rintro e wz ⟨s, rfl, ht, hb⟩; have S2 := SD.out.keep hb; have P2 := PD.out.keep (by omega) hb; have z0 := (S2.live (br, r) (by simp)).c0; have z1 := (S2.live (br, r) (by simp)).c1; have z2 := (S2.live (br, r) (by simp)).c2; have z3 := (S2.live (br, r) (by simp)).c3; obtain ⟨f0, f1, f2, f3⟩ := (S2.wrt br (by simp)).1; have S3 := Hn (S2.set (b := br) (M := [(w.heap.size + 1 + 1, zero4)]) s (old := r) (by simp) (by omega) (by simp; omega)); have P3 := Hn (P2.far4 (c := br) (by omega) s); have HT := Hn ht; clear S2 P2 ht hb))
      all_goals
       clear c0 c1 c2 c3 cp
       go_wp2_with fail
       go_meet
       exact ⟨s, HT.out, S3, P3⟩
     case rest =>
     obtain ⟨s, hs, S5, P5⟩ := hcut
     clear SD PD c0 c1 c2 c3 cp RS
     have HS := Hn hs
     have SD := Hn S5.out.drew
     have PD := Hn (P5.out.drew (by omega))
     have c0 : wc.drew.cell? ⟨br, 0, none⟩ = some (.int .u64 s.x0) := (SD.out.live (br, s) (by simp)).c0
     have c1 : wc.drew.cell? ⟨br, 1, none⟩ = some (.int .u64 s.x1) := (SD.out.live (br, s) (by simp)).c1
     have c2 : wc.drew.cell? ⟨br, 2, none⟩ = some (.int .u64 s.x2) := (SD.out.live (br, s) (by simp)).c2
     have c3 : wc.drew.cell? ⟨br, 3, none⟩ = some (.int .u64 s.x3) := (SD.out.live (br, s) (by simp)).c3
     have cp : wc.drew.cell? ⟨bp, m, none⟩ = some (.int .u64 p) := by have h := PD.out.c m (by omega); rw [HP.out] at h; exact h
     have RV := Hn (RT.out s hs.ok hs.lt)
     clear S5 P5 hs RT
     go_upto_region 20 with fail
     go_region_with (first | (go_at_call 136; with_reducible refine (RV.out _).mono ?_; rintro e wz ⟨t, rfl, ht, hb⟩; have S2 := SD.out.keep hb; have P2 := PD.out.keep (by omega) hb; have z0 := (S2.live (br, s) (by simp)).c0; have z1 := (S2.live (br, s) (by simp)).c1; have z2 := (S2.live (br, s) (by simp)).c2; have z3 := (S2.live (br, s) (by simp)).c3; obtain ⟨f0, f1, f2, f3⟩ := (S2.wrt br (by simp)).1; have S3 := Hn (S2.set (b := br) (M := [(w.heap.size + 1 + 1, zero4)]) t (old := s) (by simp) (by omega) (by simp; omega)); have P3 := Hn (P2.far4 (c := br) (by omega) t); have HT := Hn ht; clear S2 P2 ht hb))
     all_goals
      clear c0 c1 c2 c3 cp z0 z1 z2 z3 f0 f1 f2 f3
      go_wp2_with fail
      go_roundw
      case rel => exact ⟨d + 1, t, by omega, by rw [show (15 : Int) - ((d + 1 : Nat) : Int) = (m : Int) - 1 by have := HM.out; omega], TN.out s t HS.out HT.out, S3, P3⟩
      case measure => simp [intOf]
    ·have hdd : d = 16 := by omega
     subst hdd
     rw [show (15 : Int) - ((16 : Nat) : Int) = -1 from rfl]
     have HR := Hn hr
     have v0 := (hst.out.live (br, r) (by simp)).c0
     have v1 := (hst.out.live (br, r) (by simp)).c1
     have v2 := (hst.out.live (br, r) (by simp)).c2
     have v3 := (hst.out.live (br, r) (by simp)).c3
     have d0 := (hst.out.live (w.heap.size + 1 + 1, zero4) (by simp)).c0
     have d1 := (hst.out.live (w.heap.size + 1 + 1, zero4) (by simp)).c1
     have d2 := (hst.out.live (w.heap.size + 1 + 1, zero4) (by simp)).c2
     have d3 := (hst.out.live (w.heap.size + 1 + 1, zero4) (by simp)).c3
     obtain ⟨f0, f1, f2, f3⟩ := (hst.out.wrt (w.heap.size + 1 + 1) (by simp)).1
     have BE := Hn hst.out.bel
     clear hr hst hpr
     go_wp2_with fail
     refine bodyPost_ret (v := .agg #[.int .u64 r.x0, .int .u64 r.x1, .int .u64 r.x2, .int .u64 r.x3]) (by simp [results, Tryz.results157, go_sem, d0, d1, d2, d3]) rfl ⟨r, rfl, ?_, ?_⟩
     ·have h := HR.out
      rw [TV.out] at h
      exact h
     ·exact set4_below _ _ _ BE.out (by omega)
theorem rMul_any (n m : Int) (w : World) :
  Calls Tryz.prog 157 #[(lst n).v, (lst m).v] w fun e w' => e = .returned (lst (n * m)).v ∧ Below w.heap.size w w' :=
 fix (rMul_raw (lst n) (lst m) w (lst_ok n) (lst_ok m)) (by rw [lst_mul, lst_mul'])
end Go.Proofs.YtebmaneogekhjaaGreatDoor
