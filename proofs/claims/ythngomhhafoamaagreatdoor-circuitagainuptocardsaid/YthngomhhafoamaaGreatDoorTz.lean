import Derived.Deep.MidRow
import Derived.Test.YthngomhhafoamaaGreatDoorSop
namespace Go.Proofs.YthngomhhafoamaaGreatDoor
open Go.RowKit
def num : List Int → Nat
 | [] => 0
 | z :: zs => z.toNat + 256 * num zs
theorem num_lt : ∀ (zs : List Int), (∀ z ∈ zs, 0 ≤ z ∧ z ≤ 255) → num zs < 256 ^ zs.length
 | [], _ => by simp [num]
 | z :: zs, h => by
  have hz := h z (by simp)
  have ih := num_lt zs (fun y hy => h y (by simp [hy]))
  rw [num, List.length_cons, Nat.pow_succ]
  omega
theorem num_get : ∀ (zs : List Int) (k : Nat), (∀ z ∈ zs, 0 ≤ z ∧ z ≤ 255) → zs.getD k 0 = ((num zs / 256 ^ k % 256 : Nat) : Int)
 | [], k, _ => by simp [num]
 | z :: zs, 0, h => by
  have hz := h z (by simp)
  simp only [List.getD_cons_zero, num, Nat.pow_zero, Nat.div_one]
  omega
 | z :: zs, k + 1, h => by
  have hz := h z (by simp)
  rw [List.getD_cons_succ, num_get zs k (fun y hy => h y (by simp [hy])), num, Nat.pow_succ, Nat.mul_comm (256 ^ k), ← Nat.div_div_eq_div_mul]
  have e3 : (z.toNat + 256 * num zs) / 256 = num zs := by omega
  rw [e3]
theorem or_parts (i : Nat) (h l : Int) (hl0 : 0 ≤ l) (hl : l < 2 ^ i) (hh0 : 0 ≤ h) (hh : h * 2 ^ i < 18446744073709551616) (hi : i ≤ 63) : bits .or .u64 l (h * 2 ^ i) = l + h * 2 ^ i := by
 obtain ⟨H, rfl⟩ := Int.eq_ofNat_of_zero_le hh0
 obtain ⟨L, rfl⟩ := Int.eq_ofNat_of_zero_le hl0
 have e : (H : Int) * 2 ^ i = ((H * 2 ^ i : Nat) : Int) := by simp
 rw [e] at hh ⊢
 have hL : L < 2 ^ i := by
  have e2 : ((2 : Int) ^ i) = ((2 ^ i : Nat) : Int) := by simp
  rw [e2] at hl; omega
 have h64 : 2 ^ i ≤ 2 ^ 63 := Nat.pow_le_pow_right (by omega) hi
 rw [u64_or_nat _ _ (by omega) (by omega), Nat.or_comm]
 have := Nat.shiftLeft_add_eq_or_of_lt hL H
 rw [Nat.shiftLeft_eq] at this
 rw [← this]; omega
def bv (zs : List Int) : Value := .agg (zs.map fun z => Value.int .u8 z).toArray
theorem range_new (w : World) (zs : List Int) (t : TypeId) : (w.alloc (.cells (zs.map fun z => Value.int .u8 z).toArray t)).rangeAt w.heap.size 0 (zs.map fun z => Value.int .u8 z) := fun j v hv => by
 rw [Nat.zero_add, World.cell?_alloc_mark]
 simpa using hv
set_option maxHeartbeats 8000000 in
theorem read_step (N : Int) (k : Nat) (hk : k < 32) :
  (∀ j, j < 4 → j ≠ k / 8 → Sm.lim j (N % 256 ^ (k + 1)) = Sm.lim j (N % 256 ^ k)) ∧ Sm.lim (k / 8) (N % 256 ^ (k + 1)) = Sm.lim (k / 8) (N % 256 ^ k) + N / 256 ^ k % 256 * 2 ^ (8 * (k % 8)) ∧ Sm.lim (k / 8) (N % 256 ^ k) < 2 ^ (8 * (k % 8)) := by
 have hc : k = 0 ∨ k = 1 ∨ k = 2 ∨ k = 3 ∨ k = 4 ∨ k = 5 ∨ k = 6 ∨ k = 7 ∨ k = 8 ∨ k = 9 ∨ k = 10 ∨ k = 11 ∨ k = 12 ∨ k = 13 ∨ k = 14 ∨ k = 15 ∨ k = 16 ∨ k = 17 ∨ k = 18 ∨ k = 19 ∨ k = 20 ∨ k = 21 ∨ k = 22 ∨ k = 23 ∨ k = 24 ∨ k = 25 ∨ k = 26 ∨ k = 27 ∨ k = 28 ∨ k = 29 ∨ k = 30 ∨ k = 31 := by omega
 rcases hc with rfl | rfl | rfl | rfl | rfl | rfl | rfl | rfl | rfl | rfl | rfl | rfl | rfl | rfl | rfl | rfl | rfl | rfl | rfl | rfl | rfl | rfl | rfl | rfl | rfl | rfl | rfl | rfl | rfl | rfl | rfl | rfl
 all_goals
  refine ⟨fun j hj hne => ?_, ?_, ?_⟩
  ·have hj4 : j = 0 ∨ j = 1 ∨ j = 2 ∨ j = 3 := by omega
   rcases hj4 with rfl | rfl | rfl | rfl
   all_goals first
    | exact absurd rfl hne
    | (simp only [Sm.lim, Nat.reduceAdd, Int.reducePow]; omega)
  ·simp only [Sm.lim, Nat.reduceAdd, Nat.reduceDiv, Nat.reduceMod, Nat.reduceMul, Int.reducePow]; omega
  ·simp only [Sm.lim, Nat.reduceDiv, Nat.reduceMod, Nat.reduceMul, Int.reducePow]; omega
end Go.Proofs.YthngomhhafoamaaGreatDoor
namespace Go.Proofs.YthngomhhafoamaaGreatDoor
open Go.RowKit
def limE (N : Int) : E4 := ⟨Sm.lim 0 N, Sm.lim 1 N, Sm.lim 2 N, Sm.lim 3 N⟩
theorem limE_ok (N : Int) : (limE N).ok := ⟨Sm.lim_wd 0 _, Sm.lim_wd 1 _, Sm.lim_wd 2 _, Sm.lim_wd 3 _⟩
theorem limE_n (N : Int) (h0 : 0 ≤ N) (h1 : N < 115792089237316195423570985008687907853269984665640564039457584007913129639936) : (limE N).n = N := Sm.V_lim N h0 h1
structure RdW (w0 : World) (N : Int) (k : Nat) (w : World) : Prop where
 c : ∀ j, j < 4 → w.cell? ⟨w0.heap.size + 1 + 1, j, none⟩ = some (.int .u64 (Sm.lim j (N % 256 ^ k)))
 f : ∀ j, j < 4 → w.frozen? ⟨w0.heap.size + 1 + 1, j, none⟩ = false
 rs : Blc w (w0.heap.size + 1) zero4
 rf : Wrt w (w0.heap.size + 1)
 bel : Below w0.heap.size w0 w
theorem RdW.drew {w0 : World} {N : Int} {k : Nat} {w : World} (h : RdW w0 N k w) : RdW w0 N k w.drew := by
 have hb : Below w.heap.size w w.drew := (Below.refl _ _).drew
 have hl := World.block_lt_of_cell? w ⟨w0.heap.size + 1 + 1, 0, none⟩ (h.c 0 (by omega))
 exact ⟨fun j hj => cell_keep (h.c j hj) hb, fun j hj => ((bcell hb).2 _ _ hl).trans (h.f j hj), h.rs.keep hb, h.rf.keep h.rs.lt hb, bl_trans h.bel hb⟩
theorem RdW.step {w0 : World} {N : Int} {k : Nat} {w : World} (h : RdW w0 N k w) (hk : k < 32) :
  RdW w0 N (k + 1) (w.setCell ⟨w0.heap.size + 1 + 1, k / 8, none⟩ (.int .u64 (Sm.lim (k / 8) (N % 256 ^ (k + 1))))) := by
 obtain ⟨s1, -, -⟩ := read_step N k hk
 have hq : k / 8 < 4 := by omega
 refine ⟨fun j hj => ?_, fun j hj => by have := h.f j hj; go_simp, ?_, ?_, h.bel.setCell (by show w0.heap.size ≤ w0.heap.size + 1 + 1; omega) _⟩
 ·by_cases hjk : j = k / 8
  ·subst hjk
   have hb := h.c (k / 8) hj
   go_simp
  ·rw [World.cell?_setCell_other w _ _ _ (by intro e; exact hjk (congrArg Addr.off e).symm), h.c j hj, s1 j hj hjk]
 ·obtain ⟨a0, a1, a2, a3⟩ := h.rs
  exact ⟨(World.cell?_setCell_far w _ _ _ (by show w0.heap.size + 1 + 1 ≠ w0.heap.size + 1; omega)).trans a0, (World.cell?_setCell_far w _ _ _ (by show w0.heap.size + 1 + 1 ≠ w0.heap.size + 1; omega)).trans a1, (World.cell?_setCell_far w _ _ _ (by show w0.heap.size + 1 + 1 ≠ w0.heap.size + 1; omega)).trans a2, (World.cell?_setCell_far w _ _ _ (by show w0.heap.size + 1 + 1 ≠ w0.heap.size + 1; omega)).trans a3⟩
 ·obtain ⟨a0, a1, a2, a3⟩ := h.rf
  exact ⟨by go_simp, by go_simp, by go_simp, by go_simp⟩
theorem or_step (N : Int) (k : Nat) (hk : k < 32) : bits .or .u64 (Sm.lim (k / 8) (N % 256 ^ k)) (N / 256 ^ k % 256 * 2 ^ (8 * (k % 8))) = Sm.lim (k / 8) (N % 256 ^ (k + 1)) ∧ 0 ≤ N / 256 ^ k % 256 * 2 ^ (8 * (k % 8)) ∧ N / 256 ^ k % 256 * 2 ^ (8 * (k % 8)) ≤ 18446744073709551615 := by
 obtain ⟨-, s2, s3⟩ := read_step N k hk
 have hb : 0 ≤ N / 256 ^ k % 256 ∧ N / 256 ^ k % 256 ≤ 255 := by omega
 have hl := Sm.lim_wd (k / 8) (N % 256 ^ k)
 have hm : k % 8 < 8 := by omega
 have hup : N / 256 ^ k % 256 * 2 ^ (8 * (k % 8)) ≤ 255 * 72057594037927936 := by
  have hp : (2 : Int) ^ (8 * (k % 8)) ≤ 72057594037927936 := by
   have hc : k % 8 = 0 ∨ k % 8 = 1 ∨ k % 8 = 2 ∨ k % 8 = 3 ∨ k % 8 = 4 ∨ k % 8 = 5 ∨ k % 8 = 6 ∨ k % 8 = 7 := by omega
   rcases hc with h | h | h | h | h | h | h | h <;> rw [h] <;> decide
  exact Int.mul_le_mul hb.2 hp (Int.le_of_lt (Int.pow_pos (by decide))) (by decide)
 have hlo : 0 ≤ N / 256 ^ k % 256 * 2 ^ (8 * (k % 8)) := Int.mul_nonneg hb.1 (Int.le_of_lt (Int.pow_pos (by decide)))
 refine ⟨?_, hlo, by omega⟩
 rw [or_parts (8 * (k % 8)) _ _ hl.1 s3 hb.1 (by omega) (by omega), s2]
theorem run_index_arr {P : Program} {w : World} {t e : TypeId} {n : Nat} {cs : Array Value} {k : IntKind} {i : Nat} {v : Value} (h : P.underlying t = some (.array n e)) (hp : P.plainKey e = true) {x : TypeInfo} (hinfo : P.info? e = some x) (hc : P.cellsOf e = 1) (hn : (i : Int) < n) (hv : cs[i]? = some v) :
  (Instr.index t (.agg cs) (.int k i)).run P w = .ok v w := by
 have hr : 0 ≤ (i : Int) ∧ (i : Int) < (n : Int) := by omega
 have hsz := run_sizeOf w hinfo
 rw [hc] at hsz
 simp only [Instr.index, run_underlying h, asIntOf, Sem.run_bind, Sem.run_pure, Result.andThen_ok, if_pos hr, hsz, Int.toNat_natCast, Nat.mul_one, run_part_plain w hp hv]
set_option maxRecDepth 100000 in
set_option maxHeartbeats 4000000 in
theorem read_any (zs : List Int) (w : World) (lz : zs.length = 32) (hz : ∀ z ∈ zs, 0 ≤ z ∧ z ≤ 255) :
  Calls Tryz.prog 111 #[bv zs] w fun e w' => e = .returned (limE (num zs)).v ∧ Below w.heap.size w w' := by
 have GZ := Hn (fun k => num_get zs k hz)
 have hlt := num_lt zs hz
 rw [lz] at hlt
 have HLT := Hn hlt
 have hi : (Tryz.prog.info? 79).map (·.size) = some (zs.map fun z => Value.int .u8 z).length := by rw [List.length_map, lz]; kernel_rfl
 have hu : Tryz.prog.underlying 79 = some (.array 32 5) := by kernel_rfl
 have HU := Hn hu
 have HP : Hid (Tryz.prog.plainKey 5 = true) := Hn (by kernel_rfl)
 have HC : Hid (Tryz.prog.cellsOf 5 = 1) := Hn (by kernel_rfl)
 have HINFO : Hid (Tryz.prog.info? 5 = some (Tryz.prog.info? 5).get!) := Hn (by kernel_rfl)
 have HI := Hn hi
 have RN := Hn (range_new w zs 79)
 have hget : ∀ k, k < 32 → (zs.map fun z => Value.int .u8 z)[k]? = some (.int .u8 ((num zs / 256 ^ k % 256 : Nat) : Int)) := fun k hk => by
  rw [← num_get zs k hz, List.getElem?_map, List.getD_eq_getElem?_getD, List.getElem?_eq_getElem (by omega)]
  simp
 have HG := Hn hget
 have hlen : (zs.map fun z => Value.int .u8 z).length = 32 := by simp [lz]
 have HLEN := Hn hlen
 clear hu hi lz hz hlt hget hlen
 unfold bv
 generalize (zs.map fun z => Value.int .u8 z) = cs at *
 generalize num zs = N at *
 go_enter Tryz.func111, Tryz.ntmps111
 go_wp2_with (refine wpList_load_mid rfl 79 _ rfl w.heap.size 0 (by rfl) cs _ (World.rangeAt_alloc (World.rangeAt_alloc RN.out _) _) HU.out rfl HI.out ?_)
 go_loopw [7] (fun i w' => ∃ k : Nat, k ≤ 32 ∧ i = .int .i64 k ∧ RdW w N k w') (fun i _ => 32 - (intOf i).toNat)
 case atStart =>
  refine ⟨0, by omega, rfl, ⟨fun j hj => ?_, fun j hj => ?_, ?_, ?_, bl_alloc3 _ _ _ _⟩⟩
  ·have hl0 : Sm.lim j ((N : Int) % 256 ^ 0) = 0 := by
    rw [Int.pow_zero, Int.emod_one]; unfold Sm.lim; split <;> decide
   rw [hl0]
   have h4 : j = 0 ∨ j = 1 ∨ j = 2 ∨ j = 3 := by omega
   have b := Blc.new2 w (.cells cs.toArray 79) (.cells #[.int .u64 0, .int .u64 0, .int .u64 0, .int .u64 0] 35) 35
   rcases h4 with rfl | rfl | rfl | rfl
   ·exact b.c0
   ·exact b.c1
   ·exact b.c2
   ·exact b.c3
  ·have h4 : j = 0 ∨ j = 1 ∨ j = 2 ∨ j = 3 := by omega
   have b := Wrt.new2 w (.cells cs.toArray 79) (.cells #[.int .u64 0, .int .u64 0, .int .u64 0, .int .u64 0] 35) 35
   rcases h4 with rfl | rfl | rfl | rfl
   ·exact b.f0
   ·exact b.f1
   ·exact b.f2
   ·exact b.f3
  ·exact (Blc.new1 w _ _).keep (bl_alloc _ _)
  ·exact (Wrt.new1 w _ _).keep (Blc.new1 w _ _).lt (bl_alloc _ _)
 case round =>
  obtain ⟨k, hk, rfl, hR⟩ := hrel
  by_cases hlt : k < 32
  ·have hgk := HG.out k hlt
   have hgk2 : cs.toArray[k]? = some (.int .u8 ((N / 256 ^ k % 256 : Nat) : Int)) := by simpa using hgk
   have hkk : (k : Int) < 32 := by omega
   have hix := fun w => run_index_arr (w := w) (k := .i64) HU.out HP.out HINFO.out HC.out hkk hgk2
   obtain ⟨st, lo, hi⟩ := or_step N k hlt
   have eN : ((N / 256 ^ k % 256 : Nat) : Int) = (N : Int) / 256 ^ k % 256 := by simp
   have NX := Hn (hR.drew.step hlt)
   have hc := hR.drew.c (k / 8) (by omega)
   have hf := hR.drew.f (k / 8) (by omega)
   rw [eN] at hix
   have hb : 0 ≤ (N : Int) / 256 ^ k % 256 ∧ (N : Int) / 256 ^ k % 256 ≤ 255 := by omega
   have hlw := Sm.lim_wd (k / 8) ((N : Int) % 256 ^ k)
   unfold Sm.Wd at hlw
   have hwr : IntKind.u64.wrap ((N : Int) / 256 ^ k % 256 * 2 ^ (8 * (k % 8))) = (N : Int) / 256 ^ k % 256 * 2 ^ (8 * (k % 8)) := IntWalk.u64_in _ ⟨lo, hi⟩
   have STH := Hn st
   clear hgk hgk2 eN hR st
   generalize (N : Int) / 256 ^ k % 256 = X at *
   generalize Sm.lim (k / 8) ((N : Int) % 256 ^ k) = Y at *
   generalize Sm.lim (k / 8) ((N : Int) % 256 ^ (k + 1)) = Z at *
   obtain ⟨q, hq⟩ : ∃ q, k / 8 = q := ⟨_, rfl⟩
   obtain ⟨m, hm⟩ : ∃ m, k % 8 = m := ⟨_, rfl⟩
   have td : (k : Int).tdiv 8 = (q : Int) := by rw [Int.tdiv_eq_ediv_of_nonneg (by omega)]; omega
   have tm : (k : Int).tmod 8 = (m : Int) := by rw [Int.tmod_eq_emod_of_nonneg (by omega)]; omega
   have wq : IntKind.i64.wrap (q : Int) = (q : Int) := IntWalk.i64_in _ (by omega)
   have wm : IntKind.i64.wrap (m : Int) = (m : Int) := IntWalk.i64_in _ (by omega)
   have w8 : IntKind.i64.wrap (8 * (m : Int)) = 8 * (m : Int) := IntWalk.i64_in _ (by omega)
   have wX : IntKind.u64.wrap X = X := IntWalk.u64_in _ (by omega)
   have hq0 : (0 : Int) ≤ (q : Int) := by omega
   have hq4 : (q : Int) < 4 := by omega
   have hm0 : (0 : Int) ≤ 8 * (m : Int) := by omega
   have hmn : (8 * (m : Int)).toNat = 8 * m := by omega
   have hmin : min (8 * m) 64 = 8 * m := by omega
   rw [hm] at hwr lo hi STH
   rw [hq] at hc hf NX
   clear hm hq
   go_upto_region 5 with fail
   have st := STH.out
   go_region_with fail
   clear hc hf st wX w8 wm wq td tm hwr
   go_wp2_with fail
   go_roundw
   case rel => exact ⟨k + 1, by omega, by go_num, NX.out⟩
   case measure => simp [intOf]; omega
  ·have hkk : k = 32 := by omega
   subst hkk
   have e32 : (N : Int) % 256 ^ 32 = (N : Int) := Int.emod_eq_of_lt (by omega) (by have := HLT.out; simp only [Int.reducePow]; simp only [Nat.reducePow] at this; omega)
   have c0 := hR.c 0 (by omega)
   have c1 := hR.c 1 (by omega)
   have c2 := hR.c 2 (by omega)
   have c3 := hR.c 3 (by omega)
   rw [e32] at c0 c1 c2 c3
   obtain ⟨d0, d1, d2, d3⟩ := hR.rs
   obtain ⟨g0, g1, g2, g3⟩ := hR.rf
   have BH := Hn hR.bel
   clear hR e32
   go_wp2_with fail
   refine bodyPost_ret (v := .agg #[.int .u64 (Sm.lim 0 N), .int .u64 (Sm.lim 1 N), .int .u64 (Sm.lim 2 N), .int .u64 (Sm.lim 3 N)]) (by simp [results, Tryz.results111, go_sem, d0, d1, d2, d3]) rfl ⟨rfl, ?_⟩
   exact bl_set4 _ _ _ _ BH.out (by omega)
end Go.Proofs.YthngomhhafoamaaGreatDoor
namespace Go.Proofs.YthngomhhafoamaaGreatDoor
open Go.RowKit
def byt (N : Int) (j : Nat) : Int := N / 256 ^ j % 256
def bytes (N : Int) : List Int := (List.range 32).map (byt N)
theorem bytes_len (N : Int) : (bytes N).length = 32 := by simp [bytes]
theorem bytes_get (N : Int) (j : Nat) (h : j < 32) : (bytes N)[j]? = some (byt N j) := by simp [bytes, h]
theorem byt_bd (N : Int) (j : Nat) : 0 ≤ byt N j ∧ byt N j ≤ 255 := by unfold byt; omega
def word64 (N : Int) (q : Nat) : Int := N / 18446744073709551616 ^ q % 18446744073709551616
theorem byt_word (N : Int) (k : Nat) : word64 N (k / 8) / 2 ^ (8 * (k % 8)) % 256 = byt N k := by
 unfold word64 byt
 have e : N / 256 ^ k = N / 18446744073709551616 ^ (k / 8) / 2 ^ (8 * (k % 8)) := by
  rw [Int.ediv_ediv_of_nonneg (Int.le_of_lt (Int.pow_pos (by decide)))]
  congr 1
  rw [show (18446744073709551616 : Int) = 2 ^ 64 from rfl, show (256 : Int) = 2 ^ 8 from rfl, ← Int.pow_mul, ← Int.pow_mul, ← Int.pow_add]
  congr 1; omega
 rw [e]
 generalize N / 18446744073709551616 ^ (k / 8) = M
 have hc : k % 8 = 0 ∨ k % 8 = 1 ∨ k % 8 = 2 ∨ k % 8 = 3 ∨ k % 8 = 4 ∨ k % 8 = 5 ∨ k % 8 = 6 ∨ k % 8 = 7 := by omega
 rcases hc with h | h | h | h | h | h | h | h <;> rw [h] <;> simp <;> omega
theorem there_keep {w1 w2 : World} {b o n : Nat} (h : w1.there b o n) (hl : b < w1.heap.size) (hb : Below w1.heap.size w1 w2) : w2.there b o n := fun j hj =>
 ⟨by rw [hb.cell (p := ⟨b, o + j, none⟩) hl]; exact (h j hj).1, by rw [hb.frozen (p := ⟨b, o + j, none⟩) hl]; exact (h j hj).2⟩
theorem there_new (w : World) (C : Array Value) (t : TypeId) : (w.alloc (.cells C t)).there w.heap.size 0 C.size := fun j hj => by
 refine ⟨?_, by go_simp⟩
 rw [Nat.zero_add, World.cell?_alloc_mark]
 simp [hj]
structure EncW (w0 : World) (n : Int) (Wb Bb R k : Nat) (w : World) : Prop where
 wd : ∀ q, q < 4 → w.cell? ⟨Wb, q, none⟩ = some (.int .u64 (word64 n q))
 bt : ∀ j, j < 32 → w.cell? ⟨Bb, j, none⟩ = some (.int .u8 (if j < k then byt n j else 0))
 fr : ∀ j, j < 32 → w.frozen? ⟨Bb, j, none⟩ = false
 th : w.there R 0 32
 bel : Below w0.heap.size w0 w
theorem EncW.step {w0 : World} {n : Int} {Wb Bb R k : Nat} {w : World} (h : EncW w0 n Wb Bb R k w) (hk : k < 32) (h1 : Bb ≠ Wb) (h0 : w0.heap.size ≤ Bb) :
  EncW w0 n Wb Bb R (k + 1) (w.setCell ⟨Bb, k, none⟩ (.int .u8 (byt n k))) := by
 refine ⟨fun q hq => (World.cell?_setCell_far w _ _ _ h1).trans (h.wd q hq), fun j hj => ?_, fun j hj => by have := h.fr j hj; go_simp, fun j hj => ⟨?_, by rw [World.frozen?_setCell]; exact (h.th j hj).2⟩, h.bel.setCell h0 _⟩
 ·by_cases hjk : j = k
  ·subst hjk
   have hb := h.bt j hj
   rw [if_pos (by omega)]
   go_simp
  ·rw [World.cell?_setCell_other w _ _ _ (by intro e; exact hjk (congrArg Addr.off e).symm), h.bt j hj]
   by_cases hlt : j < k
   ·rw [if_pos hlt, if_pos (by omega)]
   ·rw [if_neg hlt, if_neg (by omega)]
 ·exact World.isSome_setCells Bb [.int .u8 (byt n k)] k w _ (h.th j hj).1
theorem below_setCells {w0 : World} (b : Nat) : ∀ (vs : List Value) (o : Nat) {w : World}, Below w0.heap.size w0 w → w0.heap.size ≤ b → Below w0.heap.size w0 (w.setCells b o vs)
 | [], _, _, h, _ => h
 | v :: vs, o, w, h, hb => by
  rw [World.setCells]
  exact below_setCells b vs (o + 1) (h.setCell hb v) hb
theorem results_cell1 {fn : Func} {p : Tmp} {ty : TypeId} (h : fn.results = #[.cell p ty]) (tmps : Array Value) (P : Program) (w : World) (a : Addr) (v : Value) (ha : tmps.getD p undef = .pointer (some a)) (hl : (loadVar ty a).run P w = .ok v w) :
  (results fn tmps).run P w = .ok v w := by
 have e : (results fn tmps).run P w = ((asAddr (tmps.getD p undef)).run P w).andThen fun a w1 => (loadVar ty a).run P w1 := by
  simp only [results, h]
  simp [Sem.run_bind, Result.andThen]
 rw [e, ha]
 simp [asAddr, hl, Result.andThen]
theorem bytesV (n : Int) (j : Nat) (v : Value) (h : ((bytes n).map fun z => Value.int .u8 z)[j]? = some v) : j < 32 ∧ v = .int .u8 (byt n j) := by
 have hj : j < 32 := by
  have := (List.getElem?_eq_some_iff.1 h).1
  simpa [bytes] using this
 refine ⟨hj, ?_⟩
 rw [List.getElem?_map, bytes_get n j hj] at h
 simpa using h.symm
theorem word_lim (n : Int) (q : Nat) (hq : q < 4) : word64 n q = Sm.lim q n := by
 unfold word64
 have h4 : q = 0 ∨ q = 1 ∨ q = 2 ∨ q = 3 := by omega
 rcases h4 with rfl | rfl | rfl | rfl <;> simp [Sm.lim]
set_option maxRecDepth 100000 in
set_option maxHeartbeats 4000000 in
theorem Encode_any (a : E4) (w : World) (hT : Tb w) (ha : a.ok) :
  Calls Tryz.prog 41 #[a.v] w fun e w' => e = .returned (.agg ((bytes (a.n % Sm.L)).map fun z => Value.int .u8 z).toArray) ∧ Below w.heap.size w w' := by
 have c1 := fun w T => Least_any a w T ha
 have hN := byt_word (a.n % Sm.L)
 have HR : ∀ r : E4, r.is a.n → r = ⟨word64 (a.n % Sm.L) 0, word64 (a.n % Sm.L) 1, word64 (a.n % Sm.L) 2, word64 (a.n % Sm.L) 3⟩ := fun r h => by
  rw [word_lim _ 0 (by omega), word_lim _ 1 (by omega), word_lim _ 2 (by omega), word_lim _ 3 (by omega)]; exact h
 generalize a.n % Sm.L = n at *
 have HRH := Hn HR
 have HNH := Hn hN
 have C1 := Hn c1
 have HT := Hn hT
 clear HR hN c1 ha hT
 simp only [E4.v] at C1 ⊢
 go_enter Tryz.func41, Tryz.ntmps41
 go_upto_region 1 with fail
 go_cut [] (fun wx => Blc wx w.heap.size ⟨word64 n 0, word64 n 1, word64 n 2, word64 n 3⟩ ∧ wx.there (w.heap.size + 1) 0 32 ∧ w.heap.size + 1 < wx.heap.size ∧ Below w.heap.size w wx)
 case first =>
  go_wp2_with fail
  refine (C1.out _ (HT.out.keep (bl_alloc2 _ _ _))).mono ?_
  rintro e w1 ⟨r, rfl, hr, hb1⟩
  have e1 := HRH.out r hr
  subst e1
  clear hr
  have hB : Blc w1 w.heap.size a := ((Blc.new w a 35).keep (bl_alloc _ _)).keep hb1
  have hW : Wrt w1 w.heap.size := ((Wrt.new w a 35).keep (by simp) (bl_alloc _ _)).keep ((Blc.new w a 35).keep (bl_alloc _ _)).lt hb1
  have hz1 : w.heap.size + 1 < w1.heap.size := by have := hb1.size; simp at this; omega
  have hTh := there_keep (there_new (w.alloc (.cells #[.int .u64 a.x0, .int .u64 a.x1, .int .u64 a.x2, .int .u64 a.x3] 35)) #[.int .u8 0, .int .u8 0, .int .u8 0, .int .u8 0, .int .u8 0, .int .u8 0, .int .u8 0, .int .u8 0, .int .u8 0, .int .u8 0, .int .u8 0, .int .u8 0, .int .u8 0, .int .u8 0, .int .u8 0, .int .u8 0, .int .u8 0, .int .u8 0, .int .u8 0, .int .u8 0, .int .u8 0, .int .u8 0, .int .u8 0, .int .u8 0, .int .u8 0, .int .u8 0, .int .u8 0, .int .u8 0, .int .u8 0, .int .u8 0, .int .u8 0, .int .u8 0] 79) (by simp) hb1
  simp only [World.size_alloc] at hTh
  generalize word64 n 0 = x0 at *
  generalize word64 n 1 = x1 at *
  generalize word64 n 2 = x2 at *
  generalize word64 n 3 = x3 at *
  have G1 := Hn (hB.set ⟨x0, x1, x2, x3⟩)
  have G2 := Hn (World.there_setCells hTh w.heap.size 0 [.int .u64 x0, .int .u64 x1, .int .u64 x2, .int .u64 x3])
  have G3 := Hn (set4_below (w0 := w) w1 w.heap.size ⟨x0, x1, x2, x3⟩ (bl_trans (bl_alloc2 w _ _) hb1) (Nat.le_refl _))
  obtain ⟨c0, c1, c2, c3⟩ := hB
  obtain ⟨f0, f1, f2, f3⟩ := hW
  clear hTh hb1
  go_wp2_with fail
  go_meet
  exact ⟨G1.out, G2.out, by simpa using hz1, G3.out⟩
 case rest =>
 obtain ⟨hB, hTh, hz, hbel⟩ := hcut
 clear C1 HRH
 have hwd : ∀ q, q < 4 → wc.cell? ⟨w.heap.size, q, none⟩ = some (.int .u64 (word64 n q)) := fun q hq => by
  have h4 : q = 0 ∨ q = 1 ∨ q = 2 ∨ q = 3 := by omega
  rcases h4 with rfl | rfl | rfl | rfl
  ·exact hB.c0
  ·exact hB.c1
  ·exact hB.c2
  ·exact hB.c3
 have E0 : EncW w n w.heap.size wc.heap.size (w.heap.size + 1) 0 (wc.alloc (.cells #[.int .u8 0, .int .u8 0, .int .u8 0, .int .u8 0, .int .u8 0, .int .u8 0, .int .u8 0, .int .u8 0, .int .u8 0, .int .u8 0, .int .u8 0, .int .u8 0, .int .u8 0, .int .u8 0, .int .u8 0, .int .u8 0, .int .u8 0, .int .u8 0, .int .u8 0, .int .u8 0, .int .u8 0, .int .u8 0, .int .u8 0, .int .u8 0, .int .u8 0, .int .u8 0, .int .u8 0, .int .u8 0, .int .u8 0, .int .u8 0, .int .u8 0, .int .u8 0] 79)) := by
  refine ⟨fun q hq => cell_keep (hwd q hq) (bl_alloc _ _), fun j hj => ?_, fun j hj => by go_simp, World.there_alloc hTh _, bl_trans hbel (bl_alloc _ _)⟩
  rw [World.cell?_alloc_mark, if_neg (by omega)]
  have eZ : (#[.int .u8 0, .int .u8 0, .int .u8 0, .int .u8 0, .int .u8 0, .int .u8 0, .int .u8 0, .int .u8 0, .int .u8 0, .int .u8 0, .int .u8 0, .int .u8 0, .int .u8 0, .int .u8 0, .int .u8 0, .int .u8 0, .int .u8 0, .int .u8 0, .int .u8 0, .int .u8 0, .int .u8 0, .int .u8 0, .int .u8 0, .int .u8 0, .int .u8 0, .int .u8 0, .int .u8 0, .int .u8 0, .int .u8 0, .int .u8 0, .int .u8 0, .int .u8 0] : Array Value) = Array.replicate 32 (.int .u8 0) := rfl
  rw [eZ]
  simp [hj]
 have E0H := Hn E0
 clear E0 hwd hTh hbel hB
 go_wp2_with fail
 go_loopw [7] (fun i w' => ∃ k : Nat, k ≤ 32 ∧ i = .int .i64 k ∧ EncW w n w.heap.size wc.heap.size (w.heap.size + 1) k w') (fun i _ => 32 - (intOf i).toNat)
 case atStart => exact ⟨0, by omega, rfl, E0H.out⟩
 case round =>
  obtain ⟨k, hk, rfl, hE⟩ := hrel
  clear E0H
  by_cases hlt : k < 32
  ·have hw := hE.wd (k / 8) (by omega)
   have hb := hE.bt k hlt
   have hf := hE.fr k hlt
   have hN := HNH.out k
   have NEXT := Hn (hE.step hlt (by omega) (by omega))
   have hwb : 0 ≤ word64 n (k / 8) ∧ word64 n (k / 8) ≤ 18446744073709551615 := by unfold word64; omega
   rw [if_neg (by omega)] at hb
   have HN := Hn hN
   clear hE hN
   generalize word64 n (k / 8) = X at *
   go_wp2_with fail
   refine ⟨⟨k + 1, by omega, by go_num, ?_⟩, by simp [intOf]; omega⟩
   rw [HN.out]
   exact NEXT.out
  ·have hk32 : k = 32 := by omega
   subst hk32
   have hr : wr.rangeAt wc.heap.size 0 ((bytes n).map fun z => Value.int .u8 z) := fun j v hv => by
    obtain ⟨hj, rfl⟩ := bytesV n j v hv
    rw [Nat.zero_add, hE.bt j hj, if_pos hj]
   have hl : ((bytes n).map fun z => Value.int .u8 z).length = 32 := by simp [bytes]
   have ho : ((bytes n).map fun z => Value.int .u8 z).toArray.all (·.oneCell') = true := all_oneCell_toArray (fun v hv => by
    obtain ⟨z, _, rfl⟩ := List.mem_map.1 hv
    rfl)
   have hi : (Tryz.prog.info? 79).map (·.size) = some ((bytes n).map fun z => Value.int .u8 z).length := by rw [hl]; kernel_rfl
   have hu : Tryz.prog.underlying 79 = some (.array 32 5) := by kernel_rfl
   have hth := hE.th
   have hbel := Hn hE.bel
   clear hE
   generalize hcs : ((bytes n).map fun z => Value.int .u8 z) = cs at *
   have hth2 : wr.there (w.heap.size + 1) 0 cs.toArray.size := by simpa [hl] using hth
   have hi2 : (Tryz.prog.info? 79).map (·.size) = some cs.toArray.size := by simpa using hi
   have RD := run_loadVar_mid (P := Tryz.prog) (wr.setCells (w.heap.size + 1) 0 cs) (w.heap.size + 1) 0 79 cs _ (World.rangeAt_setCells_same wr (w.heap.size + 1) 0 cs (by rw [hl]; exact hth)) hu rfl hi
   have BEL : Below w.heap.size w (wr.setCells (w.heap.size + 1) 0 cs) := below_setCells (w.heap.size + 1) cs 0 hbel.out (by omega)
   have HU := Hn hu
   have HI := Hn hi
   have HI2 := Hn hi2
   have HTH := Hn hth2
   have HRA := Hn hr
   have HO := Hn ho
   have RDH := Hn RD
   have BELH := Hn BEL
   clear hth hth2 hu hi ho hi2 hr RD BEL
   go_upto_region 8 with fail
   go_wp2_with (first | refine wpList_load_mid rfl 79 _ rfl wc.heap.size 0 (by rfl) cs _ HRA.out HU.out rfl HI.out ?_ | refine wpList_store_mid rfl 79 _ _ rfl (w.heap.size + 1) 0 cs.toArray (by rfl) (by rfl) HTH.out HI2.out HO.out ?_)
   have RD := RDH.out
   refine bodyPost_ret (v := .agg cs.toArray) (results_cell1 Tryz.results41 _ _ _ _ _ (by rfl) RD) rfl ⟨by rw [hcs], ?_⟩
   exact BELH.out
end Go.Proofs.YthngomhhafoamaaGreatDoor
