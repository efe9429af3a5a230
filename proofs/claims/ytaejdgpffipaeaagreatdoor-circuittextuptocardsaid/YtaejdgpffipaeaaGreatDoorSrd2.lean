import Derived.Test.YtaejdgpffipaeaaGreatDoorSrd
namespace Go.Proofs.YtaejdgpffipaeaaGreatDoor
open Go.RowKit
def limE (N : Int) : E4 := ⟨Sm.lim 0 N, Sm.lim 1 N, Sm.lim 2 N, Sm.lim 3 N⟩
theorem limE_ok (N : Int) : (limE N).ok := ⟨Sm.lim_wd 0 _, Sm.lim_wd 1 _, Sm.lim_wd 2 _, Sm.lim_wd 3 _⟩
theorem limE_n (N : Int) (h0 : 0 ≤ N) (h1 : N < 115792089237316195423570985008687907853269984665640564039457584007913129639936) : (limE N).n = N := Sm.V_lim N h0 h1
structure RdW (w0 : World) (N : Int) (k : Nat) (w : World) : Prop where
 c : ∀ j, j < 4 → w.cell? ⟨w0.heap.size + 1 + 1, j, none⟩ = some (.int .u64 (Sm.lim j (N % 256 ^ k)))
 f : ∀ j, j < 4 → w.frozen? ⟨w0.heap.size + 1 + 1, j, none⟩ = false
 rs : Blc w (w0.heap.size + 1) zero4
 rf : Wrt w (w0.heap.size + 1)
 bel : Below w0.heap.size w0 w
theorem RdW.drew {w0 : World} {N : Int} {k : Nat} {w : World} (h : RdW w0 N k w) : RdW w0 N k w.drew := by
 have hb : Below w.heap.size w w.drew := (Below.refl _ _).drew
 have hl := World.block_lt_of_cell? w ⟨w0.heap.size + 1 + 1, 0, none⟩ (h.c 0 (by omega))
 exact ⟨fun j hj => cell_keep (h.c j hj) hb, fun j hj => ((bcell hb).2 _ _ hl).trans (h.f j hj), h.rs.keep hb, h.rf.keep h.rs.lt hb, bl_trans h.bel hb⟩
theorem RdW.step {w0 : World} {N : Int} {k : Nat} {w : World} (h : RdW w0 N k w) (hk : k < 32) :
  RdW w0 N (k + 1) (w.setCell ⟨w0.heap.size + 1 + 1, k / 8, none⟩ (.int .u64 (Sm.lim (k / 8) (N % 256 ^ (k + 1))))) := by
 obtain ⟨s1, -, -⟩ := read_step N k hk
 have hq : k / 8 < 4 := by omega
 refine ⟨fun j hj => ?_, fun j hj => by have := h.f j hj; go_simp, ?_, ?_, h.bel.setCell (by show w0.heap.size ≤ w0.heap.size + 1 + 1; omega) _⟩
 ·by_cases hjk : j = k / 8
  ·subst hjk
   have hb := h.c (k / 8) hj
   go_simp
  ·rw [World.cell?_setCell_other w _ _ _ (by intro e; exact hjk (congrArg Addr.off e).symm), h.c j hj, s1 j hj hjk]
 ·obtain ⟨a0, a1, a2, a3⟩ := h.rs
  exact ⟨(World.cell?_setCell_far w _ _ _ (by show w0.heap.size + 1 + 1 ≠ w0.heap.size + 1; omega)).trans a0, (World.cell?_setCell_far w _ _ _ (by show w0.heap.size + 1 + 1 ≠ w0.heap.size + 1; omega)).trans a1, (World.cell?_setCell_far w _ _ _ (by show w0.heap.size + 1 + 1 ≠ w0.heap.size + 1; omega)).trans a2, (World.cell?_setCell_far w _ _ _ (by show w0.heap.size + 1 + 1 ≠ w0.heap.size + 1; omega)).trans a3⟩
 ·obtain ⟨a0, a1, a2, a3⟩ := h.rf
  exact ⟨by go_simp, by go_simp, by go_simp, by go_simp⟩
theorem or_step (N : Int) (k : Nat) (hk : k < 32) : bits .or .u64 (Sm.lim (k / 8) (N % 256 ^ k)) (N / 256 ^ k % 256 * 2 ^ (8 * (k % 8))) = Sm.lim (k / 8) (N % 256 ^ (k + 1)) ∧ 0 ≤ N / 256 ^ k % 256 * 2 ^ (8 * (k % 8)) ∧ N / 256 ^ k % 256 * 2 ^ (8 * (k % 8)) ≤ 18446744073709551615 := by
 obtain ⟨-, s2, s3⟩ := read_step N k hk
 have hb : 0 ≤ N / 256 ^ k % 256 ∧ N / 256 ^ k % 256 ≤ 255 := by omega
 have hl := Sm.lim_wd (k / 8) (N % 256 ^ k)
 have hm : k % 8 < 8 := by omega
 have hup : N / 256 ^ k % 256 * 2 ^ (8 * (k % 8)) ≤ 255 * 72057594037927936 := by
  have hp : (2 : Int) ^ (8 * (k % 8)) ≤ 72057594037927936 := by
   have hc : k % 8 = 0 ∨ k % 8 = 1 ∨ k % 8 = 2 ∨ k % 8 = 3 ∨ k % 8 = 4 ∨ k % 8 = 5 ∨ k % 8 = 6 ∨ k % 8 = 7 := by omega
   rcases hc with h | h | h | h | h | h | h | h <;> rw [h] <;> decide
  exact Int.mul_le_mul hb.2 hp (Int.le_of_lt (Int.pow_pos (by decide))) (by decide)
 have hlo : 0 ≤ N / 256 ^ k % 256 * 2 ^ (8 * (k % 8)) := Int.mul_nonneg hb.1 (Int.le_of_lt (Int.pow_pos (by decide)))
 refine ⟨?_, hlo, by omega⟩
 rw [or_parts (8 * (k % 8)) _ _ hl.1 s3 hb.1 (by omega) (by omega), s2]
theorem run_index_arr {P : Program} {w : World} {t e : TypeId} {n : Nat} {cs : Array Value} {k : IntKind} {i : Nat} {v : Value} (h : P.underlying t = some (.array n e)) (hp : P.plainKey e = true) {x : TypeInfo} (hinfo : P.info? e = some x) (hc : P.cellsOf e = 1) (hn : (i : Int) < n) (hv : cs[i]? = some v) :
  (Instr.index t (.agg cs) (.int k i)).run P w = .ok v w := by
 have hr : 0 ≤ (i : Int) ∧ (i : Int) < (n : Int) := by omega
 have hsz := run_sizeOf w hinfo
 rw [hc] at hsz
 simp only [Instr.index, run_underlying h, asIntOf, Sem.run_bind, Sem.run_pure, Result.andThen_ok, if_pos hr, hsz, Int.toNat_natCast, Nat.mul_one, run_part_plain w hp hv]
set_option maxRecDepth 100000 in
set_option maxHeartbeats 4000000 in
theorem read_any (zs : List Int) (w : World) (lz : zs.length = 32) (hz : ∀ z ∈ zs, 0 ≤ z ∧ z ≤ 255) :
  Calls Tryz.prog 108 #[bv zs] w fun e w' => e = .returned (limE (num zs)).v ∧ Below w.heap.size w w' := by
 have GZ := hidden (fun k => num_get zs k hz)
 have hlt := num_lt zs hz
 rw [lz] at hlt
 have HLT := hidden hlt
 have hi : (Tryz.prog.info? 68).map (·.size) = some (zs.map fun z => Value.int .u8 z).length := by rw [List.length_map, lz]; kernel_rfl
 have hu : Tryz.prog.underlying 68 = some (.array 32 5) := by kernel_rfl
 have HU := hidden hu
 have HP : Hid (Tryz.prog.plainKey 5 = true) := hidden (by kernel_rfl)
 have HC : Hid (Tryz.prog.cellsOf 5 = 1) := hidden (by kernel_rfl)
 have HINFO : Hid (Tryz.prog.info? 5 = some (Tryz.prog.info? 5).get!) := hidden (by kernel_rfl)
 have HI := hidden hi
 have RN := hidden (range_new w zs 68)
 have hget : ∀ k, k < 32 → (zs.map fun z => Value.int .u8 z)[k]? = some (.int .u8 ((num zs / 256 ^ k % 256 : Nat) : Int)) := fun k hk => by
  rw [← num_get zs k hz, List.getElem?_map, List.getD_eq_getElem?_getD, List.getElem?_eq_getElem (by omega)]
  simp
 have HG := hidden hget
 have hlen : (zs.map fun z => Value.int .u8 z).length = 32 := by simp [lz]
 have HLEN := hidden hlen
 clear hu hi lz hz hlt hget hlen
 unfold bv
 generalize (zs.map fun z => Value.int .u8 z) = cs at *
 generalize num zs = N at *
 go_enter Tryz.func108, Tryz.ntmps108
 go_wp2_with (refine wpList_load_mid rfl 68 _ rfl w.heap.size 0 (by rfl) cs _ (World.rangeAt_alloc (World.rangeAt_alloc RN.out _) _) HU.out rfl HI.out ?_)
 go_loopw [7] (fun i w' => ∃ k : Nat, k ≤ 32 ∧ i = .int .i64 k ∧ RdW w N k w') (fun i _ => 32 - (intOf i).toNat)
 case atStart =>
  refine ⟨0, by omega, rfl, ⟨fun j hj => ?_, fun j hj => ?_, ?_, ?_, bl_alloc3 _ _ _ _⟩⟩
  ·have hl0 : Sm.lim j ((N : Int) % 256 ^ 0) = 0 := by
    rw [Int.pow_zero, Int.emod_one]; unfold Sm.lim; split <;> decide
   rw [hl0]
   have h4 : j = 0 ∨ j = 1 ∨ j = 2 ∨ j = 3 := by omega
   have b := Blc.new2 w (.cells cs.toArray 68) (.cells #[.int .u64 0, .int .u64 0, .int .u64 0, .int .u64 0] 48) 48
   rcases h4 with rfl | rfl | rfl | rfl
   ·exact b.c0
   ·exact b.c1
   ·exact b.c2
   ·exact b.c3
  ·have h4 : j = 0 ∨ j = 1 ∨ j = 2 ∨ j = 3 := by omega
   have b := Wrt.new2 w (.cells cs.toArray 68) (.cells #[.int .u64 0, .int .u64 0, .int .u64 0, .int .u64 0] 48) 48
   rcases h4 with rfl | rfl | rfl | rfl
   ·exact b.f0
   ·exact b.f1
   ·exact b.f2
   ·exact b.f3
  ·exact (Blc.new1 w _ _).keep (bl_alloc _ _)
  ·exact (Wrt.new1 w _ _).keep (Blc.new1 w _ _).lt (bl_alloc _ _)
 case round =>
  obtain ⟨k, hk, rfl, hR⟩ := hrel
  by_cases hlt : k < 32
  ·have hgk := HG.out k hlt
   have hgk2 : cs.toArray[k]? = some (.int .u8 ((N / 256 ^ k % 256 : Nat) : Int)) := by simpa using hgk
   have hkk : (k : Int) < 32 := by omega
   have hix := fun w => run_index_arr (w := w) (k := .i64) HU.out HP.out HINFO.out HC.out hkk hgk2
   obtain ⟨st, lo, hi⟩ := or_step N k hlt
   have eN : ((N / 256 ^ k % 256 : Nat) : Int) = (N : Int) / 256 ^ k % 256 := by simp
   have NX := hidden (hR.drew.step hlt)
   have hc := hR.drew.c (k / 8) (by omega)
   have hf := hR.drew.f (k / 8) (by omega)
   rw [eN] at hix
   have hb : 0 ≤ (N : Int) / 256 ^ k % 256 ∧ (N : Int) / 256 ^ k % 256 ≤ 255 := by omega
   have hlw := Sm.lim_wd (k / 8) ((N : Int) % 256 ^ k)
   unfold Sm.Wd at hlw
   have hwr : IntKind.u64.wrap ((N : Int) / 256 ^ k % 256 * 2 ^ (8 * (k % 8))) = (N : Int) / 256 ^ k % 256 * 2 ^ (8 * (k % 8)) := IntWalk.u64_in _ ⟨lo, hi⟩
   have STH := hidden st
   clear hgk hgk2 eN hR st
   generalize (N : Int) / 256 ^ k % 256 = X at *
   generalize Sm.lim (k / 8) ((N : Int) % 256 ^ k) = Y at *
   generalize Sm.lim (k / 8) ((N : Int) % 256 ^ (k + 1)) = Z at *
   obtain ⟨q, hq⟩ : ∃ q, k / 8 = q := ⟨_, rfl⟩
   obtain ⟨m, hm⟩ : ∃ m, k % 8 = m := ⟨_, rfl⟩
   have td : (k : Int).tdiv 8 = (q : Int) := by rw [Int.tdiv_eq_ediv_of_nonneg (by omega)]; omega
   have tm : (k : Int).tmod 8 = (m : Int) := by rw [Int.tmod_eq_emod_of_nonneg (by omega)]; omega
   have wq : IntKind.i64.wrap (q : Int) = (q : Int) := IntWalk.i64_in _ (by omega)
   have wm : IntKind.i64.wrap (m : Int) = (m : Int) := IntWalk.i64_in _ (by omega)
   have w8 : IntKind.i64.wrap (8 * (m : Int)) = 8 * (m : Int) := IntWalk.i64_in _ (by omega)
   have wX : IntKind.u64.wrap X = X := IntWalk.u64_in _ (by omega)
   have hq0 : (0 : Int) ≤ (q : Int) := by omega
   have hq4 : (q : Int) < 4 := by omega
   have hm0 : (0 : Int) ≤ 8 * (m : Int) := by omega
   have hmn : (8 * (m : Int)).toNat = 8 * m := by omega
   have hmin : min (8 * m) 64 = 8 * m := by omega
   rw [hm] at hwr lo hi STH
   rw [hq] at hc hf NX
   clear hm hq
   go_upto_region 5 with fail
   have st := STH.out
   go_region_with fail
   clear hc hf st wX w8 wm wq td tm hwr
   go_wp2_with fail
   go_roundw
   case rel => exact ⟨k + 1, by omega, by go_num, NX.out⟩
   case measure => simp [intOf]; omega
  ·have hkk : k = 32 := by omega
   subst hkk
   have e32 : (N : Int) % 256 ^ 32 = (N : Int) := Int.emod_eq_of_lt (by omega) (by have := HLT.out; simp only [Int.reducePow]; simp only [Nat.reducePow] at this; omega)
   have c0 := hR.c 0 (by omega)
   have c1 := hR.c 1 (by omega)
   have c2 := hR.c 2 (by omega)
   have c3 := hR.c 3 (by omega)
   rw [e32] at c0 c1 c2 c3
   obtain ⟨d0, d1, d2, d3⟩ := hR.rs
   obtain ⟨g0, g1, g2, g3⟩ := hR.rf
   have BH := hidden hR.bel
   clear hR e32
   go_wp2_with fail
   refine bodyPost_ret (v := .agg #[.int .u64 (Sm.lim 0 N), .int .u64 (Sm.lim 1 N), .int .u64 (Sm.lim 2 N), .int .u64 (Sm.lim 3 N)]) (by simp [results, Tryz.results108, go_sem, d0, d1, d2, d3]) rfl ⟨rfl, ?_⟩
   exact bl_set4 _ _ _ _ BH.out (by omega)
end Go.Proofs.YtaejdgpffipaeaaGreatDoor
