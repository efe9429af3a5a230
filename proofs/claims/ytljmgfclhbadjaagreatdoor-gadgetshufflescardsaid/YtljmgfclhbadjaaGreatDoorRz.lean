import Derived.Test.YtljmgfclhbadjaaGreatDoorTk
import Derived.Test.YtljmgfclhbadjaaGreatDoorSop
import Derived.Test.YtljmgfclhbadjaaGreatDoorSz
import Derived.Deep.MidRow
namespace Go.Proofs.YtljmgfclhbadjaaGreatDoor
open Go.RowKit
def E4.put (o : E4) (k : Nat) (v : Int) : E4 := match k with
 | 0 => ⟨v, o.x1, o.x2, o.x3⟩
 | 1 => ⟨o.x0, v, o.x2, o.x3⟩
 | 2 => ⟨o.x0, o.x1, v, o.x3⟩
 | _ => ⟨o.x0, o.x1, o.x2, v⟩
theorem E4.put_get (o : E4) (k : Nat) (v : Int) : (o.put k v).get k = v := by
 unfold E4.put; split <;> simp_all [E4.get]
theorem E4.put_ok {o : E4} (h : o.ok) (k : Nat) {v : Int} (hv : Sm.Wd v) : (o.put k v).ok := by
 obtain ⟨h0, h1, h2, h3⟩ := h
 unfold E4.put; split
 ·exact ⟨hv, h1, h2, h3⟩
 ·exact ⟨h0, hv, h2, h3⟩
 ·exact ⟨h0, h1, hv, h3⟩
 ·exact ⟨h0, h1, h2, hv⟩
theorem E4.put_low (o : E4) (k : Nat) (v : Int) (hk : k < 4) : (o.put k v).low k = o.low k := by
 have hk4 : k = 0 ∨ k = 1 ∨ k = 2 ∨ k = 3 := by omega
 rcases hk4 with rfl | rfl | rfl | rfl <;> simp [E4.low, E4.get, E4.put]
theorem Wrt.get {w : World} {b : Nat} (h : Wrt w b) (k : Nat) (hk : k < 4) : w.frozen? ⟨b, k, none⟩ = false := by
 match k, hk with
 | 0, _ => exact h.f0
 | 1, _ => exact h.f1
 | 2, _ => exact h.f2
 | 3, _ => exact h.f3
theorem Blc.put {w : World} {b : Nat} {o : E4} (h : Blc w b o) (k : Nat) (hk : k < 4) (v : Int) : Blc (w.setCell ⟨b, k, none⟩ (.int .u64 v)) b (o.put k v) := by
 obtain ⟨h0, h1, h2, h3⟩ := h
 have hk4 : k = 0 ∨ k = 1 ∨ k = 2 ∨ k = 3 := by omega
 rcases hk4 with rfl | rfl | rfl | rfl <;> (simp only [E4.put]; constructor <;> go_simp)
theorem Blc.far1 {w : World} {b c : Nat} {o : E4} (h : Blc w b o) (hne : c ≠ b) (k : Nat) (v : Value) : Blc (w.setCell ⟨c, k, none⟩ v) b o :=
 ⟨(World.cell?_setCell_far w _ _ _ hne).trans h.c0, (World.cell?_setCell_far w _ _ _ hne).trans h.c1, (World.cell?_setCell_far w _ _ _ hne).trans h.c2, (World.cell?_setCell_far w _ _ _ hne).trans h.c3⟩
theorem Wrt.put {w : World} {b : Nat} (h : Wrt w b) (c k : Nat) (v : Value) : Wrt (w.setCell ⟨c, k, none⟩ v) b := by
 obtain ⟨h0, h1, h2, h3⟩ := h
 constructor <;> go_simp
theorem St.put {w0 : World} {L M : List (Nat × E4)} {R : List Nat} {w1 : World} {b : Nat} {o : E4} (h : St w0 L R w1) (k : Nat) (hk : k < 4) (v : Int) (hb : (b, o) ∈ L) (h0 : w0.heap.size ≤ b) (hs : ∀ p ∈ M, p ∈ L ∧ b ≠ p.1) :
  St w0 ((b, o.put k v) :: M) R (w1.setCell ⟨b, k, none⟩ (.int .u64 v)) := by
 refine ⟨fun p hp => ?_, fun c hc => ⟨(h.wrt c hc).1.put b k _, by simpa using (h.wrt c hc).2⟩, h.bel.setCell h0 _⟩
 rcases List.mem_cons.1 hp with rfl | hp
 ·exact (h.live _ hb).put k hk v
 ·exact (h.live p (hs p hp).1).far1 (hs p hp).2 k _
theorem below_math (a b : E4) (ha : a.ok) (hb : b.ok) (m : Nat) (hm : m < 4) (he : ∀ j, m < j → j < 4 → a.get j = b.get j) (hne : a.get m ≠ b.get m) : decide (a.get m < b.get m) = decide (a.n < b.n) := by
 obtain ⟨a0, a1, a2, a3⟩ := ha
 obtain ⟨b0, b1, b2, b3⟩ := hb
 unfold Sm.Wd at *
 rw [decide_eq_decide]
 have e1 := he 1
 have e2 := he 2
 have e3 := he 3
 have hm4 : m = 0 ∨ m = 1 ∨ m = 2 ∨ m = 3 := by omega
 rcases hm4 with rfl | rfl | rfl | rfl <;> simp only [E4.get, E4.n, Sm.V] at * <;> omega
theorem below_same (a b : E4) (he : ∀ j, j < 4 → a.get j = b.get j) : decide (a.n < b.n) = false := by
 have e0 := he 0 (by omega)
 have e1 := he 1 (by omega)
 have e2 := he 2 (by omega)
 have e3 := he 3 (by omega)
 simp only [E4.get] at e0 e1 e2 e3
 rw [decide_eq_false_iff_not]
 simp only [E4.n, e0, e1, e2, e3]
 omega
set_option maxRecDepth 100000 in
set_option maxHeartbeats 4000000 in
theorem rbelow_any (a b : E4) (w : World) (ha : a.ok) (hb : b.ok) :
  Calls Tryz.prog 153 #[a.v, b.v] w fun e w' => e = .returned (.bool (decide (a.n < b.n))) ∧ Below w.heap.size w w' := by
 have BM := Hn (below_math a b ha hb)
 have BS := Hn (below_same a b)
 have HA := Hn ha
 have HB := Hn hb
 have s0 := (St.start w a 27).new b 27
 simp only [World.size_alloc] at s0
 have S0 := Hn s0
 clear s0 ha hb
 simp only [E4.v]
 go_enter Tryz.func153, Tryz.ntmps153
 go_wp2_with fail
 go_loopw [5] (fun i w' => ∃ k : Nat, k ≤ 4 ∧ i = .int .i64 ((k : Int) - 1) ∧ (∀ j, k ≤ j → j < 4 → a.get j = b.get j) ∧ St w [(w.heap.size + 1, b), (w.heap.size, a)] [] w') (fun i _ => (intOf i + 1).toNat)
 case atStart => exact ⟨4, by omega, rfl, fun j h1 h2 => by omega, S0.out⟩
 case round =>
  obtain ⟨k, hk, rfl, heq, hst⟩ := hrel
  clear S0
  by_cases hk0 : k = 0
  ·subst hk0
   rw [show ((0 : Nat) : Int) - 1 = -1 from rfl]
   have BH := Hn hst.bel
   have hf := BS.out (fun j hj => heq j (by omega) hj)
   have HF := Hn hf
   clear hst heq hf
   go_wp2_with fail
   go_ret
   exact ⟨by rw [HF.out]; rfl, BH.out⟩
  ·obtain ⟨m, rfl⟩ : ∃ m, k = m + 1 := ⟨k - 1, by omega⟩
   have em : ((m + 1 : Nat) : Int) - 1 = (m : Int) := by omega
   rw [em]
   clear em hk0
   have kk0 : (0 : Int) ≤ (m : Int) := by omega
   have kk1 : (m : Int) < 4 := by omega
   have HEQ := Hn heq
   have ca := (hst.live (w.heap.size, a) (by simp)).get m (by omega)
   have cb := (hst.live (w.heap.size + 1, b) (by simp)).get m (by omega)
   have xa := E4.get_wd HA.out m
   have xb := E4.get_wd HB.out m
   unfold Sm.Wd at xa xb
   have BMm := Hn (fun h => BM.out m (by omega) (fun j h1 h2 => HEQ.out j (by omega) h2) h)
   have NE := Hn (fun (h : a.get m = b.get m) j (h1 : m ≤ j) (h2 : j < 4) => (if hj : j = m then by rw [hj]; exact h else HEQ.out j (by omega) h2 : a.get j = b.get j))
   have KS : Hid (∀ w', St w [(w.heap.size + 1, b), (w.heap.size, a)] [] w' → (fun w' => St w [(w.heap.size + 1, b), (w.heap.size, a)] [] w' ∧ w'.cell? ⟨w.heap.size, m, none⟩ = some (.int .u64 (a.get m)) ∧ w'.cell? ⟨w.heap.size + 1, m, none⟩ = some (.int .u64 (b.get m))) w') := Hn (fun w' h => ⟨h, (h.live (w.heap.size, a) (by simp)).get m (by omega), (h.live (w.heap.size + 1, b) (by simp)).get m (by omega)⟩)
   have K0 := Hn (KS.out _ hst.drew)
   have K1 := Hn (KS.out _ hst.drew.drew)
   have SD := Hn hst.drew
   clear hst heq ca cb KS
   generalize a.get m = x at *
   generalize b.get m = y at *
   by_cases hxy : x = y
   ·subst hxy
    go_upto_region 4 with fail
    go_region_held3 (fun w' => St w [(w.heap.size + 1, b), (w.heap.size, a)] [] w' ∧ w'.cell? ⟨w.heap.size, m, none⟩ = some (.int .u64 x) ∧ w'.cell? ⟨w.heap.size + 1, m, none⟩ = some (.int .u64 x)) (with_reducible exact K0.out) (fail)
    clear K0 K1
    go_wp2_with fail
    go_roundw
    case rel => exact ⟨m, by omega, by go_num, NE.out rfl, SD.out⟩
    case measure => simp [intOf]
   ·go_upto_region 4 with fail
    go_region_held3 (fun w' => St w [(w.heap.size + 1, b), (w.heap.size, a)] [] w' ∧ w'.cell? ⟨w.heap.size, m, none⟩ = some (.int .u64 x) ∧ w'.cell? ⟨w.heap.size + 1, m, none⟩ = some (.int .u64 y)) (with_reducible exact K0.out) (fail)
    go_upto_region 5 with fail
    go_region_held3 (fun w' => St w [(w.heap.size + 1, b), (w.heap.size, a)] [] w' ∧ w'.cell? ⟨w.heap.size, m, none⟩ = some (.int .u64 x) ∧ w'.cell? ⟨w.heap.size + 1, m, none⟩ = some (.int .u64 y)) (with_reducible exact K1.out) (fail)
    clear K0 K1
    go_wp2_with fail
    go_ret
    exact ⟨by rw [← BMm.out hxy]; rfl, SD.out.drew.bel⟩
end Go.Proofs.YtljmgfclhbadjaaGreatDoor
namespace Go.Proofs.YtljmgfclhbadjaaGreatDoor
open Go.RowKit
def num : List Int → Nat
 | [] => 0
 | z :: zs => z.toNat + 256 * num zs
theorem num_lt : ∀ (zs : List Int), (∀ z ∈ zs, 0 ≤ z ∧ z ≤ 255) → num zs < 256 ^ zs.length
 | [], _ => by simp [num]
 | z :: zs, h => by
  have hz := h z (by simp)
  have ih := num_lt zs (fun y hy => h y (by simp [hy]))
  rw [num, List.length_cons, Nat.pow_succ]
  omega
theorem num_get : ∀ (zs : List Int) (k : Nat), (∀ z ∈ zs, 0 ≤ z ∧ z ≤ 255) → zs.getD k 0 = ((num zs / 256 ^ k % 256 : Nat) : Int)
 | [], k, _ => by simp [num]
 | z :: zs, 0, h => by
  have hz := h z (by simp)
  simp only [List.getD_cons_zero, num, Nat.pow_zero, Nat.div_one]
  omega
 | z :: zs, k + 1, h => by
  have hz := h z (by simp)
  rw [List.getD_cons_succ, num_get zs k (fun y hy => h y (by simp [hy])), num, Nat.pow_succ, Nat.mul_comm (256 ^ k), ← Nat.div_div_eq_div_mul]
  have e3 : (z.toNat + 256 * num zs) / 256 = num zs := by omega
  rw [e3]
theorem or_parts (i : Nat) (h l : Int) (hl0 : 0 ≤ l) (hl : l < 2 ^ i) (hh0 : 0 ≤ h) (hh : h * 2 ^ i < 18446744073709551616) (hi : i ≤ 63) : bits .or .u64 l (h * 2 ^ i) = l + h * 2 ^ i := by
 obtain ⟨H, rfl⟩ := Int.eq_ofNat_of_zero_le hh0
 obtain ⟨L, rfl⟩ := Int.eq_ofNat_of_zero_le hl0
 have e : (H : Int) * 2 ^ i = ((H * 2 ^ i : Nat) : Int) := by simp
 rw [e] at hh ⊢
 have hL : L < 2 ^ i := by
  have e2 : ((2 : Int) ^ i) = ((2 ^ i : Nat) : Int) := by simp
  rw [e2] at hl; omega
 have h64 : 2 ^ i ≤ 2 ^ 63 := Nat.pow_le_pow_right (by omega) hi
 rw [u64_or_nat _ _ (by omega) (by omega), Nat.or_comm]
 have := Nat.shiftLeft_add_eq_or_of_lt hL H
 rw [Nat.shiftLeft_eq] at this
 rw [← this]; omega
def bv (zs : List Int) : Value := .agg (zs.map fun z => Value.int .u8 z).toArray
theorem range_new (w : World) (zs : List Int) (t : TypeId) : (w.alloc (.cells (zs.map fun z => Value.int .u8 z).toArray t)).rangeAt w.heap.size 0 (zs.map fun z => Value.int .u8 z) := fun j v hv => by
 rw [Nat.zero_add, World.cell?_alloc_mark]
 simpa using hv
set_option maxHeartbeats 8000000 in
theorem read_step (N : Int) (k : Nat) (hk : k < 32) :
  (∀ j, j < 4 → j ≠ k / 8 → Sm.lim j (N % 256 ^ (k + 1)) = Sm.lim j (N % 256 ^ k)) ∧ Sm.lim (k / 8) (N % 256 ^ (k + 1)) = Sm.lim (k / 8) (N % 256 ^ k) + N / 256 ^ k % 256 * 2 ^ (8 * (k % 8)) ∧ Sm.lim (k / 8) (N % 256 ^ k) < 2 ^ (8 * (k % 8)) := by
 have hc : k = 0 ∨ k = 1 ∨ k = 2 ∨ k = 3 ∨ k = 4 ∨ k = 5 ∨ k = 6 ∨ k = 7 ∨ k = 8 ∨ k = 9 ∨ k = 10 ∨ k = 11 ∨ k = 12 ∨ k = 13 ∨ k = 14 ∨ k = 15 ∨ k = 16 ∨ k = 17 ∨ k = 18 ∨ k = 19 ∨ k = 20 ∨ k = 21 ∨ k = 22 ∨ k = 23 ∨ k = 24 ∨ k = 25 ∨ k = 26 ∨ k = 27 ∨ k = 28 ∨ k = 29 ∨ k = 30 ∨ k = 31 := by omega
 rcases hc with rfl | rfl | rfl | rfl | rfl | rfl | rfl | rfl | rfl | rfl | rfl | rfl | rfl | rfl | rfl | rfl | rfl | rfl | rfl | rfl | rfl | rfl | rfl | rfl | rfl | rfl | rfl | rfl | rfl | rfl | rfl | rfl
 all_goals
  refine ⟨fun j hj hne => ?_, ?_, ?_⟩
  ·have hj4 : j = 0 ∨ j = 1 ∨ j = 2 ∨ j = 3 := by omega
   rcases hj4 with rfl | rfl | rfl | rfl
   all_goals first
    | exact absurd rfl hne
    | (simp only [Sm.lim, Nat.reduceAdd, Int.reducePow]; omega)
  ·simp only [Sm.lim, Nat.reduceAdd, Nat.reduceDiv, Nat.reduceMod, Nat.reduceMul, Int.reducePow]; omega
  ·simp only [Sm.lim, Nat.reduceDiv, Nat.reduceMod, Nat.reduceMul, Int.reducePow]; omega
end Go.Proofs.YtljmgfclhbadjaaGreatDoor
namespace Go.Proofs.YtljmgfclhbadjaaGreatDoor
open Go.RowKit
def limE (N : Int) : E4 := ⟨Sm.lim 0 N, Sm.lim 1 N, Sm.lim 2 N, Sm.lim 3 N⟩
theorem limE_ok (N : Int) : (limE N).ok := ⟨Sm.lim_wd 0 _, Sm.lim_wd 1 _, Sm.lim_wd 2 _, Sm.lim_wd 3 _⟩
theorem limE_n (N : Int) (h0 : 0 ≤ N) (h1 : N < 115792089237316195423570985008687907853269984665640564039457584007913129639936) : (limE N).n = N := Sm.V_lim N h0 h1
structure RdW (w0 : World) (N : Int) (k : Nat) (w : World) : Prop where
 c : ∀ j, j < 4 → w.cell? ⟨w0.heap.size + 1 + 1, j, none⟩ = some (.int .u64 (Sm.lim j (N % 256 ^ k)))
 f : ∀ j, j < 4 → w.frozen? ⟨w0.heap.size + 1 + 1, j, none⟩ = false
 rs : Blc w (w0.heap.size + 1) zero4
 rf : Wrt w (w0.heap.size + 1)
 bel : Below w0.heap.size w0 w
theorem RdW.drew {w0 : World} {N : Int} {k : Nat} {w : World} (h : RdW w0 N k w) : RdW w0 N k w.drew := by
 have hb : Below w.heap.size w w.drew := (Below.refl _ _).drew
 have hl := World.block_lt_of_cell? w ⟨w0.heap.size + 1 + 1, 0, none⟩ (h.c 0 (by omega))
 exact ⟨fun j hj => cell_keep (h.c j hj) hb, fun j hj => ((bcell hb).2 _ _ hl).trans (h.f j hj), h.rs.keep hb, h.rf.keep h.rs.lt hb, bl_trans h.bel hb⟩
theorem RdW.step {w0 : World} {N : Int} {k : Nat} {w : World} (h : RdW w0 N k w) (hk : k < 32) :
  RdW w0 N (k + 1) (w.setCell ⟨w0.heap.size + 1 + 1, k / 8, none⟩ (.int .u64 (Sm.lim (k / 8) (N % 256 ^ (k + 1))))) := by
 obtain ⟨s1, -, -⟩ := read_step N k hk
 have hq : k / 8 < 4 := by omega
 refine ⟨fun j hj => ?_, fun j hj => by have := h.f j hj; go_simp, ?_, ?_, h.bel.setCell (by show w0.heap.size ≤ w0.heap.size + 1 + 1; omega) _⟩
 ·by_cases hjk : j = k / 8
  ·subst hjk
   have hb := h.c (k / 8) hj
   go_simp
  ·rw [World.cell?_setCell_other w _ _ _ (by intro e; exact hjk (congrArg Addr.off e).symm), h.c j hj, s1 j hj hjk]
 ·obtain ⟨a0, a1, a2, a3⟩ := h.rs
  exact ⟨(World.cell?_setCell_far w _ _ _ (by show w0.heap.size + 1 + 1 ≠ w0.heap.size + 1; omega)).trans a0, (World.cell?_setCell_far w _ _ _ (by show w0.heap.size + 1 + 1 ≠ w0.heap.size + 1; omega)).trans a1, (World.cell?_setCell_far w _ _ _ (by show w0.heap.size + 1 + 1 ≠ w0.heap.size + 1; omega)).trans a2, (World.cell?_setCell_far w _ _ _ (by show w0.heap.size + 1 + 1 ≠ w0.heap.size + 1; omega)).trans a3⟩
 ·obtain ⟨a0, a1, a2, a3⟩ := h.rf
  exact ⟨by go_simp, by go_simp, by go_simp, by go_simp⟩
theorem or_step (N : Int) (k : Nat) (hk : k < 32) : bits .or .u64 (Sm.lim (k / 8) (N % 256 ^ k)) (N / 256 ^ k % 256 * 2 ^ (8 * (k % 8))) = Sm.lim (k / 8) (N % 256 ^ (k + 1)) ∧ 0 ≤ N / 256 ^ k % 256 * 2 ^ (8 * (k % 8)) ∧ N / 256 ^ k % 256 * 2 ^ (8 * (k % 8)) ≤ 18446744073709551615 := by
 obtain ⟨-, s2, s3⟩ := read_step N k hk
 have hb : 0 ≤ N / 256 ^ k % 256 ∧ N / 256 ^ k % 256 ≤ 255 := by omega
 have hl := Sm.lim_wd (k / 8) (N % 256 ^ k)
 have hm : k % 8 < 8 := by omega
 have hup : N / 256 ^ k % 256 * 2 ^ (8 * (k % 8)) ≤ 255 * 72057594037927936 := by
  have hp : (2 : Int) ^ (8 * (k % 8)) ≤ 72057594037927936 := by
   have hc : k % 8 = 0 ∨ k % 8 = 1 ∨ k % 8 = 2 ∨ k % 8 = 3 ∨ k % 8 = 4 ∨ k % 8 = 5 ∨ k % 8 = 6 ∨ k % 8 = 7 := by omega
   rcases hc with h | h | h | h | h | h | h | h <;> rw [h] <;> decide
  exact Int.mul_le_mul hb.2 hp (Int.le_of_lt (Int.pow_pos (by decide))) (by decide)
 have hlo : 0 ≤ N / 256 ^ k % 256 * 2 ^ (8 * (k % 8)) := Int.mul_nonneg hb.1 (Int.le_of_lt (Int.pow_pos (by decide)))
 refine ⟨?_, hlo, by omega⟩
 rw [or_parts (8 * (k % 8)) _ _ hl.1 s3 hb.1 (by omega) (by omega), s2]
theorem run_index_arr {P : Program} {w : World} {t e : TypeId} {n : Nat} {cs : Array Value} {k : IntKind} {i : Nat} {v : Value} (h : P.underlying t = some (.array n e)) (hp : P.plainKey e = true) {x : TypeInfo} (hinfo : P.info? e = some x) (hc : P.cellsOf e = 1) (hn : (i : Int) < n) (hv : cs[i]? = some v) :
  (Instr.index t (.agg cs) (.int k i)).run P w = .ok v w := by
 have hr : 0 ≤ (i : Int) ∧ (i : Int) < (n : Int) := by omega
 have hsz := run_sizeOf w hinfo
 rw [hc] at hsz
 simp only [Instr.index, run_underlying h, asIntOf, Sem.run_bind, Sem.run_pure, Result.andThen_ok, if_pos hr, hsz, Int.toNat_natCast, Nat.mul_one, run_part_plain w hp hv]
end Go.Proofs.YtljmgfclhbadjaaGreatDoor
