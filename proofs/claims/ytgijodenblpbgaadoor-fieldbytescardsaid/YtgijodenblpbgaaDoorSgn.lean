import Derived.Test.YtgijodenblpbgaaDoorSum

import Derived.Laws.Closers25b
namespace Go.Proofs.YtgijodenblpbgaaDoor
open Go.RowKit

theorem run_index_arr {P : Program} (w : World) (t e : TypeId) (n : Nat) (cs : Array Value) (k : IntKind) (i : Nat) (v : Value) {inf : TypeInfo} (h : P.underlying t = some (.array n e)) (hinf : P.info? e = some inf) (hc1 : P.cellsOf e = 1) (hp : P.plainKey e = true) (hi : i < n) (hc : cs[i]? = some v) :
    (Instr.index t (.agg cs) (.int k i)).run P w = .ok v w := by
  have hn : 0 ≤ (i : Int) ∧ (i : Int) < (n : Int) := by omega
  simp only [Instr.index, asIntOf, Sem.run_bind, Sem.run_pure, Result.andThen_ok, run_underlying h]
  rw [if_pos hn]
  simp only [Sem.run_bind, run_sizeOf w hinf, Result.andThen_ok, hc1, Nat.mul_one, Int.toNat_natCast]
  exact run_part_plain w hp hc

theorem and1_u64 (y : Int) (h0 : 0 ≤ y) (h1 : y ≤ 18446744073709551615) : bits .and .u64 y 1 = y % 2 := and_one_u64 y h0 h1

theorem lst_par (n : Int) : (lst n).x0 % 2 = n % Fm.P % 2 := by
  show Fm.lim 0 (n % Fm.P) % 2 = _
  simp only [Fm.lim]; omega

set_option maxHeartbeats 1000000 in
theorem sign_any (a : E5) (w : World) (ha : a.ok) :
    Calls Tryd.prog 49 #[a.v] w fun e w' => e = .returned (.int .i64 (a.n % Fm.P % 2)) ∧ Below w.heap.size w w' := by
  obtain ⟨r, hr⟩ : ∃ r, r = lst a.n := ⟨_, rfl⟩
  have hp := lst_par a.n
  rw [← hr] at hp
  have ok : r.ok := by rw [hr]; exact lst_ok _
  have c1 := hidden (fun w => Least_any a w ha)
  have k := and1_u64 r.x0 ok.1.1 ok.1.2
  rw [hp] at k
  have b2 : 0 ≤ a.n % Fm.P % 2 ∧ a.n % Fm.P % 2 < 2 := by omega
  generalize a.n % Fm.P % 2 = s at *
  have ix := fun w => run_index_arr w 24 22 5 #[.int .u64 r.x0, .int .u64 r.x1, .int .u64 r.x2, .int .u64 r.x3, .int .u64 r.x4] .i64 0 (.int .u64 r.x0) (P := Tryd.prog) (inf := (Tryd.prog.info? 22).get!) (by kernel_rfl) (by kernel_rfl) (by kernel_rfl) (by kernel_rfl) (by omega) rfl
  simp only [Int.ofNat_zero] at ix
  have HR := hidden hr
  clear hr hp ok
  simp only [E5.v] at c1 ⊢
  go_enter Tryd.func49, Tryd.ntmps49
  go_wp2_with fail
  refine (c1.out _).mono ?_
  rintro e w1 ⟨r', rfl, hr', hb1⟩
  have : r' = r := Eq.trans hr' HR.out.symm
  subst this
  clear hr'
  go_wp2_with fail
  go_ret
  exact ⟨rfl, bl_trans (bl_alloc w _) hb1⟩

set_option maxHeartbeats 1000000 in
theorem Negative_any (a : E5) (w : World) (ha : a.ok) :
    Calls Tryd.prog 27 #[a.v] w fun e w' => e = .returned (.bool (a.n % Fm.P % 2 == 1)) ∧ Below w.heap.size w w' := by
  have c1 := hidden (fun w => sign_any a w ha)
  generalize a.n % Fm.P % 2 = s at *
  simp only [E5.v] at c1 ⊢
  go_enter Tryd.func27, Tryd.ntmps27
  go_wp2_with fail
  refine (c1.out _).mono ?_
  rintro e w1 ⟨rfl, hb1⟩
  go_wp2_with fail
  go_ret
  exact ⟨rfl, bl_trans (bl_alloc w _) hb1⟩

/-- the first k limbs of a, the others of b -/
def mix (k : Nat) (a b : E5) : E5 := ⟨if 0 < k then a.x0 else b.x0, if 1 < k then a.x1 else b.x1, if 2 < k then a.x2 else b.x2, if 3 < k then a.x3 else b.x3, if 4 < k then a.x4 else b.x4⟩
theorem xor_pick (a b : Int) (ha : Fm.Wd a) (hb : Fm.Wd b) : bits .xor .u64 b (bits .and .u64 18446744073709551615 (bits .xor .u64 a b)) = a := by
  obtain ⟨A, rfl⟩ := Int.eq_ofNat_of_zero_le ha.1
  obtain ⟨B, rfl⟩ := Int.eq_ofNat_of_zero_le hb.1
  have hA : A < 18446744073709551616 := by have := ha.2; omega
  have hB : B < 18446744073709551616 := by have := hb.2; omega
  have hx : A ^^^ B < 18446744073709551616 := Nat.xor_lt_two_pow (n := 64) hA hB
  rw [u64_xor_nat A B hA hB]
  have e1 := u64_and_nat 18446744073709551615 (A ^^^ B) (by omega) hx
  have e2 : 18446744073709551615 &&& (A ^^^ B) = A ^^^ B := by
    rw [Nat.and_comm]
    have : (A ^^^ B) &&& (2 ^ 64 - 1) = (A ^^^ B) % 2 ^ 64 := Nat.and_two_pow_sub_one_eq_mod _ 64
    rw [show (18446744073709551615 : Nat) = 2 ^ 64 - 1 from rfl, this, Nat.mod_eq_of_lt hx]
  rw [e2] at e1
  have e3 : bits .and .u64 18446744073709551615 ((A ^^^ B : Nat) : Int) = ((A ^^^ B : Nat) : Int) := e1
  rw [e3, u64_xor_nat B (A ^^^ B) hB hx]
  congr 1
  rw [Nat.xor_comm A B, ← Nat.xor_assoc, Nat.xor_self, Nat.zero_xor]
theorem xor_zero (a b : Int) (hb : Fm.Wd b) : bits .xor .u64 b (bits .and .u64 0 (bits .xor .u64 a b)) = b := by
  obtain ⟨B, rfl⟩ := Int.eq_ofNat_of_zero_le hb.1
  have hB : B < 18446744073709551616 := by have := hb.2; omega
  have hy := bits_lo_u64 .xor a B
  have hy2 := bits_hi_u64 .xor a B
  generalize bits .xor .u64 a (B : Int) = y at *
  rw [u64_and 0 y (by omega) (by omega) hy (by omega)]
  have : ((0 : Int).toNat &&& y.toNat : Nat) = 0 := by simp
  rw [this]
  have := u64_xor_nat B 0 hB (by omega)
  rw [Nat.xor_zero] at this
  exact this
end Go.Proofs.YtgijodenblpbgaaDoor
