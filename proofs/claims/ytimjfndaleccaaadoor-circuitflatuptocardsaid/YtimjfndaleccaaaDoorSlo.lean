import Derived.Test.YtimjfndaleccaaaDoorSm
import Derived.Test.YtimjfndaleccaaaDoorProg
import Derived.WalkKit
import Derived.WalkSpells
import Derived.WalkLawsBesides
import Derived.Laws.BitsAllLaws
import Derived.Lib.Mul64
import Derived.Laws.Bits64b
import Derived.Laws.Externs
namespace Go.Proofs.YtimjfndaleccaaaDoor
open Go.RowKit
theorem hidden {p : Prop} (h : p) : Hid p := h
namespace M64
theorem maskN (a : Nat) (ha : a < 18446744073709551616) : bits .and .u64 (a : Int) 4294967295 = ((a % 4294967296 : Nat) : Int) := by
 have h := bits_and_u64_nat a 4294967295 ha (by omega)
 have e : a &&& 4294967295 = a % 4294967296 := Nat.and_two_pow_sub_one_eq_mod a 32
 rw [e] at h
 exact h
theorem divN (a : Nat) : (a : Int) / 4294967296 = ((a / 4294967296 : Nat) : Int) := by omega
theorem mulN (a b : Nat) : (a : Int) * (b : Int) = ((a * b : Nat) : Int) := (Int.natCast_mul a b).symm
theorem addN (a b : Nat) : (a : Int) + (b : Int) = ((a + b : Nat) : Int) := (Int.natCast_add a b).symm
theorem wrapN (a : Nat) (ha : a < 18446744073709551616) : IntKind.u64.wrap (a : Int) = (a : Int) := by rw [IntKind.wrap_u64]; omega
theorem wrapM (a : Nat) : IntKind.u64.wrap (a : Int) = ((a % 18446744073709551616 : Nat) : Int) := by rw [IntKind.wrap_u64]; omega
end M64
set_option maxHeartbeats 1000000 in
theorem mul64_nat (x y : Nat) (hx : x < 18446744073709551616) (hy : y < 18446744073709551616) (w : World) :
  Calls Tryd.prog 63 #[.int .u64 x, .int .u64 y] w fun e w' => e = .returned (.tuple #[.int .u64 ((x * y / 18446744073709551616 : Nat) : Int), .int .u64 ((x * y % 18446744073709551616 : Nat) : Int)]) ∧ w' = w := by
 obtain ⟨bd, bt, bw, hhi⟩ := Lib.mul64_hi x y hx hy
 have ba := Lib.half_mul_le (a := x / 4294967296) (b := y / 4294967296) (by omega) (by omega)
 have bb := Lib.half_mul_le (a := x / 4294967296) (b := y % 4294967296) (by omega) (by omega)
 have bc := Lib.half_mul_le (a := x % 4294967296) (b := y / 4294967296) (by omega) (by omega)
 have ba' : x / 4294967296 * (y / 4294967296) < 18446744073709551616 := by omega
 have bb' : x / 4294967296 * (y % 4294967296) < 18446744073709551616 := by omega
 have bc' : x % 4294967296 * (y / 4294967296) < 18446744073709551616 := by omega
 have bh1 : x / 4294967296 * (y / 4294967296) + (x / 4294967296 * (y % 4294967296) + x % 4294967296 * (y % 4294967296) / 4294967296) / 4294967296 < 18446744073709551616 := by omega
 have bh : x / 4294967296 * (y / 4294967296) + (x / 4294967296 * (y % 4294967296) + x % 4294967296 * (y % 4294967296) / 4294967296) / 4294967296 + ((x / 4294967296 * (y % 4294967296) + x % 4294967296 * (y % 4294967296) / 4294967296) % 4294967296 + x % 4294967296 * (y / 4294967296)) / 4294967296 < 18446744073709551616 := by omega
 go_enter Tryd.func63, Tryd.ntmps63
 go_wp2
 simp only [M64.maskN x hx, M64.maskN y hy, M64.divN, M64.mulN, M64.addN, M64.wrapN _ bd, M64.wrapN _ bb', M64.wrapN _ bt, M64.maskN _ bt, M64.wrapN _ bc', M64.wrapN _ bw, M64.wrapN _ ba', M64.wrapN _ bh1, M64.wrapN _ bh, M64.wrapM (x * y)]
 rw [hhi]
 go_ret2
 exact ⟨rfl, rfl⟩
theorem mul64_any (x y : Int) (hx : Sm.Wd x) (hy : Sm.Wd y) (w : World) :
  Calls Tryd.prog 63 #[.int .u64 x, .int .u64 y] w fun e w' => e = .returned (.tuple #[.int .u64 (x * y / 18446744073709551616), .int .u64 (x * y % 18446744073709551616)]) ∧ w' = w := by
 obtain ⟨hx0, hx1⟩ := hx
 obtain ⟨hy0, hy1⟩ := hy
 obtain ⟨X, rfl⟩ := Int.eq_ofNat_of_zero_le hx0
 obtain ⟨Y, rfl⟩ := Int.eq_ofNat_of_zero_le hy0
 have := mul64_nat X Y (by omega) (by omega) w
 simp only [Int.natCast_ediv, Int.natCast_emod, Int.natCast_mul] at this
 exact this
theorem add64_run (x y c : Int) (hx : 0 ≤ x) (hy : 0 ≤ y) (hc0 : 0 ≤ c) (hc : c ≤ 1) (w : World) :
  (callFunc 64 #[.int .u64 x, .int .u64 y, .int .u64 c]).run Tryd.prog w =
   .ok (.value (.tuple #[.int .u64 ((x + y + c) % 18446744073709551616), .int .u64 ((x + y + c) / 18446744073709551616)])) w := by
 rw [run_callFunc_extern Tryd.func64 (by kernel_rfl) (by kernel_rfl) (by kernel_rfl) (e := add64Entry) (by kernel_rfl), run_add64 x y c hx hy hc0 hc]
 rfl
def sub64Entry : Array Value → Sem Value := (Extern.MathBitsCarry.rows[1]!).2
theorem run_sub64 {P : Program} (x y c : Int) (hx : Sm.Wd x) (hy : Sm.Wd y) (hc0 : 0 ≤ c) (hc : c ≤ 1) (w : World) :
  (sub64Entry #[.int .u64 x, .int .u64 y, .int .u64 c]).run P w =
   .ok (.tuple #[.int .u64 ((x - y - c) % 18446744073709551616), .int .u64 (-((x - y - c) / 18446744073709551616))]) w := by
 have key : ∀ k : Nat, k ≤ 1 → (sub64Entry #[.int .u64 x, .int .u64 y, .int .u64 (k : Int)]).run P w =
   .ok (Extern.MathBitsCarry.pair ((x.toNat + Extern.MathBitsCarry.m64 - y.toNat - k) % Extern.MathBitsCarry.m64) (if x.toNat < y.toNat + k then 1 else 0)) w := by
  intro k hk
  have : k = 0 ∨ k = 1 := by omega
  rcases this with rfl | rfl <;> rfl
 obtain ⟨k, rfl⟩ := Int.eq_ofNat_of_zero_le hc0
 rw [key k (by omega)]
 unfold Sm.Wd at *
 obtain ⟨X, rfl⟩ := Int.eq_ofNat_of_zero_le hx.1
 obtain ⟨Y, rfl⟩ := Int.eq_ofNat_of_zero_le hy.1
 simp only [Extern.MathBitsCarry.pair, Extern.MathBitsCarry.m64, Int.toNat_natCast]
 have e1 : ((((X + 2 ^ 64 - Y - k) % 2 ^ 64 : Nat)) : Int) = ((X : Int) - Y - k) % 18446744073709551616 := by omega
 have e2 : (((if X < Y + k then 1 else 0 : Nat)) : Int) = -(((X : Int) - Y - k) / 18446744073709551616) := by split <;> omega
 rw [← e1, ← e2]
 rfl
theorem sub64_run (x y c : Int) (hx : Sm.Wd x) (hy : Sm.Wd y) (hc0 : 0 ≤ c) (hc : c ≤ 1) (w : World) :
  (callFunc 65 #[.int .u64 x, .int .u64 y, .int .u64 c]).run Tryd.prog w =
   .ok (.value (.tuple #[.int .u64 ((x - y - c) % 18446744073709551616), .int .u64 (-((x - y - c) / 18446744073709551616))])) w := by
 rw [run_callFunc_extern Tryd.func65 (by kernel_rfl) (by kernel_rfl) (by kernel_rfl) (e := sub64Entry) (by kernel_rfl), run_sub64 x y c hx hy hc0 hc]
 rfl
def lt (n : Int) : Value := .tuple #[.int .u64 (Sm.lim 0 n), .int .u64 (Sm.lim 1 n), .int .u64 (Sm.lim 2 n), .int .u64 (Sm.lim 3 n)]
def Tb (w : World) : Prop :=
 w.cell? ⟨0, 0, none⟩ = some (.int .u64 6346243789798364141) ∧ w.cell? ⟨0, 1, none⟩ = some (.int .u64 1503914060200516822) ∧ w.cell? ⟨0, 2, none⟩ = some (.int .u64 0) ∧ w.cell? ⟨0, 3, none⟩ = some (.int .u64 1152921504606846976) ∧
 w.cell? ⟨0, 4, none⟩ = some (.int .u64 15486807595281847581) ∧ w.cell? ⟨0, 5, none⟩ = some (.int .u64 14334777244411350896) ∧ w.cell? ⟨0, 6, none⟩ = some (.int .u64 18446744073709551614) ∧ w.cell? ⟨0, 7, none⟩ = some (.int .u64 1152921504606846975) ∧
 w.cell? ⟨0, 8, none⟩ = some (.int .u64 11819153939886771969) ∧ w.cell? ⟨0, 9, none⟩ = some (.int .u64 14991950615390032711) ∧ w.cell? ⟨0, 10, none⟩ = some (.int .u64 14910419812499177061) ∧ w.cell? ⟨0, 11, none⟩ = some (.int .u64 259310039853996605)
theorem cell_keep {w w' : World} {b o : Nat} {v : Value} (h : w.cell? ⟨b, o, none⟩ = some v) (hb : Below w.heap.size w w') : w'.cell? ⟨b, o, none⟩ = some v :=
 (hb.cell (p := ⟨b, o, none⟩) (World.block_lt_of_cell? w ⟨b, o, none⟩ h)).trans h
theorem Tb.keep {w w' : World} (h : Tb w) (hb : Below w.heap.size w w') : Tb w' := by
 obtain ⟨h0, h1, h2, h3, h4, h5, h6, h7, h8, h9, h10, h11⟩ := h
 exact ⟨cell_keep h0 hb, cell_keep h1 hb, cell_keep h2 hb, cell_keep h3 hb, cell_keep h4 hb, cell_keep h5 hb, cell_keep h6 hb, cell_keep h7 hb, cell_keep h8 hb, cell_keep h9 hb, cell_keep h10 hb, cell_keep h11 hb⟩
set_option maxHeartbeats 1000000 in
theorem sum_any (a0 a1 a2 a3 b0 b1 b2 b3 : Int) (w : World) (h0 : Sm.Wd a0) (h1 : Sm.Wd a1) (h2 : Sm.Wd a2) (h3 : Sm.Wd a3) (g0 : Sm.Wd b0) (g1 : Sm.Wd b1) (g2 : Sm.Wd b2) (g3 : Sm.Wd b3) :
  Calls Tryd.prog 45 #[.int .u64 a0, .int .u64 a1, .int .u64 a2, .int .u64 a3, .int .u64 b0, .int .u64 b1, .int .u64 b2, .int .u64 b3] w fun e w' => e = .returned (lt (Sm.V a0 a1 a2 a3 + Sm.V b0 b1 b2 b3)) ∧ w' = w := by
 obtain ⟨m0, m1, m2, m3⟩ := Sm.sum_math a0 a1 a2 a3 b0 b1 b2 b3 _ _ _ rfl rfl rfl
 unfold Sm.Wd at *
 have A0 := add64_run a0 b0 0 (by omega) (by omega) (by omega) (by omega)
 have A1 := add64_run a1 b1 ((a0 + b0 + 0) / 18446744073709551616) (by omega) (by omega) (by omega) (by omega)
 have A2 := add64_run a2 b2 ((a1 + b1 + (a0 + b0 + 0) / 18446744073709551616) / 18446744073709551616) (by omega) (by omega) (by omega) (by omega)
 have A3 := add64_run a3 b3 ((a2 + b2 + (a1 + b1 + (a0 + b0 + 0) / 18446744073709551616) / 18446744073709551616) / 18446744073709551616) (by omega) (by omega) (by omega) (by omega)
 rw [m0] at A0
 rw [m1] at A1
 rw [m2] at A2
 rw [m3] at A3
 unfold lt
 clear m0 m1 m2 m3 h0 h1 h2 h3 g0 g1 g2 g3
 generalize Sm.V a0 a1 a2 a3 + Sm.V b0 b1 b2 b3 = n at *
 generalize (a3 + b3 + (a2 + b2 + (a1 + b1 + (a0 + b0 + 0) / 18446744073709551616) / 18446744073709551616) / 18446744073709551616) / 18446744073709551616 = c4 at *
 generalize (a2 + b2 + (a1 + b1 + (a0 + b0 + 0) / 18446744073709551616) / 18446744073709551616) / 18446744073709551616 = c3 at *
 generalize (a1 + b1 + (a0 + b0 + 0) / 18446744073709551616) / 18446744073709551616 = c2 at *
 generalize (a0 + b0 + 0) / 18446744073709551616 = c1 at *
 generalize Sm.lim 0 n = r0 at *
 generalize Sm.lim 1 n = r1 at *
 generalize Sm.lim 2 n = r2 at *
 generalize Sm.lim 3 n = r3 at *
 go_enter Tryd.func45, Tryd.ntmps45
 go_wp2_with fail
 exact bodyPost_ret (v := .tuple #[.int .u64 r0, .int .u64 r1, .int .u64 r2, .int .u64 r3]) (by simp [results, Tryd.results45, go_sem]) rfl ⟨rfl, rfl⟩
set_option maxHeartbeats 1000000 in
theorem step_any (a b c d : Int) (w : World) (ha : Sm.Wd a) (hb : Sm.Wd b) (hc : Sm.Wd c) (hd : Sm.Wd d) :
  Calls Tryd.prog 62 #[.int .u64 a, .int .u64 b, .int .u64 c, .int .u64 d] w fun e w' => e = .returned (.tuple #[.int .u64 ((a * b + c + d) / 18446744073709551616), .int .u64 ((a * b + c + d) % 18446744073709551616)]) ∧ w' = w := by
 have call := mul64_any a b ha hb
 have hq := Sm.mul_le a b ha hb
 have hs := Sm.step_lt a b c d ha hb hc hd
 generalize a * b = p at *
 obtain ⟨m1, m2⟩ := Sm.step_math p c d hq.1 hc hd hs.2
 unfold Sm.Wd at *
 have A1 := add64_run (p % 18446744073709551616) c 0 (by omega) (by omega) (by omega) (by omega)
 have A2 := add64_run (p / 18446744073709551616) 0 ((p % 18446744073709551616 + c + 0) / 18446744073709551616) (by omega) (by omega) (by omega) (by omega)
 have A3 := add64_run ((p % 18446744073709551616 + c + 0) % 18446744073709551616) d 0 (by omega) (by omega) (by omega) (by omega)
 have A4 := add64_run ((p / 18446744073709551616 + 0 + (p % 18446744073709551616 + c + 0) / 18446744073709551616) % 18446744073709551616) 0 (((p % 18446744073709551616 + c + 0) % 18446744073709551616 + d + 0) / 18446744073709551616) (by omega) (by omega) (by omega) (by omega)
 rw [m1] at A3
 rw [m2] at A4
 clear m1 m2 hq hs ha hb hc hd
 generalize (p + c + d) / 18446744073709551616 = hi at *
 generalize (p + c + d) % 18446744073709551616 = lo at *
 generalize (p / 18446744073709551616 + 0 + (p % 18446744073709551616 + c + 0) / 18446744073709551616) % 18446744073709551616 = x1 at *
 generalize ((p % 18446744073709551616 + c + 0) % 18446744073709551616 + d + 0) / 18446744073709551616 = x2 at *
 generalize (p % 18446744073709551616 + c + 0) % 18446744073709551616 = x3 at *
 generalize (p % 18446744073709551616 + c + 0) / 18446744073709551616 = x4 at *
 generalize p / 18446744073709551616 = x5 at *
 generalize p % 18446744073709551616 = x6 at *
 have CALL := hidden call
 clear call
 go_enter Tryd.func62, Tryd.ntmps62
 go_wp2_with fail
 refine (CALL.out _).mono ?_
 rintro e w' ⟨rfl, rfl⟩
 clear CALL
 go_wp2_with fail
 exact bodyPost_ret (v := .tuple #[.int .u64 hi, .int .u64 lo]) (by simp [results, Tryd.results62, go_sem]) rfl ⟨rfl, rfl⟩
end Go.Proofs.YtimjfndaleccaaaDoor
