import Derived.Test.YtbbnjmjeeiglcaaGreatDoorRows
import Derived.WalkKit
import Derived.ProofKit
import Derived.OpenShut
import Derived.Test.YtbbnjmjeeiglcaaGreatDoorProg
import Derived.WalkSpells
import Derived.WalkLawsBesides
import Derived.Laws.BitsAllLaws
import Derived.Lib.Mul64
import Derived.Laws.Bits64b
import Derived.Laws.Externs
import Derived.Deep.RegionHeld3
import Derived.Deep.DeepCutAuto
import Derived.Deep.DeepMust
import Derived.Deep.MidRow
import Derived.Deep.RegionLaw
import Derived.Laws.AppendOwn
import Derived.OwnWalk
import Derived.Deep.OwnRows
import Derived.Laws.OwnMore
import Derived.Laws.AppendOwnNone
import Derived.Maps.AppendAt
import Derived.Laws.Tables
import Derived.Laws.Small
import Derived.Laws.Cover1
set_option maxRecDepth 100000
set_option maxHeartbeats 32000000
set_option linter.unusedVariables false
set_option linter.unusedSimpArgs false
namespace Go.Proofs.YtbbnjmjeeiglcaaGreatDoor
open Go.ChangeShapes Go.WideShapes Go.ChangeAt Go.RowKit
theorem mapM_range {β : Type} (f : Nat → Option β) : ∀ (n : Nat) (ys : List β), ys.length = n → (∀ i, i < n → f i = ys[i]?) → (List.range n).mapM f = some ys
 | 0, ys, h, _ => by rw [List.length_eq_zero_iff.1 h]; rfl
 | n + 1, ys, h, hf => by
  have e : ys.take (n + 1) = ys.take n ++ [ys[n]] := List.take_succ_eq_append_getElem (by omega)
  rw [List.take_of_length_le (by omega)] at e
  have ih := mapM_range f n (ys.take n) (by simp; omega) (fun i hi => by rw [hf i (by omega)]; simp [hi])
  have hl := hf n (by omega)
  rw [List.getElem?_eq_getElem (by omega)] at hl
  rw [List.range_succ, List.mapM_append, ih]
  simp only [List.mapM_cons, List.mapM_nil, hl, Option.pure_def, Option.bind_eq_bind, Option.bind_some]
  rw [← e]
section
variable {H : Type} {enc : TypeId × Value → H} {P : Program} {w : World} {base : Nat} {sp : Nat → Bool} {held : Bool} {t e : TypeId} {n : Nat} {k : IntKind}
theorem open_arr {r : Reach} {b0 : Nat} {v : Value} {d : DataW H} {p : List MemPlace} (ht : P.underlying t = some (.array n e)) (he : P.underlying e = some (.int k)) (hce : P.cellsOf e = 1) (hct : P.cellsOf t = n)
  (hv : Value.okWide P w r b0 t v) (h : DataW.Trod enc P w base sp held t v d p) :
  ∃ zs : List Int, zs.length = n ∧ v = .agg (zs.map fun z => Value.int k z).toArray ∧ d = .agg (zs.map fun z => .lit (.int k z)) ∧ p = [] ∧ ∀ z ∈ zs, (Lit.int k z).wf = true := by
 simp only [Value.okWide, ht] at hv
 obtain ⟨cs, rfl, hsz, _⟩ := hv
 obtain ⟨fuel, hf⟩ := h
 obtain ⟨xs, m, _, hx, hl, hxl, hi⟩ := DataW.trod_array ht hf
 have key : ∀ i, i < n → ∃ z : Int, cs[i]? = some (.int k z) ∧ xs[i]? = some (.lit (.int k z), []) ∧ (Lit.int k z).wf = true := by
  intro i hin
  have h1 := hi i hin
  obtain ⟨y, hy⟩ : ∃ y, xs[i]? = some y := ⟨xs[i]'(by omega), by simp [hxl, hin]⟩
  rw [hy, hce, Nat.mul_one] at h1
  obtain ⟨z, hc, rfl, hw⟩ := DataW.trod_int he h1
  refine ⟨z, ?_, hy, hw⟩
  have := congrArg (·[0]?) hc
  simpa [List.getElem?_take, List.getElem?_drop, Value.cells] using this
 have hsn : cs.size = n := by rw [hsz, hct]
 refine ⟨cs.toList.map intOf, by simp [hsn], ?_, ?_, ?_, ?_⟩
 ·congr 1
  apply Array.ext_getElem?
  intro i
  by_cases hin : i < n
  ·obtain ⟨z, h1, _, _⟩ := key i hin
   simp [h1, intOf]
  ·rw [Array.getElem?_eq_none (by omega), Array.getElem?_eq_none (by simp; omega)]
 ·simp only [Prod.mk.injEq] at hx
  rw [hx.1]
  congr 1
  apply List.ext_getElem?
  intro i
  by_cases hin : i < n
  ·obtain ⟨z, h1, h2, _⟩ := key i hin
   simp [h1, h2, intOf]
  ·rw [List.getElem?_eq_none (by simp; omega), List.getElem?_eq_none (by simp; omega)]
 ·simp only [Prod.mk.injEq] at hx
  rw [hx.2]
  apply List.flatMap_eq_nil_iff.2
  intro y hy
  obtain ⟨i, hin, hiy⟩ := List.getElem_of_mem hy
  obtain ⟨z, _, h2, _⟩ := key i (by omega)
  rw [List.getElem?_eq_getElem hin, hiy] at h2
  simp at h2
  rw [h2]
 ·intro z hz
  obtain ⟨x, hx1, hx2⟩ := List.mem_map.1 hz
  obtain ⟨i, hin, hiy⟩ := List.getElem_of_mem hx1
  obtain ⟨z', h1, _, h3⟩ := key i (by simp at hin; omega)
  have : x = .int k z' := by
   have h4 : cs.toList[i]? = some x := by rw [List.getElem?_eq_getElem hin, hiy]
   simp at h4
   rw [h1] at h4
   simpa using h4.symm
  rw [← hx2, this]
  exact h3
theorem shut_arr (ht : P.underlying t = some (.array n e)) (he : P.underlying e = some (.int k)) (hce : P.cellsOf e = 1) (hct : P.cellsOf t = n) (zs : List Int) (hn : zs.length = n) (hw : ∀ z ∈ zs, (Lit.int k z).wf = true) :
  DataW.Trod enc P w base sp held t (.agg (zs.map fun z => Value.int k z).toArray) (.agg (zs.map fun z => .lit (.int k z))) [] := by
 refine ⟨2, ?_⟩
 unfold DataW.trod
 simp only [ht, hce, Nat.mul_one, Value.cells, List.length_map, hct]
 rw [if_pos (by simpa using hn)]
 have hr := mapM_range (fun i => DataW.trod enc P w base sp held 1 e (((zs.map fun z => Value.int k z).drop i).take 1)) n (zs.map fun z => ((.lit (.int k z) : DataW H), ([] : List MemPlace))) (by simpa using hn) (by
  intro i hi
  rw [← hn] at hi
  have hz : ((zs.map fun z => Value.int k z).drop i).take 1 = [.int k zs[i]] := by
   apply List.ext_getElem?
   intro j
   cases j with
   | zero => simp [List.getElem?_drop, hi]
   | succ j => simp [List.getElem?_take]
  rw [hz]
  simp [DataW.trod, he, hw _ (List.getElem_mem hi), hi])
 rw [hr]
 simp [List.flatMap_map]
end
end Go.Proofs.YtbbnjmjeeiglcaaGreatDoor
namespace Go.Proofs.YtbbnjmjeeiglcaaGreatDoor.Sm
def V (a0 a1 a2 a3 : Int) : Int := a0 + 18446744073709551616 * a1 + 340282366920938463463374607431768211456 * a2 + 6277101735386680763835789423207666416102355444464034512896 * a3
def L : Int := 7237005577332262213973186563042994240857116359379907606001950938285454250989
def Wd (x : Int) : Prop := 0 ≤ x ∧ x < 18446744073709551616
def lim (i : Nat) (n : Int) : Int := match i with
 | 0 => n % 18446744073709551616
 | 1 => n / 18446744073709551616 % 18446744073709551616
 | 2 => n / 340282366920938463463374607431768211456 % 18446744073709551616
 | _ => n / 6277101735386680763835789423207666416102355444464034512896 % 18446744073709551616
theorem lim_wd (i : Nat) (n : Int) : Wd (lim i n) := by
 unfold lim Wd; split <;> omega
theorem lim_of (n d0 d1 d2 d3 k : Int) (h0 : Wd d0) (h1 : Wd d1) (h2 : Wd d2) (h3 : Wd d3) (hn : V d0 d1 d2 d3 + 115792089237316195423570985008687907853269984665640564039457584007913129639936 * k = n) :
  d0 = lim 0 n ∧ d1 = lim 1 n ∧ d2 = lim 2 n ∧ d3 = lim 3 n := by
 unfold V at hn; unfold Wd at *
 simp only [lim]
 have e0 : n / 18446744073709551616 = d1 + 18446744073709551616 * d2 + 340282366920938463463374607431768211456 * d3 + 6277101735386680763835789423207666416102355444464034512896 * k := by omega
 have e1 : n / 340282366920938463463374607431768211456 = d2 + 18446744073709551616 * d3 + 340282366920938463463374607431768211456 * k := by omega
 have e2 : n / 6277101735386680763835789423207666416102355444464034512896 = d3 + 18446744073709551616 * k := by omega
 rw [e0, e1, e2]
 refine ⟨by omega, by omega, by omega, by omega⟩
theorem V_bd (a0 a1 a2 a3 : Int) (h0 : Wd a0) (h1 : Wd a1) (h2 : Wd a2) (h3 : Wd a3) : 0 ≤ V a0 a1 a2 a3 ∧ V a0 a1 a2 a3 < 115792089237316195423570985008687907853269984665640564039457584007913129639936 := by
 unfold V; unfold Wd at *; omega
theorem V_lim (n : Int) (h0 : 0 ≤ n) (h1 : n < 115792089237316195423570985008687907853269984665640564039457584007913129639936) : V (lim 0 n) (lim 1 n) (lim 2 n) (lim 3 n) = n := by
 unfold V; simp only [lim]
 have f1 : n / 340282366920938463463374607431768211456 = n / 18446744073709551616 / 18446744073709551616 := by omega
 have f2 : n / 6277101735386680763835789423207666416102355444464034512896 = n / 340282366920938463463374607431768211456 / 18446744073709551616 := by omega
 generalize hx1 : n / 18446744073709551616 = x1 at *
 generalize hx2 : n / 340282366920938463463374607431768211456 = x2 at *
 generalize hx3 : n / 6277101735386680763835789423207666416102355444464034512896 = x3 at *
 omega
theorem V_inj {a0 a1 a2 a3 n : Int} (h0 : Wd a0) (h1 : Wd a1) (h2 : Wd a2) (h3 : Wd a3) (hn : V a0 a1 a2 a3 = n) :
  a0 = lim 0 n ∧ a1 = lim 1 n ∧ a2 = lim 2 n ∧ a3 = lim 3 n := lim_of n a0 a1 a2 a3 0 h0 h1 h2 h3 (by omega)
theorem sum_math (a0 a1 a2 a3 b0 b1 b2 b3 c1 c2 c3 : Int)
  (e1 : c1 = (a0 + b0 + 0) / 18446744073709551616) (e2 : c2 = (a1 + b1 + c1) / 18446744073709551616) (e3 : c3 = (a2 + b2 + c2) / 18446744073709551616) :
  (a0 + b0 + 0) % 18446744073709551616 = lim 0 (V a0 a1 a2 a3 + V b0 b1 b2 b3) ∧ (a1 + b1 + c1) % 18446744073709551616 = lim 1 (V a0 a1 a2 a3 + V b0 b1 b2 b3) ∧ (a2 + b2 + c2) % 18446744073709551616 = lim 2 (V a0 a1 a2 a3 + V b0 b1 b2 b3) ∧ (a3 + b3 + c3) % 18446744073709551616 = lim 3 (V a0 a1 a2 a3 + V b0 b1 b2 b3) := by
 refine lim_of _ _ _ _ _ ((a3 + b3 + c3) / 18446744073709551616) ?_ ?_ ?_ ?_ ?_
 ·unfold Wd; omega
 ·unfold Wd; omega
 ·unfold Wd; omega
 ·unfold Wd; omega
 ·unfold V; omega
theorem sub_math (a0 a1 a2 a3 b0 b1 b2 b3 c1 c2 c3 : Int)
  (e1 : c1 = -((a0 - b0 - 0) / 18446744073709551616)) (e2 : c2 = -((a1 - b1 - c1) / 18446744073709551616)) (e3 : c3 = -((a2 - b2 - c2) / 18446744073709551616)) :
  ((a0 - b0 - 0) % 18446744073709551616 = lim 0 (V a0 a1 a2 a3 - V b0 b1 b2 b3) ∧ (a1 - b1 - c1) % 18446744073709551616 = lim 1 (V a0 a1 a2 a3 - V b0 b1 b2 b3) ∧ (a2 - b2 - c2) % 18446744073709551616 = lim 2 (V a0 a1 a2 a3 - V b0 b1 b2 b3) ∧ (a3 - b3 - c3) % 18446744073709551616 = lim 3 (V a0 a1 a2 a3 - V b0 b1 b2 b3)) ∧ -((a3 - b3 - c3) / 18446744073709551616) = -((V a0 a1 a2 a3 - V b0 b1 b2 b3) / 115792089237316195423570985008687907853269984665640564039457584007913129639936) := by
 constructor
 ·refine lim_of _ _ _ _ _ ((a3 - b3 - c3) / 18446744073709551616) ?_ ?_ ?_ ?_ ?_
  ·unfold Wd; omega
  ·unfold Wd; omega
  ·unfold Wd; omega
  ·unfold Wd; omega
  ·unfold V; omega
 ·unfold V; omega
theorem borrow (x y c : Int) (hx : Wd x) (hy : Wd y) (h0 : 0 ≤ c) (h1 : c ≤ 1) : 0 ≤ -((x - y - c) / 18446744073709551616) ∧ -((x - y - c) / 18446744073709551616) ≤ 1 := by
 unfold Wd at *; omega
theorem least_math (a0 a1 a2 a3 : Int) (h0 : Wd a0) (h1 : Wd a1) (h2 : Wd a2) (h3 : Wd a3) (q : Int) (hq : q = a3 / 1152921504606846976 - (a3 / 1152921504606846976 + 15) / 16) :
  0 ≤ q ∧ q ≤ 14 ∧ 0 ≤ V a0 a1 a2 a3 - q * L ∧ V a0 a1 a2 a3 - q * L < 2 * L := by
 unfold Wd at *
 have hd : 0 ≤ a3 / 1152921504606846976 ∧ a3 / 1152921504606846976 ≤ 15 := by omega
 have hV : a3 / 1152921504606846976 * 7237005577332262213973186563042994240829374041602535252466099000494570602496 ≤ V a0 a1 a2 a3 ∧ V a0 a1 a2 a3 < (a3 / 1152921504606846976 + 1) * 7237005577332262213973186563042994240829374041602535252466099000494570602496 := by unfold V; omega
 generalize V a0 a1 a2 a3 = n at *
 generalize a3 / 1152921504606846976 = d at *
 unfold L
 omega
theorem times_math (q : Int) (h0 : 0 ≤ q) (h1 : q ≤ 14) (x c : Int)
  (hx : x = q * 1503914060200516822 % 18446744073709551616 + q * 6346243789798364141 / 18446744073709551616 + 0) (hc : c = x / 18446744073709551616) :
  q * L = V (q * 6346243789798364141 % 18446744073709551616) (x % 18446744073709551616) (q * 1503914060200516822 / 18446744073709551616 + c) (q * 1152921504606846976) ∧ Wd (q * 6346243789798364141 % 18446744073709551616) ∧ Wd (x % 18446744073709551616) ∧ Wd (q * 1503914060200516822 / 18446744073709551616 + c) ∧ Wd (q * 1152921504606846976) := by
 unfold L V Wd
 omega
theorem step_math (p c d : Int) (hp : 0 ≤ p) (hc : Wd c) (hd : Wd d) (hs : p + c + d < 340282366920938463463374607431768211456) :
  ((p % 18446744073709551616 + c + 0) % 18446744073709551616 + d + 0) % 18446744073709551616 = (p + c + d) % 18446744073709551616 ∧ ((p / 18446744073709551616 + 0 + (p % 18446744073709551616 + c + 0) / 18446744073709551616) % 18446744073709551616 + 0 + ((p % 18446744073709551616 + c + 0) % 18446744073709551616 + d + 0) / 18446744073709551616) % 18446744073709551616 = (p + c + d) / 18446744073709551616 := by
 unfold Wd at *
 omega
theorem mul_le (a b : Int) (ha : Wd a) (hb : Wd b) : 0 ≤ a * b ∧ a * b ≤ 340282366920938463426481119284349108225 := by
 unfold Wd at *
 refine ⟨Int.mul_nonneg ha.1 hb.1, ?_⟩
 have := Int.mul_le_mul (show a ≤ 18446744073709551616 - 1 by omega) (show b ≤ 18446744073709551616 - 1 by omega) hb.1 (by omega)
 omega
theorem step_lt (a b c d : Int) (ha : Wd a) (hb : Wd b) (hc : Wd c) (hd : Wd d) : 0 ≤ a * b + c + d ∧ a * b + c + d < 340282366920938463463374607431768211456 := by
 have := mul_le a b ha hb
 unfold Wd at *
 omega
theorem round_math (x b0 b1 b2 b3 t0 t1 t2 t3 : Int) (hx : Wd x) (hb0 : Wd b0) (hb1 : Wd b1) (hb2 : Wd b2) (hb3 : Wd b3) (ht0 : Wd t0) (ht1 : Wd t1) (ht2 : Wd t2) (ht3 : Wd t3)
  (hB : V b0 b1 b2 b3 < L) (hT : V t0 t1 t2 t3 < 2 * L)
  (p0 p1 p2 p3 m q0 q1 q2 q3 : Int)
  (e0 : p0 = x * b0 + t0 + 0) (e1 : p1 = x * b1 + t1 + p0 / 18446744073709551616) (e2 : p2 = x * b2 + t2 + p1 / 18446744073709551616) (e3 : p3 = x * b3 + t3 + p2 / 18446744073709551616)
  (em : m = p0 % 18446744073709551616 * 15183074304973897243 % 18446744073709551616)
  (f0 : q0 = m * 6346243789798364141 + p0 % 18446744073709551616 + 0) (f1 : q1 = m * 1503914060200516822 + p1 % 18446744073709551616 + q0 / 18446744073709551616) (f2 : q2 = m * 0 + p2 % 18446744073709551616 + q1 / 18446744073709551616) (f3 : q3 = m * 1152921504606846976 + p3 % 18446744073709551616 + q2 / 18446744073709551616) :
  (Wd m ∧ Wd (q1 % 18446744073709551616) ∧ Wd (q2 % 18446744073709551616) ∧ Wd (q3 % 18446744073709551616) ∧ Wd (p3 / 18446744073709551616 + q3 / 18446744073709551616)) ∧ 18446744073709551616 * V (q1 % 18446744073709551616) (q2 % 18446744073709551616) (q3 % 18446744073709551616) (p3 / 18446744073709551616 + q3 / 18446744073709551616) = V t0 t1 t2 t3 + x * V b0 b1 b2 b3 + m * L := by
 have hm : Wd m := by unfold Wd; omega
 have z : q0 % 18446744073709551616 = 0 := by
  have k : q0 = p0 % 18446744073709551616 * (15183074304973897243 * 6346243789798364141 + 1) - 18446744073709551616 * (p0 % 18446744073709551616 * 15183074304973897243 / 18446744073709551616 * 6346243789798364141) := by
   rw [f0, em]
   have h1 := Int.emod_add_mul_ediv (p0 % 18446744073709551616 * 15183074304973897243) 18446744073709551616
   generalize p0 % 18446744073709551616 * 15183074304973897243 / 18446744073709551616 = u at *
   generalize p0 % 18446744073709551616 * 15183074304973897243 % 18446744073709551616 = v at *
   omega
  rw [k]
  generalize p0 % 18446744073709551616 * 15183074304973897243 / 18446744073709551616 * 6346243789798364141 = u
  omega
 have hsum : 18446744073709551616 * V (q1 % 18446744073709551616) (q2 % 18446744073709551616) (q3 % 18446744073709551616) (p3 / 18446744073709551616 + q3 / 18446744073709551616) = V t0 t1 t2 t3 + x * V b0 b1 b2 b3 + m * L := by
  have d : x * V b0 b1 b2 b3 = x * b0 + 18446744073709551616 * (x * b1) + 340282366920938463463374607431768211456 * (x * b2) + 6277101735386680763835789423207666416102355444464034512896 * (x * b3) := by unfold V; grind
  rw [d]
  unfold V L
  generalize x * b0 = y0 at *
  generalize x * b1 = y1 at *
  generalize x * b2 = y2 at *
  generalize x * b3 = y3 at *
  omega
 refine ⟨⟨hm, ?_, ?_, ?_, ?_⟩, hsum⟩
 ·unfold Wd; omega
 ·unfold Wd; omega
 ·unfold Wd; omega
 ·have hxB : x * V b0 b1 b2 b3 ≤ (18446744073709551616 - 1) * (L - 1) := by
   have hV0 := (V_bd b0 b1 b2 b3 hb0 hb1 hb2 hb3).1
   unfold Wd at hx
   exact Int.mul_le_mul (by omega) (by omega) hV0 (by omega)
  have hxB0 : 0 ≤ x * V b0 b1 b2 b3 := Int.mul_nonneg hx.1 (V_bd b0 b1 b2 b3 hb0 hb1 hb2 hb3).1
  have hT0 := (V_bd t0 t1 t2 t3 ht0 ht1 ht2 ht3).1
  have hq3 : 0 ≤ p3 / 18446744073709551616 + q3 / 18446744073709551616 := by
   have g0 := mul_le x b0 hx hb0
   have g1 := mul_le x b1 hx hb1
   have g2 := mul_le x b2 hx hb2
   have g3 := mul_le x b3 hx hb3
   unfold Wd at *
   generalize x * b0 = y0 at *
   generalize x * b1 = y1 at *
   generalize x * b2 = y2 at *
   generalize x * b3 = y3 at *
   omega
  generalize x * V b0 b1 b2 b3 = X at *
  generalize V t0 t1 t2 t3 = T at *
  unfold V L at *
  unfold Wd at *
  omega
end Go.Proofs.YtbbnjmjeeiglcaaGreatDoor.Sm
namespace Go.Proofs.YtbbnjmjeeiglcaaGreatDoor
open Go.RowKit
theorem tk {P : Program} {md : Region.Mode} {ops : Array Oper} {Q : Exit → Act → World → Prop} {S : World → Prop} {fuel : Nat} {listed : Array Bool} {a : Act} {w : World} (i : Nat) (oi : Oper) (v : Value) (hi : ops[i]? = some oi) (hk : (Region.noSelect ops && Region.free md ops listed i && (Region.ready md ops listed).contains i) = true)
    (hS : S w) (hg : Region.wanted oi (yielded ops a.tmps) = true) (hy : ∀ w, S w → (execOp a.eval oi).run P w = .ok (.value v) w) (h : wpAnyH P md ops (NoPanic Q) S fuel (listed.setIfInBounds i true) (a.put oi.dst v) w) : wpAnyH P md ops (NoPanic Q) S (fuel + 1) listed a w := by
  simp only [Bool.and_eq_true] at hk
  exact wpAnyH_take hi hk.1.1 hk.1.2 hk.2 (fun _ _ _ h => h) (Or.inl ⟨hg, hy⟩) hS h
theorem sA {α : Type} (l : List α) (i : Nat) (a : α) : l.toArray.setIfInBounds i a = (l.set i a).toArray := List.setIfInBounds_toArray ..
theorem sB {α : Type} (a b : α) (l : List α) : (a :: l).set 0 b = b :: l := rfl
theorem sC {α : Type} (a b : α) (l : List α) (n : Nat) : (a :: l).set (n + 1) b = a :: l.set n b := rfl
theorem hidden {p : Prop} (h : p) : Hid p := h
namespace M64
theorem maskN (a : Nat) (ha : a < 18446744073709551616) : bits .and .u64 (a : Int) 4294967295 = ((a % 4294967296 : Nat) : Int) := by
 have h := bits_and_u64_nat a 4294967295 ha (by omega)
 have e : a &&& 4294967295 = a % 4294967296 := Nat.and_two_pow_sub_one_eq_mod a 32
 rw [e] at h
 exact h
theorem divN (a : Nat) : (a : Int) / 4294967296 = ((a / 4294967296 : Nat) : Int) := by omega
theorem mulN (a b : Nat) : (a : Int) * (b : Int) = ((a * b : Nat) : Int) := (Int.natCast_mul a b).symm
theorem addN (a b : Nat) : (a : Int) + (b : Int) = ((a + b : Nat) : Int) := (Int.natCast_add a b).symm
theorem wrapN (a : Nat) (ha : a < 18446744073709551616) : IntKind.u64.wrap (a : Int) = (a : Int) := by rw [IntKind.wrap_u64]; omega
theorem wrapM (a : Nat) : IntKind.u64.wrap (a : Int) = ((a % 18446744073709551616 : Nat) : Int) := by rw [IntKind.wrap_u64]; omega
end M64
theorem mul64_nat (x y : Nat) (hx : x < 18446744073709551616) (hy : y < 18446744073709551616) (w : World) :
  Calls Tryz.prog 51 #[.int .u64 x, .int .u64 y] w fun e w' => e = .returned (.tuple #[.int .u64 ((x * y / 18446744073709551616 : Nat) : Int), .int .u64 ((x * y % 18446744073709551616 : Nat) : Int)]) ∧ w' = w := by
 obtain ⟨bd, bt, bw, hhi⟩ := Lib.mul64_hi x y hx hy
 have ba := Lib.half_mul_le (a := x / 4294967296) (b := y / 4294967296) (by omega) (by omega)
 have bb := Lib.half_mul_le (a := x / 4294967296) (b := y % 4294967296) (by omega) (by omega)
 have bc := Lib.half_mul_le (a := x % 4294967296) (b := y / 4294967296) (by omega) (by omega)
 have ba' : x / 4294967296 * (y / 4294967296) < 18446744073709551616 := by omega
 have bb' : x / 4294967296 * (y % 4294967296) < 18446744073709551616 := by omega
 have bc' : x % 4294967296 * (y / 4294967296) < 18446744073709551616 := by omega
 have bh1 : x / 4294967296 * (y / 4294967296) + (x / 4294967296 * (y % 4294967296) + x % 4294967296 * (y % 4294967296) / 4294967296) / 4294967296 < 18446744073709551616 := by omega
 have bh : x / 4294967296 * (y / 4294967296) + (x / 4294967296 * (y % 4294967296) + x % 4294967296 * (y % 4294967296) / 4294967296) / 4294967296 + ((x / 4294967296 * (y % 4294967296) + x % 4294967296 * (y % 4294967296) / 4294967296) % 4294967296 + x % 4294967296 * (y / 4294967296)) / 4294967296 < 18446744073709551616 := by omega
 go_enter Tryz.func51, Tryz.ntmps51
 go_wp2
 simp only [M64.maskN x hx, M64.maskN y hy, M64.divN, M64.mulN, M64.addN, M64.wrapN _ bd, M64.wrapN _ bb', M64.wrapN _ bt, M64.maskN _ bt, M64.wrapN _ bc', M64.wrapN _ bw, M64.wrapN _ ba', M64.wrapN _ bh1, M64.wrapN _ bh, M64.wrapM (x * y)]
 rw [hhi]
 go_ret2
 exact ⟨rfl, rfl⟩
theorem mul64_any (x y : Int) (hx : Sm.Wd x) (hy : Sm.Wd y) (w : World) :
  Calls Tryz.prog 51 #[.int .u64 x, .int .u64 y] w fun e w' => e = .returned (.tuple #[.int .u64 (x * y / 18446744073709551616), .int .u64 (x * y % 18446744073709551616)]) ∧ w' = w := by
 obtain ⟨hx0, hx1⟩ := hx
 obtain ⟨hy0, hy1⟩ := hy
 obtain ⟨X, rfl⟩ := Int.eq_ofNat_of_zero_le hx0
 obtain ⟨Y, rfl⟩ := Int.eq_ofNat_of_zero_le hy0
 have := mul64_nat X Y (by omega) (by omega) w
 simp only [Int.natCast_ediv, Int.natCast_emod, Int.natCast_mul] at this
 exact this
theorem add64_run (x y c : Int) (hx : 0 ≤ x) (hy : 0 ≤ y) (hc0 : 0 ≤ c) (hc : c ≤ 1) (w : World) :
  (callFunc 52 #[.int .u64 x, .int .u64 y, .int .u64 c]).run Tryz.prog w =
   .ok (.value (.tuple #[.int .u64 ((x + y + c) % 18446744073709551616), .int .u64 ((x + y + c) / 18446744073709551616)])) w := by
 rw [run_callFunc_extern Tryz.func52 (by kernel_rfl) (by kernel_rfl) (by kernel_rfl) (e := add64Entry) (by kernel_rfl), run_add64 x y c hx hy hc0 hc]
 rfl
def sub64Entry : Array Value → Sem Value := (Extern.MathBitsCarry.rows[1]!).2
theorem run_sub64 {P : Program} (x y c : Int) (hx : Sm.Wd x) (hy : Sm.Wd y) (hc0 : 0 ≤ c) (hc : c ≤ 1) (w : World) :
  (sub64Entry #[.int .u64 x, .int .u64 y, .int .u64 c]).run P w =
   .ok (.tuple #[.int .u64 ((x - y - c) % 18446744073709551616), .int .u64 (-((x - y - c) / 18446744073709551616))]) w := by
 have key : ∀ k : Nat, k ≤ 1 → (sub64Entry #[.int .u64 x, .int .u64 y, .int .u64 (k : Int)]).run P w =
   .ok (Extern.MathBitsCarry.pair ((x.toNat + Extern.MathBitsCarry.m64 - y.toNat - k) % Extern.MathBitsCarry.m64) (if x.toNat < y.toNat + k then 1 else 0)) w := by
  intro k hk
  have : k = 0 ∨ k = 1 := by omega
  rcases this with rfl | rfl <;> rfl
 obtain ⟨k, rfl⟩ := Int.eq_ofNat_of_zero_le hc0
 rw [key k (by omega)]
 unfold Sm.Wd at *
 obtain ⟨X, rfl⟩ := Int.eq_ofNat_of_zero_le hx.1
 obtain ⟨Y, rfl⟩ := Int.eq_ofNat_of_zero_le hy.1
 simp only [Extern.MathBitsCarry.pair, Extern.MathBitsCarry.m64, Int.toNat_natCast]
 have e1 : ((((X + 2 ^ 64 - Y - k) % 2 ^ 64 : Nat)) : Int) = ((X : Int) - Y - k) % 18446744073709551616 := by omega
 have e2 : (((if X < Y + k then 1 else 0 : Nat)) : Int) = -(((X : Int) - Y - k) / 18446744073709551616) := by split <;> omega
 rw [← e1, ← e2]
 rfl
theorem sub64_run (x y c : Int) (hx : Sm.Wd x) (hy : Sm.Wd y) (hc0 : 0 ≤ c) (hc : c ≤ 1) (w : World) :
  (callFunc 40 #[.int .u64 x, .int .u64 y, .int .u64 c]).run Tryz.prog w =
   .ok (.value (.tuple #[.int .u64 ((x - y - c) % 18446744073709551616), .int .u64 (-((x - y - c) / 18446744073709551616))])) w := by
 rw [run_callFunc_extern Tryz.func40 (by kernel_rfl) (by kernel_rfl) (by kernel_rfl) (e := sub64Entry) (by kernel_rfl), run_sub64 x y c hx hy hc0 hc]
 rfl
def lt (n : Int) : Value := .tuple #[.int .u64 (Sm.lim 0 n), .int .u64 (Sm.lim 1 n), .int .u64 (Sm.lim 2 n), .int .u64 (Sm.lim 3 n)]
def Tb (w : World) : Prop :=
 w.cell? ⟨0, 0, none⟩ = some (.int .u64 6346243789798364141) ∧ w.cell? ⟨0, 1, none⟩ = some (.int .u64 1503914060200516822) ∧ w.cell? ⟨0, 2, none⟩ = some (.int .u64 0) ∧ w.cell? ⟨0, 3, none⟩ = some (.int .u64 1152921504606846976) ∧
 w.cell? ⟨0, 4, none⟩ = some (.int .u64 15486807595281847581) ∧ w.cell? ⟨0, 5, none⟩ = some (.int .u64 14334777244411350896) ∧ w.cell? ⟨0, 6, none⟩ = some (.int .u64 18446744073709551614) ∧ w.cell? ⟨0, 7, none⟩ = some (.int .u64 1152921504606846975) ∧
 w.cell? ⟨0, 8, none⟩ = some (.int .u64 11819153939886771969) ∧ w.cell? ⟨0, 9, none⟩ = some (.int .u64 14991950615390032711) ∧ w.cell? ⟨0, 10, none⟩ = some (.int .u64 14910419812499177061) ∧ w.cell? ⟨0, 11, none⟩ = some (.int .u64 259310039853996605)
theorem cell_keep {w w' : World} {b o : Nat} {v : Value} (h : w.cell? ⟨b, o, none⟩ = some v) (hb : Below w.heap.size w w') : w'.cell? ⟨b, o, none⟩ = some v :=
 (hb.cell (p := ⟨b, o, none⟩) (World.block_lt_of_cell? w ⟨b, o, none⟩ h)).trans h
theorem Tb.keep {w w' : World} (h : Tb w) (hb : Below w.heap.size w w') : Tb w' := by
 obtain ⟨h0, h1, h2, h3, h4, h5, h6, h7, h8, h9, h10, h11⟩ := h
 exact ⟨cell_keep h0 hb, cell_keep h1 hb, cell_keep h2 hb, cell_keep h3 hb, cell_keep h4 hb, cell_keep h5 hb, cell_keep h6 hb, cell_keep h7 hb, cell_keep h8 hb, cell_keep h9 hb, cell_keep h10 hb, cell_keep h11 hb⟩
theorem sum_any (a0 a1 a2 a3 b0 b1 b2 b3 : Int) (w : World) (h0 : Sm.Wd a0) (h1 : Sm.Wd a1) (h2 : Sm.Wd a2) (h3 : Sm.Wd a3) (g0 : Sm.Wd b0) (g1 : Sm.Wd b1) (g2 : Sm.Wd b2) (g3 : Sm.Wd b3) :
  Calls Tryz.prog 37 #[.int .u64 a0, .int .u64 a1, .int .u64 a2, .int .u64 a3, .int .u64 b0, .int .u64 b1, .int .u64 b2, .int .u64 b3] w fun e w' => e = .returned (lt (Sm.V a0 a1 a2 a3 + Sm.V b0 b1 b2 b3)) ∧ w' = w := by
 obtain ⟨m0, m1, m2, m3⟩ := Sm.sum_math a0 a1 a2 a3 b0 b1 b2 b3 _ _ _ rfl rfl rfl
 unfold Sm.Wd at *
 have A0 := add64_run a0 b0 0 (by omega) (by omega) (by omega) (by omega)
 have A1 := add64_run a1 b1 ((a0 + b0 + 0) / 18446744073709551616) (by omega) (by omega) (by omega) (by omega)
 have A2 := add64_run a2 b2 ((a1 + b1 + (a0 + b0 + 0) / 18446744073709551616) / 18446744073709551616) (by omega) (by omega) (by omega) (by omega)
 have A3 := add64_run a3 b3 ((a2 + b2 + (a1 + b1 + (a0 + b0 + 0) / 18446744073709551616) / 18446744073709551616) / 18446744073709551616) (by omega) (by omega) (by omega) (by omega)
 rw [m0] at A0
 rw [m1] at A1
 rw [m2] at A2
 rw [m3] at A3
 unfold lt
 clear m0 m1 m2 m3 h0 h1 h2 h3 g0 g1 g2 g3
 generalize Sm.V a0 a1 a2 a3 + Sm.V b0 b1 b2 b3 = n at *
 generalize (a3 + b3 + (a2 + b2 + (a1 + b1 + (a0 + b0 + 0) / 18446744073709551616) / 18446744073709551616) / 18446744073709551616) / 18446744073709551616 = c4 at *
 generalize (a2 + b2 + (a1 + b1 + (a0 + b0 + 0) / 18446744073709551616) / 18446744073709551616) / 18446744073709551616 = c3 at *
 generalize (a1 + b1 + (a0 + b0 + 0) / 18446744073709551616) / 18446744073709551616 = c2 at *
 generalize (a0 + b0 + 0) / 18446744073709551616 = c1 at *
 generalize Sm.lim 0 n = r0 at *
 generalize Sm.lim 1 n = r1 at *
 generalize Sm.lim 2 n = r2 at *
 generalize Sm.lim 3 n = r3 at *
 go_enter Tryz.func37, Tryz.ntmps37
 go_wp2_with fail
 exact bodyPost_ret (v := .tuple #[.int .u64 r0, .int .u64 r1, .int .u64 r2, .int .u64 r3]) (by simp [results, Tryz.results37, go_sem]) rfl ⟨rfl, rfl⟩
theorem step_any (a b c d : Int) (w : World) (ha : Sm.Wd a) (hb : Sm.Wd b) (hc : Sm.Wd c) (hd : Sm.Wd d) :
  Calls Tryz.prog 53 #[.int .u64 a, .int .u64 b, .int .u64 c, .int .u64 d] w fun e w' => e = .returned (.tuple #[.int .u64 ((a * b + c + d) / 18446744073709551616), .int .u64 ((a * b + c + d) % 18446744073709551616)]) ∧ w' = w := by
 have call := mul64_any a b ha hb
 have hq := Sm.mul_le a b ha hb
 have hs := Sm.step_lt a b c d ha hb hc hd
 generalize a * b = p at *
 obtain ⟨m1, m2⟩ := Sm.step_math p c d hq.1 hc hd hs.2
 unfold Sm.Wd at *
 have A1 := add64_run (p % 18446744073709551616) c 0 (by omega) (by omega) (by omega) (by omega)
 have A2 := add64_run (p / 18446744073709551616) 0 ((p % 18446744073709551616 + c + 0) / 18446744073709551616) (by omega) (by omega) (by omega) (by omega)
 have A3 := add64_run ((p % 18446744073709551616 + c + 0) % 18446744073709551616) d 0 (by omega) (by omega) (by omega) (by omega)
 have A4 := add64_run ((p / 18446744073709551616 + 0 + (p % 18446744073709551616 + c + 0) / 18446744073709551616) % 18446744073709551616) 0 (((p % 18446744073709551616 + c + 0) % 18446744073709551616 + d + 0) / 18446744073709551616) (by omega) (by omega) (by omega) (by omega)
 rw [m1] at A3
 rw [m2] at A4
 clear m1 m2 hq hs ha hb hc hd
 generalize (p + c + d) / 18446744073709551616 = hi at *
 generalize (p + c + d) % 18446744073709551616 = lo at *
 generalize (p / 18446744073709551616 + 0 + (p % 18446744073709551616 + c + 0) / 18446744073709551616) % 18446744073709551616 = x1 at *
 generalize ((p % 18446744073709551616 + c + 0) % 18446744073709551616 + d + 0) / 18446744073709551616 = x2 at *
 generalize (p % 18446744073709551616 + c + 0) % 18446744073709551616 = x3 at *
 generalize (p % 18446744073709551616 + c + 0) / 18446744073709551616 = x4 at *
 generalize p / 18446744073709551616 = x5 at *
 generalize p % 18446744073709551616 = x6 at *
 have CALL := hidden call
 clear call
 go_enter Tryz.func53, Tryz.ntmps53
 go_wp2_with fail
 refine (CALL.out _).mono ?_
 rintro e w' ⟨rfl, rfl⟩
 clear CALL
 go_wp2_with fail
 exact bodyPost_ret (v := .tuple #[.int .u64 hi, .int .u64 lo]) (by simp [results, Tryz.results53, go_sem]) rfl ⟨rfl, rfl⟩
theorem xmask1 (r a : Int) (hr : Sm.Wd r) (ha : Sm.Wd a) : bits .xor .u64 r (bits .and .u64 18446744073709551615 (bits .xor .u64 r a)) = a := by
 obtain ⟨R, rfl⟩ := Int.eq_ofNat_of_zero_le hr.1
 obtain ⟨A, rfl⟩ := Int.eq_ofNat_of_zero_le ha.1
 have hR : R < 18446744073709551616 := by have := hr.2; omega
 have hA : A < 18446744073709551616 := by have := ha.2; omega
 have hx : R ^^^ A < 18446744073709551616 := Nat.xor_lt_two_pow (n := 64) hR hA
 rw [u64_xor_nat R A hR hA]
 have e1 := u64_and_nat 18446744073709551615 (R ^^^ A) (by omega) hx
 have e2 : 18446744073709551615 &&& (R ^^^ A) = R ^^^ A := by
  rw [Nat.and_comm]
  exact (Nat.and_two_pow_sub_one_eq_mod _ 64).trans (Nat.mod_eq_of_lt hx)
 rw [e2] at e1
 have e3 : ((18446744073709551615 : Nat) : Int) = 18446744073709551615 := rfl
 rw [e3] at e1
 rw [e1, u64_xor_nat R _ hR hx, ← Nat.xor_assoc, Nat.xor_self, Nat.zero_xor]
theorem xmask0 (r a : Int) (hr : Sm.Wd r) (ha : Sm.Wd a) : bits .xor .u64 r (bits .and .u64 0 (bits .xor .u64 r a)) = r := by
 obtain ⟨R, rfl⟩ := Int.eq_ofNat_of_zero_le hr.1
 obtain ⟨A, rfl⟩ := Int.eq_ofNat_of_zero_le ha.1
 have hR : R < 18446744073709551616 := by have := hr.2; omega
 have hA : A < 18446744073709551616 := by have := ha.2; omega
 have hx : R ^^^ A < 18446744073709551616 := Nat.xor_lt_two_pow (n := 64) hR hA
 rw [u64_xor_nat R A hR hA]
 have e1 := u64_and_nat 0 (R ^^^ A) (by omega) hx
 rw [Nat.zero_and] at e1
 have e3 : ((0 : Nat) : Int) = 0 := rfl
 rw [e3] at e1
 have e4 := u64_xor_nat R 0 hR (by omega)
 rw [Nat.xor_zero, e3] at e4
 rw [e1, e4]
theorem wm1 : IntKind.u64.wrap (-1) = 18446744073709551615 := by rw [IntKind.wrap_u64]; rfl
theorem lessOnce_any (a0 a1 a2 a3 : Int) (w : World) (hT : Tb w) (h0 : Sm.Wd a0) (h1 : Sm.Wd a1) (h2 : Sm.Wd a2) (h3 : Sm.Wd a3) (hn : Sm.V a0 a1 a2 a3 < 2 * Sm.L) :
  Calls Tryz.prog 38 #[.int .u64 a0, .int .u64 a1, .int .u64 a2, .int .u64 a3] w fun e w' => e = .returned (lt (Sm.V a0 a1 a2 a3 % Sm.L)) ∧ w' = w := by
 obtain ⟨t0, t1, t2, t3, -⟩ := hT
 have hVb := Sm.V_bd a0 a1 a2 a3 h0 h1 h2 h3
 have hVi := Sm.V_inj h0 h1 h2 h3 rfl
 obtain ⟨⟨m0, m1, m2, m3⟩, mu⟩ := Sm.sub_math a0 a1 a2 a3 6346243789798364141 1503914060200516822 0 1152921504606846976 _ _ _ rfl rfl rfl
 have hL : Sm.V 6346243789798364141 1503914060200516822 0 1152921504606846976 = Sm.L := rfl
 rw [hL] at m0 m1 m2 m3 mu
 have w0 : Sm.Wd 6346243789798364141 := by unfold Sm.Wd; omega
 have w1 : Sm.Wd 1503914060200516822 := by unfold Sm.Wd; omega
 have w2 : Sm.Wd 0 := by unfold Sm.Wd; omega
 have w3 : Sm.Wd 1152921504606846976 := by unfold Sm.Wd; omega
 have B0 := Sm.borrow a0 6346243789798364141 0 h0 w0 (by omega) (by omega)
 have A0 := sub64_run a0 6346243789798364141 0 h0 w0 (by omega) (by omega)
 have B1 := Sm.borrow a1 1503914060200516822 _ h1 w1 B0.1 B0.2
 have A1 := sub64_run a1 1503914060200516822 _ h1 w1 B0.1 B0.2
 have B2 := Sm.borrow a2 0 _ h2 w2 B1.1 B1.2
 have A2 := sub64_run a2 0 _ h2 w2 B1.1 B1.2
 have A3 := sub64_run a3 1152921504606846976 _ h3 w3 B2.1 B2.2
 rw [m0] at A0
 rw [m1] at A1
 rw [m2] at A2
 rw [m3, mu] at A3
 clear m0 m1 m2 m3 mu hL w0 w1 w2 w3 B0 B1 B2
 have l0 := Sm.lim_wd 0 (Sm.V a0 a1 a2 a3 - Sm.L)
 have l1 := Sm.lim_wd 1 (Sm.V a0 a1 a2 a3 - Sm.L)
 have l2 := Sm.lim_wd 2 (Sm.V a0 a1 a2 a3 - Sm.L)
 have l3 := Sm.lim_wd 3 (Sm.V a0 a1 a2 a3 - Sm.L)
 by_cases hc : Sm.V a0 a1 a2 a3 < Sm.L
 ·have eu : -((Sm.V a0 a1 a2 a3 - Sm.L) / 115792089237316195423570985008687907853269984665640564039457584007913129639936) = 1 := by unfold Sm.L at *; omega
  rw [eu] at A3
  have em : Sm.V a0 a1 a2 a3 % Sm.L = Sm.V a0 a1 a2 a3 := Int.emod_eq_of_lt hVb.1 hc
  rw [em]
  unfold lt
  rw [← hVi.1, ← hVi.2.1, ← hVi.2.2.1, ← hVi.2.2.2]
  have x0 := xmask1 _ _ l0 h0
  have x1 := xmask1 _ _ l1 h1
  have x2 := xmask1 _ _ l2 h2
  have x3 := xmask1 _ _ l3 h3
  clear eu em hVb hVi hn hc l0 l1 l2 l3 h0 h1 h2 h3
  generalize Sm.V a0 a1 a2 a3 - Sm.L = n at *
  generalize -((a2 - 0 - -((a1 - 1503914060200516822 - -((a0 - 6346243789798364141 - 0) / 18446744073709551616)) / 18446744073709551616)) / 18446744073709551616) = c3 at *
  generalize -((a1 - 1503914060200516822 - -((a0 - 6346243789798364141 - 0) / 18446744073709551616)) / 18446744073709551616) = c2 at *
  generalize -((a0 - 6346243789798364141 - 0) / 18446744073709551616) = c1 at *
  generalize Sm.lim 0 n = r0 at *
  generalize Sm.lim 1 n = r1 at *
  generalize Sm.lim 2 n = r2 at *
  generalize Sm.lim 3 n = r3 at *
  go_enter Tryz.func38, Tryz.ntmps38
  go_wp2_with fail
  exact bodyPost_ret (v := .tuple #[.int .u64 a0, .int .u64 a1, .int .u64 a2, .int .u64 a3]) (by simp [results, Tryz.results38, go_sem, wm1, x0, x1, x2, x3]) rfl ⟨rfl, rfl⟩
 ·have eu : -((Sm.V a0 a1 a2 a3 - Sm.L) / 115792089237316195423570985008687907853269984665640564039457584007913129639936) = 0 := by unfold Sm.L at *; omega
  rw [eu] at A3
  have em : Sm.V a0 a1 a2 a3 % Sm.L = Sm.V a0 a1 a2 a3 - Sm.L := by unfold Sm.L at *; omega
  rw [em]
  unfold lt
  have x0 := xmask0 _ _ l0 h0
  have x1 := xmask0 _ _ l1 h1
  have x2 := xmask0 _ _ l2 h2
  have x3 := xmask0 _ _ l3 h3
  clear eu em hVb hVi hn hc l0 l1 l2 l3 h0 h1 h2 h3
  generalize Sm.V a0 a1 a2 a3 - Sm.L = n at *
  generalize -((a2 - 0 - -((a1 - 1503914060200516822 - -((a0 - 6346243789798364141 - 0) / 18446744073709551616)) / 18446744073709551616)) / 18446744073709551616) = c3 at *
  generalize -((a1 - 1503914060200516822 - -((a0 - 6346243789798364141 - 0) / 18446744073709551616)) / 18446744073709551616) = c2 at *
  generalize -((a0 - 6346243789798364141 - 0) / 18446744073709551616) = c1 at *
  generalize Sm.lim 0 n = r0 at *
  generalize Sm.lim 1 n = r1 at *
  generalize Sm.lim 2 n = r2 at *
  generalize Sm.lim 3 n = r3 at *
  go_enter Tryz.func38, Tryz.ntmps38
  go_wp2_with fail
  exact bodyPost_ret (v := .tuple #[.int .u64 r0, .int .u64 r1, .int .u64 r2, .int .u64 r3]) (by simp [results, Tryz.results38, go_sem]) rfl ⟨rfl, rfl⟩
theorem least_raw (a0 a1 a2 a3 : Int) (w : World) (hT : Tb w) (h0 : Sm.Wd a0) (h1 : Sm.Wd a1) (h2 : Sm.Wd a2) (h3 : Sm.Wd a3) :
  Calls Tryz.prog 36 #[.int .u64 a0, .int .u64 a1, .int .u64 a2, .int .u64 a3] w fun e w' => e = .returned (lt (Sm.V a0 a1 a2 a3 % Sm.L)) ∧ w' = w := by
 obtain ⟨q0, q1, hm0, hm1⟩ := Sm.least_math a0 a1 a2 a3 h0 h1 h2 h3 _ rfl
 have hT' := hT
 obtain ⟨t0, t1, -⟩ := hT'
 have b3 := h3
 unfold Sm.Wd at b3
 have K1 : 0 ≤ a3 / 1152921504606846976 ∧ a3 / 1152921504606846976 ≤ 15 := by omega
 have hqW : Sm.Wd (a3 / 1152921504606846976 - (a3 / 1152921504606846976 + 15) / 16) := by unfold Sm.Wd; omega
 have w0 : Sm.Wd 6346243789798364141 := by unfold Sm.Wd; omega
 have w1 : Sm.Wd 1503914060200516822 := by unfold Sm.Wd; omega
 have HT := hidden hT
 unfold lt
 clear hT
 go_enter Tryz.func36, Tryz.ntmps36
 go_wp2_with fail
 refine (mul64_any _ _ hqW w0 _).mono ?_
 rintro e w' ⟨rfl, rfl⟩
 clear K1 b3
 generalize a3 / 1152921504606846976 - (a3 / 1152921504606846976 + 15) / 16 = q at *
 have M1 := hidden (mul64_any q 1503914060200516822 hqW w1)
 obtain ⟨tm, v0, v1, v2, v3⟩ := Sm.times_math q q0 q1 _ _ rfl rfl
 obtain ⟨⟨m0, m1, m2, m3⟩, -⟩ := Sm.sub_math a0 a1 a2 a3 (q * 6346243789798364141 % 18446744073709551616) ((q * 1503914060200516822 % 18446744073709551616 + q * 6346243789798364141 / 18446744073709551616 + 0) % 18446744073709551616) (q * 1503914060200516822 / 18446744073709551616 + (q * 1503914060200516822 % 18446744073709551616 + q * 6346243789798364141 / 18446744073709551616 + 0) / 18446744073709551616) (q * 1152921504606846976) _ _ _ rfl rfl rfl
 rw [← tm] at m0 m1 m2 m3
 have B0 := Sm.borrow a0 _ 0 h0 v0 (by omega) (by omega)
 have S0 := sub64_run a0 _ 0 h0 v0 (by omega) (by omega)
 have B1 := Sm.borrow a1 _ _ h1 v1 B0.1 B0.2
 have S1 := sub64_run a1 _ _ h1 v1 B0.1 B0.2
 have B2 := Sm.borrow a2 _ _ h2 v2 B1.1 B1.2
 have S2 := sub64_run a2 _ _ h2 v2 B1.1 B1.2
 have S3 := sub64_run a3 _ _ h3 v3 B2.1 B2.2
 have A0 := add64_run (q * 1503914060200516822 % 18446744073709551616) (q * 6346243789798364141 / 18446744073709551616) 0 (by omega) (by omega) (by omega) (by omega)
 rw [m0] at S0
 rw [m1] at S1
 rw [m2] at S2
 rw [m3] at S3
 have e2 : IntKind.u64.wrap (q * 1503914060200516822 / 18446744073709551616 + (q * 1503914060200516822 % 18446744073709551616 + q * 6346243789798364141 / 18446744073709551616 + 0) / 18446744073709551616) = q * 1503914060200516822 / 18446744073709551616 + (q * 1503914060200516822 % 18446744073709551616 + q * 6346243789798364141 / 18446744073709551616 + 0) / 18446744073709551616 := by rw [IntKind.wrap_u64]; omega
 have e3 : IntKind.u64.wrap (q * 1152921504606846976) = q * 1152921504606846976 := by rw [IntKind.wrap_u64]; omega
 have hk : 0 ≤ Sm.V a0 a1 a2 a3 - q * Sm.L ∧ Sm.V a0 a1 a2 a3 - q * Sm.L < 115792089237316195423570985008687907853269984665640564039457584007913129639936 := by unfold Sm.L at *; omega
 have hV := Sm.V_lim _ hk.1 hk.2
 have LO := hidden (lessOnce_any (Sm.lim 0 (Sm.V a0 a1 a2 a3 - q * Sm.L)) (Sm.lim 1 (Sm.V a0 a1 a2 a3 - q * Sm.L)) (Sm.lim 2 (Sm.V a0 a1 a2 a3 - q * Sm.L)) (Sm.lim 3 (Sm.V a0 a1 a2 a3 - q * Sm.L)) w' HT.out (Sm.lim_wd _ _) (Sm.lim_wd _ _) (Sm.lim_wd _ _) (Sm.lim_wd _ _) (by rw [hV]; exact hm1))
 rw [hV] at LO
 have hmod : (Sm.V a0 a1 a2 a3 - q * Sm.L) % Sm.L = Sm.V a0 a1 a2 a3 % Sm.L := by rw [Int.sub_eq_add_neg, ← Int.neg_mul, Int.add_mul_emod_self_right]
 rw [hmod] at LO
 unfold lt at LO
 generalize hN : Sm.V a0 a1 a2 a3 % Sm.L = N at LO
 generalize Sm.V a0 a1 a2 a3 - q * Sm.L = n at *
 unfold Sm.Wd at v2 v3
 clear hmod hV hk hm0 hm1 tm m0 m1 m2 m3 B0 B1 B2 h0 h1 h2 h3 v0 v1 w0 w1 hqW
 generalize q * 1503914060200516822 / 18446744073709551616 = y1h at *
 generalize q * 1503914060200516822 % 18446744073709551616 = y1l at *
 generalize q * 6346243789798364141 / 18446744073709551616 = y0h at *
 generalize q * 6346243789798364141 % 18446744073709551616 = y0l at *
 generalize (y1l + y0h + 0) % 18446744073709551616 = x1 at *
 generalize (y1l + y0h + 0) / 18446744073709551616 = cc at *
 generalize -((a0 - y0l - 0) / 18446744073709551616) = c1 at *
 generalize -((a1 - x1 - c1) / 18446744073709551616) = c2 at *
 generalize -((a2 - (y1h + cc) - c2) / 18446744073709551616) = c3 at *
 generalize -((a3 - q * 1152921504606846976 - c3) / 18446744073709551616) = c4 at *
 go_wp2_with fail
 refine (M1.out _).mono ?_
 rintro e w' ⟨rfl, rfl⟩
 clear M1
 go_wp2_with fail
 refine LO.out.mono ?_
 rintro e w' ⟨rfl, rfl⟩
 clear LO
 go_wp2_with fail
 exact bodyPost_ret (v := .tuple #[.int .u64 (Sm.lim 0 N), .int .u64 (Sm.lim 1 N), .int .u64 (Sm.lim 2 N), .int .u64 (Sm.lim 3 N)]) (by simp [results, Tryz.results36, go_sem]) rfl ⟨by rw [hN], rfl⟩
structure E4 where
 x0 : Int
 x1 : Int
 x2 : Int
 x3 : Int
def E4.ok (a : E4) : Prop := Sm.Wd a.x0 ∧ Sm.Wd a.x1 ∧ Sm.Wd a.x2 ∧ Sm.Wd a.x3
def E4.v (a : E4) : Value := .agg #[.int .u64 a.x0, .int .u64 a.x1, .int .u64 a.x2, .int .u64 a.x3]
def E4.n (a : E4) : Int := Sm.V a.x0 a.x1 a.x2 a.x3
def lst (n : Int) : E4 := ⟨Sm.lim 0 (n % Sm.L), Sm.lim 1 (n % Sm.L), Sm.lim 2 (n % Sm.L), Sm.lim 3 (n % Sm.L)⟩
theorem lst_ok (n : Int) : (lst n).ok := ⟨Sm.lim_wd 0 _, Sm.lim_wd 1 _, Sm.lim_wd 2 _, Sm.lim_wd 3 _⟩
theorem mod_bd (n : Int) : 0 ≤ n % Sm.L ∧ n % Sm.L < Sm.L := ⟨Int.emod_nonneg _ (by decide), Int.emod_lt_of_pos _ (by decide)⟩
theorem mod_bd4 (n : Int) : n % Sm.L < 115792089237316195423570985008687907853269984665640564039457584007913129639936 := Int.lt_trans (mod_bd n).2 (by decide)
theorem lst_n (n : Int) : (lst n).n = n % Sm.L := Sm.V_lim _ (mod_bd n).1 (mod_bd4 n)
def E4.is (r : E4) (n : Int) : Prop := r = lst n
theorem E4.is.ok {r : E4} {n : Int} (h : r.is n) : r.ok := by rw [h]; exact lst_ok n
theorem E4.is.n {r : E4} {n : Int} (h : r.is n) : r.n = n % Sm.L := by rw [h]; exact lst_n n
theorem E4.is.lt {r : E4} {n : Int} (h : r.is n) : r.n < Sm.L := by rw [h.n]; exact (mod_bd n).2
theorem ret4 {F : Nat} {w : World} {args : Array Value} {n m : Int} (h : n % Sm.L = m % Sm.L) (c : Calls Tryz.prog F args w fun e w' => e = .returned (lt (n % Sm.L)) ∧ w' = w) :
  Calls Tryz.prog F args w fun e w' => ∃ r : E4, e = .returned (.tuple #[.int .u64 r.x0, .int .u64 r.x1, .int .u64 r.x2, .int .u64 r.x3]) ∧ r.is m ∧ w' = w :=
 c.mono fun e w' q => ⟨lst n, q.1, by unfold E4.is lst; rw [h], q.2⟩
theorem bl_trans {w w1 w2 : World} (h1 : Below w.heap.size w w1) (h2 : Below w1.heap.size w1 w2) : Below w.heap.size w w2 := h1.trans (h2.mono h1.size)
theorem bl_alloc (w : World) (o : Obj) : Below w.heap.size w (w.alloc o) := (Below.refl _ _).alloc (Nat.le_refl _) _
theorem bl_alloc2 (w : World) (o p : Obj) : Below w.heap.size w ((w.alloc o).alloc p) := bl_trans (bl_alloc w o) (bl_alloc _ p)
theorem bl_alloc3 (w : World) (o p q : Obj) : Below w.heap.size w (((w.alloc o).alloc p).alloc q) := bl_trans (bl_alloc2 w o p) (bl_alloc _ q)
theorem bl_alloc4 (w : World) (o p q r : Obj) : Below w.heap.size w ((((w.alloc o).alloc p).alloc q).alloc r) := bl_trans (bl_alloc3 w o p q) (bl_alloc _ r)
theorem bl_set4 {w w3 : World} {b : Nat} (v0 v1 v2 v3 : Value) (h : Below w.heap.size w w3) (hb : w.heap.size ≤ b) :
  Below w.heap.size w ((((w3.setCell ⟨b, 0, none⟩ v0).setCell ⟨b, 1, none⟩ v1).setCell ⟨b, 2, none⟩ v2).setCell ⟨b, 3, none⟩ v3) :=
 (((h.setCell hb _).setCell hb _).setCell hb _).setCell hb _
theorem bcell {W w1 : World} (hb : Below W.heap.size W w1) : (∀ b o, b < W.heap.size → w1.cell? ⟨b, o, none⟩ = W.cell? ⟨b, o, none⟩) ∧ (∀ b o, b < W.heap.size → w1.frozen? ⟨b, o, none⟩ = W.frozen? ⟨b, o, none⟩) :=
 ⟨fun b o h => hb.cell (p := ⟨b, o, none⟩) h, fun b o h => hb.frozen (p := ⟨b, o, none⟩) h⟩
theorem Least_any (a : E4) (w : World) (hT : Tb w) (h : a.ok) :
  Calls Tryz.prog 23 #[a.v] w fun e w' => ∃ r : E4, e = .returned r.v ∧ r.is a.n ∧ Below w.heap.size w w' := by
 have c1 := fun w T => ret4 rfl (least_raw a.x0 a.x1 a.x2 a.x3 w T h.1 h.2.1 h.2.2.1 h.2.2.2)
 change ∀ w, Tb w → Calls _ _ _ w (fun e w' => ∃ r : E4, e = .returned (.tuple #[.int .u64 r.x0, .int .u64 r.x1, .int .u64 r.x2, .int .u64 r.x3]) ∧ r.is a.n ∧ w' = w) at c1
 simp only [E4.v] at c1 ⊢
 have C1 := hidden c1
 have HT := hidden hT
 clear c1 h hT
 generalize a.n = N at *
 go_enter Tryz.func23, Tryz.ntmps23
 go_wp2_with fail
 refine (C1.out _ (HT.out.keep (bl_alloc2 _ _ _))).mono ?_
 rintro e w' ⟨r, rfl, hr, rfl⟩
 clear C1
 go_wp2_with fail
 refine bodyPost_ret (v := .agg #[.int .u64 r.x0, .int .u64 r.x1, .int .u64 r.x2, .int .u64 r.x3]) (by simp [results, Tryz.results23, go_sem]) rfl ⟨r, rfl, hr, ?_⟩
 exact bl_alloc2 w _ _
theorem mod_add2 (a b : Int) : (a % Sm.L + b % Sm.L) % Sm.L = (a + b) % Sm.L := (Int.add_emod a b Sm.L).symm
theorem mod_sub2 (a b : Int) : (a % Sm.L + Sm.L - b % Sm.L) % Sm.L = (a - b) % Sm.L := by
 rw [show a % Sm.L + Sm.L - b % Sm.L = a % Sm.L - b % Sm.L + Sm.L by omega, Int.add_emod_right, ← Int.sub_emod]
theorem Add_any (a b : E4) (w : World) (hT : Tb w) (ha : a.ok) (hb : b.ok) :
  Calls Tryz.prog 13 #[a.v, b.v] w fun e w' => ∃ r : E4, e = .returned r.v ∧ r.is (a.n + b.n) ∧ Below w.heap.size w w' := by
 have c1 := fun w T => least_raw a.x0 a.x1 a.x2 a.x3 w T ha.1 ha.2.1 ha.2.2.1 ha.2.2.2
 have c2 := fun w T => least_raw b.x0 b.x1 b.x2 b.x3 w T hb.1 hb.2.1 hb.2.2.1 hb.2.2.2
 have hx := mod_bd a.n
 have hy := mod_bd b.n
 have c3 := fun w => sum_any _ _ _ _ _ _ _ _ w (Sm.lim_wd 0 (a.n % Sm.L)) (Sm.lim_wd 1 (a.n % Sm.L)) (Sm.lim_wd 2 (a.n % Sm.L)) (Sm.lim_wd 3 (a.n % Sm.L)) (Sm.lim_wd 0 (b.n % Sm.L)) (Sm.lim_wd 1 (b.n % Sm.L)) (Sm.lim_wd 2 (b.n % Sm.L)) (Sm.lim_wd 3 (b.n % Sm.L))
 have hsum : 0 ≤ a.n % Sm.L + b.n % Sm.L ∧ a.n % Sm.L + b.n % Sm.L < 2 * Sm.L := by omega
 have hV := Sm.V_lim (a.n % Sm.L + b.n % Sm.L) hsum.1 (Int.lt_trans hsum.2 (by decide))
 rw [Sm.V_lim _ hx.1 (mod_bd4 _), Sm.V_lim _ hy.1 (mod_bd4 _)] at c3
 have c4 := fun w T => ret4 (m := a.n + b.n) (by rw [hV, mod_add2]) (lessOnce_any _ _ _ _ w T (Sm.lim_wd 0 (a.n % Sm.L + b.n % Sm.L)) (Sm.lim_wd 1 (a.n % Sm.L + b.n % Sm.L)) (Sm.lim_wd 2 (a.n % Sm.L + b.n % Sm.L)) (Sm.lim_wd 3 (a.n % Sm.L + b.n % Sm.L)) (by rw [hV]; exact hsum.2))
 clear hV hsum hx hy ha hb
 change ∀ w, Tb w → Calls _ _ _ w (fun e w' => e = .returned (lt (a.n % Sm.L)) ∧ w' = w) at c1
 change ∀ w, Tb w → Calls _ _ _ w (fun e w' => e = .returned (lt (b.n % Sm.L)) ∧ w' = w) at c2
 generalize a.n + b.n = N at *
 generalize a.n % Sm.L + b.n % Sm.L = z at *
 generalize a.n % Sm.L = x at *
 generalize b.n % Sm.L = y at *
 unfold lt at c1 c2 c3
 generalize Sm.lim 0 x = x0 at *
 generalize Sm.lim 1 x = x1 at *
 generalize Sm.lim 2 x = x2 at *
 generalize Sm.lim 3 x = x3 at *
 generalize Sm.lim 0 y = y0 at *
 generalize Sm.lim 1 y = y1 at *
 generalize Sm.lim 2 y = y2 at *
 generalize Sm.lim 3 y = y3 at *
 generalize Sm.lim 0 z = z0 at *
 generalize Sm.lim 1 z = z1 at *
 generalize Sm.lim 2 z = z2 at *
 generalize Sm.lim 3 z = z3 at *
 simp only [E4.v]
 have C1 := hidden c1
 have C2 := hidden c2
 have C3 := hidden c3
 have C4 := hidden c4
 have HT := hidden (hT.keep (bl_alloc3 _ (.cells #[.int .u64 a.x0, .int .u64 a.x1, .int .u64 a.x2, .int .u64 a.x3] 26) (.cells #[.int .u64 b.x0, .int .u64 b.x1, .int .u64 b.x2, .int .u64 b.x3] 26) (.cells #[.int .u64 0, .int .u64 0, .int .u64 0, .int .u64 0] 26)))
 clear c1 c2 c3 c4 hT
 go_enter Tryz.func13, Tryz.ntmps13
 go_wp2_with fail
 refine (C1.out _ HT.out).mono ?_
 rintro e w' ⟨rfl, rfl⟩
 clear C1
 go_wp2_with fail
 refine (C2.out _ HT.out).mono ?_
 rintro e w' ⟨rfl, rfl⟩
 clear C2
 go_wp2_with fail
 refine (C3.out _).mono ?_
 rintro e w' ⟨rfl, rfl⟩
 clear C3
 go_wp2_with fail
 refine (C4.out _ HT.out).mono ?_
 rintro e w' ⟨r, rfl, hr, rfl⟩
 clear C4
 go_wp2_with fail
 refine bodyPost_ret (v := .agg #[.int .u64 r.x0, .int .u64 r.x1, .int .u64 r.x2, .int .u64 r.x3]) (by simp [results, Tryz.results13, go_sem]) rfl ⟨r, rfl, hr, ?_⟩
 exact bl_alloc3 w _ _ _
theorem Sub_any (a b : E4) (w : World) (hT : Tb w) (ha : a.ok) (hb : b.ok) :
  Calls Tryz.prog 16 #[a.v, b.v] w fun e w' => ∃ r : E4, e = .returned r.v ∧ r.is (a.n - b.n) ∧ Below w.heap.size w w' := by
 have c1 := fun w T => least_raw a.x0 a.x1 a.x2 a.x3 w T ha.1 ha.2.1 ha.2.2.1 ha.2.2.2
 have c2 := fun w T => least_raw b.x0 b.x1 b.x2 b.x3 w T hb.1 hb.2.1 hb.2.2.1 hb.2.2.2
 have hx := mod_bd a.n
 have hy := mod_bd b.n
 have w0 : Sm.Wd 6346243789798364141 := by unfold Sm.Wd; omega
 have w1 : Sm.Wd 1503914060200516822 := by unfold Sm.Wd; omega
 have w2 : Sm.Wd 0 := by unfold Sm.Wd; omega
 have w3 : Sm.Wd 1152921504606846976 := by unfold Sm.Wd; omega
 have c3 := fun w => sum_any _ _ _ _ _ _ _ _ w (Sm.lim_wd 0 (a.n % Sm.L)) (Sm.lim_wd 1 (a.n % Sm.L)) (Sm.lim_wd 2 (a.n % Sm.L)) (Sm.lim_wd 3 (a.n % Sm.L)) w0 w1 w2 w3
 rw [Sm.V_lim _ hx.1 (mod_bd4 _), show Sm.V 6346243789798364141 1503914060200516822 0 1152921504606846976 = Sm.L from rfl] at c3
 have hs1 : 0 ≤ a.n % Sm.L + Sm.L ∧ a.n % Sm.L + Sm.L < 2 * Sm.L := by unfold Sm.L at *; omega
 have hV1 := Sm.V_lim (a.n % Sm.L + Sm.L) hs1.1 (Int.lt_trans hs1.2 (by decide))
 have hVy := Sm.V_lim _ hy.1 (mod_bd4 b.n)
 have hs2 : 0 ≤ a.n % Sm.L + Sm.L - b.n % Sm.L ∧ a.n % Sm.L + Sm.L - b.n % Sm.L < 2 * Sm.L := by unfold Sm.L at *; omega
 have hV2 := Sm.V_lim (a.n % Sm.L + Sm.L - b.n % Sm.L) hs2.1 (Int.lt_trans hs2.2 (by decide))
 have c4 := fun w T => ret4 (m := a.n - b.n) (by rw [hV2, mod_sub2]) (lessOnce_any _ _ _ _ w T (Sm.lim_wd 0 (a.n % Sm.L + Sm.L - b.n % Sm.L)) (Sm.lim_wd 1 (a.n % Sm.L + Sm.L - b.n % Sm.L)) (Sm.lim_wd 2 (a.n % Sm.L + Sm.L - b.n % Sm.L)) (Sm.lim_wd 3 (a.n % Sm.L + Sm.L - b.n % Sm.L)) (by rw [hV2]; exact hs2.2))
 obtain ⟨⟨m0, m1, m2, m3⟩, -⟩ := Sm.sub_math (Sm.lim 0 (a.n % Sm.L + Sm.L)) (Sm.lim 1 (a.n % Sm.L + Sm.L)) (Sm.lim 2 (a.n % Sm.L + Sm.L)) (Sm.lim 3 (a.n % Sm.L + Sm.L)) (Sm.lim 0 (b.n % Sm.L)) (Sm.lim 1 (b.n % Sm.L)) (Sm.lim 2 (b.n % Sm.L)) (Sm.lim 3 (b.n % Sm.L)) _ _ _ rfl rfl rfl
 rw [hV1, hVy] at m0 m1 m2 m3
 have B0 := Sm.borrow (Sm.lim 0 (a.n % Sm.L + Sm.L)) (Sm.lim 0 (b.n % Sm.L)) 0 (Sm.lim_wd _ _) (Sm.lim_wd _ _) (by omega) (by omega)
 have S0 := sub64_run (Sm.lim 0 (a.n % Sm.L + Sm.L)) (Sm.lim 0 (b.n % Sm.L)) 0 (Sm.lim_wd _ _) (Sm.lim_wd _ _) (by omega) (by omega)
 have B1 := Sm.borrow (Sm.lim 1 (a.n % Sm.L + Sm.L)) (Sm.lim 1 (b.n % Sm.L)) _ (Sm.lim_wd _ _) (Sm.lim_wd _ _) B0.1 B0.2
 have S1 := sub64_run (Sm.lim 1 (a.n % Sm.L + Sm.L)) (Sm.lim 1 (b.n % Sm.L)) _ (Sm.lim_wd _ _) (Sm.lim_wd _ _) B0.1 B0.2
 have B2 := Sm.borrow (Sm.lim 2 (a.n % Sm.L + Sm.L)) (Sm.lim 2 (b.n % Sm.L)) _ (Sm.lim_wd _ _) (Sm.lim_wd _ _) B1.1 B1.2
 have S2 := sub64_run (Sm.lim 2 (a.n % Sm.L + Sm.L)) (Sm.lim 2 (b.n % Sm.L)) _ (Sm.lim_wd _ _) (Sm.lim_wd _ _) B1.1 B1.2
 have S3 := sub64_run (Sm.lim 3 (a.n % Sm.L + Sm.L)) (Sm.lim 3 (b.n % Sm.L)) _ (Sm.lim_wd _ _) (Sm.lim_wd _ _) B2.1 B2.2
 rw [m0] at S0
 rw [m1] at S1
 rw [m2] at S2
 rw [m3] at S3
 clear hV1 hVy hV2 hs1 hs2 hx hy ha hb w0 w1 w2 w3 m0 m1 m2 m3 B0 B1 B2
 change ∀ w, Tb w → Calls _ _ _ w (fun e w' => e = .returned (lt (a.n % Sm.L)) ∧ w' = w) at c1
 change ∀ w, Tb w → Calls _ _ _ w (fun e w' => e = .returned (lt (b.n % Sm.L)) ∧ w' = w) at c2
 generalize a.n - b.n = N at *
 generalize a.n % Sm.L + Sm.L - b.n % Sm.L = z at *
 generalize a.n % Sm.L + Sm.L = u at *
 generalize a.n % Sm.L = x at *
 generalize b.n % Sm.L = y at *
 unfold lt at c1 c2 c3
 generalize Sm.lim 0 x = x0 at *
 generalize Sm.lim 1 x = x1 at *
 generalize Sm.lim 2 x = x2 at *
 generalize Sm.lim 3 x = x3 at *
 generalize Sm.lim 0 y = y0 at *
 generalize Sm.lim 1 y = y1 at *
 generalize Sm.lim 2 y = y2 at *
 generalize Sm.lim 3 y = y3 at *
 generalize Sm.lim 0 z = z0 at *
 generalize Sm.lim 1 z = z1 at *
 generalize Sm.lim 2 z = z2 at *
 generalize Sm.lim 3 z = z3 at *
 generalize Sm.lim 0 u = u0 at *
 generalize Sm.lim 1 u = u1 at *
 generalize Sm.lim 2 u = u2 at *
 generalize Sm.lim 3 u = u3 at *
 generalize -((u0 - y0 - 0) / 18446744073709551616) = d1 at *
 generalize -((u1 - y1 - d1) / 18446744073709551616) = d2 at *
 generalize -((u2 - y2 - d2) / 18446744073709551616) = d3 at *
 generalize -((u3 - y3 - d3) / 18446744073709551616) = d4 at *
 simp only [E4.v]
 have C1 := hidden c1
 have C2 := hidden c2
 have C3 := hidden c3
 have C4 := hidden c4
 have HT := hidden hT
 obtain ⟨t0, t1, t2, t3, -⟩ := hT
 have hz0 : 0 < w.heap.size := World.block_lt_of_cell? w ⟨0, 0, none⟩ t0
 have hzA : ¬ w.heap.size = 0 := by omega
 have hzB : ¬ 0 = w.heap.size := by omega
 have hzC : 0 < w.heap.size := by omega
 have hzD : 0 < w.heap.size + 1 := by omega
 have hzE : 0 < w.heap.size + 1 + 1 := by omega
 clear c1 c2 c3 c4
 go_enter Tryz.func16, Tryz.ntmps16
 go_wp2_with fail
 refine (C1.out _ (HT.out.keep (bl_alloc4 _ _ _ _ _))).mono ?_
 rintro e w' ⟨rfl, rfl⟩
 clear C1
 go_wp2_with fail
 refine (C2.out _ (HT.out.keep (bl_alloc4 _ _ _ _ _))).mono ?_
 rintro e w' ⟨rfl, rfl⟩
 clear C2
 go_wp2_with fail
 refine (C3.out _).mono ?_
 rintro e w' ⟨rfl, rfl⟩
 clear C3
 go_wp2_with fail
 refine (C4.out _ (HT.out.keep (bl_alloc4 _ _ _ _ _))).mono ?_
 rintro e w' ⟨r, rfl, hr, rfl⟩
 clear C4
 go_wp2_with fail
 refine bodyPost_ret (v := .agg #[.int .u64 r.x0, .int .u64 r.x1, .int .u64 r.x2, .int .u64 r.x3]) (by simp [results, Tryz.results16, go_sem]) rfl ⟨r, rfl, hr, ?_⟩
 exact bl_alloc4 w _ _ _ _
structure Blc (w : World) (b : Nat) (r : E4) : Prop where
 c0 : w.cell? ⟨b, 0, none⟩ = some (.int .u64 r.x0)
 c1 : w.cell? ⟨b, 1, none⟩ = some (.int .u64 r.x1)
 c2 : w.cell? ⟨b, 2, none⟩ = some (.int .u64 r.x2)
 c3 : w.cell? ⟨b, 3, none⟩ = some (.int .u64 r.x3)
structure Wrt (w : World) (b : Nat) : Prop where
 f0 : w.frozen? ⟨b, 0, none⟩ = false
 f1 : w.frozen? ⟨b, 1, none⟩ = false
 f2 : w.frozen? ⟨b, 2, none⟩ = false
 f3 : w.frozen? ⟨b, 3, none⟩ = false
theorem Blc.lt {w : World} {b : Nat} {r : E4} (h : Blc w b r) : b < w.heap.size := World.block_lt_of_cell? w ⟨b, 0, none⟩ h.c0
theorem Blc.keep {w1 w2 : World} {b : Nat} {r : E4} (h : Blc w1 b r) (hb : Below w1.heap.size w1 w2) : Blc w2 b r :=
 ⟨cell_keep h.c0 hb, cell_keep h.c1 hb, cell_keep h.c2 hb, cell_keep h.c3 hb⟩
theorem Wrt.keep {w1 w2 : World} {b : Nat} (h : Wrt w1 b) (hl : b < w1.heap.size) (hb : Below w1.heap.size w1 w2) : Wrt w2 b :=
 ⟨((bcell hb).2 _ _ hl).trans h.f0, ((bcell hb).2 _ _ hl).trans h.f1, ((bcell hb).2 _ _ hl).trans h.f2, ((bcell hb).2 _ _ hl).trans h.f3⟩
def set4 (w : World) (b : Nat) (r : E4) : World :=
 (((w.setCell ⟨b, 0, none⟩ (.int .u64 r.x0)).setCell ⟨b, 1, none⟩ (.int .u64 r.x1)).setCell ⟨b, 2, none⟩ (.int .u64 r.x2)).setCell ⟨b, 3, none⟩ (.int .u64 r.x3)
theorem set4_cell_far (w : World) (b : Nat) (r : E4) (a : Addr) (h : b ≠ a.block) : (set4 w b r).cell? a = w.cell? a := by
 unfold set4
 rw [World.cell?_setCell_far _ _ _ _ h, World.cell?_setCell_far _ _ _ _ h, World.cell?_setCell_far _ _ _ _ h, World.cell?_setCell_far _ _ _ _ h]
theorem Blc.far {w : World} {b c : Nat} {r s : E4} (h : Blc w b r) (hne : c ≠ b) : Blc (set4 w c s) b r :=
 ⟨(set4_cell_far w c s _ hne).trans h.c0, (set4_cell_far w c s _ hne).trans h.c1, (set4_cell_far w c s _ hne).trans h.c2, (set4_cell_far w c s _ hne).trans h.c3⟩
theorem Blc.set {w : World} {b : Nat} {r : E4} (h : Blc w b r) (s : E4) : Blc (set4 w b s) b s := by
 obtain ⟨h0, h1, h2, h3⟩ := h
 constructor <;> (unfold set4; go_simp)
theorem set4_below (w : World) (b : Nat) (r : E4) {w0 : World} (h : Below w0.heap.size w0 w) (hb : w0.heap.size ≤ b) : Below w0.heap.size w0 (set4 w b r) := bl_set4 _ _ _ _ h hb
theorem Wrt.set {w : World} {b c : Nat} {s : E4} (h : Wrt w b) : Wrt (set4 w c s) b := by
 obtain ⟨h0, h1, h2, h3⟩ := h
 constructor <;> (unfold set4; go_simp)
theorem set4_size (w : World) (b : Nat) (r : E4) : (set4 w b r).heap.size = w.heap.size := by unfold set4; simp
theorem Blc.new (w : World) (r : E4) (t : TypeId) : Blc (w.alloc (.cells #[.int .u64 r.x0, .int .u64 r.x1, .int .u64 r.x2, .int .u64 r.x3] t)) w.heap.size r := by
 constructor <;> go_simp
theorem Wrt.new (w : World) (r : E4) (t : TypeId) : Wrt (w.alloc (.cells #[.int .u64 r.x0, .int .u64 r.x1, .int .u64 r.x2, .int .u64 r.x3] t)) w.heap.size := by
 constructor <;> go_simp
def zero4 : E4 := ⟨0, 0, 0, 0⟩
structure St (w0 : World) (L : List (Nat × E4)) (R : List Nat) (w : World) : Prop where
 live : ∀ p ∈ L, Blc w p.1 p.2
 wrt : ∀ b ∈ R, Wrt w b ∧ b < w.heap.size
 bel : Below w0.heap.size w0 w
theorem St.keep {w0 : World} {L : List (Nat × E4)} {R : List Nat} {w1 w2 : World} (h : St w0 L R w1) (hb : Below w1.heap.size w1 w2) : St w0 L R w2 :=
 ⟨fun p hp => (h.live p hp).keep hb, fun b hb' => ⟨(h.wrt b hb').1.keep (h.wrt b hb').2 hb, Nat.lt_of_lt_of_le (h.wrt b hb').2 hb.size⟩, bl_trans h.bel hb⟩
theorem St.drew {w0 : World} {L : List (Nat × E4)} {R : List Nat} {w1 : World} (h : St w0 L R w1) : St w0 L R w1.drew := h.keep ((Below.refl _ _).drew)
theorem St.new {w0 : World} {L : List (Nat × E4)} {R : List Nat} {w1 : World} (h : St w0 L R w1) (r : E4) (t : TypeId) :
  St w0 ((w1.heap.size, r) :: L) R (w1.alloc (.cells #[.int .u64 r.x0, .int .u64 r.x1, .int .u64 r.x2, .int .u64 r.x3] t)) := by
 have k := h.keep (bl_alloc w1 (.cells #[.int .u64 r.x0, .int .u64 r.x1, .int .u64 r.x2, .int .u64 r.x3] t))
 refine ⟨fun p hp => ?_, k.wrt, k.bel⟩
 rcases List.mem_cons.1 hp with rfl | hp
 ·exact Blc.new w1 r t
 ·exact k.live p hp
theorem St.sub {w0 : World} {L M : List (Nat × E4)} {R : List Nat} {w1 : World} (h : St w0 L R w1) (hs : ∀ p ∈ M, p ∈ L) : St w0 M R w1 := ⟨fun p hp => h.live p (hs p hp), h.wrt, h.bel⟩
theorem St.set {w0 : World} {L M : List (Nat × E4)} {R : List Nat} {w1 : World} {b : Nat} {old : E4} (h : St w0 L R w1) (s : E4) (hb : (b, old) ∈ L) (h0 : w0.heap.size ≤ b) (hs : ∀ p ∈ M, p ∈ L ∧ b ≠ p.1) :
  St w0 ((b, s) :: M) R (set4 w1 b s) := by
 refine ⟨fun p hp => ?_, fun c hc => ⟨(h.wrt c hc).1.set, by rw [set4_size]; exact (h.wrt c hc).2⟩, set4_below _ _ _ h.bel h0⟩
 rcases List.mem_cons.1 hp with rfl | hp
 ·exact (h.live _ hb).set s
 ·exact (h.live p (hs p hp).1).far (hs p hp).2
theorem St.aside {w0 : World} {L : List (Nat × E4)} {R : List Nat} {w1 : World} {b : Nat} (h : St w0 L R w1) (hn : ∀ p ∈ L, b ≠ p.1) (h0 : w0.heap.size ≤ b) (s : E4) : St w0 L R (set4 w1 b s) :=
 ⟨fun p hp => (h.live p hp).far (hn p hp), fun c hc => ⟨(h.wrt c hc).1.set, by rw [set4_size]; exact (h.wrt c hc).2⟩, set4_below _ _ _ h.bel h0⟩
theorem St.start (w : World) (a : E4) (t : TypeId) : St w [(w.heap.size, a)] [] (w.alloc (.cells #[.int .u64 a.x0, .int .u64 a.x1, .int .u64 a.x2, .int .u64 a.x3] t)) := by
 have h0 : St w [] [] w := ⟨fun p hp => absurd hp (by simp), fun b hb => absurd hb (by simp), Below.refl _ _⟩
 exact h0.new a t
theorem St.room {w0 : World} {L : List (Nat × E4)} {R : List Nat} {w1 : World} (h : St w0 L R w1) (t : TypeId) :
  St w0 ((w1.heap.size, zero4) :: L) (w1.heap.size :: R) (w1.alloc (.cells #[.int .u64 0, .int .u64 0, .int .u64 0, .int .u64 0] t)) := by
 have k := h.new zero4 t
 refine ⟨k.live, fun b hb => ?_, k.bel⟩
 rcases List.mem_cons.1 hb with rfl | hb
 ·exact ⟨Wrt.new w1 zero4 t, by simp⟩
 ·exact k.wrt b hb
theorem St.roomR {w0 : World} {L : List (Nat × E4)} {R : List Nat} {w1 : World} (h : St w0 L R w1) (r : E4) (t : TypeId) :
  St w0 ((w1.heap.size, r) :: L) (w1.heap.size :: R) (w1.alloc (.cells #[.int .u64 r.x0, .int .u64 r.x1, .int .u64 r.x2, .int .u64 r.x3] t)) := by
 have k := h.new r t
 refine ⟨k.live, fun b hb => ?_, k.bel⟩
 rcases List.mem_cons.1 hb with rfl | hb
 ·exact ⟨Wrt.new w1 r t, by simp⟩
 ·exact k.wrt b hb
theorem St.nil (w : World) : St w [] [] w := ⟨fun p hp => absurd hp (by simp), fun b hb => absurd hb (by simp), Below.refl _ _⟩
theorem St.tb {w0 : World} {L : List (Nat × E4)} {R : List Nat} {w1 : World} (h : St w0 L R w1) (hT : Tb w0) : Tb w1 := hT.keep h.bel
theorem is_of {r : E4} {n m : Int} (h : r.is n) (e : n % Sm.L = m % Sm.L) : r.is m := by unfold E4.is lst at *; rw [h, e]
theorem mul_cong {a b c d : Int} (h : a % Sm.L = b % Sm.L) (k : c % Sm.L = d % Sm.L) : a * c % Sm.L = b * d % Sm.L := by rw [Int.mul_emod, h, k, ← Int.mul_emod]
theorem emod_emod_L (n : Int) : n % Sm.L % Sm.L = n % Sm.L := Int.emod_emod_of_dvd _ (Int.dvd_refl _)
theorem E4.is.m {r : E4} {n : Int} (h : r.is n) : r.n % Sm.L = n % Sm.L := by rw [h.n, emod_emod_L]
def Ri : Int := 4458503529701987551646482192314240623644693141688353256590997718326214331684
theorem mont_end (A b T M : Int) (h : 115792089237316195423570985008687907853269984665640564039457584007913129639936 * T = A * b + M * Sm.L) : T % Sm.L = A * b * Ri % Sm.L := by
 have e : T = A * b * Ri + Sm.L * (M * Ri - T * 71336056475231800826343715077027849978041630819377026201054086228062141447707) := by
  have k : 115792089237316195423570985008687907853269984665640564039457584007913129639936 * Ri = 1 + 71336056475231800826343715077027849978041630819377026201054086228062141447707 * Sm.L := rfl
  have h2 : 115792089237316195423570985008687907853269984665640564039457584007913129639936 * T * Ri = (A * b + M * Sm.L) * Ri := by rw [h]
  have h3 : 115792089237316195423570985008687907853269984665640564039457584007913129639936 * T * Ri = T * (115792089237316195423570985008687907853269984665640564039457584007913129639936 * Ri) := by rw [Int.mul_comm 115792089237316195423570985008687907853269984665640564039457584007913129639936 T, Int.mul_assoc]
  rw [h3, k] at h2
  generalize Ri = r at *
  generalize Sm.L = l at *
  grind
 have e2 := congrArg (fun z => z % Sm.L) e
 simp only [Int.add_mul_emod_self_left] at e2
 exact e2
def E4.get (a : E4) : Nat → Int
 | 0 => a.x0
 | 1 => a.x1
 | 2 => a.x2
 | _ => a.x3
def E4.low (a : E4) : Nat → Int
 | 0 => 0
 | k + 1 => a.low k + 18446744073709551616 ^ k * a.get k
theorem E4.get_wd {a : E4} (h : a.ok) (k : Nat) : Sm.Wd (a.get k) := by
 obtain ⟨h0, h1, h2, h3⟩ := h
 unfold E4.get; split <;> assumption
theorem E4.low4 (a : E4) : a.low 4 = a.n := by
 simp only [E4.low, E4.get, E4.n, Sm.V]; grind
theorem E4.low_bd {a : E4} (h : a.ok) (k : Nat) : 0 ≤ a.low k ∧ a.low k ≤ 18446744073709551616 ^ k - 1 := by
 induction k with
 | zero => simp [E4.low]
 | succ k ih =>
  have hg := E4.get_wd h k
  unfold Sm.Wd at hg
  have hp : (0 : Int) < 18446744073709551616 ^ k := Int.pow_pos (by decide)
  simp only [E4.low, Int.pow_succ]
  generalize (18446744073709551616 : Int) ^ k = p at *
  have h1 : 0 ≤ p * a.get k := Int.mul_nonneg (by omega) hg.1
  have h2 : p * a.get k ≤ p * (18446744073709551616 - 1) := Int.mul_le_mul_of_nonneg_left (by omega) (by omega)
  rw [Int.mul_sub] at h2
  constructor
  ·omega
  ·omega
theorem Blc.get {w : World} {b : Nat} {a : E4} (h : Blc w b a) (k : Nat) (hk : k < 4) : w.cell? ⟨b, k, none⟩ = some (.int .u64 (a.get k)) := by
 match k, hk with
 | 0, _ => exact h.c0
 | 1, _ => exact h.c1
 | 2, _ => exact h.c2
 | 3, _ => exact h.c3
def Inv (a : E4) (bn : Int) (k : Nat) (T : Int) : Prop := ∃ M : Int, 0 ≤ M ∧ M ≤ 18446744073709551616 ^ k - 1 ∧ 18446744073709551616 ^ k * T = a.low k * bn + M * Sm.L
theorem Inv.lt {a : E4} {bn T : Int} {k : Nat} (h : Inv a bn k T) (ha : a.ok) (hb0 : 0 ≤ bn) (hb : bn < Sm.L) : T < 2 * Sm.L := by
 obtain ⟨M, h0, h1, h2⟩ := h
 have hl := E4.low_bd ha k
 have hp : (0 : Int) < 18446744073709551616 ^ k := Int.pow_pos (by decide)
 generalize (18446744073709551616 : Int) ^ k = p at *
 have g1 : a.low k * bn ≤ (p - 1) * bn := Int.mul_le_mul_of_nonneg_right hl.2 hb0
 have g2 : M * Sm.L ≤ (p - 1) * Sm.L := Int.mul_le_mul_of_nonneg_right h1 (by decide)
 have g3 : p * T < p * (2 * Sm.L) := by
  have g4 : p * bn ≤ p * Sm.L := Int.mul_le_mul_of_nonneg_left (by omega) (by omega)
  rw [Int.sub_mul] at g1 g2
  have hLp : (0 : Int) < Sm.L := by decide
  have : p * (2 * Sm.L) = p * Sm.L + p * Sm.L := by grind
  omega
 exact Int.lt_of_mul_lt_mul_left g3 (by omega)
theorem Inv.next {a : E4} {bn T T' m : Int} {k : Nat} (h : Inv a bn k T) (hm : Sm.Wd m) (e : 18446744073709551616 * T' = T + a.get k * bn + m * Sm.L) : Inv a bn (k + 1) T' := by
 obtain ⟨M, h0, h1, h2⟩ := h
 unfold Sm.Wd at hm
 have hp : (0 : Int) < 18446744073709551616 ^ k := Int.pow_pos (by decide)
 refine ⟨M + 18446744073709551616 ^ k * m, ?_, ?_, ?_⟩
 ·have := Int.mul_nonneg (Int.le_of_lt hp) hm.1
  omega
 ·rw [Int.pow_succ]
  generalize (18446744073709551616 : Int) ^ k = p at *
  have h2 : p * m ≤ p * (18446744073709551616 - 1) := Int.mul_le_mul_of_nonneg_left (by omega) (by omega)
  rw [Int.mul_sub] at h2
  omega
 ·simp only [E4.low]
  rw [Int.pow_succ, Int.mul_assoc, e]
  generalize (18446744073709551616 : Int) ^ k = p at *
  generalize a.get k = g at *
  generalize Sm.L = l at *
  grind
theorem Inv.start (a : E4) (bn : Int) : Inv a bn 0 0 := ⟨0, by omega, by simp, by simp [E4.low]⟩
theorem Inv.done {a : E4} {bn T : Int} (h : Inv a bn 4 T) : T % Sm.L = a.n * bn * Ri % Sm.L := by
 obtain ⟨M, -, -, h2⟩ := h
 rw [E4.low4] at h2
 exact mont_end _ _ _ M h2
theorem step_at (x b t c p : Int) (e : p = x * b + t + c) (hx : Sm.Wd x) (hb : Sm.Wd b) (ht : Sm.Wd t) (hc : Sm.Wd c) :
  (Sm.Wd (p / 18446744073709551616) ∧ Sm.Wd (p % 18446744073709551616)) ∧ ∀ w : World, Calls Tryz.prog 53 #[.int .u64 x, .int .u64 b, .int .u64 t, .int .u64 c] w fun e w' => e = .returned (.tuple #[.int .u64 (p / 18446744073709551616), .int .u64 (p % 18446744073709551616)]) ∧ w' = w := by
 subst e
 have := Sm.step_lt x b t c hx hb ht hc
 refine ⟨⟨?_, ?_⟩, fun w => step_any x b t c w hx hb ht hc⟩
 ·unfold Sm.Wd; omega
 ·unfold Sm.Wd; omega
def lE : E4 := ⟨6346243789798364141, 1503914060200516822, 0, 1152921504606846976⟩
theorem montgomery_any (a b : E4) (w : World) (hT : Tb w) (ha : a.ok) (hb : b.ok) (hbL : b.n < Sm.L) :
  Calls Tryz.prog 41 #[a.v, b.v] w fun e w' => ∃ r : E4, e = .returned r.v ∧ r.is (a.n * b.n * Ri) ∧ Below w.heap.size w w' := by
 have HA := hidden ha
 have HB := hidden hb
 have HL := hidden hbL
 have HT := hidden hT
 obtain ⟨t0, t1, t2, t3, -⟩ := hT
 have hz0 : 0 < w.heap.size := World.block_lt_of_cell? w ⟨0, 0, none⟩ t0
 have hzA : ¬ w.heap.size = 0 := by omega
 have hzB : ¬ 0 = w.heap.size := by omega
 have hzC : 0 < w.heap.size := by omega
 have hzD : 0 < w.heap.size + 1 := by omega
 have hzE : 0 < w.heap.size + 1 + 1 := by omega
 have s0 := ((((St.start w a 26).new b 26).room 26).new lE 26)
 simp only [World.size_alloc] at s0
 have S0 := hidden s0
 clear s0 ha hb hbL
 simp only [E4.v]
 go_enter Tryz.func41, Tryz.ntmps41
 go_wp2_with fail
 go_loopw [6, 7, 8, 9, 16] (fun v0 v1 v2 v3 i w' => ∃ (k : Nat) (T0 T1 T2 T3 : Int), k ≤ 4 ∧ i = .int .i64 k ∧ v0 = .int .u64 T0 ∧ v1 = .int .u64 T1 ∧ v2 = .int .u64 T2 ∧ v3 = .int .u64 T3 ∧ (Sm.Wd T0 ∧ Sm.Wd T1 ∧ Sm.Wd T2 ∧ Sm.Wd T3) ∧ Inv a b.n k (Sm.V T0 T1 T2 T3) ∧ St w [(w.heap.size + 1 + 1 + 1, lE), (w.heap.size + 1 + 1, zero4), (w.heap.size + 1, b), (w.heap.size, a)] [w.heap.size + 1 + 1] w') (fun _ _ _ _ i _ => 4 - (intOf i).toNat)
 case atStart =>
  refine ⟨0, 0, 0, 0, 0, by omega, rfl, rfl, rfl, rfl, rfl, ⟨by unfold Sm.Wd; omega, by unfold Sm.Wd; omega, by unfold Sm.Wd; omega, by unfold Sm.Wd; omega⟩, Inv.start _ _, ?_⟩
  exact S0.out
 case round =>
  obtain ⟨k, T0, T1, T2, T3, hk, rfl, rfl, rfl, rfl, rfl, hTw, hInv, hst⟩ := hrel
  clear S0
  by_cases hk4 : k < 4
  ·have hx := E4.get_wd HA.out k
   have hxc := (hst.live (w.heap.size, a) (by simp)).get k hk4
   obtain ⟨hT0, hT1, hT2, hT3⟩ := hTw
   obtain ⟨hB0, hB1, hB2, hB3⟩ := HB.out
   have hB00 : 0 ≤ b.n := (Sm.V_bd _ _ _ _ hB0 hB1 hB2 hB3).1
   have hTL := hInv.lt HA.out hB00 HL.out
   have HI := hidden hInv
   clear hInv
   have w0 : Sm.Wd 0 := by unfold Sm.Wd; omega
   have wl0 : Sm.Wd 6346243789798364141 := by unfold Sm.Wd; omega
   have wl1 : Sm.Wd 1503914060200516822 := by unfold Sm.Wd; omega
   have wl3 : Sm.Wd 1152921504606846976 := by unfold Sm.Wd; omega
   generalize hxe : a.get k = x at *
   obtain ⟨p0, e0⟩ : ∃ p, p = x * b.x0 + T0 + 0 := ⟨_, rfl⟩
   obtain ⟨⟨k0, k0'⟩, c0⟩ := step_at _ _ _ _ p0 e0 hx hB0 hT0 w0
   obtain ⟨p1, e1⟩ : ∃ p, p = x * b.x1 + T1 + p0 / 18446744073709551616 := ⟨_, rfl⟩
   obtain ⟨⟨k1, k1'⟩, c1⟩ := step_at _ _ _ _ p1 e1 hx hB1 hT1 k0
   obtain ⟨p2, e2⟩ : ∃ p, p = x * b.x2 + T2 + p1 / 18446744073709551616 := ⟨_, rfl⟩
   obtain ⟨⟨k2, k2'⟩, c2⟩ := step_at _ _ _ _ p2 e2 hx hB2 hT2 k1
   obtain ⟨p3, e3⟩ : ∃ p, p = x * b.x3 + T3 + p2 / 18446744073709551616 := ⟨_, rfl⟩
   obtain ⟨⟨k3, k3'⟩, c3⟩ := step_at _ _ _ _ p3 e3 hx hB3 hT3 k2
   obtain ⟨m, em⟩ : ∃ m, m = p0 % 18446744073709551616 * 15183074304973897243 % 18446744073709551616 := ⟨_, rfl⟩
   have wm : Sm.Wd m := by unfold Sm.Wd; omega
   have hw : IntKind.u64.wrap (p0 % 18446744073709551616 * 15183074304973897243) = m := by rw [IntKind.wrap_u64, em]
   obtain ⟨q0, f0⟩ : ∃ p, p = m * 6346243789798364141 + p0 % 18446744073709551616 + 0 := ⟨_, rfl⟩
   obtain ⟨⟨j0, j0'⟩, d0⟩ := step_at _ _ _ _ q0 f0 wm wl0 k0' w0
   obtain ⟨q1, f1⟩ : ∃ p, p = m * 1503914060200516822 + p1 % 18446744073709551616 + q0 / 18446744073709551616 := ⟨_, rfl⟩
   obtain ⟨⟨j1, j1'⟩, d1⟩ := step_at _ _ _ _ q1 f1 wm wl1 k1' j0
   obtain ⟨q2, f2⟩ : ∃ p, p = m * 0 + p2 % 18446744073709551616 + q1 / 18446744073709551616 := ⟨_, rfl⟩
   obtain ⟨⟨j2, j2'⟩, d2⟩ := step_at _ _ _ _ q2 f2 wm w0 k2' j1
   obtain ⟨q3, f3⟩ : ∃ p, p = m * 1152921504606846976 + p3 % 18446744073709551616 + q2 / 18446744073709551616 := ⟨_, rfl⟩
   obtain ⟨⟨j3, j3'⟩, d3⟩ := step_at _ _ _ _ q3 f3 wm wl3 k3' j2
   obtain ⟨⟨-, r1, r2, r3, r4⟩, RE⟩ := Sm.round_math x b.x0 b.x1 b.x2 b.x3 T0 T1 T2 T3 hx hB0 hB1 hB2 hB3 hT0 hT1 hT2 hT3 HL.out hTL p0 p1 p2 p3 m q0 q1 q2 q3 e0 e1 e2 e3 em f0 f1 f2 f3
   have hw4 : IntKind.u64.wrap (p3 / 18446744073709551616 + q3 / 18446744073709551616) = p3 / 18446744073709551616 + q3 / 18446744073709551616 := by unfold Sm.Wd at r4; rw [IntKind.wrap_u64]; omega
   rw [← hxe] at RE
   have NX := hidden (HI.out.next wm RE)
   rw [hxe] at RE
   have NW := hidden (And.intro r1 (And.intro r2 (And.intro r3 r4)))
   clear RE HI r1 r2 r3 e0 e1 e2 e3 em f0 f1 f2 f3 k0 k0' k1 k1' k2 k2' k3' j0 j0' j1 j1' j2 j2' j3' wm w0 wl0 wl1 wl3 hT0 hT1 hT2 hT3 hB0 hB1 hB2 hB3 hB00 hTL hx
   unfold Sm.Wd at r4
   generalize p0 / 18446744073709551616 = p0h at *
   generalize p0 % 18446744073709551616 = p0l at *
   generalize p1 / 18446744073709551616 = p1h at *
   generalize p1 % 18446744073709551616 = p1l at *
   generalize p2 / 18446744073709551616 = p2h at *
   generalize p2 % 18446744073709551616 = p2l at *
   generalize p3 / 18446744073709551616 = p3h at *
   generalize p3 % 18446744073709551616 = p3l at *
   generalize q0 / 18446744073709551616 = q0h at *
   generalize q0 % 18446744073709551616 = q0l at *
   generalize q1 / 18446744073709551616 = q1h at *
   generalize q1 % 18446744073709551616 = q1l at *
   generalize q2 / 18446744073709551616 = q2h at *
   generalize q2 % 18446744073709551616 = q2l at *
   generalize q3 / 18446744073709551616 = q3h at *
   generalize q3 % 18446744073709551616 = q3l at *
   have C0 := hidden c0
   have C1 := hidden c1
   have C2 := hidden c2
   have C3 := hidden c3
   have D0 := hidden d0
   have D1 := hidden d1
   have D2 := hidden d2
   have D3 := hidden d3
   clear c0 c1 c2 c3 d0 d1 d2 d3
   have kk0 : (0 : Int) ≤ (k : Int) := by omega
   have kk1 : (k : Int) < 4 := by omega
   have KS : ∀ w', St w [(w.heap.size + 1 + 1 + 1, lE), (w.heap.size + 1 + 1, zero4), (w.heap.size + 1, b), (w.heap.size, a)] [w.heap.size + 1 + 1] w' → (fun w' : World => St w [(w.heap.size + 1 + 1 + 1, lE), (w.heap.size + 1 + 1, zero4), (w.heap.size + 1, b), (w.heap.size, a)] [w.heap.size + 1 + 1] w' ∧ w'.cell? ⟨w.heap.size, k, none⟩ = some (.int .u64 x) ∧ w'.cell? ⟨w.heap.size + 1, 0, none⟩ = some (.int .u64 b.x0) ∧ w'.cell? ⟨w.heap.size + 1, 1, none⟩ = some (.int .u64 b.x1) ∧ w'.cell? ⟨w.heap.size + 1, 2, none⟩ = some (.int .u64 b.x2) ∧ w'.cell? ⟨w.heap.size + 1, 3, none⟩ = some (.int .u64 b.x3)) w' := fun w' h => ⟨h, by rw [← hxe]; exact (h.live (w.heap.size, a) (by simp)).get k hk4, (h.live (w.heap.size + 1, b) (by simp)).c0, (h.live (w.heap.size + 1, b) (by simp)).c1, (h.live (w.heap.size + 1, b) (by simp)).c2, (h.live (w.heap.size + 1, b) (by simp)).c3⟩
   have K0 := hidden (KS _ hst.drew)
   have K1 := hidden (KS _ hst.drew.drew)
   have K2 := hidden (KS _ hst.drew.drew.drew)
   have K3 := hidden (KS _ hst.drew.drew.drew.drew)
   have S4 := hidden hst.drew.drew.drew.drew
   have HXC := hidden hxc
   clear KS hst hxc
   go_upto_region 6 with fail
   go_region_held3 (fun w' : World => St w [(w.heap.size + 1 + 1 + 1, lE), (w.heap.size + 1 + 1, zero4), (w.heap.size + 1, b), (w.heap.size, a)] [w.heap.size + 1 + 1] w' ∧ w'.cell? ⟨w.heap.size, k, none⟩ = some (.int .u64 x) ∧ w'.cell? ⟨w.heap.size + 1, 0, none⟩ = some (.int .u64 b.x0) ∧ w'.cell? ⟨w.heap.size + 1, 1, none⟩ = some (.int .u64 b.x1) ∧ w'.cell? ⟨w.heap.size + 1, 2, none⟩ = some (.int .u64 b.x2) ∧ w'.cell? ⟨w.heap.size + 1, 3, none⟩ = some (.int .u64 b.x3)) (with_reducible exact K0.out) (first | (go_at_call 53; refine (C0.out _).mono ?_; rintro e wA ⟨rfl, rfl⟩))
   go_upto_region 7 with fail
   go_region_held3 (fun w' : World => St w [(w.heap.size + 1 + 1 + 1, lE), (w.heap.size + 1 + 1, zero4), (w.heap.size + 1, b), (w.heap.size, a)] [w.heap.size + 1 + 1] w' ∧ w'.cell? ⟨w.heap.size, k, none⟩ = some (.int .u64 x) ∧ w'.cell? ⟨w.heap.size + 1, 0, none⟩ = some (.int .u64 b.x0) ∧ w'.cell? ⟨w.heap.size + 1, 1, none⟩ = some (.int .u64 b.x1) ∧ w'.cell? ⟨w.heap.size + 1, 2, none⟩ = some (.int .u64 b.x2) ∧ w'.cell? ⟨w.heap.size + 1, 3, none⟩ = some (.int .u64 b.x3)) (with_reducible exact K1.out) (first | (go_at_call 53; refine (C1.out _).mono ?_; rintro e wA ⟨rfl, rfl⟩))
   go_upto_region 8 with fail
   go_region_held3 (fun w' : World => St w [(w.heap.size + 1 + 1 + 1, lE), (w.heap.size + 1 + 1, zero4), (w.heap.size + 1, b), (w.heap.size, a)] [w.heap.size + 1 + 1] w' ∧ w'.cell? ⟨w.heap.size, k, none⟩ = some (.int .u64 x) ∧ w'.cell? ⟨w.heap.size + 1, 0, none⟩ = some (.int .u64 b.x0) ∧ w'.cell? ⟨w.heap.size + 1, 1, none⟩ = some (.int .u64 b.x1) ∧ w'.cell? ⟨w.heap.size + 1, 2, none⟩ = some (.int .u64 b.x2) ∧ w'.cell? ⟨w.heap.size + 1, 3, none⟩ = some (.int .u64 b.x3)) (with_reducible exact K2.out) (first | (go_at_call 53; refine (C2.out _).mono ?_; rintro e wA ⟨rfl, rfl⟩))
   go_upto_region 9 with fail
   go_region_held3 (fun w' : World => St w [(w.heap.size + 1 + 1 + 1, lE), (w.heap.size + 1 + 1, zero4), (w.heap.size + 1, b), (w.heap.size, a)] [w.heap.size + 1 + 1] w' ∧ w'.cell? ⟨w.heap.size, k, none⟩ = some (.int .u64 x) ∧ w'.cell? ⟨w.heap.size + 1, 0, none⟩ = some (.int .u64 b.x0) ∧ w'.cell? ⟨w.heap.size + 1, 1, none⟩ = some (.int .u64 b.x1) ∧ w'.cell? ⟨w.heap.size + 1, 2, none⟩ = some (.int .u64 b.x2) ∧ w'.cell? ⟨w.heap.size + 1, 3, none⟩ = some (.int .u64 b.x3)) (with_reducible exact K3.out) (first | (go_at_call 53; refine (C3.out _).mono ?_; rintro e wA ⟨rfl, rfl⟩))
   generalize wr.drew.drew.drew.drew = wd at *
   have l0 : wd.cell? ⟨w.heap.size + 1 + 1 + 1, 0, none⟩ = some (.int .u64 6346243789798364141) := (S4.out.live (w.heap.size + 1 + 1 + 1, lE) (by simp)).c0
   have l1 : wd.cell? ⟨w.heap.size + 1 + 1 + 1, 1, none⟩ = some (.int .u64 1503914060200516822) := (S4.out.live (w.heap.size + 1 + 1 + 1, lE) (by simp)).c1
   have l2 : wd.cell? ⟨w.heap.size + 1 + 1 + 1, 2, none⟩ = some (.int .u64 0) := (S4.out.live (w.heap.size + 1 + 1 + 1, lE) (by simp)).c2
   have l3 : wd.cell? ⟨w.heap.size + 1 + 1 + 1, 3, none⟩ = some (.int .u64 1152921504606846976) := (S4.out.live (w.heap.size + 1 + 1 + 1, lE) (by simp)).c3
   clear K0 K1 K2 K3 C0 C1 C2 C3 t0 t1 t2 t3
   go_wp2_with fail
   refine (D0.out _).mono ?_
   rintro e wA ⟨rfl, rfl⟩
   clear D0
   go_wp2_with fail
   refine (D1.out _).mono ?_
   rintro e wA ⟨rfl, rfl⟩
   clear D1
   go_wp2_with fail
   refine (D2.out _).mono ?_
   rintro e wA ⟨rfl, rfl⟩
   clear D2
   go_wp2_with fail
   refine (D3.out _).mono ?_
   rintro e wA ⟨rfl, rfl⟩
   clear D3 l0 l1 l2 l3
   go_wp2_with fail
   go_roundw
   case rel => exact ⟨k + 1, q1l, q2l, q3l, p3h + q3h, by omega, by go_num, rfl, rfl, rfl, rfl, NW.out, NX.out, S4.out⟩
   case measure => simp [intOf]; omega
  ·have hkk : k = 4 := by omega
   subst hkk
   clear t0 t1 t2 t3
   have hB00 : 0 ≤ b.n := (Sm.V_bd _ _ _ _ HB.out.1 HB.out.2.1 HB.out.2.2.1 HB.out.2.2.2).1
   have hTL := hInv.lt HA.out hB00 HL.out
   have LO := hidden (ret4 (m := a.n * b.n * Ri) hInv.done (lessOnce_any T0 T1 T2 T3 wr (hst.tb HT.out) hTw.1 hTw.2.1 hTw.2.2.1 hTw.2.2.2 hTL))
   obtain ⟨z0, z1, z2, z3⟩ := hst.live (w.heap.size + 1 + 1, zero4) (by simp)
   obtain ⟨g0, g1, g2, g3⟩ := (hst.wrt (w.heap.size + 1 + 1) (by simp)).1
   have BL := hidden hst.bel
   clear hst hTL hInv hTw hB00
   go_wp2_with fail
   refine LO.out.mono ?_
   rintro e wA ⟨r, rfl, hr, rfl⟩
   clear LO
   go_wp2_with fail
   refine bodyPost_ret (v := .agg #[.int .u64 r.x0, .int .u64 r.x1, .int .u64 r.x2, .int .u64 r.x3]) (by simp [results, Tryz.results41, go_sem, z0, z1, z2, z3]) rfl ⟨r, rfl, hr, ?_⟩
   exact set4_below _ _ _ BL.out (by omega)
theorem lst_congr {n m : Int} (h : n % Sm.L = m % Sm.L) : lst n = lst m := by unfold lst; rw [h]
def r2E : E4 := ⟨11819153939886771969, 14991950615390032711, 14910419812499177061, 259310039853996605⟩
theorem r2_ok : r2E.ok := ⟨by unfold Sm.Wd r2E; simp, by unfold Sm.Wd r2E; simp, by unfold Sm.Wd r2E; simp, by unfold Sm.Wd r2E; simp⟩
theorem r2_lt : r2E.n < Sm.L := by decide
def R : Int := 115792089237316195423570985008687907853269984665640564039457584007913129639936
theorem RRi : R * Ri % Sm.L = 1 := by decide +kernel
theorem r2_m : r2E.n * Ri % Sm.L = R % Sm.L := by decide +kernel
theorem cancel (x : Int) : x * R * Ri % Sm.L = x % Sm.L := by
 rw [Int.mul_assoc, Int.mul_emod, RRi, Int.mul_one, emod_emod_L]
theorem cancel' (x y : Int) : x * y * R * Ri % Sm.L = x * y % Sm.L := cancel (x * y)
theorem enter_any (a : E4) (w : World) (hT : Tb w) (ha : a.ok) :
  Calls Tryz.prog 42 #[a.v] w fun e w' => ∃ r : E4, e = .returned r.v ∧ r.is (a.n * R) ∧ Below w.heap.size w w' := by
 have hm : a.n * r2E.n * Ri % Sm.L = a.n * R % Sm.L := by rw [Int.mul_assoc]; exact mul_cong rfl r2_m
 have C1 := hidden (fun w T => montgomery_any a r2E w T ha r2_ok r2_lt)
 have HM := hidden hm
 have HT := hidden hT
 obtain ⟨t0, -, -, -, -, -, -, -, t8, t9, t10, t11⟩ := hT
 have hz0 : 0 < w.heap.size := World.block_lt_of_cell? w ⟨0, 0, none⟩ t0
 have hzA : ¬ w.heap.size = 0 := by omega
 have hzB : ¬ 0 = w.heap.size := by omega
 have hzC : 0 < w.heap.size := by omega
 have hzD : 0 < w.heap.size + 1 := by omega
 have hzE : 0 < w.heap.size + 1 + 1 := by omega
 clear hm ha t0
 simp only [E4.v, r2E] at C1 ⊢
 go_enter Tryz.func42, Tryz.ntmps42
 go_wp2_with fail
 refine (C1.out _ (HT.out.keep (bl_alloc2 _ _ _))).mono ?_
 rintro e w1 ⟨r, rfl, hr, hb1⟩
 clear C1
 obtain ⟨hc1, hf1⟩ := bcell hb1
 have hz1 : w.heap.size + 1 < w1.heap.size := by have := hb1.size; simp at this; omega
 clear t8 t9 t10 t11
 go_wp2_with fail
 refine bodyPost_ret (v := .agg #[.int .u64 r.x0, .int .u64 r.x1, .int .u64 r.x2, .int .u64 r.x3]) (by simp [results, Tryz.results42, go_sem, hc1]) rfl ⟨r, rfl, is_of hr HM.out, ?_⟩
 exact bl_set4 _ _ _ _ (bl_trans (bl_alloc2 w _ _) hb1) (by omega)
theorem Mul_any (a b : E4) (w : World) (hT : Tb w) (ha : a.ok) (hb : b.ok) :
  Calls Tryz.prog 17 #[a.v, b.v] w fun e w' => ∃ r : E4, e = .returned r.v ∧ r.is (a.n * b.n) ∧ Below w.heap.size w w' := by
 have EN := hidden (fun w T => enter_any a w T ha)
 have MO := hidden (fun (r s : E4) (h : r.ok) (k : s.ok) (l : s.n < Sm.L) w T => montgomery_any r s w T h k l)
 have HB := hidden hb
 have HT := hidden hT
 clear ha hb hT
 simp only [E4.v] at EN MO ⊢
 go_enter Tryz.func17, Tryz.ntmps17
 go_upto_region 1 with fail
 have s0 := ((St.start w a 26).new b 26).room 26
 simp only [World.size_alloc] at s0
 have SH := hidden s0
 clear s0
 have KSt : Hid (∀ w' : World, St w [(w.heap.size + 1, b), (w.heap.size, a)] [w.heap.size + 1 + 1] w' → (fun w' => St w [(w.heap.size + 1, b), (w.heap.size, a)] [w.heap.size + 1 + 1] w' ∧ w'.cell? ⟨w.heap.size + 1, 0, none⟩ = some (.int .u64 b.x0) ∧ w'.cell? ⟨w.heap.size + 1, 1, none⟩ = some (.int .u64 b.x1) ∧ w'.cell? ⟨w.heap.size + 1, 2, none⟩ = some (.int .u64 b.x2) ∧ w'.cell? ⟨w.heap.size + 1, 3, none⟩ = some (.int .u64 b.x3) ∧ w'.cell? ⟨w.heap.size, 0, none⟩ = some (.int .u64 a.x0) ∧ w'.cell? ⟨w.heap.size, 1, none⟩ = some (.int .u64 a.x1) ∧ w'.cell? ⟨w.heap.size, 2, none⟩ = some (.int .u64 a.x2) ∧ w'.cell? ⟨w.heap.size, 3, none⟩ = some (.int .u64 a.x3)) w') := hidden (fun w' h => ⟨h, (h.live (w.heap.size + 1, b) (by simp)).c0, (h.live (w.heap.size + 1, b) (by simp)).c1, (h.live (w.heap.size + 1, b) (by simp)).c2, (h.live (w.heap.size + 1, b) (by simp)).c3, (h.live (w.heap.size, a) (by simp)).c0, (h.live (w.heap.size, a) (by simp)).c1, (h.live (w.heap.size, a) (by simp)).c2, (h.live (w.heap.size, a) (by simp)).c3⟩)
 have K0 := hidden (KSt.out _ (SH.out.sub (M := [(w.heap.size + 1, b), (w.heap.size, a)]) (by simp)).drew)
 have N1 : Hid (∀ p ∈ [(w.heap.size + 1, b), (w.heap.size, a)], w.heap.size + 1 + 1 ≠ p.1) := hidden (by simp; omega)
 have KT1 : ∀ (w2 : World) (t : E4), St w [(w.heap.size + 1, b), (w.heap.size, a)] [w.heap.size + 1 + 1] w2 → (fun w' => St w [(w.heap.size + 1, b), (w.heap.size, a)] [w.heap.size + 1 + 1] w' ∧ w'.cell? ⟨w.heap.size + 1, 0, none⟩ = some (.int .u64 b.x0) ∧ w'.cell? ⟨w.heap.size + 1, 1, none⟩ = some (.int .u64 b.x1) ∧ w'.cell? ⟨w.heap.size + 1, 2, none⟩ = some (.int .u64 b.x2) ∧ w'.cell? ⟨w.heap.size + 1, 3, none⟩ = some (.int .u64 b.x3) ∧ w'.cell? ⟨w.heap.size, 0, none⟩ = some (.int .u64 a.x0) ∧ w'.cell? ⟨w.heap.size, 1, none⟩ = some (.int .u64 a.x1) ∧ w'.cell? ⟨w.heap.size, 2, none⟩ = some (.int .u64 a.x2) ∧ w'.cell? ⟨w.heap.size, 3, none⟩ = some (.int .u64 a.x3)) (set4 w2 (w.heap.size + 1 + 1) t) := fun w2 t h => KSt.out _ (h.aside N1.out (by omega) t)
 simp only [set4] at KT1
 replace KT1 := hidden KT1
 go_region_held3 (fun w' => St w [(w.heap.size + 1, b), (w.heap.size, a)] [w.heap.size + 1 + 1] w' ∧ w'.cell? ⟨w.heap.size + 1, 0, none⟩ = some (.int .u64 b.x0) ∧ w'.cell? ⟨w.heap.size + 1, 1, none⟩ = some (.int .u64 b.x1) ∧ w'.cell? ⟨w.heap.size + 1, 2, none⟩ = some (.int .u64 b.x2) ∧ w'.cell? ⟨w.heap.size + 1, 3, none⟩ = some (.int .u64 b.x3) ∧ w'.cell? ⟨w.heap.size, 0, none⟩ = some (.int .u64 a.x0) ∧ w'.cell? ⟨w.heap.size, 1, none⟩ = some (.int .u64 a.x1) ∧ w'.cell? ⟨w.heap.size, 2, none⟩ = some (.int .u64 a.x2) ∧ w'.cell? ⟨w.heap.size, 3, none⟩ = some (.int .u64 a.x3)) (first | with_reducible exact K0.out | with_reducible exact KB.out | with_reducible exact KA.out | with_reducible exact KT1.out wB t KB.out.1)
  (first | (go_at_call 42; refine (EN.out _ (SH.out.drew.tb HT.out)).mono ?_; rintro e wA ⟨u, rfl, hu, hbA⟩; have KA := hidden (KSt.out _ ((SH.out.sub (by simp)).drew.keep hbA))) | (go_at_call 41; refine (MO.out b u HB.out (E4.is.ok hu) (E4.is.lt hu) _ ((SH.out.drew.keep hbA).tb HT.out)).mono ?_; rintro e wB ⟨t, rfl, hm, hbB⟩; have sB := (SH.out.drew.keep hbA).keep hbB; have KB := hidden (KSt.out _ (sB.sub (by simp))); have q0 := (sB.live (w.heap.size + 1 + 1, zero4) (by simp)).c0; have q1 := (sB.live (w.heap.size + 1 + 1, zero4) (by simp)).c1; have q2 := (sB.live (w.heap.size + 1 + 1, zero4) (by simp)).c2; have q3 := (sB.live (w.heap.size + 1 + 1, zero4) (by simp)).c3; have f0 := (sB.wrt (w.heap.size + 1 + 1) (by simp)).1.f0; have f1 := (sB.wrt (w.heap.size + 1 + 1) (by simp)).1.f1; have f2 := (sB.wrt (w.heap.size + 1 + 1) (by simp)).1.f2; have f3 := (sB.wrt (w.heap.size + 1 + 1) (by simp)).1.f3; clear sB))
 go_wp2_with fail
 refine bodyPost_ret (v := .agg #[.int .u64 t.x0, .int .u64 t.x1, .int .u64 t.x2, .int .u64 t.x3]) (by simp [results, Tryz.results17, go_sem, q0, q1, q2, q3]) rfl ⟨t, rfl, is_of hm ?_, ?_⟩
 ·refine (mul_cong (mul_cong rfl (E4.is.m hu)) rfl).trans ?_
  rw [show b.n * (a.n * R) * Ri = a.n * b.n * R * Ri by grind]
  exact cancel' a.n b.n
 ·with_reducible exact (KT1.out wB t KB.out.1).1.bel
theorem Neg_any (a : E4) (w : World) (hT : Tb w) (ha : a.ok) :
  Calls Tryz.prog 47 #[a.v] w fun e w' => ∃ r : E4, e = .returned r.v ∧ r.is (-a.n) ∧ Below w.heap.size w w' := by
 have hzk : zero4.ok := ⟨by unfold Sm.Wd zero4; simp, by unfold Sm.Wd zero4; simp, by unfold Sm.Wd zero4; simp, by unfold Sm.Wd zero4; simp⟩
 have c1 := fun w T => Sub_any zero4 a w T hzk ha
 have e0 : zero4.n - a.n = -a.n := by
  have : zero4.n = 0 := rfl
  rw [this, Int.zero_sub]
 simp only [e0] at c1
 generalize -a.n = N at *
 simp only [E4.v, zero4] at c1 ⊢
 have C1 := hidden c1
 have HT := hidden hT
 clear c1 ha e0 hzk hT
 go_enter Tryz.func47, Tryz.ntmps47
 go_wp2_with fail
 refine (C1.out _ (HT.out.keep (bl_alloc2 _ _ _))).mono ?_
 rintro e w1 ⟨r, rfl, hr, hb1⟩
 clear C1
 obtain ⟨hc1, hf1⟩ := bcell hb1
 have hz1 : w.heap.size + 1 < w1.heap.size := by have := hb1.size; simp at this; omega
 go_wp2_with fail
 refine bodyPost_ret (v := .agg #[.int .u64 r.x0, .int .u64 r.x1, .int .u64 r.x2, .int .u64 r.x3]) (by simp [results, Tryz.results47, go_sem, hc1]) rfl ⟨r, rfl, hr, ?_⟩
 exact bl_set4 _ _ _ _ (bl_trans (bl_alloc2 w _ _) hb1) (by omega)
def E4.same (a b : E4) : Bool := a.x0 == b.x0 && (a.x1 == b.x1 && (a.x2 == b.x2 && (a.x3 == b.x3)))
theorem E4.same_iff (a b : E4) : a.same b = true ↔ a = b := by
 obtain ⟨a0, a1, a2, a3⟩ := a
 obtain ⟨b0, b1, b2, b3⟩ := b
 simp [E4.same]
theorem E4.same_self (a : E4) : a.same a = true := (E4.same_iff a a).2 rfl
theorem eqItems_ints {P : Program} (w : World) {e : TypeId} {k : IntKind} (d : Nat) (hp : P.plainKey e = true) (hu : P.underlying e = some (.int k)) (xs ys : Array Value) (f g : Nat → Int) :
  ∀ is : List Nat, (∀ i ∈ is, xs[i]? = some (.int k (f i)) ∧ ys[i]? = some (.int k (g i))) → (Op.eqItems (d + 1) e 1 xs ys is).run P w = .ok (is.all fun i => f i == g i) w
 | [], _ => by simp [Op.eqItems]
 | i :: is, h => by
  have hi := h i (by simp)
  have ih := eqItems_ints w d hp hu xs ys f g is (fun j hj => h j (by simp [hj]))
  simp only [Op.eqItems, Sem.run_bind, Nat.mul_one, run_part_plain w hp hi.1, run_part_plain w hp hi.2, Result.andThen_ok, run_equalIn_int w d e k k _ _ hu, List.all_cons]
  by_cases hx : f i = g i
  ·simp [hx, ih]
  ·simp [hx]
theorem eq4 (a b : E4) (w : World) : (Op.equalIn 10000 26 a.v b.v).run Tryz.prog w = .ok (a.same b) w := by
 have hi : Tryz.prog.info? 24 = some (Tryz.prog.info? 24).get! := by kernel_rfl
 have hc : Tryz.prog.cellsOf 24 = 1 := by kernel_rfl
 unfold E4.v
 rw [run_equalIn_array w 9999 _ _ (by kernel_rfl : Tryz.prog.underlying 26 = some (.array 4 24)) hi, hc]
 rw [eqItems_ints w (k := .u64) 9998 (by kernel_rfl) (by kernel_rfl) _ _ (fun i => [a.x0, a.x1, a.x2, a.x3].getD i 0) (fun i => [b.x0, b.x1, b.x2, b.x3].getD i 0)]
 ·rw [show List.range 4 = [0, 1, 2, 3] from rfl]
  simp only [List.all_cons, List.all_nil, Bool.and_true]
  rfl
 ·intro i hi
  have : i < 4 := List.mem_range.1 hi
  match i, this with
  | 0, _ => exact ⟨rfl, rfl⟩
  | 1, _ => exact ⟨rfl, rfl⟩
  | 2, _ => exact ⟨rfl, rfl⟩
  | 3, _ => exact ⟨rfl, rfl⟩
theorem zero_is (n : Int) : lst n = ⟨0, 0, 0, 0⟩ ↔ n % Sm.L = 0 := by
 constructor
 ·intro h
  have := lst_n n
  rw [h] at this
  rw [← this]; rfl
 ·intro h
  unfold lst; rw [h]; rfl
theorem IsZero_any (a : E4) (w : World) (hT : Tb w) (ha : a.ok) :
  Calls Tryz.prog 8 #[a.v] w fun e w' => e = .returned (.bool (decide (a.n % Sm.L = 0))) ∧ Below w.heap.size w w' := by
 have c1 := fun w T => Least_any a w T ha
 simp only [E4.v] at c1 ⊢
 have C1 := hidden c1
 have HT := hidden hT
 clear c1 ha hT
 go_enter Tryz.func8, Tryz.ntmps8
 go_wp2_with fail
 refine (C1.out _ (HT.out.keep (bl_alloc _ _))).mono ?_
 rintro e w1 ⟨r, rfl, hr, hb1⟩
 clear C1
 have hq : ∀ w, (Op.equalIn 10000 26 (.agg #[.int .u64 r.x0, .int .u64 r.x1, .int .u64 r.x2, .int .u64 r.x3]) (.agg #[.int .u64 0, .int .u64 0, .int .u64 0, .int .u64 0])).run Tryz.prog w = .ok (r.same ⟨0, 0, 0, 0⟩) w := fun w => eq4 r ⟨0, 0, 0, 0⟩ w
 have he : r.same ⟨0, 0, 0, 0⟩ = decide (a.n % Sm.L = 0) := by
  rw [Bool.eq_iff_iff, E4.same_iff, hr, zero_is]
  simp
 rw [he] at hq
 clear he
 generalize hB : decide (a.n % Sm.L = 0) = B at hq
 go_wp2_with fail
 refine bodyPost_ret (v := .bool B) (by simp [results, Tryz.results8, go_sem]) rfl ⟨by rw [hB], ?_⟩
 exact bl_trans (bl_alloc w _) hb1
theorem Blc.far1 {w : World} {b c : Nat} {o : E4} (h : Blc w b o) (hne : c ≠ b) (k : Nat) (v : Value) : Blc (w.setCell ⟨c, k, none⟩ v) b o :=
 ⟨(World.cell?_setCell_far w _ _ _ hne).trans h.c0, (World.cell?_setCell_far w _ _ _ hne).trans h.c1, (World.cell?_setCell_far w _ _ _ hne).trans h.c2, (World.cell?_setCell_far w _ _ _ hne).trans h.c3⟩
theorem Wrt.put {w : World} {b : Nat} (h : Wrt w b) (c k : Nat) (v : Value) : Wrt (w.setCell ⟨c, k, none⟩ v) b := by
 obtain ⟨h0, h1, h2, h3⟩ := h
 constructor <;> go_simp
theorem or_parts (i : Nat) (h l : Int) (hl0 : 0 ≤ l) (hl : l < 2 ^ i) (hh0 : 0 ≤ h) (hh : h * 2 ^ i < 18446744073709551616) (hi : i ≤ 63) : bits .or .u64 l (h * 2 ^ i) = l + h * 2 ^ i := by
 obtain ⟨H, rfl⟩ := Int.eq_ofNat_of_zero_le hh0
 obtain ⟨L, rfl⟩ := Int.eq_ofNat_of_zero_le hl0
 have e : (H : Int) * 2 ^ i = ((H * 2 ^ i : Nat) : Int) := by simp
 rw [e] at hh ⊢
 have hL : L < 2 ^ i := by
  have e2 : ((2 : Int) ^ i) = ((2 ^ i : Nat) : Int) := by simp
  rw [e2] at hl; omega
 have h64 : 2 ^ i ≤ 2 ^ 63 := Nat.pow_le_pow_right (by omega) hi
 rw [u64_or_nat _ _ (by omega) (by omega), Nat.or_comm]
 have := Nat.shiftLeft_add_eq_or_of_lt hL H
 rw [Nat.shiftLeft_eq] at this
 rw [← this]; omega
theorem St.less {w0 : World} {L M : List (Nat × E4)} {R Q : List Nat} {w1 : World} (h : St w0 L R w1) (hs : ∀ p ∈ M, p ∈ L) (hr : ∀ b ∈ Q, b ∈ R) : St w0 M Q w1 := ⟨fun p hp => h.live p (hs p hp), fun b hb => h.wrt b (hr b hb), h.bel⟩
theorem lst_add (n m : Int) : lst ((lst n).n + m) = lst (n + m) := lst_congr (by rw [lst_n, Int.add_emod, emod_emod_L, ← Int.add_emod])
theorem lst_add' (n m : Int) : lst (n + (lst m).n) = lst (n + m) := lst_congr (by rw [lst_n, Int.add_emod, emod_emod_L, ← Int.add_emod])
theorem lst_mul (n m : Int) : lst ((lst n).n * m) = lst (n * m) := lst_congr (by rw [lst_n, Int.mul_emod, emod_emod_L, ← Int.mul_emod])
theorem lst_mul' (n m : Int) : lst (n * (lst m).n) = lst (n * m) := lst_congr (by rw [lst_n, Int.mul_emod, emod_emod_L, ← Int.mul_emod])
theorem lst_n' (n : Int) : lst (lst n).n = lst n := lst_congr (by rw [lst_n, emod_emod_L])
theorem lst_neg (n : Int) : lst (-(lst n).n) = lst (-n) := by
 have h := lst_add' 0 (-(lst n).n)
 refine lst_congr ?_
 rw [lst_n]
 have e1 : -(n % Sm.L) = 0 - n % Sm.L := by omega
 have e2 : -n = 0 - n := by omega
 rw [e1, e2, Int.sub_emod, emod_emod_L, ← Int.sub_emod]
theorem zero_lst : lst 0 = zero4 := (zero_is 0).2 rfl
theorem fix {F : Nat} {args : Array Value} {w : World} {n : Int} {R : E4} (c : Calls Tryz.prog F args w (fun e w' => ∃ r : E4, e = .returned r.v ∧ r.is n ∧ Below w.heap.size w w')) (h : lst n = R) :
  Calls Tryz.prog F args w (fun e w' => e = .returned R.v ∧ Below w.heap.size w w') := by
 refine c.mono fun e w' q => ?_
 obtain ⟨r, q1, q2, q3⟩ := q
 have : r = R := Eq.trans q2 h
 subst this
 exact ⟨q1, q3⟩
theorem z4ok : zero4.ok := by rw [← zero_lst]; exact lst_ok _
theorem z4n : zero4.n = 0 := rfl
theorem cells_new (w : World) (cs : List Value) (t : TypeId) : ∀ j u, cs[j]? = some u → (w.alloc (.cells cs.toArray t)).cell? ((⟨w.heap.size, 0, none⟩ : Addr).add j) = some u := by
 intro j u hu
 have hadd : (⟨w.heap.size, 0, none⟩ : Addr).add j = ⟨w.heap.size, j, none⟩ := by unfold Addr.add; split <;> simp_all
 rw [hadd, cell_of_row (w.alloc (.cells cs.toArray t)) w.heap.size j cs.toArray t (0, 0) (heap_alloc_new w _)]
 simpa using hu
theorem drew_blW (w : World) : Below w.heap.size w w.drew := ⟨rfl, rfl, rfl, Nat.le_refl _, fun _ _ => rfl⟩
theorem addr_add (g j : Nat) : (⟨g, 0, none⟩ : Addr).add j = ⟨g, j, none⟩ := by unfold Addr.add; split <;> simp_all
theorem below_grown {w w' : World} {row : Option Nat} {base : Nat} (hg : w.grownBy w' row) (hb : base ≤ w.heap.size) (hr : ∀ k, row = some k → base ≤ k) : Below base w w' :=
 ⟨hg.os, hg.tape, hg.output, hg.size, fun k hk => hg.block k (by omega) (fun e => by have := hr k e.symm; omega)⟩
theorem below_trans {n : Nat} {w1 w2 w3 : World} (h1 : Below n w1 w2) (h2 : Below n w2 w3) : Below n w1 w3 := ⟨h2.os.trans h1.os, h2.tape.trans h1.tape, h2.output.trans h1.output, Nat.le_trans h1.size h2.size, fun k hk => (h2.block k hk).trans (h1.block k hk)⟩
structure Rl (w : World) (b o n : Nat) (g : Nat → E4) : Prop where
 c0 : ∀ k, k < n → w.cell? ⟨b, o + k * 4, none⟩ = some (.int .u64 (g k).x0)
 c1 : ∀ k, k < n → w.cell? ⟨b, o + k * 4 + 1, none⟩ = some (.int .u64 (g k).x1)
 c2 : ∀ k, k < n → w.cell? ⟨b, o + k * 4 + 2, none⟩ = some (.int .u64 (g k).x2)
 c3 : ∀ k, k < n → w.cell? ⟨b, o + k * 4 + 3, none⟩ = some (.int .u64 (g k).x3)
theorem Rl.keep {w1 w2 : World} {b o n : Nat} {g : Nat → E4} (h : Rl w1 b o n g) (hb : Below w1.heap.size w1 w2) : Rl w2 b o n g :=
 ⟨fun k hk => cell_keep (h.c0 k hk) hb, fun k hk => cell_keep (h.c1 k hk) hb, fun k hk => cell_keep (h.c2 k hk) hb, fun k hk => cell_keep (h.c3 k hk) hb⟩
def Lm (w : World) (P : Option Addr) (n : Nat) (g : Nat → E4) : Prop := ∃ sb so : Nat, (0 < n → P = some ⟨sb, so, none⟩) ∧ (0 < n → Rl w sb so n g)
theorem Lm.keep {w1 w2 : World} {P : Option Addr} {n : Nat} {g : Nat → E4} (h : Lm w1 P n g) (hb : Below w1.heap.size w1 w2) : Lm w2 P n g := by
 obtain ⟨sb, so, h1, h2⟩ := h
 exact ⟨sb, so, h1, fun hl => (h2 hl).keep hb⟩
def svs (n : Nat) (g : Nat → E4) : List Value := (List.range n).flatMap fun k => [.int .u64 (g k).x0, .int .u64 (g k).x1, .int .u64 (g k).x2, .int .u64 (g k).x3]
theorem svs_succ (n : Nat) (g : Nat → E4) : svs (n + 1) g = svs n g ++ [.int .u64 (g n).x0, .int .u64 (g n).x1, .int .u64 (g n).x2, .int .u64 (g n).x3] := by simp [svs, List.range_succ]
theorem svs_len (n : Nat) (g : Nat → E4) : (svs n g).length = n * 4 := by
 induction n with
 | zero => rfl
 | succ n ih => rw [svs_succ, List.length_append, ih]; simp; omega
theorem below_less {m n : Nat} {w1 w2 : World} (h : Below n w1 w2) (hm : m ≤ n) : Below m w1 w2 := ⟨h.os, h.tape, h.output, h.size, fun k hk => h.block k (by omega)⟩
theorem sinfoG : (Tryz.prog.info? 26).map (fun i => (i.zero, i.size, i.bytes)) = some (some (.agg #[.int .u64 0, .int .u64 0, .int .u64 0, .int .u64 0]), 4, 32) := by kernel_rfl
theorem results_cellM {fn : Func} {p : Tmp} {ty : TypeId} (h : fn.results = #[.cell p ty]) (tmps : Array Value) (P : Program) (w : World) (a : Addr) (v : Value) (ha : tmps.getD p undef = .pointer (some a)) (hl : (loadVar ty a).run P w = .ok v w) :
  (results fn tmps).run P w = .ok v w := by
 have e : (results fn tmps).run P w = ((asAddr (tmps.getD p undef)).run P w).andThen fun a w1 => (loadVar ty a).run P w1 := by
  simp only [results, h]
  simp [Sem.run_bind, Result.andThen]
 rw [e, ha]
 simp [asAddr, hl, Result.andThen]
theorem below_setCellsM {w0 : World} (b : Nat) : ∀ (vs : List Value) (o : Nat) {w : World}, Below w0.heap.size w0 w → w0.heap.size ≤ b → Below w0.heap.size w0 (w.setCells b o vs)
 | [], _, _, h, _ => h
 | v :: vs, o, w, h, hb => by
  rw [World.setCells]
  exact below_setCellsM b vs (o + 1) (h.setCell hb v) hb
theorem size_setCellsM (b : Nat) : ∀ (vs : List Value) (o : Nat) (w : World), (w.setCells b o vs).heap.size = w.heap.size
 | [], _, _ => rfl
 | v :: vs, o, w => by rw [World.setCells, size_setCellsM b vs (o + 1)]; simp
theorem range_keepM {w w' : World} {b : Nat} {cs : List Value} (h : w.rangeAt b 0 cs) (hb : Below w.heap.size w w') : w'.rangeAt b 0 cs := fun j v hv => by
 have := h j v hv
 rw [hb.cell (p := ⟨b, 0 + j, none⟩) (World.block_lt_of_cell? w ⟨b, 0 + j, none⟩ this)]
 exact this
theorem there_keepM {w w' : World} {b n : Nat} (h : w.there b 0 n) (hb : Below w.heap.size w w') : w'.there b 0 n := fun j hj => by
 obtain ⟨h1, h2⟩ := h j hj
 obtain ⟨u, hu⟩ := Option.isSome_iff_exists.1 h1
 have hl := World.block_lt_of_cell? w _ hu
 exact ⟨by rw [hb.cell (p := ⟨b, 0 + j, none⟩) hl]; exact h1, by rw [hb.frozen (p := ⟨b, 0 + j, none⟩) hl]; exact h2⟩
theorem there_setM {w : World} {b n : Nat} (h : w.there b 0 n) (c : Nat) (vs : List Value) : (w.setCells c 0 vs).there b 0 n := fun j hj =>
 ⟨World.isSome_setCells c vs 0 w _ (h j hj).1, by rw [World.frozen?_setCells]; exact (h j hj).2⟩
theorem range_newM (w : World) (cs : List Value) (t : TypeId) : (w.alloc (.cells cs.toArray t)).rangeAt w.heap.size 0 cs := fun j v hv => by
 rw [cell_of_row _ _ (0 + j) cs.toArray t (0, 0) (heap_alloc_new w _), Nat.zero_add]
 simpa using hv
theorem there_newM (w : World) (cs : List Value) (t : TypeId) : (w.alloc (.cells cs.toArray t)).there w.heap.size 0 cs.length := fun j hj => by
 refine ⟨?_, by go_simp⟩
 rw [cell_of_row _ _ (0 + j) cs.toArray t (0, 0) (heap_alloc_new w _), Nat.zero_add]
 simp [hj]
structure Mw (w0 : World) (L : List (Nat × List Value)) (w : World) : Prop where
 bel : Below w0.heap.size w0 w
 r : ∀ p ∈ L, w.rangeAt p.1 0 p.2 ∧ w.there p.1 0 p.2.length ∧ w0.heap.size ≤ p.1 ∧ p.1 < w.heap.size
theorem Mw.start (w : World) : Mw w [] w := ⟨Below.refl _ _, fun p hp => by cases hp⟩
theorem Mw.keep {w0 : World} {L : List (Nat × List Value)} {w w' : World} (h : Mw w0 L w) (hb : Below w.heap.size w w') : Mw w0 L w' :=
 ⟨bl_trans h.bel hb, fun p hp => ⟨range_keepM (h.r p hp).1 hb, there_keepM (h.r p hp).2.1 hb, (h.r p hp).2.2.1, Nat.lt_of_lt_of_le (h.r p hp).2.2.2 hb.size⟩⟩
theorem Mw.new {w0 : World} {L : List (Nat × List Value)} {w : World} (h : Mw w0 L w) (cs : List Value) (t : TypeId) : Mw w0 ((w.heap.size, cs) :: L) (w.alloc (.cells cs.toArray t)) := by
 have k := h.keep (bl_alloc w (.cells cs.toArray t))
 refine ⟨k.bel, fun p hp => ?_⟩
 rcases List.mem_cons.1 hp with rfl | hp
 ·exact ⟨range_newM w cs t, there_newM w cs t, h.bel.size, by simp⟩
 ·exact k.r p hp
theorem Mw.set {w0 : World} {L M : List (Nat × List Value)} {w : World} (h : Mw w0 L w) {c : Nat} {o : List Value} (ds : List Value) (hc : (c, o) ∈ L) (hl : ds.length = o.length) (hs : ∀ p ∈ M, p ∈ L ∧ c ≠ p.1) :
  Mw w0 ((c, ds) :: M) (w.setCells c 0 ds) := by
 obtain ⟨h1, ht, hg, hlt⟩ := h.r _ hc
 simp only at hg ht hlt
 refine ⟨below_setCellsM c ds 0 h.bel hg, fun p hp => ?_⟩
 rcases List.mem_cons.1 hp with rfl | hp
 ·exact ⟨World.rangeAt_setCells_same w c 0 ds (by rw [hl]; exact ht), there_setM (by simp only [hl]; exact ht) _ _, hg, by rw [size_setCellsM]; exact hlt⟩
 ·obtain ⟨h3, h2⟩ := hs p hp
  exact ⟨World.rangeAt_setCells_apart (h.r p h3).1 _ _ _ (Or.inl (fun e => h2 e.symm)), there_setM (h.r p h3).2.1 _ _, (h.r p h3).2.2.1, by rw [size_setCellsM]; exact (h.r p h3).2.2.2⟩
theorem Mw.ther {w0 : World} {L : List (Nat × List Value)} {w : World} (h : Mw w0 L w) {c : Nat} {o : List Value} (ds : List Value) (hc : (c, o) ∈ L) (hl : ds.length = o.length) : w.there c 0 ds.toArray.size := by
 have := (h.r _ hc).2.1
 simpa [hl] using this
theorem Mw.var {w0 : World} {L : List (Nat × List Value)} {w : World} (h : Mw w0 L w) {c : Nat} {ds : List Value} (hc : (c, ds) ∈ L) {ty : TypeId} {d : TypeDesc} (hu : Tryz.prog.underlying ty = some d) (hd : d.isRow = true) (hi : (Tryz.prog.info? ty).map (·.size) = some ds.length) :
  (loadVar ty ⟨c, 0, none⟩).run Tryz.prog w = .ok (.agg ds.toArray) w := run_loadVar_mid w c 0 ty ds d (h.r _ hc).1 hu hd hi
def setS (w : World) (b o : Nat) (x : E4) : World := (((w.setCell ⟨b, o, none⟩ (.int .u64 x.x0)).setCell ⟨b, o + 1, none⟩ (.int .u64 x.x1)).setCell ⟨b, o + 2, none⟩ (.int .u64 x.x2)).setCell ⟨b, o + 3, none⟩ (.int .u64 x.x3)
theorem setS_size (w : World) (b o : Nat) (x : E4) : (setS w b o x).heap.size = w.heap.size := by unfold setS; simp
theorem setS_frozen (w : World) (b o : Nat) (x : E4) (a : Addr) : (setS w b o x).frozen? a = w.frozen? a := by unfold setS; simp only [World.frozen?_setCell]
theorem setC_neG (W : World) (b x k : Nat) (v : Value) (h : k ≠ x) : (W.setCell ⟨b, x, none⟩ v).cell? ⟨b, k, none⟩ = W.cell? ⟨b, k, none⟩ := World.cell?_setCell_other _ _ _ _ (fun e => h (congrArg Addr.off e).symm)
theorem setS_out (w : World) (b o : Nat) (x : E4) {k : Nat} (h : k < o ∨ o + 4 ≤ k) : (setS w b o x).cell? ⟨b, k, none⟩ = w.cell? ⟨b, k, none⟩ := by
 unfold setS
 rw [setC_neG _ _ _ _ _ (by omega), setC_neG _ _ _ _ _ (by omega), setC_neG _ _ _ _ _ (by omega), setC_neG _ _ _ _ _ (by omega)]
theorem setS_in (w : World) (b o : Nat) (x : E4) {v0 v1 v2 v3 : Value} (h0 : w.cell? ⟨b, o, none⟩ = some v0) (h1 : w.cell? ⟨b, o + 1, none⟩ = some v1) (h2 : w.cell? ⟨b, o + 2, none⟩ = some v2) (h3 : w.cell? ⟨b, o + 3, none⟩ = some v3) :
  (setS w b o x).cell? ⟨b, o, none⟩ = some (.int .u64 x.x0) ∧ (setS w b o x).cell? ⟨b, o + 1, none⟩ = some (.int .u64 x.x1) ∧ (setS w b o x).cell? ⟨b, o + 2, none⟩ = some (.int .u64 x.x2) ∧ (setS w b o x).cell? ⟨b, o + 3, none⟩ = some (.int .u64 x.x3) := by
 unfold setS
 refine ⟨?_, ?_, ?_, ?_⟩ <;> go_simp
theorem setS_bel {w0 w : World} {m b o : Nat} {x : E4} (h : Below m w0 w) (hb : m ≤ b) : Below m w0 (setS w b o x) := by
 unfold setS
 exact (((h.setCell hb _).setCell hb _).setCell hb _).setCell hb _
structure Rm (w : World) (b n : Nat) (g : Nat → E4) : Prop where
 lt : b < w.heap.size
 r : Rl w b 0 n g
 fr : ∀ k, k < n * 4 → w.frozen? ⟨b, k, none⟩ = false
theorem Rm.keep {w w' : World} {b n : Nat} {g : Nat → E4} (h : Rm w b n g) (hb : Below w.heap.size w w') : Rm w' b n g :=
 ⟨Nat.lt_of_lt_of_le h.lt hb.size, h.r.keep hb, fun k hk => ((bcell hb).2 _ _ h.lt).trans (h.fr k hk)⟩
theorem Rm.made (w : World) (n : Nat) (t : TypeId) : Rm (w.alloc (.cells (madeCells #[.int .u64 0, .int .u64 0, .int .u64 0, .int .u64 0] (n * 4)) t)) w.heap.size n (fun _ => ⟨0, 0, 0, 0⟩) := by
 have hc : ∀ j, j < n * 4 → (w.alloc (.cells (madeCells #[.int .u64 0, .int .u64 0, .int .u64 0, .int .u64 0] (n * 4)) t)).cell? ⟨w.heap.size, j, none⟩ = some (.int .u64 0) := fun j hj => by
  rw [cell_of_row (w.alloc (.cells (madeCells #[.int .u64 0, .int .u64 0, .int .u64 0, .int .u64 0] (n * 4)) t)) w.heap.size j _ t (0, 0) (heap_alloc_new w _)]
  have h2 : j % 4 = 0 ∨ j % 4 = 1 ∨ j % 4 = 2 ∨ j % 4 = 3 := by omega
  rcases h2 with h2 | h2 | h2 | h2 <;> simp [madeCells, hj, h2]
 exact ⟨by simp, ⟨fun k hk => hc _ (by omega), fun k hk => hc _ (by omega), fun k hk => hc _ (by omega), fun k hk => hc _ (by omega)⟩, fun k hk => by go_simp⟩
theorem Rm.set {w : World} {b n : Nat} {g : Nat → E4} (r : Rm w b n g) (k : Nat) (hk : k < n) (x : E4) : Rm (setS w b (k * 4) x) b n (fun j => if j = k then x else g j) := by
 have c0 := r.r.c0 k hk; have c1 := r.r.c1 k hk; have c2 := r.r.c2 k hk; have c3 := r.r.c3 k hk
 rw [Nat.zero_add] at c0 c1 c2 c3
 obtain ⟨e0, e1, e2, e3⟩ := setS_in w b (k * 4) x c0 c1 c2 c3
 have out : ∀ i, i ≠ k → ∀ d, d < 4 → (setS w b (k * 4) x).cell? ⟨b, i * 4 + d, none⟩ = w.cell? ⟨b, i * 4 + d, none⟩ := fun i hi d hd => setS_out _ _ _ _ (by omega)
 refine ⟨by rw [setS_size]; exact r.lt, ⟨fun i hi => ?_, fun i hi => ?_, fun i hi => ?_, fun i hi => ?_⟩, fun j hj => by rw [setS_frozen]; exact r.fr j hj⟩
 ·rw [Nat.zero_add]
  by_cases e : i = k
  ·rw [if_pos e, e]; exact e0
  ·rw [if_neg e, ← Nat.add_zero (i * 4), out i e 0 (by omega), Nat.add_zero, ← Nat.zero_add (i * 4)]; exact r.r.c0 i hi
 ·rw [Nat.zero_add]
  by_cases e : i = k
  ·rw [if_pos e, e]; exact e1
  ·rw [if_neg e, out i e 1 (by omega), ← Nat.zero_add (i * 4)]; exact r.r.c1 i hi
 ·rw [Nat.zero_add]
  by_cases e : i = k
  ·rw [if_pos e, e]; exact e2
  ·rw [if_neg e, out i e 2 (by omega), ← Nat.zero_add (i * 4)]; exact r.r.c2 i hi
 ·rw [Nat.zero_add]
  by_cases e : i = k
  ·rw [if_pos e, e]; exact e3
  ·rw [if_neg e, out i e 3 (by omega), ← Nat.zero_add (i * 4)]; exact r.r.c3 i hi
theorem Same_any (a b : E4) (w : World) (hT : Tb w) (ha : a.ok) (hb : b.ok) :
  Calls Tryz.prog 14 #[a.v, b.v] w fun e w' => e = .returned (.bool ((lst a.n).same (lst b.n))) ∧ Below w.heap.size w w' := by
 have s0 := ((St.start w a 26).new b 26)
 simp only [World.size_alloc] at s0
 have S0 := hidden s0
 have HT := hidden hT
 obtain ⟨A, hA⟩ : ∃ t : E4, lst a.n = t := ⟨_, rfl⟩
 obtain ⟨B, hB⟩ : ∃ t : E4, lst b.n = t := ⟨_, rfl⟩
 have CA := hidden (fun w T => fix (Least_any a w T ha) hA)
 have CB := hidden (fun w T => fix (Least_any b w T hb) hB)
 have hq := fun w => eq4 A B w
 rw [hA, hB]
 generalize hC : A.same B = C at hq
 clear s0 ha hb hT hA hB hC
 simp only [E4.v] at CA CB hq ⊢
 go_enter Tryz.func14, Tryz.ntmps14
 go_wp2_with fail
 have KSt : Hid (∀ w' : World, St w [(w.heap.size + 1, b), (w.heap.size, a)] [] w' → (fun w' => St w [(w.heap.size + 1, b), (w.heap.size, a)] [] w' ∧ w'.cell? ⟨w.heap.size + 1, 0, none⟩ = some (.int .u64 b.x0) ∧ w'.cell? ⟨w.heap.size + 1, 1, none⟩ = some (.int .u64 b.x1) ∧ w'.cell? ⟨w.heap.size + 1, 2, none⟩ = some (.int .u64 b.x2) ∧ w'.cell? ⟨w.heap.size + 1, 3, none⟩ = some (.int .u64 b.x3) ∧ w'.cell? ⟨w.heap.size, 0, none⟩ = some (.int .u64 a.x0) ∧ w'.cell? ⟨w.heap.size, 1, none⟩ = some (.int .u64 a.x1) ∧ w'.cell? ⟨w.heap.size, 2, none⟩ = some (.int .u64 a.x2) ∧ w'.cell? ⟨w.heap.size, 3, none⟩ = some (.int .u64 a.x3)) w') := hidden (fun w' h => ⟨h, (h.live (w.heap.size + 1, b) (by simp)).c0, (h.live (w.heap.size + 1, b) (by simp)).c1, (h.live (w.heap.size + 1, b) (by simp)).c2, (h.live (w.heap.size + 1, b) (by simp)).c3, (h.live (w.heap.size, a) (by simp)).c0, (h.live (w.heap.size, a) (by simp)).c1, (h.live (w.heap.size, a) (by simp)).c2, (h.live (w.heap.size, a) (by simp)).c3⟩)
 have KTb : Hid (∀ w' : World, St w [(w.heap.size + 1, b), (w.heap.size, a)] [] w' → Tb w') := hidden (fun w' h => h.tb HT.out)
 have K0 : Hid ((fun w' => St w [(w.heap.size + 1, b), (w.heap.size, a)] [] w' ∧ w'.cell? ⟨w.heap.size + 1, 0, none⟩ = some (.int .u64 b.x0) ∧ w'.cell? ⟨w.heap.size + 1, 1, none⟩ = some (.int .u64 b.x1) ∧ w'.cell? ⟨w.heap.size + 1, 2, none⟩ = some (.int .u64 b.x2) ∧ w'.cell? ⟨w.heap.size + 1, 3, none⟩ = some (.int .u64 b.x3) ∧ w'.cell? ⟨w.heap.size, 0, none⟩ = some (.int .u64 a.x0) ∧ w'.cell? ⟨w.heap.size, 1, none⟩ = some (.int .u64 a.x1) ∧ w'.cell? ⟨w.heap.size, 2, none⟩ = some (.int .u64 a.x2) ∧ w'.cell? ⟨w.heap.size, 3, none⟩ = some (.int .u64 a.x3)) _) := hidden (KSt.out _ (S0.out).drew)
 go_region_held3 (fun w' => St w [(w.heap.size + 1, b), (w.heap.size, a)] [] w' ∧ w'.cell? ⟨w.heap.size + 1, 0, none⟩ = some (.int .u64 b.x0) ∧ w'.cell? ⟨w.heap.size + 1, 1, none⟩ = some (.int .u64 b.x1) ∧ w'.cell? ⟨w.heap.size + 1, 2, none⟩ = some (.int .u64 b.x2) ∧ w'.cell? ⟨w.heap.size + 1, 3, none⟩ = some (.int .u64 b.x3) ∧ w'.cell? ⟨w.heap.size, 0, none⟩ = some (.int .u64 a.x0) ∧ w'.cell? ⟨w.heap.size, 1, none⟩ = some (.int .u64 a.x1) ∧ w'.cell? ⟨w.heap.size, 2, none⟩ = some (.int .u64 a.x2) ∧ w'.cell? ⟨w.heap.size, 3, none⟩ = some (.int .u64 a.x3)) (first | with_reducible exact K0.out | with_reducible exact hk.out)
  (first | (go_at_call 23; with_reducible refine (CA.out _ (KTb.out _ (And.left (by assumption)))).mono ?_; rintro e wn ⟨rfl, hb⟩; have hk := hidden (KSt.out _ ((show St w [(w.heap.size + 1, b), (w.heap.size, a)] [] _ from And.left (by assumption)).keep hb))) | (go_at_call 23; with_reducible refine (CB.out _ (KTb.out _ (And.left (by assumption)))).mono ?_; rintro e wn ⟨rfl, hb⟩; have hk := hidden (KSt.out _ ((show St w [(w.heap.size + 1, b), (w.heap.size, a)] [] _ from And.left (by assumption)).keep hb))))
 go_wp2_with fail
 go_ret
 exact ⟨rfl, hk.out.1.bel⟩
theorem shr_bd (x : Int) (m : Nat) (h : Sm.Wd x) : 0 ≤ x / 2 ^ m ∧ x / 2 ^ m ≤ 18446744073709551615 := by
 unfold Sm.Wd at h
 have hp : (0 : Int) < 2 ^ m := Int.pow_pos (by decide)
 refine ⟨Int.ediv_nonneg h.1 (by omega), ?_⟩
 have := Int.ediv_le_self (2 ^ m) h.1
 omega
theorem p2pos (k : Nat) : (0 : Int) < 2 ^ k := Int.pow_pos (by decide)
theorem p2mul (m k : Nat) (h : m ≤ k) : (2 : Int) ^ k = 2 ^ m * 2 ^ (k - m) := by rw [← Int.pow_add]; congr 1; omega
theorem win_gen (lo X H : Int) (q off m : Nat) (h0 : 0 ≤ lo) (h1 : lo < 2 ^ (64 * q)) (ho : off < 64) :
  (lo + 2 ^ (64 * q) * (X + 2 ^ 64 * H)) / 2 ^ (64 * q + off) % 2 ^ m = (X / 2 ^ off + 2 ^ (64 - off) * H) % 2 ^ m := by
 have hp := p2pos (64 * q)
 have hq := p2pos off
 rw [Int.pow_add, ← Int.ediv_ediv_of_nonneg (by omega), Int.add_mul_ediv_left _ _ (by omega), Int.ediv_eq_zero_of_lt h0 h1, Int.zero_add, p2mul off 64 (by omega), Int.mul_assoc, Int.add_mul_ediv_left _ _ (by omega)]
theorem win_red (X y z : Int) (off m : Nat) (ho : off < 64) (hm : m ≤ 64) :
  (X + 2 ^ (64 - off) * (y + 2 ^ 64 * z)) % 2 ^ m = (X + (y % 2 ^ off) * 2 ^ (64 - off)) % 2 ^ m := by
 have e := Int.emod_add_mul_ediv y (2 ^ off)
 have h64 : (2 : Int) ^ (64 - off) * 2 ^ off = 2 ^ 64 := by rw [← Int.pow_add]; congr 1; omega
 have : X + 2 ^ (64 - off) * (y + 2 ^ 64 * z) = X + (y % 2 ^ off) * 2 ^ (64 - off) + 2 ^ m * (2 ^ (64 - m) * (y / 2 ^ off + 2 ^ (64 - off) * z)) := by
  rw [← Int.mul_assoc (2 ^ m), ← p2mul m 64 hm, Int.mul_add, Int.mul_add (2 ^ 64), show (2 : Int) ^ (64 - off) * y = (y % 2 ^ off) * 2 ^ (64 - off) + 2 ^ 64 * (y / 2 ^ off) by
   rw [← h64, Int.mul_assoc, Int.mul_comm (y % 2 ^ off), ← Int.mul_add, e], show (2 : Int) ^ (64 - off) * (2 ^ 64 * z) = 2 ^ 64 * (2 ^ (64 - off) * z) by rw [← Int.mul_assoc, Int.mul_comm (2 ^ (64 - off)), Int.mul_assoc]]
  omega
 rw [this, Int.add_mul_emod_self_left]
def win (N : Int) (k m : Nat) : Int := N / 2 ^ k % 2 ^ m
theorem win_bd (N : Int) (k m : Nat) : 0 ≤ win N k m ∧ win N k m < 2 ^ m := ⟨Int.emod_nonneg _ (by have := p2pos m; omega), Int.emod_lt_of_pos _ (p2pos m)⟩
theorem win_low (a : E4) (ha : a.ok) (k m : Nat) (hk : k / 64 + 1 < 4) (hm : m ≤ 64) :
  win a.n k m = (a.get (k / 64) / 2 ^ (k % 64) + (a.get (k / 64 + 1) % 2 ^ (k % 64)) * 2 ^ (64 - k % 64)) % 2 ^ m := by
 obtain ⟨⟨a0, a1⟩, ⟨b0, b1⟩, ⟨c0, c1⟩, ⟨d0, d1⟩⟩ := ha
 have ho : k % 64 < 64 := by omega
 unfold win
 obtain ⟨q, hq⟩ : ∃ q, k / 64 = q := ⟨_, rfl⟩
 obtain ⟨off, hf⟩ : ∃ off, k % 64 = off := ⟨_, rfl⟩
 rw [show k = 64 * q + off by omega, show (64 * q + off) / 64 = q by omega, show (64 * q + off) % 64 = off by omega]
 obtain rfl | rfl | rfl : q = 0 ∨ q = 1 ∨ q = 2 := by omega
 ·have e : a.n = 0 + 2 ^ (64 * 0) * (a.x0 + 2 ^ 64 * (a.x1 + 2 ^ 64 * (a.x2 + 2 ^ 64 * a.x3))) := by
   simp only [E4.n, Sm.V, Int.reducePow, Nat.reduceMul]; omega
  rw [e, win_gen _ _ _ _ _ _ (by omega) (p2pos _) (by omega), win_red _ _ _ _ _ (by omega) hm]
  rfl
 ·have e : a.n = a.x0 + 2 ^ (64 * 1) * (a.x1 + 2 ^ 64 * (a.x2 + 2 ^ 64 * a.x3)) := by
   simp only [E4.n, Sm.V, Int.reducePow, Nat.reduceMul]; omega
  rw [e, win_gen _ _ _ _ _ _ (by omega) (by simp only [Int.reducePow, Nat.reduceMul]; omega) (by omega), win_red _ _ _ _ _ (by omega) hm]
  rfl
 ·have e : a.n = (a.x0 + 2 ^ 64 * a.x1) + 2 ^ (64 * 2) * (a.x2 + 2 ^ 64 * (a.x3 + 2 ^ 64 * 0)) := by
   simp only [E4.n, Sm.V, Int.reducePow, Nat.reduceMul]; omega
  rw [e, win_gen _ _ _ _ _ _ (by simp only [Int.reducePow]; omega) (by simp only [Int.reducePow, Nat.reduceMul]; omega) (by omega), win_red _ _ _ _ _ (by omega) hm]
  rfl
theorem win_top (a : E4) (ha : a.ok) (k m : Nat) (hk : k / 64 = 3) :
  win a.n k m = a.get 3 / 2 ^ (k % 64) % 2 ^ m := by
 obtain ⟨⟨a0, a1⟩, ⟨b0, b1⟩, ⟨c0, c1⟩, ⟨d0, d1⟩⟩ := ha
 unfold win
 obtain ⟨off, hf⟩ : ∃ off, k % 64 = off := ⟨_, rfl⟩
 rw [show k = 64 * 3 + off by omega, show (64 * 3 + off) % 64 = off by omega]
 have e : a.n = (a.x0 + 2 ^ 64 * a.x1 + 2 ^ 128 * a.x2) + 2 ^ (64 * 3) * (a.x3 + 2 ^ 64 * 0) := by
  simp only [E4.n, Sm.V, Int.reducePow, Nat.reduceMul]; omega
 rw [e, win_gen _ _ _ _ _ _ (by simp only [Int.reducePow]; omega) (by simp only [Int.reducePow, Nat.reduceMul]; omega) (by omega), Int.mul_zero, Int.add_zero]
 rfl
theorem or_win (x y : Int) (off : Nat) (hx : Sm.Wd x) (ho : off < 64) :
  bits .or .u64 (x / 2 ^ off) (IntKind.u64.wrap (y * 2 ^ (64 - off))) = x / 2 ^ off + (y % 2 ^ off) * 2 ^ (64 - off) ∧
  0 ≤ x / 2 ^ off + (y % 2 ^ off) * 2 ^ (64 - off) ∧ x / 2 ^ off + (y % 2 ^ off) * 2 ^ (64 - off) ≤ 18446744073709551615 := by
 unfold Sm.Wd at *
 have hp := p2pos off
 have hr := p2pos (64 - off)
 have h64 : (2 : Int) ^ off * 2 ^ (64 - off) = 18446744073709551616 := by rw [← Int.pow_add, show off + (64 - off) = 64 by omega]; decide
 have y0 := Int.emod_nonneg y (show (2 : Int) ^ off ≠ 0 by omega)
 have y1 := Int.emod_lt_of_pos y hp
 have x0 : 0 ≤ x / 2 ^ off := Int.ediv_nonneg hx.1 (by omega)
 have x1 : x / 2 ^ off < 2 ^ (64 - off) := by
  apply Int.ediv_lt_of_lt_mul hp
  rw [Int.mul_comm, h64]
  omega
 have e : IntKind.u64.wrap (y * 2 ^ (64 - off)) = (y % 2 ^ off) * 2 ^ (64 - off) := by
  rw [IntKind.wrap_u64, ← h64, Int.mul_comm y, Int.mul_comm (2 ^ off), Int.mul_emod_mul_of_pos _ _ hr, Int.mul_comm]
 have hb : (y % 2 ^ off) * 2 ^ (64 - off) + 2 ^ (64 - off) ≤ 18446744073709551616 := by
  have : (y % 2 ^ off + 1) * 2 ^ (64 - off) ≤ 2 ^ off * 2 ^ (64 - off) := Int.mul_le_mul_of_nonneg_right (by omega) (by omega)
  rw [h64, Int.add_mul, Int.one_mul] at this
  exact this
 have hn : 0 ≤ (y % 2 ^ off) * 2 ^ (64 - off) := Int.mul_nonneg y0 (by omega)
 refine ⟨?_, by omega, by omega⟩
 rw [e]
 by_cases hz : off = 0
 ·subst hz
  rw [show y % 2 ^ 0 = 0 by simp, Int.zero_mul]
  have hx' : x / 2 ^ 0 = x := by simp
  rw [hx', u64_or x 0 hx.1 (by omega) (by omega) (by omega)]
  simp
  omega
 ·exact or_parts (64 - off) _ _ x0 x1 y0 (by omega) (by omega)
theorem and_pow (u : Int) (m : Nat) (h0 : 0 ≤ u) (h1 : u ≤ 18446744073709551615) (hm : m ≤ 12) : bits .and .u64 u (2 ^ m - 1) = u % 2 ^ m := by
 have hp := p2pos m
 have hl : (2 : Int) ^ m ≤ 2 ^ 12 := by
  have := p2mul m 12 hm
  have := p2pos (12 - m)
  rw [p2mul m 12 hm]
  have h1 := Int.mul_le_mul_of_nonneg_left (c := 2 ^ m) (show (1 : Int) ≤ 2 ^ (12 - m) by omega) (by omega)
  rw [Int.mul_one] at h1
  exact h1
 rw [show (2 : Int) ^ 12 = 4096 from rfl] at hl
 rw [u64_and u (2 ^ m - 1) h0 (by omega) (by omega) (by omega)]
 obtain ⟨U, rfl⟩ := Int.eq_ofNat_of_zero_le h0
 have e : ((2 : Int) ^ m - 1).toNat = 2 ^ m - 1 := by
  have : (2 : Int) ^ m = ((2 ^ m : Nat) : Int) := by simp
  omega
 rw [e, Int.toNat_natCast, Nat.and_two_pow_sub_one_eq_mod]
 simp
theorem window_any (a : E4) (k m : Nat) (w : World) (ha : a.ok) (hk : k < 256) (hm : m ≤ 12) :
  Calls Tryz.prog 80 #[a.v, .int .i64 k, .int .i64 m] w fun e w' => e = .returned (.int .i64 (win a.n k m)) ∧ Below w.heap.size w w' := by
 have s0 := St.start w a 26
 have S0 := hidden s0
 have WL := hidden (fun h => win_low a ha k m h (by omega))
 have WT := hidden (fun h => win_top a ha k m h)
 have wb := win_bd a.n k m
 have hl : (2 : Int) ^ m ≤ 4096 := by
  have := p2pos (12 - m)
  have e := p2mul m 12 hm
  rw [show (4096 : Int) = 2 ^ 12 from rfl, e]
  have h1 := Int.mul_le_mul_of_nonneg_left (c := 2 ^ m) (show (1 : Int) ≤ 2 ^ (12 - m) by omega) (by have := p2pos m; omega)
  rw [Int.mul_one] at h1
  exact h1
 have hp := p2pos m
 have sh : IntKind.u64.wrap (2 ^ m) = 2 ^ m := by rw [IntKind.wrap_u64]; omega
 have sh2 : IntKind.u64.wrap (2 ^ m - 1) = 2 ^ m - 1 := by rw [IntKind.wrap_u64]; omega
 have AP := hidden (fun u h0 h1 => and_pow u m h0 h1 hm)
 obtain ⟨r, hr⟩ : ∃ r, win a.n k m = r := ⟨_, rfl⟩
 rw [hr] at WL WT wb ⊢
 have mm0 : (0 : Int) ≤ (m : Int) := by omega
 have mm1 : (m : Int) ≤ 12 := by omega
 obtain ⟨q, hq⟩ : ∃ q, k / 64 = q := ⟨_, rfl⟩
 obtain ⟨off, hf⟩ : ∃ off, k % 64 = off := ⟨_, rfl⟩
 have q4 : q < 4 := by omega
 have m64 : off < 64 := by omega
 have hk0 : (0 : Int) ≤ (k : Int) := by omega
 have hk1 : (k : Int) < 256 := by omega
 have hqq : (k : Int).tdiv 64 = (q : Int) := by rw [Int.tdiv_eq_ediv_of_nonneg hk0]; omega
 have hmm : (k : Int).tmod 64 = (off : Int) := by rw [Int.tmod_eq_emod_of_nonneg hk0]; omega
 have q0 : (0 : Int) ≤ (q : Int) := by omega
 have q1 : (q : Int) < 4 := by omega
 have m0 : (0 : Int) ≤ (off : Int) := by omega
 have m1 : (off : Int) < 64 := by omega
 have xw := E4.get_wd ha q
 have yw := E4.get_wd ha (q + 1)
 obtain ⟨y0, y1⟩ := shr_bd (a.get q) off xw
 have hx := s0.live (w.heap.size, a) (by simp)
 have hc := hx.get q q4
 have hd : q + 1 < 4 → _ := fun h => hx.get (q + 1) h
 have OW := hidden (or_win (a.get q) (a.get (q + 1)) off xw m64)
 rw [hq, hf] at WL
 rw [hq, hf] at WT
 have HD := hidden hd
 have hc3 : q = 3 → a.get 3 = a.get q := fun h => by rw [h]
 have HC3 := hidden hc3
 clear s0 ha hq hf hx hd hr hc3
 generalize a.get q = x at *
 generalize a.get (q + 1) = y at *
 unfold Sm.Wd at xw yw
 generalize hM : (2 : Int) ^ m = M at *
 simp only [E4.v]
 go_enter Tryz.func80, Tryz.ntmps80
 go_upto_region 1 with fail
 generalize (w.alloc (.cells #[.int .u64 a.x0, .int .u64 a.x1, .int .u64 a.x2, .int .u64 a.x3] 26)) = wB at S0 hc HD ⊢
 have cv : IntKind.i64.wrap r = r := IntWalk.i64_in _ (by omega)
 by_cases h3 : q + 1 < 4
 ·have hc2 := HD.out h3
  have h3' : (q : Int) + 1 < 4 := by omega
  obtain ⟨o1, o2, o3⟩ := OW.out
  have B2 := AP.out _ o2 o3
  rw [← WL.out h3] at B2
  clear WL WT AP OW HD HC3 o2 o3
  generalize x / 2 ^ off + (y % 2 ^ off) * 2 ^ (64 - off) = u at *
  go_wp2_with fail
  go_ret
  exact ⟨rfl, S0.out.bel⟩
 ·have h3' : ¬ (q : Int) + 1 < 4 := by omega
  have hq3 : q = 3 := by omega
  have B2 := AP.out _ y0 y1
  rw [← HC3.out hq3, ← WT.out hq3] at B2
  rw [HC3.out hq3] at B2
  clear WL WT AP OW HD HC3 hq3
  go_wp2_with fail
  go_ret
  exact ⟨rfl, S0.out.bel⟩
structure Rwi (w : World) (b n : Nat) (f : Nat → Int) : Prop where
 c : ∀ j, j < n → w.cell? ⟨b, j, none⟩ = some (.int .i64 (f j))
 fr : ∀ j, j < n → w.frozen? ⟨b, j, none⟩ = false
 lt : b < w.heap.size
theorem Rwi.keep {w1 w2 : World} {b n : Nat} {f : Nat → Int} (h : Rwi w1 b n f) (hb : Below w1.heap.size w1 w2) : Rwi w2 b n f :=
 ⟨fun j hj => cell_keep (h.c j hj) hb, fun j hj => ((bcell hb).2 _ _ h.lt).trans (h.fr j hj), Nat.lt_of_lt_of_le h.lt hb.size⟩
theorem Rwi.drew {w : World} {b n : Nat} {f : Nat → Int} (h : Rwi w b n f) : Rwi w.drew b n f := h.keep ((Below.refl _ _).drew)
theorem Rwi.congr {w : World} {b n : Nat} {f g : Nat → Int} (h : Rwi w b n f) (e : ∀ j, j < n → f j = g j) : Rwi w b n g := ⟨fun j hj => by rw [← e j hj]; exact h.c j hj, h.fr, h.lt⟩
theorem Rwi.at {w : World} {b n : Nat} {f : Nat → Int} (h : Rwi w b n f) (k : Nat) (hk : k < n) (v : Int) : Rwi (w.setCell ⟨b, k, none⟩ (.int .i64 v)) b n (fun j => if j = k then v else f j) := by
 refine ⟨fun j hj => ?_, fun j hj => by have := h.fr j hj; go_simp, by have := h.lt; simpa using this⟩
 by_cases hjk : j = k
 ·subst hjk
  have hb := h.c j hj
  rw [if_pos rfl]
  go_simp
 ·rw [World.cell?_setCell_other w _ _ _ (by intro e; exact hjk (congrArg Addr.off e).symm), h.c j hj, if_neg hjk]
theorem Rwi.made (w : World) (n : Nat) (t : TypeId) : Rwi (w.alloc (.cells (madeCells #[.int .i64 0] n) t)) w.heap.size n (fun _ => 0) := by
 have h := World.rowIs_made w (.int .i64 0) n t
 exact ⟨fun j hj => h.cell hj, fun j hj => h.frozen j, by simp⟩
theorem St.asideI {w0 : World} {L : List (Nat × E4)} {R : List Nat} {w1 : World} {b : Nat} (h : St w0 L R w1) (hn : ∀ p ∈ L, b ≠ p.1) (h0 : w0.heap.size ≤ b) (k : Nat) (v : Value) : St w0 L R (w1.setCell ⟨b, k, none⟩ v) :=
 ⟨fun p hp => (h.live p hp).far1 (hn p hp) _ _, fun c hc => ⟨(h.wrt c hc).1.put _ _ _, by simpa using (h.wrt c hc).2⟩, h.bel.setCell h0 _⟩
def dgc (N : Int) (m : Nat) : Nat → Int
 | 0 => 0
 | i + 1 => if win N (m * i) m + dgc N m i > 2 ^ (m - 1) then 1 else 0
def dg (N : Int) (m i : Nat) : Int := if win N (m * i) m + dgc N m i > 2 ^ (m - 1) then win N (m * i) m + dgc N m i - 2 ^ m else win N (m * i) m + dgc N m i
theorem dgc_bd (N : Int) (m i : Nat) : 0 ≤ dgc N m i ∧ dgc N m i ≤ 1 := by
 cases i with
 | zero => simp [dgc]
 | succ i => unfold dgc; split <;> omega
theorem pow12 (m : Nat) (h : m ≤ 12) : (2 : Int) ^ m ≤ 4096 := by
 have := p2pos (12 - m)
 rw [show (4096 : Int) = 2 ^ 12 from rfl, p2mul m 12 h]
 have h1 := Int.mul_le_mul_of_nonneg_left (c := 2 ^ m) (show (1 : Int) ≤ 2 ^ (12 - m) by omega) (by have := p2pos m; omega)
 rw [Int.mul_one] at h1
 exact h1
theorem Digits_in (a : E4) (m : Nat) (w : World) (hT : Tb w) (ha : a.ok) (hm0 : 1 ≤ m) (hm : m ≤ 12) :
  Calls Tryz.prog 68 #[a.v, .int .i64 m] w fun e w' => ∃ b : Nat, e = .returned (.tuple #[.slice (some ⟨b, 0, none⟩) (253 / m + 1) (253 / m + 1), .int .i64 0]) ∧ w.heap.size ≤ b ∧ Rwi w' b (253 / m + 1) (dg (lst a.n).n m) ∧ Below w.heap.size w w' := by
 obtain ⟨A, hA⟩ : ∃ t : E4, lst a.n = t := ⟨_, rfl⟩
 have hAo : A.ok := by rw [← hA]; exact lst_ok _
 have CA := hidden (fun w T => fix (Least_any a w T ha) hA)
 have CW := hidden (fun k (hk : k < 256) w => window_any A k m w hAo hk hm)
 rw [hA]
 obtain ⟨q, hq⟩ : ∃ q, 253 / m = q := ⟨_, rfl⟩
 have hqm : m * q ≤ 253 := by rw [← hq]; exact Nat.mul_div_le 253 m
 have q253 : q ≤ 253 := by rw [← hq]; exact Nat.div_le_self _ _
 rw [hq]
 have dv : (253 : Int).tdiv (m : Int) = (q : Int) := by
  rw [Int.tdiv_eq_ediv_of_nonneg (by omega), ← hq]; rfl
 have QM := hidden hqm
 have HT := hidden hT
 have mm1 : (1 : Int) ≤ (m : Int) := by omega
 have mm2 : (m : Int) ≤ 12 := by omega
 have mz : ¬ (m : Int) = 0 := by omega
 have ml : ¬ (m : Int) < 1 := by omega
 have mg : ¬ (12 : Int) < (m : Int) := by omega
 have q0 : (0 : Int) ≤ (q : Int) := by omega
 have q1 : (q : Int) ≤ 253 := by omega
 have wq : IntKind.i64.wrap ((q : Int) + 1) = (q : Int) + 1 := IntWalk.i64_in _ (by omega)
 have hmk := run_make_row' (P := Tryz.prog) 145 3 (.int .i64 0) 8 (by kernel_rfl) (by kernel_rfl) rfl .i64 .i64 (q + 1) (by omega) (by omega)
 rw [show ((q + 1 : Nat) : Int) = (q : Int) + 1 by omega] at hmk
 have s0 := (St.nil w).roomR a 26
 have S0 := hidden s0
 clear s0 hA ha hT hq hqm hAo
 simp only [E4.v] at CA ⊢
 go_enter Tryz.func68, Tryz.ntmps68
 go_upto_region 3 with fail
 generalize (w.alloc (.cells #[.int .u64 a.x0, .int .u64 a.x1, .int .u64 a.x2, .int .u64 a.x3] 26)) = wB at S0 ⊢
 go_cut [] (fun wx => St w [(w.heap.size, A)] [] wx)
 case first =>
  have x0 := (S0.out.live (w.heap.size, a) (by simp)).c0
  have x1 := (S0.out.live (w.heap.size, a) (by simp)).c1
  have x2 := (S0.out.live (w.heap.size, a) (by simp)).c2
  have x3 := (S0.out.live (w.heap.size, a) (by simp)).c3
  have TB := hidden (S0.out.tb HT.out)
  go_wp2_with fail
  refine (CA.out _ TB.out).mono ?_
  rintro e w1 ⟨rfl, hb⟩
  have s2 := S0.out.keep hb
  have z0 := (s2.live (w.heap.size, a) (by simp)).c0
  have z1 := (s2.live (w.heap.size, a) (by simp)).c1
  have z2 := (s2.live (w.heap.size, a) (by simp)).c2
  have z3 := (s2.live (w.heap.size, a) (by simp)).c3
  obtain ⟨f0, f1, f2, f3⟩ := (s2.wrt w.heap.size (by simp)).1
  have S3 := hidden (s2.set (b := w.heap.size) (M := []) A (old := a) (by simp) (by omega) (by simp))
  clear s2 hb x0 x1 x2 x3 TB
  go_wp2_with fail
  go_meet
  exact S3.out.less (by simp) (by simp)
 case rest =>
 have S1 := hidden hcut
 clear hcut S0 CA HT
 go_upto_region 4 with fail
 go_cut [6] (fun vx wx => ∃ b : Nat, vx = .slice (some ⟨b, 0, none⟩) (q + 1) (q + 1) ∧ w.heap.size < b ∧ St w [(w.heap.size, A)] [] wx ∧ Rwi wx b (q + 1) (fun _ => 0))
 case first =>
  have hl := (S1.out.live (w.heap.size, A) (by simp)).lt
  have S2 := hidden (fun t => S1.out.keep (bl_alloc _ (.cells (madeCells #[.int .i64 0] (q + 1)) t)))
  have R2 := hidden (fun t => Rwi.made wc (q + 1) t)
  go_wp2_with fail
  go_meet
  exact ⟨_, rfl, hl, S2.out _, R2.out _⟩
 case rest =>
 obtain ⟨b, rfl, hb, s2, r2⟩ := hcut
 have S2 := hidden s2
 have R2 := hidden r2
 clear s2 r2 S1 hmk dv mz ml mg
 have hlen : (((q + 1 : Nat) : Int)) = (q : Int) + 1 := by omega
 go_wp2_with fail
 go_loopw [7, 24] (fun cv iv w' => ∃ i : Nat, i ≤ q + 1 ∧ cv = .int .i64 (dgc A.n m i) ∧ iv = .int .i64 i ∧ Hid (St w [(w.heap.size, A)] [] w') ∧ Hid (Rwi w' b (q + 1) (fun j => if j < i then dg A.n m j else 0))) (fun _ i _ => q + 1 - (intOf i).toNat)
 case atStart => exact ⟨0, by omega, rfl, rfl, S2, hidden (R2.out.congr (fun j _ => by rw [if_neg (by omega)]))⟩
 case round =>
  obtain ⟨i, hi, rfl, rfl, hst, hri⟩ := hrel
  clear S2 R2
  by_cases hiq : i < q + 1
  ·have ii0 : (0 : Int) ≤ (i : Int) := by omega
   have ii1 : (i : Int) < (q : Int) + 1 := by omega
   have hpq : m * i ≤ 253 := Nat.le_trans (Nat.mul_le_mul_left m (show i ≤ q by omega)) QM.out
   have CV := hidden (CW.out (m * i) (by omega))
   have hp : IntKind.i64.wrap ((m : Int) * (i : Int)) = ((m * i : Nat) : Int) := by rw [← Int.natCast_mul]; exact IntWalk.i64_in _ (by omega)
   have xb := win_bd A.n (m * i) m
   have cb := dgc_bd A.n m i
   have p12 := pow12 m hm
   have p11 := pow12 (m - 1) (by omega)
   have p0 := p2pos (m - 1)
   have p1 := p2pos m
   have w1 : IntKind.i64.wrap ((m : Int) - 1) = (m : Int) - 1 := IntWalk.i64_in _ (by omega)
   have w2 : ((m : Int) - 1).toNat = m - 1 := by omega
   have w3 : (0 : Int) ≤ (m : Int) - 1 := by omega
   have ND : Hid (dgc A.n m (i + 1) = if win A.n (m * i) m + dgc A.n m i > 2 ^ (m - 1) then 1 else 0) := hidden rfl
   have NG : Hid (dg A.n m i = if win A.n (m * i) m + dgc A.n m i > 2 ^ (m - 1) then win A.n (m * i) m + dgc A.n m i - 2 ^ m else win A.n (m * i) m + dgc A.n m i) := hidden rfl
   generalize win A.n (m * i) m = X at *
   obtain ⟨C, hC⟩ : ∃ C, dgc A.n m i = C := ⟨_, rfl⟩
   rw [hC] at ND NG cb ⊢
   obtain ⟨H, hH⟩ : ∃ H, (2 : Int) ^ (m - 1) = H := ⟨_, rfl⟩
   obtain ⟨M, hM⟩ : ∃ M, (2 : Int) ^ m = M := ⟨_, rfl⟩
   rw [hH] at ND NG p11 p0
   rw [hM] at NG p12 p1 xb
   have w4 : IntKind.i64.wrap (2 ^ (m - 1)) = H := by rw [hH]; exact IntWalk.i64_in _ (by omega)
   have w5 : IntKind.i64.wrap (2 ^ m) = M := by rw [hM]; exact IntWalk.i64_in _ (by omega)
   obtain ⟨D, hD⟩ : ∃ D, X + C = D := ⟨_, rfl⟩
   rw [hD] at ND NG
   have w6 : IntKind.i64.wrap (X + C) = D := by rw [hD]; exact IntWalk.i64_in _ (by omega)
   have dB : 0 ≤ D ∧ D ≤ 4096 := by omega
   have w7 : IntKind.i64.wrap (D - M) = D - M := IntWalk.i64_in _ (by omega)
   have x0 := (hst.out.live (w.heap.size, A) (by simp)).c0
   have x1 := (hst.out.live (w.heap.size, A) (by simp)).c1
   have x2 := (hst.out.live (w.heap.size, A) (by simp)).c2
   have x3 := (hst.out.live (w.heap.size, A) (by simp)).c3
   have PU := hidden (fun (wx : World) (hb : Below wr.heap.size wr wx) (v : Int) => (⟨(hst.out.keep hb).asideI (b := b) (by intro p hp; rw [List.mem_singleton] at hp; subst hp; show b ≠ w.heap.size; omega) (by omega) i (.int .i64 v), (hri.out.keep hb).at i hiq v, (hri.out.keep hb).c i hiq, (hri.out.keep hb).fr i hiq⟩ : St w [(w.heap.size, A)] [] (wx.setCell ⟨b, i, none⟩ (.int .i64 v)) ∧ Rwi (wx.setCell ⟨b, i, none⟩ (.int .i64 v)) b (q + 1) (fun j => if j = i then v else if j < i then dg A.n m j else 0) ∧ wx.cell? ⟨b, i, none⟩ = some (.int .i64 (if i < i then dg A.n m i else 0)) ∧ wx.frozen? ⟨b, i, none⟩ = false))
   clear hst hri CW hC hH hM hD xb cb p12 p11 p0 p1 QM
   simp only [E4.v] at CV
   go_upto_region 9 with fail
   go_cut [9] (fun vx wx => vx = .int .i64 D ∧ Below wr.heap.size wr wx)
   case first =>
    go_wp2_with fail
    refine (CV.out _).mono ?_
    rintro e wz ⟨rfl, hb⟩
    have HB := hidden hb
    clear hb
    go_wp2_with fail
    go_meet
    exact ⟨rfl, HB.out⟩
   case rest =>
   obtain ⟨rfl, hbz⟩ := hcut
   clear x0 x1 x2 x3 CV
   by_cases hd : D > H
   ·obtain ⟨s3, r3, c3, f3⟩ := PU.out _ hbz (D - M)
    rw [if_pos hd] at ND NG
    have S3 := hidden s3
    have R3 := hidden r3
    clear s3 r3 PU hbz
    go_wp2_with fail
    go_roundw
    case rel =>
     refine ⟨i + 1, by omega, by rw [ND.out], by go_num, S3, hidden (R3.out.congr (fun j _ => ?_))⟩
     by_cases hj : j = i
     ·subst hj
      rw [if_pos rfl, if_pos (by omega), NG.out]
     ·rw [if_neg hj]
      by_cases hlt : j < i
      ·rw [if_pos hlt, if_pos (by omega)]
      ·rw [if_neg hlt, if_neg (by omega)]
    case measure => simp [intOf]; omega
   ·obtain ⟨s3, r3, c3, f3⟩ := PU.out _ hbz D
    rw [if_neg hd] at ND NG
    have S3 := hidden s3
    have R3 := hidden r3
    have hd' : ¬ H < D := hd
    clear s3 r3 PU hbz
    go_wp2_with fail
    go_roundw
    case rel =>
     refine ⟨i + 1, by omega, by rw [ND.out], by go_num, S3, hidden (R3.out.congr (fun j _ => ?_))⟩
     by_cases hj : j = i
     ·subst hj
      rw [if_pos rfl, if_pos (by omega), NG.out]
     ·rw [if_neg hj]
      by_cases hlt : j < i
      ·rw [if_pos hlt, if_pos (by omega)]
      ·rw [if_neg hlt, if_neg (by omega)]
    case measure => simp [intOf]; omega
  ·have hii : i = q + 1 := by omega
   subst hii
   have S3 := hidden hst.out.bel
   have R3 := hidden (hri.out.congr (g := dg A.n m) (fun j hj => by rw [if_pos hj]))
   clear hst hri CW
   rw [hlen]
   have lq : ¬ (q : Int) + 1 < (q : Int) + 1 := by omega
   go_wp2_with fail
   refine bodyPost_ret (v := .tuple #[.slice (some ⟨b, 0, none⟩) (q + 1) (q + 1), .int .i64 0]) (by simp [results, Tryz.results68, go_sem]) rfl ⟨b, rfl, by omega, R3.out, S3.out⟩
theorem gbI {w w' : World} (h : Below w.heap.size w w') (row : Option Nat) : w.grownBy w' row := ⟨h.os, h.tape, h.output, h.size, fun k hk _ => h.block k hk⟩
theorem setS_far0 (w : World) (b o : Nat) (x : E4) (a : Addr) (h : a.block ≠ b) : (setS w b o x).cell? a = w.cell? a := by
 unfold setS
 rw [World.cell?_setCell_far _ _ _ _ (fun e => h e.symm), World.cell?_setCell_far _ _ _ _ (fun e => h e.symm), World.cell?_setCell_far _ _ _ _ (fun e => h e.symm), World.cell?_setCell_far _ _ _ _ (fun e => h e.symm)]
theorem bl_drew (w : World) : Below w.heap.size w w.drew := Below.drew (Below.refl _ _)
theorem gb_setCells (b : Nat) : ∀ (vs : List Value) (o : Nat) (w : World), w.grownBy (w.setCells b o vs) (some b)
 | [], _, w => World.grownBy.refl _ _
 | v :: vs, o, w => by
  rw [World.setCells]
  have h1 : w.grownBy (w.setCell ⟨b, o, none⟩ v) (some b) := ⟨rfl, rfl, rfl, by simp, fun k _ hk => heap_setCell_other w ⟨b, o, none⟩ k v (fun e => hk (by simp [e]))⟩
  exact h1.trans (gb_setCells b vs (o + 1) _)
theorem i4_s : (Tryz.prog.info? 26).map (·.size) = some 4 := by kernel_rfl
theorem one4 (p : E4) : ([.int .u64 p.x0, .int .u64 p.x1, .int .u64 p.x2, .int .u64 p.x3] : List Value).toArray.all (·.oneCell') = true := by simp [Value.oneCell']
theorem Tb.keep0 {w w' : World} {b : Nat} (h : Tb w) (hg : w.grownBy w' (some b)) (hb : 0 ≠ b) : Tb w' := by
 have k : ∀ {j : Nat} {v : Value}, w.cell? ⟨0, j, none⟩ = some v → w'.cell? ⟨0, j, none⟩ = some v := fun hc => hg.cell hc (fun e => hb (Option.some.inj e))
 obtain ⟨h0, h1, h2, h3, h4, h5, h6, h7, h8, h9, h10, h11⟩ := h
 exact ⟨k h0, k h1, k h2, k h3, k h4, k h5, k h6, k h7, k h8, k h9, k h10, k h11⟩
theorem lst_two {a b c d : Int} (h1 : lst a = lst c) (h2 : lst b = lst d) : lst (a + b) = lst (c + d) := by
 rw [← lst_add, h1, lst_add, ← lst_add', h2, lst_add']
theorem lst_twoM {a b c d : Int} (h1 : lst a = lst c) (h2 : lst b = lst d) : lst (a * b) = lst (c * d) := by
 rw [← lst_mul, h1, lst_mul, ← lst_mul', h2, lst_mul']
theorem lst_oneN {a c : Int} (h1 : lst a = lst c) : lst (-a) = lst (-c) := by
 rw [← lst_neg, h1, lst_neg]
def Hd (w : World) (H : Nat) : Prop := ∃ x y : Int, w.cell? ⟨H, 0, none⟩ = some (.int .i64 x) ∧ w.cell? ⟨H, 1, none⟩ = some (.int .i64 y) ∧ w.frozen? ⟨H, 0, none⟩ = false ∧ w.frozen? ⟨H, 1, none⟩ = false ∧ ∀ o, 2 ≤ o → w.cell? ⟨H, o, none⟩ = none
theorem Hd.lt {w : World} {H : Nat} (h : Hd w H) : H < w.heap.size := by obtain ⟨x, y, h0, _⟩ := h; exact World.block_lt_of_cell? w _ h0
theorem Hd.keep {w w' : World} {H : Nat} (h : Hd w H) (hb : Below w.heap.size w w') : Hd w' H := by
 have l := h.lt
 obtain ⟨x, y, h0, h1, f0, f1, h2⟩ := h
 exact ⟨x, y, cell_keep h0 hb, cell_keep h1 hb, ((bcell hb).2 H 0 l).trans f0, ((bcell hb).2 H 1 l).trans f1, fun o ho => ((bcell hb).1 H o l).trans (h2 o ho)⟩
theorem Hd.far {w : World} {H b o : Nat} {v : Value} (h : Hd w H) (hb : b ≠ H) : Hd (w.setCell ⟨b, o, none⟩ v) H := by
 obtain ⟨x, y, h0, h1, f0, f1, h2⟩ := h
 have k : ∀ j, (w.setCell ⟨b, o, none⟩ v).cell? ⟨H, j, none⟩ = w.cell? ⟨H, j, none⟩ := fun j => World.cell?_setCell_far w ⟨b, o, none⟩ ⟨H, j, none⟩ v hb
 exact ⟨x, y, (k 0).trans h0, (k 1).trans h1, by simpa using f0, by simpa using f1, fun j hj => (k j).trans (h2 j hj)⟩
theorem Hd.set {w : World} {H j : Nat} {z : Int} (h : Hd w H) (hj : j < 2) : Hd (w.setCell ⟨H, j, none⟩ (.int .i64 z)) H := by
 obtain ⟨x, y, h0, h1, f0, f1, h2⟩ := h
 obtain rfl | rfl : j = 0 ∨ j = 1 := by omega
 ·exact ⟨z, y, World.cell?_setCell_same _ _ _ h0, by rw [World.cell?_setCell_other _ _ _ _ (by simp)]; exact h1, by simpa using f0, by simpa using f1, fun o ho => by rw [World.cell?_setCell_other _ _ _ _ (by simp <;> omega)]; exact h2 o ho⟩
 ·exact ⟨x, z, by rw [World.cell?_setCell_other _ _ _ _ (by simp)]; exact h0, World.cell?_setCell_same _ _ _ h1, by simpa using f0, by simpa using f1, fun o ho => by rw [World.cell?_setCell_other _ _ _ _ (by simp <;> omega)]; exact h2 o ho⟩
theorem Hd.no64 {w : World} {H o : Nat} {z : Int} (h : Hd w H) (hc : w.cell? ⟨H, o, none⟩ = some (.int .u64 z)) : False := by
 obtain ⟨x, y, h0, h1, f0, f1, h2⟩ := h
 rcases Nat.lt_or_ge o 2 with h | h
 ·obtain rfl | rfl : o = 0 ∨ o = 1 := by omega
  ·rw [h0] at hc; simp at hc
  ·rw [h1] at hc; simp at hc
 ·rw [h2 o h] at hc; simp at hc
theorem Hd.tb {w : World} {H : Nat} (h : Hd w H) (hT : Tb w) : 0 ≠ H := by
 intro e
 exact h.no64 (e ▸ hT.1)
theorem gb_set (w : World) (b o : Nat) (v : Value) : w.grownBy (w.setCell ⟨b, o, none⟩ v) (some b) := ⟨rfl, rfl, rfl, by simp, fun k _ hk => heap_setCell_other w ⟨b, o, none⟩ k v (fun e => hk (by simp [e]))⟩
theorem gb_box {w wa : World} {H b o : Nat} {v : Value} (h : w.grownBy wa (some H)) (hb : w.heap.size ≤ b) : w.grownBy (wa.setCell ⟨b, o, none⟩ v) (some H) := ⟨h.os, h.tape, h.output, by simpa using h.size, fun k hk hn => (heap_setCell_other wa ⟨b, o, none⟩ k v (by simp only; omega)).trans (h.block k hk hn)⟩
end Go.Proofs.YtbbnjmjeeiglcaaGreatDoor
namespace Go.Proofs.YtbbnjmjeeiglcaaGreatDoor.Li
open Go.RowKit
theorem mt_Add (p : E4) (w : World) : (method 362 39 (.agg #[.int .u64 p.x0, .int .u64 p.x1, .int .u64 p.x2, .int .u64 p.x3]) "Add").run Tryz.prog w = .ok (128, .agg #[.int .u64 p.x0, .int .u64 p.x1, .int .u64 p.x2, .int .u64 p.x3]) w := by kernel_rfl
theorem mt_Double (p : E4) (w : World) : (method 362 39 (.agg #[.int .u64 p.x0, .int .u64 p.x1, .int .u64 p.x2, .int .u64 p.x3]) "Double").run Tryz.prog w = .ok (129, .agg #[.int .u64 p.x0, .int .u64 p.x1, .int .u64 p.x2, .int .u64 p.x3]) w := by kernel_rfl
theorem mt_Neg (p : E4) (w : World) : (method 362 39 (.agg #[.int .u64 p.x0, .int .u64 p.x1, .int .u64 p.x2, .int .u64 p.x3]) "Neg").run Tryz.prog w = .ok (131, .agg #[.int .u64 p.x0, .int .u64 p.x1, .int .u64 p.x2, .int .u64 p.x3]) w := by kernel_rfl
theorem mt_Times (p : E4) (w : World) : (method 362 39 (.agg #[.int .u64 p.x0, .int .u64 p.x1, .int .u64 p.x2, .int .u64 p.x3]) "Times").run Tryz.prog w = .ok (133, .agg #[.int .u64 p.x0, .int .u64 p.x1, .int .u64 p.x2, .int .u64 p.x3]) w := by kernel_rfl
theorem i4_L : (Tryz.prog.info? 39).map (·.size) = some 4 := by kernel_rfl
theorem l4_i (a : E4) : (Tryz.prog.info? 39).map (·.size) = some [Value.int .u64 a.x0, .int .u64 a.x1, .int .u64 a.x2, .int .u64 a.x3].length := by kernel_rfl
theorem c4_one (a : E4) : [Value.int .u64 a.x0, .int .u64 a.x1, .int .u64 a.x2, .int .u64 a.x3].toArray.all (·.oneCell') = true := by simp [Value.oneCell']
theorem lAdd_any (a b : E4) (ha : a.ok) (hb : b.ok) (w : World) (hT : Tb w) :
  Calls Tryz.prog 128 #[a.v, b.v] w fun e w' => e = .returned (lst (a.n + b.n)).v ∧ Below w.heap.size w w' := by
 have HT := hidden hT
 have RA := hidden (fun w T => fix (R := lst (a.n + b.n)) (Add_any a b w T ha hb) rfl)
 generalize lst (a.n + b.n) = z at *
 unfold E4.v at RA ⊢
 have M0 := (((Mw.start w).new [.int .u64 a.x0, .int .u64 a.x1, .int .u64 a.x2, .int .u64 a.x3] 39).new [.int .u64 b.x0, .int .u64 b.x1, .int .u64 b.x2, .int .u64 b.x3] 39).new [.int .u64 0, .int .u64 0, .int .u64 0, .int .u64 0] 39
 simp only [World.size_alloc] at M0
 have MM := hidden M0
 have I1 := hidden (l4_i z)
 have O2 := hidden (c4_one z)
 clear M0
 go_enter Tryz.func128, Tryz.ntmps128
 go_wp2_with (first | (go_at_call 13; refine (RA.out _ (HT.out.keep MM.out.bel)).mono ?_; rintro e wa ⟨rfl, ha⟩; replace MM := hidden (MM.out.keep ha); clear ha; have TH := hidden (MM.out.ther [.int .u64 z.x0, .int .u64 z.x1, .int .u64 z.x2, .int .u64 z.x3] (c := w.heap.size + 1 + 1) (o := [.int .u64 0, .int .u64 0, .int .u64 0, .int .u64 0]) (by simp) rfl); have M1 := MM.out.set (M := []) [.int .u64 z.x0, .int .u64 z.x1, .int .u64 z.x2, .int .u64 z.x3] (c := w.heap.size + 1 + 1) (o := [.int .u64 0, .int .u64 0, .int .u64 0, .int .u64 0]) (by simp) rfl (fun p hp => by cases hp); have LD := hidden (M1.var (c := w.heap.size + 1 + 1) (ds := [.int .u64 z.x0, .int .u64 z.x1, .int .u64 z.x2, .int .u64 z.x3]) (by simp) Tryz.underlying39 rfl I1.out); have BL := hidden M1.bel; clear M1) | refine wpList_store_mid rfl 39 _ _ rfl (w.heap.size + 1 + 1) 0 [.int .u64 z.x0, .int .u64 z.x1, .int .u64 z.x2, .int .u64 z.x3].toArray (by rfl) (by rfl) TH.out I1.out O2.out ?_)
 refine bodyPost_ret (v := .agg [.int .u64 z.x0, .int .u64 z.x1, .int .u64 z.x2, .int .u64 z.x3].toArray) (results_cellM Tryz.results128 _ _ _ _ _ (by rfl) LD.out) rfl ⟨rfl, BL.out⟩
theorem lTimes_any (a b : E4) (ha : a.ok) (hb : b.ok) (w : World) (hT : Tb w) :
  Calls Tryz.prog 133 #[a.v, b.v] w fun e w' => e = .returned (lst (a.n * b.n)).v ∧ Below w.heap.size w w' := by
 have HT := hidden hT
 have RA := hidden (fun w T => fix (R := lst (a.n * b.n)) (Mul_any a b w T ha hb) rfl)
 generalize lst (a.n * b.n) = z at *
 unfold E4.v at RA ⊢
 have M0 := (((Mw.start w).new [.int .u64 a.x0, .int .u64 a.x1, .int .u64 a.x2, .int .u64 a.x3] 39).new [.int .u64 b.x0, .int .u64 b.x1, .int .u64 b.x2, .int .u64 b.x3] 26).new [.int .u64 0, .int .u64 0, .int .u64 0, .int .u64 0] 39
 simp only [World.size_alloc] at M0
 have MM := hidden M0
 have I1 := hidden (l4_i z)
 have O2 := hidden (c4_one z)
 clear M0
 go_enter Tryz.func133, Tryz.ntmps133
 go_wp2_with (first | (go_at_call 17; refine (RA.out _ (HT.out.keep MM.out.bel)).mono ?_; rintro e wa ⟨rfl, ha⟩; replace MM := hidden (MM.out.keep ha); clear ha; have TH := hidden (MM.out.ther [.int .u64 z.x0, .int .u64 z.x1, .int .u64 z.x2, .int .u64 z.x3] (c := w.heap.size + 1 + 1) (o := [.int .u64 0, .int .u64 0, .int .u64 0, .int .u64 0]) (by simp) rfl); have M1 := MM.out.set (M := []) [.int .u64 z.x0, .int .u64 z.x1, .int .u64 z.x2, .int .u64 z.x3] (c := w.heap.size + 1 + 1) (o := [.int .u64 0, .int .u64 0, .int .u64 0, .int .u64 0]) (by simp) rfl (fun p hp => by cases hp); have LD := hidden (M1.var (c := w.heap.size + 1 + 1) (ds := [.int .u64 z.x0, .int .u64 z.x1, .int .u64 z.x2, .int .u64 z.x3]) (by simp) Tryz.underlying39 rfl I1.out); have BL := hidden M1.bel; clear M1) | refine wpList_store_mid rfl 39 _ _ rfl (w.heap.size + 1 + 1) 0 [.int .u64 z.x0, .int .u64 z.x1, .int .u64 z.x2, .int .u64 z.x3].toArray (by rfl) (by rfl) TH.out I1.out O2.out ?_)
 refine bodyPost_ret (v := .agg [.int .u64 z.x0, .int .u64 z.x1, .int .u64 z.x2, .int .u64 z.x3].toArray) (results_cellM Tryz.results133 _ _ _ _ _ (by rfl) LD.out) rfl ⟨rfl, BL.out⟩
theorem lDouble_any (a : E4) (ha : a.ok) (w : World) (hT : Tb w) :
  Calls Tryz.prog 129 #[a.v] w fun e w' => e = .returned (lst (a.n + a.n)).v ∧ Below w.heap.size w w' := by
 have HT := hidden hT
 have RA := hidden (fun w T => fix (R := lst (a.n + a.n)) (Add_any a a w T ha ha) rfl)
 generalize lst (a.n + a.n) = z at *
 unfold E4.v at RA ⊢
 have M0 := ((Mw.start w).new [.int .u64 a.x0, .int .u64 a.x1, .int .u64 a.x2, .int .u64 a.x3] 39).new [.int .u64 0, .int .u64 0, .int .u64 0, .int .u64 0] 39
 simp only [World.size_alloc] at M0
 have MM := hidden M0
 have I1 := hidden (l4_i z)
 have O2 := hidden (c4_one z)
 clear M0
 go_enter Tryz.func129, Tryz.ntmps129
 go_wp2_with (first | (go_at_call 13; refine (RA.out _ (HT.out.keep MM.out.bel)).mono ?_; rintro e wa ⟨rfl, ha⟩; replace MM := hidden (MM.out.keep ha); clear ha; have TH := hidden (MM.out.ther [.int .u64 z.x0, .int .u64 z.x1, .int .u64 z.x2, .int .u64 z.x3] (c := w.heap.size + 1) (o := [.int .u64 0, .int .u64 0, .int .u64 0, .int .u64 0]) (by simp) rfl); have M1 := MM.out.set (M := []) [.int .u64 z.x0, .int .u64 z.x1, .int .u64 z.x2, .int .u64 z.x3] (c := w.heap.size + 1) (o := [.int .u64 0, .int .u64 0, .int .u64 0, .int .u64 0]) (by simp) rfl (fun p hp => by cases hp); have LD := hidden (M1.var (c := w.heap.size + 1) (ds := [.int .u64 z.x0, .int .u64 z.x1, .int .u64 z.x2, .int .u64 z.x3]) (by simp) Tryz.underlying39 rfl I1.out); have BL := hidden M1.bel; clear M1) | refine wpList_store_mid rfl 39 _ _ rfl (w.heap.size + 1) 0 [.int .u64 z.x0, .int .u64 z.x1, .int .u64 z.x2, .int .u64 z.x3].toArray (by rfl) (by rfl) TH.out I1.out O2.out ?_)
 refine bodyPost_ret (v := .agg [.int .u64 z.x0, .int .u64 z.x1, .int .u64 z.x2, .int .u64 z.x3].toArray) (results_cellM Tryz.results129 _ _ _ _ _ (by rfl) LD.out) rfl ⟨rfl, BL.out⟩
theorem lNeg_any (a : E4) (ha : a.ok) (w : World) (hT : Tb w) :
  Calls Tryz.prog 131 #[a.v] w fun e w' => e = .returned (lst (-a.n)).v ∧ Below w.heap.size w w' := by
 have HT := hidden hT
 have RA := hidden (fun w T => fix (R := lst (-a.n)) (Neg_any a w T ha) rfl)
 generalize lst (-a.n) = z at *
 unfold E4.v at RA ⊢
 have M0 := ((Mw.start w).new [.int .u64 a.x0, .int .u64 a.x1, .int .u64 a.x2, .int .u64 a.x3] 39).new [.int .u64 0, .int .u64 0, .int .u64 0, .int .u64 0] 39
 simp only [World.size_alloc] at M0
 have MM := hidden M0
 have I1 := hidden (l4_i z)
 have O2 := hidden (c4_one z)
 clear M0
 go_enter Tryz.func131, Tryz.ntmps131
 go_wp2_with (first | (go_at_call 47; refine (RA.out _ (HT.out.keep MM.out.bel)).mono ?_; rintro e wa ⟨rfl, ha⟩; replace MM := hidden (MM.out.keep ha); clear ha; have TH := hidden (MM.out.ther [.int .u64 z.x0, .int .u64 z.x1, .int .u64 z.x2, .int .u64 z.x3] (c := w.heap.size + 1) (o := [.int .u64 0, .int .u64 0, .int .u64 0, .int .u64 0]) (by simp) rfl); have M1 := MM.out.set (M := []) [.int .u64 z.x0, .int .u64 z.x1, .int .u64 z.x2, .int .u64 z.x3] (c := w.heap.size + 1) (o := [.int .u64 0, .int .u64 0, .int .u64 0, .int .u64 0]) (by simp) rfl (fun p hp => by cases hp); have LD := hidden (M1.var (c := w.heap.size + 1) (ds := [.int .u64 z.x0, .int .u64 z.x1, .int .u64 z.x2, .int .u64 z.x3]) (by simp) Tryz.underlying39 rfl I1.out); have BL := hidden M1.bel; clear M1) | refine wpList_store_mid rfl 39 _ _ rfl (w.heap.size + 1) 0 [.int .u64 z.x0, .int .u64 z.x1, .int .u64 z.x2, .int .u64 z.x3].toArray (by rfl) (by rfl) TH.out I1.out O2.out ?_)
 refine bodyPost_ret (v := .agg [.int .u64 z.x0, .int .u64 z.x1, .int .u64 z.x2, .int .u64 z.x3].toArray) (results_cellM Tryz.results131 _ _ _ _ _ (by rfl) LD.out) rfl ⟨rfl, BL.out⟩
theorem hadd (H : Nat) (a b : E4) (w : World) (hT : Tb w) (hH : Hd w H) (ha : a.ok) (hb : b.ok) :
  Calls Tryz.prog 58 #[.pointer (some ⟨H, 0, none⟩), .agg #[.int .u64 a.x0, .int .u64 a.x1, .int .u64 a.x2, .int .u64 a.x3], .agg #[.int .u64 b.x0, .int .u64 b.x1, .int .u64 b.x2, .int .u64 b.x3]] w fun e w' => e = .returned (lst (a.n + b.n)).v ∧ Hd w' H ∧ w.grownBy w' (some H) := by
 have LH := hidden hH.lt
 have B2 : Below w.heap.size w (((w.alloc (.cells #[.int .u64 a.x0, .int .u64 a.x1, .int .u64 a.x2, .int .u64 a.x3] 39)).alloc (.cells #[.int .u64 b.x0, .int .u64 b.x1, .int .u64 b.x2, .int .u64 b.x3] 39)).alloc (.cells #[.int .u64 0, .int .u64 0, .int .u64 0, .int .u64 0] 39)) := bl_trans (bl_trans (bl_alloc w _) (bl_alloc _ _)) (bl_alloc _ _)
 have SZ : Hid ((((w.alloc (.cells #[.int .u64 a.x0, .int .u64 a.x1, .int .u64 a.x2, .int .u64 a.x3] 39)).alloc (.cells #[.int .u64 b.x0, .int .u64 b.x1, .int .u64 b.x2, .int .u64 b.x3] 39)).alloc (.cells #[.int .u64 0, .int .u64 0, .int .u64 0, .int .u64 0] 39)).heap.size = w.heap.size + 1 + 1 + 1) := hidden (by simp only [World.size_alloc])
 have a0 : (((w.alloc (.cells #[.int .u64 a.x0, .int .u64 a.x1, .int .u64 a.x2, .int .u64 a.x3] 39)).alloc (.cells #[.int .u64 b.x0, .int .u64 b.x1, .int .u64 b.x2, .int .u64 b.x3] 39)).alloc (.cells #[.int .u64 0, .int .u64 0, .int .u64 0, .int .u64 0] 39)).cell? ⟨w.heap.size, 0, none⟩ = some (.int .u64 a.x0) := by go_simp
 have a1 : (((w.alloc (.cells #[.int .u64 a.x0, .int .u64 a.x1, .int .u64 a.x2, .int .u64 a.x3] 39)).alloc (.cells #[.int .u64 b.x0, .int .u64 b.x1, .int .u64 b.x2, .int .u64 b.x3] 39)).alloc (.cells #[.int .u64 0, .int .u64 0, .int .u64 0, .int .u64 0] 39)).cell? ⟨w.heap.size, 1, none⟩ = some (.int .u64 a.x1) := by go_simp
 have a2 : (((w.alloc (.cells #[.int .u64 a.x0, .int .u64 a.x1, .int .u64 a.x2, .int .u64 a.x3] 39)).alloc (.cells #[.int .u64 b.x0, .int .u64 b.x1, .int .u64 b.x2, .int .u64 b.x3] 39)).alloc (.cells #[.int .u64 0, .int .u64 0, .int .u64 0, .int .u64 0] 39)).cell? ⟨w.heap.size, 2, none⟩ = some (.int .u64 a.x2) := by go_simp
 have a3 : (((w.alloc (.cells #[.int .u64 a.x0, .int .u64 a.x1, .int .u64 a.x2, .int .u64 a.x3] 39)).alloc (.cells #[.int .u64 b.x0, .int .u64 b.x1, .int .u64 b.x2, .int .u64 b.x3] 39)).alloc (.cells #[.int .u64 0, .int .u64 0, .int .u64 0, .int .u64 0] 39)).cell? ⟨w.heap.size, 3, none⟩ = some (.int .u64 a.x3) := by go_simp
 have b0 : (((w.alloc (.cells #[.int .u64 a.x0, .int .u64 a.x1, .int .u64 a.x2, .int .u64 a.x3] 39)).alloc (.cells #[.int .u64 b.x0, .int .u64 b.x1, .int .u64 b.x2, .int .u64 b.x3] 39)).alloc (.cells #[.int .u64 0, .int .u64 0, .int .u64 0, .int .u64 0] 39)).cell? ⟨w.heap.size + 1, 0, none⟩ = some (.int .u64 b.x0) := by go_simp
 have b1 : (((w.alloc (.cells #[.int .u64 a.x0, .int .u64 a.x1, .int .u64 a.x2, .int .u64 a.x3] 39)).alloc (.cells #[.int .u64 b.x0, .int .u64 b.x1, .int .u64 b.x2, .int .u64 b.x3] 39)).alloc (.cells #[.int .u64 0, .int .u64 0, .int .u64 0, .int .u64 0] 39)).cell? ⟨w.heap.size + 1, 1, none⟩ = some (.int .u64 b.x1) := by go_simp
 have b2 : (((w.alloc (.cells #[.int .u64 a.x0, .int .u64 a.x1, .int .u64 a.x2, .int .u64 a.x3] 39)).alloc (.cells #[.int .u64 b.x0, .int .u64 b.x1, .int .u64 b.x2, .int .u64 b.x3] 39)).alloc (.cells #[.int .u64 0, .int .u64 0, .int .u64 0, .int .u64 0] 39)).cell? ⟨w.heap.size + 1, 2, none⟩ = some (.int .u64 b.x2) := by go_simp
 have b3 : (((w.alloc (.cells #[.int .u64 a.x0, .int .u64 a.x1, .int .u64 a.x2, .int .u64 a.x3] 39)).alloc (.cells #[.int .u64 b.x0, .int .u64 b.x1, .int .u64 b.x2, .int .u64 b.x3] 39)).alloc (.cells #[.int .u64 0, .int .u64 0, .int .u64 0, .int .u64 0] 39)).cell? ⟨w.heap.size + 1, 3, none⟩ = some (.int .u64 b.x3) := by go_simp
 have r0 : (((w.alloc (.cells #[.int .u64 a.x0, .int .u64 a.x1, .int .u64 a.x2, .int .u64 a.x3] 39)).alloc (.cells #[.int .u64 b.x0, .int .u64 b.x1, .int .u64 b.x2, .int .u64 b.x3] 39)).alloc (.cells #[.int .u64 0, .int .u64 0, .int .u64 0, .int .u64 0] 39)).cell? ⟨w.heap.size + 1 + 1, 0, none⟩ = some (.int .u64 0) := by go_simp
 have r1 : (((w.alloc (.cells #[.int .u64 a.x0, .int .u64 a.x1, .int .u64 a.x2, .int .u64 a.x3] 39)).alloc (.cells #[.int .u64 b.x0, .int .u64 b.x1, .int .u64 b.x2, .int .u64 b.x3] 39)).alloc (.cells #[.int .u64 0, .int .u64 0, .int .u64 0, .int .u64 0] 39)).cell? ⟨w.heap.size + 1 + 1, 1, none⟩ = some (.int .u64 0) := by go_simp
 have r2 : (((w.alloc (.cells #[.int .u64 a.x0, .int .u64 a.x1, .int .u64 a.x2, .int .u64 a.x3] 39)).alloc (.cells #[.int .u64 b.x0, .int .u64 b.x1, .int .u64 b.x2, .int .u64 b.x3] 39)).alloc (.cells #[.int .u64 0, .int .u64 0, .int .u64 0, .int .u64 0] 39)).cell? ⟨w.heap.size + 1 + 1, 2, none⟩ = some (.int .u64 0) := by go_simp
 have r3 : (((w.alloc (.cells #[.int .u64 a.x0, .int .u64 a.x1, .int .u64 a.x2, .int .u64 a.x3] 39)).alloc (.cells #[.int .u64 b.x0, .int .u64 b.x1, .int .u64 b.x2, .int .u64 b.x3] 39)).alloc (.cells #[.int .u64 0, .int .u64 0, .int .u64 0, .int .u64 0] 39)).cell? ⟨w.heap.size + 1 + 1, 3, none⟩ = some (.int .u64 0) := by go_simp
 have z0 : (((w.alloc (.cells #[.int .u64 a.x0, .int .u64 a.x1, .int .u64 a.x2, .int .u64 a.x3] 39)).alloc (.cells #[.int .u64 b.x0, .int .u64 b.x1, .int .u64 b.x2, .int .u64 b.x3] 39)).alloc (.cells #[.int .u64 0, .int .u64 0, .int .u64 0, .int .u64 0] 39)).frozen? ⟨w.heap.size + 1 + 1, 0, none⟩ = false := by go_simp
 have z1 : (((w.alloc (.cells #[.int .u64 a.x0, .int .u64 a.x1, .int .u64 a.x2, .int .u64 a.x3] 39)).alloc (.cells #[.int .u64 b.x0, .int .u64 b.x1, .int .u64 b.x2, .int .u64 b.x3] 39)).alloc (.cells #[.int .u64 0, .int .u64 0, .int .u64 0, .int .u64 0] 39)).frozen? ⟨w.heap.size + 1 + 1, 1, none⟩ = false := by go_simp
 have z2 : (((w.alloc (.cells #[.int .u64 a.x0, .int .u64 a.x1, .int .u64 a.x2, .int .u64 a.x3] 39)).alloc (.cells #[.int .u64 b.x0, .int .u64 b.x1, .int .u64 b.x2, .int .u64 b.x3] 39)).alloc (.cells #[.int .u64 0, .int .u64 0, .int .u64 0, .int .u64 0] 39)).frozen? ⟨w.heap.size + 1 + 1, 2, none⟩ = false := by go_simp
 have z3 : (((w.alloc (.cells #[.int .u64 a.x0, .int .u64 a.x1, .int .u64 a.x2, .int .u64 a.x3] 39)).alloc (.cells #[.int .u64 b.x0, .int .u64 b.x1, .int .u64 b.x2, .int .u64 b.x3] 39)).alloc (.cells #[.int .u64 0, .int .u64 0, .int .u64 0, .int .u64 0] 39)).frozen? ⟨w.heap.size + 1 + 1, 3, none⟩ = false := by go_simp
 obtain ⟨w2, hw2⟩ : ∃ w2, (((w.alloc (.cells #[.int .u64 a.x0, .int .u64 a.x1, .int .u64 a.x2, .int .u64 a.x3] 39)).alloc (.cells #[.int .u64 b.x0, .int .u64 b.x1, .int .u64 b.x2, .int .u64 b.x3] 39)).alloc (.cells #[.int .u64 0, .int .u64 0, .int .u64 0, .int .u64 0] 39)) = w2 := ⟨_, rfl⟩
 rw [hw2] at B2 SZ a0 a1 a2 a3 b0 b1 b2 b3 r0 r1 r2 r3 z0 z1 z2 z3
 have H2 := hH.keep B2
 obtain ⟨x, y, h0, h1, f0, f1, h2⟩ := id H2
 obtain ⟨z, hz⟩ : ∃ z, IntKind.i64.wrap (x + 1) = z := ⟨_, rfl⟩
 have G3 := gb_set w2 H 0 (.int .i64 z)
 have H3 := hidden (H2.set (j := 0) (z := z) (by omega))
 have T3 := (hT.keep B2).keep0 G3 (H2.tb (hT.keep B2))
 have GW := hidden ((gbI B2 (some H)).trans G3)
 have SP := hidden (lAdd_any a b ha hb (w2.setCell ⟨H, 0, none⟩ (.int .i64 z)) T3)
 obtain ⟨q, hq⟩ : ∃ q, lst (a.n + b.n) = q := ⟨_, rfl⟩
 rw [hq] at SP ⊢
 unfold E4.v at SP ⊢
 have a0' := (World.cell?_setCell_far w2 ⟨H, 0, none⟩ ⟨w.heap.size, 0, none⟩ (.int .i64 z) (by have := LH.out; simp only; omega)).trans a0
 have a1' := (World.cell?_setCell_far w2 ⟨H, 0, none⟩ ⟨w.heap.size, 1, none⟩ (.int .i64 z) (by have := LH.out; simp only; omega)).trans a1
 have a2' := (World.cell?_setCell_far w2 ⟨H, 0, none⟩ ⟨w.heap.size, 2, none⟩ (.int .i64 z) (by have := LH.out; simp only; omega)).trans a2
 have a3' := (World.cell?_setCell_far w2 ⟨H, 0, none⟩ ⟨w.heap.size, 3, none⟩ (.int .i64 z) (by have := LH.out; simp only; omega)).trans a3
 have b0' := (World.cell?_setCell_far w2 ⟨H, 0, none⟩ ⟨w.heap.size + 1, 0, none⟩ (.int .i64 z) (by have := LH.out; simp only; omega)).trans b0
 have b1' := (World.cell?_setCell_far w2 ⟨H, 0, none⟩ ⟨w.heap.size + 1, 1, none⟩ (.int .i64 z) (by have := LH.out; simp only; omega)).trans b1
 have b2' := (World.cell?_setCell_far w2 ⟨H, 0, none⟩ ⟨w.heap.size + 1, 2, none⟩ (.int .i64 z) (by have := LH.out; simp only; omega)).trans b2
 have b3' := (World.cell?_setCell_far w2 ⟨H, 0, none⟩ ⟨w.heap.size + 1, 3, none⟩ (.int .i64 z) (by have := LH.out; simp only; omega)).trans b3
 have r0' := (World.cell?_setCell_far w2 ⟨H, 0, none⟩ ⟨w.heap.size + 1 + 1, 0, none⟩ (.int .i64 z) (by have := LH.out; simp only; omega)).trans r0
 have r1' := (World.cell?_setCell_far w2 ⟨H, 0, none⟩ ⟨w.heap.size + 1 + 1, 1, none⟩ (.int .i64 z) (by have := LH.out; simp only; omega)).trans r1
 have r2' := (World.cell?_setCell_far w2 ⟨H, 0, none⟩ ⟨w.heap.size + 1 + 1, 2, none⟩ (.int .i64 z) (by have := LH.out; simp only; omega)).trans r2
 have r3' := (World.cell?_setCell_far w2 ⟨H, 0, none⟩ ⟨w.heap.size + 1 + 1, 3, none⟩ (.int .i64 z) (by have := LH.out; simp only; omega)).trans r3
 have z0' : (w2.setCell ⟨H, 0, none⟩ (.int .i64 z)).frozen? ⟨w.heap.size + 1 + 1, 0, none⟩ = false := by simpa using z0
 have z1' : (w2.setCell ⟨H, 0, none⟩ (.int .i64 z)).frozen? ⟨w.heap.size + 1 + 1, 1, none⟩ = false := by simpa using z1
 have z2' : (w2.setCell ⟨H, 0, none⟩ (.int .i64 z)).frozen? ⟨w.heap.size + 1 + 1, 2, none⟩ = false := by simpa using z2
 have z3' : (w2.setCell ⟨H, 0, none⟩ (.int .i64 z)).frozen? ⟨w.heap.size + 1 + 1, 3, none⟩ = false := by simpa using z3
 have S3 : Hid ((w2.setCell ⟨H, 0, none⟩ (.int .i64 z)).heap.size = w.heap.size + 1 + 1 + 1) := hidden (by have := SZ.out; simpa using this)
 have m1 := mt_Add a
 clear G3 T3 hH hT B2 H2 h2 hq
 go_enter Tryz.func58, Tryz.ntmps58
 go_upto_region 1 with fail
 go_upto_region 2 with fail
 generalize (w2.setCell ⟨H, 0, none⟩ (.int .i64 z)) = w3 at *
 clear a0 a1 a2 a3 b0 b1 b2 b3 r0 r1 r2 r3 z0 z1 z2 z3 SZ hw2 h0 h1 f0 f1
 go_wp2_with (first | (go_at_call 128; refine SP.out.mono ?_; rintro e wa ⟨rfl, ha⟩; have q0 := cell_keep r0' ha; have q1 := cell_keep r1' ha; have q2 := cell_keep r2' ha; have q3 := cell_keep r3' ha; have lt := World.block_lt_of_cell? _ _ r0'; have y0 := ((bcell ha).2 _ 0 lt).trans z0'; have y1 := ((bcell ha).2 _ 1 lt).trans z1'; have y2 := ((bcell ha).2 _ 2 lt).trans z2'; have y3 := ((bcell ha).2 _ 3 lt).trans z3'; have BA := hidden ha; clear ha lt))
 have nh : w.heap.size + 1 + 1 ≠ H := by have := LH.out; omega
 refine bodyPost_ret (v := .agg #[.int .u64 q.x0, .int .u64 q.x1, .int .u64 q.x2, .int .u64 q.x3]) (by simp [results, Tryz.results58, go_sem, q0, q1, q2, q3]) rfl ⟨rfl, ((((H3.out.keep BA.out).far nh).far nh).far nh).far nh, gb_box (gb_box (gb_box (gb_box (GW.out.trans (gbI BA.out _)) (by omega)) (by omega)) (by omega)) (by omega)⟩
theorem hdouble (H : Nat) (a : E4) (w : World) (hT : Tb w) (hH : Hd w H) (ha : a.ok) :
  Calls Tryz.prog 81 #[.pointer (some ⟨H, 0, none⟩), .agg #[.int .u64 a.x0, .int .u64 a.x1, .int .u64 a.x2, .int .u64 a.x3]] w fun e w' => e = .returned (lst (a.n + a.n)).v ∧ Hd w' H ∧ w.grownBy w' (some H) := by
 have LH := hidden hH.lt
 have B2 : Below w.heap.size w ((w.alloc (.cells #[.int .u64 a.x0, .int .u64 a.x1, .int .u64 a.x2, .int .u64 a.x3] 39)).alloc (.cells #[.int .u64 0, .int .u64 0, .int .u64 0, .int .u64 0] 39)) := bl_trans (bl_alloc w _) (bl_alloc _ _)
 have SZ : Hid (((w.alloc (.cells #[.int .u64 a.x0, .int .u64 a.x1, .int .u64 a.x2, .int .u64 a.x3] 39)).alloc (.cells #[.int .u64 0, .int .u64 0, .int .u64 0, .int .u64 0] 39)).heap.size = w.heap.size + 1 + 1) := hidden (by simp only [World.size_alloc])
 have a0 : ((w.alloc (.cells #[.int .u64 a.x0, .int .u64 a.x1, .int .u64 a.x2, .int .u64 a.x3] 39)).alloc (.cells #[.int .u64 0, .int .u64 0, .int .u64 0, .int .u64 0] 39)).cell? ⟨w.heap.size, 0, none⟩ = some (.int .u64 a.x0) := by go_simp
 have a1 : ((w.alloc (.cells #[.int .u64 a.x0, .int .u64 a.x1, .int .u64 a.x2, .int .u64 a.x3] 39)).alloc (.cells #[.int .u64 0, .int .u64 0, .int .u64 0, .int .u64 0] 39)).cell? ⟨w.heap.size, 1, none⟩ = some (.int .u64 a.x1) := by go_simp
 have a2 : ((w.alloc (.cells #[.int .u64 a.x0, .int .u64 a.x1, .int .u64 a.x2, .int .u64 a.x3] 39)).alloc (.cells #[.int .u64 0, .int .u64 0, .int .u64 0, .int .u64 0] 39)).cell? ⟨w.heap.size, 2, none⟩ = some (.int .u64 a.x2) := by go_simp
 have a3 : ((w.alloc (.cells #[.int .u64 a.x0, .int .u64 a.x1, .int .u64 a.x2, .int .u64 a.x3] 39)).alloc (.cells #[.int .u64 0, .int .u64 0, .int .u64 0, .int .u64 0] 39)).cell? ⟨w.heap.size, 3, none⟩ = some (.int .u64 a.x3) := by go_simp
 have r0 : ((w.alloc (.cells #[.int .u64 a.x0, .int .u64 a.x1, .int .u64 a.x2, .int .u64 a.x3] 39)).alloc (.cells #[.int .u64 0, .int .u64 0, .int .u64 0, .int .u64 0] 39)).cell? ⟨w.heap.size + 1, 0, none⟩ = some (.int .u64 0) := by go_simp
 have r1 : ((w.alloc (.cells #[.int .u64 a.x0, .int .u64 a.x1, .int .u64 a.x2, .int .u64 a.x3] 39)).alloc (.cells #[.int .u64 0, .int .u64 0, .int .u64 0, .int .u64 0] 39)).cell? ⟨w.heap.size + 1, 1, none⟩ = some (.int .u64 0) := by go_simp
 have r2 : ((w.alloc (.cells #[.int .u64 a.x0, .int .u64 a.x1, .int .u64 a.x2, .int .u64 a.x3] 39)).alloc (.cells #[.int .u64 0, .int .u64 0, .int .u64 0, .int .u64 0] 39)).cell? ⟨w.heap.size + 1, 2, none⟩ = some (.int .u64 0) := by go_simp
 have r3 : ((w.alloc (.cells #[.int .u64 a.x0, .int .u64 a.x1, .int .u64 a.x2, .int .u64 a.x3] 39)).alloc (.cells #[.int .u64 0, .int .u64 0, .int .u64 0, .int .u64 0] 39)).cell? ⟨w.heap.size + 1, 3, none⟩ = some (.int .u64 0) := by go_simp
 have z0 : ((w.alloc (.cells #[.int .u64 a.x0, .int .u64 a.x1, .int .u64 a.x2, .int .u64 a.x3] 39)).alloc (.cells #[.int .u64 0, .int .u64 0, .int .u64 0, .int .u64 0] 39)).frozen? ⟨w.heap.size + 1, 0, none⟩ = false := by go_simp
 have z1 : ((w.alloc (.cells #[.int .u64 a.x0, .int .u64 a.x1, .int .u64 a.x2, .int .u64 a.x3] 39)).alloc (.cells #[.int .u64 0, .int .u64 0, .int .u64 0, .int .u64 0] 39)).frozen? ⟨w.heap.size + 1, 1, none⟩ = false := by go_simp
 have z2 : ((w.alloc (.cells #[.int .u64 a.x0, .int .u64 a.x1, .int .u64 a.x2, .int .u64 a.x3] 39)).alloc (.cells #[.int .u64 0, .int .u64 0, .int .u64 0, .int .u64 0] 39)).frozen? ⟨w.heap.size + 1, 2, none⟩ = false := by go_simp
 have z3 : ((w.alloc (.cells #[.int .u64 a.x0, .int .u64 a.x1, .int .u64 a.x2, .int .u64 a.x3] 39)).alloc (.cells #[.int .u64 0, .int .u64 0, .int .u64 0, .int .u64 0] 39)).frozen? ⟨w.heap.size + 1, 3, none⟩ = false := by go_simp
 obtain ⟨w2, hw2⟩ : ∃ w2, ((w.alloc (.cells #[.int .u64 a.x0, .int .u64 a.x1, .int .u64 a.x2, .int .u64 a.x3] 39)).alloc (.cells #[.int .u64 0, .int .u64 0, .int .u64 0, .int .u64 0] 39)) = w2 := ⟨_, rfl⟩
 rw [hw2] at B2 SZ a0 a1 a2 a3 r0 r1 r2 r3 z0 z1 z2 z3
 have H2 := hH.keep B2
 obtain ⟨x, y, h0, h1, f0, f1, h2⟩ := id H2
 obtain ⟨z, hz⟩ : ∃ z, IntKind.i64.wrap (y + 1) = z := ⟨_, rfl⟩
 have G3 := gb_set w2 H 1 (.int .i64 z)
 have H3 := hidden (H2.set (j := 1) (z := z) (by omega))
 have T3 := (hT.keep B2).keep0 G3 (H2.tb (hT.keep B2))
 have GW := hidden ((gbI B2 (some H)).trans G3)
 have SP := hidden (lDouble_any a ha (w2.setCell ⟨H, 1, none⟩ (.int .i64 z)) T3)
 obtain ⟨q, hq⟩ : ∃ q, lst (a.n + a.n) = q := ⟨_, rfl⟩
 rw [hq] at SP ⊢
 unfold E4.v at SP ⊢
 have a0' := (World.cell?_setCell_far w2 ⟨H, 1, none⟩ ⟨w.heap.size, 0, none⟩ (.int .i64 z) (by have := LH.out; simp only; omega)).trans a0
 have a1' := (World.cell?_setCell_far w2 ⟨H, 1, none⟩ ⟨w.heap.size, 1, none⟩ (.int .i64 z) (by have := LH.out; simp only; omega)).trans a1
 have a2' := (World.cell?_setCell_far w2 ⟨H, 1, none⟩ ⟨w.heap.size, 2, none⟩ (.int .i64 z) (by have := LH.out; simp only; omega)).trans a2
 have a3' := (World.cell?_setCell_far w2 ⟨H, 1, none⟩ ⟨w.heap.size, 3, none⟩ (.int .i64 z) (by have := LH.out; simp only; omega)).trans a3
 have r0' := (World.cell?_setCell_far w2 ⟨H, 1, none⟩ ⟨w.heap.size + 1, 0, none⟩ (.int .i64 z) (by have := LH.out; simp only; omega)).trans r0
 have r1' := (World.cell?_setCell_far w2 ⟨H, 1, none⟩ ⟨w.heap.size + 1, 1, none⟩ (.int .i64 z) (by have := LH.out; simp only; omega)).trans r1
 have r2' := (World.cell?_setCell_far w2 ⟨H, 1, none⟩ ⟨w.heap.size + 1, 2, none⟩ (.int .i64 z) (by have := LH.out; simp only; omega)).trans r2
 have r3' := (World.cell?_setCell_far w2 ⟨H, 1, none⟩ ⟨w.heap.size + 1, 3, none⟩ (.int .i64 z) (by have := LH.out; simp only; omega)).trans r3
 have z0' : (w2.setCell ⟨H, 1, none⟩ (.int .i64 z)).frozen? ⟨w.heap.size + 1, 0, none⟩ = false := by simpa using z0
 have z1' : (w2.setCell ⟨H, 1, none⟩ (.int .i64 z)).frozen? ⟨w.heap.size + 1, 1, none⟩ = false := by simpa using z1
 have z2' : (w2.setCell ⟨H, 1, none⟩ (.int .i64 z)).frozen? ⟨w.heap.size + 1, 2, none⟩ = false := by simpa using z2
 have z3' : (w2.setCell ⟨H, 1, none⟩ (.int .i64 z)).frozen? ⟨w.heap.size + 1, 3, none⟩ = false := by simpa using z3
 have S3 : Hid ((w2.setCell ⟨H, 1, none⟩ (.int .i64 z)).heap.size = w.heap.size + 1 + 1) := hidden (by have := SZ.out; simpa using this)
 have m1 := mt_Double a
 clear G3 T3 hH hT B2 H2 h2 hq
 go_enter Tryz.func81, Tryz.ntmps81
 go_upto_region 1 with fail
 go_upto_region 2 with fail
 generalize (w2.setCell ⟨H, 1, none⟩ (.int .i64 z)) = w3 at *
 clear a0 a1 a2 a3 r0 r1 r2 r3 z0 z1 z2 z3 SZ hw2 h0 h1 f0 f1
 go_wp2_with (first | (go_at_call 129; refine SP.out.mono ?_; rintro e wa ⟨rfl, ha⟩; have q0 := cell_keep r0' ha; have q1 := cell_keep r1' ha; have q2 := cell_keep r2' ha; have q3 := cell_keep r3' ha; have lt := World.block_lt_of_cell? _ _ r0'; have y0 := ((bcell ha).2 _ 0 lt).trans z0'; have y1 := ((bcell ha).2 _ 1 lt).trans z1'; have y2 := ((bcell ha).2 _ 2 lt).trans z2'; have y3 := ((bcell ha).2 _ 3 lt).trans z3'; have BA := hidden ha; clear ha lt))
 have nh : w.heap.size + 1 ≠ H := by have := LH.out; omega
 refine bodyPost_ret (v := .agg #[.int .u64 q.x0, .int .u64 q.x1, .int .u64 q.x2, .int .u64 q.x3]) (by simp [results, Tryz.results81, go_sem, q0, q1, q2, q3]) rfl ⟨rfl, ((((H3.out.keep BA.out).far nh).far nh).far nh).far nh, gb_box (gb_box (gb_box (gb_box (GW.out.trans (gbI BA.out _)) (by omega)) (by omega)) (by omega)) (by omega)⟩
end Go.Proofs.YtbbnjmjeeiglcaaGreatDoor.Li
namespace Go.Proofs.YtbbnjmjeeiglcaaGreatDoor
open Go.RowKit
theorem wp_storeE {P : Program} {op : Oper} {a : Act} {w : World} {K : Act → World → Prop} {Q : Exit → Act → World → Prop} (ty : TypeId) (x y : Operand) (ho : op.op = .store ty x y) (b o : Nat) (cs : List Value) (hx : a.eval x = .pointer (some ⟨b, o, none⟩)) (hy : a.eval y = .agg cs.toArray) (ht : w.there b o cs.length) (hi : (P.info? ty).map (·.size) = some cs.length) (h1 : cs.toArray.all (·.oneCell') = true) (hd : op.dst = none)
  (h : ∀ w', w' = w.setCells b o cs → K a w') : op.wp P a w K Q := by
 refine wp_store_mid ty x y ho b o cs.toArray hx hy (by simpa using ht) (by simpa using hi) h1 ?_
 have := h _ rfl
 simpa [hd, Act.put] using this
theorem gb_cell_some {w w' : World} {b T : Nat} {o : Nat} (h : w.grownBy w' (some b)) (hc : (w.cell? ⟨T, o, none⟩).isSome = true) (hn : T ≠ b) : w'.cell? ⟨T, o, none⟩ = w.cell? ⟨T, o, none⟩ := by
 obtain ⟨v, hv⟩ := Option.isSome_iff_exists.1 hc
 rw [hv]; exact h.cell hv (fun e => hn (Option.some.inj e))
theorem gb_frozen_some {w w' : World} {b T : Nat} {o : Nat} (h : w.grownBy w' (some b)) (hc : (w.cell? ⟨T, o, none⟩).isSome = true) (hn : T ≠ b) : w'.frozen? ⟨T, o, none⟩ = w.frozen? ⟨T, o, none⟩ := by
 obtain ⟨v, hv⟩ := Option.isSome_iff_exists.1 hc
 exact World.frozen?_of_block (h.block T (World.block_lt_of_cell? w _ hv) (fun e => hn (Option.some.inj e)))
theorem there_gb {w w' : World} {b T o n : Nat} (h : w.there T o n) (hg : w.grownBy w' (some b)) (hn : T ≠ b) : w'.there T o n := fun j hj => ⟨by rw [gb_cell_some hg (h j hj).1 hn]; exact (h j hj).1, by rw [gb_frozen_some hg (h j hj).1 hn]; exact (h j hj).2⟩
end Go.Proofs.YtbbnjmjeeiglcaaGreatDoor
namespace Go.Proofs.YtbbnjmjeeiglcaaGreatDoor.Li
open Go.RowKit
theorem range_gb {w w' : World} {b o H : Nat} {cs : List Value} (h : w.rangeAt b o cs) (hg : w.grownBy w' (some H)) (hn : b ≠ H) : w'.rangeAt b o cs := fun j v hv => hg.cell (h j v hv) (fun e => hn (Option.some.inj e))
theorem range_bl {w w' : World} {b o : Nat} {cs : List Value} (h : w.rangeAt b o cs) (hb : Below w.heap.size w w') : w'.rangeAt b o cs := fun j v hv => cell_keep (h j v hv) hb
theorem range4 {w : World} {b o : Nat} {p : E4} (h0 : w.cell? ⟨b, o, none⟩ = some (.int .u64 p.x0)) (h1 : w.cell? ⟨b, o + 1, none⟩ = some (.int .u64 p.x1)) (h2 : w.cell? ⟨b, o + 2, none⟩ = some (.int .u64 p.x2)) (h3 : w.cell? ⟨b, o + 3, none⟩ = some (.int .u64 p.x3)) : w.rangeAt b o [.int .u64 p.x0, .int .u64 p.x1, .int .u64 p.x2, .int .u64 p.x3] := fun j v hv => by
 match j, hv with
 | 0, hv => simp at hv; subst hv; exact h0
 | 1, hv => simp at hv; subst hv; exact h1
 | 2, hv => simp at hv; subst hv; exact h2
 | 3, hv => simp at hv; subst hv; exact h3
theorem there4 {w : World} {b o : Nat} {p : E4} (h : w.rangeAt b o [.int .u64 p.x0, .int .u64 p.x1, .int .u64 p.x2, .int .u64 p.x3]) (f : ∀ j, j < 4 → w.frozen? ⟨b, o + j, none⟩ = false) : w.there b o 4 := fun j hj => by
 refine ⟨?_, f j hj⟩
 match j, hj with
 | 0, _ => rw [h 0 _ rfl]; rfl
 | 1, _ => rw [h 1 _ rfl]; rfl
 | 2, _ => rw [h 2 _ rfl]; rfl
 | 3, _ => rw [h 3 _ rfl]; rfl
theorem there_bl {w w' : World} {b o n : Nat} (h : w.there b o n) (hb : Below w.heap.size w w') : w'.there b o n := fun j hj => by
 obtain ⟨h1, h2⟩ := h j hj
 obtain ⟨u, hu⟩ := Option.isSome_iff_exists.1 h1
 have hl := World.block_lt_of_cell? w _ hu
 exact ⟨by rw [hb.cell (p := ⟨b, o + j, none⟩) hl]; exact h1, by rw [hb.frozen (p := ⟨b, o + j, none⟩) hl]; exact h2⟩
def ly2o_0 : Oper := { dst := some 10, op := Op.move (Operand.tmp 0), type := 139, pos := "ways.go:33", after := #[], guard := none }
def ly2o_1 : Oper := { dst := some 11, op := Op.move (Operand.tmp 1), type := 151, pos := "ways.go:33", after := #[], guard := none }
def ly2o_2 : Oper := { dst := some 12, op := Op.nilCheck (Operand.tmp 11), type := 0, pos := "ways.go:33", after := #[{ on := 1, ground := Ground.data }], guard := none }
def ly2o_3 : Oper := { dst := some 13, op := Op.fieldAddr 153 (Operand.tmp 12) 0, type := 0, pos := "ways.go:33", after := #[{ on := 2, ground := Ground.data }], guard := none }
def ly2o_4 : Oper := { dst := some 14, op := Op.load 39 (Operand.tmp 13), type := 39, pos := "ways.go:33", after := #[{ on := 3, ground := Ground.data }], guard := none }
def ly2o_5 : Oper := { dst := some 15, op := Op.load 39 (Operand.tmp 5), type := 39, pos := "ways.go:33", after := #[], guard := none }
def ly2o_6 : Oper := { dst := some 16, op := Op.call { callee := Callee.value (Operand.func 58), args := #[Operand.tmp 10, Operand.tmp 14, Operand.tmp 15], argTypes := #[139, 39, 39] }, type := 39, pos := "ways.go:33", after := #[{ on := 0, ground := Ground.data }, { on := 4, ground := Ground.data }, { on := 5, ground := Ground.data }], guard := none }
def ly2o_7 : Oper := { dst := none, op := Op.store 39 (Operand.tmp 5) (Operand.tmp 16), type := 0, pos := "ways.go:33", after := #[{ on := 6, ground := Ground.data }, { on := 6, ground := Ground.chain }, { on := 0, ground := Ground.phase }, { on := 1, ground := Ground.phase }, { on := 2, ground := Ground.phase }, { on := 3, ground := Ground.phase }, { on := 4, ground := Ground.phase }, { on := 5, ground := Ground.phase }, { on := 6, ground := Ground.phase }], guard := none }
def ly2o : Array Oper := #[ly2o_0, ly2o_1, ly2o_2, ly2o_3, ly2o_4, ly2o_5, ly2o_6, ly2o_7]
theorem ly2 (Q : Exit → Act → World → Prop) (H D o T5 : Nat) (q p r : E4) (u2 u3 u4 u6 u7 u8 u9 u10 u11 u12 u13 u14 u15 u16 u17 u18 u19 u20 : Value) (W : World)
  (neDH : D ≠ H) (neDT : D ≠ T5) (neTH : T5 ≠ H) (rd : W.rangeAt D o [.int .u64 q.x0, .int .u64 q.x1, .int .u64 q.x2, .int .u64 q.x3]) (rb : W.rangeAt T5 0 [.int .u64 p.x0, .int .u64 p.x1, .int .u64 p.x2, .int .u64 p.x3]) (th : W.there T5 0 4)
  (C6 : Hid (Calls Tryz.prog 58 #[.pointer (some ⟨H, 0, none⟩), .agg #[.int .u64 q.x0, .int .u64 q.x1, .int .u64 q.x2, .int .u64 q.x3], .agg #[.int .u64 p.x0, .int .u64 p.x1, .int .u64 p.x2, .int .u64 p.x3]] W.drew fun e w' => e = .returned (.agg #[.int .u64 r.x0, .int .u64 r.x1, .int .u64 r.x2, .int .u64 r.x3]) ∧ Hd w' H ∧ W.drew.grownBy w' (some H)))
  (HQ : Hid (∀ (wm wz : World), Hd wm H → W.drew.grownBy wm (some H) → wz = wm.setCells T5 0 [.int .u64 r.x0, .int .u64 r.x1, .int .u64 r.x2, .int .u64 r.x3] → Q .normal ⟨#[.pointer (some ⟨H, 0, none⟩), .pointer (some ⟨D, o, none⟩), u2, u3, u4, .pointer (some ⟨T5, 0, none⟩), u6, u7, u8, u9, .pointer (some ⟨H, 0, none⟩), .pointer (some ⟨D, o, none⟩), .pointer (some ⟨D, o, none⟩), .pointer (some ⟨D, o, none⟩), .agg #[.int .u64 q.x0, .int .u64 q.x1, .int .u64 q.x2, .int .u64 q.x3], .agg #[.int .u64 p.x0, .int .u64 p.x1, .int .u64 p.x2, .int .u64 p.x3], .agg #[.int .u64 r.x0, .int .u64 r.x1, .int .u64 r.x2, .int .u64 r.x3], u17, u18, u19, u20], []⟩ wz)) : (Code.region 2 ly2o true).wp Tryz.prog Q ⟨#[.pointer (some ⟨H, 0, none⟩), .pointer (some ⟨D, o, none⟩), u2, u3, u4, .pointer (some ⟨T5, 0, none⟩), u6, u7, u8, u9, u10, u11, u12, u13, u14, u15, u16, u17, u18, u19, u20], []⟩ W := by
 have RG := hidden (range_bl rb (bl_drew W))
 have TH := hidden (there_bl th (bl_drew W))
 have UL : Hid (Tryz.prog.underlying 39 = some _) := hidden Tryz.underlying39
 have IL : Hid ((Tryz.prog.info? 39).map (·.size) = some ([.int .u64 q.x0, .int .u64 q.x1, .int .u64 q.x2, .int .u64 q.x3] : List Value).length) := hidden (by kernel_rfl)
 clear rb th
 unfold ly2o
 refine wp_region_noPanic ?_
 refine wp_region_held_drew (S := fun x => x.rangeAt D o [.int .u64 q.x0, .int .u64 q.x1, .int .u64 q.x2, .int .u64 q.x3]) (by kernel_rfl) (range_bl rd (bl_drew W)) (fun hH0 => ?_)
 refine tk 0 ly2o_0 (.pointer (some ⟨H, 0, none⟩)) rfl (by kernel_rfl) hH0 rfl (fun w0 hSw => ?_) ?_
 ·(unfold ly2o_0; clear hSw; go_simp)
 simp only [ly2o_0, Act.put, sA, sB, sC]
 refine tk 1 ly2o_1 (.pointer (some ⟨D, o, none⟩)) rfl (by kernel_rfl) hH0 rfl (fun w0 hSw => ?_) ?_
 ·(unfold ly2o_1; clear hSw; go_simp)
 simp only [ly2o_1, Act.put, sA, sB, sC]
 refine tk 2 ly2o_2 (.pointer (some ⟨D, o, none⟩)) rfl (by kernel_rfl) hH0 rfl (fun w0 hSw => ?_) ?_
 ·(unfold ly2o_2; clear hSw; go_simp)
 simp only [ly2o_2, Act.put, sA, sB, sC]
 refine tk 3 ly2o_3 (.pointer (some ⟨D, o, none⟩)) rfl (by kernel_rfl) hH0 rfl (fun w0 hSw => ?_) ?_
 ·(unfold ly2o_3; clear hSw; go_simp)
 simp only [ly2o_3, Act.put, sA, sB, sC]
 refine wpAnyH_take (i := 4) (oi := ly2o_4) (v := .agg ([.int .u64 q.x0, .int .u64 q.x1, .int .u64 q.x2, .int .u64 q.x3]).toArray) rfl (by kernel_rfl) (by kernel_rfl) (by kernel_rfl) (fun _ _ _ h => h) (yieldsIf_load_mid (by rfl) 39 _ rfl (D) (o) rfl ([.int .u64 q.x0, .int .u64 q.x1, .int .u64 q.x2, .int .u64 q.x3]) _ (fun w0 hSw => hSw) UL.out rfl IL.out) hH0 ?_
 simp only [ly2o_4, Act.put, sA, sB, sC]
 refine wpAnyH_ready (rs := [5]) (by kernel_rfl) (by simp) ?_
 refine AllReadyH.cons (o := ly2o_5) rfl (fun K hK => ?_) AllReadyH.nil
 unfold ly2o_5
 have HH := hidden hH0
 clear hH0
 refine wp_load_mid 39 _ rfl T5 0 (by rfl) [.int .u64 p.x0, .int .u64 p.x1, .int .u64 p.x2, .int .u64 p.x3] _ RG.out Tryz.underlying39 rfl i4_L ?_
 simp only [Act.put, sA, sB, sC]
 have SN := HH
 clear HH
 refine hK.out _ _ SN.out (fun hH1 => ?_)
 clear hK K SN
 refine wpAnyH_ready (rs := [6]) (by kernel_rfl) (by simp) ?_
 refine AllReadyH.cons (o := ly2o_6) rfl (fun K hK => ?_) AllReadyH.nil
 unfold ly2o_6
 have HH := hidden hH1
 clear hH1
 go_simp
 refine (C6.out).mono ?_
 rintro e wn2 ⟨rfl, hH, hg⟩
 have HG := hidden (hH)
 have GG := hidden (hg)
 replace TH := hidden (there_gb TH.out hg neTH)
 have SN := hidden (range_gb HH.out hg neDH)
 clear HH C6 hH hg RG
 go_wp2_with fail
 refine hK.out _ _ SN.out (fun hH2 => ?_)
 clear hK K SN
 refine wpAnyH_ready (rs := [7]) (by kernel_rfl) (by simp) ?_
 refine AllReadyH.cons (o := ly2o_7) rfl (fun K hK => ?_) AllReadyH.nil
 unfold ly2o_7
 have HH := hidden hH2
 clear hH2
 refine wp_storeE 39 _ _ rfl T5 0 ([.int .u64 r.x0, .int .u64 r.x1, .int .u64 r.x2, .int .u64 r.x3]) (by rfl) (by rfl) TH.out i4_L (one4 r) rfl (fun wn3 hw => ?_)
 have SN := hidden (World.rangeAt_setCells_apart HH.out T5 0 [.int .u64 r.x0, .int .u64 r.x1, .int .u64 r.x2, .int .u64 r.x3] (Or.inl neDT))
 have HW := hidden (hw)
 rw [← hw] at SN
 clear HH hw
 refine hK.out _ _ SN.out (fun hH3 => ?_)
 clear hK K SN
 have HH := hidden hH3
 have FQ := hidden (HQ.out _ _ HG.out GG.out HW.out)
 refine wpAnyH_done (by kernel_rfl) ?_ _
 refine NoPanic.normal ?_
 exact FQ.out
def Ly (w w' : World) (H D o : Nat) (x : Nat → Int) : Prop := ∃ (z : E4) (wm : World), w.grownBy wm (some H) ∧ w' = (setS wm D o z).setCell ⟨D, o + 4, none⟩ (.bool true) ∧ (z.ok ∧ ∀ t, lst z.n = lst (x t)) ∧ Hd wm H
theorem lay_no (H D o : Nat) (p q : E4) (x : Nat → Int) (w : World) (hT : Tb w) (hH : Hd w H) (hp : p.ok ∧ ∀ t, lst p.n = lst (x t)) (neDH : D ≠ H) (c0 : w.cell? ⟨D, o, none⟩ = some (.int .u64 q.x0)) (c1 : w.cell? ⟨D, o + 1, none⟩ = some (.int .u64 q.x1)) (c2 : w.cell? ⟨D, o + 2, none⟩ = some (.int .u64 q.x2)) (c3 : w.cell? ⟨D, o + 3, none⟩ = some (.int .u64 q.x3)) (c4 : w.cell? ⟨D, o + 4, none⟩ = some (.bool false)) (f0 : w.frozen? ⟨D, o, none⟩ = false) (f1 : w.frozen? ⟨D, o + 1, none⟩ = false) (f2 : w.frozen? ⟨D, o + 2, none⟩ = false) (f3 : w.frozen? ⟨D, o + 3, none⟩ = false) (f4 : w.frozen? ⟨D, o + 4, none⟩ = false) :
  Calls Tryz.prog 71 #[.pointer (some ⟨H, 0, none⟩), .pointer (some ⟨D, o, none⟩), .agg #[.int .u64 p.x0, .int .u64 p.x1, .int .u64 p.x2, .int .u64 p.x3]] w fun e w' => e = .returned (.tuple #[]) ∧ Ly w w' H D o x := by
 have B1 := bl_alloc w (.cells #[.int .u64 p.x0, .int .u64 p.x1, .int .u64 p.x2, .int .u64 p.x3] 39)
 have LD := World.block_lt_of_cell? w _ c0
 have a0 := cell_keep c0 B1
 have b0 := ((bcell B1).2 D o LD).trans f0
 have a1 := cell_keep c1 B1
 have b1 := ((bcell B1).2 D (o + 1) LD).trans f1
 have a2 := cell_keep c2 B1
 have b2 := ((bcell B1).2 D (o + 2) LD).trans f2
 have a3 := cell_keep c3 B1
 have b3 := ((bcell B1).2 D (o + 3) LD).trans f3
 have a4 := cell_keep c4 B1
 have b4 := ((bcell B1).2 D (o + 4) LD).trans f4
 have e0 : (w.alloc (.cells #[.int .u64 p.x0, .int .u64 p.x1, .int .u64 p.x2, .int .u64 p.x3] 39)).cell? ⟨w.heap.size, 0, none⟩ = some (.int .u64 p.x0) := by go_simp
 have e1 : (w.alloc (.cells #[.int .u64 p.x0, .int .u64 p.x1, .int .u64 p.x2, .int .u64 p.x3] 39)).cell? ⟨w.heap.size, 1, none⟩ = some (.int .u64 p.x1) := by go_simp
 have e2 : (w.alloc (.cells #[.int .u64 p.x0, .int .u64 p.x1, .int .u64 p.x2, .int .u64 p.x3] 39)).cell? ⟨w.heap.size, 2, none⟩ = some (.int .u64 p.x2) := by go_simp
 have e3 : (w.alloc (.cells #[.int .u64 p.x0, .int .u64 p.x1, .int .u64 p.x2, .int .u64 p.x3] 39)).cell? ⟨w.heap.size, 3, none⟩ = some (.int .u64 p.x3) := by go_simp
 have LY : Hid (Ly w ((setS (w.alloc (.cells #[.int .u64 p.x0, .int .u64 p.x1, .int .u64 p.x2, .int .u64 p.x3] 39)) D o p).setCell ⟨D, o + 4, none⟩ (.bool true)) H D o x) := hidden ⟨p, _, gbI B1 _, rfl, hp, hH.keep B1⟩
 unfold setS at LY
 clear hT hH hp c0 f0 c1 f1 c2 f2 c3 f3 c4 f4 B1
 go_enter Tryz.func71, Tryz.ntmps71
 go_upto_region 1 with fail
 generalize (w.alloc (.cells #[.int .u64 p.x0, .int .u64 p.x1, .int .u64 p.x2, .int .u64 p.x3] 39)) = w1 at *
 go_wp2_with fail
 refine bodyPost_end (v := .tuple #[]) (by simp [results, Tryz.results71, go_sem]) rfl ⟨rfl, LY.out⟩
theorem lay_on (H D o : Nat) (p q : E4) (x y : Nat → Int) (w : World) (hT : Tb w) (hH : Hd w H) (hp : p.ok ∧ ∀ t, lst p.n = lst (x t)) (hq : q.ok ∧ ∀ t, lst q.n = lst (y t)) (neDH : D ≠ H) (c0 : w.cell? ⟨D, o, none⟩ = some (.int .u64 q.x0)) (c1 : w.cell? ⟨D, o + 1, none⟩ = some (.int .u64 q.x1)) (c2 : w.cell? ⟨D, o + 2, none⟩ = some (.int .u64 q.x2)) (c3 : w.cell? ⟨D, o + 3, none⟩ = some (.int .u64 q.x3)) (c4 : w.cell? ⟨D, o + 4, none⟩ = some (.bool true)) (f0 : w.frozen? ⟨D, o, none⟩ = false) (f1 : w.frozen? ⟨D, o + 1, none⟩ = false) (f2 : w.frozen? ⟨D, o + 2, none⟩ = false) (f3 : w.frozen? ⟨D, o + 3, none⟩ = false) (f4 : w.frozen? ⟨D, o + 4, none⟩ = false) :
  Calls Tryz.prog 71 #[.pointer (some ⟨H, 0, none⟩), .pointer (some ⟨D, o, none⟩), .agg #[.int .u64 p.x0, .int .u64 p.x1, .int .u64 p.x2, .int .u64 p.x3]] w fun e w' => e = .returned (.tuple #[]) ∧ Ly w w' H D o (fun t => y t + x t) := by
 have B1 := bl_alloc w (.cells #[.int .u64 p.x0, .int .u64 p.x1, .int .u64 p.x2, .int .u64 p.x3] 39)
 have LD := World.block_lt_of_cell? w _ c0
 have LH := hH.lt
 have a0 := cell_keep c0 B1
 have b0 := ((bcell B1).2 D o LD).trans f0
 have a1 := cell_keep c1 B1
 have b1 := ((bcell B1).2 D (o + 1) LD).trans f1
 have a2 := cell_keep c2 B1
 have b2 := ((bcell B1).2 D (o + 2) LD).trans f2
 have a3 := cell_keep c3 B1
 have b3 := ((bcell B1).2 D (o + 3) LD).trans f3
 have a4 := cell_keep c4 B1
 have b4 := ((bcell B1).2 D (o + 4) LD).trans f4
 have e0 : (w.alloc (.cells #[.int .u64 p.x0, .int .u64 p.x1, .int .u64 p.x2, .int .u64 p.x3] 39)).cell? ⟨w.heap.size, 0, none⟩ = some (.int .u64 p.x0) := by go_simp
 have e1 : (w.alloc (.cells #[.int .u64 p.x0, .int .u64 p.x1, .int .u64 p.x2, .int .u64 p.x3] 39)).cell? ⟨w.heap.size, 1, none⟩ = some (.int .u64 p.x1) := by go_simp
 have e2 : (w.alloc (.cells #[.int .u64 p.x0, .int .u64 p.x1, .int .u64 p.x2, .int .u64 p.x3] 39)).cell? ⟨w.heap.size, 2, none⟩ = some (.int .u64 p.x2) := by go_simp
 have e3 : (w.alloc (.cells #[.int .u64 p.x0, .int .u64 p.x1, .int .u64 p.x2, .int .u64 p.x3] 39)).cell? ⟨w.heap.size, 3, none⟩ = some (.int .u64 p.x3) := by go_simp
 have th : (w.alloc (.cells #[.int .u64 p.x0, .int .u64 p.x1, .int .u64 p.x2, .int .u64 p.x3] 39)).there w.heap.size 0 4 := there_newM w [.int .u64 p.x0, .int .u64 p.x1, .int .u64 p.x2, .int .u64 p.x3] 39
 have SZ : Hid ((w.alloc (.cells #[.int .u64 p.x0, .int .u64 p.x1, .int .u64 p.x2, .int .u64 p.x3] 39)).heap.size = w.heap.size + 1) := hidden (by simp only [World.size_alloc])
 have BD := bl_trans B1 (bl_drew _)
 obtain ⟨r, hr⟩ : ∃ r, lst (q.n + p.n) = r := ⟨_, rfl⟩
 have C6 := hidden (hadd H q p (w.alloc (.cells #[.int .u64 p.x0, .int .u64 p.x1, .int .u64 p.x2, .int .u64 p.x3] 39)).drew (hT.keep BD) (hH.keep BD) hq.1 hp.1)
 rw [hr] at C6
 unfold E4.v at C6
 have HRR : Hid (r.ok ∧ ∀ t, lst r.n = lst (y t + x t)) := hidden (by rw [← hr]; exact ⟨lst_ok _, fun t => by rw [lst_n']; exact lst_two (hq.2 t) (hp.2 t)⟩)
 have GB := hidden (gbI BD (some H))
 clear hT hH hp hq hr c0 f0 c1 f1 c2 f2 c3 f3 c4 f4 B1 BD
 go_enter Tryz.func71, Tryz.ntmps71
 go_upto_region 1 with fail
 generalize (w.alloc (.cells #[.int .u64 p.x0, .int .u64 p.x1, .int .u64 p.x2, .int .u64 p.x3] 39)) = w1 at *
 go_upto_region 2 with fail
 refine ly2 _ H D o w.heap.size q p r _ _ _ _ _ _ _ _ _ _ _ _ _ _ _ _ _ _ w1 neDH (by simp only at LD; omega) (by omega) (range4 a0 a1 a2 a3) (range4 e0 e1 e2 e3) th C6 (hidden ?_)
 intro wm wz hH hg hw
 have hw1 : wz = setS wm w.heap.size 0 r := hw
 have nD : w.heap.size ≠ D := by simp only at LD; omega
 have nH : w.heap.size ≠ H := by omega
 have tk : wm.there w.heap.size 0 4 := there_gb (there_bl th (bl_drew w1)) hg nH
 have RZ : wz.rangeAt w.heap.size 0 [.int .u64 r.x0, .int .u64 r.x1, .int .u64 r.x2, .int .u64 r.x3] := by rw [hw]; exact World.rangeAt_setCells_same _ _ _ _ tk
 have kc : ∀ (j : Nat) (v : Value), w1.cell? ⟨D, j, none⟩ = some v → wz.cell? ⟨D, j, none⟩ = some v := fun j v hv => by rw [hw1, setS_far0 _ _ _ _ _ (by simp only; omega)]; exact hg.cell (cell_keep hv (bl_drew w1)) (fun e => neDH (Option.some.inj e))
 have kf : ∀ (j : Nat) (v : Value), w1.cell? ⟨D, j, none⟩ = some v → w1.frozen? ⟨D, j, none⟩ = false → wz.frozen? ⟨D, j, none⟩ = false := fun j v hv hf => by rw [hw1, setS_frozen, gb_frozen_some hg (by rw [cell_keep hv (bl_drew w1)]; rfl) neDH]; simpa using hf
 have k0 := kc _ _ a0
 have l0 := kf _ _ a0 b0
 have k1 := kc _ _ a1
 have l1 := kf _ _ a1 b1
 have k2 := kc _ _ a2
 have l2 := kf _ _ a2 b2
 have k3 := kc _ _ a3
 have l3 := kf _ _ a3 b3
 have k4 := kc _ _ a4
 have l4 := kf _ _ a4 b4
 have m0 : wz.cell? ⟨w.heap.size, 0, none⟩ = some (.int .u64 r.x0) := RZ 0 _ rfl
 have m1 : wz.cell? ⟨w.heap.size, 1, none⟩ = some (.int .u64 r.x1) := RZ 1 _ rfl
 have m2 : wz.cell? ⟨w.heap.size, 2, none⟩ = some (.int .u64 r.x2) := RZ 2 _ rfl
 have m3 : wz.cell? ⟨w.heap.size, 3, none⟩ = some (.int .u64 r.x3) := RZ 3 _ rfl
 have GZ : w.grownBy wz (some H) := by rw [hw1]; unfold setS; exact gb_box (gb_box (gb_box (gb_box (GB.out.trans hg) (Nat.le_refl _)) (Nat.le_refl _)) (Nat.le_refl _)) (Nat.le_refl _)
 have HZ : Hd wz H := by rw [hw1]; unfold setS; exact (((hH.far nH).far nH).far nH).far nH
 have LY : Hid (Ly w ((setS wz D o r).setCell ⟨D, o + 4, none⟩ (.bool true)) H D o (fun t => y t + x t)) := hidden ⟨r, wz, GZ, rfl, HRR.out, HZ⟩
 unfold setS at LY
 clear GZ HZ hw hw1 hH hg a0 a1 a2 a3 a4 b0 b1 b2 b3 b4 e0 e1 e2 e3 C6 GB SZ th tk RZ kc kf HRR
 go_wp2_with fail
 refine bodyPost_end (v := .tuple #[]) (by simp [results, Tryz.results71, go_sem]) rfl ⟨rfl, LY.out⟩
end Go.Proofs.YtbbnjmjeeiglcaaGreatDoor.Li
namespace Go.Proofs.YtbbnjmjeeiglcaaGreatDoor
open Go.RowKit
theorem greatest_any (b n : Nat) (d : Nat → Int) (M : Int) (hM : ∀ j, j < n → -M ≤ d j ∧ d j ≤ M) (hM0 : 0 ≤ M) (hM1 : M ≤ 4096) (hn : n ≤ 300) (w : World) (hR : Rwi w b n d) :
  Calls Tryz.prog 70 #[.slice (some ⟨b, 0, none⟩) n n] w fun e w' => ∃ t : Int, e = .returned (.int .i64 t) ∧ 0 ≤ t ∧ t ≤ M ∧ (∀ j, j < n → -t ≤ d j ∧ d j ≤ t) ∧ Below w.heap.size w w' := by
 have HM := hidden hM
 have HN : Hid (0 ≤ M ∧ M ≤ 4096 ∧ n ≤ 300) := hidden ⟨hM0, hM1, hn⟩
 have HR := hidden hR
 clear hM hM0 hM1 hn hR
 go_enter Tryz.func70, Tryz.ntmps70
 go_wp2_with fail
 go_loopw [3, 8] (fun tv iv w' => ∃ (t : Int) (i : Nat), i ≤ n ∧ tv = .int .i64 t ∧ iv = .int .i64 i ∧ Hid (0 ≤ t ∧ t ≤ M ∧ ∀ j, j < i → -t ≤ d j ∧ d j ≤ t) ∧ Hid (Below w.heap.size w w')) (fun _ i _ => n - (intOf i).toNat)
 case atStart => exact ⟨0, 0, by omega, rfl, rfl, hidden ⟨by omega, HN.out.1, fun j hj => by omega⟩, hidden (Below.refl _ _)⟩
 case round =>
  obtain ⟨t, i, hi, rfl, rfl, HT, B0⟩ := hrel
  by_cases hin : i < n
  ·have i0 : (0 : Int) ≤ (i : Int) := by omega
   have i1 : (i : Int) < (n : Int) := by omega
   have w9 : IntKind.i64.wrap ((i : Int) + 1) = (i : Int) + 1 := IntWalk.i64_in _ (by have := HN.out; omega)
   have c0 := cell_keep (HR.out.c i hin) B0.out
   have f0 := HM.out i hin
   obtain ⟨z, hz⟩ : ∃ z, d i = z := ⟨_, rfl⟩
   rw [hz] at c0 f0
   have wn : IntKind.i64.wrap (-z) = -z := IntWalk.i64_in _ (by have := HN.out; omega)
   have HZ := hidden hz
   have F0 := hidden f0
   have HIN := hidden hin
   clear hz f0 hin hi
   go_wp2_with fail
   all_goals
    go_roundw
    case rel =>
     refine ⟨_, i + 1, by have := HIN.out; omega, rfl, by go_num, hidden ⟨by have := HT.out; have := F0.out; omega, by have := HT.out; have := F0.out; omega, fun j hj => ?_⟩, B0⟩
     by_cases e : j = i
     ·subst e; rw [HZ.out]; have := HT.out.1; omega
     ·have := HT.out.2.2 j (by omega); omega
    case measure => have := HIN.out; simp [intOf]; omega
  ·obtain rfl : i = n := by omega
   have lq : ¬ (i : Int) < (i : Int) := by omega
   go_wp2_with fail
   refine bodyPost_ret (v := .int .i64 t) (by simp [results, Tryz.results70, go_sem]) rfl ⟨t, rfl, HT.out.1, HT.out.2.1, HT.out.2.2, B0.out⟩
end Go.Proofs.YtbbnjmjeeiglcaaGreatDoor
namespace Go.Proofs.YtbbnjmjeeiglcaaGreatDoor.Li
open Go.RowKit
theorem Rm.gb {w w' : World} {b n H : Nat} {g : Nat → E4} (h : Rm w b n g) (hg : w.grownBy w' (some H)) (hn : b ≠ H) : Rm w' b n g := by
 have e := hg.block b h.lt (fun e => hn (Option.some.inj e))
 have k : ∀ {j : Nat} {v : Value}, w.cell? ⟨b, j, none⟩ = some v → w'.cell? ⟨b, j, none⟩ = some v := fun hv => (World.cell?_of_block e).trans hv
 exact ⟨Nat.lt_of_lt_of_le h.lt hg.size, ⟨fun i hi => k (h.r.c0 i hi), fun i hi => k (h.r.c1 i hi), fun i hi => k (h.r.c2 i hi), fun i hi => k (h.r.c3 i hi)⟩, fun j hj => (World.frozen?_of_block e).trans (h.fr j hj)⟩
theorem Rm.range {w : World} {b n j : Nat} {g : Nat → E4} (h : Rm w b n g) (hj : j < n) : w.rangeAt b (j * 4) [.int .u64 (g j).x0, .int .u64 (g j).x1, .int .u64 (g j).x2, .int .u64 (g j).x3] := by
 have c0 := h.r.c0 j hj; have c1 := h.r.c1 j hj; have c2 := h.r.c2 j hj; have c3 := h.r.c3 j hj
 rw [Nat.zero_add] at c0 c1 c2 c3
 exact range4 c0 c1 c2 c3
def Ml (w : World) (D K i : Nat) (f : Nat → Int) : Prop := ∃ g : Nat → E4, Rm w D K g ∧ ∀ j, j < i → (g j).ok ∧ ∀ t, lst (g j).n = lst (((j : Int) + 1) * f t)
theorem Ml.gb {w w' : World} {D K i H : Nat} {f : Nat → Int} (h : Ml w D K i f) (hg : w.grownBy w' (some H)) (hn : D ≠ H) : Ml w' D K i f := by
 obtain ⟨g, h1, h2⟩ := h
 exact ⟨g, Rm.gb h1 hg hn, h2⟩
theorem Ml.keep {w w' : World} {D K i : Nat} {f : Nat → Int} (h : Ml w D K i f) (hb : Below w.heap.size w w') : Ml w' D K i f := by
 obtain ⟨g, h1, h2⟩ := h
 exact ⟨g, h1.keep hb, h2⟩
theorem Ml.put {w : World} {D K i : Nat} {f : Nat → Int} (h : Ml w D K i f) (hi : i < K) {z : E4} (hz : z.ok ∧ ∀ t, lst z.n = lst (((i : Int) + 1) * f t)) : Ml (setS w D (i * 4) z) D K (i + 1) f := by
 obtain ⟨g, h1, h2⟩ := h
 refine ⟨_, h1.set i hi z, fun j hj => ?_⟩
 by_cases e : j = i
 ·subst e; rw [if_pos rfl]; exact hz
 ·rw [if_neg e]; exact h2 j (by omega)
theorem Ml.made (w : World) (K : Nat) (t : TypeId) (f : Nat → Int) : Ml (w.alloc (.cells (madeCells #[.int .u64 0, .int .u64 0, .int .u64 0, .int .u64 0] (K * 4)) t)) w.heap.size K 0 f := ⟨_, Rm.made w K t, fun j hj => by omega⟩
def mu5o_0 : Oper := { dst := some 16, op := Op.move (Operand.tmp 7), type := 41, pos := "ways.go:100", after := #[], guard := none }
def mu5o_1 : Oper := { dst := some 17, op := Op.move (Operand.tmp 8), type := 3, pos := "ways.go:100", after := #[], guard := none }
def mu5o_2 : Oper := { dst := some 18, op := Op.move (Operand.tmp 0), type := 139, pos := "ways.go:100", after := #[], guard := none }
def mu5o_3 : Oper := { dst := some 19, op := Op.move (Operand.tmp 7), type := 41, pos := "ways.go:100", after := #[], guard := none }
def mu5o_4 : Oper := { dst := some 20, op := Op.move (Operand.tmp 8), type := 3, pos := "ways.go:100", after := #[], guard := none }
def mu5o_5 : Oper := { dst := some 21, op := Op.binOp BinOp.sub 3 (Operand.tmp 20) (Operand.const (Value.int IntKind.i64 1)) 3, type := 3, pos := "ways.go:100", after := #[{ on := 4, ground := Ground.data }], guard := none }
def mu5o_6 : Oper := { dst := some 22, op := Op.indexAddr 41 (Operand.tmp 19) (Operand.tmp 21), type := 0, pos := "ways.go:100", after := #[{ on := 3, ground := Ground.data }, { on := 5, ground := Ground.data }], guard := none }
def mu5o_7 : Oper := { dst := some 23, op := Op.load 39 (Operand.tmp 22), type := 39, pos := "ways.go:100", after := #[{ on := 6, ground := Ground.data }], guard := none }
def mu5o_8 : Oper := { dst := some 24, op := Op.load 39 (Operand.tmp 4), type := 39, pos := "ways.go:100", after := #[], guard := none }
def mu5o_9 : Oper := { dst := some 25, op := Op.call { callee := Callee.value (Operand.func 58), args := #[Operand.tmp 18, Operand.tmp 23, Operand.tmp 24], argTypes := #[139, 39, 39] }, type := 39, pos := "ways.go:100", after := #[{ on := 2, ground := Ground.data }, { on := 7, ground := Ground.data }, { on := 8, ground := Ground.data }], guard := none }
def mu5o_10 : Oper := { dst := some 26, op := Op.indexAddr 41 (Operand.tmp 16) (Operand.tmp 17), type := 0, pos := "ways.go:100", after := #[{ on := 0, ground := Ground.data }, { on := 1, ground := Ground.data }, { on := 0, ground := Ground.phase }, { on := 1, ground := Ground.phase }, { on := 2, ground := Ground.phase }, { on := 3, ground := Ground.phase }, { on := 4, ground := Ground.phase }, { on := 5, ground := Ground.phase }, { on := 6, ground := Ground.phase }, { on := 7, ground := Ground.phase }, { on := 8, ground := Ground.phase }, { on := 9, ground := Ground.phase }], guard := none }
def mu5o_11 : Oper := { dst := none, op := Op.store 39 (Operand.tmp 26) (Operand.tmp 25), type := 0, pos := "ways.go:100", after := #[{ on := 10, ground := Ground.data }, { on := 9, ground := Ground.data }, { on := 9, ground := Ground.chain }, { on := 0, ground := Ground.phase }, { on := 1, ground := Ground.phase }, { on := 2, ground := Ground.phase }, { on := 3, ground := Ground.phase }, { on := 4, ground := Ground.phase }, { on := 5, ground := Ground.phase }, { on := 6, ground := Ground.phase }, { on := 7, ground := Ground.phase }, { on := 8, ground := Ground.phase }, { on := 9, ground := Ground.phase }], guard := none }
def mu5o : Array Oper := #[mu5o_0, mu5o_1, mu5o_2, mu5o_3, mu5o_4, mu5o_5, mu5o_6, mu5o_7, mu5o_8, mu5o_9, mu5o_10, mu5o_11]
theorem mu5 (Q : Exit → Act → World → Prop) (H D K T4 j : Nat) (q p r : E4) (u1 u2 u3 u5 u6 u9 u10 u11 u12 u13 u14 u15 u16 u17 u18 u19 u20 u21 u22 u23 u24 u25 u26 u27 u28 u29 u30 u31 u32 u33 u34 u35 u36 u37 u38 u39 u40 u41 u42 u43 u44 u45 u46 u47 u48 u49 : Value) (W : World)
  (neDH : D ≠ H) (neTH : T4 ≠ H) (neTD : T4 ≠ D) (rd : W.rangeAt D (j * 4) [.int .u64 q.x0, .int .u64 q.x1, .int .u64 q.x2, .int .u64 q.x3]) (rb : W.rangeAt T4 0 [.int .u64 p.x0, .int .u64 p.x1, .int .u64 p.x2, .int .u64 p.x3]) (hth : W.there D ((j + 1) * 4) 4)
  (w1 : IntKind.i64.wrap ((j : Int) + 1 - 1) = (j : Int)) (w2 : IntKind.i64.wrap (j : Int) = (j : Int)) (j0 : (0 : Int) ≤ (j : Int)) (j1 : (j : Int) < (K : Int)) (j2 : (0 : Int) ≤ (j : Int) + 1) (j3 : (j : Int) + 1 < (K : Int)) (j4 : ((j : Int) + 1).toNat = j + 1)
  (C9 : Hid (Calls Tryz.prog 58 #[.pointer (some ⟨H, 0, none⟩), .agg #[.int .u64 q.x0, .int .u64 q.x1, .int .u64 q.x2, .int .u64 q.x3], .agg #[.int .u64 p.x0, .int .u64 p.x1, .int .u64 p.x2, .int .u64 p.x3]] W.drew fun e w' => e = .returned (.agg #[.int .u64 r.x0, .int .u64 r.x1, .int .u64 r.x2, .int .u64 r.x3]) ∧ Hd w' H ∧ W.drew.grownBy w' (some H)))
  (HQ : Hid (∀ (wm wz : World), Hd wm H → W.drew.grownBy wm (some H) → wz = wm.setCells D ((j + 1) * 4) [.int .u64 r.x0, .int .u64 r.x1, .int .u64 r.x2, .int .u64 r.x3] → Q .normal ⟨#[.pointer (some ⟨H, 0, none⟩), u1, u2, u3, .pointer (some ⟨T4, 0, none⟩), u5, u6, .slice (some ⟨D, 0, none⟩) K K, .int .i64 ((j : Int) + 1), u9, u10, u11, u12, u13, u14, u15, .slice (some ⟨D, 0, none⟩) K K, .int .i64 ((j : Int) + 1), .pointer (some ⟨H, 0, none⟩), .slice (some ⟨D, 0, none⟩) K K, .int .i64 ((j : Int) + 1), .int .i64 (j : Int), .pointer (some ⟨D, j * 4, none⟩), .agg #[.int .u64 q.x0, .int .u64 q.x1, .int .u64 q.x2, .int .u64 q.x3], .agg #[.int .u64 p.x0, .int .u64 p.x1, .int .u64 p.x2, .int .u64 p.x3], .agg #[.int .u64 r.x0, .int .u64 r.x1, .int .u64 r.x2, .int .u64 r.x3], .pointer (some ⟨D, (j + 1) * 4, none⟩), u27, u28, u29, u30, u31, u32, u33, u34, u35, u36, u37, u38, u39, u40, u41, u42, u43, u44, u45, u46, u47, u48, u49], []⟩ wz)) : (Code.region 5 mu5o true).wp Tryz.prog Q ⟨#[.pointer (some ⟨H, 0, none⟩), u1, u2, u3, .pointer (some ⟨T4, 0, none⟩), u5, u6, .slice (some ⟨D, 0, none⟩) K K, .int .i64 ((j : Int) + 1), u9, u10, u11, u12, u13, u14, u15, u16, u17, u18, u19, u20, u21, u22, u23, u24, u25, u26, u27, u28, u29, u30, u31, u32, u33, u34, u35, u36, u37, u38, u39, u40, u41, u42, u43, u44, u45, u46, u47, u48, u49], []⟩ W := by
 have TH := hidden (there_bl hth (bl_drew W))
 have UL : Hid (Tryz.prog.underlying 39 = some _) := hidden Tryz.underlying39
 have IQ : Hid ((Tryz.prog.info? 39).map (·.size) = some ([.int .u64 q.x0, .int .u64 q.x1, .int .u64 q.x2, .int .u64 q.x3] : List Value).length) := hidden (by kernel_rfl)
 have IP : Hid ((Tryz.prog.info? 39).map (·.size) = some ([.int .u64 p.x0, .int .u64 p.x1, .int .u64 p.x2, .int .u64 p.x3] : List Value).length) := hidden (by kernel_rfl)
 clear hth
 unfold mu5o
 refine wp_region_noPanic ?_
 refine wp_region_held_drew (S := fun x => (x.rangeAt D (j * 4) [.int .u64 q.x0, .int .u64 q.x1, .int .u64 q.x2, .int .u64 q.x3] ∧ x.rangeAt T4 0 [.int .u64 p.x0, .int .u64 p.x1, .int .u64 p.x2, .int .u64 p.x3])) (by kernel_rfl) (⟨range_bl rd (bl_drew W), range_bl rb (bl_drew W)⟩) (fun hH0 => ?_)
 refine tk 0 mu5o_0 (.slice (some ⟨D, 0, none⟩) K K) rfl (by kernel_rfl) hH0 rfl (fun w0 hSw => ?_) ?_
 ·(unfold mu5o_0; clear hSw; go_simp)
 simp only [mu5o_0, Act.put, sA, sB, sC]
 refine tk 1 mu5o_1 (.int .i64 ((j : Int) + 1)) rfl (by kernel_rfl) hH0 rfl (fun w0 hSw => ?_) ?_
 ·(unfold mu5o_1; clear hSw; go_simp)
 simp only [mu5o_1, Act.put, sA, sB, sC]
 refine tk 2 mu5o_2 (.pointer (some ⟨H, 0, none⟩)) rfl (by kernel_rfl) hH0 rfl (fun w0 hSw => ?_) ?_
 ·(unfold mu5o_2; clear hSw; go_simp)
 simp only [mu5o_2, Act.put, sA, sB, sC]
 refine tk 3 mu5o_3 (.slice (some ⟨D, 0, none⟩) K K) rfl (by kernel_rfl) hH0 rfl (fun w0 hSw => ?_) ?_
 ·(unfold mu5o_3; clear hSw; go_simp)
 simp only [mu5o_3, Act.put, sA, sB, sC]
 refine tk 4 mu5o_4 (.int .i64 ((j : Int) + 1)) rfl (by kernel_rfl) hH0 rfl (fun w0 hSw => ?_) ?_
 ·(unfold mu5o_4; clear hSw; go_simp)
 simp only [mu5o_4, Act.put, sA, sB, sC]
 refine wpAnyH_take (i := 8) (oi := mu5o_8) (v := .agg ([.int .u64 p.x0, .int .u64 p.x1, .int .u64 p.x2, .int .u64 p.x3]).toArray) rfl (by kernel_rfl) (by kernel_rfl) (by kernel_rfl) (fun _ _ _ h => h) (yieldsIf_load_mid (by rfl) 39 _ rfl (T4) (0) rfl ([.int .u64 p.x0, .int .u64 p.x1, .int .u64 p.x2, .int .u64 p.x3]) _ (fun w0 hSw => hSw.2) UL.out rfl IP.out) hH0 ?_
 simp only [mu5o_8, Act.put, sA, sB, sC]
 refine tk 5 mu5o_5 (.int .i64 (j : Int)) rfl (by kernel_rfl) hH0 rfl (fun w0 hSw => ?_) ?_
 ·(unfold mu5o_5; clear hSw; go_simp)
 simp only [mu5o_5, Act.put, sA, sB, sC]
 refine tk 6 mu5o_6 (.pointer (some ⟨D, j * 4, none⟩)) rfl (by kernel_rfl) hH0 rfl (fun w0 hSw => ?_) ?_
 ·(unfold mu5o_6; clear hSw; go_simp)
 simp only [mu5o_6, Act.put, sA, sB, sC]
 refine wpAnyH_take (i := 7) (oi := mu5o_7) (v := .agg ([.int .u64 q.x0, .int .u64 q.x1, .int .u64 q.x2, .int .u64 q.x3]).toArray) rfl (by kernel_rfl) (by kernel_rfl) (by kernel_rfl) (fun _ _ _ h => h) (yieldsIf_load_mid (by rfl) 39 _ rfl (D) (j * 4) rfl ([.int .u64 q.x0, .int .u64 q.x1, .int .u64 q.x2, .int .u64 q.x3]) _ (fun w0 hSw => hSw.1) UL.out rfl IQ.out) hH0 ?_
 simp only [mu5o_7, Act.put, sA, sB, sC]
 refine wpAnyH_ready (rs := [9]) (by kernel_rfl) (by simp) ?_
 refine AllReadyH.cons (o := mu5o_9) rfl (fun K hK => ?_) AllReadyH.nil
 unfold mu5o_9
 have HH := hidden hH0
 clear hH0
 go_simp
 refine (C9.out).mono ?_
 rintro e wn1 ⟨rfl, hH, hg⟩
 have HG := hidden (hH)
 have GG := hidden (hg)
 replace TH := hidden (there_gb TH.out hg neDH)
 have SN := hidden ((show _ ∧ _ from ⟨range_gb HH.out.1 hg neDH, range_gb HH.out.2 hg neTH⟩))
 clear HH C9 hH hg
 go_wp2_with fail
 refine hK.out _ _ SN.out (fun hH1 => ?_)
 clear hK K SN
 refine tk 10 mu5o_10 (.pointer (some ⟨D, (j + 1) * 4, none⟩)) rfl (by kernel_rfl) hH1 rfl (fun w0 hSw => ?_) ?_
 ·(unfold mu5o_10; clear hSw; go_simp)
 simp only [mu5o_10, Act.put, sA, sB, sC]
 refine wpAnyH_ready (rs := [11]) (by kernel_rfl) (by simp) ?_
 refine AllReadyH.cons (o := mu5o_11) rfl (fun K hK => ?_) AllReadyH.nil
 unfold mu5o_11
 have HH := hidden hH1
 clear hH1
 refine wp_storeE 39 _ _ rfl D ((j + 1) * 4) ([.int .u64 r.x0, .int .u64 r.x1, .int .u64 r.x2, .int .u64 r.x3]) (by rfl) (by rfl) TH.out i4_L (one4 r) rfl (fun wn2 hw => ?_)
 have SN := hidden ((show _ ∧ _ from ⟨World.rangeAt_setCells_apart HH.out.1 D ((j + 1) * 4) [.int .u64 r.x0, .int .u64 r.x1, .int .u64 r.x2, .int .u64 r.x3] (Or.inr (Or.inl (by simp; omega))), World.rangeAt_setCells_apart HH.out.2 D ((j + 1) * 4) [.int .u64 r.x0, .int .u64 r.x1, .int .u64 r.x2, .int .u64 r.x3] (Or.inl neTD)⟩))
 have HW := hidden (hw)
 rw [← hw] at SN
 clear HH hw
 refine hK.out _ _ SN.out (fun hH2 => ?_)
 clear hK K SN
 have HH := hidden hH2
 have FQ := hidden (HQ.out _ _ HG.out GG.out HW.out)
 refine wpAnyH_done (by kernel_rfl) ?_ _
 refine NoPanic.normal ?_
 exact FQ.out
def Ms (w w' : World) (H K i : Nat) (f : Nat → Int) (p : E4) : Prop := Ml w' (w.heap.size + 1) K i f ∧ w'.rangeAt w.heap.size 0 [.int .u64 p.x0, .int .u64 p.x1, .int .u64 p.x2, .int .u64 p.x3] ∧ w.grownBy w' (some H) ∧ Hd w' H ∧ Tb w'
theorem Ms.hand {w w' wm : World} {H K i : Nat} {f : Nat → Int} {p : E4} (h : Ms w w' H K i f p) (hH : H < w.heap.size) (hm : w'.grownBy wm (some H)) (hd : Hd wm H) : Ms w wm H K i f p := by
 obtain ⟨h1, h2, h3, h5, h6⟩ := h
 exact ⟨h1.gb hm (by omega), range_gb h2 hm (by omega), h3.trans hm, hd, h6.keep0 hm (h5.tb h6)⟩
theorem Ms.put {w w' : World} {H K i : Nat} {f : Nat → Int} {p z : E4} (h : Ms w w' H K i f p) (hT : Tb w) (hH : H < w.heap.size) (hi : i < K) (hz : z.ok ∧ ∀ t, lst z.n = lst (((i : Int) + 1) * f t)) : Ms w (setS w' (w.heap.size + 1) (i * 4) z) H K (i + 1) f p := by
 obtain ⟨h1, h2, h3, h5, h6⟩ := h
 have lt := World.block_lt_of_cell? w _ hT.1
 have nH : w.heap.size + 1 ≠ H := by omega
 have g : w'.grownBy (setS w' (w.heap.size + 1) (i * 4) z) (some (w.heap.size + 1)) := gb_setCells (w.heap.size + 1) [.int .u64 z.x0, .int .u64 z.x1, .int .u64 z.x2, .int .u64 z.x3] (i * 4) w'
 refine ⟨h1.put hi hz, World.rangeAt_setCells_apart h2 (w.heap.size + 1) (i * 4) [.int .u64 z.x0, .int .u64 z.x1, .int .u64 z.x2, .int .u64 z.x3] (Or.inl (by omega)), ?_, ?_, h6.keep0 g (by simp only at lt; omega)⟩
 ·unfold setS; exact gb_box (gb_box (gb_box (gb_box h3 (by omega)) (by omega)) (by omega)) (by omega)
 ·unfold setS; exact (((h5.far nH).far nH).far nH).far nH
theorem linfo : (Tryz.prog.info? 39).map (fun i => (i.zero, i.size, i.bytes)) = some (some (.agg #[.int .u64 0, .int .u64 0, .int .u64 0, .int .u64 0]), 4, 32) := by kernel_rfl
theorem multiples_any (H K : Nat) (p : E4) (f : Nat → Int) (w : World) (hT : Tb w) (hH : Hd w H) (hp : p.ok ∧ ∀ t, lst p.n = lst (f t)) (hK : K ≤ 4096) :
  Calls Tryz.prog 69 #[.pointer (some ⟨H, 0, none⟩), .agg #[.int .u64 p.x0, .int .u64 p.x1, .int .u64 p.x2, .int .u64 p.x3], .int .i64 (K : Int)] w fun e w' => ∃ D : Nat, e = .returned (.slice (some ⟨D, 0, none⟩) K K) ∧ w.heap.size ≤ D ∧ Ml w' D K K f ∧ Hd w' H ∧ w.grownBy w' (some H) := by
 have LH := hidden hH.lt
 have nn0 : (0 : Int) ≤ (K : Int) := by omega
 obtain ⟨i0, hi, hz0, hz1, hz2⟩ := info_parts linfo
 have hmk := fun w => run_make (P := Tryz.prog) w 41 39 i0 (.agg #[.int .u64 0, .int .u64 0, .int .u64 0, .int .u64 0]) (by kernel_rfl) hi hz0 .i64 .i64 (K : Int) (K : Int) (by omega) (Int.le_refl _) (by rw [hz2]; omega) (by omega)
 have tn : ((K : Int)).toNat = K := by omega
 simp only [tn, hz1, Value.cells] at hmk
 clear tn hi hz0 hz1 hz2
 have B0 := bl_alloc2 w (.cells #[.int .u64 p.x0, .int .u64 p.x1, .int .u64 p.x2, .int .u64 p.x3] 39) (.cells (madeCells #[.int .u64 0, .int .u64 0, .int .u64 0, .int .u64 0] (K * 4)) 39)
 have M0 := Ml.made (w.alloc (.cells #[.int .u64 p.x0, .int .u64 p.x1, .int .u64 p.x2, .int .u64 p.x3] 39)) K 39 f
 simp only [World.size_alloc] at M0
 have e1 : ((w.alloc (.cells #[.int .u64 p.x0, .int .u64 p.x1, .int .u64 p.x2, .int .u64 p.x3] 39)).alloc (.cells (madeCells #[.int .u64 0, .int .u64 0, .int .u64 0, .int .u64 0] (K * 4)) 39)).rangeAt w.heap.size 0 [.int .u64 p.x0, .int .u64 p.x1, .int .u64 p.x2, .int .u64 p.x3] := range_bl (range_newM w [.int .u64 p.x0, .int .u64 p.x1, .int .u64 p.x2, .int .u64 p.x3] 39) (bl_alloc _ _)
 have ST : Hid (Ms w ((w.alloc (.cells #[.int .u64 p.x0, .int .u64 p.x1, .int .u64 p.x2, .int .u64 p.x3] 39)).alloc (.cells (madeCells #[.int .u64 0, .int .u64 0, .int .u64 0, .int .u64 0] (K * 4)) 39)) H K 0 f p) := hidden ⟨M0, e1, gbI B0 _, hH.keep B0, hT.keep B0⟩
 have HK := hidden hK
 have HT := hidden hT
 have HP := hidden hp
 clear M0 e1 B0 hT hH hp hK
 go_enter Tryz.func69, Tryz.ntmps69
 go_upto_region 2 with fail
 generalize ((w.alloc (.cells #[.int .u64 p.x0, .int .u64 p.x1, .int .u64 p.x2, .int .u64 p.x3] 39)).alloc (.cells (madeCells #[.int .u64 0, .int .u64 0, .int .u64 0, .int .u64 0] (K * 4)) 39)) = w1 at *
 clear hmk
 go_wp2_with fail
 go_loopw [13] (fun iv w' => ∃ i : Nat, i ≤ K ∧ iv = .int .i64 i ∧ Hid (Ms w w' H K i f p)) (fun i _ => K - (intOf i).toNat)
 case atStart => exact ⟨0, by omega, rfl, ST⟩
 case round =>
  clear ST
  obtain ⟨i, hi, rfl, ST⟩ := hrel
  by_cases hin : i < K
  ·have ii0 : (0 : Int) ≤ (i : Int) := by omega
   have ii1 : (i : Int) < (K : Int) := by omega
   have w9 : IntKind.i64.wrap ((i : Int) + 1) = (i : Int) + 1 := IntWalk.i64_in _ (by have := HK.out; omega)
   have HIN := hidden hin
   by_cases hz : i = 0
   ·subst hz
    have c0 := ST.out.2.1 0 _ rfl; have c1 := ST.out.2.1 1 _ rfl; have c2 := ST.out.2.1 2 _ rfl; have c3 := ST.out.2.1 3 _ rfl
    simp only [Nat.zero_add] at c0 c1 c2 c3
    obtain ⟨gg, RM, -⟩ := ST.out.1
    have x0 := RM.r.c0 0 HIN.out; have x1 := RM.r.c1 0 HIN.out; have x2 := RM.r.c2 0 HIN.out; have x3 := RM.r.c3 0 HIN.out; have y0 := RM.fr (0 * 4) (by have := HIN.out; omega); have y1 := RM.fr (0 * 4 + 1) (by have := HIN.out; omega); have y2 := RM.fr (0 * 4 + 2) (by have := HIN.out; omega); have y3 := RM.fr (0 * 4 + 3) (by have := HIN.out; omega); rw [Nat.zero_add] at x0 x1 x2 x3; generalize gg 0 = gi at x0 x1 x2 x3
    simp only [Nat.zero_mul, Nat.zero_add] at x0 x1 x2 x3 y0 y1 y2 y3
    have PN := hidden (ST.out.put HT.out LH.out hin (z := p) ⟨HP.out.1, fun t => by have := HP.out.2 t; simpa using this⟩)
    unfold setS at PN
    simp only [Nat.zero_mul, Nat.zero_add] at PN
    clear ST RM
    go_wp2_with fail
    go_roundw
    case rel => exact ⟨1, by have := HIN.out; omega, by go_num, PN⟩
    case measure => have := HIN.out; simp [intOf]; omega
   ·have nz : ¬ (i : Int) = 0 := by omega
    by_cases hod : i % 2 = 1
    ·obtain ⟨q, hq⟩ : ∃ q, i = 2 * q + 1 := ⟨i / 2, by omega⟩
     have rm : Int.tmod (i : Int) 2 = 1 := by rw [Int.tmod_eq_emod_of_nonneg ii0]; omega
     have qd : Int.tdiv (i : Int) 2 = (q : Int) := by rw [Int.tdiv_eq_ediv_of_nonneg ii0]; omega
     have wq : IntKind.i64.wrap (q : Int) = (q : Int) := IntWalk.i64_in _ (by have := HK.out; omega)
     have q0 : (0 : Int) ≤ (q : Int) := by omega
     have q1 : (q : Int) < (K : Int) := by omega
     obtain ⟨gq, RQ, hgq⟩ := ST.out.1
     have gk := hgq q (by omega)
     have d0 := RQ.r.c0 q (by omega); have d1 := RQ.r.c1 q (by omega); have d2 := RQ.r.c2 q (by omega); have d3 := RQ.r.c3 q (by omega)
     rw [Nat.zero_add] at d0 d1 d2 d3
     generalize gq q = qz at d0 d1 d2 d3 gk
     obtain ⟨r, hr⟩ : ∃ r, lst (qz.n + qz.n) = r := ⟨_, rfl⟩
     have FX : Hid (r.ok ∧ ∀ t, lst r.n = lst (((i : Int) + 1) * f t)) := hidden (by
      rw [← hr]
      refine ⟨lst_ok _, fun t => ?_⟩
      rw [lst_n', lst_two (gk.2 t) (gk.2 t), show (i : Int) = 2 * q + 1 by omega, show ((q : Int) + 1) * f t + ((q : Int) + 1) * f t = (2 * (q : Int) + 1 + 1) * f t by rw [← Int.add_mul]; congr 1; omega])
     have CD := hidden (hdouble H qz wr ST.out.2.2.2.2 ST.out.2.2.2.1 gk.1)
     rw [hr] at CD
     unfold E4.v at CD
     clear hq hz hod hin hi RQ hgq gk hr
     go_wp2_with (first | (go_at_call 81; refine CD.out.mono ?_; rintro e wa ⟨rfl, hH, hg⟩; have SM := ST.out.hand LH.out hg hH; obtain ⟨gg, RM, -⟩ := SM.1; have x0 := RM.r.c0 i HIN.out; have x1 := RM.r.c1 i HIN.out; have x2 := RM.r.c2 i HIN.out; have x3 := RM.r.c3 i HIN.out; have y0 := RM.fr (i * 4) (by have := HIN.out; omega); have y1 := RM.fr (i * 4 + 1) (by have := HIN.out; omega); have y2 := RM.fr (i * 4 + 2) (by have := HIN.out; omega); have y3 := RM.fr (i * 4 + 3) (by have := HIN.out; omega); rw [Nat.zero_add] at x0 x1 x2 x3; generalize gg i = gi at x0 x1 x2 x3; have PN := hidden (SM.put HT.out LH.out HIN.out FX.out); unfold setS at PN; clear SM hH hg CD FX d0 d1 d2 d3 RM))
     go_roundw
     case rel => exact ⟨i + 1, by have := HIN.out; omega, by go_num, PN⟩
     case measure => have := HIN.out; simp [intOf]; omega
    ·have rm : Int.tmod (i : Int) 2 = 0 := by rw [Int.tmod_eq_emod_of_nonneg ii0]; omega
     obtain ⟨j, rfl⟩ : ∃ j, i = j + 1 := ⟨i - 1, by omega⟩
     obtain ⟨gq, RQ, hgq⟩ := ST.out.1
     have gk := hgq j (by omega)
     have rg := Rm.range RQ (show j < K by omega)
     have TH : wr.there (w.heap.size + 1) ((j + 1) * 4) 4 := there4 (Rm.range RQ hin) (fun b hb => RQ.fr _ (by omega))
     generalize gq j = qz at rg gk
     obtain ⟨r, hr⟩ : ∃ r, lst (qz.n + p.n) = r := ⟨_, rfl⟩
     have FX : Hid (r.ok ∧ ∀ t, lst r.n = lst ((((j + 1 : Nat) : Int) + 1) * f t)) := hidden (by
      rw [← hr]
      refine ⟨lst_ok _, fun t => ?_⟩
      have e : ((j : Int) + 1 + 1) * f t = ((j : Int) + 1) * f t + f t := by rw [Int.add_mul ((j : Int) + 1) 1, Int.one_mul]
      rw [lst_n', lst_two (gk.2 t) (HP.out.2 t), show ((j + 1 : Nat) : Int) + 1 = ((j : Int) + 1) + 1 by omega, e])
     have CD := hidden (hadd H qz p wr.drew (ST.out.2.2.2.2.keep (bl_drew _)) (ST.out.2.2.2.1.keep (bl_drew _)) gk.1 HP.out.1)
     rw [hr] at CD
     unfold E4.v at CD
     have k1 : IntKind.i64.wrap ((j : Int) + 1 - 1) = (j : Int) := by rw [show (j : Int) + 1 - 1 = (j : Int) by omega]; exact IntWalk.i64_in _ (by have := HK.out; omega)
     have k2 : IntKind.i64.wrap (j : Int) = (j : Int) := IntWalk.i64_in _ (by have := HK.out; omega)
     have rm2 : Int.tmod ((j : Int) + 1) 2 = 0 := by have := rm; rwa [show ((j + 1 : Nat) : Int) = (j : Int) + 1 by omega] at this
     have nz2 : ¬ (j : Int) + 1 = 0 := by omega
     have ii2 : (j : Int) + 1 < (K : Int) := by omega
     have w10 : IntKind.i64.wrap ((j : Int) + 1 + 1) = (j : Int) + 1 + 1 := IntWalk.i64_in _ (by have := HK.out; omega)
     have JK := hidden hin
     have c0 := ST.out.2.1
     clear hz hod hi RQ hgq gk hr
     go_upto_region 5 with fail
     refine mu5 _ H (w.heap.size + 1) K w.heap.size j qz p r _ _ _ _ _ _ _ _ _ _ _ _ _ _ _ _ _ _ _ _ _ _ _ _ _ _ _ _ _ _ _ _ _ _ _ _ _ _ _ _ _ _ _ _ _ _ wr (by have := LH.out; omega) (by have := LH.out; omega) (by omega) rg c0 TH k1 k2 (by omega) (by omega) (by omega) (by omega) (by omega) CD (hidden ?_)
     intro wm wz hH hg hw
     have hw1 : wz = setS wm (w.heap.size + 1) ((j + 1) * 4) r := hw
     have PN : Hid (Ms w wz H K (j + 1 + 1) f p) := hidden (by
      rw [hw1]
      exact (ST.out.hand LH.out ((gbI (bl_drew wr) _).trans hg) hH).put HT.out LH.out JK.out FX.out)
     clear hw hw1 hH hg CD FX rg c0 TH ST
     go_wp2_with fail
     go_roundw
     case rel => exact ⟨j + 1 + 1, by have := JK.out; omega, by go_num, PN⟩
     case measure => have := JK.out; simp [intOf]; omega
  ·obtain rfl : i = K := by omega
   have lq : ¬ (i : Int) < (i : Int) := by omega
   go_wp2_with fail
   refine bodyPost_ret (v := .slice (some ⟨w.heap.size + 1, 0, none⟩) i i) (by simp [results, Tryz.results69, go_sem]) rfl ⟨w.heap.size + 1, rfl, by omega, ST.out.1, ST.out.2.2.2.1, ST.out.2.2.1⟩
end Go.Proofs.YtbbnjmjeeiglcaaGreatDoor.Li
namespace Go.Proofs.YtbbnjmjeeiglcaaGreatDoor
open Go.RowKit
theorem finfo : (Tryz.prog.info? 232).map (fun i => (i.zero, i.size, i.bytes)) = some (some (.agg #[.slice none 0 0]), 1, 24) := by kernel_rfl
theorem places_1 (w : World) : Calls Tryz.prog 64 #[.int .i64 1] w fun e w' => e = .returned (.int .i64 254) ∧ Below w.heap.size w w' := by
 go_enter Tryz.func64, Tryz.ntmps64
 go_wp2_with fail
 exact bodyPost_ret (v := .int .i64 254) (by simp [results, Tryz.results64, go_sem]) rfl ⟨rfl, Below.refl _ _⟩
theorem places_2 (w : World) : Calls Tryz.prog 64 #[.int .i64 2] w fun e w' => e = .returned (.int .i64 127) ∧ Below w.heap.size w w' := by
 go_enter Tryz.func64, Tryz.ntmps64
 go_wp2_with fail
 exact bodyPost_ret (v := .int .i64 127) (by simp [results, Tryz.results64, go_sem]) rfl ⟨rfl, Below.refl _ _⟩
theorem places_3 (w : World) : Calls Tryz.prog 64 #[.int .i64 3] w fun e w' => e = .returned (.int .i64 85) ∧ Below w.heap.size w w' := by
 go_enter Tryz.func64, Tryz.ntmps64
 go_wp2_with fail
 exact bodyPost_ret (v := .int .i64 85) (by simp [results, Tryz.results64, go_sem]) rfl ⟨rfl, Below.refl _ _⟩
theorem places_4 (w : World) : Calls Tryz.prog 64 #[.int .i64 4] w fun e w' => e = .returned (.int .i64 64) ∧ Below w.heap.size w w' := by
 go_enter Tryz.func64, Tryz.ntmps64
 go_wp2_with fail
 exact bodyPost_ret (v := .int .i64 64) (by simp [results, Tryz.results64, go_sem]) rfl ⟨rfl, Below.refl _ _⟩
theorem places_5 (w : World) : Calls Tryz.prog 64 #[.int .i64 5] w fun e w' => e = .returned (.int .i64 51) ∧ Below w.heap.size w w' := by
 go_enter Tryz.func64, Tryz.ntmps64
 go_wp2_with fail
 exact bodyPost_ret (v := .int .i64 51) (by simp [results, Tryz.results64, go_sem]) rfl ⟨rfl, Below.refl _ _⟩
theorem places_6 (w : World) : Calls Tryz.prog 64 #[.int .i64 6] w fun e w' => e = .returned (.int .i64 43) ∧ Below w.heap.size w w' := by
 go_enter Tryz.func64, Tryz.ntmps64
 go_wp2_with fail
 exact bodyPost_ret (v := .int .i64 43) (by simp [results, Tryz.results64, go_sem]) rfl ⟨rfl, Below.refl _ _⟩
theorem places_7 (w : World) : Calls Tryz.prog 64 #[.int .i64 7] w fun e w' => e = .returned (.int .i64 37) ∧ Below w.heap.size w w' := by
 go_enter Tryz.func64, Tryz.ntmps64
 go_wp2_with fail
 exact bodyPost_ret (v := .int .i64 37) (by simp [results, Tryz.results64, go_sem]) rfl ⟨rfl, Below.refl _ _⟩
theorem places_8 (w : World) : Calls Tryz.prog 64 #[.int .i64 8] w fun e w' => e = .returned (.int .i64 32) ∧ Below w.heap.size w w' := by
 go_enter Tryz.func64, Tryz.ntmps64
 go_wp2_with fail
 exact bodyPost_ret (v := .int .i64 32) (by simp [results, Tryz.results64, go_sem]) rfl ⟨rfl, Below.refl _ _⟩
theorem places_9 (w : World) : Calls Tryz.prog 64 #[.int .i64 9] w fun e w' => e = .returned (.int .i64 29) ∧ Below w.heap.size w w' := by
 go_enter Tryz.func64, Tryz.ntmps64
 go_wp2_with fail
 exact bodyPost_ret (v := .int .i64 29) (by simp [results, Tryz.results64, go_sem]) rfl ⟨rfl, Below.refl _ _⟩
theorem places_10 (w : World) : Calls Tryz.prog 64 #[.int .i64 10] w fun e w' => e = .returned (.int .i64 26) ∧ Below w.heap.size w w' := by
 go_enter Tryz.func64, Tryz.ntmps64
 go_wp2_with fail
 exact bodyPost_ret (v := .int .i64 26) (by simp [results, Tryz.results64, go_sem]) rfl ⟨rfl, Below.refl _ _⟩
theorem places_11 (w : World) : Calls Tryz.prog 64 #[.int .i64 11] w fun e w' => e = .returned (.int .i64 24) ∧ Below w.heap.size w w' := by
 go_enter Tryz.func64, Tryz.ntmps64
 go_wp2_with fail
 exact bodyPost_ret (v := .int .i64 24) (by simp [results, Tryz.results64, go_sem]) rfl ⟨rfl, Below.refl _ _⟩
theorem places_12 (w : World) : Calls Tryz.prog 64 #[.int .i64 12] w fun e w' => e = .returned (.int .i64 22) ∧ Below w.heap.size w w' := by
 go_enter Tryz.func64, Tryz.ntmps64
 go_wp2_with fail
 exact bodyPost_ret (v := .int .i64 22) (by simp [results, Tryz.results64, go_sem]) rfl ⟨rfl, Below.refl _ _⟩
def co1o_0 : Oper := { dst := some 4, op := Op.load 3 (Operand.tmp 1), type := 3, pos := "ways.go:41", after := #[], guard := none }
def co1o_1 : Oper := { dst := some 5, op := Op.move (Operand.tmp 0), type := 3, pos := "ways.go:41", after := #[], guard := none }
def co1o_2 : Oper := { dst := some 6, op := Op.binOp BinOp.sub 3 (Operand.tmp 5) (Operand.const (Value.int IntKind.i64 1)) 3, type := 3, pos := "ways.go:41", after := #[{ on := 1, ground := Ground.data }], guard := none }
def co1o_3 : Oper := { dst := some 7, op := Op.binOp BinOp.shl 3 (Operand.const (Value.int IntKind.i64 1)) (Operand.tmp 6) 3, type := 3, pos := "ways.go:41", after := #[{ on := 2, ground := Ground.data }], guard := none }
def co1o_4 : Oper := { dst := some 8, op := Op.move (Operand.tmp 0), type := 3, pos := "ways.go:41", after := #[], guard := none }
def co1o_5 : Oper := { dst := some 9, op := Op.call { callee := Callee.value (Operand.func 64), args := #[Operand.tmp 8], argTypes := #[3] }, type := 3, pos := "ways.go:41", after := #[{ on := 4, ground := Ground.data }], guard := none }
def co1o_6 : Oper := { dst := some 10, op := Op.binOp BinOp.add 3 (Operand.tmp 7) (Operand.tmp 9) 3, type := 3, pos := "ways.go:41", after := #[{ on := 3, ground := Ground.data }, { on := 5, ground := Ground.data }], guard := none }
def co1o_7 : Oper := { dst := some 11, op := Op.binOp BinOp.mul 3 (Operand.tmp 4) (Operand.tmp 10) 3, type := 3, pos := "ways.go:41", after := #[{ on := 0, ground := Ground.data }, { on := 6, ground := Ground.data }], guard := none }
def co1o_8 : Oper := { dst := some 12, op := Op.move (Operand.tmp 0), type := 3, pos := "ways.go:41", after := #[], guard := none }
def co1o_9 : Oper := { dst := some 13, op := Op.move (Operand.tmp 0), type := 3, pos := "ways.go:41", after := #[], guard := none }
def co1o_10 : Oper := { dst := some 14, op := Op.call { callee := Callee.value (Operand.func 64), args := #[Operand.tmp 13], argTypes := #[3] }, type := 3, pos := "ways.go:41", after := #[{ on := 9, ground := Ground.data }, { on := 5, ground := Ground.chain }], guard := none }
def co1o_11 : Oper := { dst := some 15, op := Op.binOp BinOp.mul 3 (Operand.tmp 12) (Operand.tmp 14) 3, type := 3, pos := "ways.go:41", after := #[{ on := 8, ground := Ground.data }, { on := 10, ground := Ground.data }], guard := none }
def co1o_12 : Oper := { dst := some 16, op := Op.binOp BinOp.add 3 (Operand.tmp 11) (Operand.tmp 15) 3, type := 3, pos := "ways.go:41", after := #[{ on := 7, ground := Ground.data }, { on := 11, ground := Ground.data }], guard := none }
def co1o_13 : Oper := { dst := some 3, op := Op.assign (Operand.tmp 16), type := 3, pos := "ways.go:41", after := #[{ on := 12, ground := Ground.data }, { on := 10, ground := Ground.chain }, { on := 0, ground := Ground.phase }, { on := 1, ground := Ground.phase }, { on := 2, ground := Ground.phase }, { on := 3, ground := Ground.phase }, { on := 4, ground := Ground.phase }, { on := 5, ground := Ground.phase }, { on := 6, ground := Ground.phase }, { on := 7, ground := Ground.phase }, { on := 8, ground := Ground.phase }, { on := 9, ground := Ground.phase }, { on := 10, ground := Ground.phase }, { on := 11, ground := Ground.phase }, { on := 12, ground := Ground.phase }], guard := none }
def co1o : Array Oper := #[co1o_0, co1o_1, co1o_2, co1o_3, co1o_4, co1o_5, co1o_6, co1o_7, co1o_8, co1o_9, co1o_10, co1o_11, co1o_12, co1o_13]
theorem co1 (Q : Exit → Act → World → Prop) (X : Nat) (n M M1 S p a na b r : Int) (u2 u4 u5 u6 u7 u8 u9 u10 u11 u12 u13 u14 u15 u16 : Value) (W : World)
  (c0 : W.cell? ⟨X, 0, none⟩ = some (.int .i64 n)) (hm : IntKind.i64.wrap (M - 1) = M1) (hs : ∀ w : World, (Op.shift .shl .i64 1 .i64 M1).run Tryz.prog w = .ok (.int .i64 S) w) (ha : IntKind.i64.wrap (S + p) = a) (hb1 : IntKind.i64.wrap (n * a) = na) (hc : IntKind.i64.wrap (M * p) = b) (hd : IntKind.i64.wrap (na + b) = r)
  (C5 : Hid (∀ x, Calls Tryz.prog 64 #[.int .i64 M] x fun e w' => e = .returned (.int .i64 p) ∧ Below x.heap.size x w'))
  (HQ : Hid (∀ (wz : World), Below W.heap.size W wz → Q .normal ⟨#[.int .i64 M, .pointer (some ⟨X, 0, none⟩), u2, .int .i64 r, .int .i64 n, .int .i64 M, .int .i64 M1, .int .i64 S, .int .i64 M, .int .i64 p, .int .i64 a, .int .i64 na, .int .i64 M, .int .i64 M, .int .i64 p, .int .i64 b, .int .i64 r], []⟩ wz)) : (Code.region 1 co1o true).wp Tryz.prog Q ⟨#[.int .i64 M, .pointer (some ⟨X, 0, none⟩), u2, .int .i64 0, u4, u5, u6, u7, u8, u9, u10, u11, u12, u13, u14, u15, u16], []⟩ W := by
 unfold co1o
 refine wp_region_noPanic ?_
 refine wp_region_held_drew (S := fun x => Below W.heap.size W x) (by kernel_rfl) (bl_drew W) (fun hH0 => ?_)
 refine tk 0 co1o_0 (.int .i64 n) rfl (by kernel_rfl) hH0 rfl (fun w0 hSw => ?_) ?_
 ·(unfold co1o_0; have hS : Below W.heap.size W w0 := hSw; have a0 := cell_keep c0 hS; clear hS hSw; go_simp)
 simp only [co1o_0, Act.put, sA, sB, sC]
 refine tk 1 co1o_1 (.int .i64 M) rfl (by kernel_rfl) hH0 rfl (fun w0 hSw => ?_) ?_
 ·(unfold co1o_1; clear hSw; go_simp)
 simp only [co1o_1, Act.put, sA, sB, sC]
 refine tk 2 co1o_2 (.int .i64 M1) rfl (by kernel_rfl) hH0 rfl (fun w0 hSw => ?_) ?_
 ·(unfold co1o_2; clear hSw; go_simp)
 simp only [co1o_2, Act.put, sA, sB, sC]
 refine tk 3 co1o_3 (.int .i64 S) rfl (by kernel_rfl) hH0 rfl (fun w0 hSw => ?_) ?_
 ·(unfold co1o_3; clear hSw; go_simp)
 simp only [co1o_3, Act.put, sA, sB, sC]
 refine tk 4 co1o_4 (.int .i64 M) rfl (by kernel_rfl) hH0 rfl (fun w0 hSw => ?_) ?_
 ·(unfold co1o_4; clear hSw; go_simp)
 simp only [co1o_4, Act.put, sA, sB, sC]
 refine tk 8 co1o_8 (.int .i64 M) rfl (by kernel_rfl) hH0 rfl (fun w0 hSw => ?_) ?_
 ·(unfold co1o_8; clear hSw; go_simp)
 simp only [co1o_8, Act.put, sA, sB, sC]
 refine tk 9 co1o_9 (.int .i64 M) rfl (by kernel_rfl) hH0 rfl (fun w0 hSw => ?_) ?_
 ·(unfold co1o_9; clear hSw; go_simp)
 simp only [co1o_9, Act.put, sA, sB, sC]
 refine wpAnyH_ready (rs := [5]) (by kernel_rfl) (by simp) ?_
 refine AllReadyH.cons (o := co1o_5) rfl (fun K hK => ?_) AllReadyH.nil
 unfold co1o_5
 have HH := hidden hH0
 clear hH0
 go_simp
 refine (C5.out _).mono ?_
 rintro e wn1 ⟨rfl, hb⟩
 have SN := hidden (bl_trans HH.out hb)
 clear HH hb
 go_wp2_with fail
 refine hK.out _ _ SN.out (fun hH1 => ?_)
 clear hK K SN
 refine tk 6 co1o_6 (.int .i64 a) rfl (by kernel_rfl) hH1 rfl (fun w0 hSw => ?_) ?_
 ·(unfold co1o_6; clear hSw; go_simp)
 simp only [co1o_6, Act.put, sA, sB, sC]
 refine tk 7 co1o_7 (.int .i64 na) rfl (by kernel_rfl) hH1 rfl (fun w0 hSw => ?_) ?_
 ·(unfold co1o_7; clear hSw; go_simp)
 simp only [co1o_7, Act.put, sA, sB, sC]
 refine wpAnyH_ready (rs := [10]) (by kernel_rfl) (by simp) ?_
 refine AllReadyH.cons (o := co1o_10) rfl (fun K hK => ?_) AllReadyH.nil
 unfold co1o_10
 have HH := hidden hH1
 clear hH1
 go_simp
 refine (C5.out _).mono ?_
 rintro e wn2 ⟨rfl, hb⟩
 have SN := hidden (bl_trans HH.out hb)
 clear HH hb
 go_wp2_with fail
 refine hK.out _ _ SN.out (fun hH2 => ?_)
 clear hK K SN
 refine tk 11 co1o_11 (.int .i64 b) rfl (by kernel_rfl) hH2 rfl (fun w0 hSw => ?_) ?_
 ·(unfold co1o_11; clear hSw; go_simp)
 simp only [co1o_11, Act.put, sA, sB, sC]
 refine tk 12 co1o_12 (.int .i64 r) rfl (by kernel_rfl) hH2 rfl (fun w0 hSw => ?_) ?_
 ·(unfold co1o_12; clear hSw; go_simp)
 simp only [co1o_12, Act.put, sA, sB, sC]
 have HH := hidden hH2
 have FQ := hidden (HQ.out _ HH.out)
 refine tk 13 co1o_13 (.int .i64 r) rfl (by kernel_rfl) hH2 rfl (fun w0 hSw => ?_) ?_
 ·(unfold co1o_13; clear hSw; go_simp)
 simp only [co1o_13, Act.put, sA, sB, sC]
 refine wpAnyH_done (by kernel_rfl) ?_ _
 refine NoPanic.normal ?_
 exact FQ.out
def co2o_0 : Oper := { dst := some 4, op := Op.move (Operand.tmp 0), type := 3, pos := "ways.go:42", after := #[], guard := none }
def co2o_1 : Oper := { dst := some 5, op := Op.call { callee := Callee.value (Operand.func 64), args := #[Operand.tmp 4], argTypes := #[3] }, type := 3, pos := "ways.go:42", after := #[{ on := 0, ground := Ground.data }], guard := none }
def co2o_2 : Oper := { dst := some 6, op := Op.load 3 (Operand.tmp 1), type := 3, pos := "ways.go:42", after := #[], guard := none }
def co2o_3 : Oper := { dst := some 7, op := Op.move (Operand.tmp 0), type := 3, pos := "ways.go:42", after := #[], guard := none }
def co2o_4 : Oper := { dst := some 8, op := Op.binOp BinOp.sub 3 (Operand.tmp 7) (Operand.const (Value.int IntKind.i64 1)) 3, type := 3, pos := "ways.go:42", after := #[{ on := 3, ground := Ground.data }], guard := none }
def co2o_5 : Oper := { dst := some 9, op := Op.binOp BinOp.shl 3 (Operand.const (Value.int IntKind.i64 1)) (Operand.tmp 8) 3, type := 3, pos := "ways.go:42", after := #[{ on := 4, ground := Ground.data }], guard := none }
def co2o_6 : Oper := { dst := some 10, op := Op.binOp BinOp.add 3 (Operand.tmp 6) (Operand.tmp 9) 3, type := 3, pos := "ways.go:42", after := #[{ on := 2, ground := Ground.data }, { on := 5, ground := Ground.data }], guard := none }
def co2o_7 : Oper := { dst := some 11, op := Op.move (Operand.tmp 0), type := 3, pos := "ways.go:42", after := #[], guard := none }
def co2o_8 : Oper := { dst := some 12, op := Op.binOp BinOp.add 3 (Operand.tmp 10) (Operand.tmp 11) 3, type := 3, pos := "ways.go:42", after := #[{ on := 6, ground := Ground.data }, { on := 7, ground := Ground.data }], guard := none }
def co2o_9 : Oper := { dst := some 13, op := Op.binOp BinOp.mul 3 (Operand.tmp 5) (Operand.tmp 12) 3, type := 3, pos := "ways.go:42", after := #[{ on := 1, ground := Ground.data }, { on := 8, ground := Ground.data }], guard := none }
def co2o_10 : Oper := { dst := some 3, op := Op.assign (Operand.tmp 13), type := 3, pos := "ways.go:42", after := #[{ on := 9, ground := Ground.data }, { on := 1, ground := Ground.chain }, { on := 0, ground := Ground.phase }, { on := 1, ground := Ground.phase }, { on := 2, ground := Ground.phase }, { on := 3, ground := Ground.phase }, { on := 4, ground := Ground.phase }, { on := 5, ground := Ground.phase }, { on := 6, ground := Ground.phase }, { on := 7, ground := Ground.phase }, { on := 8, ground := Ground.phase }, { on := 9, ground := Ground.phase }], guard := none }
def co2o : Array Oper := #[co2o_0, co2o_1, co2o_2, co2o_3, co2o_4, co2o_5, co2o_6, co2o_7, co2o_8, co2o_9, co2o_10]
theorem co2 (Q : Exit → Act → World → Prop) (X : Nat) (n M M1 S p a b r : Int) (u2 u4 u5 u6 u7 u8 u9 u10 u11 u12 u13 : Value) (W : World)
  (c0 : W.cell? ⟨X, 0, none⟩ = some (.int .i64 n)) (hm : IntKind.i64.wrap (M - 1) = M1) (hs : ∀ w : World, (Op.shift .shl .i64 1 .i64 M1).run Tryz.prog w = .ok (.int .i64 S) w) (ha : IntKind.i64.wrap (n + S) = a) (hb1 : IntKind.i64.wrap (a + M) = b) (hd : IntKind.i64.wrap (p * b) = r)
  (C5 : Hid (∀ x, Calls Tryz.prog 64 #[.int .i64 M] x fun e w' => e = .returned (.int .i64 p) ∧ Below x.heap.size x w'))
  (HQ : Hid (∀ (wz : World), Below W.heap.size W wz → Q .normal ⟨#[.int .i64 M, .pointer (some ⟨X, 0, none⟩), u2, .int .i64 r, .int .i64 M, .int .i64 p, .int .i64 n, .int .i64 M, .int .i64 M1, .int .i64 S, .int .i64 a, .int .i64 M, .int .i64 b, .int .i64 r], []⟩ wz)) : (Code.region 1 co2o true).wp Tryz.prog Q ⟨#[.int .i64 M, .pointer (some ⟨X, 0, none⟩), u2, .int .i64 0, u4, u5, u6, u7, u8, u9, u10, u11, u12, u13], []⟩ W := by
 unfold co2o
 refine wp_region_noPanic ?_
 refine wp_region_held_drew (S := fun x => Below W.heap.size W x) (by kernel_rfl) (bl_drew W) (fun hH0 => ?_)
 refine tk 0 co2o_0 (.int .i64 M) rfl (by kernel_rfl) hH0 rfl (fun w0 hSw => ?_) ?_
 ·(unfold co2o_0; clear hSw; go_simp)
 simp only [co2o_0, Act.put, sA, sB, sC]
 refine tk 2 co2o_2 (.int .i64 n) rfl (by kernel_rfl) hH0 rfl (fun w0 hSw => ?_) ?_
 ·(unfold co2o_2; have hS : Below W.heap.size W w0 := hSw; have a0 := cell_keep c0 hS; clear hS hSw; go_simp)
 simp only [co2o_2, Act.put, sA, sB, sC]
 refine tk 3 co2o_3 (.int .i64 M) rfl (by kernel_rfl) hH0 rfl (fun w0 hSw => ?_) ?_
 ·(unfold co2o_3; clear hSw; go_simp)
 simp only [co2o_3, Act.put, sA, sB, sC]
 refine tk 4 co2o_4 (.int .i64 M1) rfl (by kernel_rfl) hH0 rfl (fun w0 hSw => ?_) ?_
 ·(unfold co2o_4; clear hSw; go_simp)
 simp only [co2o_4, Act.put, sA, sB, sC]
 refine tk 5 co2o_5 (.int .i64 S) rfl (by kernel_rfl) hH0 rfl (fun w0 hSw => ?_) ?_
 ·(unfold co2o_5; clear hSw; go_simp)
 simp only [co2o_5, Act.put, sA, sB, sC]
 refine tk 6 co2o_6 (.int .i64 a) rfl (by kernel_rfl) hH0 rfl (fun w0 hSw => ?_) ?_
 ·(unfold co2o_6; clear hSw; go_simp)
 simp only [co2o_6, Act.put, sA, sB, sC]
 refine tk 7 co2o_7 (.int .i64 M) rfl (by kernel_rfl) hH0 rfl (fun w0 hSw => ?_) ?_
 ·(unfold co2o_7; clear hSw; go_simp)
 simp only [co2o_7, Act.put, sA, sB, sC]
 refine tk 8 co2o_8 (.int .i64 b) rfl (by kernel_rfl) hH0 rfl (fun w0 hSw => ?_) ?_
 ·(unfold co2o_8; clear hSw; go_simp)
 simp only [co2o_8, Act.put, sA, sB, sC]
 refine wpAnyH_ready (rs := [1]) (by kernel_rfl) (by simp) ?_
 refine AllReadyH.cons (o := co2o_1) rfl (fun K hK => ?_) AllReadyH.nil
 unfold co2o_1
 have HH := hidden hH0
 clear hH0
 go_simp
 refine (C5.out _).mono ?_
 rintro e wn1 ⟨rfl, hb⟩
 have SN := hidden (bl_trans HH.out hb)
 clear HH hb
 go_wp2_with fail
 refine hK.out _ _ SN.out (fun hH1 => ?_)
 clear hK K SN
 refine tk 9 co2o_9 (.int .i64 r) rfl (by kernel_rfl) hH1 rfl (fun w0 hSw => ?_) ?_
 ·(unfold co2o_9; clear hSw; go_simp)
 simp only [co2o_9, Act.put, sA, sB, sC]
 have HH := hidden hH1
 have FQ := hidden (HQ.out _ HH.out)
 refine tk 10 co2o_10 (.int .i64 r) rfl (by kernel_rfl) hH1 rfl (fun w0 hSw => ?_) ?_
 ·(unfold co2o_10; clear hSw; go_simp)
 simp only [co2o_10, Act.put, sA, sB, sC]
 refine wpAnyH_done (by kernel_rfl) ?_ _
 refine NoPanic.normal ?_
 exact FQ.out
theorem places_any (m : Nat) (h1 : 1 ≤ m) (h2 : m ≤ 12) (w : World) : Calls Tryz.prog 64 #[.int .i64 (m : Int)] w fun e w' => e = .returned (.int .i64 ((253 / m + 1 : Nat) : Int)) ∧ Below w.heap.size w w' := by
 obtain rfl | rfl | rfl | rfl | rfl | rfl | rfl | rfl | rfl | rfl | rfl | rfl : m = 1 ∨ m = 2 ∨ m = 3 ∨ m = 4 ∨ m = 5 ∨ m = 6 ∨ m = 7 ∨ m = 8 ∨ m = 9 ∨ m = 10 ∨ m = 11 ∨ m = 12 := by omega
 ·exact places_1 w
 ·exact places_2 w
 ·exact places_3 w
 ·exact places_4 w
 ·exact places_5 w
 ·exact places_6 w
 ·exact places_7 w
 ·exact places_8 w
 ·exact places_9 w
 ·exact places_10 w
 ·exact places_11 w
 ·exact places_12 w
end Go.Proofs.YtbbnjmjeeiglcaaGreatDoor
namespace Go.Proofs.YtbbnjmjeeiglcaaGreatDoor.Li
open Go.RowKit
structure Pl (w : World) (D K : Nat) (s : Nat → Bool) (x : Nat → Nat → Int) : Prop where
 c : ∀ i, i < K → ∃ z : E4, w.rangeAt D (i * 5) [.int .u64 z.x0, .int .u64 z.x1, .int .u64 z.x2, .int .u64 z.x3] ∧ w.cell? ⟨D, i * 5 + 4, none⟩ = some (.bool (s i)) ∧ (s i = true → z.ok ∧ ∀ t, lst z.n = lst (x i t))
 z : ∀ i, i < K → s i = false → ∀ t, lst (x i t) = zero4
 fr : ∀ o, o < K * 5 → w.frozen? ⟨D, o, none⟩ = false
 lt : D < w.heap.size
theorem Pl.same {w w' : World} {D K : Nat} {s : Nat → Bool} {x : Nat → Nat → Int} (h : Pl w D K s x) (e : w'.heap[D]? = w.heap[D]?) (hl : w.heap.size ≤ w'.heap.size) : Pl w' D K s x := by
 have k : ∀ o, w'.cell? ⟨D, o, none⟩ = w.cell? ⟨D, o, none⟩ := fun o => World.cell?_of_block e
 refine ⟨fun i hi => ?_, h.z, fun j hj => (World.frozen?_of_block e).trans (h.fr j hj), Nat.lt_of_lt_of_le h.lt hl⟩
 obtain ⟨z, h1, h2, h3⟩ := h.c i hi
 exact ⟨z, fun j v hv => (k _).trans (h1 j v hv), by rw [k]; exact h2, h3⟩
theorem Pl.hand {w w' : World} {D K H : Nat} {s : Nat → Bool} {x : Nat → Nat → Int} (h : Pl w D K s x) (hg : w.grownBy w' (some H)) (hn : D ≠ H) : Pl w' D K s x := h.same (hg.block D h.lt (fun e => hn (Option.some.inj e))) hg.size
theorem Pl.keep {w w' : World} {D K : Nat} {s : Nat → Bool} {x : Nat → Nat → Int} (h : Pl w D K s x) (hb : Below w.heap.size w w') : Pl w' D K s x := h.same (hb.block D h.lt) hb.size
theorem Pl.congr {w : World} {D K : Nat} {s : Nat → Bool} {x y : Nat → Nat → Int} (h : Pl w D K s x) (e : ∀ i, i < K → ∀ t, lst (x i t) = lst (y i t)) : Pl w D K s y := by
 refine ⟨fun i hi => ?_, fun i hi hs t => by rw [← e i hi t]; exact h.z i hi hs t, h.fr, h.lt⟩
 obtain ⟨z, h1, h2, h3⟩ := h.c i hi
 exact ⟨z, h1, h2, fun hs => ⟨(h3 hs).1, fun t => ((h3 hs).2 t).trans (e i hi t)⟩⟩
theorem Pl.put {w : World} {D K i : Nat} {s : Nat → Bool} {x : Nat → Nat → Int} {f : Nat → Int} (h : Pl w D K s x) (hi : i < K) {q : E4} (hq : q.ok ∧ ∀ t, lst q.n = lst (f t)) : Pl ((setS w D (i * 5) q).setCell ⟨D, i * 5 + 4, none⟩ (.bool true)) D K (fun j => if j = i then true else s j) (fun j => if j = i then f else x j) := by
 obtain ⟨z0, k0, k1, -⟩ := h.c i hi
 have g1 : w.grownBy (setS w D (i * 5) q) (some D) := gb_setCells D [.int .u64 q.x0, .int .u64 q.x1, .int .u64 q.x2, .int .u64 q.x3] (i * 5) w
 have g := g1.trans (gb_set (setS w D (i * 5) q) D (i * 5 + 4) (.bool true))
 obtain ⟨w2, hw2⟩ : ∃ w2, (setS w D (i * 5) q).setCell ⟨D, i * 5 + 4, none⟩ (.bool true) = w2 := ⟨_, rfl⟩
 have th : w.there D (i * 5) 4 := there4 k0 (fun j hj => h.fr _ (by omega))
 have e : ∀ o, o < i * 5 ∨ i * 5 + 5 ≤ o → w2.cell? ⟨D, o, none⟩ = w.cell? ⟨D, o, none⟩ := fun o ho => by
  rw [← hw2, World.cell?_setCell_other _ _ _ _ (by simp <;> omega), setS_out _ _ _ _ (by omega)]
 have e0 : w2.rangeAt D (i * 5) [.int .u64 q.x0, .int .u64 q.x1, .int .u64 q.x2, .int .u64 q.x3] := fun j v hv => by
  have hj : j < 4 := by have := (List.getElem?_eq_some_iff.1 hv).1; simpa using this
  rw [← hw2, World.cell?_setCell_other _ _ _ _ (by simp <;> omega)]
  exact World.rangeAt_setCells_same w D (i * 5) [.int .u64 q.x0, .int .u64 q.x1, .int .u64 q.x2, .int .u64 q.x3] th j v hv
 have e1 : w2.cell? ⟨D, i * 5 + 4, none⟩ = some (.bool true) := by
  rw [← hw2]; exact World.cell?_setCell_same _ _ _ (by rw [setS_out _ _ _ _ (by omega)]; exact k1)
 have ef : ∀ o, w2.frozen? ⟨D, o, none⟩ = w.frozen? ⟨D, o, none⟩ := fun o => by rw [← hw2, World.frozen?_setCell, setS_frozen]
 rw [hw2] at g ⊢
 refine ⟨fun j hj => ?_, fun j hj hs t => ?_, fun o ho => by rw [ef]; exact h.fr o ho, Nat.lt_of_lt_of_le h.lt g.size⟩
 ·by_cases ej : j = i
  ·subst ej
   simp only [if_pos]
   exact ⟨q, e0, e1, fun _ => hq⟩
  ·obtain ⟨z1, h1, h2, h3⟩ := h.c j hj
   simp only [if_neg ej]
   refine ⟨z1, fun b v hv => ?_, by rw [e _ (by omega)]; exact h2, h3⟩
   have hb : b < 4 := by have := (List.getElem?_eq_some_iff.1 hv).1; simpa using this
   rw [e _ (by omega)]; exact h1 b v hv
 ·by_cases ej : j = i
  ·subst ej; simp at hs
  ·simp only [if_neg ej] at hs ⊢; exact h.z j hj hs t
theorem lay_pl (H D K i : Nat) (p : E4) (s : Nat → Bool) (x : Nat → Nat → Int) (f : Nat → Int) (w : World) (hT : Tb w) (hH : Hd w H) (hp : p.ok ∧ ∀ t, lst p.n = lst (f t)) (hP : Pl w D K s x) (hi : i < K) (neDH : D ≠ H) :
  Calls Tryz.prog 71 #[.pointer (some ⟨H, 0, none⟩), .pointer (some ⟨D, i * 5, none⟩), .agg #[.int .u64 p.x0, .int .u64 p.x1, .int .u64 p.x2, .int .u64 p.x3]] w fun e w' => e = .returned (.tuple #[]) ∧ Pl w' D K (fun j => if j = i then true else s j) (fun j => if j = i then (fun t => x i t + f t) else x j) ∧ Hd w' H ∧ ∃ wm, w.grownBy wm (some H) ∧ Hd wm H ∧ wm.grownBy w' (some D) := by
 obtain ⟨z0, k0, k1, k2⟩ := hP.c i hi
 have f0 := hP.fr (i * 5) (by omega)
 have f1 := hP.fr (i * 5 + 1) (by omega)
 have f2 := hP.fr (i * 5 + 2) (by omega)
 have f3 := hP.fr (i * 5 + 3) (by omega)
 have f4 := hP.fr (i * 5 + 4) (by omega)
 have c0 : w.cell? ⟨D, i * 5, none⟩ = some (.int .u64 z0.x0) := k0 0 _ rfl
 have c1 : w.cell? ⟨D, i * 5 + 1, none⟩ = some (.int .u64 z0.x1) := k0 1 _ rfl
 have c2 : w.cell? ⟨D, i * 5 + 2, none⟩ = some (.int .u64 z0.x2) := k0 2 _ rfl
 have c3 : w.cell? ⟨D, i * 5 + 3, none⟩ = some (.int .u64 z0.x3) := k0 3 _ rfl
 have fin : ∀ (w' : World) (y : Nat → Int), Ly w w' H D (i * 5) y → (∀ t, lst (y t) = lst (x i t + f t)) → Pl w' D K (fun j => if j = i then true else s j) (fun j => if j = i then (fun t => x i t + f t) else x j) ∧ Hd w' H ∧ ∃ wm, w.grownBy wm (some H) ∧ Hd wm H ∧ wm.grownBy w' (some D) := by
  rintro w' y ⟨z, wm, hg, rfl, hz, hm⟩ hy
  have q := (hP.hand hg neDH).put hi (q := z) (f := fun t => x i t + f t) ⟨hz.1, fun t => (hz.2 t).trans (hy t)⟩
  refine ⟨q, ?_, wm, hg, hm, (gb_setCells D [.int .u64 z.x0, .int .u64 z.x1, .int .u64 z.x2, .int .u64 z.x3] (i * 5) wm).trans (gb_set _ _ _ _)⟩
  unfold setS
  exact ((((hm.far neDH).far neDH).far neDH).far neDH).far neDH
 cases hs : s i with
 | false =>
  rw [hs] at k1
  refine (lay_no H D (i * 5) p z0 f w hT hH hp neDH c0 c1 c2 c3 k1 f0 f1 f2 f3 f4).mono ?_
  rintro e w' ⟨rfl, hl⟩
  refine ⟨rfl, fin w' f hl (fun t => ?_)⟩
  rw [lst_two ((hP.z i hi hs t).trans zero_lst.symm) (rfl : lst (f t) = lst (f t)), Int.zero_add]
 | true =>
  rw [hs] at k1
  refine (lay_on H D (i * 5) p z0 f (x i) w hT hH hp (k2 hs) neDH c0 c1 c2 c3 k1 f0 f1 f2 f3 f4).mono ?_
  rintro e w' ⟨rfl, hl⟩
  exact ⟨rfl, fin w' _ hl (fun t => rfl)⟩
end Go.Proofs.YtbbnjmjeeiglcaaGreatDoor.Li
