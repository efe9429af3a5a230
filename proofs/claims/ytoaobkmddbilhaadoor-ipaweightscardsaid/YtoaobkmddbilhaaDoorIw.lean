import Derived.Test.YtoaobkmddbilhaaDoorSijk
import Derived.Deep.RegionLaw
namespace Go.Proofs.YtoaobkmddbilhaaDoor
open Go.RowKit
set_option linter.unusedVariables false
/-- a challenge's factor: itself or its inverse -/
def cf (a : Nat → Int) (t b : Nat) : Int := if b = 0 then (a t) ^ 7237005577332262213973186563042994240857116359379907606001950938285454250987 else a t
/-- the weights of j rounds from round m on -/
def wt (a : Nat → Int) (m : Nat) : Nat → Nat → Int
  | 0, _ => 1
  | j + 1, i => wt a m j (i / 2) * cf a (m + j) (i % 2)
theorem wt_zero (a : Nat → Int) (m i : Nat) : wt a m 0 i = 1 := rfl
theorem wt_succ (a : Nat → Int) (m j i : Nat) : wt a m (j + 1) i = wt a m j (i / 2) * cf a (m + j) (i % 2) := rfl
/-- the same, from the other end -/
theorem wt_front (a : Nat → Int) (m j : Nat) : ∀ i, i < 2 ^ (j + 1) → wt a m (j + 1) i = wt a (m + 1) j (i % 2 ^ j) * cf a m (i / 2 ^ j) := by
  induction j with
  | zero =>
    intro i hi
    rw [wt_succ, wt_zero, wt_zero]
    simp only [Nat.pow_zero, Nat.div_one, Nat.add_zero]
    rw [Nat.mod_eq_of_lt (by simpa using hi)]
  | succ j ih =>
    intro i hi
    rw [wt_succ, ih (i / 2) (by rw [Nat.pow_succ] at hi; omega), wt_succ a (m + 1) j]
    have e1 : i % 2 ^ (j + 1) / 2 = i / 2 % 2 ^ j := by
      rw [Nat.pow_succ, Nat.mul_comm, Nat.mod_mul_right_div_self]
    have e2 : i % 2 ^ (j + 1) % 2 = i % 2 := by
      rw [Nat.pow_succ, Nat.mod_mul_left_mod]
    have e3 : i / 2 / 2 ^ j = i / 2 ^ (j + 1) := by
      rw [Nat.div_div_eq_div_mul, Nat.pow_succ, Nat.mul_comm]
    rw [e1, e2, e3, show m + 1 + j = m + (j + 1) by omega, Int.mul_assoc, Int.mul_assoc, Int.mul_comm (cf a m _)]
/-- g with a mark behind -/
def g78 (g : Nat → E4) (L k : Nat) : E4 := if k < L then g k else ⟨78, 0, 0, 0⟩
/-- the same, filled up to i -/
def f78 (g : Nat → E4) (i k : Nat) : E4 := if k < i then g k else zero4
theorem f78_next (g : Nat → E4) (i j : Nat) : (if j = i then g i else f78 g i j) = f78 g (i + 1) j := by
  unfold f78
  by_cases h : j = i
  · subst h; rw [if_pos rfl, if_pos (by omega)]
  · rw [if_neg h]
    by_cases hl : j < i
    · rw [if_pos hl, if_pos (by omega)]
    · rw [if_neg hl, if_neg (by omega)]
theorem f78_last (g : Nat → E4) (m j : Nat) (hj : j < m + 1) : (if j = m then (⟨78, 0, 0, 0⟩ : E4) else f78 g m j) = g78 g m j := by
  unfold f78 g78
  by_cases h : j = m
  · subst h; rw [if_pos rfl, if_neg (by omega)]
  · rw [if_neg h, if_pos (by omega), if_pos (by omega)]
set_option maxRecDepth 100000 in
set_option maxHeartbeats 16000000 in
theorem cut_any (P : Option Addr) (L cap m : Nat) (g : Nat → E4) (w : World) (hL : L ≤ 4398046510976) (hc : L ≤ cap) (hS : Lm w P L g) (hm : m = min L 2100) :
    Calls Tryd.prog 38 #[.slice P L cap] w fun e w' => e = .returned (.slice P m cap) ∧ Below w.heap.size w w' := by
  by_cases h : L ≤ 2100
  · obtain rfl : m = L := by omega
    have l0 : ¬ (2100 : Int) < (m : Int) := by omega
    clear hS hm
    go_enter Tryd.func38, Tryd.ntmps38
    go_wp2_with fail
    refine bodyPost_ret (v := .slice P m cap) (by simp [results, Tryd.results38, go_sem]) rfl ⟨rfl, Below.refl _ _⟩
  · obtain rfl : m = 2100 := by omega
    have l0 : (2100 : Int) < (L : Int) := by omega
    obtain ⟨sb, so, h1, h2⟩ := hS
    obtain rfl := h1 (by omega)
    have l1 : (2100 : Int) ≤ (cap : Int) := by omega
    have l2 : ((cap : Int) - 0).toNat = cap := by omega
    have l3 : ¬ cap = 0 := by omega
    clear h1 h2 hm
    go_enter Tryd.func38, Tryd.ntmps38
    go_wp2_with fail
    refine bodyPost_ret (v := .slice (some ⟨sb, so, none⟩) 2100 cap) (by simp [results, Tryd.results38, go_sem]) rfl ⟨rfl, Below.refl _ _⟩
set_option maxRecDepth 100000 in
set_option maxHeartbeats 16000000 in
theorem scalars_any (P : Option Addr) (L cap m : Nat) (g : Nat → E4) (w : World) (hL : L ≤ 4398046510976) (hc : L ≤ cap) (hS : Lm w P L g) (hm : m = min L 2100) :
    Calls Tryd.prog 14 #[.slice P L cap] w fun e w' => ∃ b : Nat, e = .returned (.slice (some ⟨b, 0, none⟩) m (m + 1)) ∧ w.heap.size ≤ b ∧ Rws w' b (m + 1) (g78 g m) ∧ Below w.heap.size w w' := by
  have CU := hidden (fun w' hb => cut_any P L cap m g w' hL hc (hS.keep hb) hm)
  have HS := hidden (hS.less (m := m) (by omega))
  have HM : Hid (m ≤ 2100) := hidden (by omega)
  have mm : m ≤ 2100 := by omega
  have nn0 : (0 : Int) ≤ (m : Int) := by omega
  have w1 : IntKind.i64.wrap ((m : Int) + 1) = (m : Int) + 1 := IntWalk.i64_in _ (by omega)
  obtain ⟨i0, hi, hz0, hz1, hz2⟩ := info_parts sinfo
  have hmk := fun w => run_make (P := Tryd.prog) w 23 26 i0 (.agg #[.int .u64 0, .int .u64 0, .int .u64 0, .int .u64 0]) (by kernel_rfl) hi hz0 .i64 .i64 ((m : Int) + 1) ((m : Int) + 1) (by omega) (Int.le_refl _) (by rw [hz2]; omega) (by omega)
  have tn : ((m : Int) + 1).toNat = m + 1 := by omega
  simp only [tn, hz1] at hmk
  clear hi hz0 hz1 hz2 hS hL hc hm mm
  go_enter Tryd.func14, Tryd.ntmps14
  go_upto_region 2 with (first | (go_at_call 38; refine (CU.out _ (Below.refl _ _)).mono ?_; rintro e w2 ⟨rfl, hb⟩; have B1 := hidden hb; clear hb))
  clear CU
  go_cut [3] (fun vx wx => ∃ bl : Nat, vx = .slice (some ⟨bl, 0, none⟩) (m + 1) (m + 1) ∧ w.heap.size ≤ bl ∧ Rws wx bl (m + 1) (f78 g 0) ∧ Below w.heap.size w wx)
  case first =>
    have R0 := hidden ((Rws.made w2 (m + 1) 26).congr (f := f78 g 0) (fun k _ => by unfold f78; rw [if_neg (by omega)]))
    have B0 := hidden (bl_trans B1.out (bl_alloc w2 (.cells (madeCells #[.int .u64 0, .int .u64 0, .int .u64 0, .int .u64 0] ((m + 1) * 4)) 26)))
    have hsz := B1.out.size
    go_wp2_with fail
    go_meet
    exact ⟨_, rfl, hsz, R0.out, B0.out⟩
  case rest =>
  obtain ⟨bl, rfl, hbl, r0, b0⟩ := hcut
  have R0 := hidden r0
  have B0 := hidden b0
  clear r0 b0 hmk B1 w1 tn
  generalize wc = w3 at *
  go_wp2_with fail
  go_loopw [4] (fun iv' w' => ∃ k : Nat, k ≤ m ∧ iv' = .int .i64 k ∧ Hid (Rws w' bl (m + 1) (f78 g k)) ∧ Hid (Below w.heap.size w w')) (fun i _ => m - (intOf i).toNat)
  case atStart => exact ⟨0, by omega, rfl, R0, B0⟩
  case round =>
    clear R0 B0
    obtain ⟨k, hk, rfl, hR, hB⟩ := hrel
    by_cases hkn : k < m
    · have k0 : (0 : Int) ≤ (k : Int) := by omega
      have k1 : (k : Int) < (m : Int) := by omega
      have k2 : (k : Int) < ((m + 1 : Nat) : Int) := by omega
      have w9 : IntKind.i64.wrap ((k : Int) + 1) = (k : Int) + 1 := IntWalk.i64_in _ (by have := HM.out; omega)
      obtain ⟨sb, so, h1, h2⟩ := HS.out
      obtain rfl := h1 (by omega)
      have rx := (h2 (by omega)).keep hB.out
      have x0 := rx.c0 k hkn
      have x1 := rx.c1 k hkn
      have x2 := rx.c2 k hkn
      have x3 := rx.c3 k hkn
      have r3 := hR.out
      have a0 := r3.c0 k (by omega)
      have a1 := r3.c1 k (by omega)
      have a2 := r3.c2 k (by omega)
      have a3 := r3.c3 k (by omega)
      rw [show f78 g k k = zero4 by unfold f78; rw [if_neg (by omega)]] at a0 a1 a2 a3
      have f0 := r3.fr (k * 4) (by omega)
      have f1 := r3.fr (k * 4 + 1) (by omega)
      have f2 := r3.fr (k * 4 + 2) (by omega)
      have f3 := r3.fr (k * 4 + 3) (by omega)
      have R4 := hidden ((r3.at k (by omega) (g k)).congr (f := f78 g (k + 1)) (fun j _ => f78_next g k j))
      have S4 := hidden (setS_below wr bl (k * 4) (g k) hB.out hbl)
      generalize g k = z at x0 x1 x2 x3 R4 S4
      unfold setS at R4 S4
      clear rx r3 h1 h2 hR hB
      go_wp2_with fail
      go_roundw
      case rel => exact ⟨k + 1, by omega, by go_num, R4, S4⟩
      case measure => simp [intOf]; omega
    · have hkn : m = k := by omega
      subst hkn
      have lq : ¬ (m : Int) < (m : Int) := by omega
      have r3 := hR.out
      have a0 := r3.c0 m (by omega)
      have a1 := r3.c1 m (by omega)
      have a2 := r3.c2 m (by omega)
      have a3 := r3.c3 m (by omega)
      rw [show f78 g m m = zero4 by unfold f78; rw [if_neg (by omega)]] at a0 a1 a2 a3
      have f0 := r3.fr (m * 4) (by omega)
      have f1 := r3.fr (m * 4 + 1) (by omega)
      have f2 := r3.fr (m * 4 + 2) (by omega)
      have f3 := r3.fr (m * 4 + 3) (by omega)
      have R4 := hidden ((r3.at m (by omega) ⟨78, 0, 0, 0⟩).congr (f := g78 g m) (fun j hj => f78_last g m j hj))
      have S4 := hidden (setS_below wr bl (m * 4) ⟨78, 0, 0, 0⟩ hB.out hbl)
      have e1 : (m : Int) < (m : Int) + 1 := by omega
      have e2 : (m : Int) ≤ (m : Int) + 1 := by omega
      have e3 : ((m + 1 : Nat) : Int) = (m : Int) + 1 := by omega
      have e4 : ((m : Int) + 1 - 0).toNat = m + 1 := by omega
      have e5 : (m : Int).toNat = m := by omega
      have e6 : ((m : Int) + 1).toNat = m + 1 := by omega
      unfold setS at R4 S4
      clear r3 hR hB
      go_wp2_with fail
      refine bodyPost_ret (v := .slice (some ⟨bl, 0, none⟩) m (m + 1)) (by simp [results, Tryd.results14, go_sem]) rfl ⟨bl, rfl, hbl, R4.out, S4.out⟩
end Go.Proofs.YtoaobkmddbilhaaDoor
namespace Go.Proofs.YtoaobkmddbilhaaDoor
open Go.RowKit
set_option linter.unusedVariables false
/-- is one of them 0? -/
def az (n : Nat) (g : Nat → E4) : Prop := ∃ k, k < n ∧ (g k).n % Sm.L = 0
set_option maxRecDepth 100000 in
set_option maxHeartbeats 16000000 in
theorem index_any (b n c N : Nat) (g : Nat → E4) (w : World) (hT : Tb w) (hn : n ≤ 4398046510976) (hN : n ≤ N) (hg : ∀ k, k < n → (g k).ok) (hR : Rws w b N g) :
    Calls Tryd.prog 67 #[.slice (some ⟨b, 0, none⟩) n c, .func (.func 5) #[] #[]] w fun e w' => ∃ r : Int, e = .returned (.int .i64 r) ∧ (0 ≤ r ↔ az n g) ∧ Below w.heap.size w w' := by
  have HT := hidden hT
  have HR := hidden hR
  have HG := hidden hg
  have HN : Hid (n ≤ N ∧ n ≤ 4398046510976) := hidden ⟨hN, hn⟩
  have nn0 : (0 : Int) ≤ (n : Int) := by omega
  clear hT hR hg hn hN
  go_enter Tryd.func67, Tryd.ntmps67
  go_wp2_with fail
  go_loopw [8] (fun iv' w' => ∃ k : Nat, k ≤ n ∧ iv' = .int .i64 k ∧ Hid (∀ j, j < k → ¬ (g j).n % Sm.L = 0) ∧ Hid (Below w.heap.size w w')) (fun i _ => n - (intOf i).toNat)
  case atStart => exact ⟨0, by omega, rfl, hidden (fun j hj => by omega), hidden (Below.refl _ _)⟩
  case round =>
    obtain ⟨k, hk, rfl, hZ, hB⟩ := hrel
    by_cases hkn : k < n
    · have k0 : (0 : Int) ≤ (k : Int) := by omega
      have k1 : (k : Int) < (n : Int) := by omega
      have w9 : IntKind.i64.wrap ((k : Int) + 1) = (k : Int) + 1 := IntWalk.i64_in _ (by have := HN.out.2; omega)
      have hkN : k < N := Nat.lt_of_lt_of_le hkn HN.out.1
      have rx := HR.out.keep hB.out
      have x0 := rx.c0 k hkN
      have x1 := rx.c1 k hkN
      have x2 := rx.c2 k hkN
      have x3 := rx.c3 k hkN
      have zok := HG.out k hkn
      obtain ⟨z, hz⟩ : ∃ z, g k = z := ⟨_, rfl⟩
      rw [hz] at x0 x1 x2 x3 zok
      have HZ := hidden hz
      have IZ := hidden (fun w T => IsZero_any z w T zok)
      have T0 := hidden (HT.out.keep hB.out)
      simp only [E4.v] at IZ
      clear rx hz zok hkN
      by_cases h0 : z.n % Sm.L = 0
      · rw [show decide (z.n % Sm.L = 0) = true from decide_eq_true h0] at IZ
        have H0 := hidden h0
        clear h0
        go_wp2_with (first | (go_at_call 5; refine (IZ.out _ T0.out).mono ?_; rintro e w1 ⟨rfl, hb1⟩; have B1 := hidden (bl_trans hB.out hb1); clear hb1))
        refine bodyPost_ret (v := .int .i64 (k : Int)) (by simp [results, Tryd.results67, go_sem]) rfl ⟨_, rfl, ⟨fun _ => ⟨k, hkn, by rw [HZ.out]; exact H0.out⟩, fun _ => k0⟩, B1.out⟩
      · rw [show decide (z.n % Sm.L = 0) = false from decide_eq_false h0] at IZ
        have H0 := hidden h0
        clear h0
        go_wp2_with (first | (go_at_call 5; refine (IZ.out _ T0.out).mono ?_; rintro e w1 ⟨rfl, hb1⟩; have B1 := hidden (bl_trans hB.out hb1); clear hb1))
        go_roundw
        case rel => exact ⟨k + 1, by omega, by go_num, hidden (fun j hj => by
          by_cases hjk : j = k
          · subst hjk; rw [HZ.out]; exact H0.out
          · exact hZ.out j (by omega)), B1⟩
        case measure => simp [intOf]; omega
    · have hkn : n = k := by omega
      subst hkn
      have lq : ¬ (n : Int) < (n : Int) := by omega
      go_wp2_with fail
      refine bodyPost_ret (v := .int .i64 (-1)) (by simp [results, Tryd.results67, go_sem]) rfl ⟨_, rfl, ⟨fun h => absurd h (by omega), fun ⟨j, hj, h⟩ => absurd h (hZ.out j hj)⟩, hB.out⟩
set_option maxRecDepth 100000 in
set_option maxHeartbeats 16000000 in
theorem contains_any (b n c N : Nat) (g : Nat → E4) (w : World) (hT : Tb w) (hn : n ≤ 4398046510976) (hN : n ≤ N) (hg : ∀ k, k < n → (g k).ok) (hR : Rws w b N g) (q : Bool) (hq : q = true ↔ az n g) :
    Calls Tryd.prog 51 #[.slice (some ⟨b, 0, none⟩) n c, .func (.func 5) #[] #[]] w fun e w' => e = .returned (.bool q) ∧ Below w.heap.size w w' := by
  have IX := hidden (index_any b n c N g w hT hn hN hg hR)
  have HQ := hidden hq
  clear hT hn hN hg hR hq
  go_enter Tryd.func51, Tryd.ntmps51
  go_wp2_with fail
  refine IX.out.mono ?_
  rintro e w1 ⟨r, rfl, hr, hb⟩
  have B1 := hidden hb
  have HR := hidden hr
  clear hb hr IX
  go_wp2_with fail
  have e : decide (0 ≤ r) = q := by
    have h1 := HQ.out
    have h2 := HR.out
    cases q with
    | true => exact decide_eq_true (h2.2 (h1.1 rfl))
    | false => exact decide_eq_false (fun h => by have := h1.2 (h2.1 h); cases this)
  refine bodyPost_ret (v := .bool (decide (0 ≤ r))) (by simp [results, Tryd.results51, go_sem]) rfl ⟨by rw [e], B1.out⟩
set_option maxRecDepth 100000 in
set_option maxHeartbeats 16000000 in
theorem zeroAmong_any (b n c N : Nat) (g : Nat → E4) (w : World) (hT : Tb w) (hn : n ≤ 4398046510976) (hN : n ≤ N) (hg : ∀ k, k < n → (g k).ok) (hR : Rws w b N g) (q : Bool) (hq : q = true ↔ az n g) :
    Calls Tryd.prog 29 #[.slice (some ⟨b, 0, none⟩) n c] w fun e w' => e = .returned (.int .i64 (if q then 4 else 0)) ∧ Below w.heap.size w w' := by
  have CT := hidden (contains_any b n c N g w hT hn hN hg hR q hq)
  clear hT hn hN hg hR hq
  cases q with
  | true =>
    go_enter Tryd.func29, Tryd.ntmps29
    go_wp2_with (first | (go_at_call 51; refine (CT.out).mono ?_; rintro e w1 ⟨rfl, hb1⟩; have B1 := hidden hb1; clear hb1))
    refine bodyPost_ret (v := .int .i64 4) (by simp [results, Tryd.results29, go_sem]) rfl ⟨rfl, B1.out⟩
  | false =>
    go_enter Tryd.func29, Tryd.ntmps29
    go_wp2_with (first | (go_at_call 51; refine (CT.out).mono ?_; rintro e w1 ⟨rfl, hb1⟩; have B1 := hidden hb1; clear hb1))
    refine bodyPost_ret (v := .int .i64 0) (by simp [results, Tryd.results29, go_sem]) rfl ⟨rfl, B1.out⟩
end Go.Proofs.YtoaobkmddbilhaaDoor
namespace Go.Proofs.YtoaobkmddbilhaaDoor
open Go.RowKit
set_option linter.unusedVariables false
theorem gbI {w w' : World} (h : Below w.heap.size w w') (row : Option Nat) : w.grownBy w' row := ⟨h.os, h.tape, h.output, h.size, fun k hk _ => h.block k hk⟩
theorem own_keepI {w1 w2 : World} {base : Nat} {e : TypeId} {v : Value} {n : Nat} {xs : List Value} (h : w1.ownsRow base e 4 v n xs) (hb : Below w1.heap.size w1 w2) : w2.ownsRow base e 4 v n xs :=
  h.kept (row := none) ⟨hb.os, hb.tape, hb.output, hb.size, fun k hk _ => hb.block k hk⟩ (by cases v.ownBlock <;> simp)
theorem below_lessI {m n : Nat} {w1 w2 : World} (h : Below n w1 w2) (hm : m ≤ n) : Below m w1 w2 := ⟨h.os, h.tape, h.output, h.size, fun k hk => h.block k (by omega)⟩
theorem below_transI {n : Nat} {w1 w2 w3 : World} (h1 : Below n w1 w2) (h2 : Below n w2 w3) : Below n w1 w3 := ⟨h2.os.trans h1.os, h2.tape.trans h1.tape, h2.output.trans h1.output, Nat.le_trans h1.size h2.size, fun k hk => (h2.block k hk).trans (h1.block k hk)⟩
theorem below_growI {B : Nat} {w w' : World} {row : Option Nat} (hg : w.grownBy w' row) (hB : B ≤ w.heap.size) (hr : ∀ k, row = some k → B ≤ k) : Below B w w' := (Below.refl _ _).grown hg hB hr
theorem Rws.ownI {w : World} {base gg n cap : Nat} {e : TypeId} {g : Nat → E4} (h : w.ownsRow base e 4 (.slice (some ⟨gg, 0, none⟩) n cap) n (svs n g)) : Rws w gg n g := by
  have hc : ∀ k, k < n * 4 → w.cell? ⟨gg, k, none⟩ = (svs n g)[k]? := fun k hk => h.cellAt k hk
  have hs : ∀ k d, k < n → d < 4 → (svs n g)[k * 4 + d]? = some ([Value.int .u64 (g k).x0, .int .u64 (g k).x1, .int .u64 (g k).x2, .int .u64 (g k).x3].getD d undef) := by
    intro k d hk hd
    clear hc h
    induction n with
    | zero => omega
    | succ n ih =>
      rw [svs_succ]
      by_cases hkn : k < n
      · rw [List.getElem?_append_left (by rw [svs_len]; omega)]
        exact ih hkn
      · have : k = n := by omega
        subst this
        rw [List.getElem?_append_right (by rw [svs_len]; omega), svs_len, show k * 4 + d - k * 4 = d by omega]
        obtain rfl | rfl | rfl | rfl : d = 0 ∨ d = 1 ∨ d = 2 ∨ d = 3 := by omega
        all_goals rfl
  refine ⟨fun k hk => ?_, fun k hk => ?_, fun k hk => ?_, fun k hk => ?_, fun k hk => h.frozenAt k, (h.lt gg rfl).2⟩
  · rw [hc _ (by omega)]; exact hs k 0 hk (by omega)
  · rw [hc _ (by omega)]; exact hs k 1 hk (by omega)
  · rw [hc _ (by omega)]; exact hs k 2 hk (by omega)
  · rw [hc _ (by omega)]; exact hs k 3 hk (by omega)
theorem wp_appendI {P : Program} {w : World} {o : Oper} {a : Act} {K : Act → World → Prop} {Q : Exit → Act → World → Prop} (s x : Operand) (t : TypeId)
    (ho : o.op = .call { callee := .builtin .append, args := #[s, x], argTypes := #[t, t] })
    (base : Nat) (e : TypeId) (i : TypeInfo) (z : Value) (size bytes : Nat) (ht : P.underlying t = some (.slice e)) (hi : P.info? e = some i) (hz : i.zero = some z)
    (hsize : i.size = size) (hby : i.bytes = bytes) (hzs : z.cells.size = size) (hsz : 0 < size)
    (v : Value) (n : Nat) (xs : List Value) (hs : a.eval s = v) (hown : w.ownsRow base e size v n xs)
    (ad : Addr) (m c : Nat) (news : List Value) (hx : a.eval x = .slice (some ad) m c) (hl : news.length = m * size) (hnews : ∀ j u, news[j]? = some u → w.cell? (ad.add j) = some u) (h1 : ∀ u ∈ news, u.oneCell' = true)
    (h63 : n + m ≤ maxLen) (hbytes : (n + m) * bytes ≤ 140737488355328) (hbase : base ≤ w.heap.size)
    (h : ∀ v' w', w'.ownsRow base e size v' (n + m) (xs ++ news) → w.grownBy w' v.ownBlock → (v'.ownBlock = v.ownBlock ∨ v'.ownBlock = some w.heap.size) → K (a.put o.dst v') w') : o.wp P a w K Q := by
  obtain ⟨v', w', hr, h2, h3, h4, h5⟩ := run_append_own_at (P := P) w base t o.type e i z size bytes ht hi hz hsize hby hzs hsz v n xs hown ad m c news hl hnews h1 h63 hbytes hbase
  unfold Oper.wp execOp
  simp only [ho, resolve, invoke, builtin, Sem.run_bind, Sem.run_pure, Result.andThen_ok, List.map_toArray, List.map_cons, List.map_nil, hs, hx, hr]
  exact h v' w' h2 h3 h5

theorem buildS2 (y0 y1 : E4) (w : World) : (Instr.buildSlice 23 2 #[(0, Value.agg #[.int .u64 y0.x0, .int .u64 y0.x1, .int .u64 y0.x2, .int .u64 y0.x3]), (1, Value.agg #[.int .u64 y1.x0, .int .u64 y1.x1, .int .u64 y1.x2, .int .u64 y1.x3])]).run Tryd.prog w = .ok (.slice (some ⟨w.heap.size, 0, none⟩) 2 2) (w.alloc (.cells #[.int .u64 y0.x0, .int .u64 y0.x1, .int .u64 y0.x2, .int .u64 y0.x3, .int .u64 y1.x0, .int .u64 y1.x1, .int .u64 y1.x2, .int .u64 y1.x3] 26)) := by kernel_rfl
theorem wp_buildS2 {w : World} {o : Oper} {a : Act} {K : Act → World → Prop} {Q : Exit → Act → World → Prop} (x0 x1 : Operand) (ho : o.op = .buildSlice 23 2 #[(0, x0), (1, x1)]) (y0 y1 : E4) (h0 : a.eval x0 = Value.agg #[.int .u64 y0.x0, .int .u64 y0.x1, .int .u64 y0.x2, .int .u64 y0.x3]) (h1 : a.eval x1 = Value.agg #[.int .u64 y1.x0, .int .u64 y1.x1, .int .u64 y1.x2, .int .u64 y1.x3])
    (h : K (a.put o.dst (.slice (some ⟨w.heap.size, 0, none⟩) 2 2)) (w.alloc (.cells #[.int .u64 y0.x0, .int .u64 y0.x1, .int .u64 y0.x2, .int .u64 y0.x3, .int .u64 y1.x0, .int .u64 y1.x1, .int .u64 y1.x2, .int .u64 y1.x3] 26))) : o.wp Tryd.prog a w K Q := by
  have hb := buildS2 y0 y1 w
  unfold Oper.wp execOp
  simp only [ho, Sem.run_bind, Sem.run_pure, Result.andThen_ok, List.map_toArray, List.map_cons, List.map_nil, h0, h1, hb]
  exact h

def wt10o : Array Oper := #[{ dst := some 31, op := Op.move (Operand.tmp 7), type := 23, pos := "terms.go:30", after := #[], guard := none },
  { dst := some 32, op := Op.load 26 (Operand.tmp 9), type := 26, pos := "terms.go:30", after := #[], guard := none },
  { dst := some 33, op := Op.move (Operand.tmp 3), type := 23, pos := "terms.go:30", after := #[], guard := none },
  { dst := some 34, op := Op.move (Operand.tmp 5), type := 3, pos := "terms.go:30", after := #[], guard := none },
  { dst := some 35, op := Op.indexAddr 23 (Operand.tmp 33) (Operand.tmp 34), type := 0, pos := "terms.go:30", after := #[{ on := 2, ground := Ground.data }, { on := 3, ground := Ground.data }], guard := none },
  { dst := some 36, op := Op.load 26 (Operand.tmp 35), type := 26, pos := "terms.go:30", after := #[{ on := 4, ground := Ground.data }], guard := none },
  { dst := some 37, op := Op.call { callee := Callee.value (Operand.func 11), args := #[Operand.tmp 32, Operand.tmp 36], argTypes := #[26, 26] }, type := 26, pos := "terms.go:30", after := #[{ on := 1, ground := Ground.data }, { on := 5, ground := Ground.data }], guard := none },
  { dst := some 38, op := Op.load 26 (Operand.tmp 9), type := 26, pos := "terms.go:30", after := #[], guard := none },
  { dst := some 39, op := Op.load 26 (Operand.tmp 6), type := 26, pos := "terms.go:30", after := #[], guard := none },
  { dst := some 40, op := Op.call { callee := Callee.value (Operand.func 11), args := #[Operand.tmp 38, Operand.tmp 39], argTypes := #[26, 26] }, type := 26, pos := "terms.go:30", after := #[{ on := 7, ground := Ground.data }, { on := 8, ground := Ground.data }, { on := 6, ground := Ground.chain }], guard := none },
  { dst := some 41, op := Op.buildSlice 23 2 #[(0, Operand.tmp 37), (1, Operand.tmp 40)], type := 23, pos := "terms.go:30", after := #[{ on := 6, ground := Ground.data }, { on := 9, ground := Ground.data }], guard := none },
  { dst := some 42, op := Op.call { callee := Callee.builtin Builtin.append, args := #[Operand.tmp 31, Operand.tmp 41], argTypes := #[23, 23] }, type := 23, pos := "terms.go:30", after := #[{ on := 0, ground := Ground.data }, { on := 10, ground := Ground.data }, { on := 9, ground := Ground.chain }], guard := none },
  { dst := some 7, op := Op.assign (Operand.tmp 42), type := 23, pos := "terms.go:30", after := #[{ on := 11, ground := Ground.data }, { on := 11, ground := Ground.chain }, { on := 0, ground := Ground.phase }, { on := 1, ground := Ground.phase }, { on := 2, ground := Ground.phase }, { on := 3, ground := Ground.phase }, { on := 4, ground := Ground.phase }, { on := 5, ground := Ground.phase }, { on := 6, ground := Ground.phase }, { on := 7, ground := Ground.phase }, { on := 8, ground := Ground.phase }, { on := 9, ground := Ground.phase }, { on := 10, ground := Ground.phase }, { on := 11, ground := Ground.phase }], guard := none }]
set_option maxRecDepth 100000 in
set_option maxHeartbeats 16000000 in
theorem wt10 (Q : Exit → Act → World → Prop) (V : Value) (xs : List Value) (B n : Nat) (b3 n3 c3 t T6 T9 : Nat) (z u v r1 r2 : E4) (u0 u1 u2 u4 u8 u10 u11 u12 u13 u14 u15 u16 u17 u18 u19 u20 u21 u22 u23 u24 u25 u26 u27 u28 u29 u30 u31 u32 u33 u34 u35 u36 u37 u38 u39 u40 u41 u42 u43 u44 u45 u46 : Value) (W : World) (hown : W.ownsRow B 26 4 V n xs) (hn : n ≤ 1048576) (hB : B ≤ W.heap.size)
    (k0 : (0 : Int) ≤ (t : Int)) (k1 : (t : Int) < (n3 : Int)) (n9 : some T9 ≠ V.ownBlock) (n6 : some T6 ≠ V.ownBlock) (m3 : some b3 ≠ V.ownBlock)
    (hz0 : W.cell? ⟨T9, 0, none⟩ = some (.int .u64 z.x0)) (hz1 : W.cell? ⟨T9, 1, none⟩ = some (.int .u64 z.x1)) (hz2 : W.cell? ⟨T9, 2, none⟩ = some (.int .u64 z.x2)) (hz3 : W.cell? ⟨T9, 3, none⟩ = some (.int .u64 z.x3))
    (hu0 : W.cell? ⟨T6, 0, none⟩ = some (.int .u64 u.x0)) (hu1 : W.cell? ⟨T6, 1, none⟩ = some (.int .u64 u.x1)) (hu2 : W.cell? ⟨T6, 2, none⟩ = some (.int .u64 u.x2)) (hu3 : W.cell? ⟨T6, 3, none⟩ = some (.int .u64 u.x3))
    (hv0 : W.cell? ⟨b3, t * 4, none⟩ = some (.int .u64 v.x0)) (hv1 : W.cell? ⟨b3, t * 4 + 1, none⟩ = some (.int .u64 v.x1)) (hv2 : W.cell? ⟨b3, t * 4 + 2, none⟩ = some (.int .u64 v.x2)) (hv3 : W.cell? ⟨b3, t * 4 + 3, none⟩ = some (.int .u64 v.x3))
    (C1 : Hid (∀ x, W.grownBy x V.ownBlock → Calls Tryd.prog 11 #[.agg #[.int .u64 z.x0, .int .u64 z.x1, .int .u64 z.x2, .int .u64 z.x3], .agg #[.int .u64 v.x0, .int .u64 v.x1, .int .u64 v.x2, .int .u64 v.x3]] x fun e w' => e = .returned (.agg #[.int .u64 r1.x0, .int .u64 r1.x1, .int .u64 r1.x2, .int .u64 r1.x3]) ∧ Below x.heap.size x w'))
    (C2 : Hid (∀ x, W.grownBy x V.ownBlock → Calls Tryd.prog 11 #[.agg #[.int .u64 z.x0, .int .u64 z.x1, .int .u64 z.x2, .int .u64 z.x3], .agg #[.int .u64 u.x0, .int .u64 u.x1, .int .u64 u.x2, .int .u64 u.x3]] x fun e w' => e = .returned (.agg #[.int .u64 r2.x0, .int .u64 r2.x1, .int .u64 r2.x2, .int .u64 r2.x3]) ∧ Below x.heap.size x w'))
    (HQ : Hid (∀ (xb v' : Value) (wz : World), wz.ownsRow B 26 4 v' (n + 2) (xs ++ [.int .u64 r1.x0, .int .u64 r1.x1, .int .u64 r1.x2, .int .u64 r1.x3, .int .u64 r2.x0, .int .u64 r2.x1, .int .u64 r2.x2, .int .u64 r2.x3]) → W.grownBy wz V.ownBlock → Q .normal ⟨#[u0, u1, u2, .slice (some ⟨b3, 0, none⟩) n3 c3, u4, .int .i64 (t : Int), .pointer (some ⟨T6, 0, none⟩), v', u8, .pointer (some ⟨T9, 0, none⟩), u10, u11, u12, u13, u14, u15, u16, u17, u18, u19, u20, u21, u22, u23, u24, u25, u26, u27, u28, u29, u30, V, .agg #[.int .u64 z.x0, .int .u64 z.x1, .int .u64 z.x2, .int .u64 z.x3], .slice (some ⟨b3, 0, none⟩) n3 c3, .int .i64 (t : Int), .pointer (some ⟨b3, t * 4, none⟩), .agg #[.int .u64 v.x0, .int .u64 v.x1, .int .u64 v.x2, .int .u64 v.x3], .agg #[.int .u64 r1.x0, .int .u64 r1.x1, .int .u64 r1.x2, .int .u64 r1.x3], .agg #[.int .u64 z.x0, .int .u64 z.x1, .int .u64 z.x2, .int .u64 z.x3], .agg #[.int .u64 u.x0, .int .u64 u.x1, .int .u64 u.x2, .int .u64 u.x3], .agg #[.int .u64 r2.x0, .int .u64 r2.x1, .int .u64 r2.x2, .int .u64 r2.x3], xb, v', u43, u44, u45, u46], []⟩ wz)) : (Code.region 10 wt10o true).wp Tryd.prog Q ⟨#[u0, u1, u2, .slice (some ⟨b3, 0, none⟩) n3 c3, u4, .int .i64 (t : Int), .pointer (some ⟨T6, 0, none⟩), V, u8, .pointer (some ⟨T9, 0, none⟩), u10, u11, u12, u13, u14, u15, u16, u17, u18, u19, u20, u21, u22, u23, u24, u25, u26, u27, u28, u29, u30, u31, u32, u33, u34, u35, u36, u37, u38, u39, u40, u41, u42, u43, u44, u45, u46], []⟩ W := by
  have HU : Hid (Tryd.prog.underlying 23 = some (.slice 26)) := hidden (by kernel_rfl)
  obtain ⟨i0, hi, hz0, hz1, hz2⟩ := info_parts sinfo
  have HI := hidden hi
  have HZ0 := hidden hz0
  have HZ1 := hidden hz1
  have HZ2 := hidden hz2
  have HO := hidden hown
  have HBN : Hid (B ≤ W.heap.size ∧ n ≤ 1048576) := hidden ⟨hB, hn⟩
  clear hi hz0 hz1 hz2 hown hB hn
  unfold wt10o
  have OW := hidden (HO.out.drew)
  refine wp_region_noPanic ?_
  refine wp_region_held_drew (S := fun x => W.grownBy x V.ownBlock) (by kernel_rfl) (gbI (drew_blS W) _) (fun hHeld => ?_)
  refine wpAnyH_take (i := 0) (oi := { dst := some 31, op := Op.move (Operand.tmp 7), type := 23, pos := "terms.go:30", after := #[], guard := none }) (v := V) rfl (by kernel_rfl) (by kernel_rfl) (by kernel_rfl) (fun _ _ _ h => h) (Or.inl ⟨by rfl, fun w0 hSw => ?_⟩) hHeld ?_
  · (clear hSw; go_simp)
  simp only [Act.put, List.setIfInBounds_toArray, List.set_cons_zero, List.set_cons_succ]
  refine wpAnyH_take (i := 1) (oi := { dst := some 32, op := Op.load 26 (Operand.tmp 9), type := 26, pos := "terms.go:30", after := #[], guard := none }) (v := .agg #[.int .u64 z.x0, .int .u64 z.x1, .int .u64 z.x2, .int .u64 z.x3]) rfl (by kernel_rfl) (by kernel_rfl) (by kernel_rfl) (fun _ _ _ h => h) (Or.inl ⟨by rfl, fun w0 hSw => ?_⟩) hHeld ?_
  · (have hS : W.grownBy w0 V.ownBlock := hSw; have a0 := hS.cell hz0 n9; have a1 := hS.cell hz1 n9; have a2 := hS.cell hz2 n9; have a3 := hS.cell hz3 n9; clear hS hSw; go_simp)
  simp only [Act.put, List.setIfInBounds_toArray, List.set_cons_zero, List.set_cons_succ]
  refine wpAnyH_take (i := 2) (oi := { dst := some 33, op := Op.move (Operand.tmp 3), type := 23, pos := "terms.go:30", after := #[], guard := none }) (v := .slice (some ⟨b3, 0, none⟩) n3 c3) rfl (by kernel_rfl) (by kernel_rfl) (by kernel_rfl) (fun _ _ _ h => h) (Or.inl ⟨by rfl, fun w0 hSw => ?_⟩) hHeld ?_
  · (clear hSw; go_simp)
  simp only [Act.put, List.setIfInBounds_toArray, List.set_cons_zero, List.set_cons_succ]
  refine wpAnyH_take (i := 3) (oi := { dst := some 34, op := Op.move (Operand.tmp 5), type := 3, pos := "terms.go:30", after := #[], guard := none }) (v := .int .i64 (t : Int)) rfl (by kernel_rfl) (by kernel_rfl) (by kernel_rfl) (fun _ _ _ h => h) (Or.inl ⟨by rfl, fun w0 hSw => ?_⟩) hHeld ?_
  · (clear hSw; go_simp)
  simp only [Act.put, List.setIfInBounds_toArray, List.set_cons_zero, List.set_cons_succ]
  refine wpAnyH_take (i := 4) (oi := { dst := some 35, op := Op.indexAddr 23 (Operand.tmp 33) (Operand.tmp 34), type := 0, pos := "terms.go:30", after := #[{ on := 2, ground := Ground.data }, { on := 3, ground := Ground.data }], guard := none }) (v := .pointer (some ⟨b3, t * 4, none⟩)) rfl (by kernel_rfl) (by kernel_rfl) (by kernel_rfl) (fun _ _ _ h => h) (Or.inl ⟨by rfl, fun w0 hSw => ?_⟩) hHeld ?_
  · (clear hSw; go_simp)
  simp only [Act.put, List.setIfInBounds_toArray, List.set_cons_zero, List.set_cons_succ]
  refine wpAnyH_take (i := 5) (oi := { dst := some 36, op := Op.load 26 (Operand.tmp 35), type := 26, pos := "terms.go:30", after := #[{ on := 4, ground := Ground.data }], guard := none }) (v := .agg #[.int .u64 v.x0, .int .u64 v.x1, .int .u64 v.x2, .int .u64 v.x3]) rfl (by kernel_rfl) (by kernel_rfl) (by kernel_rfl) (fun _ _ _ h => h) (Or.inl ⟨by rfl, fun w0 hSw => ?_⟩) hHeld ?_
  · (have hS : W.grownBy w0 V.ownBlock := hSw; have a0 := hS.cell hv0 m3; have a1 := hS.cell hv1 m3; have a2 := hS.cell hv2 m3; have a3 := hS.cell hv3 m3; clear hS hSw; go_simp)
  simp only [Act.put, List.setIfInBounds_toArray, List.set_cons_zero, List.set_cons_succ]
  refine wpAnyH_take (i := 7) (oi := { dst := some 38, op := Op.load 26 (Operand.tmp 9), type := 26, pos := "terms.go:30", after := #[], guard := none }) (v := .agg #[.int .u64 z.x0, .int .u64 z.x1, .int .u64 z.x2, .int .u64 z.x3]) rfl (by kernel_rfl) (by kernel_rfl) (by kernel_rfl) (fun _ _ _ h => h) (Or.inl ⟨by rfl, fun w0 hSw => ?_⟩) hHeld ?_
  · (have hS : W.grownBy w0 V.ownBlock := hSw; have a0 := hS.cell hz0 n9; have a1 := hS.cell hz1 n9; have a2 := hS.cell hz2 n9; have a3 := hS.cell hz3 n9; clear hS hSw; go_simp)
  simp only [Act.put, List.setIfInBounds_toArray, List.set_cons_zero, List.set_cons_succ]
  refine wpAnyH_take (i := 8) (oi := { dst := some 39, op := Op.load 26 (Operand.tmp 6), type := 26, pos := "terms.go:30", after := #[], guard := none }) (v := .agg #[.int .u64 u.x0, .int .u64 u.x1, .int .u64 u.x2, .int .u64 u.x3]) rfl (by kernel_rfl) (by kernel_rfl) (by kernel_rfl) (fun _ _ _ h => h) (Or.inl ⟨by rfl, fun w0 hSw => ?_⟩) hHeld ?_
  · (have hS : W.grownBy w0 V.ownBlock := hSw; have a0 := hS.cell hu0 n6; have a1 := hS.cell hu1 n6; have a2 := hS.cell hu2 n6; have a3 := hS.cell hu3 n6; clear hS hSw; go_simp)
  simp only [Act.put, List.setIfInBounds_toArray, List.set_cons_zero, List.set_cons_succ]
  refine wpAnyH_ready (rs := [6]) (by kernel_rfl) (by simp) ?_
  refine AllReadyH.cons (o := { dst := some 37, op := Op.call { callee := Callee.value (Operand.func 11), args := #[Operand.tmp 32, Operand.tmp 36], argTypes := #[26, 26] }, type := 26, pos := "terms.go:30", after := #[{ on := 1, ground := Ground.data }, { on := 5, ground := Ground.data }], guard := none }) rfl (fun K hK => ?_) AllReadyH.nil
  have HH := hidden hHeld
  clear hHeld
  go_simp
  refine (C1.out _ HH.out).mono ?_
  rintro e wn1 ⟨rfl, hb⟩
  replace OW := hidden (own_keepI OW.out hb)
  have SN := hidden (HH.out.trans (gbI hb _))
  clear HH hb C1
  go_wp2_with fail
  refine hK.out _ _ SN.out (fun hHeld1 => ?_)
  clear hK K SN
  refine wpAnyH_ready (rs := [9]) (by kernel_rfl) (by simp) ?_
  refine AllReadyH.cons (o := { dst := some 40, op := Op.call { callee := Callee.value (Operand.func 11), args := #[Operand.tmp 38, Operand.tmp 39], argTypes := #[26, 26] }, type := 26, pos := "terms.go:30", after := #[{ on := 7, ground := Ground.data }, { on := 8, ground := Ground.data }, { on := 6, ground := Ground.chain }], guard := none }) rfl (fun K hK => ?_) AllReadyH.nil
  have HH := hidden hHeld1
  clear hHeld1
  go_simp
  refine (C2.out _ HH.out).mono ?_
  rintro e wn2 ⟨rfl, hb⟩
  replace OW := hidden (own_keepI OW.out hb)
  have SN := hidden (HH.out.trans (gbI hb _))
  clear HH hb C2
  go_wp2_with fail
  refine hK.out _ _ SN.out (fun hHeld2 => ?_)
  clear hK K SN
  refine wpAnyH_ready (rs := [10]) (by kernel_rfl) (by simp) ?_
  refine AllReadyH.cons (o := { dst := some 41, op := Op.buildSlice 23 2 #[(0, Operand.tmp 37), (1, Operand.tmp 40)], type := 23, pos := "terms.go:30", after := #[{ on := 6, ground := Ground.data }, { on := 9, ground := Ground.data }], guard := none }) rfl (fun K hK => ?_) AllReadyH.nil
  have HH := hidden hHeld2
  clear hHeld2
  refine wp_buildS2 _ _ rfl r1 r2 rfl rfl ?_
  have H2 := hidden (show W.grownBy (wn2.alloc (.cells #[.int .u64 r1.x0, .int .u64 r1.x1, .int .u64 r1.x2, .int .u64 r1.x3, .int .u64 r2.x0, .int .u64 r2.x1, .int .u64 r2.x2, .int .u64 r2.x3] 26)) V.ownBlock from World.grownBy.trans HH.out (World.grownBy_alloc wn2 _ _))
  replace OW := hidden (OW.out.alloc (.cells #[.int .u64 r1.x0, .int .u64 r1.x1, .int .u64 r1.x2, .int .u64 r1.x3, .int .u64 r2.x0, .int .u64 r2.x1, .int .u64 r2.x2, .int .u64 r2.x3] 26))
  have CN := hidden (cells_new wn2 [.int .u64 r1.x0, .int .u64 r1.x1, .int .u64 r1.x2, .int .u64 r1.x3, .int .u64 r2.x0, .int .u64 r2.x1, .int .u64 r2.x2, .int .u64 r2.x3] 26)
  have ON : Hid (∀ u ∈ ([.int .u64 r1.x0, .int .u64 r1.x1, .int .u64 r1.x2, .int .u64 r1.x3, .int .u64 r2.x0, .int .u64 r2.x1, .int .u64 r2.x2, .int .u64 r2.x3] : List Value), u.oneCell' = true) := hidden (by simp [Value.oneCell'])
  refine hK.out _ _ H2.out (fun hHb => ?_)
  clear hK K HH
  simp only [Act.put, List.setIfInBounds_toArray, List.set_cons_zero, List.set_cons_succ]
  refine wpAnyH_ready (rs := [11]) (by kernel_rfl) (by simp) ?_
  refine AllReadyH.cons (o := { dst := some 42, op := Op.call { callee := Callee.builtin Builtin.append, args := #[Operand.tmp 31, Operand.tmp 41], argTypes := #[23, 23] }, type := 23, pos := "terms.go:30", after := #[{ on := 0, ground := Ground.data }, { on := 10, ground := Ground.data }, { on := 9, ground := Ground.chain }], guard := none }) rfl (fun K hK => ?_) AllReadyH.nil
  clear hHb
  refine wp_appendI (.tmp 31) (.tmp 41) 23 rfl B 26 i0 (.agg #[.int .u64 0, .int .u64 0, .int .u64 0, .int .u64 0]) 4 32 HU.out HI.out HZ0.out HZ1.out HZ2.out rfl (by decide) V n xs rfl OW.out ⟨wn2.heap.size, 0, none⟩ 2 2 [.int .u64 r1.x0, .int .u64 r1.x1, .int .u64 r1.x2, .int .u64 r1.x3, .int .u64 r2.x0, .int .u64 r2.x1, .int .u64 r2.x2, .int .u64 r2.x3] rfl rfl CN.out ON.out (by have := HBN.out.2; unfold maxLen; omega) (by have := HBN.out.2; omega) (Nat.le_trans HBN.out.1 H2.out.size) ?_
  intro va wa hoa hga _
  have H3 := hidden (H2.out.trans hga)
  have OA := hidden hoa
  clear hoa hga OW H2 CN ON
  refine hK.out _ _ H3.out (fun hHa => ?_)
  clear hK K
  simp only [Act.put, List.setIfInBounds_toArray, List.set_cons_zero, List.set_cons_succ]
  refine wpAnyH_take (i := 12) (oi := { dst := some 7, op := Op.assign (Operand.tmp 42), type := 23, pos := "terms.go:30", after := #[{ on := 11, ground := Ground.data }, { on := 11, ground := Ground.chain }, { on := 0, ground := Ground.phase }, { on := 1, ground := Ground.phase }, { on := 2, ground := Ground.phase }, { on := 3, ground := Ground.phase }, { on := 4, ground := Ground.phase }, { on := 5, ground := Ground.phase }, { on := 6, ground := Ground.phase }, { on := 7, ground := Ground.phase }, { on := 8, ground := Ground.phase }, { on := 9, ground := Ground.phase }, { on := 10, ground := Ground.phase }, { on := 11, ground := Ground.phase }], guard := none }) (v := va) rfl (by kernel_rfl) (by kernel_rfl) (by kernel_rfl) (fun _ _ _ h => h) (Or.inl ⟨by rfl, fun w0 hSw => ?_⟩) hHa ?_
  · (clear hSw; go_simp)
  simp only [Act.put, List.setIfInBounds_toArray, List.set_cons_zero, List.set_cons_succ]
  refine wpAnyH_done (by kernel_rfl) ?_ _
  refine NoPanic.normal ?_
  exact HQ.out _ _ _ OA.out H3.out
end Go.Proofs.YtoaobkmddbilhaaDoor
namespace Go.Proofs.YtoaobkmddbilhaaDoor
open Go.RowKit
set_option linter.unusedVariables false
/-- the weights of n rounds, as scalars -/
def ws (a : Nat → Int) (n i : Nat) : E4 := lst (wt a 0 n i)
theorem ws_even (a : Nat → Int) (t k : Nat) : lst ((ws a t k).n * (iv (a t)).n) = ws a (t + 1) (2 * k) := by
  unfold ws iv
  rw [lst_mul, lst_mul', wt_succ, show 2 * k / 2 = k by omega, show 2 * k % 2 = 0 by omega, Nat.zero_add]
  rfl
theorem ws_odd (a : Nat → Int) (t k : Nat) : lst ((ws a t k).n * a t) = ws a (t + 1) (2 * k + 1) := by
  unfold ws
  rw [lst_mul, wt_succ, show (2 * k + 1) / 2 = k by omega, show (2 * k + 1) % 2 = 1 by omega, Nat.zero_add]
  rfl
theorem step_ws {w : World} {B k : Nat} {v : Value} {a : Nat → Int} {t : Nat} {r1 r2 : E4} (h1 : r1 = ws a (t + 1) (2 * k)) (h2 : r2 = ws a (t + 1) (2 * k + 1)) (h : w.ownsRow B 26 4 v (2 * k + 2) (svs (2 * k) (ws a (t + 1)) ++ [.int .u64 r1.x0, .int .u64 r1.x1, .int .u64 r1.x2, .int .u64 r1.x3, .int .u64 r2.x0, .int .u64 r2.x1, .int .u64 r2.x2, .int .u64 r2.x3])) : w.ownsRow B 26 4 v (2 * (k + 1)) (svs (2 * (k + 1)) (ws a (t + 1))) := by
  subst h1 h2
  rw [show 2 * (k + 1) = 2 * k + 1 + 1 by omega, svs_succ, svs_succ, List.append_assoc]
  exact h
set_option maxRecDepth 100000 in
set_option maxHeartbeats 16000000 in
theorem weights_any (b n c : Nat) (g : Nat → E4) (w : World) (hT : Tb w) (hn : n ≤ 10) (hg : ∀ k, k < n → (g k).ok) (hR : Rws w b n g) :
    Calls Tryd.prog 30 #[.slice (some ⟨b, 0, none⟩) n c] w fun e w' => ∃ bl cl : Nat, e = .returned (.slice (some ⟨bl, 0, none⟩) (2 ^ n) cl) ∧ Rws w' bl (2 ^ n) (ws (fun k => (g k).n) n) ∧ Below w.heap.size w w' := by
  have IA := hidden (InvertAll_any b n c g w hT (by omega) hg hR)
  have HT := hidden hT
  have HR := hidden hR
  have HG := hidden hg
  have HN := hidden hn
  obtain ⟨a, ha⟩ : ∃ a : Nat → Int, (fun k => (g k).n) = a := ⟨_, rfl⟩
  have ha' : ∀ k, (g k).n = a k := fun k => congrFun ha k
  simp only [ha'] at IA
  rw [ha]
  have HA := hidden ha'
  have nn0 : (0 : Int) ≤ (n : Int) := by omega
  have IT := hidden (fun w => fix (Int_any 1 w (by unfold Sm.Wd; omega)) (show lst 1 = ws a 0 0 from rfl))
  simp only [E4.v] at IT
  obtain ⟨i0, hi, hz0, hz1, hz2⟩ := info_parts sinfo
  have HI := hidden hi
  have HZ0 := hidden hz0
  have HZ1 := hidden hz1
  have HZ2 := hidden hz2
  clear hT hR hg hn hi hz0 hz1 hz2 ha ha'
  go_enter Tryd.func30, Tryd.ntmps30
  go_upto_region 2 with (first | (go_at_call 52; refine (IA.out).mono ?_; rintro e w1 ⟨b3, rfl, hb3, hr3, hb1⟩; have R3 := hidden hr3; have B1 := hidden hb1; clear hb3 hr3 hb1))
  clear IA
  go_cut [4] (fun vx wx => ∃ bl : Nat, vx = .slice (some ⟨bl, 0, none⟩) 1 1 ∧ Rws wx bl 1 (ws a 0) ∧ Below w1.heap.size w1 wx)
  case first =>
    go_wp2_with fail
    refine (IT.out _).mono ?_
    rintro e w2 ⟨rfl, hb2⟩
    have R0 := hidden ((Rws.one w2 (ws a 0 0) 26).congr (f := ws a 0) (fun k hk => by rw [show k = 0 by omega]))
    have B0 := hidden (bl_trans hb2 (bl_alloc w2 (.cells #[.int .u64 (ws a 0 0).x0, .int .u64 (ws a 0 0).x1, .int .u64 (ws a 0 0).x2, .int .u64 (ws a 0 0).x3] 26)))
    clear hb2 IT
    generalize ws a 0 0 = q at *
    go_wp2_with fail
    go_meet
    exact ⟨_, rfl, R0.out, B0.out⟩
  case rest =>
  obtain ⟨bl0, rfl, r0, b0⟩ := hcut
  have R0 := hidden r0
  have B0 := hidden (bl_trans B1.out b0)
  replace R3 := hidden (R3.out.keep b0)
  clear r0 b0 B1 IT
  generalize wc = w2 at *
  clear w1
  go_wp2_with fail
  go_loopw [4, 16] (fun lv iv' w' => ∃ t M bl cl : Nat, t ≤ n ∧ M = 2 ^ t ∧ iv' = .int .i64 t ∧ lv = .slice (some ⟨bl, 0, none⟩) M cl ∧ Hid (Rws w' bl M (ws a t)) ∧ Hid (Below w2.heap.size w2 w')) (fun _ i _ => n - (intOf i).toNat)
  case atStart => exact ⟨0, 1, bl0, 1, by omega, rfl, rfl, rfl, R0, hidden (Below.refl _ _)⟩
  case round =>
    clear R0
    obtain ⟨t, M, bl, cl, ht, hM, rfl, rfl, hRl, hB⟩ := hrel
    by_cases htn : t < n
    · have k0 : (0 : Int) ≤ (t : Int) := by omega
      have k1 : (t : Int) < (n : Int) := by omega
      have hM1 : M ≤ 512 := by
        rw [hM]
        exact Nat.le_trans (Nat.pow_le_pow_right (by omega) (show t ≤ 9 by have := HN.out; omega)) (by decide)
      have w9 : IntKind.i64.wrap ((t : Int) + 1) = (t : Int) + 1 := IntWalk.i64_in _ (by have := HN.out; omega)
      have m9 : IntKind.i64.wrap (2 * (M : Int)) = 2 * (M : Int) := IntWalk.i64_in _ (by omega)
      have mm0 : (0 : Int) ≤ (M : Int) := by omega
      have bw := bl_trans B0.out hB.out
      have rx := HR.out.keep bw
      have x0 := rx.c0 t htn
      have x1 := rx.c1 t htn
      have x2 := rx.c2 t htn
      have x3 := rx.c3 t htn
      have zok := HG.out t htn
      have zn := HA.out t
      generalize g t = u at x0 x1 x2 x3 zok zn
      have BU := hidden (Blc.new wr u 26)
      have BA := hidden (bl_alloc wr (.cells #[.int .u64 u.x0, .int .u64 u.x1, .int .u64 u.x2, .int .u64 u.x3] 26))
      have RL := hidden (hRl.out.keep BA.out)
      have R4 := hidden ((R3.out.keep hB.out).keep BA.out)
      have B5 := hidden (bl_trans hB.out BA.out)
      have ZK := hidden zok
      have ZN := hidden zn
      have HM := hidden hM
      have HM1 := hidden hM1
      clear rx hRl hB bw BA zok zn hM hM1
      go_upto_region 6 with fail
      generalize wr.alloc (.cells #[.int .u64 u.x0, .int .u64 u.x1, .int .u64 u.x2, .int .u64 u.x3] 26) = w5 at *
      clear x0 x1 x2 x3
      generalize wr.heap.size = T6 at *
      clear wr
      have MK := run_make_own (P := Tryd.prog) w5 w5.heap.size 23 26 i0 (.agg #[.int .u64 0, .int .u64 0, .int .u64 0, .int .u64 0]) 4 (by kernel_rfl) HI.out HZ0.out HZ1.out .i64 .i64 (2 * M) (by rw [HZ2.out]; have := HM1.out; omega) (by unfold maxLen; have := HM1.out; omega) (Nat.le_refl _)
      obtain ⟨w6, hmk, ho6, hg6⟩ := MK
      rw [show ((2 * M : Nat) : Int) = 2 * (M : Int) by omega] at hmk
      have B6 := hidden (below_growI (B := w5.heap.size) hg6 (Nat.le_refl _) (fun k h => by cases h))
      have O6 := hidden ho6
      clear ho6 hg6
      go_wp2_with fail
      clear hmk m9
      go_loopw [7, 27] (fun v iv' w' => ∃ k : Nat, k ≤ M ∧ iv' = .int .i64 k ∧ Hid (w'.ownsRow w5.heap.size 26 4 v (2 * k) (svs (2 * k) (ws a (t + 1)))) ∧ Hid (Below w5.heap.size w5 w')) (fun _ i _ => M - (intOf i).toNat)
      case atStart => exact ⟨0, by omega, rfl, hidden O6.out, B6⟩
      case round =>
        clear O6 B6
        obtain ⟨k, hk, rfl, hO, hB⟩ := hrel
        by_cases hkm : k < M
        · have q0 : (0 : Int) ≤ (k : Int) := by omega
          have q1 : (k : Int) < (M : Int) := by omega
          have w8 : IntKind.i64.wrap ((k : Int) + 1) = (k : Int) + 1 := IntWalk.i64_in _ (by have := HM1.out; omega)
          have rl := RL.out.keep hB.out
          have y0 := rl.c0 k hkm
          have y1 := rl.c1 k hkm
          have y2 := rl.c2 k hkm
          have y3 := rl.c3 k hkm
          obtain ⟨z, hz⟩ : ∃ z, ws a t k = z := ⟨_, rfl⟩
          rw [hz] at y0 y1 y2 y3
          have zok : z.ok := by rw [← hz]; exact lst_ok _
          have BZ := hidden (Blc.new wr z 26)
          have BA := hidden (bl_alloc wr (.cells #[.int .u64 z.x0, .int .u64 z.x1, .int .u64 z.x2, .int .u64 z.x3] 26))
          have B7 := hidden (bl_trans hB.out BA.out)
          have n9 : some wr.heap.size ≠ u7.ownBlock := fun e => by have := hO.out.lt _ e.symm; omega
          have O7 := hidden (own_keepI hO.out BA.out)
          have HE := hidden hz
          have S5 := hidden (hB.out.size)
          clear rl hO hB hz BA
          go_upto_region 10 with fail
          generalize wr.alloc (.cells #[.int .u64 z.x0, .int .u64 z.x1, .int .u64 z.x2, .int .u64 z.x3] 26) = w7 at *
          clear y0 y1 y2 y3
          generalize wr.heap.size = T9 at *
          clear wr
          have lt5 : ∀ x, u7.ownBlock = some x → w5.heap.size ≤ x := fun x h => (O7.out.lt x h).1
          have bu := BU.out
          have n6 : some T6 ≠ u7.ownBlock := fun e => by have := lt5 _ e.symm; have := bu.lt; omega
          have n3 : some b3 ≠ u7.ownBlock := fun e => by have := lt5 _ e.symm; have := R4.out.lt; omega
          have r4 := R4.out
          have v0 := cell_keep (r4.c0 t htn) B7.out
          have v1 := cell_keep (r4.c1 t htn) B7.out
          have v2 := cell_keep (r4.c2 t htn) B7.out
          have v3 := cell_keep (r4.c3 t htn) B7.out
          obtain ⟨v, hv⟩ : ∃ v, iv (a t) = v := ⟨_, rfl⟩
          simp only [hv] at v0 v1 v2 v3
          obtain ⟨r1, hr1⟩ : ∃ r, lst (z.n * v.n) = r := ⟨_, rfl⟩
          obtain ⟨r2, hr2⟩ : ∃ r, lst (z.n * u.n) = r := ⟨_, rfl⟩
          have vok : v.ok := by rw [← hv]; exact lst_ok _
          have hs7 := B7.out.size
          have TT : ∀ x, w7.grownBy x u7.ownBlock → Tb x := fun x h => ((HT.out.keep B0.out).keep B5.out).keep (below_transI B7.out (below_growI h hs7 lt5))
          have C1 : Hid (∀ x, w7.grownBy x u7.ownBlock → Calls Tryd.prog 11 #[.agg #[.int .u64 z.x0, .int .u64 z.x1, .int .u64 z.x2, .int .u64 z.x3], .agg #[.int .u64 v.x0, .int .u64 v.x1, .int .u64 v.x2, .int .u64 v.x3]] x fun e w' => e = .returned (.agg #[.int .u64 r1.x0, .int .u64 r1.x1, .int .u64 r1.x2, .int .u64 r1.x3]) ∧ Below x.heap.size x w') := hidden (fun x h => fix (Mul_any z v x (TT x h) zok vok) hr1)
          have C2 : Hid (∀ x, w7.grownBy x u7.ownBlock → Calls Tryd.prog 11 #[.agg #[.int .u64 z.x0, .int .u64 z.x1, .int .u64 z.x2, .int .u64 z.x3], .agg #[.int .u64 u.x0, .int .u64 u.x1, .int .u64 u.x2, .int .u64 u.x3]] x fun e w' => e = .returned (.agg #[.int .u64 r2.x0, .int .u64 r2.x1, .int .u64 r2.x2, .int .u64 r2.x3]) ∧ Below x.heap.size x w') := hidden (fun x h => fix (Mul_any z u x (TT x h) zok ZK.out) hr2)
          have bz := BZ.out
          have hsb : w5.heap.size ≤ w7.heap.size := hs7
          have E1 : Hid (r1 = ws a (t + 1) (2 * k)) := hidden (by rw [← hr1, ← hv, ← HE.out]; exact ws_even a t k)
          have E2 : Hid (r2 = ws a (t + 1) (2 * k + 1)) := hidden (by rw [← hr2, ZN.out, ← HE.out]; exact ws_odd a t k)
          have LT := hidden lt5
          clear hr1 hr2 hv r4 lt5 TT vok
          refine wt10 _ u7 _ w5.heap.size (2 * k) b3 n n t T6 T9 z u v r1 r2 _ _ _ _ _ _ _ _ _ _ _ _ _ _ _ _ _ _ _ _ _ _ _ _ _ _ _ _ _ _ _ _ _ _ _ _ _ _ _ _ _ _ w7 O7.out (by have := HM1.out; omega) hsb k0 k1 n9 n6 n3 bz.c0 bz.c1 bz.c2 bz.c3 (cell_keep bu.c0 B7.out) (cell_keep bu.c1 B7.out) (cell_keep bu.c2 B7.out) (cell_keep bu.c3 B7.out) v0 v1 v2 v3 C1 C2 (hidden ?_)
          intro xb v' wz hoz hgz
          have OZ := hidden (step_ws E1.out E2.out hoz)
          have BZ2 := hidden (below_transI B7.out (below_growI hgz hsb LT.out))
          clear hoz hgz v0 v1 v2 v3 C1 C2 bz bu
          go_wp2_with fail
          go_roundw
          case rel => exact ⟨k + 1, by omega, by go_num, OZ, BZ2⟩
          case measure => simp [intOf]; omega
        · have hkm : M = k := by omega
          subst hkm
          have lq : ¬ (M : Int) < (M : Int) := by omega
          have mpos : 0 < M := by rw [HM.out]; exact Nat.pow_pos (by omega)
          obtain ⟨gg, cc, rfl, hcc⟩ : ∃ gg cc : Nat, u7 = .slice (some ⟨gg, 0, none⟩) (2 * M) cc ∧ w5.heap.size ≤ gg := by
            rcases hO.out.2 with ⟨_, h0⟩ | ⟨gg, cap2, cur, h1, hg, _⟩
            · omega
            · exact ⟨gg, cap2, h1, hg⟩
          have R8 := hidden (Rws.ownI hO.out)
          have B8 := hidden (below_transI (below_lessI B5.out (Nat.le_refl _)) (below_lessI hB.out B5.out.size))
          clear hO hB mpos
          go_wp2_with fail
          go_roundw
          case rel => exact ⟨t + 1, 2 * M, gg, cc, by omega, by rw [HM.out, Nat.pow_succ, Nat.mul_comm], by go_num, rfl, R8, B8⟩
          case measure => simp [intOf]; omega
    · have htn : n = t := by omega
      subst htn
      have lq : ¬ (n : Int) < (n : Int) := by omega
      have BF := hidden (bl_trans B0.out hB.out)
      have HM := hidden hM
      clear hB hM
      go_wp2_with fail
      refine bodyPost_ret (v := .slice (some ⟨bl, 0, none⟩) M cl) (by simp [results, Tryd.results30, go_sem]) rfl ⟨bl, ⟨cl, by rw [HM.out]⟩, by rw [← HM.out]; exact hRl.out, BF.out⟩
end Go.Proofs.YtoaobkmddbilhaaDoor
namespace Go.Proofs.YtoaobkmddbilhaaDoor
open Go.RowKit
set_option linter.unusedVariables false
set_option maxRecDepth 100000 in
set_option maxHeartbeats 16000000 in
theorem pWeights_long (b n c : Nat) (w : World) (h : 10 < n) :
    Calls Tryd.prog 9 #[.slice (some ⟨b, 0, none⟩) n c] w fun e w' => e = .returned (.tuple #[.slice none 0 0, .int .i64 2]) ∧ Below w.heap.size w w' := by
  have l0 : (10 : Int) < (n : Int) := by omega
  go_enter Tryd.func9, Tryd.ntmps9
  go_wp2_with fail
  refine bodyPost_ret (v := .tuple #[.slice none 0 0, .int .i64 2]) (by simp [results, Tryd.results9, go_sem]) rfl ⟨rfl, Below.refl _ _⟩
set_option maxRecDepth 100000 in
set_option maxHeartbeats 16000000 in
theorem pWeights_zero (b n c : Nat) (g : Nat → E4) (w : World) (hT : Tb w) (hn : n ≤ 10) (hg : ∀ k, k < n → (g k).ok) (hR : Rws w b n g) (hz : az n g) :
    Calls Tryd.prog 9 #[.slice (some ⟨b, 0, none⟩) n c] w fun e w' => e = .returned (.tuple #[.slice none 0 0, .int .i64 4]) ∧ Below w.heap.size w w' := by
  have l0 : ¬ (10 : Int) < (n : Int) := by omega
  have ZA := hidden (zeroAmong_any b n c n g w hT (by omega) (Nat.le_refl _) hg hR true ⟨fun _ => hz, fun _ => rfl⟩)
  simp only [if_true] at ZA
  clear hT hn hg hR hz
  go_enter Tryd.func9, Tryd.ntmps9
  go_wp2_with (first | (go_at_call 29; refine (ZA.out).mono ?_; rintro e w1 ⟨rfl, hb1⟩; have B1 := hidden hb1; clear hb1))
  refine bodyPost_ret (v := .tuple #[.slice none 0 0, .int .i64 4]) (by simp [results, Tryd.results9, go_sem]) rfl ⟨rfl, B1.out⟩
set_option maxRecDepth 100000 in
set_option maxHeartbeats 16000000 in
theorem pWeights_in (b n c : Nat) (g : Nat → E4) (w : World) (hT : Tb w) (hn : n ≤ 10) (hg : ∀ k, k < n → (g k).ok) (hR : Rws w b n g) (hz : ¬ az n g) :
    Calls Tryd.prog 9 #[.slice (some ⟨b, 0, none⟩) n c] w fun e w' => ∃ bl cl : Nat, e = .returned (.tuple #[.slice (some ⟨bl, 0, none⟩) (2 ^ n) cl, .int .i64 0]) ∧ Rws w' bl (2 ^ n) (ws (fun k => (g k).n) n) ∧ Below w.heap.size w w' := by
  have l0 : ¬ (10 : Int) < (n : Int) := by omega
  have ZA := hidden (zeroAmong_any b n c n g w hT (by omega) (Nat.le_refl _) hg hR false ⟨fun h => (by cases h), fun h => absurd h hz⟩)
  simp only [if_false, Bool.false_eq_true] at ZA
  have WE := hidden (fun w' hb => weights_any b n c g w' (hT.keep hb) hn hg (hR.keep hb))
  clear hT hn hg hR hz
  go_enter Tryd.func9, Tryd.ntmps9
  go_wp2_with (first | (go_at_call 29; refine (ZA.out).mono ?_; rintro e w1 ⟨rfl, hb1⟩; have B1 := hidden hb1; clear hb1) | (go_at_call 30; refine (WE.out _ B1.out).mono ?_; rintro e w2 ⟨bl, cl, rfl, hr, hb2⟩; have B2 := hidden (bl_trans B1.out hb2); have R2 := hidden hr; clear hb2 hr))
  refine bodyPost_ret (v := .tuple #[.slice (some ⟨bl, 0, none⟩) (2 ^ n) cl, .int .i64 0]) (by simp [results, Tryd.results9, go_sem]) rfl ?_
  first | exact ⟨bl, cl, rfl, R2.out, B2.out⟩ | exact ⟨bl, ⟨cl, rfl⟩, R2.out, B2.out⟩
/-- a list that is answered: perhaps none -/
def Ln (w : World) (v : Value) (n : Nat) (g : Nat → E4) : Prop := ∃ (p : Option Addr) (c : Nat), v = .slice p n c ∧ (0 < n → ∃ b : Nat, p = some ⟨b, 0, none⟩ ∧ Rws w b n g)
theorem Ln.keep {w w' : World} {v : Value} {n : Nat} {g : Nat → E4} (h : Ln w v n g) (hb : Below w.heap.size w w') : Ln w' v n g := by
  obtain ⟨p, c, h1, h2⟩ := h
  exact ⟨p, c, h1, fun hn => by obtain ⟨b, e, r⟩ := h2 hn; exact ⟨b, e, r.keep hb⟩⟩
theorem Ln.own {w : World} {base n : Nat} {e : TypeId} {v : Value} {g : Nat → E4} (h : w.ownsRow base e 4 v n (svs n g)) : Ln w v n g := by
  rcases h.2 with ⟨h1, h0⟩ | ⟨gg, cap, cur, h1, hg, _⟩
  · exact ⟨none, 0, by rw [h1, h0], fun h => by omega⟩
  · subst h1
    exact ⟨_, cap, rfl, fun _ => ⟨gg, rfl, Rws.ownI h⟩⟩
set_option maxRecDepth 100000 in
set_option maxHeartbeats 16000000 in
theorem docScalars_any (P : Option Addr) (L cap m : Nat) (g : Nat → E4) (w : World) (hL : L ≤ 4398046510976) (hc : L ≤ cap) (hS : Lm w P L g) (hm : m = min L 2100) (hg : ∀ k, k < L → (g k).ok) :
    Calls Tryd.prog 16 #[.slice P L cap] w fun e w' => ∃ v, e = .returned v ∧ Ln w' v m (fun k => lst (g k).n) ∧ Below w.heap.size w w' := by
  have CU := hidden (fun w' hb => cut_any P L cap m g w' hL hc (hS.keep hb) hm)
  have HS := hidden (hS.less (m := m) (by omega))
  have HM : Hid (m ≤ 2100) := hidden (by omega)
  have HG : Hid (∀ k, k < m → (g k).ok) := hidden (fun k hk => hg k (by omega))
  have nn0 : (0 : Int) ≤ (m : Int) := by omega
  obtain ⟨i0, hi, hz0, hz1, hz2⟩ := info_parts refinfo
  have HI := hidden hi
  have HZ0 := hidden hz0
  have HZ1 := hidden hz1
  have HZ2 := hidden hz2
  have HU : Hid (Tryd.prog.underlying 48 = some (.slice 69)) := hidden (by kernel_rfl)
  clear hi hz0 hz1 hz2 hS hL hc hm hg
  go_enter Tryd.func16, Tryd.ntmps16
  go_upto_region 2 with (first | (go_at_call 38; refine (CU.out _ (Below.refl _ _)).mono ?_; rintro e w2 ⟨rfl, hb⟩; have B1 := hidden hb; clear hb))
  clear CU
  go_wp2_with fail
  go_loopw [3, 4] (fun ov iv' w' => ∃ k : Nat, k ≤ m ∧ iv' = .int .i64 k ∧ Hid (w'.ownsRow w.heap.size 69 4 ov k (svs k (fun k => lst (g k).n))) ∧ Hid (Below w.heap.size w w')) (fun _ i _ => m - (intOf i).toNat)
  case atStart => exact ⟨0, by omega, rfl, hidden (World.ownsRow_nil _ _ _ _), B1⟩
  case round =>
    clear B1
    obtain ⟨k, hk, rfl, hO, hB⟩ := hrel
    by_cases hkn : k < m
    · have k0 : (0 : Int) ≤ (k : Int) := by omega
      have k1 : (k : Int) < (m : Int) := by omega
      have w9 : IntKind.i64.wrap ((k : Int) + 1) = (k : Int) + 1 := IntWalk.i64_in _ (by have := HM.out; omega)
      obtain ⟨sb, so, h1, h2⟩ := HS.out
      obtain rfl := h1 (by omega)
      have rx := (h2 (by omega)).keep hB.out
      have x0 := rx.c0 k hkn
      have x1 := rx.c1 k hkn
      have x2 := rx.c2 k hkn
      have x3 := rx.c3 k hkn
      have zok := HG.out k hkn
      obtain ⟨z, hz⟩ : ∃ z, g k = z := ⟨_, rfl⟩
      rw [hz] at x0 x1 x2 x3 zok
      obtain ⟨X, hX⟩ : ∃ X, lst z.n = X := ⟨_, rfl⟩
      have LE := hidden (fun w => fix (rleast_any z w zok) hX)
      have SV : Hid (svs (k + 1) (fun k => lst (g k).n) = svs k (fun k => lst (g k).n) ++ [.int .u64 X.x0, .int .u64 X.x1, .int .u64 X.x2, .int .u64 X.x3]) := hidden (by rw [svs_succ]; simp only [hz, hX])
      have N9 : Hid (k < m ∧ m ≤ 2100) := hidden ⟨hkn, HM.out⟩
      simp only [E4.v] at LE
      clear rx h1 h2 hz hX zok
      go_wp2_with fail
      refine (LE.out _).mono ?_
      rintro e w3 ⟨rfl, hb3⟩
      have O2 := hidden (own_keepI hO.out hb3)
      have B2 := hidden (bl_trans hB.out hb3)
      have bs := B2.out.size
      clear hb3 hO hB LE x0 x1 x2 x3
      go_wp2_with (first | (at_builtin; refine wpList_append_moreS _ rfl _ _ 48 rfl w.heap.size 69 i0 (.agg #[.int .u64 0, .int .u64 0, .int .u64 0, .int .u64 0]) 32 HU.out HI.out HZ0.out HZ1.out HZ2.out rfl _ _ _ rfl (Or.inl (O2.out.alloc _)) ⟨w3.heap.size, 0, none⟩ [.int .u64 X.x0, .int .u64 X.x1, .int .u64 X.x2, .int .u64 X.x3] rfl rfl (cells_new w3 [.int .u64 X.x0, .int .u64 X.x1, .int .u64 X.x2, .int .u64 X.x3] 69) (by simp [Value.oneCell']) (by have := N9.out; unfold maxLen; omega) (by have := N9.out; omega) (by simp; omega) ?_; intro v' w4 hown hb4; have HO := hidden hown; have HB4 := hidden (below_transI (bl_trans B2.out (bl_alloc w3 _)) hb4); clear hown hb4))
      go_roundw
      case rel => exact ⟨k + 1, by omega, by go_num, hidden (by rw [SV.out]; exact HO.out), HB4⟩
      case measure => simp [intOf]; omega
    · have hkn : m = k := by omega
      subst hkn
      have lq : ¬ (m : Int) < (m : Int) := by omega
      have LN := hidden (Ln.own hO.out)
      go_wp2_with fail
      refine bodyPost_ret (v := u3) (by simp [results, Tryd.results16, go_sem]) rfl ?_
      first | exact ⟨u3, rfl, LN.out, hB.out⟩ | exact ⟨LN.out, hB.out⟩
end Go.Proofs.YtoaobkmddbilhaaDoor
namespace Go.Proofs.YtoaobkmddbilhaaDoor
open Go.RowKit
set_option linter.unusedVariables false
theorem buildR1 (y0 : E4) (w : World) : (Instr.buildSlice 48 1 #[(0, Value.agg #[.int .u64 y0.x0, .int .u64 y0.x1, .int .u64 y0.x2, .int .u64 y0.x3])]).run Tryd.prog w = .ok (.slice (some ⟨w.heap.size, 0, none⟩) 1 1) (w.alloc (.cells #[.int .u64 y0.x0, .int .u64 y0.x1, .int .u64 y0.x2, .int .u64 y0.x3] 69)) := by kernel_rfl
theorem wp_buildR1 {w : World} {o : Oper} {a : Act} {K : Act → World → Prop} {Q : Exit → Act → World → Prop} (x0 : Operand) (ho : o.op = .buildSlice 48 1 #[(0, x0)]) (y0 : E4) (h0 : a.eval x0 = Value.agg #[.int .u64 y0.x0, .int .u64 y0.x1, .int .u64 y0.x2, .int .u64 y0.x3])
    (h : K (a.put o.dst (.slice (some ⟨w.heap.size, 0, none⟩) 1 1)) (w.alloc (.cells #[.int .u64 y0.x0, .int .u64 y0.x1, .int .u64 y0.x2, .int .u64 y0.x3] 69))) : o.wp Tryd.prog a w K Q := by
  have hb := buildR1 y0 w
  unfold Oper.wp execOp
  simp only [ho, Sem.run_bind, Sem.run_pure, Result.andThen_ok, List.map_toArray, List.map_cons, List.map_nil, h0, hb]
  exact h

def rw17o : Array Oper := #[{ dst := some 45, op := Op.move (Operand.tmp 7), type := 48, pos := "ref.go:210", after := #[], guard := none },
  { dst := some 46, op := Op.move (Operand.tmp 5), type := 48, pos := "ref.go:210", after := #[], guard := none },
  { dst := some 47, op := Op.move (Operand.tmp 9), type := 3, pos := "ref.go:210", after := #[], guard := none },
  { dst := some 48, op := Op.indexAddr 48 (Operand.tmp 46) (Operand.tmp 47), type := 0, pos := "ref.go:210", after := #[{ on := 1, ground := Ground.data }, { on := 2, ground := Ground.data }], guard := none },
  { dst := some 49, op := Op.load 69 (Operand.tmp 48), type := 69, pos := "ref.go:210", after := #[{ on := 3, ground := Ground.data }], guard := none },
  { dst := some 50, op := Op.load 69 (Operand.tmp 8), type := 69, pos := "ref.go:210", after := #[], guard := none },
  { dst := some 51, op := Op.call { callee := Callee.value (Operand.func 42), args := #[Operand.tmp 49, Operand.tmp 50], argTypes := #[69, 69] }, type := 69, pos := "ref.go:210", after := #[{ on := 4, ground := Ground.data }, { on := 5, ground := Ground.data }], guard := none },
  { dst := some 52, op := Op.buildSlice 48 1 #[(0, Operand.tmp 51)], type := 48, pos := "ref.go:210", after := #[{ on := 6, ground := Ground.data }], guard := none },
  { dst := some 53, op := Op.call { callee := Callee.builtin Builtin.append, args := #[Operand.tmp 45, Operand.tmp 52], argTypes := #[48, 48] }, type := 48, pos := "ref.go:210", after := #[{ on := 0, ground := Ground.data }, { on := 7, ground := Ground.data }, { on := 6, ground := Ground.chain }], guard := none },
  { dst := some 7, op := Op.assign (Operand.tmp 53), type := 48, pos := "ref.go:210", after := #[{ on := 8, ground := Ground.data }, { on := 8, ground := Ground.chain }, { on := 0, ground := Ground.phase }, { on := 1, ground := Ground.phase }, { on := 2, ground := Ground.phase }, { on := 3, ground := Ground.phase }, { on := 4, ground := Ground.phase }, { on := 5, ground := Ground.phase }, { on := 6, ground := Ground.phase }, { on := 7, ground := Ground.phase }, { on := 8, ground := Ground.phase }], guard := none }]
set_option maxRecDepth 100000 in
set_option maxHeartbeats 16000000 in
theorem rw17 (Q : Exit → Act → World → Prop) (V : Value) (xs : List Value) (B n : Nat) (bo M co k T8 : Nat) (z v r1 : E4) (u0 u1 u2 u3 u4 u6 u10 u11 u12 u13 u14 u15 u16 u17 u18 u19 u20 u21 u22 u23 u24 u25 u26 u27 u28 u29 u30 u31 u32 u33 u34 u35 u36 u37 u38 u39 u40 u41 u42 u43 u44 u45 u46 u47 u48 u49 u50 u51 u52 u53 u54 u55 u56 u57 u58 u59 u60 u61 u62 u63 u64 u65 u66 u67 u68 u69 u70 u71 u72 u73 : Value) (W : World) (hown : W.ownsRow B 69 4 V n xs) (hn : n ≤ 1048576) (hB : B ≤ W.heap.size)
    (k0 : (0 : Int) ≤ (k : Int)) (k1 : (k : Int) < (M : Int)) (nb : some bo ≠ V.ownBlock) (n8 : some T8 ≠ V.ownBlock)
    (hz0 : W.cell? ⟨bo, k * 4, none⟩ = some (.int .u64 z.x0)) (hz1 : W.cell? ⟨bo, k * 4 + 1, none⟩ = some (.int .u64 z.x1)) (hz2 : W.cell? ⟨bo, k * 4 + 2, none⟩ = some (.int .u64 z.x2)) (hz3 : W.cell? ⟨bo, k * 4 + 3, none⟩ = some (.int .u64 z.x3))
    (hv0 : W.cell? ⟨T8, 0, none⟩ = some (.int .u64 v.x0)) (hv1 : W.cell? ⟨T8, 1, none⟩ = some (.int .u64 v.x1)) (hv2 : W.cell? ⟨T8, 2, none⟩ = some (.int .u64 v.x2)) (hv3 : W.cell? ⟨T8, 3, none⟩ = some (.int .u64 v.x3))
    (C1 : Hid (∀ x, W.grownBy x V.ownBlock → Calls Tryd.prog 42 #[.agg #[.int .u64 z.x0, .int .u64 z.x1, .int .u64 z.x2, .int .u64 z.x3], .agg #[.int .u64 v.x0, .int .u64 v.x1, .int .u64 v.x2, .int .u64 v.x3]] x fun e w' => e = .returned (.agg #[.int .u64 r1.x0, .int .u64 r1.x1, .int .u64 r1.x2, .int .u64 r1.x3]) ∧ Below x.heap.size x w'))
    (HQ : Hid (∀ (xb v' : Value) (wz : World), wz.ownsRow B 69 4 v' (n + 1) (xs ++ [.int .u64 r1.x0, .int .u64 r1.x1, .int .u64 r1.x2, .int .u64 r1.x3]) → W.grownBy wz V.ownBlock → Q .normal ⟨#[u0, u1, u2, u3, u4, .slice (some ⟨bo, 0, none⟩) M co, u6, v', .pointer (some ⟨T8, 0, none⟩), .int .i64 (k : Int), u10, u11, u12, u13, u14, u15, u16, u17, u18, u19, u20, u21, u22, u23, u24, u25, u26, u27, u28, u29, u30, u31, u32, u33, u34, u35, u36, u37, u38, u39, u40, u41, u42, u43, u44, V, .slice (some ⟨bo, 0, none⟩) M co, .int .i64 (k : Int), .pointer (some ⟨bo, k * 4, none⟩), .agg #[.int .u64 z.x0, .int .u64 z.x1, .int .u64 z.x2, .int .u64 z.x3], .agg #[.int .u64 v.x0, .int .u64 v.x1, .int .u64 v.x2, .int .u64 v.x3], .agg #[.int .u64 r1.x0, .int .u64 r1.x1, .int .u64 r1.x2, .int .u64 r1.x3], xb, v', u54, u55, u56, u57, u58, u59, u60, u61, u62, u63, u64, u65, u66, u67, u68, u69, u70, u71, u72, u73], []⟩ wz)) : (Code.region 17 rw17o true).wp Tryd.prog Q ⟨#[u0, u1, u2, u3, u4, .slice (some ⟨bo, 0, none⟩) M co, u6, V, .pointer (some ⟨T8, 0, none⟩), .int .i64 (k : Int), u10, u11, u12, u13, u14, u15, u16, u17, u18, u19, u20, u21, u22, u23, u24, u25, u26, u27, u28, u29, u30, u31, u32, u33, u34, u35, u36, u37, u38, u39, u40, u41, u42, u43, u44, u45, u46, u47, u48, u49, u50, u51, u52, u53, u54, u55, u56, u57, u58, u59, u60, u61, u62, u63, u64, u65, u66, u67, u68, u69, u70, u71, u72, u73], []⟩ W := by
  have HU : Hid (Tryd.prog.underlying 48 = some (.slice 69)) := hidden (by kernel_rfl)
  obtain ⟨i0, hi, hz0, hz1, hz2⟩ := info_parts refinfo
  have HI := hidden hi
  have HZ0 := hidden hz0
  have HZ1 := hidden hz1
  have HZ2 := hidden hz2
  have HO := hidden hown
  have HBN : Hid (B ≤ W.heap.size ∧ n ≤ 1048576) := hidden ⟨hB, hn⟩
  clear hi hz0 hz1 hz2 hown hB hn
  unfold rw17o
  have OW := hidden (HO.out.drew)
  refine wp_region_noPanic ?_
  refine wp_region_held_drew (S := fun x => W.grownBy x V.ownBlock) (by kernel_rfl) (gbI (drew_blS W) _) (fun hHeld => ?_)
  refine wpAnyH_take (i := 0) (oi := { dst := some 45, op := Op.move (Operand.tmp 7), type := 48, pos := "ref.go:210", after := #[], guard := none }) (v := V) rfl (by kernel_rfl) (by kernel_rfl) (by kernel_rfl) (fun _ _ _ h => h) (Or.inl ⟨by rfl, fun w0 hSw => ?_⟩) hHeld ?_
  · (clear hSw; go_simp)
  simp only [Act.put, List.setIfInBounds_toArray, List.set_cons_zero, List.set_cons_succ]
  refine wpAnyH_take (i := 1) (oi := { dst := some 46, op := Op.move (Operand.tmp 5), type := 48, pos := "ref.go:210", after := #[], guard := none }) (v := .slice (some ⟨bo, 0, none⟩) M co) rfl (by kernel_rfl) (by kernel_rfl) (by kernel_rfl) (fun _ _ _ h => h) (Or.inl ⟨by rfl, fun w0 hSw => ?_⟩) hHeld ?_
  · (clear hSw; go_simp)
  simp only [Act.put, List.setIfInBounds_toArray, List.set_cons_zero, List.set_cons_succ]
  refine wpAnyH_take (i := 2) (oi := { dst := some 47, op := Op.move (Operand.tmp 9), type := 3, pos := "ref.go:210", after := #[], guard := none }) (v := .int .i64 (k : Int)) rfl (by kernel_rfl) (by kernel_rfl) (by kernel_rfl) (fun _ _ _ h => h) (Or.inl ⟨by rfl, fun w0 hSw => ?_⟩) hHeld ?_
  · (clear hSw; go_simp)
  simp only [Act.put, List.setIfInBounds_toArray, List.set_cons_zero, List.set_cons_succ]
  refine wpAnyH_take (i := 3) (oi := { dst := some 48, op := Op.indexAddr 48 (Operand.tmp 46) (Operand.tmp 47), type := 0, pos := "ref.go:210", after := #[{ on := 1, ground := Ground.data }, { on := 2, ground := Ground.data }], guard := none }) (v := .pointer (some ⟨bo, k * 4, none⟩)) rfl (by kernel_rfl) (by kernel_rfl) (by kernel_rfl) (fun _ _ _ h => h) (Or.inl ⟨by rfl, fun w0 hSw => ?_⟩) hHeld ?_
  · (clear hSw; go_simp)
  simp only [Act.put, List.setIfInBounds_toArray, List.set_cons_zero, List.set_cons_succ]
  refine wpAnyH_take (i := 4) (oi := { dst := some 49, op := Op.load 69 (Operand.tmp 48), type := 69, pos := "ref.go:210", after := #[{ on := 3, ground := Ground.data }], guard := none }) (v := .agg #[.int .u64 z.x0, .int .u64 z.x1, .int .u64 z.x2, .int .u64 z.x3]) rfl (by kernel_rfl) (by kernel_rfl) (by kernel_rfl) (fun _ _ _ h => h) (Or.inl ⟨by rfl, fun w0 hSw => ?_⟩) hHeld ?_
  · (have hS : W.grownBy w0 V.ownBlock := hSw; have a0 := hS.cell hz0 nb; have a1 := hS.cell hz1 nb; have a2 := hS.cell hz2 nb; have a3 := hS.cell hz3 nb; clear hS hSw; go_simp)
  simp only [Act.put, List.setIfInBounds_toArray, List.set_cons_zero, List.set_cons_succ]
  refine wpAnyH_take (i := 5) (oi := { dst := some 50, op := Op.load 69 (Operand.tmp 8), type := 69, pos := "ref.go:210", after := #[], guard := none }) (v := .agg #[.int .u64 v.x0, .int .u64 v.x1, .int .u64 v.x2, .int .u64 v.x3]) rfl (by kernel_rfl) (by kernel_rfl) (by kernel_rfl) (fun _ _ _ h => h) (Or.inl ⟨by rfl, fun w0 hSw => ?_⟩) hHeld ?_
  · (have hS : W.grownBy w0 V.ownBlock := hSw; have a0 := hS.cell hv0 n8; have a1 := hS.cell hv1 n8; have a2 := hS.cell hv2 n8; have a3 := hS.cell hv3 n8; clear hS hSw; go_simp)
  simp only [Act.put, List.setIfInBounds_toArray, List.set_cons_zero, List.set_cons_succ]
  refine wpAnyH_ready (rs := [6]) (by kernel_rfl) (by simp) ?_
  refine AllReadyH.cons (o := { dst := some 51, op := Op.call { callee := Callee.value (Operand.func 42), args := #[Operand.tmp 49, Operand.tmp 50], argTypes := #[69, 69] }, type := 69, pos := "ref.go:210", after := #[{ on := 4, ground := Ground.data }, { on := 5, ground := Ground.data }], guard := none }) rfl (fun K hK => ?_) AllReadyH.nil
  have HH := hidden hHeld
  clear hHeld
  go_simp
  refine (C1.out _ HH.out).mono ?_
  rintro e wn1 ⟨rfl, hb⟩
  replace OW := hidden (own_keepI OW.out hb)
  have SN := hidden (HH.out.trans (gbI hb _))
  clear HH hb C1
  go_wp2_with fail
  refine hK.out _ _ SN.out (fun hHeld1 => ?_)
  clear hK K SN
  refine wpAnyH_ready (rs := [7]) (by kernel_rfl) (by simp) ?_
  refine AllReadyH.cons (o := { dst := some 52, op := Op.buildSlice 48 1 #[(0, Operand.tmp 51)], type := 48, pos := "ref.go:210", after := #[{ on := 6, ground := Ground.data }], guard := none }) rfl (fun K hK => ?_) AllReadyH.nil
  have HH := hidden hHeld1
  clear hHeld1
  refine wp_buildR1 _ rfl r1 rfl ?_
  have H2 := hidden (show W.grownBy (wn1.alloc (.cells #[.int .u64 r1.x0, .int .u64 r1.x1, .int .u64 r1.x2, .int .u64 r1.x3] 69)) V.ownBlock from World.grownBy.trans HH.out (World.grownBy_alloc wn1 _ _))
  replace OW := hidden (OW.out.alloc (.cells #[.int .u64 r1.x0, .int .u64 r1.x1, .int .u64 r1.x2, .int .u64 r1.x3] 69))
  have CN := hidden (cells_new wn1 [.int .u64 r1.x0, .int .u64 r1.x1, .int .u64 r1.x2, .int .u64 r1.x3] 69)
  have ON : Hid (∀ u ∈ ([.int .u64 r1.x0, .int .u64 r1.x1, .int .u64 r1.x2, .int .u64 r1.x3] : List Value), u.oneCell' = true) := hidden (by simp [Value.oneCell'])
  refine hK.out _ _ H2.out (fun hHb => ?_)
  clear hK K HH
  simp only [Act.put, List.setIfInBounds_toArray, List.set_cons_zero, List.set_cons_succ]
  refine wpAnyH_ready (rs := [8]) (by kernel_rfl) (by simp) ?_
  refine AllReadyH.cons (o := { dst := some 53, op := Op.call { callee := Callee.builtin Builtin.append, args := #[Operand.tmp 45, Operand.tmp 52], argTypes := #[48, 48] }, type := 48, pos := "ref.go:210", after := #[{ on := 0, ground := Ground.data }, { on := 7, ground := Ground.data }, { on := 6, ground := Ground.chain }], guard := none }) rfl (fun K hK => ?_) AllReadyH.nil
  clear hHb
  refine wp_appendI (.tmp 45) (.tmp 52) 48 rfl B 69 i0 (.agg #[.int .u64 0, .int .u64 0, .int .u64 0, .int .u64 0]) 4 32 HU.out HI.out HZ0.out HZ1.out HZ2.out rfl (by decide) V n xs rfl OW.out ⟨wn1.heap.size, 0, none⟩ 1 1 [.int .u64 r1.x0, .int .u64 r1.x1, .int .u64 r1.x2, .int .u64 r1.x3] rfl rfl CN.out ON.out (by have := HBN.out.2; unfold maxLen; omega) (by have := HBN.out.2; omega) (Nat.le_trans HBN.out.1 H2.out.size) ?_
  intro va wa hoa hga _
  have H3 := hidden (H2.out.trans hga)
  have OA := hidden hoa
  clear hoa hga OW H2 CN ON
  refine hK.out _ _ H3.out (fun hHa => ?_)
  clear hK K
  simp only [Act.put, List.setIfInBounds_toArray, List.set_cons_zero, List.set_cons_succ]
  refine wpAnyH_take (i := 9) (oi := { dst := some 7, op := Op.assign (Operand.tmp 53), type := 48, pos := "ref.go:210", after := #[{ on := 8, ground := Ground.data }, { on := 8, ground := Ground.chain }, { on := 0, ground := Ground.phase }, { on := 1, ground := Ground.phase }, { on := 2, ground := Ground.phase }, { on := 3, ground := Ground.phase }, { on := 4, ground := Ground.phase }, { on := 5, ground := Ground.phase }, { on := 6, ground := Ground.phase }, { on := 7, ground := Ground.phase }, { on := 8, ground := Ground.phase }], guard := none }) (v := va) rfl (by kernel_rfl) (by kernel_rfl) (by kernel_rfl) (fun _ _ _ h => h) (Or.inl ⟨by rfl, fun w0 hSw => ?_⟩) hHa ?_
  · (clear hSw; go_simp)
  simp only [Act.put, List.setIfInBounds_toArray, List.set_cons_zero, List.set_cons_succ]
  refine wpAnyH_done (by kernel_rfl) ?_ _
  refine NoPanic.normal ?_
  exact HQ.out _ _ _ OA.out H3.out
def rw21o : Array Oper := #[{ dst := some 60, op := Op.move (Operand.tmp 7), type := 48, pos := "ref.go:213", after := #[], guard := none },
  { dst := some 61, op := Op.move (Operand.tmp 5), type := 48, pos := "ref.go:213", after := #[], guard := none },
  { dst := some 62, op := Op.move (Operand.tmp 10), type := 3, pos := "ref.go:213", after := #[], guard := none },
  { dst := some 63, op := Op.indexAddr 48 (Operand.tmp 61) (Operand.tmp 62), type := 0, pos := "ref.go:213", after := #[{ on := 1, ground := Ground.data }, { on := 2, ground := Ground.data }], guard := none },
  { dst := some 64, op := Op.load 69 (Operand.tmp 63), type := 69, pos := "ref.go:213", after := #[{ on := 3, ground := Ground.data }], guard := none },
  { dst := some 65, op := Op.move (Operand.tmp 0), type := 48, pos := "ref.go:213", after := #[], guard := none },
  { dst := some 66, op := Op.move (Operand.tmp 6), type := 3, pos := "ref.go:213", after := #[], guard := none },
  { dst := some 67, op := Op.indexAddr 48 (Operand.tmp 65) (Operand.tmp 66), type := 0, pos := "ref.go:213", after := #[{ on := 5, ground := Ground.data }, { on := 6, ground := Ground.data }], guard := none },
  { dst := some 68, op := Op.load 69 (Operand.tmp 67), type := 69, pos := "ref.go:213", after := #[{ on := 7, ground := Ground.data }], guard := none },
  { dst := some 69, op := Op.call { callee := Callee.value (Operand.func 42), args := #[Operand.tmp 64, Operand.tmp 68], argTypes := #[69, 69] }, type := 69, pos := "ref.go:213", after := #[{ on := 4, ground := Ground.data }, { on := 8, ground := Ground.data }], guard := none },
  { dst := some 70, op := Op.buildSlice 48 1 #[(0, Operand.tmp 69)], type := 48, pos := "ref.go:213", after := #[{ on := 9, ground := Ground.data }], guard := none },
  { dst := some 71, op := Op.call { callee := Callee.builtin Builtin.append, args := #[Operand.tmp 60, Operand.tmp 70], argTypes := #[48, 48] }, type := 48, pos := "ref.go:213", after := #[{ on := 0, ground := Ground.data }, { on := 10, ground := Ground.data }, { on := 9, ground := Ground.chain }], guard := none },
  { dst := some 7, op := Op.assign (Operand.tmp 71), type := 48, pos := "ref.go:213", after := #[{ on := 11, ground := Ground.data }, { on := 11, ground := Ground.chain }, { on := 0, ground := Ground.phase }, { on := 1, ground := Ground.phase }, { on := 2, ground := Ground.phase }, { on := 3, ground := Ground.phase }, { on := 4, ground := Ground.phase }, { on := 5, ground := Ground.phase }, { on := 6, ground := Ground.phase }, { on := 7, ground := Ground.phase }, { on := 8, ground := Ground.phase }, { on := 9, ground := Ground.phase }, { on := 10, ground := Ground.phase }, { on := 11, ground := Ground.phase }], guard := none }]
set_option maxRecDepth 100000 in
set_option maxHeartbeats 16000000 in
theorem rw21 (Q : Exit → Act → World → Prop) (V : Value) (xs : List Value) (B n : Nat) (bo M co k b0 n0 c0 t : Nat) (z v r1 : E4) (u1 u2 u3 u4 u8 u9 u11 u12 u13 u14 u15 u16 u17 u18 u19 u20 u21 u22 u23 u24 u25 u26 u27 u28 u29 u30 u31 u32 u33 u34 u35 u36 u37 u38 u39 u40 u41 u42 u43 u44 u45 u46 u47 u48 u49 u50 u51 u52 u53 u54 u55 u56 u57 u58 u59 u60 u61 u62 u63 u64 u65 u66 u67 u68 u69 u70 u71 u72 u73 : Value) (W : World) (hown : W.ownsRow B 69 4 V n xs) (hn : n ≤ 1048576) (hB : B ≤ W.heap.size)
    (k0 : (0 : Int) ≤ (k : Int)) (k1 : (k : Int) < (M : Int)) (t0 : (0 : Int) ≤ (t : Int)) (t1 : (t : Int) < (n0 : Int)) (nb : some bo ≠ V.ownBlock) (n8 : some b0 ≠ V.ownBlock)
    (hz0 : W.cell? ⟨bo, k * 4, none⟩ = some (.int .u64 z.x0)) (hz1 : W.cell? ⟨bo, k * 4 + 1, none⟩ = some (.int .u64 z.x1)) (hz2 : W.cell? ⟨bo, k * 4 + 2, none⟩ = some (.int .u64 z.x2)) (hz3 : W.cell? ⟨bo, k * 4 + 3, none⟩ = some (.int .u64 z.x3))
    (hv0 : W.cell? ⟨b0, t * 4, none⟩ = some (.int .u64 v.x0)) (hv1 : W.cell? ⟨b0, t * 4 + 1, none⟩ = some (.int .u64 v.x1)) (hv2 : W.cell? ⟨b0, t * 4 + 2, none⟩ = some (.int .u64 v.x2)) (hv3 : W.cell? ⟨b0, t * 4 + 3, none⟩ = some (.int .u64 v.x3))
    (C1 : Hid (∀ x, W.grownBy x V.ownBlock → Calls Tryd.prog 42 #[.agg #[.int .u64 z.x0, .int .u64 z.x1, .int .u64 z.x2, .int .u64 z.x3], .agg #[.int .u64 v.x0, .int .u64 v.x1, .int .u64 v.x2, .int .u64 v.x3]] x fun e w' => e = .returned (.agg #[.int .u64 r1.x0, .int .u64 r1.x1, .int .u64 r1.x2, .int .u64 r1.x3]) ∧ Below x.heap.size x w'))
    (HQ : Hid (∀ (xb v' : Value) (wz : World), wz.ownsRow B 69 4 v' (n + 1) (xs ++ [.int .u64 r1.x0, .int .u64 r1.x1, .int .u64 r1.x2, .int .u64 r1.x3]) → W.grownBy wz V.ownBlock → Q .normal ⟨#[.slice (some ⟨b0, 0, none⟩) n0 c0, u1, u2, u3, u4, .slice (some ⟨bo, 0, none⟩) M co, .int .i64 (t : Int), v', u8, u9, .int .i64 (k : Int), u11, u12, u13, u14, u15, u16, u17, u18, u19, u20, u21, u22, u23, u24, u25, u26, u27, u28, u29, u30, u31, u32, u33, u34, u35, u36, u37, u38, u39, u40, u41, u42, u43, u44, u45, u46, u47, u48, u49, u50, u51, u52, u53, u54, u55, u56, u57, u58, u59, V, .slice (some ⟨bo, 0, none⟩) M co, .int .i64 (k : Int), .pointer (some ⟨bo, k * 4, none⟩), .agg #[.int .u64 z.x0, .int .u64 z.x1, .int .u64 z.x2, .int .u64 z.x3], .slice (some ⟨b0, 0, none⟩) n0 c0, .int .i64 (t : Int), .pointer (some ⟨b0, t * 4, none⟩), .agg #[.int .u64 v.x0, .int .u64 v.x1, .int .u64 v.x2, .int .u64 v.x3], .agg #[.int .u64 r1.x0, .int .u64 r1.x1, .int .u64 r1.x2, .int .u64 r1.x3], xb, v', u72, u73], []⟩ wz)) : (Code.region 21 rw21o true).wp Tryd.prog Q ⟨#[.slice (some ⟨b0, 0, none⟩) n0 c0, u1, u2, u3, u4, .slice (some ⟨bo, 0, none⟩) M co, .int .i64 (t : Int), V, u8, u9, .int .i64 (k : Int), u11, u12, u13, u14, u15, u16, u17, u18, u19, u20, u21, u22, u23, u24, u25, u26, u27, u28, u29, u30, u31, u32, u33, u34, u35, u36, u37, u38, u39, u40, u41, u42, u43, u44, u45, u46, u47, u48, u49, u50, u51, u52, u53, u54, u55, u56, u57, u58, u59, u60, u61, u62, u63, u64, u65, u66, u67, u68, u69, u70, u71, u72, u73], []⟩ W := by
  have HU : Hid (Tryd.prog.underlying 48 = some (.slice 69)) := hidden (by kernel_rfl)
  obtain ⟨i0, hi, hz0, hz1, hz2⟩ := info_parts refinfo
  have HI := hidden hi
  have HZ0 := hidden hz0
  have HZ1 := hidden hz1
  have HZ2 := hidden hz2
  have HO := hidden hown
  have HBN : Hid (B ≤ W.heap.size ∧ n ≤ 1048576) := hidden ⟨hB, hn⟩
  clear hi hz0 hz1 hz2 hown hB hn
  unfold rw21o
  have OW := hidden (HO.out.drew)
  refine wp_region_noPanic ?_
  refine wp_region_held_drew (S := fun x => W.grownBy x V.ownBlock) (by kernel_rfl) (gbI (drew_blS W) _) (fun hHeld => ?_)
  refine wpAnyH_take (i := 0) (oi := { dst := some 60, op := Op.move (Operand.tmp 7), type := 48, pos := "ref.go:213", after := #[], guard := none }) (v := V) rfl (by kernel_rfl) (by kernel_rfl) (by kernel_rfl) (fun _ _ _ h => h) (Or.inl ⟨by rfl, fun w0 hSw => ?_⟩) hHeld ?_
  · (clear hSw; go_simp)
  simp only [Act.put, List.setIfInBounds_toArray, List.set_cons_zero, List.set_cons_succ]
  refine wpAnyH_take (i := 1) (oi := { dst := some 61, op := Op.move (Operand.tmp 5), type := 48, pos := "ref.go:213", after := #[], guard := none }) (v := .slice (some ⟨bo, 0, none⟩) M co) rfl (by kernel_rfl) (by kernel_rfl) (by kernel_rfl) (fun _ _ _ h => h) (Or.inl ⟨by rfl, fun w0 hSw => ?_⟩) hHeld ?_
  · (clear hSw; go_simp)
  simp only [Act.put, List.setIfInBounds_toArray, List.set_cons_zero, List.set_cons_succ]
  refine wpAnyH_take (i := 2) (oi := { dst := some 62, op := Op.move (Operand.tmp 10), type := 3, pos := "ref.go:213", after := #[], guard := none }) (v := .int .i64 (k : Int)) rfl (by kernel_rfl) (by kernel_rfl) (by kernel_rfl) (fun _ _ _ h => h) (Or.inl ⟨by rfl, fun w0 hSw => ?_⟩) hHeld ?_
  · (clear hSw; go_simp)
  simp only [Act.put, List.setIfInBounds_toArray, List.set_cons_zero, List.set_cons_succ]
  refine wpAnyH_take (i := 3) (oi := { dst := some 63, op := Op.indexAddr 48 (Operand.tmp 61) (Operand.tmp 62), type := 0, pos := "ref.go:213", after := #[{ on := 1, ground := Ground.data }, { on := 2, ground := Ground.data }], guard := none }) (v := .pointer (some ⟨bo, k * 4, none⟩)) rfl (by kernel_rfl) (by kernel_rfl) (by kernel_rfl) (fun _ _ _ h => h) (Or.inl ⟨by rfl, fun w0 hSw => ?_⟩) hHeld ?_
  · (clear hSw; go_simp)
  simp only [Act.put, List.setIfInBounds_toArray, List.set_cons_zero, List.set_cons_succ]
  refine wpAnyH_take (i := 4) (oi := { dst := some 64, op := Op.load 69 (Operand.tmp 63), type := 69, pos := "ref.go:213", after := #[{ on := 3, ground := Ground.data }], guard := none }) (v := .agg #[.int .u64 z.x0, .int .u64 z.x1, .int .u64 z.x2, .int .u64 z.x3]) rfl (by kernel_rfl) (by kernel_rfl) (by kernel_rfl) (fun _ _ _ h => h) (Or.inl ⟨by rfl, fun w0 hSw => ?_⟩) hHeld ?_
  · (have hS : W.grownBy w0 V.ownBlock := hSw; have a0 := hS.cell hz0 nb; have a1 := hS.cell hz1 nb; have a2 := hS.cell hz2 nb; have a3 := hS.cell hz3 nb; clear hS hSw; go_simp)
  simp only [Act.put, List.setIfInBounds_toArray, List.set_cons_zero, List.set_cons_succ]
  refine wpAnyH_take (i := 5) (oi := { dst := some 65, op := Op.move (Operand.tmp 0), type := 48, pos := "ref.go:213", after := #[], guard := none }) (v := .slice (some ⟨b0, 0, none⟩) n0 c0) rfl (by kernel_rfl) (by kernel_rfl) (by kernel_rfl) (fun _ _ _ h => h) (Or.inl ⟨by rfl, fun w0 hSw => ?_⟩) hHeld ?_
  · (clear hSw; go_simp)
  simp only [Act.put, List.setIfInBounds_toArray, List.set_cons_zero, List.set_cons_succ]
  refine wpAnyH_take (i := 6) (oi := { dst := some 66, op := Op.move (Operand.tmp 6), type := 3, pos := "ref.go:213", after := #[], guard := none }) (v := .int .i64 (t : Int)) rfl (by kernel_rfl) (by kernel_rfl) (by kernel_rfl) (fun _ _ _ h => h) (Or.inl ⟨by rfl, fun w0 hSw => ?_⟩) hHeld ?_
  · (clear hSw; go_simp)
  simp only [Act.put, List.setIfInBounds_toArray, List.set_cons_zero, List.set_cons_succ]
  refine wpAnyH_take (i := 7) (oi := { dst := some 67, op := Op.indexAddr 48 (Operand.tmp 65) (Operand.tmp 66), type := 0, pos := "ref.go:213", after := #[{ on := 5, ground := Ground.data }, { on := 6, ground := Ground.data }], guard := none }) (v := .pointer (some ⟨b0, t * 4, none⟩)) rfl (by kernel_rfl) (by kernel_rfl) (by kernel_rfl) (fun _ _ _ h => h) (Or.inl ⟨by rfl, fun w0 hSw => ?_⟩) hHeld ?_
  · (clear hSw; go_simp)
  simp only [Act.put, List.setIfInBounds_toArray, List.set_cons_zero, List.set_cons_succ]
  refine wpAnyH_take (i := 8) (oi := { dst := some 68, op := Op.load 69 (Operand.tmp 67), type := 69, pos := "ref.go:213", after := #[{ on := 7, ground := Ground.data }], guard := none }) (v := .agg #[.int .u64 v.x0, .int .u64 v.x1, .int .u64 v.x2, .int .u64 v.x3]) rfl (by kernel_rfl) (by kernel_rfl) (by kernel_rfl) (fun _ _ _ h => h) (Or.inl ⟨by rfl, fun w0 hSw => ?_⟩) hHeld ?_
  · (have hS : W.grownBy w0 V.ownBlock := hSw; have a0 := hS.cell hv0 n8; have a1 := hS.cell hv1 n8; have a2 := hS.cell hv2 n8; have a3 := hS.cell hv3 n8; clear hS hSw; go_simp)
  simp only [Act.put, List.setIfInBounds_toArray, List.set_cons_zero, List.set_cons_succ]
  refine wpAnyH_ready (rs := [9]) (by kernel_rfl) (by simp) ?_
  refine AllReadyH.cons (o := { dst := some 69, op := Op.call { callee := Callee.value (Operand.func 42), args := #[Operand.tmp 64, Operand.tmp 68], argTypes := #[69, 69] }, type := 69, pos := "ref.go:213", after := #[{ on := 4, ground := Ground.data }, { on := 8, ground := Ground.data }], guard := none }) rfl (fun K hK => ?_) AllReadyH.nil
  have HH := hidden hHeld
  clear hHeld
  go_simp
  refine (C1.out _ HH.out).mono ?_
  rintro e wn1 ⟨rfl, hb⟩
  replace OW := hidden (own_keepI OW.out hb)
  have SN := hidden (HH.out.trans (gbI hb _))
  clear HH hb C1
  go_wp2_with fail
  refine hK.out _ _ SN.out (fun hHeld1 => ?_)
  clear hK K SN
  refine wpAnyH_ready (rs := [10]) (by kernel_rfl) (by simp) ?_
  refine AllReadyH.cons (o := { dst := some 70, op := Op.buildSlice 48 1 #[(0, Operand.tmp 69)], type := 48, pos := "ref.go:213", after := #[{ on := 9, ground := Ground.data }], guard := none }) rfl (fun K hK => ?_) AllReadyH.nil
  have HH := hidden hHeld1
  clear hHeld1
  refine wp_buildR1 _ rfl r1 rfl ?_
  have H2 := hidden (show W.grownBy (wn1.alloc (.cells #[.int .u64 r1.x0, .int .u64 r1.x1, .int .u64 r1.x2, .int .u64 r1.x3] 69)) V.ownBlock from World.grownBy.trans HH.out (World.grownBy_alloc wn1 _ _))
  replace OW := hidden (OW.out.alloc (.cells #[.int .u64 r1.x0, .int .u64 r1.x1, .int .u64 r1.x2, .int .u64 r1.x3] 69))
  have CN := hidden (cells_new wn1 [.int .u64 r1.x0, .int .u64 r1.x1, .int .u64 r1.x2, .int .u64 r1.x3] 69)
  have ON : Hid (∀ u ∈ ([.int .u64 r1.x0, .int .u64 r1.x1, .int .u64 r1.x2, .int .u64 r1.x3] : List Value), u.oneCell' = true) := hidden (by simp [Value.oneCell'])
  refine hK.out _ _ H2.out (fun hHb => ?_)
  clear hK K HH
  simp only [Act.put, List.setIfInBounds_toArray, List.set_cons_zero, List.set_cons_succ]
  refine wpAnyH_ready (rs := [11]) (by kernel_rfl) (by simp) ?_
  refine AllReadyH.cons (o := { dst := some 71, op := Op.call { callee := Callee.builtin Builtin.append, args := #[Operand.tmp 60, Operand.tmp 70], argTypes := #[48, 48] }, type := 48, pos := "ref.go:213", after := #[{ on := 0, ground := Ground.data }, { on := 10, ground := Ground.data }, { on := 9, ground := Ground.chain }], guard := none }) rfl (fun K hK => ?_) AllReadyH.nil
  clear hHb
  refine wp_appendI (.tmp 60) (.tmp 70) 48 rfl B 69 i0 (.agg #[.int .u64 0, .int .u64 0, .int .u64 0, .int .u64 0]) 4 32 HU.out HI.out HZ0.out HZ1.out HZ2.out rfl (by decide) V n xs rfl OW.out ⟨wn1.heap.size, 0, none⟩ 1 1 [.int .u64 r1.x0, .int .u64 r1.x1, .int .u64 r1.x2, .int .u64 r1.x3] rfl rfl CN.out ON.out (by have := HBN.out.2; unfold maxLen; omega) (by have := HBN.out.2; omega) (Nat.le_trans HBN.out.1 H2.out.size) ?_
  intro va wa hoa hga _
  have H3 := hidden (H2.out.trans hga)
  have OA := hidden hoa
  clear hoa hga OW H2 CN ON
  refine hK.out _ _ H3.out (fun hHa => ?_)
  clear hK K
  simp only [Act.put, List.setIfInBounds_toArray, List.set_cons_zero, List.set_cons_succ]
  refine wpAnyH_take (i := 12) (oi := { dst := some 7, op := Op.assign (Operand.tmp 71), type := 48, pos := "ref.go:213", after := #[{ on := 11, ground := Ground.data }, { on := 11, ground := Ground.chain }, { on := 0, ground := Ground.phase }, { on := 1, ground := Ground.phase }, { on := 2, ground := Ground.phase }, { on := 3, ground := Ground.phase }, { on := 4, ground := Ground.phase }, { on := 5, ground := Ground.phase }, { on := 6, ground := Ground.phase }, { on := 7, ground := Ground.phase }, { on := 8, ground := Ground.phase }, { on := 9, ground := Ground.phase }, { on := 10, ground := Ground.phase }, { on := 11, ground := Ground.phase }], guard := none }) (v := va) rfl (by kernel_rfl) (by kernel_rfl) (by kernel_rfl) (fun _ _ _ h => h) (Or.inl ⟨by rfl, fun w0 hSw => ?_⟩) hHa ?_
  · (clear hSw; go_simp)
  simp only [Act.put, List.setIfInBounds_toArray, List.set_cons_zero, List.set_cons_succ]
  refine wpAnyH_done (by kernel_rfl) ?_ _
  refine NoPanic.normal ?_
  exact HQ.out _ _ _ OA.out H3.out
/-- the document's weights, behind j rounds -/
def wf (a : Nat → Int) (m j i : Nat) : E4 := lst (wt a m j i)
theorem wf_low (a : Nat → Int) (m j k : Nat) (h : k < 2 ^ j) : lst (wt a (m + 1) j k * (a m) ^ 7237005577332262213973186563042994240857116359379907606001950938285454250987) = wf a m (j + 1) k := by
  unfold wf
  rw [wt_front a m j k (by rw [Nat.pow_succ]; omega), Nat.mod_eq_of_lt h, Nat.div_eq_of_lt h]
  rfl
theorem wf_high (a : Nat → Int) (m j k : Nat) (h : k < 2 ^ j) : lst (wt a (m + 1) j k * a m) = wf a m (j + 1) (2 ^ j + k) := by
  unfold wf
  rw [wt_front a m j (2 ^ j + k) (by rw [Nat.pow_succ]; omega), Nat.add_mod_left, Nat.mod_eq_of_lt h, Nat.add_div_left _ (Nat.pow_pos (by omega)), Nat.div_eq_of_lt h]
  rfl
theorem wf_ws (a : Nat → Int) (n i : Nat) : wf a 0 n i = ws a n i := rfl
theorem same_zero (n : Int) : (lst n).same zero4 = decide (n % Sm.L = 0) := by
  by_cases h : n % Sm.L = 0
  · rw [decide_eq_true h]; exact (E4.same_iff _ _).2 ((zero_is n).2 h)
  · rw [decide_eq_false h]
    exact Bool.eq_false_iff.2 (fun e => h ((zero_is n).1 ((E4.same_iff _ _).1 e)))
set_option maxRecDepth 100000 in
set_option maxHeartbeats 16000000 in
theorem rWeights_long (v : Value) (n : Nat) (g : Nat → E4) (w : World) (hv : Ln w v n g) (h : 10 < n) :
    Calls Tryd.prog 15 #[v] w fun e w' => e = .returned (.tuple #[.slice none 0 0, .int .i64 2]) ∧ Below w.heap.size w w' := by
  obtain ⟨p, c, rfl, -⟩ := hv
  have l0 : (10 : Int) < (n : Int) := by omega
  go_enter Tryd.func15, Tryd.ntmps15
  go_wp2_with fail
  refine bodyPost_ret (v := .tuple #[.slice none 0 0, .int .i64 2]) (by simp [results, Tryd.results15, go_sem]) rfl ⟨rfl, Below.refl _ _⟩

set_option maxRecDepth 100000 in
set_option maxHeartbeats 16000000 in
theorem rWeights_zero (v : Value) (n : Nat) (a : Nat → Int) (w : World) (hv : Ln w v n (fun k => lst (a k))) (h : n ≤ 10) (hz : ∃ k, k < n ∧ a k % Sm.L = 0) :
    Calls Tryd.prog 15 #[v] w fun e w' => e = .returned (.tuple #[.slice none 0 0, .int .i64 4]) ∧ Below w.heap.size w w' := by
  obtain ⟨p, c, rfl, hr⟩ := hv
  have hn0 : 0 < n := by obtain ⟨k, h1, _⟩ := hz; omega
  obtain ⟨b, rfl, hR⟩ := hr hn0
  have HZ := hidden hz
  have HR := hidden hR
  have HN := hidden h
  have l0 : ¬ (10 : Int) < (n : Int) := by omega
  have nn0 : (0 : Int) ≤ (n : Int) := by omega
  clear hr hR hz h hn0
  go_enter Tryd.func15, Tryd.ntmps15
  go_wp2_with fail
  clear l0
  go_loopw [4] (fun iv' w' => ∃ k : Nat, k ≤ n ∧ iv' = .int .i64 k ∧ Hid (∀ j, j < k → ¬ a j % Sm.L = 0) ∧ Hid (Below w.heap.size w w')) (fun i _ => n - (intOf i).toNat)
  case atStart => exact ⟨0, by omega, rfl, hidden (fun j hj => by omega), hidden (Below.refl _ _)⟩
  case round =>
    obtain ⟨k, hk, rfl, hN, hB⟩ := hrel
    by_cases hkn : k < n
    · have k0 : (0 : Int) ≤ (k : Int) := by omega
      have k1 : (k : Int) < (n : Int) := by omega
      have w9 : IntKind.i64.wrap ((k : Int) + 1) = (k : Int) + 1 := IntWalk.i64_in _ (by have := HN.out; omega)
      have rx := HR.out.keep hB.out
      have x0 := rx.c0 k hkn
      have x1 := rx.c1 k hkn
      have x2 := rx.c2 k hkn
      have x3 := rx.c3 k hkn
      obtain ⟨z, hz⟩ : ∃ z, lst (a k) = z := ⟨_, rfl⟩
      simp only [hz] at x0 x1 x2 x3
      have IZ := hidden (fun w => rIsZero_any z w)
      simp only [E4.v] at IZ
      rw [← hz, same_zero, hz] at IZ
      clear rx hz
      by_cases h0 : a k % Sm.L = 0
      · rw [show decide (a k % Sm.L = 0) = true from decide_eq_true h0] at IZ
        clear h0
        go_wp2_with (first | (go_at_call 39; refine (IZ.out _).mono ?_; rintro e w1 ⟨rfl, hb1⟩; have B1 := hidden (bl_trans hB.out hb1); clear hb1))
        refine bodyPost_ret (v := .tuple #[.slice none 0 0, .int .i64 4]) (by simp [results, Tryd.results15, go_sem]) rfl ⟨rfl, B1.out⟩
      · rw [show decide (a k % Sm.L = 0) = false from decide_eq_false h0] at IZ
        have H0 := hidden h0
        clear h0
        go_wp2_with (first | (go_at_call 39; refine (IZ.out _).mono ?_; rintro e w1 ⟨rfl, hb1⟩; have B1 := hidden (bl_trans hB.out hb1); clear hb1))
        go_roundw
        case rel => exact ⟨k + 1, by omega, by go_num, hidden (fun j hj => by
          by_cases hjk : j = k
          · subst hjk; exact H0.out
          · exact hN.out j (by omega)), B1⟩
        case measure => simp [intOf]; omega
    · exfalso
      obtain ⟨j, hj, h0⟩ := HZ.out
      exact hN.out j (by omega) h0
end Go.Proofs.YtoaobkmddbilhaaDoor
namespace Go.Proofs.YtoaobkmddbilhaaDoor
open Go.RowKit
set_option linter.unusedVariables false
theorem Rws.oneR (w : World) (r : E4) : Rws (w.alloc (.cells #[.int .u64 r.x0, .int .u64 r.x1, .int .u64 r.x2, .int .u64 r.x3] 69)) w.heap.size 1 (fun _ => r) := Rws.one w r 69
theorem step_wf {w : World} {B n : Nat} {v : Value} {f : Nat → E4} {r : E4} (h1 : r = f n) (h : w.ownsRow B 69 4 v (n + 1) (svs n f ++ [.int .u64 r.x0, .int .u64 r.x1, .int .u64 r.x2, .int .u64 r.x3])) : w.ownsRow B 69 4 v (n + 1) (svs (n + 1) f) := by
  subst h1
  rw [svs_succ]
  exact h
set_option maxRecDepth 100000 in
set_option maxHeartbeats 16000000 in
theorem rWeights_in (v : Value) (n : Nat) (a : Nat → Int) (w : World) (hv : Ln w v n (fun k => lst (a k))) (h : n ≤ 10) (hz : ∀ k, k < n → ¬ a k % Sm.L = 0) :
    Calls Tryd.prog 15 #[v] w fun e w' => ∃ bl cl : Nat, e = .returned (.tuple #[.slice (some ⟨bl, 0, none⟩) (2 ^ n) cl, .int .i64 0]) ∧ Rws w' bl (2 ^ n) (ws a n) ∧ Below w.heap.size w w' := by
  obtain ⟨p, c, rfl, hr⟩ := hv
  have HZ := hidden hz
  have HR := hidden hr
  have HN := hidden h
  have l0 : ¬ (10 : Int) < (n : Int) := by omega
  have nn0 : (0 : Int) ≤ (n : Int) := by omega
  have IT := hidden (fun w => rInt_any 1 w)
  simp only [E4.v] at IT
  clear hr hz h
  go_enter Tryd.func15, Tryd.ntmps15
  go_wp2_with fail
  clear l0
  go_loopw [4] (fun iv' w' => ∃ k : Nat, k ≤ n ∧ iv' = .int .i64 k ∧ Hid (Below w.heap.size w w')) (fun i _ => n - (intOf i).toNat)
  case atStart => exact ⟨0, by omega, rfl, hidden (Below.refl _ _)⟩
  case round =>
    obtain ⟨k, hk, rfl, hB⟩ := hrel
    by_cases hkn : k < n
    · have k0 : (0 : Int) ≤ (k : Int) := by omega
      have k1 : (k : Int) < (n : Int) := by omega
      have w9 : IntKind.i64.wrap ((k : Int) + 1) = (k : Int) + 1 := IntWalk.i64_in _ (by have := HN.out; omega)
      obtain ⟨b, rfl, hR⟩ := HR.out (by omega)
      have rx := hR.keep hB.out
      have x0 := rx.c0 k hkn
      have x1 := rx.c1 k hkn
      have x2 := rx.c2 k hkn
      have x3 := rx.c3 k hkn
      obtain ⟨z, hz⟩ : ∃ z, lst (a k) = z := ⟨_, rfl⟩
      simp only [hz] at x0 x1 x2 x3
      have IZ := hidden (fun w => rIsZero_any z w)
      simp only [E4.v] at IZ
      rw [← hz, same_zero, hz, show decide (a k % Sm.L = 0) = false from decide_eq_false (HZ.out k hkn)] at IZ
      clear rx hz hR
      go_wp2_with (first | (go_at_call 39; refine (IZ.out _).mono ?_; rintro e w1 ⟨rfl, hb1⟩; have B1 := hidden (bl_trans hB.out hb1); clear hb1))
      go_roundw
      case rel => exact ⟨k + 1, by omega, by go_num, B1⟩
      case measure => simp [intOf]; omega
    · obtain rfl : n = k := by omega
      have lq : ¬ (n : Int) < (n : Int) := by omega
      go_upto_region 8 with fail
      clear lq
      go_cut [5] (fun vx wx => ∃ bl : Nat, vx = .slice (some ⟨bl, 0, none⟩) 1 1 ∧ Rws wx bl 1 (wf a n 0) ∧ Below wr.heap.size wr wx)
      case first =>
        go_wp2_with fail
        refine (IT.out _).mono ?_
        rintro e w2 ⟨rfl, hb2⟩
        have R0 := hidden ((Rws.one w2 (⟨1, 0, 0, 0⟩ : E4) 69).congr (f := wf a n 0) (fun k hk => by unfold wf; rw [wt_zero, lst1]; rfl))
        have B0 := hidden (bl_trans hb2 (bl_alloc w2 (.cells #[.int .u64 1, .int .u64 0, .int .u64 0, .int .u64 0] 69)))
        clear hb2 IT
        go_wp2_with fail
        go_meet
        exact ⟨_, rfl, R0.out, B0.out⟩
      case rest =>
      obtain ⟨bl0, rfl, r0, b0⟩ := hcut
      have R0 := hidden r0
      have B0 := hidden (bl_trans hB.out b0)
      clear r0 b0 hB IT
      generalize wc = w2 at *
      have l8 : IntKind.i64.wrap ((n : Int) - 1) = (n : Int) - 1 := IntWalk.i64_in _ (by have := HN.out; omega)
      go_wp2_with fail
      clear l8
      go_loopw [5, 6] (fun ov iv' w' => ∃ m j M bl cl : Nat, m + j = n ∧ M = 2 ^ j ∧ iv' = .int .i64 ((m : Int) - 1) ∧ ov = .slice (some ⟨bl, 0, none⟩) M cl ∧ Hid (Rws w' bl M (wf a m j)) ∧ Hid (Below w2.heap.size w2 w')) (fun _ i _ => (intOf i + 1).toNat)
      case atStart => exact ⟨n, 0, 1, bl0, 1, by omega, rfl, rfl, rfl, R0, hidden (Below.refl _ _)⟩
      case round =>
        clear R0
        obtain ⟨m0, j, M, bl, cl, hmj, hM, rfl, rfl, hRl, hB⟩ := hrel
        by_cases hm0 : 0 < m0
        · obtain ⟨m, rfl⟩ : ∃ m, m0 = m + 1 := ⟨m0 - 1, by omega⟩
          have e1 : ((m + 1 : Nat) : Int) - 1 = (m : Int) := by omega
          rw [e1]
          have t0 : (0 : Int) ≤ (m : Int) := by omega
          have t1 : (m : Int) < (n : Int) := by omega
          have htn : m < n := by omega
          have hM1 : M ≤ 512 := by
            rw [hM]
            exact Nat.le_trans (Nat.pow_le_pow_right (by omega) (show j ≤ 9 by have := HN.out; omega)) (by decide)
          have w8 : IntKind.i64.wrap ((m : Int) - 1) = (m : Int) - 1 := IntWalk.i64_in _ (by have := HN.out; omega)
          have mm0 : (0 : Int) ≤ (M : Int) := by omega
          obtain ⟨b, rfl, hR⟩ := HR.out (by omega)
          have rx := (hR.keep B0.out).keep hB.out
          have x0 := rx.c0 m htn
          have x1 := rx.c1 m htn
          have x2 := rx.c2 m htn
          have x3 := rx.c3 m htn
          obtain ⟨z, hz⟩ : ∃ z, lst (a m) = z := ⟨_, rfl⟩
          obtain ⟨q, hq⟩ : ∃ q, iv (a m) = q := ⟨_, rfl⟩
          simp only [hz] at x0 x1 x2 x3
          have IV : Hid (∀ w, Calls Tryd.prog 41 #[z.v] w fun e w' => e = .returned q.v ∧ Below w.heap.size w w') := hidden (fun w => by rw [← hz, ← hq]; exact rInvert_any (a m) w)
          simp only [E4.v] at IV
          have HM := hidden hM
          have HM1 := hidden hM1
          have EZ := hidden hz
          have EQ := hidden hq
          have RX := hidden rx
          clear hz hq rx hR hM hM1 hm0 e1
          go_upto_region 14 with (first | (go_at_call 41; refine (IV.out _).mono ?_; rintro e w4 ⟨rfl, hb4⟩; have B4 := hidden hb4; clear hb4))
          have BQ := hidden (Blc.new w4 q 69)
          have BA := hidden (bl_trans B4.out (bl_alloc w4 (.cells #[.int .u64 q.x0, .int .u64 q.x1, .int .u64 q.x2, .int .u64 q.x3] 69)))
          have RL := hidden (hRl.out.keep BA.out)
          have RU := hidden (RX.out.keep BA.out)
          have B5 := hidden (bl_trans hB.out BA.out)
          clear hRl hB BA RX B4 x0 x1 x2 x3 IV
          generalize w4.alloc (.cells #[.int .u64 q.x0, .int .u64 q.x1, .int .u64 q.x2, .int .u64 q.x3] 69) = w5 at *
          generalize w4.heap.size = T8 at *
          clear w4
          go_wp2_with fail

          go_loopw [7, 9] (fun v iv' w' => ∃ k : Nat, k ≤ M ∧ iv' = .int .i64 k ∧ Hid (w'.ownsRow w5.heap.size 69 4 v (k) (svs (k) (wf a m (j + 1)))) ∧ Hid (Below w5.heap.size w5 w')) (fun _ i _ => M - (intOf i).toNat)
          case atStart => exact ⟨0, by omega, rfl, hidden (World.ownsRow_nil _ _ _ _), hidden (Below.refl _ _)⟩
          case round =>
            skip
            obtain ⟨k, hk, rfl, hO, hB⟩ := hrel
            by_cases hkm : k < M
            · have q0 : (0 : Int) ≤ (k : Int) := by omega
              have q1 : (k : Int) < (M : Int) := by omega
              have w9 : IntKind.i64.wrap ((k : Int) + 1) = (k : Int) + 1 := IntWalk.i64_in _ (by have := HM1.out; omega)
              have rl := RL.out.keep hB.out
              have y0 := rl.c0 k hkm
              have y1 := rl.c1 k hkm
              have y2 := rl.c2 k hkm
              have y3 := rl.c3 k hkm
              obtain ⟨y, hy⟩ : ∃ y, wf a (m + 1) j k = y := ⟨_, rfl⟩
              rw [hy] at y0 y1 y2 y3
              have O7 := hO
              have lt5 : ∀ x, u7.ownBlock = some x → w5.heap.size ≤ x := fun x h => (O7.out.lt x h).1
              have nb : some bl ≠ u7.ownBlock := fun e => by have := lt5 _ e.symm; have := RL.out.lt; omega
              have hs5 := hB.out.size
              have bq := BQ.out
              have n8 : some T8 ≠ u7.ownBlock := fun e => by have := lt5 _ e.symm; have := bq.lt; omega
              obtain ⟨r1, hr1⟩ : ∃ r, lst (wt a (m + 1) j k * (a m) ^ 7237005577332262213973186563042994240857116359379907606001950938285454250987) = r := ⟨_, rfl⟩
              have C1 : Hid (∀ x, wr.grownBy x u7.ownBlock → Calls Tryd.prog 42 #[.agg #[.int .u64 y.x0, .int .u64 y.x1, .int .u64 y.x2, .int .u64 y.x3], .agg #[.int .u64 q.x0, .int .u64 q.x1, .int .u64 q.x2, .int .u64 q.x3]] x fun e w' => e = .returned (.agg #[.int .u64 r1.x0, .int .u64 r1.x1, .int .u64 r1.x2, .int .u64 r1.x3]) ∧ Below x.heap.size x w') := hidden (fun x h => by
                have := rMul_any (wt a (m + 1) j k) ((a m) ^ 7237005577332262213973186563042994240857116359379907606001950938285454250987) x
                rw [show lst (wt a (m + 1) j k) = y from hy, show lst ((a m) ^ 7237005577332262213973186563042994240857116359379907606001950938285454250987) = q from EQ.out, hr1] at this
                exact this)
              have E1 : Hid (r1 = wf a m (j + 1) k) := hidden (by rw [← hr1]; exact wf_low a m j k (by rw [← HM.out]; exact hkm))
              have LT := hidden lt5
              clear hr1 hy rl lt5
              go_upto_region 17 with fail
              refine rw17 _ u7 _ w5.heap.size (k) bl M cl k T8 y q r1 _ _ _ _ _ _ _ _ _ _ _ _ _ _ _ _ _ _ _ _ _ _ _ _ _ _ _ _ _ _ _ _ _ _ _ _ _ _ _ _ _ _ _ _ _ _ _ _ _ _ _ _ _ _ _ _ _ _ _ _ _ _ _ _ _ _ _ _ _ _ wr O7.out (by have := HM1.out; omega) hs5 q0 q1 nb n8 y0 y1 y2 y3 (cell_keep bq.c0 hB.out) (cell_keep bq.c1 hB.out) (cell_keep bq.c2 hB.out) (cell_keep bq.c3 hB.out) C1 (hidden ?_)
              intro xb v' wz hoz hgz
              have OZ := hidden (step_wf E1.out hoz)
              have BZ := hidden (below_transI hB.out (below_growI hgz hs5 LT.out))
              clear hoz hgz C1 y0 y1 y2 y3 hB hO O7
              go_wp2_with fail
              go_roundw
              case rel => exact ⟨k + 1, by omega, by go_num, OZ, BZ⟩
              case measure => simp [intOf]; omega
            · obtain rfl : M = k := by omega
              have lq : ¬ (M : Int) < (M : Int) := by omega
              have OS := hidden hO.out
              have BS := hB
              clear hO hB
              go_wp2_with fail

              go_loopw [7, 10] (fun v iv' w' => ∃ k : Nat, k ≤ M ∧ iv' = .int .i64 k ∧ Hid (w'.ownsRow w5.heap.size 69 4 v (M + k) (svs (M + k) (wf a m (j + 1)))) ∧ Hid (Below w5.heap.size w5 w')) (fun _ i _ => M - (intOf i).toNat)
              case atStart => exact ⟨0, by omega, rfl, hidden OS.out, BS⟩
              case round =>
                clear OS BS
                obtain ⟨k, hk, rfl, hO, hB⟩ := hrel
                by_cases hkm : k < M
                · have q0 : (0 : Int) ≤ (k : Int) := by omega
                  have q1 : (k : Int) < (M : Int) := by omega
                  have w9 : IntKind.i64.wrap ((k : Int) + 1) = (k : Int) + 1 := IntWalk.i64_in _ (by have := HM1.out; omega)
                  have rl := RL.out.keep hB.out
                  have y0 := rl.c0 k hkm
                  have y1 := rl.c1 k hkm
                  have y2 := rl.c2 k hkm
                  have y3 := rl.c3 k hkm
                  obtain ⟨y, hy⟩ : ∃ y, wf a (m + 1) j k = y := ⟨_, rfl⟩
                  rw [hy] at y0 y1 y2 y3
                  have O7 := hO
                  have lt5 : ∀ x, u7.ownBlock = some x → w5.heap.size ≤ x := fun x h => (O7.out.lt x h).1
                  have nb : some bl ≠ u7.ownBlock := fun e => by have := lt5 _ e.symm; have := RL.out.lt; omega
                  have hs5 := hB.out.size
                  have ru := RU.out
                  have n8 : some b ≠ u7.ownBlock := fun e => by have := lt5 _ e.symm; have := ru.lt; omega
                  have v0 := cell_keep (ru.c0 m htn) hB.out
                  have v1 := cell_keep (ru.c1 m htn) hB.out
                  have v2 := cell_keep (ru.c2 m htn) hB.out
                  have v3 := cell_keep (ru.c3 m htn) hB.out
                  simp only [EZ.out] at v0 v1 v2 v3
                  obtain ⟨r1, hr1⟩ : ∃ r, lst (wt a (m + 1) j k * a m) = r := ⟨_, rfl⟩
                  have C1 : Hid (∀ x, wr.grownBy x u7.ownBlock → Calls Tryd.prog 42 #[.agg #[.int .u64 y.x0, .int .u64 y.x1, .int .u64 y.x2, .int .u64 y.x3], .agg #[.int .u64 z.x0, .int .u64 z.x1, .int .u64 z.x2, .int .u64 z.x3]] x fun e w' => e = .returned (.agg #[.int .u64 r1.x0, .int .u64 r1.x1, .int .u64 r1.x2, .int .u64 r1.x3]) ∧ Below x.heap.size x w') := hidden (fun x h => by
                    have := rMul_any (wt a (m + 1) j k) (a m) x
                    rw [show lst (wt a (m + 1) j k) = y from hy, EZ.out, hr1] at this
                    exact this)
                  have E1 : Hid (r1 = wf a m (j + 1) (M + k)) := hidden (by rw [← hr1, HM.out]; exact wf_high a m j k (by rw [← HM.out]; exact hkm))
                  have LT := hidden lt5
                  clear hr1 hy rl lt5
                  go_upto_region 21 with fail
                  refine rw21 _ u7 _ w5.heap.size (M + k) bl M cl k b n c m y z r1 _ _ _ _ _ _ _ _ _ _ _ _ _ _ _ _ _ _ _ _ _ _ _ _ _ _ _ _ _ _ _ _ _ _ _ _ _ _ _ _ _ _ _ _ _ _ _ _ _ _ _ _ _ _ _ _ _ _ _ _ _ _ _ _ _ _ _ _ _ wr O7.out (by have := HM1.out; omega) hs5 q0 q1 t0 t1 nb n8 y0 y1 y2 y3 v0 v1 v2 v3 C1 (hidden ?_)
                  intro xb v' wz hoz hgz
                  have OZ := hidden (step_wf E1.out hoz)
                  have BZ := hidden (below_transI hB.out (below_growI hgz hs5 LT.out))
                  clear hoz hgz C1 y0 y1 y2 y3 hB hO O7
                  go_wp2_with fail
                  go_roundw
                  case rel => exact ⟨k + 1, by omega, by go_num, OZ, BZ⟩
                  case measure => simp [intOf]; omega
                · obtain rfl : M = k := by omega
                  have lq : ¬ (M : Int) < (M : Int) := by omega
                  have mpos : 0 < M := by rw [HM.out]; exact Nat.pow_pos (by omega)
                  obtain ⟨gg, cc, rfl⟩ : ∃ gg cc : Nat, u7 = .slice (some ⟨gg, 0, none⟩) (M + M) cc := by
                    rcases hO.out.2 with ⟨_, h0⟩ | ⟨gg, cap2, cur, h1, _⟩
                    · omega
                    · exact ⟨gg, cap2, h1⟩
                  have R8 := hidden (Rws.ownI hO.out)
                  have B8 := hidden (below_transI B5.out (below_lessI hB.out B5.out.size))
                  clear hO hB mpos
                  go_wp2_with fail
                  go_roundw
                  case rel => exact ⟨m, j + 1, M + M, gg, cc, by omega, by rw [HM.out, Nat.pow_succ]; omega, by go_num, rfl, R8, B8⟩
                  case measure => simp [intOf]
        · obtain rfl : m0 = 0 := by omega
          obtain rfl : j = n := by omega
          have BF := hidden (bl_trans B0.out hB.out)
          have HM := hidden hM
          have RF := hRl
          clear hB hM hRl
          go_wp2_with fail
          refine bodyPost_ret (v := .tuple #[.slice (some ⟨bl, 0, none⟩) M cl, .int .i64 0]) (by simp [results, Tryd.results15, go_sem]) rfl ?_
          have RG : Rws wr bl (2 ^ j) (ws a j) := by rw [← HM.out]; exact RF.out
          first | exact ⟨bl, cl, by rw [HM.out], RG, BF.out⟩ | exact ⟨bl, ⟨cl, by rw [HM.out]⟩, RG, BF.out⟩
end Go.Proofs.YtoaobkmddbilhaaDoor
namespace Go.Proofs.YtoaobkmddbilhaaDoor
open Go.RowKit
set_option linter.unusedVariables false
def is1o : Array Oper := #[{ dst := some 5, op := Op.load 26 (Operand.tmp 2), type := 26, pos := "law.go:120", after := #[], guard := none },
  { dst := some 6, op := Op.call { callee := Callee.value (Operand.func 43), args := #[Operand.tmp 5], argTypes := #[25] }, type := 69, pos := "law.go:120", after := #[{ on := 0, ground := Ground.data }], guard := none },
  { dst := some 7, op := Op.load 69 (Operand.tmp 3), type := 69, pos := "law.go:120", after := #[], guard := none },
  { dst := some 8, op := Op.binOp BinOp.eql 69 (Operand.tmp 6) (Operand.tmp 7) 69, type := 4, pos := "law.go:120", after := #[{ on := 1, ground := Ground.data }, { on := 2, ground := Ground.data }], guard := none },
  { dst := some 4, op := Op.assign (Operand.tmp 8), type := 4, pos := "law.go:120", after := #[{ on := 3, ground := Ground.data }, { on := 1, ground := Ground.chain }, { on := 0, ground := Ground.phase }, { on := 1, ground := Ground.phase }, { on := 2, ground := Ground.phase }, { on := 3, ground := Ground.phase }], guard := none }]
set_option maxRecDepth 100000 in
set_option maxHeartbeats 16000000 in
theorem is1 (Q : Exit → Act → World → Prop) (T2 T3 : Nat) (a q : E4) (u0 u1 u4 u5 u6 u7 u8 : Value) (W : World)
    (ha0 : W.cell? ⟨T2, 0, none⟩ = some (.int .u64 a.x0)) (ha1 : W.cell? ⟨T2, 1, none⟩ = some (.int .u64 a.x1)) (ha2 : W.cell? ⟨T2, 2, none⟩ = some (.int .u64 a.x2)) (ha3 : W.cell? ⟨T2, 3, none⟩ = some (.int .u64 a.x3))
    (hq0 : W.cell? ⟨T3, 0, none⟩ = some (.int .u64 q.x0)) (hq1 : W.cell? ⟨T3, 1, none⟩ = some (.int .u64 q.x1)) (hq2 : W.cell? ⟨T3, 2, none⟩ = some (.int .u64 q.x2)) (hq3 : W.cell? ⟨T3, 3, none⟩ = some (.int .u64 q.x3))
    (C1 : Hid (∀ x, Calls Tryd.prog 43 #[.agg #[.int .u64 a.x0, .int .u64 a.x1, .int .u64 a.x2, .int .u64 a.x3]] x fun e w' => e = .returned (.agg #[.int .u64 q.x0, .int .u64 q.x1, .int .u64 q.x2, .int .u64 q.x3]) ∧ Below x.heap.size x w'))
    (HQ : Hid (∀ wz, Below W.heap.size W wz → Q .normal ⟨#[u0, u1, .pointer (some ⟨T2, 0, none⟩), .pointer (some ⟨T3, 0, none⟩), .bool true, .agg #[.int .u64 a.x0, .int .u64 a.x1, .int .u64 a.x2, .int .u64 a.x3], .agg #[.int .u64 q.x0, .int .u64 q.x1, .int .u64 q.x2, .int .u64 q.x3], .agg #[.int .u64 q.x0, .int .u64 q.x1, .int .u64 q.x2, .int .u64 q.x3], .bool true], []⟩ wz)) : (Code.region 1 is1o true).wp Tryd.prog Q ⟨#[u0, u1, .pointer (some ⟨T2, 0, none⟩), .pointer (some ⟨T3, 0, none⟩), u4, u5, u6, u7, u8], []⟩ W := by
  have hqq : ∀ w, (Op.equalIn 10000 69 (.agg #[.int .u64 q.x0, .int .u64 q.x1, .int .u64 q.x2, .int .u64 q.x3]) (.agg #[.int .u64 q.x0, .int .u64 q.x1, .int .u64 q.x2, .int .u64 q.x3])).run Tryd.prog w = .ok true w := fun w => (requal q q w).trans (by rw [E4.same_self])
  unfold is1o
  refine wp_region_noPanic ?_
  refine wp_region_held_drew (S := fun x => Below W.heap.size W x) (by kernel_rfl) (drew_blS W) (fun hHeld => ?_)
  refine wpAnyH_take (i := 0) (oi := { dst := some 5, op := Op.load 26 (Operand.tmp 2), type := 26, pos := "law.go:120", after := #[], guard := none }) (v := .agg #[.int .u64 a.x0, .int .u64 a.x1, .int .u64 a.x2, .int .u64 a.x3]) rfl (by kernel_rfl) (by kernel_rfl) (by kernel_rfl) (fun _ _ _ h => h) (Or.inl ⟨by rfl, fun w0 hSw => ?_⟩) hHeld ?_
  · (have hS : Below W.heap.size W w0 := hSw; have a0 := cell_keep ha0 hS; have a1 := cell_keep ha1 hS; have a2 := cell_keep ha2 hS; have a3 := cell_keep ha3 hS; clear hS hSw; go_simp)
  simp only [Act.put, List.setIfInBounds_toArray, List.set_cons_zero, List.set_cons_succ]
  refine wpAnyH_take (i := 2) (oi := { dst := some 7, op := Op.load 69 (Operand.tmp 3), type := 69, pos := "law.go:120", after := #[], guard := none }) (v := .agg #[.int .u64 q.x0, .int .u64 q.x1, .int .u64 q.x2, .int .u64 q.x3]) rfl (by kernel_rfl) (by kernel_rfl) (by kernel_rfl) (fun _ _ _ h => h) (Or.inl ⟨by rfl, fun w0 hSw => ?_⟩) hHeld ?_
  · (have hS : Below W.heap.size W w0 := hSw; have a0 := cell_keep hq0 hS; have a1 := cell_keep hq1 hS; have a2 := cell_keep hq2 hS; have a3 := cell_keep hq3 hS; clear hS hSw; go_simp)
  simp only [Act.put, List.setIfInBounds_toArray, List.set_cons_zero, List.set_cons_succ]
  refine wpAnyH_ready (rs := [1]) (by kernel_rfl) (by simp) ?_
  refine AllReadyH.cons (o := { dst := some 6, op := Op.call { callee := Callee.value (Operand.func 43), args := #[Operand.tmp 5], argTypes := #[25] }, type := 69, pos := "law.go:120", after := #[{ on := 0, ground := Ground.data }], guard := none }) rfl (fun K hK => ?_) AllReadyH.nil
  have HH := hidden hHeld
  clear hHeld
  go_simp
  refine (C1.out _).mono ?_
  rintro e wn1 ⟨rfl, hb⟩
  have SN := hidden (bl_trans HH.out hb)
  clear HH hb C1
  go_wp2_with fail
  refine hK.out _ _ SN.out (fun hHeld1 => ?_)
  clear hK K SN
  have FIN := hidden hHeld1
  refine wpAnyH_take (i := 3) (oi := { dst := some 8, op := Op.binOp BinOp.eql 69 (Operand.tmp 6) (Operand.tmp 7) 69, type := 4, pos := "law.go:120", after := #[{ on := 1, ground := Ground.data }, { on := 2, ground := Ground.data }], guard := none }) (v := .bool true) rfl (by kernel_rfl) (by kernel_rfl) (by kernel_rfl) (fun _ _ _ h => h) (Or.inl ⟨by rfl, fun w0 hSw => ?_⟩) hHeld1 ?_
  · (clear hSw; go_simp)
  simp only [Act.put, List.setIfInBounds_toArray, List.set_cons_zero, List.set_cons_succ]
  refine wpAnyH_take (i := 4) (oi := { dst := some 4, op := Op.assign (Operand.tmp 8), type := 4, pos := "law.go:120", after := #[{ on := 3, ground := Ground.data }, { on := 1, ground := Ground.chain }, { on := 0, ground := Ground.phase }, { on := 1, ground := Ground.phase }, { on := 2, ground := Ground.phase }, { on := 3, ground := Ground.phase }], guard := none }) (v := .bool true) rfl (by kernel_rfl) (by kernel_rfl) (by kernel_rfl) (fun _ _ _ h => h) (Or.inl ⟨by rfl, fun w0 hSw => ?_⟩) hHeld1 ?_
  · (clear hSw; go_simp)
  simp only [Act.put, List.setIfInBounds_toArray, List.set_cons_zero, List.set_cons_succ]
  refine wpAnyH_done (by kernel_rfl) ?_ _
  refine NoPanic.normal ?_
  exact HQ.out _ FIN.out
set_option maxRecDepth 100000 in
set_option maxHeartbeats 16000000 in
theorem isScalar_any (a q : E4) (w : World) (ha : a.ok) (hq : lst a.n = q) :
    Calls Tryd.prog 44 #[a.v, q.v] w fun e w' => e = .returned (.bool true) ∧ Below w.heap.size w w' := by
  have LE := hidden (fun w => fix (rleast_any a w ha) hq)
  simp only [E4.v] at LE
  have A1 := Blc.new w a 26
  have L1 := bl_alloc w (.cells #[.int .u64 a.x0, .int .u64 a.x1, .int .u64 a.x2, .int .u64 a.x3] 26)
  have A2 := Blc.new (w.alloc (.cells #[.int .u64 a.x0, .int .u64 a.x1, .int .u64 a.x2, .int .u64 a.x3] 26)) q 69
  have L2 := bl_alloc (w.alloc (.cells #[.int .u64 a.x0, .int .u64 a.x1, .int .u64 a.x2, .int .u64 a.x3] 26)) (.cells #[.int .u64 q.x0, .int .u64 q.x1, .int .u64 q.x2, .int .u64 q.x3] 69)
  have BB := hidden (bl_trans L1 L2)
  have h0 := hidden (cell_keep A1.c0 L2)
  have h1 := hidden (cell_keep A1.c1 L2)
  have h2 := hidden (cell_keep A1.c2 L2)
  have h3 := hidden (cell_keep A1.c3 L2)
  have sz : (w.alloc (.cells #[.int .u64 a.x0, .int .u64 a.x1, .int .u64 a.x2, .int .u64 a.x3] 26)).heap.size = w.heap.size + 1 := by simp
  rw [sz] at A2
  replace A2 := hidden A2
  clear A1 L1 L2 ha hq sz
  unfold E4.v
  go_enter Tryd.func44, Tryd.ntmps44
  go_upto_region 1 with fail
  have z0 := A2.out.c0
  have z1 := A2.out.c1
  have z2 := A2.out.c2
  have z3 := A2.out.c3
  clear A2
  refine is1 _ _ _ a q _ _ _ _ _ _ _ _ h0.out h1.out h2.out h3.out z0 z1 z2 z3 LE (hidden ?_)
  intro wz hbz
  have BZ := hidden (bl_trans BB.out hbz)
  clear hbz z0 z1 z2 z3
  go_wp2_with fail
  refine bodyPost_ret (v := .bool true) (by simp [results, Tryd.results44, go_sem]) rfl ⟨rfl, BZ.out⟩
set_option maxRecDepth 100000 in
set_option maxHeartbeats 16000000 in
theorem isScalars_any (v1 v2 : Value) (n : Nat) (f : Nat → E4) (w : World) (hn : n ≤ 4398046510976) (hf : ∀ k, k < n → (f k).ok ∧ lst (f k).n = f k) (h1 : Ln w v1 n f) (h2 : Ln w v2 n f) :
    Calls Tryd.prog 17 #[v1, v2] w fun e w' => e = .returned (.bool true) ∧ Below w.heap.size w w' := by
  obtain ⟨p1, c1, rfl, hp1⟩ := h1
  obtain ⟨p2, c2, rfl, hp2⟩ := h2
  have H1 := hidden hp1
  have H2 := hidden hp2
  have HF := hidden hf
  have HN := hidden hn
  have nn0 : (0 : Int) ≤ (n : Int) := by omega
  clear hp1 hp2 hf hn
  go_enter Tryd.func17, Tryd.ntmps17
  go_wp2_with fail
  go_loopw [5] (fun iv w' => ∃ i : Nat, i ≤ n ∧ iv = .int .i64 i ∧ Hid (Below w.heap.size w w')) (fun i _ => n - (intOf i).toNat)
  case atStart => exact ⟨0, by omega, rfl, hidden (Below.refl _ _)⟩
  case round =>
    obtain ⟨i, hi, rfl, hbl⟩ := hrel
    by_cases hin : i < n
    · obtain ⟨b, rfl, r1⟩ := H1.out (by omega)
      obtain ⟨sb, rfl, r2⟩ := H2.out (by omega)
      obtain ⟨u, hu⟩ : ∃ u, f i = u := ⟨_, rfl⟩
      have zok := HF.out i hin
      rw [hu] at zok
      have IS := hidden (fun w => isScalar_any u u w zok.1 zok.2)
      simp only [E4.v] at IS
      have ii0 : (0 : Int) ≤ (i : Int) := by omega
      have ii1 : (i : Int) < (n : Int) := by omega
      have w9 : IntKind.i64.wrap ((i : Int) + 1) = (i : Int) + 1 := IntWalk.i64_in _ (by have := HN.out; omega)
      have KS : Hid (∀ w', Below w.heap.size w w' → (fun w' => Below w.heap.size w w' ∧ w'.cell? ⟨b, i * 4, none⟩ = some (.int .u64 u.x0) ∧ w'.cell? ⟨b, i * 4 + 1, none⟩ = some (.int .u64 u.x1) ∧ w'.cell? ⟨b, i * 4 + 2, none⟩ = some (.int .u64 u.x2) ∧ w'.cell? ⟨b, i * 4 + 3, none⟩ = some (.int .u64 u.x3) ∧ w'.cell? ⟨sb, i * 4, none⟩ = some (.int .u64 u.x0) ∧ w'.cell? ⟨sb, i * 4 + 1, none⟩ = some (.int .u64 u.x1) ∧ w'.cell? ⟨sb, i * 4 + 2, none⟩ = some (.int .u64 u.x2) ∧ w'.cell? ⟨sb, i * 4 + 3, none⟩ = some (.int .u64 u.x3)) w') := hidden (fun w' h => by
        have q1 := r1.keep h
        have q2 := r2.keep h
        have y0 := q1.c0 i hin
        have y1 := q1.c1 i hin
        have y2 := q1.c2 i hin
        have y3 := q1.c3 i hin
        have x0 := q2.c0 i hin
        have x1 := q2.c1 i hin
        have x2 := q2.c2 i hin
        have x3 := q2.c3 i hin
        simp only [hu] at y0 y1 y2 y3 x0 x1 x2 x3
        exact ⟨h, y0, y1, y2, y3, x0, x1, x2, x3⟩)
      have K0 := hidden (KS.out _ (bl_trans hbl.out (drew_blS wr)))
      clear hu zok r1 r2 hbl
      go_upto_region 6 with fail
      go_cut [26] (fun v wx => v = .bool false ∧ Below w.heap.size w wx)
      case first =>
        go_region_held3 (fun w' => Below w.heap.size w w' ∧ w'.cell? ⟨b, i * 4, none⟩ = some (.int .u64 u.x0) ∧ w'.cell? ⟨b, i * 4 + 1, none⟩ = some (.int .u64 u.x1) ∧ w'.cell? ⟨b, i * 4 + 2, none⟩ = some (.int .u64 u.x2) ∧ w'.cell? ⟨b, i * 4 + 3, none⟩ = some (.int .u64 u.x3) ∧ w'.cell? ⟨sb, i * 4, none⟩ = some (.int .u64 u.x0) ∧ w'.cell? ⟨sb, i * 4 + 1, none⟩ = some (.int .u64 u.x1) ∧ w'.cell? ⟨sb, i * 4 + 2, none⟩ = some (.int .u64 u.x2) ∧ w'.cell? ⟨sb, i * 4 + 3, none⟩ = some (.int .u64 u.x3)) (first | with_reducible exact K0.out | with_reducible exact hk.out)
          (first | (go_at_call 44; with_reducible refine (IS.out _).mono ?_; rintro e wn ⟨rfl, hb⟩; have hk := hidden (KS.out _ (bl_trans (show Below w.heap.size w _ from And.left (by assumption)) hb))))
        go_wp2_with fail
        go_meet
        exact ⟨rfl, hk.out.1⟩
      case rest =>
      obtain ⟨rfl, hb3⟩ := hcut
      have B3 := hidden hb3
      clear hb3 K0 KS IS
      go_wp2_with fail
      go_roundw
      case rel => exact ⟨i + 1, by omega, by go_num, B3⟩
      case measure => simp [intOf]; omega
    · have hii : n = i := by omega
      subst hii
      have lq : ¬ (n : Int) < (n : Int) := by omega
      go_wp2_with fail
      refine bodyPost_ret (v := .bool true) (by simp [results, Tryd.results17, go_sem]) rfl ⟨rfl, hbl.out⟩
set_option maxRecDepth 100000 in
set_option maxHeartbeats 16000000 in
theorem scalarsStay_any (b : Nat) (P : Option Addr) (L cap m : Nat) (g : Nat → E4) (w : World) (hL : L ≤ 4398046510976) (hc : L ≤ cap) (hm : m = min L 2100) (hR : Rws w b (m + 1) (g78 g m)) (hS : Lm w P L g) :
    Calls Tryd.prog 18 #[.slice (some ⟨b, 0, none⟩) m (m + 1), .slice P L cap] w fun e w' => e = .returned (.bool true) ∧ Below w.heap.size w w' := by
  have CU := hidden (fun w' hb => cut_any P L cap m g w' hL hc (hS.keep hb) hm)
  have HS := hidden (hS.less (m := m) (by omega))
  have HM : Hid (m ≤ 2100) := hidden (by omega)
  have HR := hidden hR
  have nn0 : (0 : Int) ≤ (m : Int) := by omega
  have w1 : IntKind.i64.wrap ((m : Int) + 1) = (m : Int) + 1 := IntWalk.i64_in _ (by omega)
  have e1 : (0 : Int) ≤ (m : Int) + 1 := by omega
  have e3 : ((m + 1 : Nat) : Int) = (m : Int) + 1 := by omega
  have e6 : ((m : Int) + 1).toNat = m + 1 := by omega
  clear hS hL hc hm hR
  go_enter Tryd.func18, Tryd.ntmps18
  go_upto_region 2 with (first | (go_at_call 38; refine (CU.out _ (Below.refl _ _)).mono ?_; rintro e w2 ⟨rfl, hb⟩; have B1 := hidden hb; clear hb))
  clear CU
  go_cut [5] (fun vx wx => vx = .slice (some ⟨b, 0, none⟩) (m + 1) (m + 1) ∧ Below w.heap.size w wx)
  case first =>
    go_wp2_with fail
    go_meet
    exact ⟨rfl, B1.out⟩
  case rest =>
  obtain ⟨rfl, b1⟩ := hcut
  have B2 := hidden b1
  clear b1 B1 w1 e1 e6
  generalize wc = w3 at *
  go_wp2_with fail
  go_loopw [6] (fun iv w' => ∃ i : Nat, i ≤ m ∧ iv = .int .i64 i ∧ Hid (Below w.heap.size w w')) (fun i _ => m - (intOf i).toNat)
  case atStart => exact ⟨0, by omega, rfl, B2⟩
  case round =>
    clear B2
    obtain ⟨i, hi, rfl, hbl⟩ := hrel
    by_cases hin : i < m
    · obtain ⟨sb, so, h1, h2⟩ := HS.out
      obtain rfl := h1 (by omega)
      have bd := bl_trans hbl.out (drew_blS wr)
      have rx := (h2 (by omega)).keep bd
      have ry := HR.out.keep bd
      have ii0 : (0 : Int) ≤ (i : Int) := by omega
      have ii1 : (i : Int) < (m : Int) := by omega
      have ii2 : (i : Int) < (m : Int) + 1 := by omega
      have w9 : IntKind.i64.wrap ((i : Int) + 1) = (i : Int) + 1 := IntWalk.i64_in _ (by have := HM.out; omega)
      have x0 := rx.c0 i hin
      have x1 := rx.c1 i hin
      have x2 := rx.c2 i hin
      have x3 := rx.c3 i hin
      have y0 := ry.c0 i (by omega)
      have y1 := ry.c1 i (by omega)
      have y2 := ry.c2 i (by omega)
      have y3 := ry.c3 i (by omega)
      rw [show g78 g m i = g i from if_pos hin] at y0 y1 y2 y3
      have BD := hidden bd
      generalize g i = z at x0 x1 x2 x3 y0 y1 y2 y3
      have hq : ∀ w, (Op.equalIn 10000 26 (.agg #[.int .u64 z.x0, .int .u64 z.x1, .int .u64 z.x2, .int .u64 z.x3]) (.agg #[.int .u64 z.x0, .int .u64 z.x1, .int .u64 z.x2, .int .u64 z.x3])).run Tryd.prog w = .ok true w := fun w => (eq4 z z w).trans (by rw [E4.same_self])
      clear rx ry h1 h2 hbl bd
      go_upto_region 6 with fail
      go_cut [28] (fun v wx => v = .bool false ∧ Below w.heap.size w wx)
      case first =>
        go_region_with fail
        all_goals
          clear x0 x1 x2 x3 y0 y1 y2 y3
          go_wp2_with fail
          go_meet
          exact ⟨rfl, BD.out⟩
      case rest =>
      obtain ⟨rfl, hb3⟩ := hcut
      have B3 := hidden hb3
      clear hb3 x0 x1 x2 x3 y0 y1 y2 y3 BD
      go_wp2_with fail
      go_roundw
      case rel => exact ⟨i + 1, by omega, by go_num, B3⟩
      case measure => simp [intOf]; omega
    · have hii : m = i := by omega
      subst hii
      have lq : ¬ (m : Int) < (m : Int) := by omega
      have ry := HR.out.keep hbl.out
      have y0 := ry.c0 m (by omega)
      have y1 := ry.c1 m (by omega)
      have y2 := ry.c2 m (by omega)
      have y3 := ry.c3 m (by omega)
      rw [show g78 g m m = ⟨78, 0, 0, 0⟩ by unfold g78; rw [if_neg (by omega)]] at y0 y1 y2 y3
      have e4 : (m : Int) < (m : Int) + 1 := by omega
      have q7 : ∀ w, (Op.equalIn 10000 26 (.agg #[.int .u64 78, .int .u64 0, .int .u64 0, .int .u64 0]) (.agg #[.int .u64 78, .int .u64 0, .int .u64 0, .int .u64 0])).run Tryd.prog w = .ok true w := fun w => (eq4 ⟨78, 0, 0, 0⟩ ⟨78, 0, 0, 0⟩ w).trans (by rw [E4.same_self])
      clear ry
      go_wp2_with fail
      refine bodyPost_ret (v := .bool true) (by simp [results, Tryd.results18, go_sem]) rfl ⟨rfl, hbl.out⟩
end Go.Proofs.YtoaobkmddbilhaaDoor
namespace Go.Proofs.YtoaobkmddbilhaaDoor
open Go.RowKit
set_option linter.unusedVariables false
theorem ln_none (w : World) (g : Nat → E4) : Ln w (.slice none 0 0) 0 g := ⟨none, 0, rfl, fun h => by omega⟩
theorem ws_self (a : Nat → Int) (n : Nat) : ∀ k, k < 2 ^ n → (ws a n k).ok ∧ lst (ws a n k).n = ws a n k := fun k _ => ⟨lst_ok _, lst_n' _⟩
/-- what both answer -/
structure An (w : World) (v u : Value) (e : Int) : Prop where
  ex : ∃ (n : Nat) (f : Nat → E4), n ≤ 4398046510976 ∧ (∀ k, k < n → (f k).ok ∧ lst (f k).n = f k) ∧ Ln w v n f ∧ Ln w u n f
set_option maxRecDepth 100000 in
set_option maxHeartbeats 16000000 in
theorem weights_both (P : Option Addr) (L cap : Nat) (g : Nat → E4) (w : World) (hT : Tb w) (hL : L ≤ 4398046510976) (hc : L ≤ cap) (hg : ∀ k, k < L → (g k).ok) (hS : Lm w P L g) :
    Calls Tryd.prog 4 #[.slice P L cap] w fun e w' => e = .returned (.bool true) ∧ Below w.heap.size w w' := by
  obtain ⟨m, hm⟩ : ∃ m, m = min L 2100 := ⟨_, rfl⟩
  have SC := hidden (fun w' hb => scalars_any P L cap m g w' hL hc (hS.keep hb) hm)
  have DC := hidden (fun w' hb => docScalars_any P L cap m g w' hL hc (hS.keep hb) hm hg)
  have SS := hidden (fun w' hb b hR => scalarsStay_any b P L cap m g w' hL hc hm hR (hS.keep hb))
  have HT := hidden hT
  have HG : Hid (∀ k, k < m → (g k).ok) := hidden (fun k hk => hg k (by omega))
  -- what Weights and the document's answer, in each of the three cases
  have KEY : Hid (∃ e : Int, (∀ w1 b, Below w.heap.size w w1 → Rws w1 b (m + 1) (g78 g m) → Calls Tryd.prog 9 #[.slice (some ⟨b, 0, none⟩) m (m + 1)] w1 fun r w' => ∃ v, r = .returned (.tuple #[v, .int .i64 e]) ∧ Below w1.heap.size w1 w' ∧
      (∀ w3 d, Below w'.heap.size w' w3 → Ln w3 d m (fun k => lst (g k).n) → Calls Tryd.prog 15 #[d] w3 fun r w'' => ∃ u, r = .returned (.tuple #[u, .int .i64 e]) ∧ Below w3.heap.size w3 w'' ∧ An w'' v u e))) := hidden (by
    have rr : ∀ w1 b, Rws w1 b (m + 1) (g78 g m) → Rws w1 b m g := fun w1 b h => (h.less (m := m) (by omega)).congr (fun k hk => if_pos hk)
    by_cases h10 : 10 < m
    · refine ⟨2, fun w1 b hb hR => ((pWeights_long b m (m + 1) w1 h10).mono ?_)⟩
      rintro r w' ⟨rfl, h1⟩
      refine ⟨_, rfl, h1, fun w3 d hb3 hd => (rWeights_long d m _ w3 hd h10).mono ?_⟩
      rintro r w'' ⟨rfl, h2⟩
      exact ⟨_, rfl, h2, ⟨0, g, by omega, fun k hk => by omega, ln_none _ _, ln_none _ _⟩⟩
    · by_cases hz : az m g
      · refine ⟨4, fun w1 b hb hR => ((pWeights_zero b m (m + 1) g w1 (HT.out.keep hb) (by omega) HG.out (rr _ _ hR) hz).mono ?_)⟩
        rintro r w' ⟨rfl, h1⟩
        refine ⟨_, rfl, h1, fun w3 d hb3 hd => (rWeights_zero d m (fun k => (g k).n) w3 hd (by omega) hz).mono ?_⟩
        rintro r w'' ⟨rfl, h2⟩
        exact ⟨_, rfl, h2, ⟨0, g, by omega, fun k hk => by omega, ln_none _ _, ln_none _ _⟩⟩
      · refine ⟨0, fun w1 b hb hR => ((pWeights_in b m (m + 1) g w1 (HT.out.keep hb) (by omega) HG.out (rr _ _ hR) hz).mono ?_)⟩
        rintro r w' ⟨bl, cl, rfl, hr1, h1⟩
        refine ⟨_, rfl, h1, fun w3 d hb3 hd => (rWeights_in d m (fun k => (g k).n) w3 hd (by omega) (fun k hk h0 => hz ⟨k, hk, h0⟩)).mono ?_⟩
        rintro r w'' ⟨bm, cm, rfl, hr2, h2⟩
        have p10 : 2 ^ m ≤ 1024 := Nat.le_trans (Nat.pow_le_pow_right (by omega) (show m ≤ 10 by omega)) (by decide)
        exact ⟨_, rfl, h2, ⟨2 ^ m, ws (fun k => (g k).n) m, by omega, ws_self _ m, ⟨_, cl, rfl, fun _ => ⟨bl, rfl, (hr1.keep hb3).keep h2⟩⟩, ⟨_, cm, rfl, fun _ => ⟨bm, rfl, hr2⟩⟩⟩⟩)
  clear hT hL hc hg hS hm
  obtain ⟨e, WK⟩ := KEY.out
  replace WK := hidden WK
  clear KEY HG HT
  go_enter Tryd.func4, Tryd.ntmps4
  go_upto_region 2 with (first | (go_at_call 14; refine (SC.out _ (Below.refl _ _)).mono ?_; rintro r w1 ⟨b, rfl, hb0, hr1, hb1⟩; have B1 := hidden hb1; have R1 := hidden hr1; clear hb0 hr1 hb1))
  clear SC
  go_upto_region 3 with (first | (go_at_call 9; refine (WK.out _ _ B1.out R1.out).mono ?_; rintro r w2 ⟨v, rfl, hb2, hk⟩; have B2 := hidden (bl_trans B1.out hb2); have R2 := hidden (R1.out.keep hb2); have RK := hidden hk; clear hb2 hk))
  clear WK R1 B1
  go_upto_region 4 with (first | (go_at_call 16; refine (DC.out _ B2.out).mono ?_; rintro r w3 ⟨d, rfl, hd, hb3⟩; have B3 := hidden (bl_trans B2.out hb3); have R3 := hidden (R2.out.keep hb3); have RK3 := hidden (RK.out _ d hb3 hd); clear hb3 hd) | (go_at_call 15; refine (RK3.out).mono ?_; rintro r w4 ⟨u, rfl, hb4, ha⟩; have B4 := hidden (bl_trans B3.out hb4); have R4 := hidden (R3.out.keep hb4); have AN := hidden ha; clear hb4 ha))
  clear DC R2 R3 B2 B3 RK RK3
  have IS : Hid (Calls Tryd.prog 17 #[v, u] w4 fun e w' => e = .returned (.bool true) ∧ Below w4.heap.size w4 w') := hidden (by
    obtain ⟨n, f, h1, h2, h3, h4⟩ := AN.out.ex
    exact isScalars_any v u n f w4 h1 h2 h3 h4)
  clear AN
  go_wp2_with (first | (go_at_call 17; refine (IS.out).mono ?_; rintro r w5 ⟨rfl, hb5⟩; have B5 := hidden (bl_trans B4.out hb5); have R5 := hidden (R4.out.keep hb5); clear hb5) | (go_at_call 18; refine (SS.out _ B5.out b R5.out).mono ?_; rintro r w6 ⟨rfl, hb6⟩; have B6 := hidden (bl_trans B5.out hb6); clear hb6))
  refine bodyPost_ret (v := .bool true) (by simp [results, Tryd.results4, go_sem]) rfl ⟨rfl, B6.out⟩
end Go.Proofs.YtoaobkmddbilhaaDoor
