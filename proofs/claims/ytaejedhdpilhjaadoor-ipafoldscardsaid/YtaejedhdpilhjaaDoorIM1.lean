import Derived.Test.YtaejedhdpilhjaaDoorSIJ
import Derived.Deep.RegionLaw
namespace Go.Proofs.YtaejedhdpilhjaaDoor
open Go.RowKit
set_option linter.unusedVariables false
/-- a challenge's factor: itself or its inverse -/
def cf (a : Nat → Int) (t b : Nat) : Int := if b = 0 then (a t) ^ 7237005577332262213973186563042994240857116359379907606001950938285454250987 else a t
/-- the weights of j rounds from round m on -/
def wt (a : Nat → Int) (m : Nat) : Nat → Nat → Int
  | 0, _ => 1
  | j + 1, i => wt a m j (i / 2) * cf a (m + j) (i % 2)
theorem wt_zero (a : Nat → Int) (m i : Nat) : wt a m 0 i = 1 := rfl
theorem wt_succ (a : Nat → Int) (m j i : Nat) : wt a m (j + 1) i = wt a m j (i / 2) * cf a (m + j) (i % 2) := rfl
/-- the same, from the other end -/
theorem wt_front (a : Nat → Int) (m j : Nat) : ∀ i, i < 2 ^ (j + 1) → wt a m (j + 1) i = wt a (m + 1) j (i % 2 ^ j) * cf a m (i / 2 ^ j) := by
  induction j with
  | zero =>
    intro i hi
    rw [wt_succ, wt_zero, wt_zero]
    simp only [Nat.pow_zero, Nat.div_one, Nat.add_zero]
    rw [Nat.mod_eq_of_lt (by simpa using hi)]
  | succ j ih =>
    intro i hi
    rw [wt_succ, ih (i / 2) (by rw [Nat.pow_succ] at hi; omega), wt_succ a (m + 1) j]
    have e1 : i % 2 ^ (j + 1) / 2 = i / 2 % 2 ^ j := by
      rw [Nat.pow_succ, Nat.mul_comm, Nat.mod_mul_right_div_self]
    have e2 : i % 2 ^ (j + 1) % 2 = i % 2 := by
      rw [Nat.pow_succ, Nat.mod_mul_left_mod]
    have e3 : i / 2 / 2 ^ j = i / 2 ^ (j + 1) := by
      rw [Nat.div_div_eq_div_mul, Nat.pow_succ, Nat.mul_comm]
    rw [e1, e2, e3, show m + 1 + j = m + (j + 1) by omega, Int.mul_assoc, Int.mul_assoc, Int.mul_comm (cf a m _)]
/-- g with a mark behind -/
def g78 (g : Nat → E4) (L k : Nat) : E4 := if k < L then g k else ⟨78, 0, 0, 0⟩
/-- the same, filled up to i -/
def f78 (g : Nat → E4) (i k : Nat) : E4 := if k < i then g k else zero4
theorem f78_next (g : Nat → E4) (i j : Nat) : (if j = i then g i else f78 g i j) = f78 g (i + 1) j := by
  unfold f78
  by_cases h : j = i
  · subst h; rw [if_pos rfl, if_pos (by omega)]
  · rw [if_neg h]
    by_cases hl : j < i
    · rw [if_pos hl, if_pos (by omega)]
    · rw [if_neg hl, if_neg (by omega)]
theorem f78_last (g : Nat → E4) (m j : Nat) (hj : j < m + 1) : (if j = m then (⟨78, 0, 0, 0⟩ : E4) else f78 g m j) = g78 g m j := by
  unfold f78 g78
  by_cases h : j = m
  · subst h; rw [if_pos rfl, if_neg (by omega)]
  · rw [if_neg h, if_pos (by omega), if_pos (by omega)]
end Go.Proofs.YtaejedhdpilhjaaDoor
namespace Go.Proofs.YtaejedhdpilhjaaDoor
open Go.RowKit
set_option linter.unusedVariables false
/-- is one of them 0? -/
def az (n : Nat) (g : Nat → E4) : Prop := ∃ k, k < n ∧ (g k).n % Sm.L = 0
set_option maxRecDepth 100000 in
set_option maxHeartbeats 16000000 in
theorem index_any (b n c N : Nat) (g : Nat → E4) (w : World) (hT : Tb w) (hn : n ≤ 4398046510976) (hN : n ≤ N) (hg : ∀ k, k < n → (g k).ok) (hR : Rws w b N g) :
    Calls Tryd.prog 46 #[.slice (some ⟨b, 0, none⟩) n c, .func (.func 4) #[] #[]] w fun e w' => ∃ r : Int, e = .returned (.int .i64 r) ∧ (0 ≤ r ↔ az n g) ∧ Below w.heap.size w w' := by
  have HT := hidden hT
  have HR := hidden hR
  have HG := hidden hg
  have HN : Hid (n ≤ N ∧ n ≤ 4398046510976) := hidden ⟨hN, hn⟩
  have nn0 : (0 : Int) ≤ (n : Int) := by omega
  clear hT hR hg hn hN
  go_enter Tryd.func46, Tryd.ntmps46
  go_wp2_with fail
  go_loopw [8] (fun iv' w' => ∃ k : Nat, k ≤ n ∧ iv' = .int .i64 k ∧ Hid (∀ j, j < k → ¬ (g j).n % Sm.L = 0) ∧ Hid (Below w.heap.size w w')) (fun i _ => n - (intOf i).toNat)
  case atStart => exact ⟨0, by omega, rfl, hidden (fun j hj => by omega), hidden (Below.refl _ _)⟩
  case round =>
    obtain ⟨k, hk, rfl, hZ, hB⟩ := hrel
    by_cases hkn : k < n
    · have k0 : (0 : Int) ≤ (k : Int) := by omega
      have k1 : (k : Int) < (n : Int) := by omega
      have w9 : IntKind.i64.wrap ((k : Int) + 1) = (k : Int) + 1 := IntWalk.i64_in _ (by have := HN.out.2; omega)
      have hkN : k < N := Nat.lt_of_lt_of_le hkn HN.out.1
      have rx := HR.out.keep hB.out
      have x0 := rx.c0 k hkN
      have x1 := rx.c1 k hkN
      have x2 := rx.c2 k hkN
      have x3 := rx.c3 k hkN
      have zok := HG.out k hkn
      obtain ⟨z, hz⟩ : ∃ z, g k = z := ⟨_, rfl⟩
      rw [hz] at x0 x1 x2 x3 zok
      have HZ := hidden hz
      have IZ := hidden (fun w T => IsZero_any z w T zok)
      have T0 := hidden (HT.out.keep hB.out)
      simp only [E4.v] at IZ
      clear rx hz zok hkN
      by_cases h0 : z.n % Sm.L = 0
      · rw [show decide (z.n % Sm.L = 0) = true from decide_eq_true h0] at IZ
        have H0 := hidden h0
        clear h0
        go_wp2_with (first | (go_at_call 4; refine (IZ.out _ T0.out).mono ?_; rintro e w1 ⟨rfl, hb1⟩; have B1 := hidden (bl_trans hB.out hb1); clear hb1))
        refine bodyPost_ret (v := .int .i64 (k : Int)) (by simp [results, Tryd.results46, go_sem]) rfl ⟨_, rfl, ⟨fun _ => ⟨k, hkn, by rw [HZ.out]; exact H0.out⟩, fun _ => k0⟩, B1.out⟩
      · rw [show decide (z.n % Sm.L = 0) = false from decide_eq_false h0] at IZ
        have H0 := hidden h0
        clear h0
        go_wp2_with (first | (go_at_call 4; refine (IZ.out _ T0.out).mono ?_; rintro e w1 ⟨rfl, hb1⟩; have B1 := hidden (bl_trans hB.out hb1); clear hb1))
        go_roundw
        case rel => exact ⟨k + 1, by omega, by go_num, hidden (fun j hj => by
          by_cases hjk : j = k
          · subst hjk; rw [HZ.out]; exact H0.out
          · exact hZ.out j (by omega)), B1⟩
        case measure => simp [intOf]; omega
    · have hkn : n = k := by omega
      subst hkn
      have lq : ¬ (n : Int) < (n : Int) := by omega
      go_wp2_with fail
      refine bodyPost_ret (v := .int .i64 (-1)) (by simp [results, Tryd.results46, go_sem]) rfl ⟨_, rfl, ⟨fun h => absurd h (by omega), fun ⟨j, hj, h⟩ => absurd h (hZ.out j hj)⟩, hB.out⟩
set_option maxRecDepth 100000 in
set_option maxHeartbeats 16000000 in
theorem contains_any (b n c N : Nat) (g : Nat → E4) (w : World) (hT : Tb w) (hn : n ≤ 4398046510976) (hN : n ≤ N) (hg : ∀ k, k < n → (g k).ok) (hR : Rws w b N g) (q : Bool) (hq : q = true ↔ az n g) :
    Calls Tryd.prog 38 #[.slice (some ⟨b, 0, none⟩) n c, .func (.func 4) #[] #[]] w fun e w' => e = .returned (.bool q) ∧ Below w.heap.size w w' := by
  have IX := hidden (index_any b n c N g w hT hn hN hg hR)
  have HQ := hidden hq
  clear hT hn hN hg hR hq
  go_enter Tryd.func38, Tryd.ntmps38
  go_wp2_with fail
  refine IX.out.mono ?_
  rintro e w1 ⟨r, rfl, hr, hb⟩
  have B1 := hidden hb
  have HR := hidden hr
  clear hb hr IX
  go_wp2_with fail
  have e : decide (0 ≤ r) = q := by
    have h1 := HQ.out
    have h2 := HR.out
    cases q with
    | true => exact decide_eq_true (h2.2 (h1.1 rfl))
    | false => exact decide_eq_false (fun h => by have := h1.2 (h2.1 h); cases this)
  refine bodyPost_ret (v := .bool (decide (0 ≤ r))) (by simp [results, Tryd.results38, go_sem]) rfl ⟨by rw [e], B1.out⟩
set_option maxRecDepth 100000 in
set_option maxHeartbeats 16000000 in
theorem zeroAmong_any (b n c N : Nat) (g : Nat → E4) (w : World) (hT : Tb w) (hn : n ≤ 4398046510976) (hN : n ≤ N) (hg : ∀ k, k < n → (g k).ok) (hR : Rws w b N g) (q : Bool) (hq : q = true ↔ az n g) :
    Calls Tryd.prog 23 #[.slice (some ⟨b, 0, none⟩) n c] w fun e w' => e = .returned (.int .i64 (if q then 4 else 0)) ∧ Below w.heap.size w w' := by
  have CT := hidden (contains_any b n c N g w hT hn hN hg hR q hq)
  clear hT hn hN hg hR hq
  cases q with
  | true =>
    go_enter Tryd.func23, Tryd.ntmps23
    go_wp2_with (first | (go_at_call 38; refine (CT.out).mono ?_; rintro e w1 ⟨rfl, hb1⟩; have B1 := hidden hb1; clear hb1))
    refine bodyPost_ret (v := .int .i64 4) (by simp [results, Tryd.results23, go_sem]) rfl ⟨rfl, B1.out⟩
  | false =>
    go_enter Tryd.func23, Tryd.ntmps23
    go_wp2_with (first | (go_at_call 38; refine (CT.out).mono ?_; rintro e w1 ⟨rfl, hb1⟩; have B1 := hidden hb1; clear hb1))
    refine bodyPost_ret (v := .int .i64 0) (by simp [results, Tryd.results23, go_sem]) rfl ⟨rfl, B1.out⟩
end Go.Proofs.YtaejedhdpilhjaaDoor
namespace Go.Proofs.YtaejedhdpilhjaaDoor
open Go.RowKit
set_option linter.unusedVariables false
theorem gbI {w w' : World} (h : Below w.heap.size w w') (row : Option Nat) : w.grownBy w' row := ⟨h.os, h.tape, h.output, h.size, fun k hk _ => h.block k hk⟩
theorem own_keepI {w1 w2 : World} {base : Nat} {e : TypeId} {v : Value} {n : Nat} {xs : List Value} (h : w1.ownsRow base e 4 v n xs) (hb : Below w1.heap.size w1 w2) : w2.ownsRow base e 4 v n xs :=
  h.kept (row := none) ⟨hb.os, hb.tape, hb.output, hb.size, fun k hk _ => hb.block k hk⟩ (by cases v.ownBlock <;> simp)
theorem below_lessI {m n : Nat} {w1 w2 : World} (h : Below n w1 w2) (hm : m ≤ n) : Below m w1 w2 := ⟨h.os, h.tape, h.output, h.size, fun k hk => h.block k (by omega)⟩
theorem below_transI {n : Nat} {w1 w2 w3 : World} (h1 : Below n w1 w2) (h2 : Below n w2 w3) : Below n w1 w3 := ⟨h2.os.trans h1.os, h2.tape.trans h1.tape, h2.output.trans h1.output, Nat.le_trans h1.size h2.size, fun k hk => (h2.block k hk).trans (h1.block k hk)⟩
theorem below_growI {B : Nat} {w w' : World} {row : Option Nat} (hg : w.grownBy w' row) (hB : B ≤ w.heap.size) (hr : ∀ k, row = some k → B ≤ k) : Below B w w' := (Below.refl _ _).grown hg hB hr
theorem Rws.ownI {w : World} {base gg n cap : Nat} {e : TypeId} {g : Nat → E4} (h : w.ownsRow base e 4 (.slice (some ⟨gg, 0, none⟩) n cap) n (svs n g)) : Rws w gg n g := by
  have hc : ∀ k, k < n * 4 → w.cell? ⟨gg, k, none⟩ = (svs n g)[k]? := fun k hk => h.cellAt k hk
  have hs : ∀ k d, k < n → d < 4 → (svs n g)[k * 4 + d]? = some ([Value.int .u64 (g k).x0, .int .u64 (g k).x1, .int .u64 (g k).x2, .int .u64 (g k).x3].getD d undef) := by
    intro k d hk hd
    clear hc h
    induction n with
    | zero => omega
    | succ n ih =>
      rw [svs_succ]
      by_cases hkn : k < n
      · rw [List.getElem?_append_left (by rw [svs_len]; omega)]
        exact ih hkn
      · have : k = n := by omega
        subst this
        rw [List.getElem?_append_right (by rw [svs_len]; omega), svs_len, show k * 4 + d - k * 4 = d by omega]
        obtain rfl | rfl | rfl | rfl : d = 0 ∨ d = 1 ∨ d = 2 ∨ d = 3 := by omega
        all_goals rfl
  refine ⟨fun k hk => ?_, fun k hk => ?_, fun k hk => ?_, fun k hk => ?_, fun k hk => h.frozenAt k, (h.lt gg rfl).2⟩
  · rw [hc _ (by omega)]; exact hs k 0 hk (by omega)
  · rw [hc _ (by omega)]; exact hs k 1 hk (by omega)
  · rw [hc _ (by omega)]; exact hs k 2 hk (by omega)
  · rw [hc _ (by omega)]; exact hs k 3 hk (by omega)
theorem wp_appendI {P : Program} {w : World} {o : Oper} {a : Act} {K : Act → World → Prop} {Q : Exit → Act → World → Prop} (s x : Operand) (t : TypeId)
    (ho : o.op = .call { callee := .builtin .append, args := #[s, x], argTypes := #[t, t] })
    (base : Nat) (e : TypeId) (i : TypeInfo) (z : Value) (size bytes : Nat) (ht : P.underlying t = some (.slice e)) (hi : P.info? e = some i) (hz : i.zero = some z)
    (hsize : i.size = size) (hby : i.bytes = bytes) (hzs : z.cells.size = size) (hsz : 0 < size)
    (v : Value) (n : Nat) (xs : List Value) (hs : a.eval s = v) (hown : w.ownsRow base e size v n xs)
    (ad : Addr) (m c : Nat) (news : List Value) (hx : a.eval x = .slice (some ad) m c) (hl : news.length = m * size) (hnews : ∀ j u, news[j]? = some u → w.cell? (ad.add j) = some u) (h1 : ∀ u ∈ news, u.oneCell' = true)
    (h63 : n + m ≤ maxLen) (hbytes : (n + m) * bytes ≤ 140737488355328) (hbase : base ≤ w.heap.size)
    (h : ∀ v' w', w'.ownsRow base e size v' (n + m) (xs ++ news) → w.grownBy w' v.ownBlock → (v'.ownBlock = v.ownBlock ∨ v'.ownBlock = some w.heap.size) → K (a.put o.dst v') w') : o.wp P a w K Q := by
  obtain ⟨v', w', hr, h2, h3, h4, h5⟩ := run_append_own_at (P := P) w base t o.type e i z size bytes ht hi hz hsize hby hzs hsz v n xs hown ad m c news hl hnews h1 h63 hbytes hbase
  unfold Oper.wp execOp
  simp only [ho, resolve, invoke, builtin, Sem.run_bind, Sem.run_pure, Result.andThen_ok, List.map_toArray, List.map_cons, List.map_nil, hs, hx, hr]
  exact h v' w' h2 h3 h5

theorem buildS2 (y0 y1 : E4) (w : World) : (Instr.buildSlice 23 2 #[(0, Value.agg #[.int .u64 y0.x0, .int .u64 y0.x1, .int .u64 y0.x2, .int .u64 y0.x3]), (1, Value.agg #[.int .u64 y1.x0, .int .u64 y1.x1, .int .u64 y1.x2, .int .u64 y1.x3])]).run Tryd.prog w = .ok (.slice (some ⟨w.heap.size, 0, none⟩) 2 2) (w.alloc (.cells #[.int .u64 y0.x0, .int .u64 y0.x1, .int .u64 y0.x2, .int .u64 y0.x3, .int .u64 y1.x0, .int .u64 y1.x1, .int .u64 y1.x2, .int .u64 y1.x3] 26)) := by kernel_rfl
theorem wp_buildS2 {w : World} {o : Oper} {a : Act} {K : Act → World → Prop} {Q : Exit → Act → World → Prop} (x0 x1 : Operand) (ho : o.op = .buildSlice 23 2 #[(0, x0), (1, x1)]) (y0 y1 : E4) (h0 : a.eval x0 = Value.agg #[.int .u64 y0.x0, .int .u64 y0.x1, .int .u64 y0.x2, .int .u64 y0.x3]) (h1 : a.eval x1 = Value.agg #[.int .u64 y1.x0, .int .u64 y1.x1, .int .u64 y1.x2, .int .u64 y1.x3])
    (h : K (a.put o.dst (.slice (some ⟨w.heap.size, 0, none⟩) 2 2)) (w.alloc (.cells #[.int .u64 y0.x0, .int .u64 y0.x1, .int .u64 y0.x2, .int .u64 y0.x3, .int .u64 y1.x0, .int .u64 y1.x1, .int .u64 y1.x2, .int .u64 y1.x3] 26))) : o.wp Tryd.prog a w K Q := by
  have hb := buildS2 y0 y1 w
  unfold Oper.wp execOp
  simp only [ho, Sem.run_bind, Sem.run_pure, Result.andThen_ok, List.map_toArray, List.map_cons, List.map_nil, h0, h1, hb]
  exact h

def wt10o : Array Oper := #[{ dst := some 31, op := Op.move (Operand.tmp 7), type := 23, pos := "terms.go:30", after := #[], guard := none },
  { dst := some 32, op := Op.load 26 (Operand.tmp 9), type := 26, pos := "terms.go:30", after := #[], guard := none },
  { dst := some 33, op := Op.move (Operand.tmp 3), type := 23, pos := "terms.go:30", after := #[], guard := none },
  { dst := some 34, op := Op.move (Operand.tmp 5), type := 3, pos := "terms.go:30", after := #[], guard := none },
  { dst := some 35, op := Op.indexAddr 23 (Operand.tmp 33) (Operand.tmp 34), type := 0, pos := "terms.go:30", after := #[{ on := 2, ground := Ground.data }, { on := 3, ground := Ground.data }], guard := none },
  { dst := some 36, op := Op.load 26 (Operand.tmp 35), type := 26, pos := "terms.go:30", after := #[{ on := 4, ground := Ground.data }], guard := none },
  { dst := some 37, op := Op.call { callee := Callee.value (Operand.func 10), args := #[Operand.tmp 32, Operand.tmp 36], argTypes := #[26, 26] }, type := 26, pos := "terms.go:30", after := #[{ on := 1, ground := Ground.data }, { on := 5, ground := Ground.data }], guard := none },
  { dst := some 38, op := Op.load 26 (Operand.tmp 9), type := 26, pos := "terms.go:30", after := #[], guard := none },
  { dst := some 39, op := Op.load 26 (Operand.tmp 6), type := 26, pos := "terms.go:30", after := #[], guard := none },
  { dst := some 40, op := Op.call { callee := Callee.value (Operand.func 10), args := #[Operand.tmp 38, Operand.tmp 39], argTypes := #[26, 26] }, type := 26, pos := "terms.go:30", after := #[{ on := 7, ground := Ground.data }, { on := 8, ground := Ground.data }, { on := 6, ground := Ground.chain }], guard := none },
  { dst := some 41, op := Op.buildSlice 23 2 #[(0, Operand.tmp 37), (1, Operand.tmp 40)], type := 23, pos := "terms.go:30", after := #[{ on := 6, ground := Ground.data }, { on := 9, ground := Ground.data }], guard := none },
  { dst := some 42, op := Op.call { callee := Callee.builtin Builtin.append, args := #[Operand.tmp 31, Operand.tmp 41], argTypes := #[23, 23] }, type := 23, pos := "terms.go:30", after := #[{ on := 0, ground := Ground.data }, { on := 10, ground := Ground.data }, { on := 9, ground := Ground.chain }], guard := none },
  { dst := some 7, op := Op.assign (Operand.tmp 42), type := 23, pos := "terms.go:30", after := #[{ on := 11, ground := Ground.data }, { on := 11, ground := Ground.chain }, { on := 0, ground := Ground.phase }, { on := 1, ground := Ground.phase }, { on := 2, ground := Ground.phase }, { on := 3, ground := Ground.phase }, { on := 4, ground := Ground.phase }, { on := 5, ground := Ground.phase }, { on := 6, ground := Ground.phase }, { on := 7, ground := Ground.phase }, { on := 8, ground := Ground.phase }, { on := 9, ground := Ground.phase }, { on := 10, ground := Ground.phase }, { on := 11, ground := Ground.phase }], guard := none }]
set_option maxRecDepth 100000 in
set_option maxHeartbeats 16000000 in
theorem wt10 (Q : Exit → Act → World → Prop) (V : Value) (xs : List Value) (B n : Nat) (b3 n3 c3 t T6 T9 : Nat) (z u v r1 r2 : E4) (u0 u1 u2 u4 u8 u10 u11 u12 u13 u14 u15 u16 u17 u18 u19 u20 u21 u22 u23 u24 u25 u26 u27 u28 u29 u30 u31 u32 u33 u34 u35 u36 u37 u38 u39 u40 u41 u42 u43 u44 u45 u46 : Value) (W : World) (hown : W.ownsRow B 26 4 V n xs) (hn : n ≤ 1048576) (hB : B ≤ W.heap.size)
    (k0 : (0 : Int) ≤ (t : Int)) (k1 : (t : Int) < (n3 : Int)) (n9 : some T9 ≠ V.ownBlock) (n6 : some T6 ≠ V.ownBlock) (m3 : some b3 ≠ V.ownBlock)
    (hz0 : W.cell? ⟨T9, 0, none⟩ = some (.int .u64 z.x0)) (hz1 : W.cell? ⟨T9, 1, none⟩ = some (.int .u64 z.x1)) (hz2 : W.cell? ⟨T9, 2, none⟩ = some (.int .u64 z.x2)) (hz3 : W.cell? ⟨T9, 3, none⟩ = some (.int .u64 z.x3))
    (hu0 : W.cell? ⟨T6, 0, none⟩ = some (.int .u64 u.x0)) (hu1 : W.cell? ⟨T6, 1, none⟩ = some (.int .u64 u.x1)) (hu2 : W.cell? ⟨T6, 2, none⟩ = some (.int .u64 u.x2)) (hu3 : W.cell? ⟨T6, 3, none⟩ = some (.int .u64 u.x3))
    (hv0 : W.cell? ⟨b3, t * 4, none⟩ = some (.int .u64 v.x0)) (hv1 : W.cell? ⟨b3, t * 4 + 1, none⟩ = some (.int .u64 v.x1)) (hv2 : W.cell? ⟨b3, t * 4 + 2, none⟩ = some (.int .u64 v.x2)) (hv3 : W.cell? ⟨b3, t * 4 + 3, none⟩ = some (.int .u64 v.x3))
    (C1 : Hid (∀ x, W.grownBy x V.ownBlock → Calls Tryd.prog 10 #[.agg #[.int .u64 z.x0, .int .u64 z.x1, .int .u64 z.x2, .int .u64 z.x3], .agg #[.int .u64 v.x0, .int .u64 v.x1, .int .u64 v.x2, .int .u64 v.x3]] x fun e w' => e = .returned (.agg #[.int .u64 r1.x0, .int .u64 r1.x1, .int .u64 r1.x2, .int .u64 r1.x3]) ∧ Below x.heap.size x w'))
    (C2 : Hid (∀ x, W.grownBy x V.ownBlock → Calls Tryd.prog 10 #[.agg #[.int .u64 z.x0, .int .u64 z.x1, .int .u64 z.x2, .int .u64 z.x3], .agg #[.int .u64 u.x0, .int .u64 u.x1, .int .u64 u.x2, .int .u64 u.x3]] x fun e w' => e = .returned (.agg #[.int .u64 r2.x0, .int .u64 r2.x1, .int .u64 r2.x2, .int .u64 r2.x3]) ∧ Below x.heap.size x w'))
    (HQ : Hid (∀ (xb v' : Value) (wz : World), wz.ownsRow B 26 4 v' (n + 2) (xs ++ [.int .u64 r1.x0, .int .u64 r1.x1, .int .u64 r1.x2, .int .u64 r1.x3, .int .u64 r2.x0, .int .u64 r2.x1, .int .u64 r2.x2, .int .u64 r2.x3]) → W.grownBy wz V.ownBlock → Q .normal ⟨#[u0, u1, u2, .slice (some ⟨b3, 0, none⟩) n3 c3, u4, .int .i64 (t : Int), .pointer (some ⟨T6, 0, none⟩), v', u8, .pointer (some ⟨T9, 0, none⟩), u10, u11, u12, u13, u14, u15, u16, u17, u18, u19, u20, u21, u22, u23, u24, u25, u26, u27, u28, u29, u30, V, .agg #[.int .u64 z.x0, .int .u64 z.x1, .int .u64 z.x2, .int .u64 z.x3], .slice (some ⟨b3, 0, none⟩) n3 c3, .int .i64 (t : Int), .pointer (some ⟨b3, t * 4, none⟩), .agg #[.int .u64 v.x0, .int .u64 v.x1, .int .u64 v.x2, .int .u64 v.x3], .agg #[.int .u64 r1.x0, .int .u64 r1.x1, .int .u64 r1.x2, .int .u64 r1.x3], .agg #[.int .u64 z.x0, .int .u64 z.x1, .int .u64 z.x2, .int .u64 z.x3], .agg #[.int .u64 u.x0, .int .u64 u.x1, .int .u64 u.x2, .int .u64 u.x3], .agg #[.int .u64 r2.x0, .int .u64 r2.x1, .int .u64 r2.x2, .int .u64 r2.x3], xb, v', u43, u44, u45, u46], []⟩ wz)) : (Code.region 10 wt10o true).wp Tryd.prog Q ⟨#[u0, u1, u2, .slice (some ⟨b3, 0, none⟩) n3 c3, u4, .int .i64 (t : Int), .pointer (some ⟨T6, 0, none⟩), V, u8, .pointer (some ⟨T9, 0, none⟩), u10, u11, u12, u13, u14, u15, u16, u17, u18, u19, u20, u21, u22, u23, u24, u25, u26, u27, u28, u29, u30, u31, u32, u33, u34, u35, u36, u37, u38, u39, u40, u41, u42, u43, u44, u45, u46], []⟩ W := by
  have HU : Hid (Tryd.prog.underlying 23 = some (.slice 26)) := hidden (by kernel_rfl)
  obtain ⟨i0, hi, hz0, hz1, hz2⟩ := info_parts sinfo
  have HI := hidden hi
  have HZ0 := hidden hz0
  have HZ1 := hidden hz1
  have HZ2 := hidden hz2
  have HO := hidden hown
  have HBN : Hid (B ≤ W.heap.size ∧ n ≤ 1048576) := hidden ⟨hB, hn⟩
  clear hi hz0 hz1 hz2 hown hB hn
  unfold wt10o
  have OW := hidden (HO.out.drew)
  refine wp_region_noPanic ?_
  refine wp_region_held_drew (S := fun x => W.grownBy x V.ownBlock) (by kernel_rfl) (gbI (drew_blS W) _) (fun hHeld => ?_)
  refine wpAnyH_take (i := 0) (oi := { dst := some 31, op := Op.move (Operand.tmp 7), type := 23, pos := "terms.go:30", after := #[], guard := none }) (v := V) rfl (by kernel_rfl) (by kernel_rfl) (by kernel_rfl) (fun _ _ _ h => h) (Or.inl ⟨by rfl, fun w0 hSw => ?_⟩) hHeld ?_
  · (clear hSw; go_simp)
  simp only [Act.put, List.setIfInBounds_toArray, List.set_cons_zero, List.set_cons_succ]
  refine wpAnyH_take (i := 1) (oi := { dst := some 32, op := Op.load 26 (Operand.tmp 9), type := 26, pos := "terms.go:30", after := #[], guard := none }) (v := .agg #[.int .u64 z.x0, .int .u64 z.x1, .int .u64 z.x2, .int .u64 z.x3]) rfl (by kernel_rfl) (by kernel_rfl) (by kernel_rfl) (fun _ _ _ h => h) (Or.inl ⟨by rfl, fun w0 hSw => ?_⟩) hHeld ?_
  · (have hS : W.grownBy w0 V.ownBlock := hSw; have a0 := hS.cell hz0 n9; have a1 := hS.cell hz1 n9; have a2 := hS.cell hz2 n9; have a3 := hS.cell hz3 n9; clear hS hSw; go_simp)
  simp only [Act.put, List.setIfInBounds_toArray, List.set_cons_zero, List.set_cons_succ]
  refine wpAnyH_take (i := 2) (oi := { dst := some 33, op := Op.move (Operand.tmp 3), type := 23, pos := "terms.go:30", after := #[], guard := none }) (v := .slice (some ⟨b3, 0, none⟩) n3 c3) rfl (by kernel_rfl) (by kernel_rfl) (by kernel_rfl) (fun _ _ _ h => h) (Or.inl ⟨by rfl, fun w0 hSw => ?_⟩) hHeld ?_
  · (clear hSw; go_simp)
  simp only [Act.put, List.setIfInBounds_toArray, List.set_cons_zero, List.set_cons_succ]
  refine wpAnyH_take (i := 3) (oi := { dst := some 34, op := Op.move (Operand.tmp 5), type := 3, pos := "terms.go:30", after := #[], guard := none }) (v := .int .i64 (t : Int)) rfl (by kernel_rfl) (by kernel_rfl) (by kernel_rfl) (fun _ _ _ h => h) (Or.inl ⟨by rfl, fun w0 hSw => ?_⟩) hHeld ?_
  · (clear hSw; go_simp)
  simp only [Act.put, List.setIfInBounds_toArray, List.set_cons_zero, List.set_cons_succ]
  refine wpAnyH_take (i := 4) (oi := { dst := some 35, op := Op.indexAddr 23 (Operand.tmp 33) (Operand.tmp 34), type := 0, pos := "terms.go:30", after := #[{ on := 2, ground := Ground.data }, { on := 3, ground := Ground.data }], guard := none }) (v := .pointer (some ⟨b3, t * 4, none⟩)) rfl (by kernel_rfl) (by kernel_rfl) (by kernel_rfl) (fun _ _ _ h => h) (Or.inl ⟨by rfl, fun w0 hSw => ?_⟩) hHeld ?_
  · (clear hSw; go_simp)
  simp only [Act.put, List.setIfInBounds_toArray, List.set_cons_zero, List.set_cons_succ]
  refine wpAnyH_take (i := 5) (oi := { dst := some 36, op := Op.load 26 (Operand.tmp 35), type := 26, pos := "terms.go:30", after := #[{ on := 4, ground := Ground.data }], guard := none }) (v := .agg #[.int .u64 v.x0, .int .u64 v.x1, .int .u64 v.x2, .int .u64 v.x3]) rfl (by kernel_rfl) (by kernel_rfl) (by kernel_rfl) (fun _ _ _ h => h) (Or.inl ⟨by rfl, fun w0 hSw => ?_⟩) hHeld ?_
  · (have hS : W.grownBy w0 V.ownBlock := hSw; have a0 := hS.cell hv0 m3; have a1 := hS.cell hv1 m3; have a2 := hS.cell hv2 m3; have a3 := hS.cell hv3 m3; clear hS hSw; go_simp)
  simp only [Act.put, List.setIfInBounds_toArray, List.set_cons_zero, List.set_cons_succ]
  refine wpAnyH_take (i := 7) (oi := { dst := some 38, op := Op.load 26 (Operand.tmp 9), type := 26, pos := "terms.go:30", after := #[], guard := none }) (v := .agg #[.int .u64 z.x0, .int .u64 z.x1, .int .u64 z.x2, .int .u64 z.x3]) rfl (by kernel_rfl) (by kernel_rfl) (by kernel_rfl) (fun _ _ _ h => h) (Or.inl ⟨by rfl, fun w0 hSw => ?_⟩) hHeld ?_
  · (have hS : W.grownBy w0 V.ownBlock := hSw; have a0 := hS.cell hz0 n9; have a1 := hS.cell hz1 n9; have a2 := hS.cell hz2 n9; have a3 := hS.cell hz3 n9; clear hS hSw; go_simp)
  simp only [Act.put, List.setIfInBounds_toArray, List.set_cons_zero, List.set_cons_succ]
  refine wpAnyH_take (i := 8) (oi := { dst := some 39, op := Op.load 26 (Operand.tmp 6), type := 26, pos := "terms.go:30", after := #[], guard := none }) (v := .agg #[.int .u64 u.x0, .int .u64 u.x1, .int .u64 u.x2, .int .u64 u.x3]) rfl (by kernel_rfl) (by kernel_rfl) (by kernel_rfl) (fun _ _ _ h => h) (Or.inl ⟨by rfl, fun w0 hSw => ?_⟩) hHeld ?_
  · (have hS : W.grownBy w0 V.ownBlock := hSw; have a0 := hS.cell hu0 n6; have a1 := hS.cell hu1 n6; have a2 := hS.cell hu2 n6; have a3 := hS.cell hu3 n6; clear hS hSw; go_simp)
  simp only [Act.put, List.setIfInBounds_toArray, List.set_cons_zero, List.set_cons_succ]
  refine wpAnyH_ready (rs := [6]) (by kernel_rfl) (by simp) ?_
  refine AllReadyH.cons (o := { dst := some 37, op := Op.call { callee := Callee.value (Operand.func 10), args := #[Operand.tmp 32, Operand.tmp 36], argTypes := #[26, 26] }, type := 26, pos := "terms.go:30", after := #[{ on := 1, ground := Ground.data }, { on := 5, ground := Ground.data }], guard := none }) rfl (fun K hK => ?_) AllReadyH.nil
  have HH := hidden hHeld
  clear hHeld
  go_simp
  refine (C1.out _ HH.out).mono ?_
  rintro e wn1 ⟨rfl, hb⟩
  replace OW := hidden (own_keepI OW.out hb)
  have SN := hidden (HH.out.trans (gbI hb _))
  clear HH hb C1
  go_wp2_with fail
  refine hK.out _ _ SN.out (fun hHeld1 => ?_)
  clear hK K SN
  refine wpAnyH_ready (rs := [9]) (by kernel_rfl) (by simp) ?_
  refine AllReadyH.cons (o := { dst := some 40, op := Op.call { callee := Callee.value (Operand.func 10), args := #[Operand.tmp 38, Operand.tmp 39], argTypes := #[26, 26] }, type := 26, pos := "terms.go:30", after := #[{ on := 7, ground := Ground.data }, { on := 8, ground := Ground.data }, { on := 6, ground := Ground.chain }], guard := none }) rfl (fun K hK => ?_) AllReadyH.nil
  have HH := hidden hHeld1
  clear hHeld1
  go_simp
  refine (C2.out _ HH.out).mono ?_
  rintro e wn2 ⟨rfl, hb⟩
  replace OW := hidden (own_keepI OW.out hb)
  have SN := hidden (HH.out.trans (gbI hb _))
  clear HH hb C2
  go_wp2_with fail
  refine hK.out _ _ SN.out (fun hHeld2 => ?_)
  clear hK K SN
  refine wpAnyH_ready (rs := [10]) (by kernel_rfl) (by simp) ?_
  refine AllReadyH.cons (o := { dst := some 41, op := Op.buildSlice 23 2 #[(0, Operand.tmp 37), (1, Operand.tmp 40)], type := 23, pos := "terms.go:30", after := #[{ on := 6, ground := Ground.data }, { on := 9, ground := Ground.data }], guard := none }) rfl (fun K hK => ?_) AllReadyH.nil
  have HH := hidden hHeld2
  clear hHeld2
  refine wp_buildS2 _ _ rfl r1 r2 rfl rfl ?_
  have H2 := hidden (show W.grownBy (wn2.alloc (.cells #[.int .u64 r1.x0, .int .u64 r1.x1, .int .u64 r1.x2, .int .u64 r1.x3, .int .u64 r2.x0, .int .u64 r2.x1, .int .u64 r2.x2, .int .u64 r2.x3] 26)) V.ownBlock from World.grownBy.trans HH.out (World.grownBy_alloc wn2 _ _))
  replace OW := hidden (OW.out.alloc (.cells #[.int .u64 r1.x0, .int .u64 r1.x1, .int .u64 r1.x2, .int .u64 r1.x3, .int .u64 r2.x0, .int .u64 r2.x1, .int .u64 r2.x2, .int .u64 r2.x3] 26))
  have CN := hidden (cells_new wn2 [.int .u64 r1.x0, .int .u64 r1.x1, .int .u64 r1.x2, .int .u64 r1.x3, .int .u64 r2.x0, .int .u64 r2.x1, .int .u64 r2.x2, .int .u64 r2.x3] 26)
  have ON : Hid (∀ u ∈ ([.int .u64 r1.x0, .int .u64 r1.x1, .int .u64 r1.x2, .int .u64 r1.x3, .int .u64 r2.x0, .int .u64 r2.x1, .int .u64 r2.x2, .int .u64 r2.x3] : List Value), u.oneCell' = true) := hidden (by simp [Value.oneCell'])
  refine hK.out _ _ H2.out (fun hHb => ?_)
  clear hK K HH
  simp only [Act.put, List.setIfInBounds_toArray, List.set_cons_zero, List.set_cons_succ]
  refine wpAnyH_ready (rs := [11]) (by kernel_rfl) (by simp) ?_
  refine AllReadyH.cons (o := { dst := some 42, op := Op.call { callee := Callee.builtin Builtin.append, args := #[Operand.tmp 31, Operand.tmp 41], argTypes := #[23, 23] }, type := 23, pos := "terms.go:30", after := #[{ on := 0, ground := Ground.data }, { on := 10, ground := Ground.data }, { on := 9, ground := Ground.chain }], guard := none }) rfl (fun K hK => ?_) AllReadyH.nil
  clear hHb
  refine wp_appendI (.tmp 31) (.tmp 41) 23 rfl B 26 i0 (.agg #[.int .u64 0, .int .u64 0, .int .u64 0, .int .u64 0]) 4 32 HU.out HI.out HZ0.out HZ1.out HZ2.out rfl (by decide) V n xs rfl OW.out ⟨wn2.heap.size, 0, none⟩ 2 2 [.int .u64 r1.x0, .int .u64 r1.x1, .int .u64 r1.x2, .int .u64 r1.x3, .int .u64 r2.x0, .int .u64 r2.x1, .int .u64 r2.x2, .int .u64 r2.x3] rfl rfl CN.out ON.out (by have := HBN.out.2; unfold maxLen; omega) (by have := HBN.out.2; omega) (Nat.le_trans HBN.out.1 H2.out.size) ?_
  intro va wa hoa hga _
  have H3 := hidden (H2.out.trans hga)
  have OA := hidden hoa
  clear hoa hga OW H2 CN ON
  refine hK.out _ _ H3.out (fun hHa => ?_)
  clear hK K
  simp only [Act.put, List.setIfInBounds_toArray, List.set_cons_zero, List.set_cons_succ]
  refine wpAnyH_take (i := 12) (oi := { dst := some 7, op := Op.assign (Operand.tmp 42), type := 23, pos := "terms.go:30", after := #[{ on := 11, ground := Ground.data }, { on := 11, ground := Ground.chain }, { on := 0, ground := Ground.phase }, { on := 1, ground := Ground.phase }, { on := 2, ground := Ground.phase }, { on := 3, ground := Ground.phase }, { on := 4, ground := Ground.phase }, { on := 5, ground := Ground.phase }, { on := 6, ground := Ground.phase }, { on := 7, ground := Ground.phase }, { on := 8, ground := Ground.phase }, { on := 9, ground := Ground.phase }, { on := 10, ground := Ground.phase }, { on := 11, ground := Ground.phase }], guard := none }) (v := va) rfl (by kernel_rfl) (by kernel_rfl) (by kernel_rfl) (fun _ _ _ h => h) (Or.inl ⟨by rfl, fun w0 hSw => ?_⟩) hHa ?_
  · (clear hSw; go_simp)
  simp only [Act.put, List.setIfInBounds_toArray, List.set_cons_zero, List.set_cons_succ]
  refine wpAnyH_done (by kernel_rfl) ?_ _
  refine NoPanic.normal ?_
  exact HQ.out _ _ _ OA.out H3.out
end Go.Proofs.YtaejedhdpilhjaaDoor
namespace Go.Proofs.YtaejedhdpilhjaaDoor
open Go.RowKit
set_option linter.unusedVariables false
/-- the weights of n rounds, as scalars -/
def ws (a : Nat → Int) (n i : Nat) : E4 := lst (wt a 0 n i)
theorem ws_even (a : Nat → Int) (t k : Nat) : lst ((ws a t k).n * (iv (a t)).n) = ws a (t + 1) (2 * k) := by
  unfold ws iv
  rw [lst_mul, lst_mul', wt_succ, show 2 * k / 2 = k by omega, show 2 * k % 2 = 0 by omega, Nat.zero_add]
  rfl
theorem ws_odd (a : Nat → Int) (t k : Nat) : lst ((ws a t k).n * a t) = ws a (t + 1) (2 * k + 1) := by
  unfold ws
  rw [lst_mul, wt_succ, show (2 * k + 1) / 2 = k by omega, show (2 * k + 1) % 2 = 1 by omega, Nat.zero_add]
  rfl
theorem step_ws {w : World} {B k : Nat} {v : Value} {a : Nat → Int} {t : Nat} {r1 r2 : E4} (h1 : r1 = ws a (t + 1) (2 * k)) (h2 : r2 = ws a (t + 1) (2 * k + 1)) (h : w.ownsRow B 26 4 v (2 * k + 2) (svs (2 * k) (ws a (t + 1)) ++ [.int .u64 r1.x0, .int .u64 r1.x1, .int .u64 r1.x2, .int .u64 r1.x3, .int .u64 r2.x0, .int .u64 r2.x1, .int .u64 r2.x2, .int .u64 r2.x3])) : w.ownsRow B 26 4 v (2 * (k + 1)) (svs (2 * (k + 1)) (ws a (t + 1))) := by
  subst h1 h2
  rw [show 2 * (k + 1) = 2 * k + 1 + 1 by omega, svs_succ, svs_succ, List.append_assoc]
  exact h
set_option maxRecDepth 100000 in
set_option maxHeartbeats 16000000 in
theorem weights_any (b n c : Nat) (g : Nat → E4) (w : World) (hT : Tb w) (hn : n ≤ 10) (hg : ∀ k, k < n → (g k).ok) (hR : Rws w b n g) :
    Calls Tryd.prog 24 #[.slice (some ⟨b, 0, none⟩) n c] w fun e w' => ∃ bl cl : Nat, e = .returned (.slice (some ⟨bl, 0, none⟩) (2 ^ n) cl) ∧ Rws w' bl (2 ^ n) (ws (fun k => (g k).n) n) ∧ Below w.heap.size w w' := by
  have IA := hidden (InvertAll_any b n c g w hT (by omega) hg hR)
  have HT := hidden hT
  have HR := hidden hR
  have HG := hidden hg
  have HN := hidden hn
  obtain ⟨a, ha⟩ : ∃ a : Nat → Int, (fun k => (g k).n) = a := ⟨_, rfl⟩
  have ha' : ∀ k, (g k).n = a k := fun k => congrFun ha k
  simp only [ha'] at IA
  rw [ha]
  have HA := hidden ha'
  have nn0 : (0 : Int) ≤ (n : Int) := by omega
  have IT := hidden (fun w => fix (Int_any 1 w (by unfold Sm.Wd; omega)) (show lst 1 = ws a 0 0 from rfl))
  simp only [E4.v] at IT
  obtain ⟨i0, hi, hz0, hz1, hz2⟩ := info_parts sinfo
  have HI := hidden hi
  have HZ0 := hidden hz0
  have HZ1 := hidden hz1
  have HZ2 := hidden hz2
  clear hT hR hg hn hi hz0 hz1 hz2 ha ha'
  go_enter Tryd.func24, Tryd.ntmps24
  go_upto_region 2 with (first | (go_at_call 39; refine (IA.out).mono ?_; rintro e w1 ⟨b3, rfl, hb3, hr3, hb1⟩; have R3 := hidden hr3; have B1 := hidden hb1; clear hb3 hr3 hb1))
  clear IA
  go_cut [4] (fun vx wx => ∃ bl : Nat, vx = .slice (some ⟨bl, 0, none⟩) 1 1 ∧ Rws wx bl 1 (ws a 0) ∧ Below w1.heap.size w1 wx)
  case first =>
    go_wp2_with fail
    refine (IT.out _).mono ?_
    rintro e w2 ⟨rfl, hb2⟩
    have R0 := hidden ((Rws.one w2 (ws a 0 0) 26).congr (f := ws a 0) (fun k hk => by rw [show k = 0 by omega]))
    have B0 := hidden (bl_trans hb2 (bl_alloc w2 (.cells #[.int .u64 (ws a 0 0).x0, .int .u64 (ws a 0 0).x1, .int .u64 (ws a 0 0).x2, .int .u64 (ws a 0 0).x3] 26)))
    clear hb2 IT
    generalize ws a 0 0 = q at *
    go_wp2_with fail
    go_meet
    exact ⟨_, rfl, R0.out, B0.out⟩
  case rest =>
  obtain ⟨bl0, rfl, r0, b0⟩ := hcut
  have R0 := hidden r0
  have B0 := hidden (bl_trans B1.out b0)
  replace R3 := hidden (R3.out.keep b0)
  clear r0 b0 B1 IT
  generalize wc = w2 at *
  clear w1
  go_wp2_with fail
  go_loopw [4, 16] (fun lv iv' w' => ∃ t M bl cl : Nat, t ≤ n ∧ M = 2 ^ t ∧ iv' = .int .i64 t ∧ lv = .slice (some ⟨bl, 0, none⟩) M cl ∧ Hid (Rws w' bl M (ws a t)) ∧ Hid (Below w2.heap.size w2 w')) (fun _ i _ => n - (intOf i).toNat)
  case atStart => exact ⟨0, 1, bl0, 1, by omega, rfl, rfl, rfl, R0, hidden (Below.refl _ _)⟩
  case round =>
    clear R0
    obtain ⟨t, M, bl, cl, ht, hM, rfl, rfl, hRl, hB⟩ := hrel
    by_cases htn : t < n
    · have k0 : (0 : Int) ≤ (t : Int) := by omega
      have k1 : (t : Int) < (n : Int) := by omega
      have hM1 : M ≤ 512 := by
        rw [hM]
        exact Nat.le_trans (Nat.pow_le_pow_right (by omega) (show t ≤ 9 by have := HN.out; omega)) (by decide)
      have w9 : IntKind.i64.wrap ((t : Int) + 1) = (t : Int) + 1 := IntWalk.i64_in _ (by have := HN.out; omega)
      have m9 : IntKind.i64.wrap (2 * (M : Int)) = 2 * (M : Int) := IntWalk.i64_in _ (by omega)
      have mm0 : (0 : Int) ≤ (M : Int) := by omega
      have bw := bl_trans B0.out hB.out
      have rx := HR.out.keep bw
      have x0 := rx.c0 t htn
      have x1 := rx.c1 t htn
      have x2 := rx.c2 t htn
      have x3 := rx.c3 t htn
      have zok := HG.out t htn
      have zn := HA.out t
      generalize g t = u at x0 x1 x2 x3 zok zn
      have BU := hidden (Blc.new wr u 26)
      have BA := hidden (bl_alloc wr (.cells #[.int .u64 u.x0, .int .u64 u.x1, .int .u64 u.x2, .int .u64 u.x3] 26))
      have RL := hidden (hRl.out.keep BA.out)
      have R4 := hidden ((R3.out.keep hB.out).keep BA.out)
      have B5 := hidden (bl_trans hB.out BA.out)
      have ZK := hidden zok
      have ZN := hidden zn
      have HM := hidden hM
      have HM1 := hidden hM1
      clear rx hRl hB bw BA zok zn hM hM1
      go_upto_region 6 with fail
      generalize wr.alloc (.cells #[.int .u64 u.x0, .int .u64 u.x1, .int .u64 u.x2, .int .u64 u.x3] 26) = w5 at *
      clear x0 x1 x2 x3
      generalize wr.heap.size = T6 at *
      clear wr
      have MK := run_make_own (P := Tryd.prog) w5 w5.heap.size 23 26 i0 (.agg #[.int .u64 0, .int .u64 0, .int .u64 0, .int .u64 0]) 4 (by kernel_rfl) HI.out HZ0.out HZ1.out .i64 .i64 (2 * M) (by rw [HZ2.out]; have := HM1.out; omega) (by unfold maxLen; have := HM1.out; omega) (Nat.le_refl _)
      obtain ⟨w6, hmk, ho6, hg6⟩ := MK
      rw [show ((2 * M : Nat) : Int) = 2 * (M : Int) by omega] at hmk
      have B6 := hidden (below_growI (B := w5.heap.size) hg6 (Nat.le_refl _) (fun k h => by cases h))
      have O6 := hidden ho6
      clear ho6 hg6
      go_wp2_with fail
      clear hmk m9
      go_loopw [7, 27] (fun v iv' w' => ∃ k : Nat, k ≤ M ∧ iv' = .int .i64 k ∧ Hid (w'.ownsRow w5.heap.size 26 4 v (2 * k) (svs (2 * k) (ws a (t + 1)))) ∧ Hid (Below w5.heap.size w5 w')) (fun _ i _ => M - (intOf i).toNat)
      case atStart => exact ⟨0, by omega, rfl, hidden O6.out, B6⟩
      case round =>
        clear O6 B6
        obtain ⟨k, hk, rfl, hO, hB⟩ := hrel
        by_cases hkm : k < M
        · have q0 : (0 : Int) ≤ (k : Int) := by omega
          have q1 : (k : Int) < (M : Int) := by omega
          have w8 : IntKind.i64.wrap ((k : Int) + 1) = (k : Int) + 1 := IntWalk.i64_in _ (by have := HM1.out; omega)
          have rl := RL.out.keep hB.out
          have y0 := rl.c0 k hkm
          have y1 := rl.c1 k hkm
          have y2 := rl.c2 k hkm
          have y3 := rl.c3 k hkm
          obtain ⟨z, hz⟩ : ∃ z, ws a t k = z := ⟨_, rfl⟩
          rw [hz] at y0 y1 y2 y3
          have zok : z.ok := by rw [← hz]; exact lst_ok _
          have BZ := hidden (Blc.new wr z 26)
          have BA := hidden (bl_alloc wr (.cells #[.int .u64 z.x0, .int .u64 z.x1, .int .u64 z.x2, .int .u64 z.x3] 26))
          have B7 := hidden (bl_trans hB.out BA.out)
          have n9 : some wr.heap.size ≠ u7.ownBlock := fun e => by have := hO.out.lt _ e.symm; omega
          have O7 := hidden (own_keepI hO.out BA.out)
          have HE := hidden hz
          have S5 := hidden (hB.out.size)
          clear rl hO hB hz BA
          go_upto_region 10 with fail
          generalize wr.alloc (.cells #[.int .u64 z.x0, .int .u64 z.x1, .int .u64 z.x2, .int .u64 z.x3] 26) = w7 at *
          clear y0 y1 y2 y3
          generalize wr.heap.size = T9 at *
          clear wr
          have lt5 : ∀ x, u7.ownBlock = some x → w5.heap.size ≤ x := fun x h => (O7.out.lt x h).1
          have bu := BU.out
          have n6 : some T6 ≠ u7.ownBlock := fun e => by have := lt5 _ e.symm; have := bu.lt; omega
          have n3 : some b3 ≠ u7.ownBlock := fun e => by have := lt5 _ e.symm; have := R4.out.lt; omega
          have r4 := R4.out
          have v0 := cell_keep (r4.c0 t htn) B7.out
          have v1 := cell_keep (r4.c1 t htn) B7.out
          have v2 := cell_keep (r4.c2 t htn) B7.out
          have v3 := cell_keep (r4.c3 t htn) B7.out
          obtain ⟨v, hv⟩ : ∃ v, iv (a t) = v := ⟨_, rfl⟩
          simp only [hv] at v0 v1 v2 v3
          obtain ⟨r1, hr1⟩ : ∃ r, lst (z.n * v.n) = r := ⟨_, rfl⟩
          obtain ⟨r2, hr2⟩ : ∃ r, lst (z.n * u.n) = r := ⟨_, rfl⟩
          have vok : v.ok := by rw [← hv]; exact lst_ok _
          have hs7 := B7.out.size
          have TT : ∀ x, w7.grownBy x u7.ownBlock → Tb x := fun x h => ((HT.out.keep B0.out).keep B5.out).keep (below_transI B7.out (below_growI h hs7 lt5))
          have C1 : Hid (∀ x, w7.grownBy x u7.ownBlock → Calls Tryd.prog 10 #[.agg #[.int .u64 z.x0, .int .u64 z.x1, .int .u64 z.x2, .int .u64 z.x3], .agg #[.int .u64 v.x0, .int .u64 v.x1, .int .u64 v.x2, .int .u64 v.x3]] x fun e w' => e = .returned (.agg #[.int .u64 r1.x0, .int .u64 r1.x1, .int .u64 r1.x2, .int .u64 r1.x3]) ∧ Below x.heap.size x w') := hidden (fun x h => fix (Mul_any z v x (TT x h) zok vok) hr1)
          have C2 : Hid (∀ x, w7.grownBy x u7.ownBlock → Calls Tryd.prog 10 #[.agg #[.int .u64 z.x0, .int .u64 z.x1, .int .u64 z.x2, .int .u64 z.x3], .agg #[.int .u64 u.x0, .int .u64 u.x1, .int .u64 u.x2, .int .u64 u.x3]] x fun e w' => e = .returned (.agg #[.int .u64 r2.x0, .int .u64 r2.x1, .int .u64 r2.x2, .int .u64 r2.x3]) ∧ Below x.heap.size x w') := hidden (fun x h => fix (Mul_any z u x (TT x h) zok ZK.out) hr2)
          have bz := BZ.out
          have hsb : w5.heap.size ≤ w7.heap.size := hs7
          have E1 : Hid (r1 = ws a (t + 1) (2 * k)) := hidden (by rw [← hr1, ← hv, ← HE.out]; exact ws_even a t k)
          have E2 : Hid (r2 = ws a (t + 1) (2 * k + 1)) := hidden (by rw [← hr2, ZN.out, ← HE.out]; exact ws_odd a t k)
          have LT := hidden lt5
          clear hr1 hr2 hv r4 lt5 TT vok
          refine wt10 _ u7 _ w5.heap.size (2 * k) b3 n n t T6 T9 z u v r1 r2 _ _ _ _ _ _ _ _ _ _ _ _ _ _ _ _ _ _ _ _ _ _ _ _ _ _ _ _ _ _ _ _ _ _ _ _ _ _ _ _ _ _ w7 O7.out (by have := HM1.out; omega) hsb k0 k1 n9 n6 n3 bz.c0 bz.c1 bz.c2 bz.c3 (cell_keep bu.c0 B7.out) (cell_keep bu.c1 B7.out) (cell_keep bu.c2 B7.out) (cell_keep bu.c3 B7.out) v0 v1 v2 v3 C1 C2 (hidden ?_)
          intro xb v' wz hoz hgz
          have OZ := hidden (step_ws E1.out E2.out hoz)
          have BZ2 := hidden (below_transI B7.out (below_growI hgz hsb LT.out))
          clear hoz hgz v0 v1 v2 v3 C1 C2 bz bu
          go_wp2_with fail
          go_roundw
          case rel => exact ⟨k + 1, by omega, by go_num, OZ, BZ2⟩
          case measure => simp [intOf]; omega
        · have hkm : M = k := by omega
          subst hkm
          have lq : ¬ (M : Int) < (M : Int) := by omega
          have mpos : 0 < M := by rw [HM.out]; exact Nat.pow_pos (by omega)
          obtain ⟨gg, cc, rfl, hcc⟩ : ∃ gg cc : Nat, u7 = .slice (some ⟨gg, 0, none⟩) (2 * M) cc ∧ w5.heap.size ≤ gg := by
            rcases hO.out.2 with ⟨_, h0⟩ | ⟨gg, cap2, cur, h1, hg, _⟩
            · omega
            · exact ⟨gg, cap2, h1, hg⟩
          have R8 := hidden (Rws.ownI hO.out)
          have B8 := hidden (below_transI (below_lessI B5.out (Nat.le_refl _)) (below_lessI hB.out B5.out.size))
          clear hO hB mpos
          go_wp2_with fail
          go_roundw
          case rel => exact ⟨t + 1, 2 * M, gg, cc, by omega, by rw [HM.out, Nat.pow_succ, Nat.mul_comm], by go_num, rfl, R8, B8⟩
          case measure => simp [intOf]; omega
    · have htn : n = t := by omega
      subst htn
      have lq : ¬ (n : Int) < (n : Int) := by omega
      have BF := hidden (bl_trans B0.out hB.out)
      have HM := hidden hM
      clear hB hM
      go_wp2_with fail
      refine bodyPost_ret (v := .slice (some ⟨bl, 0, none⟩) M cl) (by simp [results, Tryd.results24, go_sem]) rfl ⟨bl, ⟨cl, by rw [HM.out]⟩, by rw [← HM.out]; exact hRl.out, BF.out⟩
end Go.Proofs.YtaejedhdpilhjaaDoor
namespace Go.Proofs.YtaejedhdpilhjaaDoor
open Go.RowKit
set_option linter.unusedVariables false
set_option maxRecDepth 100000 in
set_option maxHeartbeats 16000000 in
theorem pWeights_long (b n c : Nat) (w : World) (h : 10 < n) :
    Calls Tryd.prog 8 #[.slice (some ⟨b, 0, none⟩) n c] w fun e w' => e = .returned (.tuple #[.slice none 0 0, .int .i64 2]) ∧ Below w.heap.size w w' := by
  have l0 : (10 : Int) < (n : Int) := by omega
  go_enter Tryd.func8, Tryd.ntmps8
  go_wp2_with fail
  refine bodyPost_ret (v := .tuple #[.slice none 0 0, .int .i64 2]) (by simp [results, Tryd.results8, go_sem]) rfl ⟨rfl, Below.refl _ _⟩
set_option maxRecDepth 100000 in
set_option maxHeartbeats 16000000 in
theorem pWeights_zero (b n c : Nat) (g : Nat → E4) (w : World) (hT : Tb w) (hn : n ≤ 10) (hg : ∀ k, k < n → (g k).ok) (hR : Rws w b n g) (hz : az n g) :
    Calls Tryd.prog 8 #[.slice (some ⟨b, 0, none⟩) n c] w fun e w' => e = .returned (.tuple #[.slice none 0 0, .int .i64 4]) ∧ Below w.heap.size w w' := by
  have l0 : ¬ (10 : Int) < (n : Int) := by omega
  have ZA := hidden (zeroAmong_any b n c n g w hT (by omega) (Nat.le_refl _) hg hR true ⟨fun _ => hz, fun _ => rfl⟩)
  simp only [if_true] at ZA
  clear hT hn hg hR hz
  go_enter Tryd.func8, Tryd.ntmps8
  go_wp2_with (first | (go_at_call 23; refine (ZA.out).mono ?_; rintro e w1 ⟨rfl, hb1⟩; have B1 := hidden hb1; clear hb1))
  refine bodyPost_ret (v := .tuple #[.slice none 0 0, .int .i64 4]) (by simp [results, Tryd.results8, go_sem]) rfl ⟨rfl, B1.out⟩
set_option maxRecDepth 100000 in
set_option maxHeartbeats 16000000 in
theorem pWeights_in (b n c : Nat) (g : Nat → E4) (w : World) (hT : Tb w) (hn : n ≤ 10) (hg : ∀ k, k < n → (g k).ok) (hR : Rws w b n g) (hz : ¬ az n g) :
    Calls Tryd.prog 8 #[.slice (some ⟨b, 0, none⟩) n c] w fun e w' => ∃ bl cl : Nat, e = .returned (.tuple #[.slice (some ⟨bl, 0, none⟩) (2 ^ n) cl, .int .i64 0]) ∧ Rws w' bl (2 ^ n) (ws (fun k => (g k).n) n) ∧ Below w.heap.size w w' := by
  have l0 : ¬ (10 : Int) < (n : Int) := by omega
  have ZA := hidden (zeroAmong_any b n c n g w hT (by omega) (Nat.le_refl _) hg hR false ⟨fun h => (by cases h), fun h => absurd h hz⟩)
  simp only [if_false, Bool.false_eq_true] at ZA
  have WE := hidden (fun w' hb => weights_any b n c g w' (hT.keep hb) hn hg (hR.keep hb))
  clear hT hn hg hR hz
  go_enter Tryd.func8, Tryd.ntmps8
  go_wp2_with (first | (go_at_call 23; refine (ZA.out).mono ?_; rintro e w1 ⟨rfl, hb1⟩; have B1 := hidden hb1; clear hb1) | (go_at_call 24; refine (WE.out _ B1.out).mono ?_; rintro e w2 ⟨bl, cl, rfl, hr, hb2⟩; have B2 := hidden (bl_trans B1.out hb2); have R2 := hidden hr; clear hb2 hr))
  refine bodyPost_ret (v := .tuple #[.slice (some ⟨bl, 0, none⟩) (2 ^ n) cl, .int .i64 0]) (by simp [results, Tryd.results8, go_sem]) rfl ?_
  first | exact ⟨bl, cl, rfl, R2.out, B2.out⟩ | exact ⟨bl, ⟨cl, rfl⟩, R2.out, B2.out⟩
/-- a list that is answered: perhaps none -/
def Ln (w : World) (v : Value) (n : Nat) (g : Nat → E4) : Prop := ∃ (p : Option Addr) (c : Nat), v = .slice p n c ∧ (0 < n → ∃ b : Nat, p = some ⟨b, 0, none⟩ ∧ Rws w b n g)
theorem Ln.keep {w w' : World} {v : Value} {n : Nat} {g : Nat → E4} (h : Ln w v n g) (hb : Below w.heap.size w w') : Ln w' v n g := by
  obtain ⟨p, c, h1, h2⟩ := h
  exact ⟨p, c, h1, fun hn => by obtain ⟨b, e, r⟩ := h2 hn; exact ⟨b, e, r.keep hb⟩⟩
theorem Ln.own {w : World} {base n : Nat} {e : TypeId} {v : Value} {g : Nat → E4} (h : w.ownsRow base e 4 v n (svs n g)) : Ln w v n g := by
  rcases h.2 with ⟨h1, h0⟩ | ⟨gg, cap, cur, h1, hg, _⟩
  · exact ⟨none, 0, by rw [h1, h0], fun h => by omega⟩
  · subst h1
    exact ⟨_, cap, rfl, fun _ => ⟨gg, rfl, Rws.ownI h⟩⟩
end Go.Proofs.YtaejedhdpilhjaaDoor
