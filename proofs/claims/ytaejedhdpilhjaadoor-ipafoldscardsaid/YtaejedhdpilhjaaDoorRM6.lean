import Derived.Test.YtaejedhdpilhjaaDoorRM5
namespace Go.Proofs.YtaejedhdpilhjaaDoor
namespace Rp
open Go.RowKit
set_option linter.unusedVariables false
attribute [local go_sem] Oper.semAt_some
/-- so many challenges, none of them 0 -/
def Us (k : Nat) (u : Nat → E4) : Prop := ∀ t, t < k → (u t).ok ∧ ¬ (u t).n % Sm.L = 0
theorem svs_cg (n : Nat) (f g : Nat → E4) (h : ∀ k, k < n → f k = g k) : svs n f = svs n g := by
  induction n with
  | zero => rfl
  | succ n ih => rw [svs_succ, svs_succ, ih (fun k hk => h k (by omega)), h n (by omega)]
theorem wrap_p2 {k n : Nat} (hk : k ≤ 5) (hn : 2 ^ k = n) : wrap64 ((2 : Int) ^ k) = (n : Int) := by
  rw [← hn]
  rcases (show k = 0 ∨ k = 1 ∨ k = 2 ∨ k = 3 ∨ k = 4 ∨ k = 5 by omega) with rfl | rfl | rfl | rfl | rfl | rfl <;> decide +kernel
theorem fillR (P : Option Addr) (L cap n : Nat) (g : Nat → E4) (w : World) (hT : Tb w) (hL : L ≤ 4398046510976) (h0 : 0 < n) (hn : n ≤ 32) (hS : Lm w P L g) :
    Calls Tryd.prog 5 #[.slice P L cap, .int .i64 (n : Int)] w fun e w' => ∃ ab ac, e = .returned (.slice (some ⟨ab, 0, none⟩) n ac) ∧ (Rl w' ab 0 n (ff L g) ∧ n ≤ ac ∧ w.heap.size ≤ ab) ∧ Below w.heap.size w w' := by
  refine (fill_any P L cap n g w hT hL hn hS).mono ?_
  rintro e w' ⟨v, rfl, ho, hb⟩
  obtain ⟨n1, m1, rfl, hm⟩ := own_someR ho h0
  exact ⟨n1, m1, rfl, ⟨own_rlR ho, hm, (ho.lt n1 rfl).1⟩, hb⟩
theorem rl_boxS {A B : World} {q n tb : Nat} {f : Nat → E4} (h : Rl A q 0 n f) (kq : Kq (fun j => j = tb) A B) (hn : A.cell? ⟨tb, 0, none⟩ = some (.slice none 0 0)) : Rl B q 0 n f := by
  by_cases h0 : 0 < n
  · refine kq.rl h (fun e => ?_)
    have c := h.c0 0 h0
    have e' : q = tb := e
    subst e'
    simp only [Nat.zero_mul, Nat.add_zero] at c
    rw [hn] at c
    cases c
  · exact ⟨fun k hk => by omega, fun k hk => by omega, fun k hk => by omega, fun k hk => by omega⟩
theorem z4ok : zero4.ok := by rw [← zero_lst]; exact lst_ok _
theorem ff_ok {L : Nat} {g : Nat → E4} (h : ∀ k, k < L → (g k).ok) (i : Nat) : (ff L g i).ok := by
  unfold ff
  by_cases hi : i < L
  · rw [if_pos hi]; exact h i hi
  · rw [if_neg hi]; exact lst_ok _
theorem llineR (b c n : Nat) (g : Nat → E4) (y : World) (h0 : 0 < n) (hn : n ≤ 32) (hr : Rl y b 0 n g) :
    Calls Tryd.prog 7 #[.slice (some ⟨b, 0, none⟩) n c] y fun e w' => ∃ g1 c1 : Nat, e = .returned (.slice (some ⟨g1, 0, none⟩) n c1) ∧ (Rl w' g1 0 n g ∧ n ≤ c1) ∧ Below y.heap.size y w' := by
  refine (llineOf_any b c n g y hn hr).mono ?_
  rintro e w' ⟨v, rfl, ho, hb⟩
  obtain ⟨n1, m1, rfl, hm⟩ := own_someR ho h0
  exact ⟨n1, m1, rfl, ⟨own_rlR ho, hm⟩, hb⟩
theorem naz {k : Nat} {u : Nat → E4} (h : Us k u) : ¬ az k u := fun ⟨j, hj, e⟩ => (h j hj).2 e
theorem zaR (P : Option Addr) (cc k : Nat) (u : Nat → E4) (y : World) (hk : k ≤ 10) (hT : Tb y) (hU : Us k u) (hn : P = none → k = 0 ∧ cc = 0) (hs : ∀ a, P = some a → ∃ ub, a = ⟨ub, 0, none⟩ ∧ Rws y ub k u) :
    Calls Tryd.prog 23 #[.slice P k cc] y fun e w' => e = .returned (.int .i64 0) ∧ Below y.heap.size y w' := by
  cases P with
  | none =>
    obtain ⟨rfl, rfl⟩ := hn rfl
    refine (zeroAmong0 y).mono ?_
    rintro e w' ⟨rfl, rfl⟩
    exact ⟨rfl, Below.refl _ _⟩
  | some a =>
    obtain ⟨ub, rfl, r⟩ := hs a rfl
    exact zeroAmong_any ub k cc k u y hT (by omega) (Nat.le_refl _) (fun t ht => (hU t ht).1) r false ⟨fun h => (by cases h), fun h => absurd h (naz hU)⟩
theorem weR (P : Option Addr) (cc k : Nat) (u : Nat → E4) (y : World) (hk : k ≤ 10) (hT : Tb y) (hU : Us k u) (hn : P = none → k = 0 ∧ cc = 0) (hs : ∀ a, P = some a → ∃ ub, a = ⟨ub, 0, none⟩ ∧ Rws y ub k u) :
    Calls Tryd.prog 8 #[.slice P k cc] y fun e w' => ∃ bl cl : Nat, e = .returned (.tuple #[.slice (some ⟨bl, 0, none⟩) (2 ^ k) cl, .int .i64 0]) ∧ Rws w' bl (2 ^ k) (ws (fun t => (u t).n) k) ∧ Below y.heap.size y w' := by
  cases P with
  | none =>
    obtain ⟨rfl, rfl⟩ := hn rfl
    exact pWeights0 _ y hT
  | some a =>
    obtain ⟨ub, rfl, r⟩ := hs a rfl
    exact pWeights_in ub k cc u y hT hk (fun t ht => (hU t ht).1) r (naz hU)
theorem Yo.kq {ex : Nat → Prop} {u fg fh : Nat → E4} {k t : Nat} {y : Sx} {A B : World} (h : Yo u fg fh k t y A) (kq : Kq ex A B) (eg : ¬ ex y.g) (eh : ¬ ex y.h) : Yo u fg fh k t y B := by
  obtain ⟨h1, F, G, tw, h2, h3⟩ := h
  exact ⟨h1, F, G, tw.kq kq eg eh, h2, h3⟩
/-- what the law keeps between two rounds -/
structure Li (w wq : World) (T k : Nat) (u fa fb : Nat → E4) (ys : List Sx) (V : World) : Prop where
  bel : Below w.heap.size w V
  kq : Kq (fun j => j = T ∨ j = T + 1) wq V
  th : V.there T 0 10
  cn : V.cell? ⟨T + 1, 0, none⟩ = some (.int .i64 (ys.length : Int))
  tn : V.there (T + 1) 0 1
  la : ys.length = 0 ∨ ∃ y : Sx, V.rangeAt T 0 y.cs ∧ Yo u fa fb k (ys.length - 1) y V ∧ wq.heap.size + 7 ≤ y.g ∧ wq.heap.size + 7 ≤ y.h
theorem Li.gr {w wq : World} {T k : Nat} {u fa fb : Nat → E4} {ys : List Sx} {A B : World} {row : Option Nat} (h : Li w wq T k u fa fb ys A) (hg : A.grownBy B row) (ht : T + 1 < wq.heap.size) (hw : w.heap.size ≤ wq.heap.size) (hr : ∀ r, row = some r → wq.heap.size ≤ r ∧ r < wq.heap.size + 2 + 5) : Li w wq T k u fa fb ys B := by
  have kq : Kq (fun j => wq.heap.size ≤ j ∧ j < wq.heap.size + 7) A B := ⟨hg.size, fun j hj hne => hg.block j hj (fun e => hne (by have := hr j e.symm; omega))⟩
  refine ⟨h.bel.grown hg (Nat.le_trans hw h.kq.sz) (fun j hj => by have := hr j hj; omega), ⟨Nat.le_trans h.kq.sz hg.size, fun j hj hne => (kq.blk j (Nat.lt_of_lt_of_le hj h.kq.sz) (by omega)).trans (h.kq.blk j hj hne)⟩, kq.there h.th (by omega), kq.cell h.cn (by simp only; omega), kq.there h.tn (by omega), ?_⟩
  rcases h.la with h0 | ⟨y, h1, h2, h3, h4⟩
  · exact Or.inl h0
  · exact Or.inr ⟨y, kq.range h1 (by omega), h2.kq kq (by omega) (by omega), h3, h4⟩
theorem Rws.kqR {ex : Nat → Prop} {A B : World} {b n : Nat} {g : Nat → E4} (h : Rws A b n g) (k : Kq ex A B) (he : ¬ ex b) : Rws B b n g := ⟨fun j hj => k.cell (h.c0 j hj) he, fun j hj => k.cell (h.c1 j hj) he, fun j hj => k.cell (h.c2 j hj) he, fun j hj => k.cell (h.c3 j hj) he, fun j hj => (k.frz h.lt he).trans (h.fr j hj), Nat.lt_of_lt_of_le h.lt k.sz⟩
/-- the sums, as the law makes them -/
def sA (x y : Nat → E4) : Nat → E4
  | 0 => zero4
  | i + 1 => lst ((sA x y i).n + (lst ((x i).n * (y i).n)).n)
theorem sA_ok (x y : Nat → E4) : ∀ i, (sA x y i).ok
  | 0 => z4ok
  | i + 1 => lst_ok _
theorem sA_su (x y : Nat → E4) : ∀ i, (sA x y i).n % Sm.L = su (fun j => (x j).n * (y j).n) i % Sm.L
  | 0 => by
    show zero4.n % Sm.L = 0 % Sm.L
    rw [← zero_lst, lst_n, emod_emod_L]
  | i + 1 => by
    show (lst _).n % Sm.L = (su _ i + _) % Sm.L
    rw [lst_n, emod_emod_L, lst_n, Int.add_emod, sA_su x y i, emod_emod_L, ← Int.add_emod]
theorem sum_left (u : Nat → E4) (k : Nat) (f : Nat → E4) (p : E4) (h : lst p.n = lst (gf u k f k 0).n) : lst p.n = lst (sA (ws (fun t => (u t).n) k) f (2 ^ k)).n := by
  rw [h]
  refine lst_congr ?_
  rw [gf_sum, sA_su]
  refine su_mod _ (fun j hj => ?_)
  unfold ws
  rw [lst_n, Int.mul_emod (wt _ 0 k j % Sm.L), emod_emod_L, ← Int.mul_emod]
theorem sum_right (u : Nat → E4) (k : Nat) (f : Nat → E4) (p : E4) (hu : ∀ t, t < k → ¬ (u t).n % Sm.L = 0) (h : lst p.n = lst (hf u k f k 0).n) : lst p.n = lst (sA (fun j => iv (ws (fun t => (u t).n) k j).n) f (2 ^ k)).n := by
  rw [h]
  refine lst_congr ?_
  rw [hf_sum, sA_su]
  refine su_mod _ (fun j hj => ?_)
  have e : (iv (ws (fun t => (u t).n) k j).n).n % Sm.L = wc (cg (fun t => (u t).n)) k j % Sm.L := by
    rw [← wc_inv (fun t => (u t).n) k j hu, ← wt_wc]
    unfold ws iv
    rw [lst_n, emod_emod_L]
    exact pow_emod _ _ _ (by rw [lst_n, emod_emod_L])
  show _ = (iv (ws (fun t => (u t).n) k j).n).n * (f j).n % Sm.L
  rw [Int.mul_emod, Int.mul_emod (iv _).n, e]
theorem sameR (a b : E4) (w : World) (hT : Tb w) (ha : a.ok) (hb : b.ok) (h : lst a.n = lst b.n) : Calls Tryd.prog 12 #[a.v, b.v] w fun e w' => e = .returned (.bool true) ∧ Below w.heap.size w w' := by
  have := Same_any a b w hT ha hb
  rw [h, E4.same_self] at this
  exact this
structure Lp (w w6 : World) (A B : Nat) (sa sb : E4) (V : World) : Prop where
  bel : Below w.heap.size w V
  kq : Kq (fun j => j = A ∨ j = B) w6 V
  ra : V.rangeAt A 0 [.int .u64 sa.x0, .int .u64 sa.x1, .int .u64 sa.x2, .int .u64 sa.x3]
  ta : V.there A 0 4
  rb : V.rangeAt B 0 [.int .u64 sb.x0, .int .u64 sb.x1, .int .u64 sb.x2, .int .u64 sb.x3]
  tb : V.there B 0 4
theorem Lp.stepA {w w6 : World} {A B : Nat} {sa sb r : E4} {V wy : World} (h : Lp w w6 A B sa sb V) (hb : Below V.heap.size V wy) (ht : wy.there A 0 4) (ne : A ≠ B) (hA : w.heap.size ≤ A) : Lp w w6 A B r sb (wy.setCells A 0 [.int .u64 r.x0, .int .u64 r.x1, .int .u64 r.x2, .int .u64 r.x3]) := by
  have GA := gb_setCells A [.int .u64 r.x0, .int .u64 r.x1, .int .u64 r.x2, .int .u64 r.x3] 0 wy
  have kA : Kq (fun j => j = A) wy _ := Kq.grown GA rfl
  have hw : Below w.heap.size w wy := h.bel.trans (hb.mono h.bel.size)
  exact ⟨below_box hw GA hA, (h.kq.trans (Kq.below hb)).trans (kA.mono (fun j e => Or.inl e)), World.rangeAt_setCells_same wy A 0 _ ht, there_setM ht A _, kA.range (range_keepM h.rb hb) (fun e => ne e.symm), there_setM (there_keepM h.tb hb) A _⟩
theorem Lp.stepB {w w6 : World} {A B : Nat} {sa sb r : E4} {V wy : World} (h : Lp w w6 A B sa sb V) (hb : Below V.heap.size V wy) (ht : wy.there B 0 4) (ne : A ≠ B) (hB : w.heap.size ≤ B) : Lp w w6 A B sa r (wy.setCells B 0 [.int .u64 r.x0, .int .u64 r.x1, .int .u64 r.x2, .int .u64 r.x3]) := by
  have GA := gb_setCells B [.int .u64 r.x0, .int .u64 r.x1, .int .u64 r.x2, .int .u64 r.x3] 0 wy
  have kA : Kq (fun j => j = B) wy _ := Kq.grown GA rfl
  have hw : Below w.heap.size w wy := h.bel.trans (hb.mono h.bel.size)
  exact ⟨below_box hw GA hB, (h.kq.trans (Kq.below hb)).trans (kA.mono (fun j e => Or.inr e)), kA.range (range_keepM h.ra hb) ne, there_setM (there_keepM h.ta hb) B _, World.rangeAt_setCells_same wy B 0 _ ht, there_setM ht B _⟩
set_option maxRecDepth 100000 in
set_option maxHeartbeats 16000000 in
theorem folds_law (P0 P1 P2 : Option Addr) (L0 c0 L1 c1 L2 c2 : Nat) (ga gb gu : Nat → E4) (w : World) (hT : Tb w) (l0 : L0 ≤ 4398046510976) (l1 : L1 ≤ 4398046510976) (l2 : L2 ≤ 4398046510976) (ha : Lm w P0 L0 ga) (hb : Lm w P1 L1 gb) (hu : Lm w P2 L2 gu) (oa : ∀ k, k < L0 → (ga k).ok) (ob : ∀ k, k < L1 → (gb k).ok) (ou : ∀ k, k < L2 → (gu k).ok) :
    Calls Tryd.prog 3 #[.slice P0 L0 c0, .slice P1 L1 c1, .slice P2 L2 c2] w fun e w' => e = .returned (.bool true) ∧ Below w.heap.size w w' := by
  have HA := hidden ha
  have HB := hidden hb
  have HUS := hidden hu
  have OA := hidden oa
  have OB := hidden ob
  have OU := hidden ou
  have HT := hidden hT
  have LL := hidden (And.intro l0 (And.intro l1 l2))
  have nn2 : (0 : Int) ≤ (L2 : Int) := by omega
  obtain ⟨i0, hi, hz0, hz1, hz2⟩ := info_parts infoR
  have HI := hidden hi
  have HZ0 := hidden hz0
  have HZ1 := hidden hz1
  have HZ2 := hidden hz2
  have HU : Hid (Tryd.prog.underlying 23 = some (.slice 26)) := hidden (by kernel_rfl)
  clear hi hz0 hz1 hz2 ha hb hu oa ob ou hT l0 l1 l2
  refine callsIn_wide (n := 4) |>.1 ?_
  refine callsIn_of_wp_marks Tryd.func3 rfl trivial ?_ rfl
  simp only [Tryd.ntmps3, List.size_toArray, List.length_cons, List.length_nil, Nat.reduceAdd, Nat.reduceSub, Array.replicate_succ, Array.replicate_zero, List.push_toArray, List.append_toArray, List.nil_append, List.cons_append]
  refine wpIn_wide.2 ?_
  go_wp2_with fail
  go_loopw [7, 8, 9] (fun kv ov iv' w' => ∃ (i k : Nat) (u : Nat → E4), i ≤ L2 ∧ kv = .int .i64 (k : Int) ∧ iv' = .int .i64 (i : Int) ∧ Hid (k ≤ 5 ∧ Us k u) ∧ Hid (w'.ownsRow w.heap.size 26 4 ov k (svs k u)) ∧ Hid (Below w.heap.size w w')) (fun _ _ i _ => L2 - (intOf i).toNat)
  case atStart => exact ⟨0, 0, gu, by omega, rfl, rfl, hidden ⟨by omega, fun t ht => by omega⟩, hidden (World.ownsRow_nil _ _ _ _), hidden (Below.refl _ _)⟩
  case round =>
    obtain ⟨i, k, u, hi, rfl, rfl, hK, hO, hB⟩ := hrel
    by_cases hgo : i < L2 ∧ k < 5
    · obtain ⟨hiL, hk5⟩ := hgo
      have j0 : (0 : Int) ≤ (i : Int) := by omega
      have j1 : (i : Int) < (L2 : Int) := by omega
      have j2 : (k : Int) < 5 := by omega
      have N9 : Hid (i < L2 ∧ L2 ≤ 4398046510976 ∧ k < 5) := hidden ⟨hiL, LL.out.2.2, hk5⟩
      have w9 : IntKind.i64.wrap ((i : Int) + 1) = (i : Int) + 1 := IntWalk.i64_in _ (by have := LL.out.2.2; omega)
      have w8 : IntKind.i64.wrap ((k : Int) + 1) = (k : Int) + 1 := IntWalk.i64_in _ (by omega)
      obtain ⟨sb, so, h1, h2⟩ := HUS.out
      obtain rfl := h1 (by omega)
      have rx := (h2 (by omega)).keep hB.out
      have x0 := rx.c0 i hiL
      have x1 := rx.c1 i hiL
      have x2 := rx.c2 i hiL
      have x3 := rx.c3 i hiL
      have zok := OU.out i hiL
      obtain ⟨X, hX⟩ : ∃ X, gu i = X := ⟨_, rfl⟩
      rw [hX] at x0 x1 x2 x3 zok
      have XO := hidden zok
      have IZ := hidden (fun y T => IsZero_any X y T zok)
      simp only [E4.v] at IZ
      clear rx h1 h2 hX zok
      have nb := bl_alloc wr (.cells #[.int .u64 X.x0, .int .u64 X.x1, .int .u64 X.x2, .int .u64 X.x3] 26)
      have B3 := hidden (bl_trans hB.out nb)
      have O3 := hidden (own_keepI hO.out nb)
      have T3 := hidden (HT.out.keep B3.out)
      clear nb
      by_cases h0 : X.n % Sm.L = 0
      · rw [show decide (X.n % Sm.L = 0) = true from decide_eq_true h0] at IZ
        clear h0
        go_wp2_with (first | (go_at_call 4; refine (IZ.out _ T3.out).mono ?_; rintro e w3 ⟨rfl, hb3⟩; have O2 := hidden (own_keepI O3.out hb3); have B2 := hidden (bl_trans B3.out hb3); clear hb3))
        go_roundw
        case rel => exact ⟨i + 1, k, u, by omega, by go_num, by go_num, hK, O2, B2⟩
        case measure => simp [intOf]; omega
      · rw [show decide (X.n % Sm.L = 0) = false from decide_eq_false h0] at IZ
        have H0 := hidden h0
        clear h0
        have SV : Hid (svs (k + 1) (fun t => if t = k then X else u t) = svs k u ++ [.int .u64 X.x0, .int .u64 X.x1, .int .u64 X.x2, .int .u64 X.x3]) := hidden (by
          rw [svs_succ, svs_cg k _ u (fun t ht => if_neg (by omega))]
          simp only [if_true])
        have US : Hid (k + 1 ≤ 5 ∧ Us (k + 1) (fun t => if t = k then X else u t)) := hidden ⟨by omega, fun t ht => by
          by_cases e : t = k
          · simp only [e, if_true]; exact ⟨XO.out, H0.out⟩
          · simp only [if_neg e]; exact hK.out.2 t (by omega)⟩
        have RR := hidden (range_newM wr [.int .u64 X.x0, .int .u64 X.x1, .int .u64 X.x2, .int .u64 X.x3] 26)
        go_wp2_with (first | (go_at_call 4; refine (IZ.out _ T3.out).mono ?_; rintro e w3 ⟨rfl, hb3⟩; have O2 := hidden (own_keepI O3.out hb3); have B2 := hidden (bl_trans B3.out hb3); have rr := range_keepM RR.out hb3; have q0 := rr 0 _ rfl; have q1 := rr 1 _ rfl; have q2 := rr 2 _ rfl; have q3 := rr 3 _ rfl; simp only [Nat.zero_add] at q0 q1 q2 q3; have bs2 := B2.out.size; clear hb3 rr) | (at_builtin; refine wpList_append_moreS _ rfl _ _ 23 rfl w.heap.size 26 i0 (.agg #[.int .u64 0, .int .u64 0, .int .u64 0, .int .u64 0]) 32 HU.out HI.out HZ0.out HZ1.out HZ2.out rfl _ _ _ rfl (Or.inl (O2.out.alloc _)) ⟨w3.heap.size, 0, none⟩ [.int .u64 X.x0, .int .u64 X.x1, .int .u64 X.x2, .int .u64 X.x3] rfl rfl (cells_new w3 [.int .u64 X.x0, .int .u64 X.x1, .int .u64 X.x2, .int .u64 X.x3] 26) (by simp [Value.oneCell']) (by have := N9.out; unfold maxLen; omega) (by have := N9.out; omega) (by simp; omega) ?_; intro v' w4 hown hb4; have HO := hidden hown; have HB4 := hidden (below_transI (bl_trans B2.out (bl_alloc w3 _)) hb4); clear hown hb4))
        go_roundw
        case rel => exact ⟨i + 1, k + 1, _, by omega, by go_num, by go_num, US, hidden (by rw [SV.out]; exact HO.out), HB4⟩
        case measure => simp [intOf]; omega
    · have hstop : (¬ (i : Int) < (L2 : Int)) ∨ ((i : Int) < (L2 : Int) ∧ ¬ (k : Int) < 5) := by omega
      have k5 := hK.out.1
      obtain ⟨P, cc, hv, hcc⟩ := own_shapeR hO.out
      have hNil : Hid (P = none → k = 0 ∧ cc = 0) := hidden (fun e => by
        rcases hO.out.2 with ⟨h1, h2⟩ | ⟨g, cap, cur, h1, _⟩
        · rw [hv] at h1; cases h1; exact ⟨h2, rfl⟩
        · rw [hv, e] at h1; cases h1)
      have hSom : Hid (∀ a, P = some a → ∃ ub, a = ⟨ub, 0, none⟩ ∧ w.heap.size ≤ ub ∧ Rws wr ub k u) := hidden (fun a e => by
        rcases hO.out.2 with ⟨h1, h2⟩ | ⟨g, cap, cur, h1, _⟩
        · rw [hv, e] at h1; cases h1
        · have ho := hO.out
          rw [h1] at ho
          rw [hv, e] at h1
          cases h1
          exact ⟨g, rfl, (ho.lt g rfl).1, Rws.ownI ho⟩)
      have UU := hidden hK.out.2
      have K5 := hidden k5
      subst hv
      clear hK hO
      have W1 := hidden hB.out
      clear hB
      rcases hstop with hstop | ⟨hs1, hs2⟩
      · go_upto_region 10 with fail
        go_upto_region 11 with fail
        have NP : Hid (0 < 2 ^ k ∧ 2 ^ k ≤ 32) := hidden (by rcases p2 K5.out with ⟨_, h⟩ | ⟨_, h⟩ | ⟨_, h⟩ | ⟨_, h⟩ | ⟨_, h⟩ | ⟨_, h⟩ <;> rw [h] <;> decide)
        obtain ⟨n, hn⟩ : ∃ n, 2 ^ k = n := ⟨_, rfl⟩
        rw [hn] at NP
        rw [wrap_p2 K5.out hn]
        have HN := hidden hn
        have FA := hidden (fun y hy => fillR P0 L0 c0 n ga y (HT.out.keep hy) LL.out.1 NP.out.1 NP.out.2 (HA.out.keep hy))
        have FB := hidden (fun y hy => fillR P1 L1 c1 n gb y (HT.out.keep hy) LL.out.2.1 NP.out.1 NP.out.2 (HB.out.keep hy))
        clear hn
        go_upto_region 12 with (first | (go_at_call 5; refine (FA.out _ W1.out).mono ?_; rintro e wa ⟨ab, ac, rfl, ra, hba⟩; have BA := hidden (bl_trans W1.out hba); have RA := hidden ra; have WA := hidden hba; clear hba ra))
        clear FA
        go_upto_region 13 with (first | (go_at_call 5; refine (FB.out _ BA.out).mono ?_; rintro e wb ⟨bb, bc, rfl, rb, hbb⟩; have BB := hidden (bl_trans BA.out hbb); have RB := hidden rb; replace RA := hidden (And.intro (RA.out.1.keep hbb) RA.out.2); replace WA := hidden (bl_trans WA.out hbb); clear hbb rb))
        clear FB
        refine lw13 _ k _ _ _ _ _ _ _ _ _ _ _ _ _ _ _ _ _ _ _ _ _ _ _ _ _ _ _ _ _ _ _ _ _ _ _ _ _ _ _ _ _ _ _ _ _ _ _ _ _ _ _ _ _ _ _ _ _ _ _ _ _ _ _ _ _ _ _ _ _ _ _ _ _ _ _ _ _ _ _ _ _ _ _ _ _ _ _ _ _ _ _ _ _ _ _ _ _ _ _ _ _ _ _ _ _ _ _ _ _ _ _ _ _ _ _ _ _ _ _ _ _ _ _ _ _ _ _ _ _ _ _ _ _ _ _ _ _ _ _ _ _ _ _ _ _ _ _ _ _ wb (by omega) (hidden ?_)
        rintro n1 n2 tb _ htb ⟨wy, hby, r1, r2, hth, hrg, rfl⟩
        have cz : wy.cell? ⟨tb, 0, none⟩ = some (.slice none 0 0) := by have := hrg 0 _ rfl; exact this
        have kq : Kq (fun j => j = tb) wy (wy.setCells tb 0 [.slice (some ⟨n1, 0, none⟩) k k, .slice (some ⟨n2, 0, none⟩) k k, .int .u64 0, .int .u64 0, .int .u64 0, .int .u64 0, .int .u64 0, .int .u64 0, .int .u64 0, .int .u64 0]) := Kq.grown (gb_setCells tb [.slice (some ⟨n1, 0, none⟩) k k, .slice (some ⟨n2, 0, none⟩) k k, .int .u64 0, .int .u64 0, .int .u64 0, .int .u64 0, .int .u64 0, .int .u64 0, .int .u64 0, .int .u64 0] 0 wy) rfl
        have BZ := hidden (below_box hby (gb_setCells tb [.slice (some ⟨n1, 0, none⟩) k k, .slice (some ⟨n2, 0, none⟩) k k, .int .u64 0, .int .u64 0, .int .u64 0, .int .u64 0, .int .u64 0, .int .u64 0, .int .u64 0, .int .u64 0] 0 wy) htb)
        have RL1 := hidden (rl_boxS r1.1 kq cz)
        have RL2 := hidden (rl_boxS r2.1 kq cz)
        have RT := hidden (World.rangeAt_setCells_same wy tb 0 [.slice (some ⟨n1, 0, none⟩) k k, .slice (some ⟨n2, 0, none⟩) k k, .int .u64 0, .int .u64 0, .int .u64 0, .int .u64 0, .int .u64 0, .int .u64 0, .int .u64 0, .int .u64 0] hth)
        have Z1 : Hid (tb < (wy.setCells tb 0 [.slice (some ⟨n1, 0, none⟩) k k, .slice (some ⟨n2, 0, none⟩) k k, .int .u64 0, .int .u64 0, .int .u64 0, .int .u64 0, .int .u64 0, .int .u64 0, .int .u64 0, .int .u64 0]).heap.size ∧ n1 < (wy.setCells tb 0 [.slice (some ⟨n1, 0, none⟩) k k, .slice (some ⟨n2, 0, none⟩) k k, .int .u64 0, .int .u64 0, .int .u64 0, .int .u64 0, .int .u64 0, .int .u64 0, .int .u64 0, .int .u64 0]).heap.size ∧ n2 < (wy.setCells tb 0 [.slice (some ⟨n1, 0, none⟩) k k, .slice (some ⟨n2, 0, none⟩) k k, .int .u64 0, .int .u64 0, .int .u64 0, .int .u64 0, .int .u64 0, .int .u64 0, .int .u64 0, .int .u64 0]).heap.size) := hidden (by rw [size_setCellsM]; exact ⟨World.block_lt_of_cell? wy _ cz, r1.2.2, r2.2.2⟩)
        generalize wy.setCells tb 0 [.slice (some ⟨n1, 0, none⟩) k k, .slice (some ⟨n2, 0, none⟩) k k, .int .u64 0, .int .u64 0, .int .u64 0, .int .u64 0, .int .u64 0, .int .u64 0, .int .u64 0, .int .u64 0] = wz at BZ RL1 RL2 RT Z1 ⊢
        have B5 := hidden (bl_trans BB.out BZ.out)
        clear hby r1 r2 hth hrg cz kq htb wy
        have M0 := ((Mw.start wz).new [.int .u64 0, .int .u64 0, .int .u64 0, .int .u64 0, .int .u64 0, .int .u64 0, .int .u64 0, .int .u64 0, .slice none 0 0, .slice none 0 0] 35).new [.int .i64 0] 3
        simp only [World.size_alloc] at M0
        have MM := hidden M0
        clear M0
        go_upto_region 16 with fail
        obtain ⟨w5, hw5⟩ : ∃ w5, (wz.alloc (.cells #[.int .u64 0, .int .u64 0, .int .u64 0, .int .u64 0, .int .u64 0, .int .u64 0, .int .u64 0, .int .u64 0, .slice none 0 0, .slice none 0 0] 35)).alloc (.cells #[.int .i64 0] 3) = w5 := ⟨_, rfl⟩
        rw [hw5] at MM
        rw [hw5]
        obtain ⟨T, hT5⟩ : ∃ T, T = wz.heap.size := ⟨_, rfl⟩
        have mT := MM.out.r (wz.heap.size, [.int .u64 0, .int .u64 0, .int .u64 0, .int .u64 0, .int .u64 0, .int .u64 0, .int .u64 0, .int .u64 0, .slice none 0 0, .slice none 0 0]) (by simp)
        have mC := MM.out.r (wz.heap.size + 1, [.int .i64 0]) (by simp)
        have B6 := hidden MM.out.bel
        rw [← hT5] at mT mC ⊢
        have MT := hidden (And.intro mT.1 (And.intro mT.2.1 mT.2.2.2))
        have MC := hidden (And.intro mC.1 (And.intro mC.2.1 mC.2.2.2))
        have HTS := hidden hT5
        clear mT mC hT5 hw5 MM
        refine lw16 _ _ n k ab ac bb bc tb cc P [.slice (some ⟨n1, 0, none⟩) k k, .slice (some ⟨n2, 0, none⟩) k k, .int .u64 0, .int .u64 0, .int .u64 0, .int .u64 0, .int .u64 0, .int .u64 0, .int .u64 0, .int .u64 0] (fun v a b => Rl v a 0 n (ff L0 ga) ∧ n ≤ b) (fun v a b => Rl v a 0 n (ff L1 gb) ∧ n ≤ b) (fun y w' Bk => ∀ ex : Nat → Prop, (∀ j, ex j → j < y.heap.size) → ¬ ex 0 → Gives (α := Sx) Fence.wide 3 Tryd.prog 21 #[.pointer (some ⟨Bk, 0, none⟩)] (fun x => #[x.v]) (fun b => Kq (fun j => ex j ∨ j + 1 = b)) (fun b pre y V => Yo u (ff L0 ga) (ff L1 gb) k pre.length y V ∧ b + 5 ≤ y.g ∧ b + 5 ≤ y.h) (fun xs => xs.length = k + 1) (k + 1) 5 w')
          _ _ _ _ _ _ _ _ _ _ _ _ _ _ _ _ _ _ _ _ _ _ _ _ _ _ _ _ _ _ _ _ _ _ _ _ _ _ _ _ _ _ _ _ _ _ _ _ _ _ _ _ _ _ _ _ _ _ _ _ _ _ _ _ _ _ _ _ _ _ _ _ _ _ _ _ _ _ _ _ _ _ _ _ _ _ _ _ _ _ _ _ _ _ _ _ _ _ _ _ _ _ _ _ _ _ _ _ _ _ _ _ _ _ _ _ _ _ _ _ _ _ _ _ _ _ _ _ _ _ _ _ _ _ _ _ _ _ _ _ _ _ _ _ _ _ w5 (range_keepM RT.out B6.out) (hidden iAT) (hidden Tryd.underlying31) rfl (hidden (fun v v' a b h hb => ⟨h.1.keep hb, h.2⟩)) (hidden ?c1) (hidden ?c3) (hidden ?c7) (hidden ?fin)
        case c1 =>
          intro y hy
          exact llineR ab ac n (ff L0 ga) y NP.out.1 NP.out.2 (RA.out.1.keep (bl_trans (bl_trans BZ.out B6.out) hy))
        case c3 =>
          intro y hy
          exact llineR bb bc n (ff L1 gb) y NP.out.1 NP.out.2 (RB.out.1.keep (bl_trans (bl_trans BZ.out B6.out) hy))
        case c7 =>
          intro y g1 c1' g2 c2' hy h1 h2
          have hwr := bl_trans (bl_trans (bl_trans WA.out BZ.out) B6.out) hy
          have hwy := bl_trans W1.out hwr
          have hk := K5.out
          refine (rounds_any ⟨zero4, zero4, n, g1, c1', g2, c2'⟩ k n1 k n2 k cc P u (fun _ => zero4) (fun _ => zero4) (ff L0 ga) (ff L1 gb) y hk (HT.out.keep hwy) ⟨z4ok, z4ok, h1.2, h2.2, h1.1, h2.1, fun j _ => ff_ok OA.out j, fun j _ => ff_ok OB.out j⟩ HN.out.symm (RL1.out.keep (bl_trans B6.out hy)) (RL2.out.keep (bl_trans B6.out hy)) (fun _ _ => z4ok) (fun _ _ => z4ok) (fun t ht => (UU.out t ht).1) hNil.out
            (fun a e => by obtain ⟨ub, h, _, r⟩ := hSom.out a e; exact ⟨ub, h, rws_rl (r.keep hwr)⟩)
            (fun z hz => zaR P cc k u z (by omega) ((HT.out.keep hwy).keep hz) UU.out hNil.out (fun a e => by obtain ⟨ub, h, _, r⟩ := hSom.out a e; exact ⟨ub, h, (r.keep hwr).keep hz⟩))).mono ?_
          rintro e w' ⟨Bk, rfl, hb, hg⟩
          exact ⟨Bk, rfl, hg, hb⟩
        case fin =>
        rintro Bk g1 c1' g2 c2' wq ⟨wy, h7, hy1, hy2⟩
        have G7 := hidden h7
        have B7 := hidden hy1
        have B8 := hidden (bl_trans hy1 hy2)
        have B9 := hidden hy2
        clear h7 hy1 hy2
        have EQF : ∀ w, (binOp .eql 37 (.func (.func 21) #[] #[.pointer (some ⟨Bk, 0, none⟩)]) .nilFunc).run Tryd.prog w = .ok (.bool false) w := fun w => by kernel_rfl
        go_wp2_with fail
        refine (wpIn_wide (n := 4)).1 ?_
        have tlt : T + 1 < w5.heap.size := MC.out.2.2
        have s57 := B8.out.size
        have s79 := B7.out.size
        have w0q : w.heap.size ≤ T := by have := B5.out.size; have := HTS.out; omega
        have tbl := World.block_lt_of_cell? w _ HT.out.1
        simp only at tbl
        have BQ : Below w.heap.size w wq := bl_trans (bl_trans B5.out B6.out) B8.out
        refine range_own (α := Sx) rfl (by omega) (gf := 21) (lb := #[.pointer (some ⟨Bk, 0, none⟩)]) rfl trivial (enters_of Tryd.func21 (by kernel_rfl) rfl) (G7.out (fun j => j = T ∨ j = T + 1) (fun j hj => by omega) (fun hj => by omega)) (Below.refl _ _) (fun _ => rfl) (fun h k => h.trans k) (fun A o => Kq.grown (grown_put A _ o) (Or.inr rfl))
          (fun ys V => Li w wq T k u (ff L0 ga) (ff L1 gb) ys V) (fun ys A B row h hg hr => h.gr hg (by omega) (by omega) (fun r e => hr r e))
          ⟨BQ, Kq.refl _ _, there_keepM MT.out.2.1 B8.out, by have := cell_keep (MC.out.1 0 _ rfl) B8.out; exact this, there_keepM MC.out.2.1 B8.out, Or.inl rfl⟩
          (fun pre x a' V => ∃ Bn, wq.heap.size + 7 ≤ Bn ∧ Bn < V.heap.size ∧ V.rangeAt Bn 0 x.cs ∧ Yo u (ff L0 ga) (ff L1 gb) k pre.length x V ∧ wq.heap.size + 7 ≤ x.g ∧ wq.heap.size + 7 ≤ x.h ∧ a' = { tmps := #[Value.slice P0 L0 c0, Value.slice P1 L1 c1, Value.slice P2 L2 c2, undef, undef, undef, Value.bool false, Value.int IntKind.i64 ↑k, Value.slice P k cc, Value.int IntKind.i64 ↑i, u10, Value.int IntKind.i64 ↑n, Value.slice (some { block := ab, off := 0 }) n ac, Value.slice (some { block := bb, off := 0 }) n bc, Value.pointer (some { block := tb, off := 0 }), Value.pointer (some { block := T, off := 0 }), Value.pointer (some { block := T + 1, off := 0 }), Value.func (Fn.func 21) #[] #[Value.pointer (some { block := Bk, off := 0 })], .pointer (some ⟨Bn, 0, none⟩), undef, undef, undef, undef, undef, Value.int IntKind.i64 ↑i, Value.slice P2 L2 c2, Value.int IntKind.i64 ↑L2, Value.bool false, Value.bool false, undef, undef, Value.bool false, u32, u33, u34, u35, u36, u37, u38, u39, u40, u41, u42, u43, u44, u45, u46, Value.int IntKind.i64 ↑k, Value.int IntKind.i64 ↑n, Value.slice P0 L0 c0, Value.int IntKind.i64 ↑n, Value.slice (some { block := ab, off := 0 }) n ac, Value.slice P1 L1 c1, Value.int IntKind.i64 ↑n, Value.slice (some { block := bb, off := 0 }) n bc, Value.int IntKind.i64 ↑k, Value.slice (some { block := n1, off := 0 }) k k, Value.int IntKind.i64 ↑k, Value.slice (some { block := n2, off := 0 }) k k, Value.agg #[Value.slice (some { block := n1, off := 0 }) k k, Value.slice (some { block := n2, off := 0 }) k k, Value.int IntKind.u64 0, Value.int IntKind.u64 0, Value.int IntKind.u64 0, Value.int IntKind.u64 0, Value.int IntKind.u64 0, Value.int IntKind.u64 0, Value.int IntKind.u64 0, Value.int IntKind.u64 0], Value.slice (some { block := ab, off := 0 }) n ac, Value.slice (some { block := g1, off := 0 }) n c1', Value.slice (some { block := bb, off := 0 }) n bc, Value.slice (some { block := g2, off := 0 }) n c2', Value.agg #[Value.int IntKind.u64 0, Value.int IntKind.u64 0, Value.int IntKind.u64 0, Value.int IntKind.u64 0, Value.int IntKind.u64 0, Value.int IntKind.u64 0, Value.int IntKind.u64 0, Value.int IntKind.u64 0, Value.slice (some { block := g1, off := 0 }) n c1', Value.slice (some { block := g2, off := 0 }) n c2'], Value.agg #[Value.slice (some { block := n1, off := 0 }) k k, Value.slice (some { block := n2, off := 0 }) k k, Value.int IntKind.u64 0, Value.int IntKind.u64 0, Value.int IntKind.u64 0, Value.int IntKind.u64 0, Value.int IntKind.u64 0, Value.int IntKind.u64 0, Value.int IntKind.u64 0, Value.int IntKind.u64 0], Value.slice P k cc, Value.func (Fn.func 21) #[] #[Value.pointer (some { block := Bk, off := 0 })], Value.func (Fn.func 21) #[] #[Value.pointer (some { block := Bk, off := 0 })], Value.bool false, Value.func (Fn.func 21) #[] #[Value.pointer (some { block := Bk, off := 0 })], x.v, undef, undef, undef, undef, undef, undef, undef, undef, undef, undef, undef, undef, undef, undef, undef, undef, undef, undef, undef, undef, undef, undef, undef, undef, undef, undef, undef, undef, undef, undef, undef, undef, undef, undef, undef, undef, undef, undef, undef, undef, undef, undef, undef, undef, undef, undef, undef, undef, undef, undef, undef, undef, undef, undef, undef, undef, undef, undef, undef, undef, undef, undef, undef, undef, undef, undef, undef, undef, undef, undef, undef, undef, undef, undef, undef, undef, undef, undef], defers := [] })
          (fun pre x a' _ A B row h hg hr => by
            obtain ⟨Bn, q1, q2, q3, q4, q5, q6, q7⟩ := h
            have kq : Kq (fun j => wq.heap.size ≤ j ∧ j < wq.heap.size + 7) A B := ⟨hg.size, fun j hj hne => hg.block j hj (fun e => hne (by have := hr j e.symm; omega))⟩
            exact ⟨Bn, q1, Nat.lt_of_lt_of_le q2 hg.size, kq.range q3 (by omega), q4.kq kq (by omega) (by omega), q5, q6, q7⟩) ?assign ?body ?done
        case assign =>
          rintro l' pre x V K hi ⟨yo, g5, h5⟩ hsz hK
          have THx : (V.alloc (.cells #[.int .u64 0, .int .u64 0, .int .u64 0, .int .u64 0, .int .u64 0, .int .u64 0, .int .u64 0, .int .u64 0, .slice none 0 0, .slice none 0 0] 35)).there V.heap.size 0 x.cs.length := there_newM V [.int .u64 0, .int .u64 0, .int .u64 0, .int .u64 0, .int .u64 0, .int .u64 0, .int .u64 0, .int .u64 0, .slice none 0 0, .slice none 0 0] 35
          have IXx : (Tryd.prog.info? 35).map (·.size) = some x.cs.length := sinfo _ _ _ _
          have OXx : x.cs.toArray.all (·.oneCell') = true := sone _ _ _ _ _ _ _ _
          have Bx1 : Below V.heap.size V ((V.alloc (.cells #[.int .u64 0, .int .u64 0, .int .u64 0, .int .u64 0, .int .u64 0, .int .u64 0, .int .u64 0, .int .u64 0, .slice none 0 0, .slice none 0 0] 35)).setCells V.heap.size 0 x.cs) := below_setCellsM _ _ _ (bl_alloc V _) (Nat.le_refl _)
          have Rx1 : ((V.alloc (.cells #[.int .u64 0, .int .u64 0, .int .u64 0, .int .u64 0, .int .u64 0, .int .u64 0, .int .u64 0, .int .u64 0, .slice none 0 0, .slice none 0 0] 35)).setCells V.heap.size 0 x.cs).rangeAt V.heap.size 0 x.cs := World.rangeAt_setCells_same _ _ _ _ THx
          have Zx1 : V.heap.size < ((V.alloc (.cells #[.int .u64 0, .int .u64 0, .int .u64 0, .int .u64 0, .int .u64 0, .int .u64 0, .int .u64 0, .int .u64 0, .slice none 0 0, .slice none 0 0] 35)).setCells V.heap.size 0 x.cs).heap.size := by rw [size_setCellsM, World.size_alloc]; omega
          have HK := hidden hK
          have P1x := hidden (And.intro THx (And.intro IXx OXx))
          have G1x := hidden (And.intro Bx1 (And.intro Rx1 Zx1))
          clear hK THx IXx OXx Bx1 Rx1 Zx1
          obtain ⟨C, hC⟩ : ∃ C, x.cs = C := ⟨_, rfl⟩
          rw [hC] at P1x G1x
          have XV : x.v = .agg C.toArray := by unfold Sx.v; rw [hC]
          simp only [XV]
          gi_wp2_with (first | (refine inStore rfl 35 _ _ rfl V.heap.size 0 C rfl rfl P1x.out.1 P1x.out.2.1 P1x.out.2.2 ?_))
          obtain ⟨V1, hV1⟩ : ∃ V1, (V.alloc (.cells #[.int .u64 0, .int .u64 0, .int .u64 0, .int .u64 0, .int .u64 0, .int .u64 0, .int .u64 0, .int .u64 0, .slice none 0 0, .slice none 0 0] 35)).setCells V.heap.size 0 C = V1 := ⟨_, rfl⟩
          rw [hV1] at G1x
          rw [hV1]
          obtain ⟨Bx1, Rx1, Zx1⟩ := G1x.out
          exact HK.out _ _ ⟨Bx1.size, Bx1.block _ (by omega), Bx1.block _ (by omega), Kq.below Bx1⟩ (hi.gr (gbI Bx1 none) (by omega) (by omega) (fun r e => by cases e)) ⟨V.heap.size, by omega, Zx1, by rw [hC]; exact Rx1, yo.kq (Kq.below (ex := fun _ => False) Bx1) (fun h => h) (fun h => h), by omega, by omega, by rw [XV]⟩
        case body =>
          rintro l' pre x a' V hi ⟨Bn, q1, q2, q3, q4, q5, q6, rfl⟩ hlen hsz
          obtain ⟨C, hC⟩ : ∃ C, x.cs = C := ⟨_, rfl⟩
          have XV : x.v = .agg C.toArray := by unfold Sx.v; rw [hC]
          have IX : Hid ((Tryd.prog.info? 35).map (·.size) = some C.length) := hidden (by rw [← hC]; exact sinfo _ _ _ _)
          have OX : Hid (C.toArray.all (·.oneCell') = true) := hidden (by rw [← hC]; exact sone _ _ _ _ _ _ _ _)
          have TX : Hid (V.there T 0 C.length) := hidden (by rw [← hC]; exact hi.th)
          have GA := gb_setCells T C 0 V
          have kA : Kq (fun j => j = T) V (V.setCells T 0 C) := Kq.grown GA rfl
          have cnt := kA.cell hi.cn (by simp only; omega)
          have frz : (V.setCells T 0 C).frozen? ⟨T + 1, 0, none⟩ = false := (kA.frz (a := ⟨T + 1, 0, none⟩) (by have := hi.kq.sz; simp only; omega) (by simp only; omega)).trans (hi.tn 0 (by omega)).2
          have w9 : IntKind.i64.wrap ((pre.length : Int) + 1) = (pre.length : Int) + 1 := IntWalk.i64_in _ (by have := K5.out; omega)
          have FIN : Hid (Kb (fun b' => Kq (fun j => (j = T ∨ j = T + 1) ∨ j + 1 = b')) wq.heap.size V ((V.setCells T 0 C).setCell ⟨T + 1, 0, none⟩ (.int .i64 ((pre.length : Int) + 1))) ∧ Li w wq T k u (ff L0 ga) (ff L1 gb) (pre ++ [x]) ((V.setCells T 0 C).setCell ⟨T + 1, 0, none⟩ (.int .i64 ((pre.length : Int) + 1)))) := hidden (by
            have GB := grownBy_setCell' (V.setCells T 0 C) (T + 1) (.int .i64 ((pre.length : Int) + 1))
            have kB : Kq (fun j => j = T + 1) _ _ := Kq.grown GB rfl
            have K12 : Kq (fun j => j = T ∨ j = T + 1) _ _ := (kA.mono (fun j h => Or.inl h)).trans (kB.mono (fun j h => Or.inr h))
            have cn2 : ((V.setCells T 0 C).setCell ⟨T + 1, 0, none⟩ (.int .i64 ((pre.length : Int) + 1))).cell? ⟨T + 1, 0, none⟩ = some (.int .i64 ((pre.length : Int) + 1)) := World.cell?_setCell_same _ _ _ (by rw [cnt])
            have ln : ((pre ++ [x]).length : Int) = (pre.length : Int) + 1 := by simp
            refine ⟨⟨K12.sz, K12.blk _ (by have := hi.kq.sz; omega) (by omega), K12.blk _ (by omega) (by omega), K12.mono (fun j h => Or.inl h)⟩, below_box (below_box hi.bel GA (by omega)) GB (by omega), hi.kq.trans K12, kB.there (there_setM hi.th T C) (by omega), by rw [cn2, ln], ?_, Or.inr ⟨x, ?_, ?_, q5, q6⟩⟩
            · intro j hj
              obtain rfl : j = 0 := by omega
              exact ⟨by rw [cn2]; rfl, by rw [World.frozen?_setCell]; exact frz⟩
            · rw [hC]; exact kB.range (World.rangeAt_setCells_same V T 0 C TX.out) (by omega)
            · rw [show (pre ++ [x]).length - 1 = pre.length by simp]; exact q4.kq K12 (by omega) (by omega))
          rw [hC] at q3
          have Q3 := hidden q3
          clear q1 q2 q3 q4 q5 q6 hi hsz hlen GA kA hC
          simp only [XV]
          gi_wp2_with (first | (refine inLoad rfl 35 _ rfl Bn 0 rfl C _ Q3.out Tryd.underlying35 rfl IX.out ?_) | (refine inStore rfl 35 _ _ rfl T 0 C rfl rfl TX.out IX.out OX.out ?_))
          exact FIN.out
        case done =>
          rintro ys V hS hi hdef
          have hNq := HTS.out
          have h57 : T + 1 < wq.heap.size := by omega
          have BWQ : Below wr.heap.size wr wq := bl_trans (bl_trans (bl_trans WA.out BZ.out) B6.out) B8.out
          have sab := RA.out.2.2
          have TV := HT.out.keep hi.bel
          have la := hi.la
          rw [hS] at la
          rcases la with la | ⟨y, hy1, hy2, hy3, hy4⟩
          · omega
          obtain ⟨py, qy, yn, yg, ygc, yh, yhc⟩ := y
          rw [show k + 1 - 1 = k by omega] at hy2
          obtain ⟨hyn, Fy, Gy, twy, eF, eG⟩ := hy2
          simp only [Nat.sub_self, Nat.pow_zero] at hyn
          subst hyn
          have zw : wz.heap.size ≤ wq.heap.size := by have := B6.out.size; omega
          have RlA : Rl V ab 0 n (ff L0 ga) := hi.kq.rl (RA.out.1.keep (bl_trans (bl_trans BZ.out B6.out) B8.out)) (by have h9 := World.block_lt_of_cell? wb _ (RA.out.1.c0 0 NP.out.1); have := BZ.out.size; simp only at h9; omega)
          have RlB : Rl V bb 0 n (ff L1 gb) := hi.kq.rl (RB.out.1.keep (bl_trans (bl_trans BZ.out B6.out) B8.out)) (by have h9 := World.block_lt_of_cell? wb _ (RB.out.1.c0 0 NP.out.1); have := BZ.out.size; simp only at h9; omega)
          have WW := hidden (weR P cc k u V (by have := K5.out; omega) TV UU.out hNil.out (fun a e => by
            obtain ⟨ub, h, _, r⟩ := hSom.out a e
            exact ⟨ub, h, Rws.kqR (r.keep BWQ) hi.kq (by have := r.lt; have := WA.out.size; have := BZ.out.size; omega)⟩))
          rw [HN.out] at WW
          have cG := hy1 8 _ rfl
          have cH := hy1 9 _ rfl
          have cN := hi.cn
          rw [hS] at cN
          simp only [Nat.zero_add] at cG cH
          have w9 : IntKind.i64.wrap ((k : Int) + 1) = (k : Int) + 1 := IntWalk.i64_in _ (by have := K5.out; omega)
          rw [show ((k + 1 : Nat) : Int) = (k : Int) + 1 by omega] at cN
          have PF := hidden (sum_left u k (ff L0 ga) (Fy 0) (eF 0))
          have PG := hidden (sum_right u k (ff L1 gb) (Gy 0) (fun t ht => (UU.out t ht).2) (eG 0))
          rw [HN.out] at PF PG
          have TWY := hidden twy
          have HIV := hidden hi
          have HDF := hidden hdef
          have ABL := hidden (And.intro RlA RlB)
          have BLT : Hid (yg < V.heap.size ∧ yh < V.heap.size ∧ ab < T ∧ bb < T) := hidden ⟨World.block_lt_of_cell? V _ (twy.rg.c0 0 (by show 0 < 1; omega)), World.block_lt_of_cell? V _ (twy.rh.c0 0 (by show 0 < 1; omega)), by have h9 := World.block_lt_of_cell? wb _ (RA.out.1.c0 0 NP.out.1); have := BZ.out.size; simp only at h9; omega, by have h9 := World.block_lt_of_cell? wb _ (RB.out.1.c0 0 NP.out.1); have := BZ.out.size; simp only at h9; omega⟩
          have TQ := hidden (And.intro h57 (And.intro w0q tbl))
          clear hy1 hy3 hy4 twy eF eG hi hdef RlA RlB hNq h57 BWQ sab TV zw hS
          go_upto_region 24 with (first | (go_at_call 8; refine (WW.out).mono ?_; rintro e wv ⟨bl, cl, rfl, hr, hbv⟩; have RW := hidden hr; have BV := hidden hbv; have dG := cell_keep cG hbv; have dH := cell_keep cH hbv; have dN := cell_keep cN hbv; clear hr hbv cG cH cN))
          clear WW
          go_upto_region 27 with fail
          have M6 := ((Mw.start wv).new [.int .u64 0, .int .u64 0, .int .u64 0, .int .u64 0] 26).new [.int .u64 0, .int .u64 0, .int .u64 0, .int .u64 0] 26
          simp only [World.size_alloc] at M6
          obtain ⟨w6, hw6⟩ : ∃ w6, (wv.alloc (.cells #[.int .u64 0, .int .u64 0, .int .u64 0, .int .u64 0] 26)).alloc (.cells #[.int .u64 0, .int .u64 0, .int .u64 0, .int .u64 0] 26) = w6 := ⟨_, rfl⟩
          rw [hw6] at M6
          rw [hw6]
          obtain ⟨A, hA⟩ : ∃ A, A = wv.heap.size := ⟨_, rfl⟩
          obtain ⟨wf, hwf⟩ : ∃ wf, wf = ws (fun t => (u t).n) k := ⟨_, rfl⟩
          rw [← hwf] at RW PF PG
          have okw : ∀ j, (wf j).ok := fun j => by rw [hwf]; exact lst_ok _
          have hVw : w.heap.size ≤ V.heap.size := HIV.out.bel.size
          have hVv := BV.out.size
          have mA := M6.r (wv.heap.size, [.int .u64 0, .int .u64 0, .int .u64 0, .int .u64 0]) (by simp)
          have mB := M6.r (wv.heap.size + 1, [.int .u64 0, .int .u64 0, .int .u64 0, .int .u64 0]) (by simp)
          rw [← hA] at mA mB ⊢
          have LP0 : Hid (Lp w w6 A (A + 1) (sA wf (ff L0 ga) 0) (sA (fun j => iv (wf j).n) (ff L1 gb) 0) w6) := hidden ⟨(HIV.out.bel.trans (BV.out.mono HIV.out.bel.size)).trans (M6.bel.mono (by omega)), Kq.refl _ _, mA.1, mA.2.1, mB.1, mB.2.1⟩
          have WLT : Hid (A < w6.heap.size ∧ A + 1 < w6.heap.size) := hidden ⟨mA.2.2.2, mB.2.2.2⟩
          have VLA : Hid (V.heap.size ≤ A ∧ w.heap.size ≤ A ∧ T + 1 < A ∧ 0 < A) := hidden (by have := TQ.out; have := HIV.out.kq.sz; omega)
          have BL : Hid (bl < A) := hidden (by rw [hA]; exact RW.out.lt)
          have RW6 := hidden (RW.out.keep M6.bel)
          have BV6 := hidden (bl_trans BV.out M6.bel)
          have OKW := hidden okw
          have nn : (0 : Int) ≤ (n : Int) := by omega
          have eG6 := cell_keep dG M6.bel
          have eH6 := cell_keep dH M6.bel
          have EGH := hidden (And.intro eG6 eH6)
          clear mA mB M6 hw6 hA hwf okw hVw hVv dG dH dN eG6 eH6 RW BV
          go_wp2_with fail
          go_loopw [23] (fun iv' V' => ∃ i : Nat, i ≤ n ∧ iv' = .int .i64 (i : Int) ∧ Hid (Lp w w6 A (A + 1) (sA wf (ff L0 ga) i) (sA (fun j => iv (wf j).n) (ff L1 gb) i) V')) (fun i _ => n - (intOf i).toNat)
          case atStart => exact ⟨0, by omega, rfl, LP0⟩
          case round =>
            clear LP0
            obtain ⟨i, hin, rfl, hL⟩ := hrel
            have rlA := hL.out.kq.rl ((ABL.out.1).keep BV6.out) (by have := BLT.out; have := VLA.out; omega)
            have rlB := hL.out.kq.rl ((ABL.out.2).keep BV6.out) (by have := BLT.out; have := VLA.out; omega)
            have rlW := hL.out.kq.rl (rws_rl RW6.out) (by have := BL.out; omega)
            have TBV := HT.out.keep hL.out.bel
            by_cases hlt : i < n
            · have j0 : (0 : Int) ≤ (i : Int) := by omega
              have j1 : (i : Int) < (n : Int) := by omega
              have w9' : IntKind.i64.wrap ((i : Int) + 1) = (i : Int) + 1 := IntWalk.i64_in _ (by have := NP.out.2; omega)
              have x0 := rlW.c0 i hlt
              have x1 := rlW.c1 i hlt
              have x2 := rlW.c2 i hlt
              have x3 := rlW.c3 i hlt
              have y0 := rlA.c0 i hlt
              have y1 := rlA.c1 i hlt
              have y2 := rlA.c2 i hlt
              have y3 := rlA.c3 i hlt
              simp only [Nat.zero_add] at x0 x1 x2 x3 y0 y1 y2 y3
              have X := hidden (And.intro x0 (And.intro x1 (And.intro x2 x3)))
              have Y := hidden (And.intro y0 (And.intro y1 (And.intro y2 y3)))
              have RLB := hidden rlB
              have RLW := hidden rlW
              have TBH := hidden TBV
              clear x0 x1 x2 x3 y0 y1 y2 y3 rlA rlB rlW TBV
              go_upto_region 30 with fail
              refine lw30 _ _ A n i bl cl ab ac (sA wf (ff L0 ga) i) (wf i) (ff L0 ga i) (lst ((wf i).n * (ff L0 ga i).n)) (sA wf (ff L0 ga) (i + 1)) _ _ _ _ _ _ _ _ _ _ _ _ _ _ _ _ _ _ _ _ _ _ _ _ _ _ _ _ _ _ _ _ _ _ _ _ _ _ _ _ _ _ _ _ _ _ _ _ _ _ _ _ _ _ _ _ _ _ _ _ _ _ _ _ _ _ _ _ _ _ _ _ _ _ _ _ _ _ _ _ _ _ _ _ _ _ _ _ _ _ _ _ _ _ _ _ _ _ _ _ _ _ _ _ _ _ _ _ _ _ _ _ _ _ _ _ _ _ _ _ _ _ _ _ _ _ _ _ _ _ _ _ _ _ _ _ _ _ _ _ _ _ _ _ _ _ _ (by have := BL.out; omega) (by have := BLT.out; have := VLA.out; omega) j0 j1 hL.out.ra hL.out.ta X.out.1 X.out.2.1 X.out.2.2.1 X.out.2.2.2 Y.out.1 Y.out.2.1 Y.out.2.2.1 Y.out.2.2.2
                (hidden (fun yy hyy => fix (Mul_any _ _ yy (TBH.out.keep0 hyy (by have := VLA.out; omega)) (OKW.out _) (ff_ok OA.out _)) rfl)) (hidden (fun yy hyy => fix (Add_any _ _ yy (TBH.out.keep0 hyy (by have := VLA.out; omega)) (sA_ok _ _ _) (lst_ok _)) rfl)) (hidden ?_)
              rintro wz3 ⟨wy3, hb3, ht3, rfl⟩
              have LQ1 := hidden (hL.out.stepA (r := sA wf (ff L0 ga) (i + 1)) hb3 ht3 (by omega) (by have := VLA.out; omega))
              generalize wy3.setCells A 0 [.int .u64 (sA wf (ff L0 ga) (i + 1)).x0, .int .u64 (sA wf (ff L0 ga) (i + 1)).x1, .int .u64 (sA wf (ff L0 ga) (i + 1)).x2, .int .u64 (sA wf (ff L0 ga) (i + 1)).x3] = wz3 at LQ1 ⊢
              have k31 : Kq (fun j => j = A ∨ j = A + 1) w6 wz3 := LQ1.out.kq
              have rlW2 := k31.rl (rws_rl RW6.out) (by have := BL.out; omega)
              have rlB2 := k31.rl ((ABL.out.2).keep BV6.out) (by have := BLT.out; have := VLA.out; omega)
              have x0 := rlW2.c0 i hlt
              have x1 := rlW2.c1 i hlt
              have x2 := rlW2.c2 i hlt
              have x3 := rlW2.c3 i hlt
              have y0 := rlB2.c0 i hlt
              have y1 := rlB2.c1 i hlt
              have y2 := rlB2.c2 i hlt
              have y3 := rlB2.c3 i hlt
              simp only [Nat.zero_add] at x0 x1 x2 x3 y0 y1 y2 y3
              have X2 := hidden (And.intro x0 (And.intro x1 (And.intro x2 x3)))
              have Y2 := hidden (And.intro y0 (And.intro y1 (And.intro y2 y3)))
              have TB2 := hidden (HT.out.keep LQ1.out.bel)
              clear x0 x1 x2 x3 y0 y1 y2 y3 rlW2 rlB2 k31 hb3 ht3 X Y hL
              go_upto_region 31 with fail
              refine lw31 _ _ (A + 1) n i bl cl bb bc (sA (fun j => iv (wf j).n) (ff L1 gb) i) (wf i) (ff L1 gb i) (lst ((iv (wf i).n).n * (ff L1 gb i).n)) (sA (fun j => iv (wf j).n) (ff L1 gb) (i + 1)) (iv (wf i).n) _ _ _ _ _ _ _ _ _ _ _ _ _ _ _ _ _ _ _ _ _ _ _ _ _ _ _ _ _ _ _ _ _ _ _ _ _ _ _ _ _ _ _ _ _ _ _ _ _ _ _ _ _ _ _ _ _ _ _ _ _ _ _ _ _ _ _ _ _ _ _ _ _ _ _ _ _ _ _ _ _ _ _ _ _ _ _ _ _ _ _ _ _ _ _ _ _ _ _ _ _ _ _ _ _ _ _ _ _ _ _ _ _ _ _ _ _ _ _ _ _ _ _ _ _ _ _ _ _ _ _ _ _ _ _ _ _ _ _ _ _ _ _ _ _ _ _ (by have := BL.out; omega) (by have := BLT.out; have := VLA.out; omega) j0 j1 LQ1.out.rb LQ1.out.tb X2.out.1 X2.out.2.1 X2.out.2.2.1 X2.out.2.2.2 Y2.out.1 Y2.out.2.1 Y2.out.2.2.1 Y2.out.2.2.2
                (hidden (fun yy hyy => fix (Invert_any _ yy (TB2.out.keep0 hyy (by have := VLA.out; omega)) (OKW.out _)) rfl)) (hidden (fun yy hyy => fix (Mul_any _ _ yy (TB2.out.keep0 hyy (by have := VLA.out; omega)) (lst_ok _) (ff_ok OB.out _)) rfl)) (hidden (fun yy hyy => fix (Add_any _ _ yy (TB2.out.keep0 hyy (by have := VLA.out; omega)) (sA_ok _ _ _) (lst_ok _)) rfl)) (hidden ?_)
              rintro wz4 ⟨wy4, hb4, ht4, rfl⟩
              have L2' := hidden (LQ1.out.stepB (r := sA (fun j => iv (wf j).n) (ff L1 gb) (i + 1)) hb4 ht4 (by omega) (by have := VLA.out; omega))
              generalize wy4.setCells (A + 1) 0 [.int .u64 (sA (fun j => iv (wf j).n) (ff L1 gb) (i + 1)).x0, .int .u64 (sA (fun j => iv (wf j).n) (ff L1 gb) (i + 1)).x1, .int .u64 (sA (fun j => iv (wf j).n) (ff L1 gb) (i + 1)).x2, .int .u64 (sA (fun j => iv (wf j).n) (ff L1 gb) (i + 1)).x3] = wz4 at L2' ⊢
              clear hb4 ht4 LQ1 X2 Y2
              go_wp2_with fail
              go_roundw
              case rel => exact ⟨i + 1, by omega, by go_num, L2'⟩
              case measure => simp [intOf]; omega
            · obtain rfl : i = n := by omega
              have lq : ¬ (i : Int) < (i : Int) := by omega
              have BVV : Kq (fun j => j = A ∨ j = A + 1) w6 wr := hL.out.kq
              have cG6 := BVV.cell EGH.out.1 (by have := VLA.out; simp only; omega)
              have cH6 := BVV.cell EGH.out.2 (by have := VLA.out; simp only; omega)
              have rP := BVV.rl ((TWY.out.rg).keep BV6.out) (by have := BLT.out; have := VLA.out; show ¬ (yg = A ∨ yg = A + 1); omega)
              have rQ := BVV.rl ((TWY.out.rh).keep BV6.out) (by have := BLT.out; have := VLA.out; show ¬ (yh = A ∨ yh = A + 1); omega)
              have p0 := rP.c0 0 (by show 0 < 1; omega)
              have p1 := rP.c1 0 (by show 0 < 1; omega)
              have p2' := rP.c2 0 (by show 0 < 1; omega)
              have p3 := rP.c3 0 (by show 0 < 1; omega)
              have q0 := rQ.c0 0 (by show 0 < 1; omega)
              have q1 := rQ.c1 0 (by show 0 < 1; omega)
              have q2 := rQ.c2 0 (by show 0 < 1; omega)
              have q3 := rQ.c3 0 (by show 0 < 1; omega)
              simp only [Nat.zero_mul, Nat.zero_add] at p0 p1 p2' p3 q0 q1 q2 q3
              have la0 := hL.out.ra 0 _ rfl
              have la1 := hL.out.ra 1 _ rfl
              have la2 := hL.out.ra 2 _ rfl
              have la3 := hL.out.ra 3 _ rfl
              have lb0 := hL.out.rb 0 _ rfl
              have lb1 := hL.out.rb 1 _ rfl
              have lb2 := hL.out.rb 2 _ rfl
              have lb3 := hL.out.rb 3 _ rfl
              simp only [Nat.zero_add] at la0 la1 la2 la3 lb0 lb1 lb2 lb3
              have DFF : Hid (wr.heap[wq.heap.size]? = some (.deferred (some []))) := hidden (by
                have hlt := (Array.getElem?_eq_some_iff.1 HDF.out).1
                rw [BVV.blk _ (by have := BV6.out.size; omega) (by have := VLA.out; omega), BV6.out.block _ hlt]
                exact HDF.out)
              have PACK := hidden (And.intro (And.intro cG6 cH6) (And.intro (And.intro p0 (And.intro p1 (And.intro p2' p3))) (And.intro (And.intro q0 (And.intro q1 (And.intro q2 q3))) (And.intro (And.intro la0 (And.intro la1 (And.intro la2 la3))) (And.intro lb0 (And.intro lb1 (And.intro lb2 lb3)))))))
              clear cG6 cH6 p0 p1 p2' p3 q0 q1 q2 q3 la0 la1 la2 la3 lb0 lb1 lb2 lb3 rP rQ BVV rlA rlB rlW TBV
              go_upto_region 32 with fail
              refine lw32 _ _ T A (A + 1) yg ygc yh yhc (Fy 0) (Gy 0) (sA wf (ff L0 ga) i) (sA (fun j => iv (wf j).n) (ff L1 gb) i) _ _ _ _ _ _ _ _ _ _ _ _ _ _ _ _ _ _ _ _ _ _ _ _ _ _ _ _ _ _ _ _ _ _ _ _ _ _ _ _ _ _ _ _ _ _ _ _ _ _ _ _ _ _ _ _ _ _ _ _ _ _ _ _ _ _ _ _ _ _ _ _ _ _ _ _ _ _ _ _ _ _ _ _ _ _ _ _ _ _ _ _ _ _ _ _ _ _ _ _ _ _ _ _ _ _ _ _ _ _ _ _ _ _ _ _ _ _ _ _ _ _ _ _ _ _ _ _ _ _ _ _ _ _ _ _ _ _ _ _ _ _ _ _ _ _ _ _ PACK.out.1.1 PACK.out.1.2 PACK.out.2.1.1 PACK.out.2.1.2.1 PACK.out.2.1.2.2.1 PACK.out.2.1.2.2.2 PACK.out.2.2.1.1 PACK.out.2.2.1.2.1 PACK.out.2.2.1.2.2.1 PACK.out.2.2.1.2.2.2 PACK.out.2.2.2.1.1 PACK.out.2.2.2.1.2.1 PACK.out.2.2.2.1.2.2.1 PACK.out.2.2.2.1.2.2.2 PACK.out.2.2.2.2.1 PACK.out.2.2.2.2.2.1 PACK.out.2.2.2.2.2.2.1 PACK.out.2.2.2.2.2.2.2
                (hidden (fun yy hyy => sameR (Fy 0) _ yy (((HT.out.keep hL.out.bel)).keep hyy) (TWY.out.og 0 (by show 0 < 1; omega)) (sA_ok _ _ _) PF.out)) (hidden (fun yy hyy => sameR (Gy 0) _ yy (((HT.out.keep hL.out.bel)).keep hyy) (TWY.out.oh 0 (by show 0 < 1; omega)) (sA_ok _ _ _) PG.out)) (hidden ?_)
              intro wend hbe
              have BE := hidden (hL.out.bel.trans (hbe.mono hL.out.bel.size))
              have DE : Hid (wend.heap[wq.heap.size]? = some (.deferred (some []))) := hidden (by
                rw [hbe.block _ (Array.getElem?_eq_some_iff.1 DFF.out).1]; exact DFF.out)
              clear hbe PACK DFF
              go_wp2_with fail
              refine ⟨by simp, .inl ⟨_, _, rfl, run_takeDeferred DE.out, ?_⟩⟩
              refine ⟨.bool true, by simp [results, Tryd.results3, go_sem], rfl, BE.out.grown (grown_put wend _ _) BE.out.size (fun j hj => by have := Option.some.inj hj; have := TQ.out; omega)⟩
      · go_upto_region 10 with fail
        go_upto_region 11 with fail
        have NP : Hid (0 < 2 ^ k ∧ 2 ^ k ≤ 32) := hidden (by rcases p2 K5.out with ⟨_, h⟩ | ⟨_, h⟩ | ⟨_, h⟩ | ⟨_, h⟩ | ⟨_, h⟩ | ⟨_, h⟩ <;> rw [h] <;> decide)
        obtain ⟨n, hn⟩ : ∃ n, 2 ^ k = n := ⟨_, rfl⟩
        rw [hn] at NP
        rw [wrap_p2 K5.out hn]
        have HN := hidden hn
        have FA := hidden (fun y hy => fillR P0 L0 c0 n ga y (HT.out.keep hy) LL.out.1 NP.out.1 NP.out.2 (HA.out.keep hy))
        have FB := hidden (fun y hy => fillR P1 L1 c1 n gb y (HT.out.keep hy) LL.out.2.1 NP.out.1 NP.out.2 (HB.out.keep hy))
        clear hn
        go_upto_region 12 with (first | (go_at_call 5; refine (FA.out _ W1.out).mono ?_; rintro e wa ⟨ab, ac, rfl, ra, hba⟩; have BA := hidden (bl_trans W1.out hba); have RA := hidden ra; have WA := hidden hba; clear hba ra))
        clear FA
        go_upto_region 13 with (first | (go_at_call 5; refine (FB.out _ BA.out).mono ?_; rintro e wb ⟨bb, bc, rfl, rb, hbb⟩; have BB := hidden (bl_trans BA.out hbb); have RB := hidden rb; replace RA := hidden (And.intro (RA.out.1.keep hbb) RA.out.2); replace WA := hidden (bl_trans WA.out hbb); clear hbb rb))
        clear FB
        refine lw13 _ k _ _ _ _ _ _ _ _ _ _ _ _ _ _ _ _ _ _ _ _ _ _ _ _ _ _ _ _ _ _ _ _ _ _ _ _ _ _ _ _ _ _ _ _ _ _ _ _ _ _ _ _ _ _ _ _ _ _ _ _ _ _ _ _ _ _ _ _ _ _ _ _ _ _ _ _ _ _ _ _ _ _ _ _ _ _ _ _ _ _ _ _ _ _ _ _ _ _ _ _ _ _ _ _ _ _ _ _ _ _ _ _ _ _ _ _ _ _ _ _ _ _ _ _ _ _ _ _ _ _ _ _ _ _ _ _ _ _ _ _ _ _ _ _ _ _ _ _ _ wb (by omega) (hidden ?_)
        rintro n1 n2 tb _ htb ⟨wy, hby, r1, r2, hth, hrg, rfl⟩
        have cz : wy.cell? ⟨tb, 0, none⟩ = some (.slice none 0 0) := by have := hrg 0 _ rfl; exact this
        have kq : Kq (fun j => j = tb) wy (wy.setCells tb 0 [.slice (some ⟨n1, 0, none⟩) k k, .slice (some ⟨n2, 0, none⟩) k k, .int .u64 0, .int .u64 0, .int .u64 0, .int .u64 0, .int .u64 0, .int .u64 0, .int .u64 0, .int .u64 0]) := Kq.grown (gb_setCells tb [.slice (some ⟨n1, 0, none⟩) k k, .slice (some ⟨n2, 0, none⟩) k k, .int .u64 0, .int .u64 0, .int .u64 0, .int .u64 0, .int .u64 0, .int .u64 0, .int .u64 0, .int .u64 0] 0 wy) rfl
        have BZ := hidden (below_box hby (gb_setCells tb [.slice (some ⟨n1, 0, none⟩) k k, .slice (some ⟨n2, 0, none⟩) k k, .int .u64 0, .int .u64 0, .int .u64 0, .int .u64 0, .int .u64 0, .int .u64 0, .int .u64 0, .int .u64 0] 0 wy) htb)
        have RL1 := hidden (rl_boxS r1.1 kq cz)
        have RL2 := hidden (rl_boxS r2.1 kq cz)
        have RT := hidden (World.rangeAt_setCells_same wy tb 0 [.slice (some ⟨n1, 0, none⟩) k k, .slice (some ⟨n2, 0, none⟩) k k, .int .u64 0, .int .u64 0, .int .u64 0, .int .u64 0, .int .u64 0, .int .u64 0, .int .u64 0, .int .u64 0] hth)
        have Z1 : Hid (tb < (wy.setCells tb 0 [.slice (some ⟨n1, 0, none⟩) k k, .slice (some ⟨n2, 0, none⟩) k k, .int .u64 0, .int .u64 0, .int .u64 0, .int .u64 0, .int .u64 0, .int .u64 0, .int .u64 0, .int .u64 0]).heap.size ∧ n1 < (wy.setCells tb 0 [.slice (some ⟨n1, 0, none⟩) k k, .slice (some ⟨n2, 0, none⟩) k k, .int .u64 0, .int .u64 0, .int .u64 0, .int .u64 0, .int .u64 0, .int .u64 0, .int .u64 0, .int .u64 0]).heap.size ∧ n2 < (wy.setCells tb 0 [.slice (some ⟨n1, 0, none⟩) k k, .slice (some ⟨n2, 0, none⟩) k k, .int .u64 0, .int .u64 0, .int .u64 0, .int .u64 0, .int .u64 0, .int .u64 0, .int .u64 0, .int .u64 0]).heap.size) := hidden (by rw [size_setCellsM]; exact ⟨World.block_lt_of_cell? wy _ cz, r1.2.2, r2.2.2⟩)
        generalize wy.setCells tb 0 [.slice (some ⟨n1, 0, none⟩) k k, .slice (some ⟨n2, 0, none⟩) k k, .int .u64 0, .int .u64 0, .int .u64 0, .int .u64 0, .int .u64 0, .int .u64 0, .int .u64 0, .int .u64 0] = wz at BZ RL1 RL2 RT Z1 ⊢
        have B5 := hidden (bl_trans BB.out BZ.out)
        clear hby r1 r2 hth hrg cz kq htb wy
        have M0 := ((Mw.start wz).new [.int .u64 0, .int .u64 0, .int .u64 0, .int .u64 0, .int .u64 0, .int .u64 0, .int .u64 0, .int .u64 0, .slice none 0 0, .slice none 0 0] 35).new [.int .i64 0] 3
        simp only [World.size_alloc] at M0
        have MM := hidden M0
        clear M0
        go_upto_region 16 with fail
        obtain ⟨w5, hw5⟩ : ∃ w5, (wz.alloc (.cells #[.int .u64 0, .int .u64 0, .int .u64 0, .int .u64 0, .int .u64 0, .int .u64 0, .int .u64 0, .int .u64 0, .slice none 0 0, .slice none 0 0] 35)).alloc (.cells #[.int .i64 0] 3) = w5 := ⟨_, rfl⟩
        rw [hw5] at MM
        rw [hw5]
        obtain ⟨T, hT5⟩ : ∃ T, T = wz.heap.size := ⟨_, rfl⟩
        have mT := MM.out.r (wz.heap.size, [.int .u64 0, .int .u64 0, .int .u64 0, .int .u64 0, .int .u64 0, .int .u64 0, .int .u64 0, .int .u64 0, .slice none 0 0, .slice none 0 0]) (by simp)
        have mC := MM.out.r (wz.heap.size + 1, [.int .i64 0]) (by simp)
        have B6 := hidden MM.out.bel
        rw [← hT5] at mT mC ⊢
        have MT := hidden (And.intro mT.1 (And.intro mT.2.1 mT.2.2.2))
        have MC := hidden (And.intro mC.1 (And.intro mC.2.1 mC.2.2.2))
        have HTS := hidden hT5
        clear mT mC hT5 hw5 MM
        refine lw16 _ _ n k ab ac bb bc tb cc P [.slice (some ⟨n1, 0, none⟩) k k, .slice (some ⟨n2, 0, none⟩) k k, .int .u64 0, .int .u64 0, .int .u64 0, .int .u64 0, .int .u64 0, .int .u64 0, .int .u64 0, .int .u64 0] (fun v a b => Rl v a 0 n (ff L0 ga) ∧ n ≤ b) (fun v a b => Rl v a 0 n (ff L1 gb) ∧ n ≤ b) (fun y w' Bk => ∀ ex : Nat → Prop, (∀ j, ex j → j < y.heap.size) → ¬ ex 0 → Gives (α := Sx) Fence.wide 3 Tryd.prog 21 #[.pointer (some ⟨Bk, 0, none⟩)] (fun x => #[x.v]) (fun b => Kq (fun j => ex j ∨ j + 1 = b)) (fun b pre y V => Yo u (ff L0 ga) (ff L1 gb) k pre.length y V ∧ b + 5 ≤ y.g ∧ b + 5 ≤ y.h) (fun xs => xs.length = k + 1) (k + 1) 5 w')
          _ _ _ _ _ _ _ _ _ _ _ _ _ _ _ _ _ _ _ _ _ _ _ _ _ _ _ _ _ _ _ _ _ _ _ _ _ _ _ _ _ _ _ _ _ _ _ _ _ _ _ _ _ _ _ _ _ _ _ _ _ _ _ _ _ _ _ _ _ _ _ _ _ _ _ _ _ _ _ _ _ _ _ _ _ _ _ _ _ _ _ _ _ _ _ _ _ _ _ _ _ _ _ _ _ _ _ _ _ _ _ _ _ _ _ _ _ _ _ _ _ _ _ _ _ _ _ _ _ _ _ _ _ _ _ _ _ _ _ _ _ _ _ _ _ _ w5 (range_keepM RT.out B6.out) (hidden iAT) (hidden Tryd.underlying31) rfl (hidden (fun v v' a b h hb => ⟨h.1.keep hb, h.2⟩)) (hidden ?c1) (hidden ?c3) (hidden ?c7) (hidden ?fin)
        case c1 =>
          intro y hy
          exact llineR ab ac n (ff L0 ga) y NP.out.1 NP.out.2 (RA.out.1.keep (bl_trans (bl_trans BZ.out B6.out) hy))
        case c3 =>
          intro y hy
          exact llineR bb bc n (ff L1 gb) y NP.out.1 NP.out.2 (RB.out.1.keep (bl_trans (bl_trans BZ.out B6.out) hy))
        case c7 =>
          intro y g1 c1' g2 c2' hy h1 h2
          have hwr := bl_trans (bl_trans (bl_trans WA.out BZ.out) B6.out) hy
          have hwy := bl_trans W1.out hwr
          have hk := K5.out
          refine (rounds_any ⟨zero4, zero4, n, g1, c1', g2, c2'⟩ k n1 k n2 k cc P u (fun _ => zero4) (fun _ => zero4) (ff L0 ga) (ff L1 gb) y hk (HT.out.keep hwy) ⟨z4ok, z4ok, h1.2, h2.2, h1.1, h2.1, fun j _ => ff_ok OA.out j, fun j _ => ff_ok OB.out j⟩ HN.out.symm (RL1.out.keep (bl_trans B6.out hy)) (RL2.out.keep (bl_trans B6.out hy)) (fun _ _ => z4ok) (fun _ _ => z4ok) (fun t ht => (UU.out t ht).1) hNil.out
            (fun a e => by obtain ⟨ub, h, _, r⟩ := hSom.out a e; exact ⟨ub, h, rws_rl (r.keep hwr)⟩)
            (fun z hz => zaR P cc k u z (by omega) ((HT.out.keep hwy).keep hz) UU.out hNil.out (fun a e => by obtain ⟨ub, h, _, r⟩ := hSom.out a e; exact ⟨ub, h, (r.keep hwr).keep hz⟩))).mono ?_
          rintro e w' ⟨Bk, rfl, hb, hg⟩
          exact ⟨Bk, rfl, hg, hb⟩
        case fin =>
        rintro Bk g1 c1' g2 c2' wq ⟨wy, h7, hy1, hy2⟩
        have G7 := hidden h7
        have B7 := hidden hy1
        have B8 := hidden (bl_trans hy1 hy2)
        have B9 := hidden hy2
        clear h7 hy1 hy2
        have EQF : ∀ w, (binOp .eql 37 (.func (.func 21) #[] #[.pointer (some ⟨Bk, 0, none⟩)]) .nilFunc).run Tryd.prog w = .ok (.bool false) w := fun w => by kernel_rfl
        go_wp2_with fail
        refine (wpIn_wide (n := 4)).1 ?_
        have tlt : T + 1 < w5.heap.size := MC.out.2.2
        have s57 := B8.out.size
        have s79 := B7.out.size
        have w0q : w.heap.size ≤ T := by have := B5.out.size; have := HTS.out; omega
        have tbl := World.block_lt_of_cell? w _ HT.out.1
        simp only at tbl
        have BQ : Below w.heap.size w wq := bl_trans (bl_trans B5.out B6.out) B8.out
        refine range_own (α := Sx) rfl (by omega) (gf := 21) (lb := #[.pointer (some ⟨Bk, 0, none⟩)]) rfl trivial (enters_of Tryd.func21 (by kernel_rfl) rfl) (G7.out (fun j => j = T ∨ j = T + 1) (fun j hj => by omega) (fun hj => by omega)) (Below.refl _ _) (fun _ => rfl) (fun h k => h.trans k) (fun A o => Kq.grown (grown_put A _ o) (Or.inr rfl))
          (fun ys V => Li w wq T k u (ff L0 ga) (ff L1 gb) ys V) (fun ys A B row h hg hr => h.gr hg (by omega) (by omega) (fun r e => hr r e))
          ⟨BQ, Kq.refl _ _, there_keepM MT.out.2.1 B8.out, by have := cell_keep (MC.out.1 0 _ rfl) B8.out; exact this, there_keepM MC.out.2.1 B8.out, Or.inl rfl⟩
          (fun pre x a' V => ∃ Bn, wq.heap.size + 7 ≤ Bn ∧ Bn < V.heap.size ∧ V.rangeAt Bn 0 x.cs ∧ Yo u (ff L0 ga) (ff L1 gb) k pre.length x V ∧ wq.heap.size + 7 ≤ x.g ∧ wq.heap.size + 7 ≤ x.h ∧ a' = { tmps := #[Value.slice P0 L0 c0, Value.slice P1 L1 c1, Value.slice P2 L2 c2, undef, undef, undef, Value.bool false, Value.int IntKind.i64 ↑k, Value.slice P k cc, Value.int IntKind.i64 ↑i, u10, Value.int IntKind.i64 ↑n, Value.slice (some { block := ab, off := 0 }) n ac, Value.slice (some { block := bb, off := 0 }) n bc, Value.pointer (some { block := tb, off := 0 }), Value.pointer (some { block := T, off := 0 }), Value.pointer (some { block := T + 1, off := 0 }), Value.func (Fn.func 21) #[] #[Value.pointer (some { block := Bk, off := 0 })], .pointer (some ⟨Bn, 0, none⟩), undef, undef, undef, undef, undef, Value.int IntKind.i64 ↑i, Value.slice P2 L2 c2, Value.int IntKind.i64 ↑L2, Value.bool true, Value.bool true, Value.int IntKind.i64 ↑k, Value.bool false, Value.bool false, u32, u33, u34, u35, u36, u37, u38, u39, u40, u41, u42, u43, u44, u45, u46, Value.int IntKind.i64 ↑k, Value.int IntKind.i64 ↑n, Value.slice P0 L0 c0, Value.int IntKind.i64 ↑n, Value.slice (some { block := ab, off := 0 }) n ac, Value.slice P1 L1 c1, Value.int IntKind.i64 ↑n, Value.slice (some { block := bb, off := 0 }) n bc, Value.int IntKind.i64 ↑k, Value.slice (some { block := n1, off := 0 }) k k, Value.int IntKind.i64 ↑k, Value.slice (some { block := n2, off := 0 }) k k, Value.agg #[Value.slice (some { block := n1, off := 0 }) k k, Value.slice (some { block := n2, off := 0 }) k k, Value.int IntKind.u64 0, Value.int IntKind.u64 0, Value.int IntKind.u64 0, Value.int IntKind.u64 0, Value.int IntKind.u64 0, Value.int IntKind.u64 0, Value.int IntKind.u64 0, Value.int IntKind.u64 0], Value.slice (some { block := ab, off := 0 }) n ac, Value.slice (some { block := g1, off := 0 }) n c1', Value.slice (some { block := bb, off := 0 }) n bc, Value.slice (some { block := g2, off := 0 }) n c2', Value.agg #[Value.int IntKind.u64 0, Value.int IntKind.u64 0, Value.int IntKind.u64 0, Value.int IntKind.u64 0, Value.int IntKind.u64 0, Value.int IntKind.u64 0, Value.int IntKind.u64 0, Value.int IntKind.u64 0, Value.slice (some { block := g1, off := 0 }) n c1', Value.slice (some { block := g2, off := 0 }) n c2'], Value.agg #[Value.slice (some { block := n1, off := 0 }) k k, Value.slice (some { block := n2, off := 0 }) k k, Value.int IntKind.u64 0, Value.int IntKind.u64 0, Value.int IntKind.u64 0, Value.int IntKind.u64 0, Value.int IntKind.u64 0, Value.int IntKind.u64 0, Value.int IntKind.u64 0, Value.int IntKind.u64 0], Value.slice P k cc, Value.func (Fn.func 21) #[] #[Value.pointer (some { block := Bk, off := 0 })], Value.func (Fn.func 21) #[] #[Value.pointer (some { block := Bk, off := 0 })], Value.bool false, Value.func (Fn.func 21) #[] #[Value.pointer (some { block := Bk, off := 0 })], x.v, undef, undef, undef, undef, undef, undef, undef, undef, undef, undef, undef, undef, undef, undef, undef, undef, undef, undef, undef, undef, undef, undef, undef, undef, undef, undef, undef, undef, undef, undef, undef, undef, undef, undef, undef, undef, undef, undef, undef, undef, undef, undef, undef, undef, undef, undef, undef, undef, undef, undef, undef, undef, undef, undef, undef, undef, undef, undef, undef, undef, undef, undef, undef, undef, undef, undef, undef, undef, undef, undef, undef, undef, undef, undef, undef, undef, undef, undef], defers := [] })
          (fun pre x a' _ A B row h hg hr => by
            obtain ⟨Bn, q1, q2, q3, q4, q5, q6, q7⟩ := h
            have kq : Kq (fun j => wq.heap.size ≤ j ∧ j < wq.heap.size + 7) A B := ⟨hg.size, fun j hj hne => hg.block j hj (fun e => hne (by have := hr j e.symm; omega))⟩
            exact ⟨Bn, q1, Nat.lt_of_lt_of_le q2 hg.size, kq.range q3 (by omega), q4.kq kq (by omega) (by omega), q5, q6, q7⟩) ?assign ?body ?done
        case assign =>
          rintro l' pre x V K hi ⟨yo, g5, h5⟩ hsz hK
          have THx : (V.alloc (.cells #[.int .u64 0, .int .u64 0, .int .u64 0, .int .u64 0, .int .u64 0, .int .u64 0, .int .u64 0, .int .u64 0, .slice none 0 0, .slice none 0 0] 35)).there V.heap.size 0 x.cs.length := there_newM V [.int .u64 0, .int .u64 0, .int .u64 0, .int .u64 0, .int .u64 0, .int .u64 0, .int .u64 0, .int .u64 0, .slice none 0 0, .slice none 0 0] 35
          have IXx : (Tryd.prog.info? 35).map (·.size) = some x.cs.length := sinfo _ _ _ _
          have OXx : x.cs.toArray.all (·.oneCell') = true := sone _ _ _ _ _ _ _ _
          have Bx1 : Below V.heap.size V ((V.alloc (.cells #[.int .u64 0, .int .u64 0, .int .u64 0, .int .u64 0, .int .u64 0, .int .u64 0, .int .u64 0, .int .u64 0, .slice none 0 0, .slice none 0 0] 35)).setCells V.heap.size 0 x.cs) := below_setCellsM _ _ _ (bl_alloc V _) (Nat.le_refl _)
          have Rx1 : ((V.alloc (.cells #[.int .u64 0, .int .u64 0, .int .u64 0, .int .u64 0, .int .u64 0, .int .u64 0, .int .u64 0, .int .u64 0, .slice none 0 0, .slice none 0 0] 35)).setCells V.heap.size 0 x.cs).rangeAt V.heap.size 0 x.cs := World.rangeAt_setCells_same _ _ _ _ THx
          have Zx1 : V.heap.size < ((V.alloc (.cells #[.int .u64 0, .int .u64 0, .int .u64 0, .int .u64 0, .int .u64 0, .int .u64 0, .int .u64 0, .int .u64 0, .slice none 0 0, .slice none 0 0] 35)).setCells V.heap.size 0 x.cs).heap.size := by rw [size_setCellsM, World.size_alloc]; omega
          have HK := hidden hK
          have P1x := hidden (And.intro THx (And.intro IXx OXx))
          have G1x := hidden (And.intro Bx1 (And.intro Rx1 Zx1))
          clear hK THx IXx OXx Bx1 Rx1 Zx1
          obtain ⟨C, hC⟩ : ∃ C, x.cs = C := ⟨_, rfl⟩
          rw [hC] at P1x G1x
          have XV : x.v = .agg C.toArray := by unfold Sx.v; rw [hC]
          simp only [XV]
          gi_wp2_with (first | (refine inStore rfl 35 _ _ rfl V.heap.size 0 C rfl rfl P1x.out.1 P1x.out.2.1 P1x.out.2.2 ?_))
          obtain ⟨V1, hV1⟩ : ∃ V1, (V.alloc (.cells #[.int .u64 0, .int .u64 0, .int .u64 0, .int .u64 0, .int .u64 0, .int .u64 0, .int .u64 0, .int .u64 0, .slice none 0 0, .slice none 0 0] 35)).setCells V.heap.size 0 C = V1 := ⟨_, rfl⟩
          rw [hV1] at G1x
          rw [hV1]
          obtain ⟨Bx1, Rx1, Zx1⟩ := G1x.out
          exact HK.out _ _ ⟨Bx1.size, Bx1.block _ (by omega), Bx1.block _ (by omega), Kq.below Bx1⟩ (hi.gr (gbI Bx1 none) (by omega) (by omega) (fun r e => by cases e)) ⟨V.heap.size, by omega, Zx1, by rw [hC]; exact Rx1, yo.kq (Kq.below (ex := fun _ => False) Bx1) (fun h => h) (fun h => h), by omega, by omega, by rw [XV]⟩
        case body =>
          rintro l' pre x a' V hi ⟨Bn, q1, q2, q3, q4, q5, q6, rfl⟩ hlen hsz
          obtain ⟨C, hC⟩ : ∃ C, x.cs = C := ⟨_, rfl⟩
          have XV : x.v = .agg C.toArray := by unfold Sx.v; rw [hC]
          have IX : Hid ((Tryd.prog.info? 35).map (·.size) = some C.length) := hidden (by rw [← hC]; exact sinfo _ _ _ _)
          have OX : Hid (C.toArray.all (·.oneCell') = true) := hidden (by rw [← hC]; exact sone _ _ _ _ _ _ _ _)
          have TX : Hid (V.there T 0 C.length) := hidden (by rw [← hC]; exact hi.th)
          have GA := gb_setCells T C 0 V
          have kA : Kq (fun j => j = T) V (V.setCells T 0 C) := Kq.grown GA rfl
          have cnt := kA.cell hi.cn (by simp only; omega)
          have frz : (V.setCells T 0 C).frozen? ⟨T + 1, 0, none⟩ = false := (kA.frz (a := ⟨T + 1, 0, none⟩) (by have := hi.kq.sz; simp only; omega) (by simp only; omega)).trans (hi.tn 0 (by omega)).2
          have w9 : IntKind.i64.wrap ((pre.length : Int) + 1) = (pre.length : Int) + 1 := IntWalk.i64_in _ (by have := K5.out; omega)
          have FIN : Hid (Kb (fun b' => Kq (fun j => (j = T ∨ j = T + 1) ∨ j + 1 = b')) wq.heap.size V ((V.setCells T 0 C).setCell ⟨T + 1, 0, none⟩ (.int .i64 ((pre.length : Int) + 1))) ∧ Li w wq T k u (ff L0 ga) (ff L1 gb) (pre ++ [x]) ((V.setCells T 0 C).setCell ⟨T + 1, 0, none⟩ (.int .i64 ((pre.length : Int) + 1)))) := hidden (by
            have GB := grownBy_setCell' (V.setCells T 0 C) (T + 1) (.int .i64 ((pre.length : Int) + 1))
            have kB : Kq (fun j => j = T + 1) _ _ := Kq.grown GB rfl
            have K12 : Kq (fun j => j = T ∨ j = T + 1) _ _ := (kA.mono (fun j h => Or.inl h)).trans (kB.mono (fun j h => Or.inr h))
            have cn2 : ((V.setCells T 0 C).setCell ⟨T + 1, 0, none⟩ (.int .i64 ((pre.length : Int) + 1))).cell? ⟨T + 1, 0, none⟩ = some (.int .i64 ((pre.length : Int) + 1)) := World.cell?_setCell_same _ _ _ (by rw [cnt])
            have ln : ((pre ++ [x]).length : Int) = (pre.length : Int) + 1 := by simp
            refine ⟨⟨K12.sz, K12.blk _ (by have := hi.kq.sz; omega) (by omega), K12.blk _ (by omega) (by omega), K12.mono (fun j h => Or.inl h)⟩, below_box (below_box hi.bel GA (by omega)) GB (by omega), hi.kq.trans K12, kB.there (there_setM hi.th T C) (by omega), by rw [cn2, ln], ?_, Or.inr ⟨x, ?_, ?_, q5, q6⟩⟩
            · intro j hj
              obtain rfl : j = 0 := by omega
              exact ⟨by rw [cn2]; rfl, by rw [World.frozen?_setCell]; exact frz⟩
            · rw [hC]; exact kB.range (World.rangeAt_setCells_same V T 0 C TX.out) (by omega)
            · rw [show (pre ++ [x]).length - 1 = pre.length by simp]; exact q4.kq K12 (by omega) (by omega))
          rw [hC] at q3
          have Q3 := hidden q3
          clear q1 q2 q3 q4 q5 q6 hi hsz hlen GA kA hC
          simp only [XV]
          gi_wp2_with (first | (refine inLoad rfl 35 _ rfl Bn 0 rfl C _ Q3.out Tryd.underlying35 rfl IX.out ?_) | (refine inStore rfl 35 _ _ rfl T 0 C rfl rfl TX.out IX.out OX.out ?_))
          exact FIN.out
        case done =>
          rintro ys V hS hi hdef
          have hNq := HTS.out
          have h57 : T + 1 < wq.heap.size := by omega
          have BWQ : Below wr.heap.size wr wq := bl_trans (bl_trans (bl_trans WA.out BZ.out) B6.out) B8.out
          have sab := RA.out.2.2
          have TV := HT.out.keep hi.bel
          have la := hi.la
          rw [hS] at la
          rcases la with la | ⟨y, hy1, hy2, hy3, hy4⟩
          · omega
          obtain ⟨py, qy, yn, yg, ygc, yh, yhc⟩ := y
          rw [show k + 1 - 1 = k by omega] at hy2
          obtain ⟨hyn, Fy, Gy, twy, eF, eG⟩ := hy2
          simp only [Nat.sub_self, Nat.pow_zero] at hyn
          subst hyn
          have zw : wz.heap.size ≤ wq.heap.size := by have := B6.out.size; omega
          have RlA : Rl V ab 0 n (ff L0 ga) := hi.kq.rl (RA.out.1.keep (bl_trans (bl_trans BZ.out B6.out) B8.out)) (by have h9 := World.block_lt_of_cell? wb _ (RA.out.1.c0 0 NP.out.1); have := BZ.out.size; simp only at h9; omega)
          have RlB : Rl V bb 0 n (ff L1 gb) := hi.kq.rl (RB.out.1.keep (bl_trans (bl_trans BZ.out B6.out) B8.out)) (by have h9 := World.block_lt_of_cell? wb _ (RB.out.1.c0 0 NP.out.1); have := BZ.out.size; simp only at h9; omega)
          have WW := hidden (weR P cc k u V (by have := K5.out; omega) TV UU.out hNil.out (fun a e => by
            obtain ⟨ub, h, _, r⟩ := hSom.out a e
            exact ⟨ub, h, Rws.kqR (r.keep BWQ) hi.kq (by have := r.lt; have := WA.out.size; have := BZ.out.size; omega)⟩))
          rw [HN.out] at WW
          have cG := hy1 8 _ rfl
          have cH := hy1 9 _ rfl
          have cN := hi.cn
          rw [hS] at cN
          simp only [Nat.zero_add] at cG cH
          have w9 : IntKind.i64.wrap ((k : Int) + 1) = (k : Int) + 1 := IntWalk.i64_in _ (by have := K5.out; omega)
          rw [show ((k + 1 : Nat) : Int) = (k : Int) + 1 by omega] at cN
          have PF := hidden (sum_left u k (ff L0 ga) (Fy 0) (eF 0))
          have PG := hidden (sum_right u k (ff L1 gb) (Gy 0) (fun t ht => (UU.out t ht).2) (eG 0))
          rw [HN.out] at PF PG
          have TWY := hidden twy
          have HIV := hidden hi
          have HDF := hidden hdef
          have ABL := hidden (And.intro RlA RlB)
          have BLT : Hid (yg < V.heap.size ∧ yh < V.heap.size ∧ ab < T ∧ bb < T) := hidden ⟨World.block_lt_of_cell? V _ (twy.rg.c0 0 (by show 0 < 1; omega)), World.block_lt_of_cell? V _ (twy.rh.c0 0 (by show 0 < 1; omega)), by have h9 := World.block_lt_of_cell? wb _ (RA.out.1.c0 0 NP.out.1); have := BZ.out.size; simp only at h9; omega, by have h9 := World.block_lt_of_cell? wb _ (RB.out.1.c0 0 NP.out.1); have := BZ.out.size; simp only at h9; omega⟩
          have TQ := hidden (And.intro h57 (And.intro w0q tbl))
          clear hy1 hy3 hy4 twy eF eG hi hdef RlA RlB hNq h57 BWQ sab TV zw hS
          go_upto_region 24 with (first | (go_at_call 8; refine (WW.out).mono ?_; rintro e wv ⟨bl, cl, rfl, hr, hbv⟩; have RW := hidden hr; have BV := hidden hbv; have dG := cell_keep cG hbv; have dH := cell_keep cH hbv; have dN := cell_keep cN hbv; clear hr hbv cG cH cN))
          clear WW
          go_upto_region 27 with fail
          have M6 := ((Mw.start wv).new [.int .u64 0, .int .u64 0, .int .u64 0, .int .u64 0] 26).new [.int .u64 0, .int .u64 0, .int .u64 0, .int .u64 0] 26
          simp only [World.size_alloc] at M6
          obtain ⟨w6, hw6⟩ : ∃ w6, (wv.alloc (.cells #[.int .u64 0, .int .u64 0, .int .u64 0, .int .u64 0] 26)).alloc (.cells #[.int .u64 0, .int .u64 0, .int .u64 0, .int .u64 0] 26) = w6 := ⟨_, rfl⟩
          rw [hw6] at M6
          rw [hw6]
          obtain ⟨A, hA⟩ : ∃ A, A = wv.heap.size := ⟨_, rfl⟩
          obtain ⟨wf, hwf⟩ : ∃ wf, wf = ws (fun t => (u t).n) k := ⟨_, rfl⟩
          rw [← hwf] at RW PF PG
          have okw : ∀ j, (wf j).ok := fun j => by rw [hwf]; exact lst_ok _
          have hVw : w.heap.size ≤ V.heap.size := HIV.out.bel.size
          have hVv := BV.out.size
          have mA := M6.r (wv.heap.size, [.int .u64 0, .int .u64 0, .int .u64 0, .int .u64 0]) (by simp)
          have mB := M6.r (wv.heap.size + 1, [.int .u64 0, .int .u64 0, .int .u64 0, .int .u64 0]) (by simp)
          rw [← hA] at mA mB ⊢
          have LP0 : Hid (Lp w w6 A (A + 1) (sA wf (ff L0 ga) 0) (sA (fun j => iv (wf j).n) (ff L1 gb) 0) w6) := hidden ⟨(HIV.out.bel.trans (BV.out.mono HIV.out.bel.size)).trans (M6.bel.mono (by omega)), Kq.refl _ _, mA.1, mA.2.1, mB.1, mB.2.1⟩
          have WLT : Hid (A < w6.heap.size ∧ A + 1 < w6.heap.size) := hidden ⟨mA.2.2.2, mB.2.2.2⟩
          have VLA : Hid (V.heap.size ≤ A ∧ w.heap.size ≤ A ∧ T + 1 < A ∧ 0 < A) := hidden (by have := TQ.out; have := HIV.out.kq.sz; omega)
          have BL : Hid (bl < A) := hidden (by rw [hA]; exact RW.out.lt)
          have RW6 := hidden (RW.out.keep M6.bel)
          have BV6 := hidden (bl_trans BV.out M6.bel)
          have OKW := hidden okw
          have nn : (0 : Int) ≤ (n : Int) := by omega
          have eG6 := cell_keep dG M6.bel
          have eH6 := cell_keep dH M6.bel
          have EGH := hidden (And.intro eG6 eH6)
          clear mA mB M6 hw6 hA hwf okw hVw hVv dG dH dN eG6 eH6 RW BV
          go_wp2_with fail
          go_loopw [23] (fun iv' V' => ∃ i : Nat, i ≤ n ∧ iv' = .int .i64 (i : Int) ∧ Hid (Lp w w6 A (A + 1) (sA wf (ff L0 ga) i) (sA (fun j => iv (wf j).n) (ff L1 gb) i) V')) (fun i _ => n - (intOf i).toNat)
          case atStart => exact ⟨0, by omega, rfl, LP0⟩
          case round =>
            clear LP0
            obtain ⟨i, hin, rfl, hL⟩ := hrel
            have rlA := hL.out.kq.rl ((ABL.out.1).keep BV6.out) (by have := BLT.out; have := VLA.out; omega)
            have rlB := hL.out.kq.rl ((ABL.out.2).keep BV6.out) (by have := BLT.out; have := VLA.out; omega)
            have rlW := hL.out.kq.rl (rws_rl RW6.out) (by have := BL.out; omega)
            have TBV := HT.out.keep hL.out.bel
            by_cases hlt : i < n
            · have j0 : (0 : Int) ≤ (i : Int) := by omega
              have j1 : (i : Int) < (n : Int) := by omega
              have w9' : IntKind.i64.wrap ((i : Int) + 1) = (i : Int) + 1 := IntWalk.i64_in _ (by have := NP.out.2; omega)
              have x0 := rlW.c0 i hlt
              have x1 := rlW.c1 i hlt
              have x2 := rlW.c2 i hlt
              have x3 := rlW.c3 i hlt
              have y0 := rlA.c0 i hlt
              have y1 := rlA.c1 i hlt
              have y2 := rlA.c2 i hlt
              have y3 := rlA.c3 i hlt
              simp only [Nat.zero_add] at x0 x1 x2 x3 y0 y1 y2 y3
              have X := hidden (And.intro x0 (And.intro x1 (And.intro x2 x3)))
              have Y := hidden (And.intro y0 (And.intro y1 (And.intro y2 y3)))
              have RLB := hidden rlB
              have RLW := hidden rlW
              have TBH := hidden TBV
              clear x0 x1 x2 x3 y0 y1 y2 y3 rlA rlB rlW TBV
              go_upto_region 30 with fail
              refine lw30 _ _ A n i bl cl ab ac (sA wf (ff L0 ga) i) (wf i) (ff L0 ga i) (lst ((wf i).n * (ff L0 ga i).n)) (sA wf (ff L0 ga) (i + 1)) _ _ _ _ _ _ _ _ _ _ _ _ _ _ _ _ _ _ _ _ _ _ _ _ _ _ _ _ _ _ _ _ _ _ _ _ _ _ _ _ _ _ _ _ _ _ _ _ _ _ _ _ _ _ _ _ _ _ _ _ _ _ _ _ _ _ _ _ _ _ _ _ _ _ _ _ _ _ _ _ _ _ _ _ _ _ _ _ _ _ _ _ _ _ _ _ _ _ _ _ _ _ _ _ _ _ _ _ _ _ _ _ _ _ _ _ _ _ _ _ _ _ _ _ _ _ _ _ _ _ _ _ _ _ _ _ _ _ _ _ _ _ _ _ _ _ _ (by have := BL.out; omega) (by have := BLT.out; have := VLA.out; omega) j0 j1 hL.out.ra hL.out.ta X.out.1 X.out.2.1 X.out.2.2.1 X.out.2.2.2 Y.out.1 Y.out.2.1 Y.out.2.2.1 Y.out.2.2.2
                (hidden (fun yy hyy => fix (Mul_any _ _ yy (TBH.out.keep0 hyy (by have := VLA.out; omega)) (OKW.out _) (ff_ok OA.out _)) rfl)) (hidden (fun yy hyy => fix (Add_any _ _ yy (TBH.out.keep0 hyy (by have := VLA.out; omega)) (sA_ok _ _ _) (lst_ok _)) rfl)) (hidden ?_)
              rintro wz3 ⟨wy3, hb3, ht3, rfl⟩
              have LQ1 := hidden (hL.out.stepA (r := sA wf (ff L0 ga) (i + 1)) hb3 ht3 (by omega) (by have := VLA.out; omega))
              generalize wy3.setCells A 0 [.int .u64 (sA wf (ff L0 ga) (i + 1)).x0, .int .u64 (sA wf (ff L0 ga) (i + 1)).x1, .int .u64 (sA wf (ff L0 ga) (i + 1)).x2, .int .u64 (sA wf (ff L0 ga) (i + 1)).x3] = wz3 at LQ1 ⊢
              have k31 : Kq (fun j => j = A ∨ j = A + 1) w6 wz3 := LQ1.out.kq
              have rlW2 := k31.rl (rws_rl RW6.out) (by have := BL.out; omega)
              have rlB2 := k31.rl ((ABL.out.2).keep BV6.out) (by have := BLT.out; have := VLA.out; omega)
              have x0 := rlW2.c0 i hlt
              have x1 := rlW2.c1 i hlt
              have x2 := rlW2.c2 i hlt
              have x3 := rlW2.c3 i hlt
              have y0 := rlB2.c0 i hlt
              have y1 := rlB2.c1 i hlt
              have y2 := rlB2.c2 i hlt
              have y3 := rlB2.c3 i hlt
              simp only [Nat.zero_add] at x0 x1 x2 x3 y0 y1 y2 y3
              have X2 := hidden (And.intro x0 (And.intro x1 (And.intro x2 x3)))
              have Y2 := hidden (And.intro y0 (And.intro y1 (And.intro y2 y3)))
              have TB2 := hidden (HT.out.keep LQ1.out.bel)
              clear x0 x1 x2 x3 y0 y1 y2 y3 rlW2 rlB2 k31 hb3 ht3 X Y hL
              go_upto_region 31 with fail
              refine lw31 _ _ (A + 1) n i bl cl bb bc (sA (fun j => iv (wf j).n) (ff L1 gb) i) (wf i) (ff L1 gb i) (lst ((iv (wf i).n).n * (ff L1 gb i).n)) (sA (fun j => iv (wf j).n) (ff L1 gb) (i + 1)) (iv (wf i).n) _ _ _ _ _ _ _ _ _ _ _ _ _ _ _ _ _ _ _ _ _ _ _ _ _ _ _ _ _ _ _ _ _ _ _ _ _ _ _ _ _ _ _ _ _ _ _ _ _ _ _ _ _ _ _ _ _ _ _ _ _ _ _ _ _ _ _ _ _ _ _ _ _ _ _ _ _ _ _ _ _ _ _ _ _ _ _ _ _ _ _ _ _ _ _ _ _ _ _ _ _ _ _ _ _ _ _ _ _ _ _ _ _ _ _ _ _ _ _ _ _ _ _ _ _ _ _ _ _ _ _ _ _ _ _ _ _ _ _ _ _ _ _ _ _ _ _ (by have := BL.out; omega) (by have := BLT.out; have := VLA.out; omega) j0 j1 LQ1.out.rb LQ1.out.tb X2.out.1 X2.out.2.1 X2.out.2.2.1 X2.out.2.2.2 Y2.out.1 Y2.out.2.1 Y2.out.2.2.1 Y2.out.2.2.2
                (hidden (fun yy hyy => fix (Invert_any _ yy (TB2.out.keep0 hyy (by have := VLA.out; omega)) (OKW.out _)) rfl)) (hidden (fun yy hyy => fix (Mul_any _ _ yy (TB2.out.keep0 hyy (by have := VLA.out; omega)) (lst_ok _) (ff_ok OB.out _)) rfl)) (hidden (fun yy hyy => fix (Add_any _ _ yy (TB2.out.keep0 hyy (by have := VLA.out; omega)) (sA_ok _ _ _) (lst_ok _)) rfl)) (hidden ?_)
              rintro wz4 ⟨wy4, hb4, ht4, rfl⟩
              have L2' := hidden (LQ1.out.stepB (r := sA (fun j => iv (wf j).n) (ff L1 gb) (i + 1)) hb4 ht4 (by omega) (by have := VLA.out; omega))
              generalize wy4.setCells (A + 1) 0 [.int .u64 (sA (fun j => iv (wf j).n) (ff L1 gb) (i + 1)).x0, .int .u64 (sA (fun j => iv (wf j).n) (ff L1 gb) (i + 1)).x1, .int .u64 (sA (fun j => iv (wf j).n) (ff L1 gb) (i + 1)).x2, .int .u64 (sA (fun j => iv (wf j).n) (ff L1 gb) (i + 1)).x3] = wz4 at L2' ⊢
              clear hb4 ht4 LQ1 X2 Y2
              go_wp2_with fail
              go_roundw
              case rel => exact ⟨i + 1, by omega, by go_num, L2'⟩
              case measure => simp [intOf]; omega
            · obtain rfl : i = n := by omega
              have lq : ¬ (i : Int) < (i : Int) := by omega
              have BVV : Kq (fun j => j = A ∨ j = A + 1) w6 wr := hL.out.kq
              have cG6 := BVV.cell EGH.out.1 (by have := VLA.out; simp only; omega)
              have cH6 := BVV.cell EGH.out.2 (by have := VLA.out; simp only; omega)
              have rP := BVV.rl ((TWY.out.rg).keep BV6.out) (by have := BLT.out; have := VLA.out; show ¬ (yg = A ∨ yg = A + 1); omega)
              have rQ := BVV.rl ((TWY.out.rh).keep BV6.out) (by have := BLT.out; have := VLA.out; show ¬ (yh = A ∨ yh = A + 1); omega)
              have p0 := rP.c0 0 (by show 0 < 1; omega)
              have p1 := rP.c1 0 (by show 0 < 1; omega)
              have p2' := rP.c2 0 (by show 0 < 1; omega)
              have p3 := rP.c3 0 (by show 0 < 1; omega)
              have q0 := rQ.c0 0 (by show 0 < 1; omega)
              have q1 := rQ.c1 0 (by show 0 < 1; omega)
              have q2 := rQ.c2 0 (by show 0 < 1; omega)
              have q3 := rQ.c3 0 (by show 0 < 1; omega)
              simp only [Nat.zero_mul, Nat.zero_add] at p0 p1 p2' p3 q0 q1 q2 q3
              have la0 := hL.out.ra 0 _ rfl
              have la1 := hL.out.ra 1 _ rfl
              have la2 := hL.out.ra 2 _ rfl
              have la3 := hL.out.ra 3 _ rfl
              have lb0 := hL.out.rb 0 _ rfl
              have lb1 := hL.out.rb 1 _ rfl
              have lb2 := hL.out.rb 2 _ rfl
              have lb3 := hL.out.rb 3 _ rfl
              simp only [Nat.zero_add] at la0 la1 la2 la3 lb0 lb1 lb2 lb3
              have DFF : Hid (wr.heap[wq.heap.size]? = some (.deferred (some []))) := hidden (by
                have hlt := (Array.getElem?_eq_some_iff.1 HDF.out).1
                rw [BVV.blk _ (by have := BV6.out.size; omega) (by have := VLA.out; omega), BV6.out.block _ hlt]
                exact HDF.out)
              have PACK := hidden (And.intro (And.intro cG6 cH6) (And.intro (And.intro p0 (And.intro p1 (And.intro p2' p3))) (And.intro (And.intro q0 (And.intro q1 (And.intro q2 q3))) (And.intro (And.intro la0 (And.intro la1 (And.intro la2 la3))) (And.intro lb0 (And.intro lb1 (And.intro lb2 lb3)))))))
              clear cG6 cH6 p0 p1 p2' p3 q0 q1 q2 q3 la0 la1 la2 la3 lb0 lb1 lb2 lb3 rP rQ BVV rlA rlB rlW TBV
              go_upto_region 32 with fail
              refine lw32 _ _ T A (A + 1) yg ygc yh yhc (Fy 0) (Gy 0) (sA wf (ff L0 ga) i) (sA (fun j => iv (wf j).n) (ff L1 gb) i) _ _ _ _ _ _ _ _ _ _ _ _ _ _ _ _ _ _ _ _ _ _ _ _ _ _ _ _ _ _ _ _ _ _ _ _ _ _ _ _ _ _ _ _ _ _ _ _ _ _ _ _ _ _ _ _ _ _ _ _ _ _ _ _ _ _ _ _ _ _ _ _ _ _ _ _ _ _ _ _ _ _ _ _ _ _ _ _ _ _ _ _ _ _ _ _ _ _ _ _ _ _ _ _ _ _ _ _ _ _ _ _ _ _ _ _ _ _ _ _ _ _ _ _ _ _ _ _ _ _ _ _ _ _ _ _ _ _ _ _ _ _ _ _ _ _ _ _ PACK.out.1.1 PACK.out.1.2 PACK.out.2.1.1 PACK.out.2.1.2.1 PACK.out.2.1.2.2.1 PACK.out.2.1.2.2.2 PACK.out.2.2.1.1 PACK.out.2.2.1.2.1 PACK.out.2.2.1.2.2.1 PACK.out.2.2.1.2.2.2 PACK.out.2.2.2.1.1 PACK.out.2.2.2.1.2.1 PACK.out.2.2.2.1.2.2.1 PACK.out.2.2.2.1.2.2.2 PACK.out.2.2.2.2.1 PACK.out.2.2.2.2.2.1 PACK.out.2.2.2.2.2.2.1 PACK.out.2.2.2.2.2.2.2
                (hidden (fun yy hyy => sameR (Fy 0) _ yy (((HT.out.keep hL.out.bel)).keep hyy) (TWY.out.og 0 (by show 0 < 1; omega)) (sA_ok _ _ _) PF.out)) (hidden (fun yy hyy => sameR (Gy 0) _ yy (((HT.out.keep hL.out.bel)).keep hyy) (TWY.out.oh 0 (by show 0 < 1; omega)) (sA_ok _ _ _) PG.out)) (hidden ?_)
              intro wend hbe
              have BE := hidden (hL.out.bel.trans (hbe.mono hL.out.bel.size))
              have DE : Hid (wend.heap[wq.heap.size]? = some (.deferred (some []))) := hidden (by
                rw [hbe.block _ (Array.getElem?_eq_some_iff.1 DFF.out).1]; exact DFF.out)
              clear hbe PACK DFF
              go_wp2_with fail
              refine ⟨by simp, .inl ⟨_, _, rfl, run_takeDeferred DE.out, ?_⟩⟩
              refine ⟨.bool true, by simp [results, Tryd.results3, go_sem], rfl, BE.out.grown (grown_put wend _ _) BE.out.size (fun j hj => by have := Option.some.inj hj; have := TQ.out; omega)⟩
end Rp
end Go.Proofs.YtaejedhdpilhjaaDoor
