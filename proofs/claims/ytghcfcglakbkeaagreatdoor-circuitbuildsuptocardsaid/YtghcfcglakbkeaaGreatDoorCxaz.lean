import Derived.Test.YtghcfcglakbkeaaGreatDoorEbk
namespace Go.Proofs.YtghcfcglakbkeaaGreatDoor
namespace Xo
open Go.RowKit
set_option linter.unusedVariables false
def Dj (a b : Value) : Prop := ∀ k, a.ownBlock = some k → b.ownBlock ≠ some k
theorem ob (P : Option Addr) (n c m d : Nat) : (Value.slice P n c).ownBlock = (Value.slice P m d).ownBlock := by cases P <;> rfl
theorem Dj.symm {a b : Value} (h : Dj a b) : Dj b a := fun k hk e => h k e hk
theorem Dj.kept {w w' : World} {base s : Nat} {e : TypeId} {u v : Value} {n : Nat} {xs : List Value} (h : Dj u v) (ho : w.ownsRow base e s v n xs) (hg : w.grownBy w' u.ownBlock) : w'.ownsRow base e s v n xs :=
 ho.kept hg (by
  cases hv : v.ownBlock with
  | none => exact .inl rfl
  | some k => exact .inr (fun e => h k e.symm hv))
theorem below_tr {n : Nat} {w1 w2 w3 : World} (h1 : Below n w1 w2) (h2 : Below n w2 w3) : Below n w1 w3 := ⟨h2.os.trans h1.os, h2.tape.trans h1.tape, h2.output.trans h1.output, Nat.le_trans h1.size h2.size, fun k hk => (h2.block k hk).trans (h1.block k hk)⟩
theorem below_gr {B : Nat} {w w' : World} {row : Option Nat} (hg : w.grownBy w' row) (hB : B ≤ w.heap.size) (hr : ∀ k, row = some k → B ≤ k) : Below B w w' := (Below.refl _ _).grown hg hB hr
theorem own_keep {w1 w2 : World} {base s : Nat} {e : TypeId} {v : Value} {n : Nat} {xs : List Value} (h : w1.ownsRow base e s v n xs) (hb : Below w1.heap.size w1 w2) : w2.ownsRow base e s v n xs := ⟨h.1, by
 rcases h.2 with h0 | ⟨g, c, cur, h1, h2, h3, h4⟩
 ·exact .inl h0
 ·exact .inr ⟨g, c, cur, h1, h2, (hb.block g (Array.getElem?_eq_some_iff.1 h3).1).trans h3, h4⟩⟩
theorem own_some {w : World} {base n s : Nat} {e : TypeId} {v : Value} {xs : List Value} (h : w.ownsRow base e s v n xs) (hn : 0 < n) : ∃ g c : Nat, v = .slice (some ⟨g, 0, none⟩) n c ∧ n ≤ c := by
 rcases h.2 with ⟨_, h2⟩ | ⟨g, c, cur, h1, _, _, h4, _⟩
 ·omega
 ·exact ⟨g, c, h1, h4⟩
theorem own_front {w : World} {base s : Nat} {e : TypeId} {b c n m : Nat} {xs ys : List Value} (h : w.ownsRow base e s (.slice (some ⟨b, 0, none⟩) m c) m (xs ++ ys)) (hx : xs.length = n * s) (hn : n ≤ m) : w.ownsRow base e s (.slice (some ⟨b, 0, none⟩) n c) n xs := by
 rcases h.2 with ⟨h', _⟩ | ⟨b', c', cur, h', hb, hg, hnc, hcm, hcs, ht⟩
 ·simp at h'
 ·simp only [Value.slice.injEq, Option.some.injEq, Addr.mk.injEq, and_true, true_and] at h'
  obtain ⟨rfl, rfl⟩ := h'
  refine ⟨hx, .inr ⟨b, c, cur, rfl, hb, hg, Nat.le_trans hn hnc, hcm, hcs, ?_⟩⟩
  have h1 := congrArg (List.take (n * s)) ht
  rw [List.take_take, Nat.min_eq_left (Nat.mul_le_mul_right s hn), List.take_left' hx] at h1
  exact h1
theorem own_dj {w : World} {b1 b2 s1 s2 : Nat} {e1 e2 : TypeId} {v1 v2 : Value} {n1 n2 : Nat} {xs1 xs2 : List Value} (h1 : w.ownsRow b1 e1 s1 v1 n1 xs1) (h2 : w.ownsRow b2 e2 s2 v2 n2 xs2) (he : e1 ≠ e2) : Dj v1 v2 := by
 intro k hk hk2
 rcases h1.2 with ⟨rfl, -⟩ | ⟨g, c, cur, rfl, _, k1, _⟩
 ·cases hk
 ·rcases h2.2 with ⟨rfl, -⟩ | ⟨g', c', cur', rfl, _, k2, _⟩
  ·cases hk2
  ·simp only [Value.ownBlock, Option.some.injEq] at hk hk2
   subst hk
   subst hk2
   rw [k1] at k2
   simp only [Option.some.injEq, Obj.cells.injEq] at k2
   exact he k2.2.1
theorem own_new {w : World} {base s n : Nat} {e : TypeId} {v u : Value} {xs : List Value} (h : w.ownsRow base e s v n xs) (hu : u.ownBlock = some w.heap.size) : Dj u v := fun k hk e => by
 have := (h.lt k e).2
 rw [hu] at hk
 have := Option.some.inj hk
 omega
theorem run_tell {P : Program} (w : World) (base : Nat) (t ty e : TypeId) (i : TypeInfo) (z : Value) (sz by' : Nat) (ht : P.underlying t = some (.slice e)) (hi : P.info? e = some i) (hz : i.zero = some z)
  (hsize : i.size = sz) (hby : i.bytes = by') (hzs : z.cells.size = sz) (hsz : 0 < sz) (v : Value) (n : Nat) (xs : List Value) (hown : w.ownsRow base e sz v n xs)
  (a : Addr) (news : List Value) (hl : news.length = sz) (hnews : ∀ j u, news[j]? = some u → w.cell? (a.add j) = some u) (h1 : ∀ u ∈ news, u.oneCell' = true)
  (h63 : n + 1 ≤ maxLen) (hbytes : (n + 1) * by' ≤ 140737488355328) (hbase : base ≤ w.heap.size) :
  ∃ v' w', (Builtin.append_ #[t, t] ty #[v, .slice (some a) 1 1]).run P w = .ok v' w' ∧ w'.ownsRow base e sz v' (n + 1) (xs ++ news) ∧ w.grownBy w' v.ownBlock ∧
   ((∃ g cap, v = .slice (some ⟨g, 0, none⟩) n cap ∧ v' = .slice (some ⟨g, 0, none⟩) (n + 1) cap) ∨ (v'.ownBlock = some w.heap.size ∧ Below w.heap.size w w')) := by
 obtain ⟨v', w', hr, ho', hg, _, hat⟩ := run_append_own_at (P := P) w base t ty e i z sz by' ht hi hz hsize hby hzs hsz v n xs hown a 1 1 news (by omega) hnews h1 h63 hbytes hbase
 refine ⟨v', w', hr, ho', hg, ?_⟩
 rcases hown.2 with ⟨rfl, rfl⟩ | ⟨g, cap, cur, rfl, hbg, hgg, hnc, hcm, hcs, htake⟩
 ·refine .inr ⟨?_, ⟨hg.os, hg.tape, hg.output, hg.size, fun k hk => hg.block k hk (by simp [Value.ownBlock])⟩⟩
  rcases hat with h | h
  ·obtain ⟨g', c', e', _⟩ := own_some ho' (by omega)
   rw [e'] at h
   simp [Value.ownBlock] at h
  ·exact h
 ·by_cases hroom : n + 1 ≤ cap
  ·have hr2 := run_append_room (P := P) w t ty e i ht hi g n cap cur hgg a 1 1 news (by omega) hnews h1 hroom (by rw [hsize, hcs, hl]; have h9 := Nat.mul_le_mul_right sz hroom; rw [Nat.add_mul, Nat.one_mul] at h9; exact h9)
   rw [hr] at hr2
   simp only [Result.ok.injEq] at hr2
   exact .inl ⟨g, cap, rfl, hr2.1⟩
  ·have hr2 := run_append_grow (P := P) w t ty e i z ht hi hz ⟨g, 0, none⟩ n cap xs (by rw [hsize]; exact hown.1) (hown.cells (g := g) rfl) a 1 1 news (by omega) hnews (by omega) (by simp only [maxLen] at h63; omega) (growslice_fits (by omega) (by rw [hby]; exact hbytes))
   rw [hr] at hr2
   simp only [Result.ok.injEq] at hr2
   obtain ⟨rfl, rfl⟩ := hr2
   exact .inr ⟨rfl, ⟨rfl, rfl, rfl, by simp, fun k hk => heap_alloc_old w.drew _ hk⟩⟩
theorem wpList_tell {P : Program} {w : World} {ops : Array Oper} {rest : List Oper} {o : Oper} {a : Act} {Q : Exit → Act → World → Prop} (hgd : o.guard = none) (s x : Operand) (t : TypeId)
  (ho : o.op = .call { callee := .builtin .append, args := #[s, x], argTypes := #[t, t] })
  (base : Nat) (e : TypeId) (i : TypeInfo) (z : Value) (sz by' : Nat) (ht : P.underlying t = some (.slice e)) (hi : P.info? e = some i) (hz : i.zero = some z)
  (hsize : i.size = sz) (hby : i.bytes = by') (hzs : z.cells.size = sz) (hsz : 0 < sz) (v : Value) (n : Nat) (xs : List Value) (hs : a.eval s = v) (hown : w.ownsRow base e sz v n xs)
  (ad : Addr) (us : List Value) (hx : a.eval x = .slice (some ad) 1 1) (hus : us.length = sz) (hc : ∀ j y, us[j]? = some y → w.cell? (ad.add j) = some y) (h1 : ∀ u ∈ us, u.oneCell' = true) (h63 : n + 1 ≤ maxLen) (hbytes : (n + 1) * by' ≤ 140737488355328) (hbase : base ≤ w.heap.size)
  (h : ∀ v' w', w'.ownsRow base e sz v' (n + 1) (xs ++ us) → w.grownBy w' v.ownBlock → ((∃ g cap, v = .slice (some ⟨g, 0, none⟩) n cap ∧ v' = .slice (some ⟨g, 0, none⟩) (n + 1) cap) ∨ (v'.ownBlock = some w.heap.size ∧ Below w.heap.size w w')) → wpList P ops Q rest (a.put o.dst v') w') : wpList P ops Q (o :: rest) a w := by
 refine wpList_plain hgd fun K hK => ?_
 obtain ⟨v', w', hr, h2, h3, h4⟩ := run_tell (P := P) w base t o.type e i z sz by' ht hi hz hsize hby hzs hsz v n xs hown ad us hus hc h1 h63 hbytes hbase
 unfold Oper.wp execOp
 simp only [ho, resolve, invoke, builtin, Sem.run_bind, Sem.run_pure, Result.andThen_ok, List.map_toArray, List.map_cons, List.map_nil, hs, hx, hr]
 exact hK _ _ (h v' w' h2 h3 h4)
end Xo
end Go.Proofs.YtghcfcglakbkeaaGreatDoor
namespace Go.Proofs.YtghcfcglakbkeaaGreatDoor
open Go.RowKit
set_option linter.unusedVariables false
set_option linter.unusedSimpArgs false
open Cm (Wr Tm co bf Ls lf ins Eqm)
open Xo (Dj own_front own_new Dj.kept wpList_tell)
namespace Ci
set_option maxRecDepth 100000
set_option maxHeartbeats 8000000
def setL : List Value → Nat → List Value → List Value
 | xs, _, [] => xs
 | xs, o, v :: r => setL (xs.set o v) (o + 1) r
theorem setL_get : ∀ (cs xs : List Value) (o j : Nat), o + cs.length ≤ xs.length → (setL xs o cs)[j]? = if o ≤ j ∧ j < o + cs.length then cs[j - o]? else xs[j]?
 | [], xs, o, j, h => by
  rw [if_neg (fun h9 => by simp only [List.length_nil] at h9; omega)]
  rfl
 | v :: r, xs, o, j, h => by
  show (setL (xs.set o v) (o + 1) r)[j]? = _
  rw [setL_get r (xs.set o v) (o + 1) j (by simp at h ⊢; omega)]
  simp only [List.length_cons] at h ⊢
  by_cases h1 : o + 1 ≤ j ∧ j < o + 1 + r.length
  ·rw [if_pos h1, if_pos (by omega), show j - o = (j - (o + 1)) + 1 by omega, List.getElem?_cons_succ]
  ·rw [if_neg h1]
   by_cases h2 : j = o
   ·subst h2
    rw [if_pos (by omega), List.getElem?_set_self (by omega), Nat.sub_self]
    rfl
   ·rw [if_neg (by omega), List.getElem?_set_ne (by omega)]
theorem own_setC {base gb n c s : Nat} {e : TypeId} : ∀ (cs : List Value) (o : Nat) (xs : List Value) (w : World), w.ownsRow base e s (.slice (some ⟨gb, 0, none⟩) n c) n xs → (w.setCells gb o cs).ownsRow base e s (.slice (some ⟨gb, 0, none⟩) n c) n (setL xs o cs)
 | [], o, xs, w, h => h
 | v :: r, o, xs, w, h => own_setC r (o + 1) (xs.set o v) (w.setCell ⟨gb, o, none⟩ v) (h.stored o v).1
theorem Clone0_own (P : Option Addr) (c : Nat) (w : World) : Calls Tryz.prog 67 #[.slice P 0 c] w fun e w' => ∃ v, e = .returned v ∧ w'.ownsRow w.heap.size 123 6 v 0 [] ∧ Below w.heap.size w w' := by
 have eqn := fun (a : Option Addr) (l c : Nat) (w : World) => Lib.run_eql_slice_nil (P := Tryz.prog) w 38 123 a l c 0 0 (by kernel_rfl)
 have HI := Hn tinfo
 have T1 : Hid (Tryz.prog.underlying 38 = some (.slice 123)) := Hn (by kernel_rfl)
 have O0 := Hn (World.ownsRow_made (base := w.heap.size) (e := 123) (size := 6) w #[] 0 (Nat.le_refl _) (by unfold maxLen; omega) rfl)
 have B0 := Hn (bl_alloc w (.cells #[] 123))
 cases P with
 | none =>
  go_enter Tryz.func67, Tryz.ntmps67
  go_wp2_with fail
  exact bodyPost_ret (v := .slice none 0 0) (by simp [results, Tryz.results67, go_sem]) rfl ⟨_, rfl, World.ownsRow_nil _ _ _ _, Below.refl _ _⟩
 | some a =>
  go_enter Tryz.func67, Tryz.ntmps67
  go_wp2_with (first | (at_builtin; refine wpList_append_own_none rfl _ _ 38 rfl w.heap.size 123 _ 6 T1.out HI.out _ 0 [] rfl O0.out rfl ?_))
  exact bodyPost_ret (v := .slice (some ⟨w.heap.size, 0, none⟩) 0 0) (by simp [results, Tryz.results67, go_sem]) rfl ⟨_, rfl, O0.out, B0.out⟩
theorem CopyO_any (P : Option Addr) (c : Nat) (X : List Tm) (w : World) (hn : X.length ≤ 2932031007402) (hL : Lt w P X.length (ft X)) : Calls Tryz.prog 67 #[.slice P X.length c] w fun e w' => ∃ v, e = .returned v ∧ w'.ownsRow w.heap.size 123 6 v X.length (tls X) ∧ Below w.heap.size w w' := by
 by_cases h0 : X.length = 0
 ·obtain rfl := List.length_eq_zero_iff.1 h0
  exact Clone0_own P c w
 ·exact Clone_any P X.length c (ft X) w (by omega) hn hL
theorem ReqO_any {base : Nat} {w : World} {s m Kg : Nat} {v : Value} {vs : List Value} {Q : List (List Tm)} (h : Sy base w s m Kg v vs Q) (i : Nat) (X : List Tm) (hX : Q[i]? = some X) (hl : X.length ≤ 2932031007402) : Calls Tryz.prog 25 #[.pointer (some ⟨s, 0, none⟩), .int .i64 (i : Int)] w fun e w' => ∃ v, e = .returned (.tuple #[v, .int .i64 0]) ∧ w'.ownsRow w.heap.size 123 6 v X.length (tls X) ∧ Below w.heap.size w w' := by
 have hi := (List.getElem?_eq_some_iff.1 hX).1
 obtain ⟨u, hu, ho⟩ := h.ls i X hX
 obtain ⟨R, e, hR, _, _⟩ := own_shT ho
 subst hR
 have C := Hn (CopyO_any R e X w hl (own_lts ho))
 have C0 := Hn (Requires_any h)
 have k2 := h.c2
 obtain ⟨Pv, cv, hv, hc, hp⟩ := h.shape
 subst hv
 obtain ⟨g, rfl⟩ := hp (by omega)
 have cu : w.cell? ⟨g, i, none⟩ = some (.slice R X.length e) := by
  have := h.row.cells (g := g) rfl i _ hu
  rwa [Addr.add_mid, Nat.zero_add] at this
 have l0 : ¬ (i : Int) < 0 := by omega
 have l1 : ¬ (Q.length : Int) ≤ (i : Int) := by omega
 have l2 : (0 : Int) ≤ (i : Int) := by omega
 have l3 : (i : Int) < (Q.length : Int) := by omega
 have FT : ∃ F, F = tls X := ⟨_, rfl⟩
 obtain ⟨F, hF⟩ := FT
 rw [← hF] at C ⊢
 clear h hX hu ho hl hi hc hp hF
 generalize Q.length = nq at *
 generalize X.length = xl at *
 go_enter Tryz.func25, Tryz.ntmps25
 go_wp2_with (first | (go_at_call 31; refine C0.out.mono ?_; rintro e w1 ⟨rfl, rfl⟩) | (go_at_call 67; refine C.out.mono ?_; rintro e w2 ⟨v2, rfl, ho, hb⟩; have O2 := Hn ho; have B2 := Hn hb; clear ho hb))
 refine bodyPost_ret (v := .tuple #[v2, .int .i64 0]) (by simp [results, Tryz.results25, go_sem]) rfl ⟨v2, rfl, O2.out, B2.out⟩
theorem Req_bad {base : Nat} {w : World} {s m Kg : Nat} {v : Value} {vs : List Value} {Q : List (List Tm)} (h : Sy base w s m Kg v vs Q) (i : Int) (hi : i < 0 ∨ (Q.length : Int) ≤ i) : Calls Tryz.prog 25 #[.pointer (some ⟨s, 0, none⟩), .int .i64 i] w fun e w' => e = .returned (.tuple #[.slice none 0 0, .int .i64 1]) ∧ w' = w := by
 have C0 := Hn (Requires_any h)
 clear h
 generalize Q.length = nq at *
 by_cases h0 : i < 0
 ·go_enter Tryz.func25, Tryz.ntmps25
  go_wp2_with (go_at_call 31; refine C0.out.mono ?_; rintro e w1 ⟨rfl, rfl⟩)
  exact bodyPost_ret (v := .tuple #[.slice none 0 0, .int .i64 1]) (by simp [results, Tryz.results25, go_sem]) rfl ⟨rfl, rfl⟩
 ·have h1 : (nq : Int) ≤ i := by omega
  go_enter Tryz.func25, Tryz.ntmps25
  go_wp2_with (go_at_call 31; refine C0.out.mono ?_; rintro e w1 ⟨rfl, rfl⟩)
  exact bodyPost_ret (v := .tuple #[.slice none 0 0, .int .i64 1]) (by simp [results, Tryz.results25, go_sem]) rfl ⟨rfl, rfl⟩
def fin (k : Nat) (g f : Nat → Trm) : Nat → Trm := fun j => if j < k then g j else f j
theorem tvs_put {n i : Nat} {g f : Nat → Trm} (hi : i < n) : setL (tvs n (fin i g f)) (i * 6) (g i).cs = tvs n (fin (i + 1) g f) := by
 have hl : (g i).cs.length = 6 := rfl
 refine List.ext_getElem? (fun q => ?_)
 rw [setL_get _ _ _ _ (by rw [tvs_len, hl]; omega), hl]
 by_cases hq : q < n * 6
 ·obtain ⟨a, j, rfl, hj⟩ : ∃ a j, q = a * 6 + j ∧ j < 6 := ⟨q / 6, q % 6, by omega, by omega⟩
  rw [tvs_get n (fin (i + 1) g f) a j (by omega) hj]
  by_cases ha : a = i
  ·subst ha
   rw [if_pos (by omega), show a * 6 + j - a * 6 = j by omega]
   simp only [fin, if_pos (Nat.lt_succ_self a)]
  ·rw [if_neg (by omega), tvs_get n (fin i g f) a j (by omega) hj]
   simp only [fin]
   by_cases h1 : a < i
   ·rw [if_pos h1, if_pos (by omega)]
   ·rw [if_neg h1, if_neg (by omega)]
 ·rw [if_neg (by omega), List.getElem?_eq_none (by rw [tvs_len]; omega), List.getElem?_eq_none (by rw [tvs_len]; omega)]
theorem fin_all {n : Nat} {g f : Nat → Trm} : tvs n (fin n g f) = tvs n g := tvs_congr (fun k hk => if_pos hk)
structure Gw (B n k : Nat) (t : Trm) (v0 v : Value) (z : World) : Prop where
 own : z.ownsRow B 123 6 v (n + k) (tvs (n + k) (fun _ => t))
 fr : (∃ g c, v0 = .slice (some ⟨g, 0, none⟩) n c ∧ v = .slice (some ⟨g, 0, none⟩) (n + k) c) ∨ (Dj v v0 ∧ z.ownsRow B 123 6 v0 n (tvs n (fun _ => t)))
section
variable {B n k : Nat} {t : Trm} {v0 v v' : Value} {z y : World}
theorem tvs_app (n k : Nat) (f : Nat → Trm) : tvs (n + k) f = tvs n f ++ tvs k (fun i => f (n + i)) := by
 induction k with
 | zero => simp [tvs_zero]
 | succ k ih => rw [show n + (k + 1) = (n + k) + 1 by omega, tvs_succ, ih, tvs_succ, List.append_assoc]
theorem Gw.o0 (h : Gw B n k t v0 v z) : z.ownsRow B 123 6 v0 n (tvs n (fun _ => t)) := by
 rcases h.fr with ⟨g, c, rfl, rfl⟩ | ⟨_, h⟩
 ·have ho := h.own
  rw [tvs_app] at ho
  exact own_front ho (tvs_len _ _) (by omega)
 ·exact h
theorem Gw.kept (h : Gw B n k t v0 v z) {r : Option Nat} (hg : z.grownBy y r) (h1 : ∀ i, r = some i → v.ownBlock ≠ some i ∧ v0.ownBlock ≠ some i) : Gw B n k t v0 v y := by
 have k1 : ∀ u : Value, (∀ i, r = some i → u.ownBlock ≠ some i) → (u.ownBlock = none ∨ u.ownBlock ≠ r) := fun u hu => by
  cases e : u.ownBlock with
  | none => exact .inl rfl
  | some i => exact .inr (fun e2 => hu i e2.symm e)
 refine ⟨h.own.kept hg (k1 v (fun i e => (h1 i e).1)), ?_⟩
 rcases h.fr with hc | ⟨d, h2⟩
 ·exact .inl hc
 ·exact .inr ⟨d, h2.kept hg (k1 v0 (fun i e => (h1 i e).2))⟩
theorem Gw.bl (h : Gw B n k t v0 v z) (hb : Below z.heap.size z y) : Gw B n k t v0 v y := by
 refine ⟨own_keepT h.own hb, ?_⟩
 rcases h.fr with hc | ⟨d, h2⟩
 ·exact .inl hc
 ·exact .inr ⟨d, own_keepT h2 hb⟩
theorem Gw.app (h : Gw B n k t v0 v z) (ho : y.ownsRow B 123 6 v' (n + k + 1) (tvs (n + k) (fun _ => t) ++ t.cs)) (hg : z.grownBy y v.ownBlock) (hd : (∃ g cap, v = .slice (some ⟨g, 0, none⟩) (n + k) cap ∧ v' = .slice (some ⟨g, 0, none⟩) (n + k + 1) cap) ∨ (v'.ownBlock = some z.heap.size ∧ Below z.heap.size z y)) : Gw B n (k + 1) t v0 v' y ∧ ∀ i, v'.ownBlock = some i → v.ownBlock = some i ∨ i = z.heap.size := by
 have e : tvs (n + k) (fun _ => t) ++ t.cs = tvs (n + (k + 1)) (fun _ => t) := by rw [show n + (k + 1) = (n + k) + 1 by omega, tvs_succ]
 rw [e] at ho
 rcases hd with ⟨g, cap, rfl, rfl⟩ | ⟨h1, h2⟩
 ·refine ⟨⟨ho, ?_⟩, fun i hi => .inl hi⟩
  rcases h.fr with ⟨g', c', e1, e2⟩ | ⟨d, h3⟩
  ·injection e2 with e3 e4 e5
   have e3 := Option.some.inj e3
   injection e3 with e3
   subst e3 e5
   exact .inl ⟨g, cap, e1, rfl⟩
  ·exact .inr ⟨d, d.kept h3 hg⟩
 ·refine ⟨⟨ho, .inr ⟨own_new h.o0 h1, own_keepT h.o0 h2⟩⟩, fun i hi => .inr ?_⟩
  rw [h1] at hi
  exact (Option.some.inj hi).symm
theorem Gw.ofs (h : z.ownsRow B 123 6 v0 n (tvs n (fun _ => t))) : Gw B n 0 t v0 v0 z := by
 refine ⟨h, ?_⟩
 rcases h.2 with ⟨e1, e2⟩ | ⟨g, c, cur, e1, _⟩
 ·subst e1
  exact .inr ⟨fun i hi => (by cases hi), h⟩
 ·exact .inl ⟨g, c, e1, e1⟩
end
end Ci
end Go.Proofs.YtghcfcglakbkeaaGreatDoor
