import Derived.Test.YtghcfcglakbkeaaGreatDoorCmaz
import Derived.Maps.RangeWalk
namespace Go.Proofs.YtghcfcglakbkeaaGreatDoor
open Go.RowKit
open Go.ChangeMaps (setBlock heap_setBlock_same heap_setBlock_other)
set_option linter.unusedVariables false
set_option linter.unusedSimpArgs false
open Cm (Wr Tm co bf Ls lf ins Eqm)
def wv (q : Wr) : Value := .agg #[.int .i64 q.1, .int .i64 q.2]
set_option maxRecDepth 100000 in
theorem eqW (a b : Wr) (w : World) : (Op.equalIn 10000 79 (wv a) (wv b)).run Tryz.prog w = .ok (decide (a = b)) w := by
 unfold wv
 have hf : (Tryz.prog.fieldsOf 79).toList = [⟨"Kind", 3, 0, false, "", "", 0⟩, ⟨"I", 3, 1, false, "", "", 8⟩] := by kernel_rfl
 rw [run_equalIn_struct w 9999 _ _ _ (by kernel_rfl) (by kernel_rfl), hf]
 have hp : Tryz.prog.plainKey 3 = true := by kernel_rfl
 have hu : Tryz.prog.underlying 3 = some (.int .i64) := by kernel_rfl
 simp only [Op.eqFields, Sem.run_bind, Sem.run_ite]
 have p1 : ∀ x y : Wr, (part 3 #[.int .i64 x.1, .int .i64 x.2] 0).run Tryz.prog w = .ok (.int .i64 x.1) w := fun x y => run_part_plain w hp rfl
 have p2 : ∀ x y : Wr, (part 3 #[.int .i64 x.1, .int .i64 x.2] 1).run Tryz.prog w = .ok (.int .i64 x.2) w := fun x y => run_part_plain w hp rfl
 simp only [p1 a a, p1 b b, p2 a a, p2 b b, Result.andThen_ok, run_equalIn_int w 9998 3 .i64 .i64 _ _ hu]
 obtain ⟨a1, a2⟩ := a
 obtain ⟨b1, b2⟩ := b
 by_cases h1 : a1 = b1 <;> by_cases h2 : a2 = b2 <;> simp [h1, h2]
theorem eqWe (a b : Wr) (w : World) : (Op.equal 79 (wv a) (wv b)).run Tryz.prog w = .ok (decide (a = b)) w := eqW a b w
set_option maxRecDepth 100000 in
theorem checkW (em : Bool) (q : Wr) (w : World) : (Instr.checkKey em 10000 79 (wv q)).run Tryz.prog w = .ok () w := by
 unfold wv
 have hp : Tryz.prog.plainKey 3 = true := by kernel_rfl
 have hu : Tryz.prog.underlying 79 = some (.struct #[⟨"Kind", 3, 0, false, "", "", 0⟩, ⟨"I", 3, 1, false, "", "", 8⟩]) := by kernel_rfl
 have hi : Tryz.prog.underlying 3 = some (.int .i64) := by kernel_rfl
 have p1 : (part 3 #[.int .i64 q.1, .int .i64 q.2] 0).run Tryz.prog w = .ok (.int .i64 q.1) w := run_part_plain w hp rfl
 have p2 : (part 3 #[.int .i64 q.1, .int .i64 q.2] 1).run Tryz.prog w = .ok (.int .i64 q.2) w := run_part_plain w hp rfl
 have c1 : ∀ x : Int, (Instr.checkKey em 9999 3 (.int .i64 x)).run Tryz.prog w = .ok () w := fun x => MapKept.run_checkKey hi (by simp [MapKept.IsKey]) em 9998
 show (Instr.checkKey em (9999 + 1) _ _).run _ _ = _
 generalize 9999 = n at c1 ⊢
 rw [Instr.checkKey]
 simp only [Sem.run_bind, run_underlying hu, Result.andThen_ok]
 rw [← Array.forIn_toList]
 simp [List.forIn_cons, p1, p2, c1]
def unW : Value → Wr
 | .agg ⟨[.int _ a, .int _ b]⟩ => (a, b)
 | _ => (0, 0)
def unE : Value → Int
 | .agg ⟨[.int _ a, .int _ b, .int _ c, .int _ d]⟩ => E4.n ⟨a, b, c, d⟩
 | _ => 0
def dec (e : MapEntry) : Tm := (unW e.key, unE e.val)
theorem unE_v (a : E4) : unE a.v = a.n := rfl
theorem lst_mod (n : Int) : lst (n % Sm.L) = lst n := lst_congr (Int.emod_emod_of_dvd n (Int.dvd_refl _))
def Ew (e : MapEntry) : Prop := e.key = wv (dec e).1 ∧ e.val = (lst (dec e).2).v ∧ 0 ≤ (dec e).2 ∧ (dec e).2 < Sm.L
theorem ew_mk (q : Wr) (n : Int) (t : Nat) : Ew ⟨wv q, (lst n).v, t⟩ := by
 have h : (dec ⟨wv q, (lst n).v, t⟩).2 = n % Sm.L := by show unE (lst n).v = _; rw [unE_v, lst_n]
 refine ⟨rfl, ?_, ?_⟩
 ·rw [h, lst_mod]
 ·rw [h]; exact mod_bd n
theorem dec_mk (q : Wr) (n : Int) (t : Nat) : dec ⟨wv q, (lst n).v, t⟩ = (q, n % Sm.L) := by
 refine Prod.ext rfl ?_
 show unE (lst n).v = _
 rw [unE_v, lst_n]
theorem find_asks (q : Wr) (w : World) : ∀ (es : List MapEntry) (i : Nat), (∀ e ∈ es, Ew e) →
  ((Instr.findAsking 79 (wv q) es i).run Tryz.prog w = .ok none w ∧ ∀ e ∈ es, (dec e).1 ≠ q) ∨ ∃ A e B, es = A ++ e :: B ∧ (dec e).1 = q ∧ (∀ x ∈ A, (dec x).1 ≠ q) ∧ (Instr.findAsking 79 (wv q) es i).run Tryz.prog w = .ok (some (i + A.length, e.val)) w
 | [], i, _ => .inl ⟨rfl, by simp⟩
 | e :: es, i, h => by
  have he := h e (by simp)
  have hr : (Op.equal 79 (wv q) e.key).run Tryz.prog w = .ok (decide (q = (dec e).1)) w := by rw [he.1]; exact eqWe q _ w
  by_cases hq : q = (dec e).1
  ·refine .inr ⟨[], e, es, rfl, hq.symm, by simp, ?_⟩
   rw [Instr.findAsking, Sem.run_bind, hr, decide_eq_true hq]
   simp
  ·have e1 : (Instr.findAsking 79 (wv q) (e :: es) i).run Tryz.prog w = (Instr.findAsking 79 (wv q) es (i + 1)).run Tryz.prog w := by
    rw [Instr.findAsking, Sem.run_bind, hr, decide_eq_false hq]
    simp
   rw [e1]
   rcases find_asks q w es (i + 1) (fun x hx => h x (by simp [hx])) with ⟨h1, h2⟩ | ⟨A, x, B, h1, h2, h4, h3⟩
   ·refine .inl ⟨h1, fun x hx => ?_⟩
    rcases List.mem_cons.1 hx with rfl | hx
    ·exact fun e => hq e.symm
    ·exact h2 x hx
   ·refine .inr ⟨e :: A, x, B, by rw [h1]; rfl, h2, ?_, ?_⟩
    ·intro y hy
     rcases List.mem_cons.1 hy with rfl | hy
     ·exact fun e => hq e.symm
     ·exact h4 y hy
    ·rw [h3]; simp [Nat.add_comm, Nat.add_left_comm]
theorem find_key (q : Wr) (w : World) (es : List MapEntry) (h : ∀ e ∈ es, Ew e) :
  ((Instr.findKey 79 (wv q) es).run Tryz.prog w = .ok none w ∧ ∀ e ∈ es, (dec e).1 ≠ q) ∨ ∃ A e B, es = A ++ e :: B ∧ (dec e).1 = q ∧ (∀ x ∈ A, (dec x).1 ≠ q) ∧ (Instr.findKey 79 (wv q) es).run Tryz.prog w = .ok (some (A.length, e.val)) w := by
 have hu : Tryz.prog.underlying 79 = some (.struct #[⟨"Kind", 3, 0, false, "", "", 0⟩, ⟨"I", 3, 1, false, "", "", 8⟩]) := by kernel_rfl
 cases es with
 | nil => exact .inl ⟨by simp [Instr.findKey, Instr.findNow, Sem.run_bind, run_underlying hu], by simp⟩
 | cons e es =>
  have e1 : (Instr.findKey 79 (wv q) (e :: es)).run Tryz.prog w = (Instr.findAsking 79 (wv q) (e :: es) 0).run Tryz.prog w := by
   simp [Instr.findKey, Instr.findNow, Instr.sameNow, Sem.run_bind, run_underlying hu, wv]
  rw [e1]
  rcases find_asks q w (e :: es) 0 h with h1 | ⟨A, x, B, h1, h2, h4, h3⟩
  ·exact .inl h1
  ·exact .inr ⟨A, x, B, h1, h2, h4, by rw [h3]; simp⟩
structure Me (es : Array MapEntry) (clock : Nat) (M : List Tm) : Prop where
 ew : ∀ e ∈ es.toList, Ew e
 m : M = es.toList.map dec
 keys : M.Pairwise (fun x y => x.1 ≠ y.1)
 born : ∀ e ∈ es.toList, e.born < clock
 dup : (es.toList.map (·.born)).Nodup
def Mp (w : World) (b : Nat) (M : List Tm) : Prop := ∃ es clock, w.heap[b]? = some (.map es clock) ∧ Me es clock M
theorem Mp.lt {w : World} {b : Nat} {M : List Tm} (h : Mp w b M) : b < w.heap.size := by
 obtain ⟨es, clock, hb, _⟩ := h
 exact (Array.getElem?_eq_some_iff.1 hb).1
theorem Mp.keep {w w' : World} {b : Nat} {M : List Tm} (h : Mp w b M) (hb : Below w.heap.size w w') : Mp w' b M := by
 have hl := h.lt
 obtain ⟨es, clock, h1, h2⟩ := h
 exact ⟨es, clock, (hb.block b hl).trans h1, h2⟩
theorem Mp.grown {w w' : World} {b : Nat} {M : List Tm} {row : Option Nat} (h : Mp w b M) (hg : w.grownBy w' row) (hne : some b ≠ row) : Mp w' b M := by
 have hl := h.lt
 obtain ⟨es, clock, h1, h2⟩ := h
 exact ⟨es, clock, (hg.block b hl hne).trans h1, h2⟩
theorem me_nil (c : Nat) : Me #[] c [] := ⟨by simp, rfl, by simp, by simp, by simp⟩
theorem Mp.made (w : World) : Mp (w.alloc (.map #[] 0)) w.heap.size [] := ⟨#[], 0, (MapKept.heap_alloc w _).1, me_nil 0⟩
theorem zv40 (w : World) : (zeroValue 41).run Tryz.prog w = .ok (lst 0).v w := by
 rw [int_is 0 (by unfold Sm.Wd; omega)]
 kernel_rfl
theorem co_at {A B : List Tm} {x : Tm} (h : (A ++ x :: B).Pairwise (fun x y => x.1 ≠ y.1)) : co (A ++ x :: B) x.1 = x.2 := by
 rw [Cm.co_app, Cm.co_cons, if_pos rfl]
 have h1 := List.pairwise_append.1 h
 rw [Cm.co_out (fun y hy => h1.2.2 y hy x (by simp)), Cm.co_out (fun y hy => ((List.pairwise_cons.1 h1.2.1).1 y hy).symm)]
 omega
theorem Mp.look {w : World} {b : Nat} {M : List Tm} (h : Mp w b M) (q : Wr) : (Instr.lookup 132 (.map (some b)) (wv q) false).run Tryz.prog w = .ok (lst (co M q)).v w := by
 obtain ⟨es, clock, hb, hm⟩ := h
 have ht : Tryz.prog.underlying 132 = some (.map 79 41) := by kernel_rfl
 rcases find_key q w es.toList hm.ew with ⟨h1, h2⟩ | ⟨A, e, B, h1, h2, -, h3⟩
 ·have e0 : co M q = 0 := by
   rw [hm.m]
   exact Cm.co_out (fun x hx => by obtain ⟨e, he, rfl⟩ := List.mem_map.1 hx; exact h2 e he)
  have z0 := zv40 w
  rw [← e0] at z0
  simp only [Instr.lookup, Sem.run_bind, run_underlying ht, MapKept.run_getObj_map hb, checkW, h1, z0, Result.andThen_ok]
  simp [h1, z0]
 ·have he := hm.ew e (by rw [h1]; simp)
  have e0 : co M q = (dec e).2 := by
   have hk := hm.keys
   rw [hm.m, h1] at hk
   rw [hm.m, h1, ← h2]
   simp only [List.map_append, List.map_cons] at hk ⊢
   exact co_at hk
  simp [Instr.lookup, Sem.run_bind, run_underlying ht, MapKept.run_getObj_map hb, checkW, h3, e0, ← he.2.1, Result.andThen]
theorem modify_at {α : Type} (f : α → α) (A : List α) (e : α) (B : List α) : (A ++ e :: B).modify A.length f = A ++ f e :: B := by
 induction A with
 | nil => rfl
 | cons a A ih => simpa using ih
theorem stays_key (q : Wr) (w : World) : (Instr.keyThatStays (wv q) (wv q)).run Tryz.prog w = .ok (wv q) w := by
 have h : ∀ n, Instr.sameBits (n + 1) (wv q) (wv q) = true := fun n => by unfold wv; cases n <;> simp [Instr.sameBits]
 unfold Instr.keyThatStays
 rw [show (10000 : Nat) = 9999 + 1 from rfl, h]
 rfl
theorem grown_block {w : World} {b : Nat} {es : Array MapEntry} {clock : Nat} (hb : w.heap[b]? = some (.map es clock)) (o : Obj) : w.grownBy (setBlock w b o) (some b) :=
 ⟨rfl, rfl, rfl, by simp [setBlock], fun i _ hi => heap_setBlock_other hb _ (fun e => hi (by rw [e]))⟩
theorem Mp.put {w : World} {b : Nat} {M : List Tm} (h : Mp w b M) (q : Wr) (n : Int) : ∃ w' M', (Instr.mapUpdate 132 (.map (some b)) (wv q) (lst n).v).run Tryz.prog w = .ok () w' ∧ Mp w' b M' ∧ (∀ p, co M' p = if p = q then n % Sm.L else co M p) ∧ M'.length ≤ M.length + 1 ∧ w.grownBy w' (some b) := by
 obtain ⟨es, clock, hb, hm⟩ := h
 have ht : Tryz.prog.underlying 132 = some (.map 79 41) := by kernel_rfl
 rcases find_key q w es.toList hm.ew with ⟨h1, h2⟩ | ⟨A, e, B, h1, h2, hA, h3⟩
 ·refine ⟨setBlock w b (.map (es.push ⟨wv q, (lst n).v, clock⟩) (clock + 1)), M ++ [(q, n % Sm.L)], ?_, ⟨_, _, heap_setBlock_same hb _, ?_⟩, ?_, by simp, grown_block hb _⟩
  ·simp only [Instr.mapUpdate, Sem.run_bind, run_underlying ht, MapKept.run_getObj_map hb, checkW, h1, MapKept.run_setObj_map _ hb, Result.andThen_ok]
   rfl
  ·refine ⟨?_, ?_, ?_, ?_, ?_⟩
   ·intro x hx
    simp only [Array.toList_push, List.mem_append, List.mem_singleton] at hx
    rcases hx with hx | rfl
    ·exact hm.ew x hx
    ·exact ew_mk q n clock
   ·rw [Array.toList_push, List.map_append, ← hm.m, List.map_singleton, dec_mk]
   ·refine List.pairwise_append.2 ⟨hm.keys, by simp, fun x hx y hy => ?_⟩
    rw [hm.m] at hx
    obtain ⟨e, he, rfl⟩ := List.mem_map.1 hx
    rw [List.mem_singleton.1 hy]
    exact h2 e he
   ·intro x hx
    simp only [Array.toList_push, List.mem_append, List.mem_singleton] at hx
    rcases hx with hx | rfl
    ·exact Nat.lt_succ_of_lt (hm.born x hx)
    ·exact Nat.lt_succ_self _
   ·rw [Array.toList_push, List.map_append, List.map_singleton]
    refine List.nodup_append.2 ⟨hm.dup, by simp, fun x hx y hy => ?_⟩
    obtain ⟨e, he, rfl⟩ := List.mem_map.1 hx
    rw [List.mem_singleton.1 hy]
    exact Nat.ne_of_lt (hm.born e he)
  ·intro p
   rw [Cm.co_app, Cm.co_cons, Cm.co_nil]
   by_cases hp : p = q
   ·subst hp
    rw [if_pos rfl, if_pos rfl, hm.m, Cm.co_out (fun x hx => by obtain ⟨e, he, rfl⟩ := List.mem_map.1 hx; exact h2 e he)]
    omega
   ·rw [if_neg (fun e => hp e.symm), if_neg hp]
    omega
 ·have he := hm.ew e (by rw [h1]; simp)
  have ei : es[A.length]? = some e := by rw [← Array.getElem?_toList, h1]; simp
  have ek : (((es[A.length]?).map (·.key)).getD (wv q)) = wv q := by rw [ei]; simp [he.1, h2]
  have el : (es.modify A.length fun e => { e with key := wv q, val := (lst n).v }).toList = A ++ { e with key := wv q, val := (lst n).v } :: B := by
   rw [Array.toList_modify, h1]
   exact modify_at _ A e B
  have hk := hm.keys
  rw [hm.m, h1, List.map_append, List.map_cons] at hk
  have hk1 := List.pairwise_append.1 hk
  have hk2 := List.pairwise_cons.1 hk1.2.1
  refine ⟨setBlock w b (.map (es.modify A.length fun e => { e with key := wv q, val := (lst n).v }) clock), A.map dec ++ (q, n % Sm.L) :: B.map dec, ?_, ⟨_, _, heap_setBlock_same hb _, ?_⟩, ?_, by rw [hm.m, h1]; simp, grown_block hb _⟩
  ·simp only [Instr.mapUpdate, Sem.run_bind, run_underlying ht, MapKept.run_getObj_map hb, checkW, h3, ek, stays_key, MapKept.run_setObj_map _ hb, Result.andThen_ok]
   rfl
  ·refine ⟨?_, ?_, ?_, ?_, ?_⟩
   ·intro x hx
    rw [el] at hx
    rcases List.mem_append.1 hx with hx | hx
    ·exact hm.ew x (by rw [h1]; simp [hx])
    ·rcases List.mem_cons.1 hx with rfl | hx
     ·exact ew_mk q n e.born
     ·exact hm.ew x (by rw [h1]; simp [hx])
   ·rw [el, List.map_append, List.map_cons, dec_mk]
   ·refine List.pairwise_append.2 ⟨hk1.1, List.pairwise_cons.2 ⟨fun y hy => by rw [← h2]; exact hk2.1 y hy, hk2.2⟩, fun x hx y hy => ?_⟩
    rcases List.mem_cons.1 hy with e1 | hy
    ·rw [e1]
     show x.1 ≠ q
     rw [← h2]
     exact hk1.2.2 x hx (dec e) (by simp)
    ·exact hk1.2.2 x hx y (by simp [hy])
   ·intro x hx
    rw [el] at hx
    rcases List.mem_append.1 hx with hx | hx
    ·exact hm.born x (by rw [h1]; simp [hx])
    ·rcases List.mem_cons.1 hx with rfl | hx
     ·exact hm.born e (by rw [h1]; simp)
     ·exact hm.born x (by rw [h1]; simp [hx])
   ·have := hm.dup
    rw [el]
    rw [h1] at this
    simpa using this
  ·intro p
   rw [Cm.co_app, Cm.co_cons]
   by_cases hp : p = q
   ·subst hp
    rw [if_pos rfl, if_pos rfl, Cm.co_out (fun x hx => by rw [← h2]; exact hk1.2.2 x hx (dec e) (by simp)), Cm.co_out (fun x hx => by rw [← h2]; exact (hk2.1 x hx).symm)]
    omega
   ·rw [if_neg (fun e => hp e.symm), if_neg hp, hm.m, h1, List.map_append, List.map_cons, Cm.co_app, Cm.co_cons, if_neg (fun e => hp (by rw [← e, h2]))]
def Rg (w : World) (b r : Nat) (M S : List Tm) : Prop := ∃ es clock seen c0, w.heap[b]? = some (.map es clock) ∧ Me es clock M ∧ w.heap[r]? = some (.mapIter (some b) clock seen c0) ∧ clock ≤ c0 ∧
 (∀ q, co S q + co ((leftOf es seen).toList.map dec) q = co M q) ∧ (∀ x ∈ S, ∀ e ∈ (leftOf es seen).toList, (dec e).1 ≠ x.1) ∧ S.Pairwise (fun x y => x.1 ≠ y.1) ∧ S.length + (leftOf es seen).size = M.length ∧ ∀ x ∈ S, 0 ≤ x.2 ∧ x.2 < Sm.L
theorem Rg.mp {w : World} {b r : Nat} {M S : List Tm} (h : Rg w b r M S) : Mp w b M := by
 obtain ⟨es, clock, seen, c0, h1, h2, _⟩ := h
 exact ⟨es, clock, h1, h2⟩
theorem Rg.lt {w : World} {b r : Nat} {M S : List Tm} (h : Rg w b r M S) : b < w.heap.size ∧ r < w.heap.size := by
 obtain ⟨es, clock, seen, c0, h1, h2, h3, _⟩ := h
 exact ⟨(Array.getElem?_eq_some_iff.1 h1).1, (Array.getElem?_eq_some_iff.1 h3).1⟩
theorem Rg.le {w : World} {b r : Nat} {M S : List Tm} (h : Rg w b r M S) : S.length ≤ M.length := by
 obtain ⟨es, clock, seen, c0, h1, h2, h3, h4, h5, h6, h7, h8, h9⟩ := h
 omega
theorem Rg.keep {w w' : World} {b r : Nat} {M S : List Tm} (h : Rg w b r M S) (hb : Below w.heap.size w w') : Rg w' b r M S := by
 have hl := h.lt
 obtain ⟨es, clock, seen, c0, h1, h2, h3, h4⟩ := h
 exact ⟨es, clock, seen, c0, (hb.block b hl.1).trans h1, h2, (hb.block r hl.2).trans h3, h4⟩
theorem Rg.grown {w w' : World} {b r : Nat} {M S : List Tm} {row : Option Nat} (h : Rg w b r M S) (hg : w.grownBy w' row) (hne : some b ≠ row) (hnr : some r ≠ row) : Rg w' b r M S := by
 have hl := h.lt
 obtain ⟨es, clock, seen, c0, h1, h2, h3, h4⟩ := h
 exact ⟨es, clock, seen, c0, (hg.block b hl.1 hne).trans h1, h2, (hg.block r hl.2 hnr).trans h3, h4⟩
theorem Mp.range {w : World} {b : Nat} {M : List Tm} (h : Mp w b M) : ∃ w', (Instr.range 132 (.map (some b))).run Tryz.prog w = .ok (.pointer (some ⟨w.heap.size, 0, none⟩)) w' ∧ Rg w' b w.heap.size M [] ∧ Below w.heap.size w w' := by
 have hl := h.lt
 obtain ⟨es, clock, hb, hm⟩ := h
 refine ⟨_, run_range_map w 132 79 41 b es clock (by kernel_rfl) hb, ⟨es, clock, #[], clock, ((MapKept.heap_alloc w _).2 b hl).trans hb, hm, (MapKept.heap_alloc w _).1, Nat.le_refl _, ?_, by simp, by simp, ?_, by simp⟩, bl_alloc w _⟩
 ·intro q
  simp only [leftOf, Cm.co_nil, hm.m]
  rw [Array.toList_filter, List.filter_eq_self.2 (fun _ _ => by simp)]
  omega
 ·simp [leftOf, hm.m]
theorem left_push {es : Array MapEntry} {seen : Array Nat} (e : MapEntry) : (leftOf es (seen.push e.born)).toList = (leftOf es seen).toList.filter (fun x => x.born != e.born) := by
 unfold leftOf
 simp only [Array.toList_filter, List.filter_filter, Array.contains_push]
 refine List.filter_congr (fun x _ => ?_)
 cases h : seen.contains x.born <;> simp [bne, h, BEq.comm]
theorem co_without (e : MapEntry) (q : Wr) : ∀ l : List MapEntry, (l.map (·.born)).Nodup → e ∈ l → co ((l.filter (fun x => x.born != e.born)).map dec) q + (if (dec e).1 = q then (dec e).2 else 0) = co (l.map dec) q ∧ (l.filter (fun x => x.born != e.born)).length + 1 = l.length
 | [], _, h => by simp at h
 | x :: l, hn, h => by
  have hn' := List.nodup_cons.1 (by simpa using hn : (x.born :: l.map (·.born)).Nodup)
  rcases List.mem_cons.1 h with rfl | h
  ·have : l.filter (fun x => x.born != e.born) = l := List.filter_eq_self.2 (fun y hy => by
    simp only [bne_iff_ne, ne_eq]
    exact fun ey => hn'.1 (List.mem_map.2 ⟨y, hy, ey⟩))
   rw [List.filter_cons_of_neg (by simp), this]
   exact ⟨by rw [List.map_cons, Cm.co_cons]; omega, by simp⟩
  ·have hx : x.born ≠ e.born := fun ex => hn'.1 (List.mem_map.2 ⟨e, h, ex.symm⟩)
   have ih := co_without e q l hn'.2 h
   rw [List.filter_cons_of_pos (by simp [hx])]
   exact ⟨by rw [List.map_cons, List.map_cons, Cm.co_cons, Cm.co_cons]; omega, by simp; omega⟩
theorem entry_one {l : List MapEntry} (h : (l.map dec).Pairwise (fun x y => x.1 ≠ y.1)) {x y : MapEntry} (hx : x ∈ l) (hy : y ∈ l) (e : (dec x).1 = (dec y).1) : x = y := by
 induction l with
 | nil => simp at hx
 | cons a l ih =>
  have h1 := List.pairwise_cons.1 (by simpa using h : (dec a :: l.map dec).Pairwise (fun x y => x.1 ≠ y.1))
  rcases List.mem_cons.1 hx with ex | hx'
  ·rcases List.mem_cons.1 hy with ey | hy'
   ·rw [ex, ey]
   ·rw [ex] at e
    exact absurd e (h1.1 _ (List.mem_map.2 ⟨y, hy', rfl⟩))
  ·rcases List.mem_cons.1 hy with ey | hy'
   ·rw [ey] at e
    exact absurd e.symm (h1.1 _ (List.mem_map.2 ⟨x, hx', rfl⟩))
   ·exact ih h1.2 hx' hy'
theorem Rg.next {w : World} {b r : Nat} {M S : List Tm} (h : Rg w b r M S) (ty : TypeId) :
  ((∀ q, co S q = co M q) ∧ (Instr.next (.pointer (some ⟨r, 0, none⟩)) false ty).run Tryz.prog w = .ok (.tuple #[.bool false]) w) ∨
  ∃ (x : Tm) (w' : World), (Instr.next (.pointer (some ⟨r, 0, none⟩)) false ty).run Tryz.prog w = .ok (.tuple #[.bool true, wv x.1, (lst x.2).v]) w' ∧ Rg w' b r M (S ++ [x]) ∧ S.length < M.length ∧ w.grownBy w' (some r) ∧
   (Instr.entry (.pointer (some ⟨r, 0, none⟩))).run Tryz.prog w' = .ok (.tuple #[wv x.1, (lst x.2).v]) w' := by
 obtain ⟨es, clock, seen, c0, hb, hm, hr, hc, hco, hk, hp, hl, hz⟩ := h
 rcases run_next_at (P := Tryz.prog) w ty r b clock c0 seen es clock hr hb hm.born hc with ⟨h0, hrun⟩ | ⟨e, he, w1, hw1, hrun⟩
 ·refine .inl ⟨fun q => ?_, hrun⟩
  have := hco q
  rw [show (leftOf es seen).toList = [] from by rw [← List.length_eq_zero_iff]; simpa using h0] at this
  simpa [Cm.co_nil] using this
 ·have hes : e ∈ es.toList := by
   have : e ∈ leftOf es seen := by simpa using he
   unfold leftOf at this
   have := (Array.mem_filter.1 this).1
   simpa using this
  have hw := hm.ew e hes
  have hb1 : w1.heap[b]? = some (.map es clock) := by rcases hw1 with rfl | rfl <;> exact hb
  have hr1 : w1.heap[r]? = some (.mapIter (some b) clock seen c0) := by rcases hw1 with rfl | rfl <;> exact hr
  have hne : b ≠ r := fun e => by rw [e, hr1] at hb1; cases hb1
  have hsame : (setBlock w1 r (.mapIter (some b) clock (seen.push e.born) clock)).heap[r]? = some (.mapIter (some b) clock (seen.push e.born) clock) := by
   have := (Array.getElem?_eq_some_iff.1 hr1).1
   simp [setBlock, Array.getElem?_setIfInBounds, this]
  have hoth : ∀ i, i ≠ r → (setBlock w1 r (.mapIter (some b) clock (seen.push e.born) clock)).heap[i]? = w1.heap[i]? := fun i hi => by
   simp [setBlock, Array.getElem?_setIfInBounds, Ne.symm hi]
  have hdl : ((leftOf es seen).toList.map (·.born)).Nodup := by
   unfold leftOf
   rw [Array.toList_filter]
   exact (List.filter_sublist.map _).nodup hm.dup
  have hco1 := fun q => co_without e q _ hdl he
  have hdup : ∀ x ∈ (leftOf es (seen.push e.born)).toList, (dec x).1 ≠ (dec e).1 := by
   intro x hx hxe
   rw [left_push] at hx
   have hx1 := List.mem_filter.1 hx
   have hxs : x ∈ es.toList := by
    have : x ∈ leftOf es seen := by simpa using hx1.1
    unfold leftOf at this
    have := (Array.mem_filter.1 this).1
    simpa using this
   have hkk := hm.keys
   rw [hm.m] at hkk
   have : x = e := entry_one hkk hxs hes hxe
   rw [this] at hx1
   simp at hx1
  refine .inr ⟨dec e, _, by rw [hrun, hw.1, hw.2.1], ⟨es, clock, seen.push e.born, clock, (hoth b hne).trans hb1, hm, hsame, Nat.le_refl _, ?_, ?_, ?_, ?_, ?_⟩, ?_, ?_, ?_⟩
  ·intro q
   have := hco1 q
   rw [left_push, Cm.co_app, Cm.co_cons, Cm.co_nil, ← hco q]
   omega
  ·intro x hx y hy
   rcases List.mem_append.1 hx with hx | hx
   ·rw [left_push] at hy
    exact hk x hx y (List.mem_filter.1 hy).1
   ·rw [List.mem_singleton.1 hx]
    exact hdup y hy
  ·refine List.pairwise_append.2 ⟨hp, by simp, fun x hx y hy => ?_⟩
   rw [List.mem_singleton.1 hy]
   exact (hk x hx e he).symm
  ·have h1 := (hco1 (0, 0)).2
   have h2 : (leftOf es (seen.push e.born)).size = ((leftOf es seen).toList.filter (fun x => x.born != e.born)).length := by rw [← left_push]; simp
   have h3 : (leftOf es seen).size = (leftOf es seen).toList.length := by simp
   rw [h2, List.length_append, List.length_singleton, ← hl, h3, ← h1]
   omega
  ·intro x hx
   rcases List.mem_append.1 hx with hx | hx
   ·exact hz x hx
   ·rw [List.mem_singleton.1 hx]
    exact hw.2.2
  ·have : 0 < (leftOf es seen).toList.length := List.length_pos_of_mem he
   simp only [Array.length_toList] at this
   omega
  ·have ht : w1.os = w.os ∧ w1.tape = w.tape ∧ w1.output = w.output ∧ w1.heap = w.heap := by rcases hw1 with rfl | rfl <;> exact ⟨rfl, rfl, rfl, rfl⟩
   exact ⟨ht.1, ht.2.1, ht.2.2.1, by simp [setBlock, ht.2.2.2], fun i _ hi => by rw [hoth i (fun e => hi (by rw [e])), ht.2.2.2]⟩
  ·rw [run_entry_at (P := Tryz.prog) _ r b clock seen es clock e hsame ((hoth b hne).trans hb1) hes hm.dup, hw.1, hw.2.1]
end Go.Proofs.YtghcfcglakbkeaaGreatDoor
