import Derived.Test.YtljmgfclhbadjaaGreatDoorTk
import Derived.Test.YtljmgfclhbadjaaGreatDoorCx
import Derived.Test.YtljmgfclhbadjaaGreatDoorCv
import Derived.Test.YtljmgfclhbadjaaGreatDoorProg
import Derived.Deep.RegionHeld3
import Derived.Deep.DeepCutAuto
import Derived.Deep.DeepMust
import Derived.WalkKit
import Derived.WalkSpells
import Derived.WalkLawsBesides
import Derived.Laws.OwnMore
import Derived.Maps.AppendAt
namespace Go.Proofs.YtljmgfclhbadjaaGreatDoor
open Go.RowKit
set_option linter.unusedVariables false
set_option linter.unusedSimpArgs false
open Cm (Wr Tm co bf Ls lf ins Eqm)
namespace Ci
set_option maxRecDepth 100000
set_option maxHeartbeats 4000000
structure Gs (S : Nat → Prop) (x y : World) : Prop where
 os : y.os = x.os
 tape : y.tape = x.tape
 output : y.output = x.output
 size : x.heap.size ≤ y.heap.size
 block : ∀ i, i < x.heap.size → ¬ S i → y.heap[i]? = x.heap[i]?
def Sk (S S' : Nat → Prop) (x : World) : Prop := ∀ i, S' i → S i ∨ x.heap.size ≤ i
def Out (S : Nat → Prop) (v : Value) : Prop := ∀ k, v.ownBlock = some k → ¬ S k
section
variable {S S1 S2 : Nat → Prop} {x y z : World}
theorem Gs.refl : Gs S x x := ⟨rfl, rfl, rfl, Nat.le_refl _, fun _ _ _ => rfl⟩
theorem Gs.bl (h : Below x.heap.size x y) : Gs S x y := ⟨h.os, h.tape, h.output, h.size, fun i hi _ => h.block i hi⟩
theorem Gs.gb {r : Option Nat} (h : x.grownBy y r) (hr : ∀ b, r = some b → S b) : Gs S x y := ⟨h.os, h.tape, h.output, h.size, fun i hi hn => h.block i hi (fun e => hn (hr i e.symm))⟩
theorem Sk.refl : Sk S S x := fun i h => .inl h
theorem Gs.trans (h : Gs S x y) (k : Gs S1 y z) (sk : Sk S S1 x) : Gs S x z :=
 ⟨k.os.trans h.os, k.tape.trans h.tape, k.output.trans h.output, Nat.le_trans h.size k.size, fun i hi hn => (k.block i (Nat.lt_of_lt_of_le hi h.size) (fun e => by
  rcases sk i e with e | e
  ·exact hn e
  ·omega)).trans (h.block i hi hn)⟩
theorem Sk.trans (h : Sk S S1 x) (k : Sk S1 S2 y) (hs : x.heap.size ≤ y.heap.size) : Sk S S2 x := fun i hi => by
 rcases k i hi with e | e
 ·exact h i e
 ·exact .inr (Nat.le_trans hs e)
theorem Gs.cell {a : Addr} {u : Value} (h : Gs S x y) (hc : x.cell? a = some u) (hn : ¬ S a.block) : y.cell? a = some u := by
 have hl := World.block_lt_of_cell? x a hc
 unfold World.cell? at hc ⊢
 rw [h.block _ hl hn]
 exact hc
theorem Gs.own {b n s : Nat} {e : TypeId} {v : Value} {xs : List Value} (h : Gs S x y) (ho : x.ownsRow b e s v n xs) (hn : Out S v) : y.ownsRow b e s v n xs := ⟨ho.1, by
 rcases ho.2 with k | ⟨g, c, cur, e1, e2, e3, e4⟩
 ·exact .inl k
 ·exact .inr ⟨g, c, cur, e1, e2, (h.block g (Array.getElem?_eq_some_iff.1 e3).1 (hn g (by rw [e1]; rfl))).trans e3, e4⟩⟩
theorem Out.sk {b n s : Nat} {e : TypeId} {v : Value} {xs : List Value} (h : Out S v) (ho : x.ownsRow b e s v n xs) (sk : Sk S S1 x) : Out S1 v := fun k hk h1 => by
 rcases sk k h1 with e1 | e1
 ·exact h k hk e1
 ·have := (ho.lt k hk).2
  omega
end
structure DP where
 s : Nat
 b : Nat
 vv : Value
 vs : List Value
 l : Sl
 r : Sl
 o : Sl
 v : Sl
def fn1 (b : Nat) : Value := .func (.func 137) #[] #[.pointer (some ⟨b, 0, none⟩)]
def fn2 (b : Nat) : Value := .func (.func 139) #[] #[.pointer (some ⟨b, 0, none⟩)]
def fn3 (b : Nat) : Value := .func (.func 141) #[] #[.pointer (some ⟨b, 0, none⟩)]
def fn4 (b : Nat) : Value := .func (.func 143) #[] #[.pointer (some ⟨b, 0, none⟩)]
structure Dk (S : Nat → Prop) (d m K : Nat) (Q : List (List Tm)) (p : DP) (e : Int) (x : World) : Prop where
 hd : x.heap[d]? = some (.cells #[.pointer (some ⟨p.s, 0, none⟩), fn1 p.b, fn2 p.b, fn3 p.b, fn4 p.b, .int .i64 e] 111 (0, 0))
 sy : Sy 0 x p.s m K p.vv p.vs Q
 bx : x.heap[p.b]? = some (.cells #[.slice p.l.p p.l.n p.l.c, .slice p.r.p p.r.n p.r.c, .slice p.o.p p.o.n p.o.c, .slice p.v.p p.v.n p.v.c] 43 (0, 0))
 wk : Wk m K Q
 pd : S d
 ps : S p.s
 pv : ∀ k, p.vv.ownBlock = some k → S k
 pb : S p.b
 lt : ∀ i, S i → i < x.heap.size
section
variable {S : Nat → Prop} {d m K : Nat} {Q : List (List Tm)} {p : DP} {e : Int} {x y : World}
theorem Dk.keep (h : Dk S d m K Q p e x) (hb : Below x.heap.size x y) : Dk S d m K Q p e y :=
 ⟨(hb.block d (h.lt d h.pd)).trans h.hd, h.sy.keep hb, (hb.block p.b (h.lt _ h.pb)).trans h.bx, h.wk, h.pd, h.ps, h.pv, h.pb, fun i hi => Nat.lt_of_lt_of_le (h.lt i hi) hb.size⟩
theorem Dk.c (h : Dk S d m K Q p e x) (j : Nat) : x.cell? ⟨d, j, none⟩ = (#[.pointer (some ⟨p.s, 0, none⟩), fn1 p.b, fn2 p.b, fn3 p.b, fn4 p.b, .int .i64 e] : Array Value)[j]? := cell_of_row x d j _ _ (0, 0) h.hd
end
end Ci
end Go.Proofs.YtljmgfclhbadjaaGreatDoor
namespace Go.Proofs.YtljmgfclhbadjaaGreatDoor
open Go.RowKit
set_option linter.unusedVariables false
namespace Ci
def nth : List Value → Nat → Value
 | [], _ => undef
 | x :: _, 0 => x
 | _ :: l, n + 1 => nth l n
theorem sA {α : Type} (l : List α) (i : Nat) (a : α) : l.toArray.setIfInBounds i a = (l.set i a).toArray := List.setIfInBounds_toArray ..
theorem sB {α : Type} (a b : α) (l : List α) : (a :: l).set 0 b = b :: l := rfl
theorem sC {α : Type} (a b : α) (l : List α) (n : Nat) : (a :: l).set (n + 1) b = a :: l.set n b := rfl
def up (F : Nat → Bool) (i : Nat) : Nat → Bool := fun k => if k = i then true else F k
theorem uT {F : Nat → Bool} {i k : Nat} (h : F k = true) : up F i k = true := by
 unfold up
 split
 ·rfl
 ·exact h
theorem uN (i : Nat) {F : Nat → Bool} {k : Nat} (h : F k = false) (e : Nat.beq k i = false := by rfl) : up F i k = false := by
 unfold up
 rw [if_neg (Nat.ne_of_beq_eq_false e)]
 exact h
theorem tf {b : Bool} {p : Prop} (h : b = true) (g : b = false) : p := by rw [h] at g; cases g
theorem tr {p : Prop} (h : true = false) : p := by cases h
theorem tr2 {p : Prop} (h : false = true) : p := by cases h
def sel (b : Bool) (x y : Value) : Value := bif b then x else y
theorem selT (x y : Value) : sel true x y = x := rfl
theorem selF (x y : Value) : sel false x y = y := rfl
def dp (md : Region.Mode) (ops : Array Oper) (i : Nat) : List Nat := ((ops[i]?).map (fun o => (o.after.toList.filter (Region.binds md)).map (·.on))).getD []
def clo (md : Region.Mode) (ops : Array Oper) (F : Nat → Bool) : Prop := ∀ i k, (dp md ops i).contains k = true → F i = true → F k = true
def ordB (md : Region.Mode) (ops : Array Oper) : Bool := (List.range ops.size).all fun i => (dp md ops i).all fun k => decide (k < i)
theorem nf {F : Nat → Bool} {i j : Nat} (h : F i = false) (f : F j = true → F i = true) : F j = false := by
 cases e : F j with
 | false => rfl
 | true => rw [f e] at h; cases h
def rs (md : Region.Mode) (ops : Array Oper) : Nat → List Nat → List Nat
 | 0, l => l
 | n + 1, l => rs md ops n (l ++ l.flatMap (dp md ops)).eraseDups
theorem rs_ok {md : Region.Mode} {ops : Array Oper} {F : Nat → Bool} (cl : clo md ops F) : ∀ (n : Nat) (l : List Nat), (∀ k ∈ l, F k = true) → ∀ k ∈ rs md ops n l, F k = true
 | 0, l, h => h
 | n + 1, l, h => rs_ok cl n _ (fun k hk => by
  rw [List.mem_eraseDups, List.mem_append, List.mem_flatMap] at hk
  rcases hk with hk | ⟨j, hj, hk⟩
  ·exact h k hk
  ·exact cl j k (by simpa using hk) (h j hj))
theorem nT {md : Region.Mode} {ops : Array Oper} {F : Nat → Bool} {i : Nat} (hz : F i = false) (cl : clo md ops F) (k : Nat) (h : (rs md ops ops.size (dp md ops k)).contains i = true := by kernel_rfl) : F k = false :=
 nf hz (fun hk => rs_ok cl _ _ (fun j hj => cl k j (by simpa using hj) hk) i (by simpa using h))
section
variable {P : Program} {ops : Array Oper} {Q : Exit → Act → World → Prop} {md : Region.Mode}
theorem mem_ready {listed : Array Bool} {i : Nat} (h : i ∈ Region.ready md ops listed) : i < ops.size ∧ listed.getD i true = false ∧ ∀ k, (dp md ops i).contains k = true → listed.getD k false = true := by
 unfold Region.ready at h
 rw [List.mem_filter, List.mem_range, Bool.and_eq_true] at h
 obtain ⟨h1, h2, h3⟩ := h
 refine ⟨h1, by simpa using h2, fun k hk => ?_⟩
 have ho : ops[i]? = some ops[i] := Array.getElem?_eq_getElem h1
 rw [ho] at h3
 simp only [Option.map_some, Option.getD_some] at h3
 have hk' : k ∈ dp md ops i := by simpa using hk
 unfold dp at hk'
 rw [ho] at hk'
 simp only [Option.map_some, Option.getD_some, List.mem_map, List.mem_filter] at hk'
 obtain ⟨e, ⟨e1, e2⟩, rfl⟩ := hk'
 have := Array.all_eq_true_iff_forall_mem.1 h3 e (by simpa using e1)
 simpa [e2] using this
theorem ready_mem {listed : Array Bool} {i : Nat} (h1 : i < ops.size) (h2 : listed.getD i true = false) (h3 : ∀ k, (dp md ops i).contains k = true → listed.getD k false = true) : i ∈ Region.ready md ops listed := by
 unfold Region.ready
 rw [List.mem_filter, List.mem_range, Bool.and_eq_true]
 refine ⟨h1, by simp [h2], ?_⟩
 have ho : ops[i]? = some ops[i] := Array.getElem?_eq_getElem h1
 rw [ho]
 simp only [Option.map_some, Option.getD_some]
 refine Array.all_eq_true_iff_forall_mem.2 fun e he => ?_
 cases hb : Region.binds md e with
 | false => rfl
 | true =>
  have : e.on ∈ dp md ops i := by
   unfold dp
   rw [ho]
   simp only [Option.map_some, Option.getD_some, List.mem_map, List.mem_filter]
   exact ⟨e, ⟨by simpa using he, hb⟩, rfl⟩
  simp [h3 e.on (by simpa using this)]
theorem getD_tf {listed : Array Bool} {i : Nat} (h : i < listed.size) : listed.getD i true = listed.getD i false := by
 simp [Array.getD, h]
theorem getD_up {listed : Array Bool} {i : Nat} (h : i < listed.size) : (fun k => (listed.setIfInBounds i true).getD k false) = up (fun k => listed.getD k false) i := by
 funext k
 unfold up
 by_cases e : k = i
 ·subst e
  rw [if_pos rfl]
  simp [Array.getD, h]
 ·rw [if_neg e]
  by_cases hk : k < listed.size
  ·simp [Array.getD, hk, Ne.symm e]
  ·simp [Array.getD, hk]
theorem sym (hord : ordB md ops = true) (Inv : (Nat → Bool) → Act → World → Prop)
  (step : ∀ F i a w, i < ops.size → F i = false → (∀ k, (dp md ops i).contains k = true → F k = true) → clo md ops F → Inv F a w → wpOp P ops Q i (fun a' w' => Inv (up F i) a' w') a w)
  (fin : ∀ F a w, (∀ i, i < ops.size → F i = true) → Inv F a w → Q .normal a w) :
  ∀ fuel (listed : Array Bool) a w, listed.size = ops.size → listed.toList.countP (fun b => !b) ≤ fuel → clo md ops (fun k => listed.getD k false) → Inv (fun k => listed.getD k false) a w → wpAnyH P md ops Q (fun _ => True) fuel listed a w := by
 have all : ∀ listed : Array Bool, listed.size = ops.size → Region.ready md ops listed = [] → ∀ i, i < ops.size → listed.getD i false = true := by
  intro listed hs hr i
  induction i using Nat.strongRecOn with
  | ind i ih =>
   intro hi
   cases hb : listed.getD i false with
   | true => rfl
   | false =>
    have hm : i ∈ Region.ready md ops listed := ready_mem hi (by rw [getD_tf (by omega)]; exact hb) (fun k hk => by
     have h1 := List.all_eq_true.1 hord i (List.mem_range.2 hi)
     have h2 := List.all_eq_true.1 h1 k (by simpa using hk)
     have h3 : k < i := of_decide_eq_true h2
     exact ih k h3 (by omega))
    rw [hr] at hm
    cases hm
 intro fuel
 induction fuel with
 | zero =>
  intro listed a w hs hc hcl hI
  have hl : ∀ i, i < ops.size → listed.getD i false = true := fun i hi => by
   have h0 : listed.toList.countP (fun b => !b) = 0 := by omega
   rw [List.countP_eq_zero] at h0
   have hi' : i < listed.size := by omega
   have := h0 listed[i] (by simp)
   simp only [Array.getD, hi', dite_true]
   simpa using this
  refine ⟨?_, fin _ _ _ hl hI⟩
  refine List.eq_nil_iff_forall_not_mem.2 fun i hm => ?_
  obtain ⟨h1, h2, _⟩ := mem_ready hm
  rw [getD_tf (by omega), hl i h1] at h2
  cases h2
 | succ n ih =>
  intro listed a w hs hc hcl hI
  refine ⟨fun hr => fin _ _ _ (all listed hs hr) hI, fun i hm => ?_⟩
  obtain ⟨h1, h2, h3⟩ := mem_ready hm
  have h2' : listed.getD i false = false := by rw [← getD_tf (by omega)]; exact h2
  have hst := step (fun k => listed.getD k false) i a w h1 h2' h3 hcl hI
  have hu := getD_up (listed := listed) (i := i) (by omega)
  refine wpOp_mono (fun a' w' hI' => ⟨trivial, ih _ a' w' (by simp [hs]) ?_ ?_ (by rw [hu]; exact hI')⟩) hst
  ·have hi' : i < listed.toList.length := by simp; omega
   have hv : listed.toList[i] = false := by
    have : i < listed.size := by omega
    simp only [Array.getD, this, dite_true] at h2'
    simpa using h2'
   rw [Array.toList_setIfInBounds, List.countP_set hi', hv]
   have e1 : (if (!false) = true then 1 else 0) = 1 := rfl
   have e2 : (if (!true) = true then 1 else 0) = 0 := rfl
   rw [e1, e2]
   omega
  ·rw [hu]
   intro j k hk hj
   unfold up at hj ⊢
   by_cases e : k = i
   ·rw [if_pos e]
   ·rw [if_neg e]
    by_cases e2 : j = i
    ·subst e2
     exact h3 k hk
    ·rw [if_neg e2] at hj
     exact hcl j k hk hj
end
theorem rep0 {n : Nat} (k : Nat) : (Array.replicate n false).getD k false = false := by
 by_cases h : k < n
 ·simp [Array.getD, h]
 ·simp [Array.getD, h]
theorem clo0 {md : Region.Mode} {ops : Array Oper} {n : Nat} : clo md ops (fun k => (Array.replicate n false).getD k false) := fun i k _ h => by
 simp only [rep0] at h
 cases h
theorem wp_val {P : Program} {w : World} {o : Oper} {a : Act} {K : Act → World → Prop} {Q : Exit → Act → World → Prop} (v : Value) (h : (execOp a.eval o).run P w = .ok (.value v) w) (hk : K (a.put o.dst v) w) : o.wp P a w K Q := by
 unfold Oper.wp
 rw [h]
 exact hk
theorem wpOp_val {P : Program} {ops : Array Oper} {Q : Exit → Act → World → Prop} {i : Nat} {K : Act → World → Prop} {a : Act} {w : World} (o : Oper) (v : Value) (ho : ops[i]? = some o) (hw : Region.wanted o (yielded ops a.tmps) = true) (hr : (execOp a.eval o).run P w = .ok (.value v) w) (hk : K (a.put o.dst v) w) : wpOp P ops Q i K a w :=
 wpOp_step ho (fun K' hK => by rw [if_pos hw]; exact wp_val v hr (hK _ _ hk))
end Ci
end Go.Proofs.YtljmgfclhbadjaaGreatDoor
namespace Go.Proofs.YtljmgfclhbadjaaGreatDoor
open Go.RowKit
set_option linter.unusedVariables false
set_option linter.unusedSimpArgs false
open Cm (Wr Tm co bf Ls lf ins Eqm)
namespace Ci
set_option maxRecDepth 100000
set_option maxHeartbeats 8000000
def Dj (a b : Value) : Prop := ∀ k, a.ownBlock = some k → b.ownBlock ≠ some k
theorem Dj.symm {a b : Value} (h : Dj a b) : Dj b a := fun k hk e => h k e hk
def s4s (n : Nat) (g : Nat → E4) : List Value := (List.range n).flatMap fun k => [.int .u64 (g k).x0, .int .u64 (g k).x1, .int .u64 (g k).x2, .int .u64 (g k).x3]
theorem s4s_succ (n : Nat) (g : Nat → E4) : s4s (n + 1) g = s4s n g ++ [.int .u64 (g n).x0, .int .u64 (g n).x1, .int .u64 (g n).x2, .int .u64 (g n).x3] := by simp [s4s, List.range_succ]
theorem s4s_congr {n : Nat} {f g : Nat → E4} (h : ∀ k, k < n → f k = g k) : s4s n f = s4s n g := by
 induction n with
 | zero => rfl
 | succ n ih => rw [s4s_succ, s4s_succ, ih (fun k hk => h k (by omega)), h n (by omega)]
theorem s4s_len (n : Nat) (g : Nat → E4) : (s4s n g).length = n * 4 := by
 induction n with
 | zero => rfl
 | succ n ih => rw [s4s_succ, List.length_append, ih]; simp; omega
theorem s4s_get (n : Nat) (g : Nat → E4) (k j : Nat) (hk : k < n) (hj : j < 4) : (s4s n g)[k * 4 + j]? = ([.int .u64 (g k).x0, .int .u64 (g k).x1, .int .u64 (g k).x2, .int .u64 (g k).x3] : List Value)[j]? := by
 induction n with
 | zero => omega
 | succ n ih =>
  rw [s4s_succ]
  by_cases h : k < n
  ·rw [List.getElem?_append_left (by rw [s4s_len]; omega)]
   exact ih h
  ·obtain rfl : k = n := by omega
   rw [List.getElem?_append_right (by rw [s4s_len]; omega), s4s_len, show k * 4 + j - k * 4 = j by omega]
theorem own_at {x : World} {b0 : Nat} {n : Nat} {s : Sl} (h : x.ownsRow b0 53 4 s.v n (s4s n s.g) ∧ ∀ k, k < n → (s.g k).ok) (hn : s.n = n) : s.at x := by
 obtain ⟨ho, hg⟩ := h
 obtain ⟨P, n', cc, g⟩ := s
 obtain rfl : n' = n := hn
 rcases ho.2 with ⟨h1, h2⟩ | ⟨gb, c', cur, h1, hle, _⟩
 ·subst h2
  exact ⟨⟨0, 0, fun h => absurd h (Nat.lt_irrefl 0), fun h => absurd h (Nat.lt_irrefl 0)⟩, hg⟩
 ·have hp : P = some ⟨gb, 0, none⟩ := by
   have h1' : Value.slice P n' cc = .slice (some ⟨gb, 0, none⟩) n' c' := h1
   simp only [Value.slice.injEq] at h1'
   exact h1'.1
  have key : ∀ k j u, k < n' → ([.int .u64 (g k).x0, .int .u64 (g k).x1, .int .u64 (g k).x2, .int .u64 (g k).x3] : List Value)[j]? = some u → x.cell? ⟨gb, 0 + k * 4 + j, none⟩ = some u := fun k j u hk hu => by
   have hj : j < 4 := by have := (List.getElem?_eq_some_iff.1 hu).1; simpa using this
   have := ho.cells (g := gb) (by rw [h1]; rfl) (k * 4 + j) u (by rw [s4s_get n' g k j hk hj]; exact hu)
   rw [Addr.add_mid] at this
   rw [Nat.add_assoc]
   exact this
  exact ⟨⟨gb, 0, fun _ => hp, fun _ => ⟨fun k hk => key k 0 _ hk rfl, fun k hk => key k 1 _ hk rfl, fun k hk => key k 2 _ hk rfl, fun k hk => key k 3 _ hk rfl⟩⟩, hg⟩
theorem wp_appG {P : Program} {w : World} {o : Oper} {a : Act} {K : Act → World → Prop} {Q : Exit → Act → World → Prop} (s x : Operand) (t : TypeId)
  (ho : o.op = .call { callee := .builtin .append, args := #[s, x], argTypes := #[t, t] })
  (base : Nat) (e : TypeId) (i : TypeInfo) (z : Value) (size bytes : Nat) (ht : P.underlying t = some (.slice e)) (hi : P.info? e = some i) (hz : i.zero = some z)
  (hsize : i.size = size) (hby : i.bytes = bytes) (hzs : z.cells.size = size) (hsz : 0 < size)
  (v : Value) (n : Nat) (xs : List Value) (hs : a.eval s = v) (hown : w.ownsRow base e size v n xs)
  (ad : Addr) (m c : Nat) (news : List Value) (hx : a.eval x = .slice (some ad) m c) (hl : news.length = m * size) (hnews : ∀ j u, news[j]? = some u → w.cell? (ad.add j) = some u) (h1 : ∀ u ∈ news, u.oneCell' = true)
  (h63 : n + m ≤ maxLen) (hbytes : (n + m) * bytes ≤ 140737488355328) (hbase : base ≤ w.heap.size)
  (h : ∀ v' w', w'.ownsRow base e size v' (n + m) (xs ++ news) → w.grownBy w' v.ownBlock → (v'.ownBlock = v.ownBlock ∨ v'.ownBlock = some w.heap.size) → K (a.put o.dst v') w') : o.wp P a w K Q := by
 obtain ⟨v', w', hr, h2, h3, h4, h5⟩ := run_append_own_at (P := P) w base t o.type e i z size bytes ht hi hz hsize hby hzs hsz v n xs hown ad m c news hl hnews h1 h63 hbytes hbase
 unfold Oper.wp execOp
 simp only [ho, resolve, invoke, builtin, Sem.run_bind, Sem.run_pure, Result.andThen_ok, List.map_toArray, List.map_cons, List.map_nil, hs, hx, hr]
 exact h v' w' h2 h3 h5
theorem loadS (w : World) (b o : Nat) (p : Option Addr) (n c : Nat) (hc : w.cell? ⟨b, o, none⟩ = some (.slice p n c)) : (loadVar 41 ⟨b, o, none⟩).run Tryz.prog w = .ok (.slice p n c) w := by
 have ha : (isAgg 41).run Tryz.prog w = .ok false w := by kernel_rfl
 unfold loadVar
 simp only [Sem.run_bind, ha, Result.andThen_ok, Bool.false_eq_true, if_false]
 simp [go_sem, hc]
theorem i1_S : (Tryz.prog.info? 41).map (·.size) = some 1 := by kernel_rfl
theorem range_lt {w : World} {b : Nat} {c : Value} {cs : List Value} (h : w.rangeAt b 0 (c :: cs)) : b < w.heap.size := World.block_lt_of_cell? w _ (h 0 c rfl)
theorem build1P (p : E4) (w : World) : (Instr.buildSlice 41 1 #[(0, .agg #[.int .u64 p.x0, .int .u64 p.x1, .int .u64 p.x2, .int .u64 p.x3])]).run Tryz.prog w = .ok (.slice (some ⟨w.heap.size, 0, none⟩) 1 1) (w.alloc (.cells #[.int .u64 p.x0, .int .u64 p.x1, .int .u64 p.x2, .int .u64 p.x3] 53)) := by kernel_rfl
theorem wp_build1P {w : World} {o : Oper} {a : Act} {K : Act → World → Prop} {Q : Exit → Act → World → Prop} (x0 : Operand) (ho : o.op = .buildSlice 41 1 #[(0, x0)]) (p : E4) (h0 : a.eval x0 = .agg #[.int .u64 p.x0, .int .u64 p.x1, .int .u64 p.x2, .int .u64 p.x3]) (h : ∀ (tb : Nat) (wq : World), tb = w.heap.size → wq = w.alloc (.cells #[.int .u64 p.x0, .int .u64 p.x1, .int .u64 p.x2, .int .u64 p.x3] 53) → K (a.put o.dst (.slice (some ⟨tb, 0, none⟩) 1 1)) wq) : o.wp Tryz.prog a w K Q := by
 have hr := build1P p w
 unfold Oper.wp execOp
 simp only [ho, Sem.run_bind, Sem.run_pure, Result.andThen_ok, List.map_toArray, List.map_cons, List.map_nil, h0, hr]
 exact h _ _ rfl rfl
def snc (n : Nat) (z : E4) (g : Nat → E4) : Nat → E4 := fun j => if j = n then z else g j
theorem s4s_snc (n : Nat) (z : E4) (g : Nat → E4) : s4s (n + 1) (snc n z g) = s4s n g ++ [.int .u64 z.x0, .int .u64 z.x1, .int .u64 z.x2, .int .u64 z.x3] := by
 rw [s4s_succ, s4s_congr (f := snc n z g) (g := g) (fun k hk => if_neg (by omega))]
 simp only [snc, if_true]
theorem wp_ldSl {w : World} {o : Oper} {a : Act} {K : Act → World → Prop} {Q : Exit → Act → World → Prop} (x0 : Operand) (ho : o.op = .load 41 x0) (b j : Nat) (p : Option Addr) (n c : Nat) (h0 : a.eval x0 = .pointer (some ⟨b, j, none⟩)) (hc : w.cell? ⟨b, j, none⟩ = some (.slice p n c)) (h : K (a.put o.dst (.slice p n c)) w) : o.wp Tryz.prog a w K Q := by
 have hr := loadS w b j p n c hc
 unfold Oper.wp execOp
 simp only [ho, h0, Instr.loadAt, Instr.sureAddr, Sem.run_bind, Sem.run_pure, Result.andThen_ok, hr]
 exact h
theorem wp_bs1 {w : World} {o : Oper} {a : Act} {K : Act → World → Prop} {Q : Exit → Act → World → Prop} (x0 : Operand) (ho : o.op = .buildSlice 41 1 #[(0, x0)]) (p : E4) (h0 : a.eval x0 = .agg #[.int .u64 p.x0, .int .u64 p.x1, .int .u64 p.x2, .int .u64 p.x3]) (h : ∀ (tb : Nat) (wq : World), Below w.heap.size w wq → wq.rangeAt tb 0 [.int .u64 p.x0, .int .u64 p.x1, .int .u64 p.x2, .int .u64 p.x3] → K (a.put o.dst (.slice (some ⟨tb, 0, none⟩) 1 1)) wq) : o.wp Tryz.prog a w K Q :=
 wp_build1P x0 ho p h0 (fun tb wq ht hw => h tb wq (by rw [hw]; exact bl_alloc _ _) (by rw [ht, hw]; exact range_newM _ _ _))
structure Ro (x : World) (s : Sl) : Prop where
 own : x.ownsRow 0 53 4 s.v s.n (s4s s.n s.g)
 ok : ∀ k, k < s.n → (s.g k).ok
 n : s.n ≤ 100000
theorem wp_apS {w : World} {o : Oper} {a : Act} {K : Act → World → Prop} {Q : Exit → Act → World → Prop} (s : Sl) (hr : Ro w s) (x0 x1 : Operand) (ho : o.op = .call { callee := .builtin .append, args := #[x0, x1], argTypes := #[41, 41] }) (h0 : a.eval x0 = .slice s.p s.n s.c) (tb : Nat) (h1 : a.eval x1 = .slice (some ⟨tb, 0, none⟩) 1 1) (z : E4) (hc : w.rangeAt tb 0 [.int .u64 z.x0, .int .u64 z.x1, .int .u64 z.x2, .int .u64 z.x3])
  (h : ∀ (p : Option Addr) (c : Nat) (wq : World), wq.ownsRow 0 53 4 (.slice p (s.n + 1) c) (s.n + 1) (s4s (s.n + 1) (snc s.n z s.g)) → w.grownBy wq s.v.ownBlock → (∀ k, (Value.slice p (s.n + 1) c).ownBlock = some k → s.v.ownBlock = some k ∨ w.heap.size ≤ k) → K (a.put o.dst (.slice p (s.n + 1) c)) wq) : o.wp Tryz.prog a w K Q := by
 have HI : (Tryz.prog.info? 53) = some (Tryz.prog.info? 53).get! := by kernel_rfl
 have hn := hr.n
 refine wp_appG x0 x1 41 ho 0 53 _ (.agg #[.int .u64 0, .int .u64 0, .int .u64 0, .int .u64 0]) 4 32 (by kernel_rfl) HI (by kernel_rfl) (by kernel_rfl) (by kernel_rfl) rfl (by decide) s.v s.n (s4s s.n s.g) h0 hr.own ⟨tb, 0, none⟩ 1 1 [.int .u64 z.x0, .int .u64 z.x1, .int .u64 z.x2, .int .u64 z.x3] h1 rfl (fun d u hu => by rw [Addr.add_mid]; exact hc d u hu) (by simp [Value.oneCell']) (by unfold maxLen; omega) (by omega) (Nat.zero_le _) (fun v' w' k1 k2 k3 => ?_)
 rw [← s4s_snc] at k1
 obtain ⟨p, c, e⟩ : ∃ p c, v' = .slice p (s.n + 1) c := by
  rcases k1.2 with ⟨_, e2⟩ | ⟨g, c, cur, e1, _⟩
  ·omega
  ·exact ⟨_, _, e1⟩
 subst e
 refine h p c w' k1 k2 (fun k hk => ?_)
 rcases k3 with k3 | k3
 ·rw [k3] at hk; exact .inl hk
 ·rw [k3] at hk; exact .inr (by rw [← Option.some.inj hk]; exact Nat.le_refl _)
end Ci
end Go.Proofs.YtljmgfclhbadjaaGreatDoor
