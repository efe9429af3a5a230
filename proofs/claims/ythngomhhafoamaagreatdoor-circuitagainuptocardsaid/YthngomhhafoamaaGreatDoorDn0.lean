import Derived.Test.YthngomhhafoamaaGreatDoorTk
import Derived.Test.YthngomhhafoamaaGreatDoorProg
namespace Go.Proofs.YthngomhhafoamaaGreatDoor
open Go.RowKit
set_option linter.unusedVariables false
namespace Ci
def nth : List Value → Nat → Value
 | [], _ => undef
 | x :: _, 0 => x
 | _ :: l, n + 1 => nth l n
theorem sA {α : Type} (l : List α) (i : Nat) (a : α) : l.toArray.setIfInBounds i a = (l.set i a).toArray := List.setIfInBounds_toArray ..
theorem sB {α : Type} (a b : α) (l : List α) : (a :: l).set 0 b = b :: l := rfl
theorem sC {α : Type} (a b : α) (l : List α) (n : Nat) : (a :: l).set (n + 1) b = a :: l.set n b := rfl
def up (F : Nat → Bool) (i : Nat) : Nat → Bool := fun k => if k = i then true else F k
theorem uT {F : Nat → Bool} {i k : Nat} (h : F k = true) : up F i k = true := by
 unfold up
 split
 ·rfl
 ·exact h
theorem uS (F : Nat → Bool) (i : Nat) : up F i i = true := if_pos rfl
theorem uN (i : Nat) {F : Nat → Bool} {k : Nat} (h : F k = false) (e : Nat.beq k i = false := by rfl) : up F i k = false := by
 unfold up
 rw [if_neg (Nat.ne_of_beq_eq_false e)]
 exact h
theorem tf {b : Bool} {p : Prop} (h : b = true) (g : b = false) : p := by rw [h] at g; cases g
theorem tr {p : Prop} (h : true = false) : p := by cases h
theorem tr2 {p : Prop} (h : false = true) : p := by cases h
def sel (b : Bool) (x y : Value) : Value := bif b then x else y
theorem selT (x y : Value) : sel true x y = x := rfl
theorem selF (x y : Value) : sel false x y = y := rfl
def dp (md : Region.Mode) (ops : Array Oper) (i : Nat) : List Nat := ((ops[i]?).map (fun o => (o.after.toList.filter (Region.binds md)).map (·.on))).getD []
def clo (md : Region.Mode) (ops : Array Oper) (F : Nat → Bool) : Prop := ∀ i k, (dp md ops i).contains k = true → F i = true → F k = true
def ordB (md : Region.Mode) (ops : Array Oper) : Bool := (List.range ops.size).all fun i => (dp md ops i).all fun k => decide (k < i)
theorem nf {F : Nat → Bool} {i j : Nat} (h : F i = false) (f : F j = true → F i = true) : F j = false := by
 cases e : F j with
 | false => rfl
 | true => rw [f e] at h; cases h
def rs (md : Region.Mode) (ops : Array Oper) : Nat → List Nat → List Nat
 | 0, l => l
 | n + 1, l => rs md ops n (l ++ l.flatMap (dp md ops)).eraseDups
theorem rs_ok {md : Region.Mode} {ops : Array Oper} {F : Nat → Bool} (cl : clo md ops F) : ∀ (n : Nat) (l : List Nat), (∀ k ∈ l, F k = true) → ∀ k ∈ rs md ops n l, F k = true
 | 0, l, h => h
 | n + 1, l, h => rs_ok cl n _ (fun k hk => by
  rw [List.mem_eraseDups, List.mem_append, List.mem_flatMap] at hk
  rcases hk with hk | ⟨j, hj, hk⟩
  ·exact h k hk
  ·exact cl j k (by simpa using hk) (h j hj))
theorem dT {md : Region.Mode} {ops : Array Oper} {F : Nat → Bool} {i : Nat} (hd : ∀ k, (dp md ops i).contains k = true → F k = true) (cl : clo md ops F) (k : Nat) (h : (rs md ops ops.size (dp md ops i)).contains k = true := by kernel_rfl) : F k = true :=
 rs_ok cl _ _ (fun j hj => hd j (by simpa using hj)) k (by simpa using h)
theorem nT {md : Region.Mode} {ops : Array Oper} {F : Nat → Bool} {i : Nat} (hz : F i = false) (cl : clo md ops F) (k : Nat) (h : (rs md ops ops.size (dp md ops k)).contains i = true := by kernel_rfl) : F k = false :=
 nf hz (fun hk => rs_ok cl _ _ (fun j hj => cl k j (by simpa using hj) hk) i (by simpa using h))
section
variable {P : Program} {ops : Array Oper} {Q : Exit → Act → World → Prop} {md : Region.Mode}
theorem mem_ready {listed : Array Bool} {i : Nat} (h : i ∈ Region.ready md ops listed) : i < ops.size ∧ listed.getD i true = false ∧ ∀ k, (dp md ops i).contains k = true → listed.getD k false = true := by
 unfold Region.ready at h
 rw [List.mem_filter, List.mem_range, Bool.and_eq_true] at h
 obtain ⟨h1, h2, h3⟩ := h
 refine ⟨h1, by simpa using h2, fun k hk => ?_⟩
 have ho : ops[i]? = some ops[i] := Array.getElem?_eq_getElem h1
 rw [ho] at h3
 simp only [Option.map_some, Option.getD_some] at h3
 have hk' : k ∈ dp md ops i := by simpa using hk
 unfold dp at hk'
 rw [ho] at hk'
 simp only [Option.map_some, Option.getD_some, List.mem_map, List.mem_filter] at hk'
 obtain ⟨e, ⟨e1, e2⟩, rfl⟩ := hk'
 have := Array.all_eq_true_iff_forall_mem.1 h3 e (by simpa using e1)
 simpa [e2] using this
theorem ready_mem {listed : Array Bool} {i : Nat} (h1 : i < ops.size) (h2 : listed.getD i true = false) (h3 : ∀ k, (dp md ops i).contains k = true → listed.getD k false = true) : i ∈ Region.ready md ops listed := by
 unfold Region.ready
 rw [List.mem_filter, List.mem_range, Bool.and_eq_true]
 refine ⟨h1, by simp [h2], ?_⟩
 have ho : ops[i]? = some ops[i] := Array.getElem?_eq_getElem h1
 rw [ho]
 simp only [Option.map_some, Option.getD_some]
 refine Array.all_eq_true_iff_forall_mem.2 fun e he => ?_
 cases hb : Region.binds md e with
 | false => rfl
 | true =>
  have : e.on ∈ dp md ops i := by
   unfold dp
   rw [ho]
   simp only [Option.map_some, Option.getD_some, List.mem_map, List.mem_filter]
   exact ⟨e, ⟨by simpa using he, hb⟩, rfl⟩
  simp [h3 e.on (by simpa using this)]
theorem getD_tf {listed : Array Bool} {i : Nat} (h : i < listed.size) : listed.getD i true = listed.getD i false := by
 simp [Array.getD, h]
theorem getD_up {listed : Array Bool} {i : Nat} (h : i < listed.size) : (fun k => (listed.setIfInBounds i true).getD k false) = up (fun k => listed.getD k false) i := by
 funext k
 unfold up
 by_cases e : k = i
 ·subst e
  rw [if_pos rfl]
  simp [Array.getD, h]
 ·rw [if_neg e]
  by_cases hk : k < listed.size
  ·simp [Array.getD, hk, Ne.symm e]
  ·simp [Array.getD, hk]
theorem sym (hord : ordB md ops = true) (Inv : (Nat → Bool) → Act → World → Prop)
  (step : ∀ F i a w, i < ops.size → F i = false → (∀ k, (dp md ops i).contains k = true → F k = true) → clo md ops F → Inv F a w → wpOp P ops Q i (fun a' w' => Inv (up F i) a' w') a w)
  (fin : ∀ F a w, (∀ i, i < ops.size → F i = true) → Inv F a w → Q .normal a w) :
  ∀ fuel (listed : Array Bool) a w, listed.size = ops.size → listed.toList.countP (fun b => !b) ≤ fuel → clo md ops (fun k => listed.getD k false) → Inv (fun k => listed.getD k false) a w → wpAnyH P md ops Q (fun _ => True) fuel listed a w := by
 have all : ∀ listed : Array Bool, listed.size = ops.size → Region.ready md ops listed = [] → ∀ i, i < ops.size → listed.getD i false = true := by
  intro listed hs hr i
  induction i using Nat.strongRecOn with
  | ind i ih =>
   intro hi
   cases hb : listed.getD i false with
   | true => rfl
   | false =>
    have hm : i ∈ Region.ready md ops listed := ready_mem hi (by rw [getD_tf (by omega)]; exact hb) (fun k hk => by
     have h1 := List.all_eq_true.1 hord i (List.mem_range.2 hi)
     have h2 := List.all_eq_true.1 h1 k (by simpa using hk)
     have h3 : k < i := of_decide_eq_true h2
     exact ih k h3 (by omega))
    rw [hr] at hm
    cases hm
 intro fuel
 induction fuel with
 | zero =>
  intro listed a w hs hc hcl hI
  have hl : ∀ i, i < ops.size → listed.getD i false = true := fun i hi => by
   have h0 : listed.toList.countP (fun b => !b) = 0 := by omega
   rw [List.countP_eq_zero] at h0
   have hi' : i < listed.size := by omega
   have := h0 listed[i] (by simp)
   simp only [Array.getD, hi', dite_true]
   simpa using this
  refine ⟨?_, fin _ _ _ hl hI⟩
  refine List.eq_nil_iff_forall_not_mem.2 fun i hm => ?_
  obtain ⟨h1, h2, _⟩ := mem_ready hm
  rw [getD_tf (by omega), hl i h1] at h2
  cases h2
 | succ n ih =>
  intro listed a w hs hc hcl hI
  refine ⟨fun hr => fin _ _ _ (all listed hs hr) hI, fun i hm => ?_⟩
  obtain ⟨h1, h2, h3⟩ := mem_ready hm
  have h2' : listed.getD i false = false := by rw [← getD_tf (by omega)]; exact h2
  have hst := step (fun k => listed.getD k false) i a w h1 h2' h3 hcl hI
  have hu := getD_up (listed := listed) (i := i) (by omega)
  refine wpOp_mono (fun a' w' hI' => ⟨trivial, ih _ a' w' (by simp [hs]) ?_ ?_ (by rw [hu]; exact hI')⟩) hst
  ·have hi' : i < listed.toList.length := by simp; omega
   have hv : listed.toList[i] = false := by
    have : i < listed.size := by omega
    simp only [Array.getD, this, dite_true] at h2'
    simpa using h2'
   rw [Array.toList_setIfInBounds, List.countP_set hi', hv]
   have e1 : (if (!false) = true then 1 else 0) = 1 := rfl
   have e2 : (if (!true) = true then 1 else 0) = 0 := rfl
   rw [e1, e2]
   omega
  ·rw [hu]
   intro j k hk hj
   unfold up at hj ⊢
   by_cases e : k = i
   ·rw [if_pos e]
   ·rw [if_neg e]
    by_cases e2 : j = i
    ·subst e2
     exact h3 k hk
    ·rw [if_neg e2] at hj
     exact hcl j k hk hj
end
theorem rep0 {n : Nat} (k : Nat) : (Array.replicate n false).getD k false = false := by
 by_cases h : k < n
 ·simp [Array.getD, h]
 ·simp [Array.getD, h]
theorem clo0 {md : Region.Mode} {ops : Array Oper} {n : Nat} : clo md ops (fun k => (Array.replicate n false).getD k false) := fun i k _ h => by
 simp only [rep0] at h
 cases h
theorem wp_val {P : Program} {w : World} {o : Oper} {a : Act} {K : Act → World → Prop} {Q : Exit → Act → World → Prop} (v : Value) (h : (execOp a.eval o).run P w = .ok (.value v) w) (hk : K (a.put o.dst v) w) : o.wp P a w K Q := by
 unfold Oper.wp
 rw [h]
 exact hk
theorem wpOp_val {P : Program} {ops : Array Oper} {Q : Exit → Act → World → Prop} {i : Nat} {K : Act → World → Prop} {a : Act} {w : World} (o : Oper) (v : Value) (ho : ops[i]? = some o) (hw : Region.wanted o (yielded ops a.tmps) = true) (hr : (execOp a.eval o).run P w = .ok (.value v) w) (hk : K (a.put o.dst v) w) : wpOp P ops Q i K a w :=
 wpOp_step ho (fun K' hK => by rw [if_pos hw]; exact wp_val v hr (hK _ _ hk))
end Ci
end Go.Proofs.YthngomhhafoamaaGreatDoor
