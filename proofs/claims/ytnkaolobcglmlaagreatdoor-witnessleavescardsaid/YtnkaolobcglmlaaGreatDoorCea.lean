import Derived.Test.YtnkaolobcglmlaaGreatDoorCmn
namespace Go.Proofs.YtnkaolobcglmlaaGreatDoor
open Go.RowKit
set_option linter.unusedVariables false
set_option linter.unusedSimpArgs false
open Cm (Wr Tm co bf Ls lf ins Eqm)
namespace Ci
set_option maxRecDepth 100000
set_option maxHeartbeats 4000000
theorem range_bl {w w' : World} {b o : Nat} {cs : List Value} (h : w.rangeAt b o cs) (hb : Below w.heap.size w w') : w'.rangeAt b o cs := fun j v hv => cell_keep (h j v hv) hb
theorem there_set {w : World} {b n : Nat} (h : w.there b 0 n) (c o : Nat) (vs : List Value) : (w.setCells c o vs).there b 0 n := fun j hj =>
 ⟨World.isSome_setCells c vs o w _ (h j hj).1, by rw [World.frozen?_setCells]; exact (h j hj).2⟩
theorem range_newM (w : World) (cs : List Value) (t : TypeId) : (w.alloc (.cells cs.toArray t)).rangeAt w.heap.size 0 cs := fun j v hv => by
 rw [cell_of_row _ _ (0 + j) cs.toArray t (0, 0) (heap_alloc_new w _), Nat.zero_add]
 simpa using hv
theorem below_tr {n : Nat} {w1 w2 w3 : World} (h1 : Below n w1 w2) (h2 : Below n w2 w3) : Below n w1 w3 := ⟨h2.os.trans h1.os, h2.tape.trans h1.tape, h2.output.trans h1.output, Nat.le_trans h1.size h2.size, fun k hk => (h2.block k hk).trans (h1.block k hk)⟩
theorem i4_s : (Tryz.prog.info? 64).map (·.size) = some 4 := by kernel_rfl
theorem one4 (p : E4) : ([.int .u64 p.x0, .int .u64 p.x1, .int .u64 p.x2, .int .u64 p.x3] : List Value).toArray.all (·.oneCell') = true := by simp [Value.oneCell']
structure R4 (w : World) (b o n : Nat) (g : Nat → E4) : Prop where
 c0 : ∀ k, k < n → w.cell? ⟨b, o + k * 4, none⟩ = some (.int .u64 (g k).x0)
 c1 : ∀ k, k < n → w.cell? ⟨b, o + k * 4 + 1, none⟩ = some (.int .u64 (g k).x1)
 c2 : ∀ k, k < n → w.cell? ⟨b, o + k * 4 + 2, none⟩ = some (.int .u64 (g k).x2)
 c3 : ∀ k, k < n → w.cell? ⟨b, o + k * 4 + 3, none⟩ = some (.int .u64 (g k).x3)
theorem R4.keep {w w' : World} {b o n : Nat} {g : Nat → E4} (h : R4 w b o n g) (hb : Below w.heap.size w w') : R4 w' b o n g := ⟨fun k hk => cell_keep (h.c0 k hk) hb, fun k hk => cell_keep (h.c1 k hk) hb, fun k hk => cell_keep (h.c2 k hk) hb, fun k hk => cell_keep (h.c3 k hk) hb⟩
structure Sl where
 p : Option Addr
 n : Nat
 c : Nat
 g : Nat → E4
def Sl.v (s : Sl) : Value := .slice s.p s.n s.c
structure Sl.at (s : Sl) (w : World) : Prop where
 at' : ∃ b o : Nat, (0 < s.n → s.p = some ⟨b, o, none⟩) ∧ (0 < s.n → R4 w b o s.n s.g)
 ok : ∀ k, k < s.n → (s.g k).ok
theorem Sl.at.keep {s : Sl} {w w' : World} (h : s.at w) (hb : Below w.heap.size w w') : s.at w' := ⟨by obtain ⟨b, o, h1, h2⟩ := h.at'; exact ⟨b, o, h1, fun hn => (h2 hn).keep hb⟩, h.ok⟩
def nw (N : Nat → Sl) (q : Wr) : E4 := (N q.1.toNat).g q.2.toNat
structure Nm (N : Nat → Sl) (q : Wr) : Prop where
 k0 : 0 ≤ q.1
 k1 : q.1 < 6
 i0 : 0 ≤ q.2
 i1 : q.2 < ((N q.1.toNat).n : Int)
def tot (h : Nat → Int) : Nat → Int
 | 0 => 0
 | i + 1 => tot h i + h i
def es (N : Nat → Sl) (f : Nat → Trm) : Nat → E4
 | 0 => ⟨0, 0, 0, 0⟩
 | i + 1 => lst ((es N f i).n + (lst ((f i).a.n * (nw N (f i).q).n)).n)
theorem es_is (N : Nat → Sl) (f : Nat → Trm) : ∀ i, es N f i = lst (tot (fun k => (f k).a.n * (nw N (f k).q).n) i)
 | 0 => by
  show (⟨0, 0, 0, 0⟩ : E4) = lst 0
  exact (int_is 0 (by unfold Sm.Wd; omega)).symm
 | i + 1 => by
  show lst ((es N f i).n + (lst ((f i).a.n * (nw N (f i).q).n)).n) = _
  have e := es_is N f i
  rw [e]
  show _ = lst (tot _ i + _)
  refine lst_congr ?_
  rw [lst_n, lst_n, Int.emod_add_emod, Int.add_emod_emod]
theorem es_ok (N : Nat → Sl) (f : Nat → Trm) (i : Nat) : (es N f i).ok := by rw [es_is]; exact lst_ok _
structure Es (w w3 : World) (sb : Nat) (r : E4) (x : World) : Prop where
 bel : Below sb w3 x
 rg : x.rangeAt sb 0 [.int .u64 r.x0, .int .u64 r.x1, .int .u64 r.x2, .int .u64 r.x3]
 th : x.there sb 0 4
end Ci
end Go.Proofs.YtnkaolobcglmlaaGreatDoor
