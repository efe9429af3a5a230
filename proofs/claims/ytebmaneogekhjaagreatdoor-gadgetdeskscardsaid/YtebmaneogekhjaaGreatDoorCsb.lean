import Derived.Test.YtebmaneogekhjaaGreatDoorCsa
namespace Go.Proofs.YtebmaneogekhjaaGreatDoor
open Go.RowKit
set_option linter.unusedVariables false
set_option linter.unusedSimpArgs false
open Cm (Wr Tm co bf Ls lf ins Eqm)
namespace Ci
set_option maxRecDepth 100000
set_option maxHeartbeats 4000000
theorem own_gb {w1 w2 : World} {base s b : Nat} {e : TypeId} {v : Value} {n : Nat} {xs : List Value} (h : w1.ownsRow base e s v n xs) (hg : w1.grownBy w2 (some b)) (hb : b < base) : w2.ownsRow base e s v n xs := by
 refine ⟨h.1, ?_⟩
 rcases h.2 with h | ⟨g, c, cur, h1, h2, h3, h4⟩
 ·exact .inl h
 ·refine .inr ⟨g, c, cur, h1, h2, ?_, h4⟩
  rw [hg.block g (Array.getElem?_eq_some_iff.1 h3).1 (fun e => by have := Option.some.inj e; omega)]
  exact h3
structure Pb (w : World) (q : Wr) (K : E4) (v : Value) (out : List Tm) (x : World) : Prop where
 own : x.ownsRow (w.heap.size + 1) 178 6 v out.length (tls out)
 bel : Below w.heap.size w x
 sz : w.heap.size + 1 ≤ x.heap.size
 r0 : x.rangeAt w.heap.size 0 [.int .i64 q.1, .int .i64 q.2]
 r1 : x.rangeAt w.heap.size 2 [.int .u64 K.x0, .int .u64 K.x1, .int .u64 K.x2, .int .u64 K.x3]
 th : x.there w.heap.size 2 4
section
variable {w x x2 x3 : World} {q : Wr} {K r : E4} {v v3 : Value} {out : List Tm} {y : Tm}
theorem Pb.keep (h : Pb w q K v out x) (hb : Below x.heap.size x x2) : Pb w q K v out x2 :=
 ⟨own_keepT h.own hb, bl_trans h.bel hb, Nat.le_trans h.sz hb.size, range_blR h.r0 hb, range_blR h.r1 hb, there_bl h.th hb⟩
theorem Pb.app (h : Pb w q K v out x) (h2 : Below x.heap.size x x2) (hg : x2.grownBy x3 v.ownBlock) (ho : x3.ownsRow (w.heap.size + 1) 178 6 v3 (out.length + 1) (tls out ++ (tmOf y).cs)) : Pb w q K v3 (out ++ [y]) x3 := by
 have k := h.keep h2
 have ne : some w.heap.size ≠ v.ownBlock := fun e => by have := (k.own.lt _ e.symm).1; omega
 refine ⟨by rw [tls_snoc, List.length_append, List.length_singleton]; exact ho, told_bel h.bel h2 (own_monoT h.own (Nat.le_succ _)) hg, Nat.le_trans k.sz hg.size, fun j u hu => hg.cell (k.r0 j u hu) ne, fun j u hu => hg.cell (k.r1 j u hu) ne, fun j hj => ?_⟩
 obtain ⟨h1, h2⟩ := k.th j hj
 have hb := hg.block w.heap.size k.sz ne
 exact ⟨by rw [World.cell?_of_block (a := ⟨w.heap.size, 2 + j, none⟩) hb]; exact h1, by rw [World.frozen?_of_block (a := ⟨w.heap.size, 2 + j, none⟩) hb]; exact h2⟩
theorem Pb.set (h : Pb w q K v out x) (hz : ∃ wy, Below x.heap.size x wy ∧ x2 = wy.setCells w.heap.size 2 [.int .u64 r.x0, .int .u64 r.x1, .int .u64 r.x2, .int .u64 r.x3]) : Pb w q r v out x2 := by
 obtain ⟨wy, hb, rfl⟩ := hz
 have k := h.keep hb
 have hg := gb_setCells w.heap.size [.int .u64 r.x0, .int .u64 r.x1, .int .u64 r.x2, .int .u64 r.x3] 2 wy
 exact ⟨own_gb k.own hg (Nat.lt_succ_self _), k.bel.grown hg k.bel.size (fun j hj => Nat.le_of_eq (Option.some.inj hj)), Nat.le_trans k.sz hg.size, World.rangeAt_setCells_apart k.r0 _ _ _ (.inr (.inl (by simp))), World.rangeAt_setCells_same _ _ _ _ k.th, World.there_setCells k.th _ _ _⟩
theorem Pb.c0 (h : Pb w q K v out x) : x.cell? ⟨w.heap.size, 0, none⟩ = some (.int .i64 q.1) := h.r0 0 _ rfl
theorem Pb.c1 (h : Pb w q K v out x) : x.cell? ⟨w.heap.size, 1, none⟩ = some (.int .i64 q.2) := h.r0 1 _ rfl
theorem Pb.c2 (h : Pb w q K v out x) : x.cell? ⟨w.heap.size, 2, none⟩ = some (.int .u64 K.x0) := h.r1 0 _ rfl
theorem Pb.c3 (h : Pb w q K v out x) : x.cell? ⟨w.heap.size, 3, none⟩ = some (.int .u64 K.x1) := h.r1 1 _ rfl
theorem Pb.c4 (h : Pb w q K v out x) : x.cell? ⟨w.heap.size, 4, none⟩ = some (.int .u64 K.x2) := h.r1 2 _ rfl
theorem Pb.c5 (h : Pb w q K v out x) : x.cell? ⟨w.heap.size, 5, none⟩ = some (.int .u64 K.x3) := h.r1 3 _ rfl
end
theorem Pb.begin (w : World) (q : Wr) (k : E4) : Pb w q k (.slice none 0 0) [] (w.alloc (.cells #[.int .i64 q.1, .int .i64 q.2, .int .u64 k.x0, .int .u64 k.x1, .int .u64 k.x2, .int .u64 k.x3] 178)) := by
 have hc := cells_newT w [.int .i64 q.1, .int .i64 q.2, .int .u64 k.x0, .int .u64 k.x1, .int .u64 k.x2, .int .u64 k.x3] 178
 have ht := there_newM w [.int .i64 q.1, .int .i64 q.2, .int .u64 k.x0, .int .u64 k.x1, .int .u64 k.x2, .int .u64 k.x3] 178
 refine ⟨World.ownsRow_nil _ _ _ _, bl_alloc w _, by simp, fun j u hu => ?_, fun j u hu => ?_, fun j hj => ?_⟩
 ·match j, hu with
  | 0, hu => exact hc 0 u hu
  | 1, hu => exact hc 1 u hu
 ·match j, hu with
  | 0, hu => exact hc 2 u hu
  | 1, hu => exact hc 3 u hu
  | 2, hu => exact hc 4 u hu
  | 3, hu => exact hc 5 u hu
 ·have := ht (2 + j) (by simp; omega)
  simpa using this
def Rs (dn : Bool) (X : List Tm) (i : Nat) (t : Tm) : List Tm := if dn then X.drop i else ins Sm.L (X.drop i) t
theorem Rs.done {X : List Tm} {i : Nat} {x t : Tm} (h : X[i]? = some x) (out R : List Tm) (e : out ++ Rs true X i t = R) : (out ++ [x]) ++ Rs true X (i + 1) t = R := by
 rw [← e]
 obtain ⟨hi, rfl⟩ := List.getElem?_eq_some_iff.1 h
 simp only [Rs, if_true, List.drop_eq_getElem_cons hi, List.append_assoc, List.singleton_append]
theorem Rs.same0 {X : List Tm} {i : Nat} {x t : Tm} (h : X[i]? = some x) (hq : x.1 = t.1) (hz : (x.2 + t.2) % Sm.L = 0) (out R : List Tm) (e : out ++ Rs false X i t = R) : out ++ Rs true X (i + 1) t = R := by
 rw [← e]
 obtain ⟨hi, rfl⟩ := List.getElem?_eq_some_iff.1 h
 simp only [Rs, if_true, Bool.false_eq_true, if_false, List.drop_eq_getElem_cons hi, ins, if_pos hq, if_pos hz]
theorem Rs.same1 {X : List Tm} {i : Nat} {x t : Tm} (h : X[i]? = some x) (hq : x.1 = t.1) (hz : ¬ (x.2 + t.2) % Sm.L = 0) (out R : List Tm) (e : out ++ Rs false X i t = R) : (out ++ [(t.1, (x.2 + t.2) % Sm.L)]) ++ Rs true X (i + 1) t = R := by
 rw [← e]
 obtain ⟨hi, rfl⟩ := List.getElem?_eq_some_iff.1 h
 simp only [Rs, if_true, Bool.false_eq_true, if_false, List.drop_eq_getElem_cons hi, ins, if_pos hq, if_neg hz, List.append_assoc, List.singleton_append]
theorem Rs.bef0 {X : List Tm} {i : Nat} {x t : Tm} (h : X[i]? = some x) (hq : ¬ x.1 = t.1) (hb : bf t.1 x.1 = true) (hz : t.2 % Sm.L = 0) (out R : List Tm) (e : out ++ Rs false X i t = R) : (out ++ [x]) ++ Rs true X (i + 1) t = R := by
 rw [← e]
 obtain ⟨hi, rfl⟩ := List.getElem?_eq_some_iff.1 h
 simp only [Rs, if_true, Bool.false_eq_true, if_false, List.drop_eq_getElem_cons hi, ins, if_neg hq, if_pos hb, if_pos hz, List.append_assoc, List.singleton_append]
theorem Rs.bef1 {X : List Tm} {i : Nat} {x t : Tm} (h : X[i]? = some x) (hq : ¬ x.1 = t.1) (hb : bf t.1 x.1 = true) (hz : ¬ t.2 % Sm.L = 0) (out R : List Tm) (e : out ++ Rs false X i t = R) : ((out ++ [(t.1, t.2 % Sm.L)]) ++ [x]) ++ Rs true X (i + 1) t = R := by
 rw [← e]
 obtain ⟨hi, rfl⟩ := List.getElem?_eq_some_iff.1 h
 simp only [Rs, if_true, Bool.false_eq_true, if_false, List.drop_eq_getElem_cons hi, ins, if_neg hq, if_pos hb, if_neg hz, List.append_assoc, List.singleton_append, List.cons_append, List.nil_append]
theorem Rs.aft {X : List Tm} {i : Nat} {x t : Tm} (h : X[i]? = some x) (hq : ¬ x.1 = t.1) (hb : bf t.1 x.1 = false) (out R : List Tm) (e : out ++ Rs false X i t = R) : (out ++ [x]) ++ Rs false X (i + 1) t = R := by
 rw [← e]
 obtain ⟨hi, rfl⟩ := List.getElem?_eq_some_iff.1 h
 simp only [Rs, Bool.false_eq_true, if_false, List.drop_eq_getElem_cons hi, ins, if_neg hq, hb, List.append_assoc, List.singleton_append]
theorem Rs.end1 {X : List Tm} {t : Tm} (out R : List Tm) (e : out ++ Rs true X X.length t = R) : out = R := by
 rw [← e]; simp [Rs]
theorem Rs.end0 {X : List Tm} {t : Tm} (hz : t.2 % Sm.L = 0) (out R : List Tm) (e : out ++ Rs false X X.length t = R) : out = R := by
 rw [← e]; simp [Rs, ins, hz]
theorem Rs.endt {X : List Tm} {t : Tm} (hz : ¬ t.2 % Sm.L = 0) (out R : List Tm) (e : out ++ Rs false X X.length t = R) : out ++ [(t.1, t.2 % Sm.L)] = R := by
 rw [← e]; simp [Rs, ins, hz]
theorem tm_mod (q : Wr) (m : Int) : tmOf (q, m % Sm.L) = ⟨q, lst m⟩ := by
 unfold tmOf
 rw [show lst (m % Sm.L) = lst m from lst_congr (by rw [Int.emod_emod_of_dvd _ (Int.dvd_refl _)])]
def Dl (w : World) (X : List Tm) (v : Value) (w' : World) : Prop := w'.ownsRow w.heap.size 178 6 v X.length (tls X) ∧ Below w.heap.size w w'
end Ci
end Go.Proofs.YtebmaneogekhjaaGreatDoor
