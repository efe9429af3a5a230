import Derived.Test.YtclihahohhhhiaaDoorCer
import Derived.Maps.AppendAt
namespace Go.Proofs.YtclihahohhhhiaaDoor
open Go.RowKit
set_option linter.unusedVariables false
set_option linter.unusedSimpArgs false
open Cm (Wr Tm co bf Ls lf ins Eqm)
namespace Ci
set_option maxRecDepth 100000
set_option maxHeartbeats 8000000
def Dj (a b : Value) : Prop := ∀ k, a.ownBlock = some k → b.ownBlock ≠ some k
theorem Dj.symm {a b : Value} (h : Dj a b) : Dj b a := fun k hk e => h k e hk
def s4s (n : Nat) (g : Nat → E4) : List Value := (List.range n).flatMap fun k => [.int .u64 (g k).x0, .int .u64 (g k).x1, .int .u64 (g k).x2, .int .u64 (g k).x3]
theorem s4s_succ (n : Nat) (g : Nat → E4) : s4s (n + 1) g = s4s n g ++ [.int .u64 (g n).x0, .int .u64 (g n).x1, .int .u64 (g n).x2, .int .u64 (g n).x3] := by simp [s4s, List.range_succ]
theorem s4s_congr {n : Nat} {f g : Nat → E4} (h : ∀ k, k < n → f k = g k) : s4s n f = s4s n g := by
 induction n with
 | zero => rfl
 | succ n ih => rw [s4s_succ, s4s_succ, ih (fun k hk => h k (by omega)), h n (by omega)]
theorem s4s_len (n : Nat) (g : Nat → E4) : (s4s n g).length = n * 4 := by
 induction n with
 | zero => rfl
 | succ n ih => rw [s4s_succ, List.length_append, ih]; simp; omega
theorem s4s_get (n : Nat) (g : Nat → E4) (k j : Nat) (hk : k < n) (hj : j < 4) : (s4s n g)[k * 4 + j]? = ([.int .u64 (g k).x0, .int .u64 (g k).x1, .int .u64 (g k).x2, .int .u64 (g k).x3] : List Value)[j]? := by
 induction n with
 | zero => omega
 | succ n ih =>
  rw [s4s_succ]
  by_cases h : k < n
  ·rw [List.getElem?_append_left (by rw [s4s_len]; omega)]
   exact ih h
  ·obtain rfl : k = n := by omega
   rw [List.getElem?_append_right (by rw [s4s_len]; omega), s4s_len, show k * 4 + j - k * 4 = j by omega]
def Rw (x : World) (b : Nat) (v : Value) (n : Nat) : Prop := ∃ g, x.ownsRow b 41 4 v n (s4s n g) ∧ ∀ k, k < n → (g k).ok
theorem Rw.sl {x : World} {b n : Nat} {v : Value} (h : Rw x b v n) : ∃ s : Sl, v = s.v ∧ s.n = n ∧ s.at x := by
 obtain ⟨g, ho, hg⟩ := h
 rcases ho.2 with ⟨h1, h2⟩ | ⟨gb, c, cur, h1, _⟩
 ·exact ⟨⟨none, 0, 0, g⟩, h1, h2.symm, ⟨⟨0, 0, fun h => absurd h (Nat.lt_irrefl 0), fun h => absurd h (Nat.lt_irrefl 0)⟩, fun k hk => absurd hk (Nat.not_lt_zero k)⟩⟩
 ·have key : ∀ k j u, k < n → ([.int .u64 (g k).x0, .int .u64 (g k).x1, .int .u64 (g k).x2, .int .u64 (g k).x3] : List Value)[j]? = some u → x.cell? ⟨gb, 0 + k * 4 + j, none⟩ = some u := fun k j u hk hu => by
   have hj : j < 4 := by have := (List.getElem?_eq_some_iff.1 hu).1; simpa using this
   have := ho.cells (g := gb) (by rw [h1]; rfl) (k * 4 + j) u (by rw [s4s_get n g k j hk hj]; exact hu)
   rw [Addr.add_mid] at this
   rw [Nat.add_assoc]
   exact this
  refine ⟨⟨some ⟨gb, 0, none⟩, n, c, g⟩, h1, rfl, ⟨⟨gb, 0, fun _ => rfl, fun _ => ⟨fun k hk => ?_, fun k hk => ?_, fun k hk => ?_, fun k hk => ?_⟩⟩, hg⟩⟩
  ·exact key k 0 _ hk rfl
  ·exact key k 1 _ hk rfl
  ·exact key k 2 _ hk rfl
  ·exact key k 3 _ hk rfl
theorem Rw.one {x : World} {b n : Nat} {v : Value} (h : Rw x b v n) : v.oneCell' = true := by
 obtain ⟨s, rfl, _⟩ := h.sl
 rfl
theorem Rw.none (x : World) (b : Nat) : Rw x b (.slice none 0 0) 0 := ⟨fun _ => ⟨0, 0, 0, 0⟩, World.ownsRow_nil _ _ _ _, fun k hk => by omega⟩
theorem Rw.keep {x y : World} {b n : Nat} {v : Value} (h : Rw x b v n) (hb : Below x.heap.size x y) : Rw y b v n := by
 obtain ⟨g, ho, hg⟩ := h
 exact ⟨g, own_keepT ho hb, hg⟩
theorem Rw.grown {x y : World} {b n r : Nat} {v : Value} (h : Rw x b v n) (hg : x.grownBy y (some r)) (hr : r < b) : Rw y b v n := by
 obtain ⟨g, ho, hk⟩ := h
 exact ⟨g, ho.kept hg (by
  cases hv : v.ownBlock with
  | none => exact .inl rfl
  | some k => exact .inr (fun e => by have := (ho.lt k hv).1; have := Option.some.inj e; omega)), hk⟩
theorem Rw.other {x y : World} {b n : Nat} {u v : Value} (h : Rw x b v n) (hd : Dj u v) (hg : x.grownBy y u.ownBlock) : Rw y b v n := by
 obtain ⟨g, ho, hk⟩ := h
 exact ⟨g, ho.kept hg (by
  cases hv : v.ownBlock with
  | none => exact .inl rfl
  | some k => exact .inr (fun e => hd k e.symm hv)), hk⟩
def upd {α : Type} (f : Nat → α) (j : Nat) (v : α) (i : Nat) : α := if i = j then v else f i
structure Fi (w : World) (l : Sl) (k : Nat) (C R : Nat → Value) (n : Nat → Nat) (x : World) : Prop where
 bel : Below w.heap.size w x
 lc : x.cell? ⟨w.heap.size, 0, none⟩ = some (.slice l.p l.n l.c)
 rz : x.rangeAt (w.heap.size + 1) 0 [.slice none 0 0, .slice none 0 0, .slice none 0 0, .slice none 0 0]
 rt : x.there (w.heap.size + 1) 0 4
 ac : x.cell? ⟨w.heap.size + 2, 0, none⟩ = some (.int .i64 (k : Int))
 af : x.frozen? ⟨w.heap.size + 2, 0, none⟩ = false
 tc : ∀ i, i < 4 → x.cell? ⟨w.heap.size + 3, i, none⟩ = some (C i)
 tt : x.there (w.heap.size + 3) 0 4
 rw : ∀ i, i < 4 → Rw x (w.heap.size + 4) (R i) (n i)
 dj : ∀ i j, i < 4 → j < 4 → i ≠ j → Dj (R i) (R j)
 sz : w.heap.size + 4 ≤ x.heap.size
theorem Fi.keep {w : World} {l : Sl} {k : Nat} {C R : Nat → Value} {n : Nat → Nat} {x y : World} (h : Fi w l k C R n x) (hb : Below x.heap.size x y) : Fi w l k C R n y :=
 ⟨bl_trans h.bel hb, cell_keep h.lc hb, range_bl h.rz hb, there_bl h.rt hb, cell_keep h.ac hb, (hb.frozen (p := ⟨w.heap.size + 2, 0, none⟩) (World.block_lt_of_cell? x _ h.ac)).trans h.af, fun i hi => cell_keep (h.tc i hi) hb, there_bl h.tt hb, fun i hi => (h.rw i hi).keep hb, h.dj, Nat.le_trans h.sz hb.size⟩
theorem gcell {x y : World} {b o r : Nat} {v : Value} (hg : x.grownBy y (some r)) (h : x.cell? ⟨b, o, none⟩ = some v) (hne : b ≠ r) : y.cell? ⟨b, o, none⟩ = some v := hg.cell h (fun e => hne (Option.some.inj e))
theorem gcellR {x y : World} {b o : Nat} {row : Option Nat} {v : Value} (hg : x.grownBy y row) (h : x.cell? ⟨b, o, none⟩ = some v) (hne : some b ≠ row) : y.cell? ⟨b, o, none⟩ = some v := hg.cell h hne
theorem there_gb {x y : World} {b m r : Nat} (h : x.there b 0 m) (hg : x.grownBy y (some r)) (hne : b ≠ r) : y.there b 0 m := fun j hj => by
 obtain ⟨h1, h2⟩ := h j hj
 obtain ⟨u, hu⟩ := Option.isSome_iff_exists.1 h1
 have hl := World.block_lt_of_cell? x _ hu
 exact ⟨by rw [hg.cell hu (fun e => hne (Option.some.inj e))]; rfl, gz_frozen hg (fun e => hne (Option.some.inj e)) hl h2⟩
theorem there_gbR {x y : World} {b m : Nat} {row : Option Nat} (h : x.there b 0 m) (hg : x.grownBy y row) (hne : some b ≠ row) : y.there b 0 m := fun j hj => by
 obtain ⟨h1, h2⟩ := h j hj
 obtain ⟨u, hu⟩ := Option.isSome_iff_exists.1 h1
 have hl := World.block_lt_of_cell? x _ hu
 refine ⟨by rw [hg.cell hu hne]; rfl, ?_⟩
 unfold World.frozen? at h2 ⊢
 rw [hg.block b hl hne]
 exact h2
theorem Fi.next {w : World} {l : Sl} {k : Nat} {C R : Nat → Value} {n : Nat → Nat} {x y : World} (h : Fi w l k C R n x) (hg : x.grownBy y (some (w.heap.size + 2))) (ha : y.cell? ⟨w.heap.size + 2, 0, none⟩ = some (.int .i64 ((k + 1 : Nat) : Int))) (hf : y.frozen? ⟨w.heap.size + 2, 0, none⟩ = false) : Fi w l (k + 1) C R n y :=
 ⟨h.bel.grown hg h.bel.size (fun i hi => by have := Option.some.inj hi; omega), gcell hg h.lc (by omega), fun j u hu => gcell hg (h.rz j u hu) (by omega), there_gb h.rt hg (by omega), ha, hf, fun i hi => gcell hg (h.tc i hi) (by omega), there_gb h.tt hg (by omega), fun i hi => (h.rw i hi).grown hg (by omega), h.dj, Nat.le_trans h.sz hg.size⟩
theorem fi_next {w : World} {l : Sl} {k : Nat} {C R : Nat → Value} {n : Nat → Nat} {x : World} (hT : Tb w) (hl : l.at w) (hk : k ≤ 1000000) (hln : l.n ≤ 1048576) (h : Fi w l k C R n x) : Calls Tryd.prog 35 #[.pointer (some ⟨w.heap.size + 2, 0, none⟩), .pointer (some ⟨w.heap.size, 0, none⟩)] x fun e y => ∃ r : E4, e = .returned (.agg #[.int .u64 r.x0, .int .u64 r.x1, .int .u64 r.x2, .int .u64 r.x3]) ∧ r.ok ∧ Fi w l (k + 1) C R n y :=
 (next_any w (w.heap.size + 2) w.heap.size k l l.p rfl x hT hl (by omega) h.bel (by omega) hk hln h.ac h.af h.lc).mono fun e y ⟨r, he, hr, hg, ha, hf⟩ => ⟨r, he, hr, h.next hg ha hf⟩
theorem Fi.app {w : World} {l : Sl} {k : Nat} {C R : Nat → Value} {n : Nat → Nat} {x y : World} {v : Value} (h : Fi w l k C R n x) (j : Nat) (hj : j < 4) (hr : Rw y (w.heap.size + 4) v (n j + 1)) (hg : x.grownBy y (R j).ownBlock) (ht : v.ownBlock = (R j).ownBlock ∨ v.ownBlock = some x.heap.size) : Fi w l k C (upd R j v) (upd n j (n j + 1)) y := by
 obtain ⟨g0, ho0, _⟩ := h.rw j hj
 have hlow : ∀ b, b < w.heap.size + 4 → some b ≠ (R j).ownBlock := fun b hb e => by have := (ho0.lt b e.symm).1; omega
 have hdj : ∀ i, i < 4 → i ≠ j → Dj v (R i) := fun i hi hij q hq e => by
  rcases ht with e1 | e1
  ·exact h.dj j i hj hi (fun e => hij e.symm) q (e1 ▸ hq) e
  ·rw [e1] at hq
   have := Option.some.inj hq
   obtain ⟨g1, ho1, _⟩ := h.rw i hi
   have := (ho1.lt q e).2
   omega
 refine ⟨h.bel.grown hg h.bel.size (fun i hi => by have := (ho0.lt i hi).1; omega), gcellR hg h.lc (hlow _ (by omega)), fun d u hu => gcellR hg (h.rz d u hu) (hlow _ (by omega)), there_gbR h.rt hg (hlow _ (by omega)), gcellR hg h.ac (hlow _ (by omega)), ?_, fun i hi => gcellR hg (h.tc i hi) (hlow _ (by omega)), there_gbR h.tt hg (hlow _ (by omega)), fun i hi => ?_, fun a b ha hb hab => ?_, Nat.le_trans h.sz hg.size⟩
 ·have := h.af
  unfold World.frozen? at this ⊢
  rw [hg.block (w.heap.size + 2) (by have := h.sz; omega) (hlow _ (by omega))]
  exact this
 ·unfold upd
  by_cases e : i = j
  ·rw [if_pos e, if_pos e]; exact hr
  ·rw [if_neg e, if_neg e]; exact (h.rw i hi).other (h.dj j i hj hi (fun e2 => e e2.symm)) hg
 ·unfold upd
  by_cases e1 : a = j
  ·rw [if_pos e1, if_neg (fun e2 => hab (e1.trans e2.symm))]
   exact hdj b hb (fun e2 => hab (e1.trans e2.symm))
  ·by_cases e2 : b = j
   ·rw [if_neg e1, if_pos e2]; exact (hdj a ha e1).symm
   ·rw [if_neg e1, if_neg e2]; exact h.dj a b ha hb hab
theorem Fi.put {w : World} {l : Sl} {k : Nat} {C R : Nat → Value} {n : Nat → Nat} {x : World} (h : Fi w l k C R n x) (j : Nat) (hj : j < 4) (v : Value) : Fi w l k (upd C j v) R n (x.setCell ⟨w.heap.size + 3, j, none⟩ v) := by
 have hg : x.grownBy (x.setCell ⟨w.heap.size + 3, j, none⟩ v) (some (w.heap.size + 3)) := ⟨rfl, rfl, rfl, by rw [World.size_setCell]; exact Nat.le_refl _, fun i _ hi => heap_setCell_other x ⟨w.heap.size + 3, j, none⟩ i v (fun e => hi (by rw [e]))⟩
 refine ⟨h.bel.grown hg h.bel.size (fun i hi => by have := Option.some.inj hi; omega), gcell hg h.lc (by omega), fun d u hu => gcell hg (h.rz d u hu) (by omega), there_gb h.rt hg (by omega), gcell hg h.ac (by omega), gz_frozen hg (p := ⟨w.heap.size + 2, 0, none⟩) (fun e => by have := Option.some.inj e; simp only at this; omega) (by have := h.sz; show w.heap.size + 2 < x.heap.size; omega) h.af, fun i hi => ?_, there_set h.tt (w.heap.size + 3) j [v], fun i hi => (h.rw i hi).grown hg (by omega), h.dj, Nat.le_trans h.sz hg.size⟩
 unfold upd
 by_cases e : i = j
 ·rw [if_pos e, e]
  have hs := (h.tt j hj).1
  rw [Nat.zero_add] at hs
  exact World.cell?_setCell_same' _ _ _ hs
 ·rw [if_neg e]
  have hne : (⟨w.heap.size + 3, j, none⟩ : Addr) ≠ ⟨w.heap.size + 3, i, none⟩ := fun e2 => e (by have := congrArg Addr.off e2; exact this.symm)
  first
   | exact (World.cell?_setCell_other hne).trans (h.tc i hi)
   | exact (World.cell?_setCell_other _ hne).trans (h.tc i hi)
   | exact (World.cell?_setCell_other _ _ hne).trans (h.tc i hi)
   | exact (World.cell?_setCell_other _ _ _ hne).trans (h.tc i hi)
   | exact (World.cell?_setCell_other _ _ _ _ hne).trans (h.tc i hi)
end Ci
end Go.Proofs.YtclihahohhhhiaaDoor
