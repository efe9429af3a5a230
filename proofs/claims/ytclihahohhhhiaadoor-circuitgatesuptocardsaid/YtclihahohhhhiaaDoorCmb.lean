import Derived.Test.YtclihahohhhhiaaDoorSop
import Derived.Laws.AppendOwn
import Derived.OwnWalk
import Derived.Maps.AppendAt
import Derived.Deep.RegionLaw
import Derived.Test.YtclihahohhhhiaaDoorCma
namespace Go.Proofs.YtclihahohhhhiaaDoor
open Go.RowKit
set_option linter.unusedVariables false
open Cm (Wr Tm co bf Ls lf ins Eqm)
structure Trm where
 q : Wr
 a : E4
def Trm.cs (t : Trm) : List Value := [.int .i64 t.q.1, .int .i64 t.q.2, .int .u64 t.a.x0, .int .u64 t.a.x1, .int .u64 t.a.x2, .int .u64 t.a.x3]
def tvs (n : Nat) (f : Nat → Trm) : List Value := (List.range n).flatMap fun k => (f k).cs
theorem tvs_succ (n : Nat) (f : Nat → Trm) : tvs (n + 1) f = tvs n f ++ (f n).cs := by simp [tvs, List.range_succ]
theorem tvs_len (n : Nat) (f : Nat → Trm) : (tvs n f).length = n * 6 := by
 induction n with
 | zero => rfl
 | succ n ih => rw [tvs_succ, List.length_append, ih]; simp [Trm.cs]; omega
theorem tvs_congr {n : Nat} {f g : Nat → Trm} (h : ∀ k, k < n → f k = g k) : tvs n f = tvs n g := by
 induction n with
 | zero => rfl
 | succ n ih => rw [tvs_succ, tvs_succ, ih (fun k hk => h k (by omega)), h n (by omega)]
theorem tvs_one (n : Nat) (f : Nat → Trm) : ∀ u ∈ tvs n f, u.oneCell' = true := by
 induction n with
 | zero => intro u hu; simp [tvs] at hu
 | succ n ih =>
  intro u hu
  rw [tvs_succ] at hu
  rcases List.mem_append.1 hu with h | h
  ·exact ih u h
  ·simp only [Trm.cs, List.mem_cons, List.not_mem_nil, or_false] at h
   rcases h with rfl | rfl | rfl | rfl | rfl | rfl <;> rfl
structure Rt (w : World) (b o n : Nat) (f : Nat → Trm) : Prop where
 c0 : ∀ k, k < n → w.cell? ⟨b, o + k * 6, none⟩ = some (.int .i64 (f k).q.1)
 c1 : ∀ k, k < n → w.cell? ⟨b, o + k * 6 + 1, none⟩ = some (.int .i64 (f k).q.2)
 c2 : ∀ k, k < n → w.cell? ⟨b, o + k * 6 + 2, none⟩ = some (.int .u64 (f k).a.x0)
 c3 : ∀ k, k < n → w.cell? ⟨b, o + k * 6 + 3, none⟩ = some (.int .u64 (f k).a.x1)
 c4 : ∀ k, k < n → w.cell? ⟨b, o + k * 6 + 4, none⟩ = some (.int .u64 (f k).a.x2)
 c5 : ∀ k, k < n → w.cell? ⟨b, o + k * 6 + 5, none⟩ = some (.int .u64 (f k).a.x3)
theorem ckeep {w1 w2 : World} {b o : Nat} {v : Value} (h : w1.cell? ⟨b, o, none⟩ = some v) (hb : Below w1.heap.size w1 w2) : w2.cell? ⟨b, o, none⟩ = some v := cell_keep h hb
theorem Rt.keep {w1 w2 : World} {b o n : Nat} {f : Nat → Trm} (h : Rt w1 b o n f) (hb : Below w1.heap.size w1 w2) : Rt w2 b o n f :=
 ⟨fun k hk => ckeep (h.c0 k hk) hb, fun k hk => ckeep (h.c1 k hk) hb, fun k hk => ckeep (h.c2 k hk) hb, fun k hk => ckeep (h.c3 k hk) hb, fun k hk => ckeep (h.c4 k hk) hb, fun k hk => ckeep (h.c5 k hk) hb⟩
theorem Rt.less {w : World} {b o n m : Nat} {f : Nat → Trm} (h : Rt w b o n f) (hm : m ≤ n) : Rt w b o m f :=
 ⟨fun k hk => h.c0 k (by omega), fun k hk => h.c1 k (by omega), fun k hk => h.c2 k (by omega), fun k hk => h.c3 k (by omega), fun k hk => h.c4 k (by omega), fun k hk => h.c5 k (by omega)⟩
theorem Rt.congr {w : World} {b o n : Nat} {f g : Nat → Trm} (h : Rt w b o n f) (e : ∀ k, k < n → f k = g k) : Rt w b o n g :=
 ⟨fun k hk => by rw [← e k hk]; exact h.c0 k hk, fun k hk => by rw [← e k hk]; exact h.c1 k hk, fun k hk => by rw [← e k hk]; exact h.c2 k hk, fun k hk => by rw [← e k hk]; exact h.c3 k hk, fun k hk => by rw [← e k hk]; exact h.c4 k hk, fun k hk => by rw [← e k hk]; exact h.c5 k hk⟩
theorem rt_cells {w : World} {b o m : Nat} {f : Nat → Trm} (h : Rt w b o m f) (n : Nat) (hn : n ≤ m) : ∀ j u, (tvs n f)[j]? = some u → w.cell? ⟨b, o + j, none⟩ = some u := by
 induction n with
 | zero => intro j u hu; simp [tvs] at hu
 | succ n ih =>
  intro j u hu
  rw [tvs_succ] at hu
  by_cases hj : j < n * 6
  ·rw [List.getElem?_append_left (by rw [tvs_len]; exact hj)] at hu
   exact ih (by omega) j u hu
  ·rw [List.getElem?_append_right (by rw [tvs_len]; omega), tvs_len] at hu
   obtain ⟨d, hd⟩ : ∃ d, j = n * 6 + d := ⟨j - n * 6, by omega⟩
   subst hd
   rw [show n * 6 + d - n * 6 = d by omega] at hu
   match d, hu with
   | 0, hu => simp [Trm.cs] at hu; rw [← hu]; exact h.c0 n (by omega)
   | 1, hu => simp [Trm.cs] at hu; rw [← hu]; exact h.c1 n (by omega)
   | 2, hu => simp [Trm.cs] at hu; rw [← hu]; exact h.c2 n (by omega)
   | 3, hu => simp [Trm.cs] at hu; rw [← hu]; exact h.c3 n (by omega)
   | 4, hu => simp [Trm.cs] at hu; rw [← hu]; exact h.c4 n (by omega)
   | 5, hu => simp [Trm.cs] at hu; rw [← hu]; exact h.c5 n (by omega)
theorem tvs_get (n : Nat) (f : Nat → Trm) (k j : Nat) (hk : k < n) (hj : j < 6) : (tvs n f)[k * 6 + j]? = (f k).cs[j]? := by
 induction n with
 | zero => omega
 | succ n ih =>
  rw [tvs_succ]
  by_cases h : k < n
  ·rw [List.getElem?_append_left (by rw [tvs_len]; omega)]
   exact ih h
  ·obtain rfl : k = n := by omega
   rw [List.getElem?_append_right (by rw [tvs_len]; omega), tvs_len, show k * 6 + j - k * 6 = j by omega]
theorem cells_rt {w : World} {b o n : Nat} {f : Nat → Trm} (h : ∀ j u, (tvs n f)[j]? = some u → w.cell? ⟨b, o + j, none⟩ = some u) : Rt w b o n f :=
 ⟨fun k hk => by have := h (k * 6 + 0) _ (by rw [tvs_get n f k 0 hk (by omega)]; rfl); simpa using this,
 fun k hk => by have := h (k * 6 + 1) _ (by rw [tvs_get n f k 1 hk (by omega)]; rfl); rwa [← Nat.add_assoc] at this,
 fun k hk => by have := h (k * 6 + 2) _ (by rw [tvs_get n f k 2 hk (by omega)]; rfl); rwa [← Nat.add_assoc] at this,
 fun k hk => by have := h (k * 6 + 3) _ (by rw [tvs_get n f k 3 hk (by omega)]; rfl); rwa [← Nat.add_assoc] at this,
 fun k hk => by have := h (k * 6 + 4) _ (by rw [tvs_get n f k 4 hk (by omega)]; rfl); rwa [← Nat.add_assoc] at this,
 fun k hk => by have := h (k * 6 + 5) _ (by rw [tvs_get n f k 5 hk (by omega)]; rfl); rwa [← Nat.add_assoc] at this⟩
def Lt (w : World) (P : Option Addr) (n : Nat) (f : Nat → Trm) : Prop := ∃ sb so : Nat, (0 < n → P = some ⟨sb, so, none⟩) ∧ (0 < n → Rt w sb so n f)
theorem Lt.keep {w1 w2 : World} {P : Option Addr} {n : Nat} {f : Nat → Trm} (h : Lt w1 P n f) (hb : Below w1.heap.size w1 w2) : Lt w2 P n f := by
 obtain ⟨sb, so, h1, h2⟩ := h
 exact ⟨sb, so, h1, fun hl => (h2 hl).keep hb⟩
theorem Lt.less {w : World} {P : Option Addr} {n m : Nat} {f : Nat → Trm} (h : Lt w P n f) (hm : m ≤ n) : Lt w P m f := by
 obtain ⟨sb, so, h1, h2⟩ := h
 exact ⟨sb, so, fun hl => h1 (by omega), fun hl => (h2 (by omega)).less hm⟩
theorem Lt.congr {w : World} {P : Option Addr} {n : Nat} {f g : Nat → Trm} (h : Lt w P n f) (e : ∀ k, k < n → f k = g k) : Lt w P n g := by
 obtain ⟨sb, so, h1, h2⟩ := h
 exact ⟨sb, so, h1, fun hl => (h2 hl).congr e⟩
theorem Lt.none (w : World) (f : Nat → Trm) : Lt w none 0 f := ⟨0, 0, fun h => by omega, fun h => by omega⟩
theorem own_rt {w : World} {base n g c : Nat} {t : TypeId} {f : Nat → Trm} (h : w.ownsRow base t 6 (.slice (some ⟨g, 0, none⟩) n c) n (tvs n f)) : Rt w g 0 n f :=
 cells_rt (fun j u hu => by have := h.cells (g := g) rfl j u hu; rwa [Addr.add_mid] at this)
theorem own_shT {w : World} {base n : Nat} {t : TypeId} {v : Value} {xs : List Value} (h : w.ownsRow base t 6 v n xs) : ∃ (P : Option Addr) (c : Nat), v = .slice P n c ∧ n ≤ c ∧ (0 < n → ∃ g, P = some ⟨g, 0, none⟩) := by
 rcases h.2 with ⟨h1, h2⟩ | ⟨g, c, cur, h1, _, _, h4, _⟩
 ·exact ⟨none, 0, by rw [h1, h2], by omega, fun h => by omega⟩
 ·exact ⟨_, c, h1, h4, fun _ => ⟨g, rfl⟩⟩
theorem own_lt {w : World} {base n c : Nat} {t : TypeId} {P : Option Addr} {f : Nat → Trm} (h : w.ownsRow base t 6 (.slice P n c) n (tvs n f)) : Lt w P n f := by
 obtain ⟨P', c', e, _, hg⟩ := own_shT h
 simp only [Value.slice.injEq, true_and] at e
 obtain ⟨rfl, rfl⟩ := e
 by_cases h0 : 0 < n
 ·obtain ⟨g, rfl⟩ := hg h0
  exact ⟨g, 0, fun _ => rfl, fun _ => own_rt h⟩
 ·exact ⟨0, 0, fun h => absurd h h0, fun h => absurd h h0⟩
def tmOf (x : Tm) : Trm := ⟨x.1, lst x.2⟩
def ft (X : List Tm) (k : Nat) : Trm := tmOf (X.getD k ((0, 0), 0))
def tls (X : List Tm) : List Value := tvs X.length (ft X)
theorem tls_nil : tls [] = [] := rfl
theorem tls_snoc (X : List Tm) (x : Tm) : tls (X ++ [x]) = tls X ++ (tmOf x).cs := by
 unfold tls
 rw [List.length_append, List.length_singleton, tvs_succ]
 congr 1
 ·refine tvs_congr (fun k hk => ?_)
  unfold ft
  rw [List.getD_eq_getElem?_getD, List.getD_eq_getElem?_getD, List.getElem?_append_left hk]
 ·unfold ft
  rw [List.getD_eq_getElem?_getD, List.getElem?_append_right (Nat.le_refl _)]
  simp
theorem tls_map (X : List Tm) : tls X = X.flatMap fun x => (tmOf x).cs := by
 have h : ∀ Y Z : List Tm, tls (Y ++ Z) = tls Y ++ Z.flatMap fun x => (tmOf x).cs := by
  intro Y Z
  induction Z generalizing Y with
  | nil => simp
  | cons z Z ih =>
   have := ih (Y ++ [z])
   rw [tls_snoc] at this
   simpa using this
 simpa [tls_nil] using h [] X
def nl (n : Nat) (f : Nat → Trm) : List Tm := (List.range n).map fun k => ((f k).q, (f k).a.n)
theorem own_lts {w : World} {base c : Nat} {t : TypeId} {P : Option Addr} {X : List Tm} (h : w.ownsRow base t 6 (.slice P X.length c) X.length (tls X)) : Lt w P X.length (ft X) := own_lt h
end Go.Proofs.YtclihahohhhhiaaDoor
