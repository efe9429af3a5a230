import Derived.Test.YtghcfcglakbkeaaGreatDoorSblkz
import Derived.Laws.AppendOwn
import Derived.OwnWalk
import Derived.Maps.AppendAt
import Derived.Deep.RegionLaw
namespace Go.Proofs.YtghcfcglakbkeaaGreatDoor.Cm
abbrev Wr := Int × Int
abbrev Tm := Wr × Int
def bf (a b : Wr) : Bool := decide (a.1 < b.1) || (decide (a.1 = b.1) && decide (a.2 < b.2))
theorem bf_iff (a b : Wr) : bf a b = true ↔ a.1 < b.1 ∨ (a.1 = b.1 ∧ a.2 < b.2) := by simp [bf]
theorem bf_irrefl (a : Wr) : bf a a = false := by simp [bf]
theorem bf_trans {a b c : Wr} (h1 : bf a b = true) (h2 : bf b c = true) : bf a c = true := by
 rw [bf_iff] at *; omega
theorem bf_tri (a b : Wr) (h1 : bf a b = false) (h2 : bf b a = false) : a = b := by
 have h1' : ¬ (bf a b = true) := by simp [h1]
 have h2' : ¬ (bf b a = true) := by simp [h2]
 rw [bf_iff] at h1' h2'
 obtain ⟨a1, a2⟩ := a
 obtain ⟨b1, b2⟩ := b
 simp only [Prod.mk.injEq] at *
 omega
theorem bf_ne {a b : Wr} (h : bf a b = true) : a ≠ b := fun e => by rw [e, bf_irrefl] at h; cases h
def co : List Tm → Wr → Int
 | [], _ => 0
 | x :: X, q => (if x.1 = q then x.2 else 0) + co X q
theorem co_nil (q : Wr) : co [] q = 0 := rfl
theorem co_cons (x : Tm) (X : List Tm) (q : Wr) : co (x :: X) q = (if x.1 = q then x.2 else 0) + co X q := rfl
theorem co_app (X Y : List Tm) (q : Wr) : co (X ++ Y) q = co X q + co Y q := by
 induction X with
 | nil => simp [co]
 | cons x X ih => simp only [List.cons_append, co_cons, ih]; omega
theorem co_out {X : List Tm} {q : Wr} (h : ∀ x ∈ X, x.1 ≠ q) : co X q = 0 := by
 induction X with
 | nil => rfl
 | cons x X ih => rw [co_cons, if_neg (h x (by simp)), ih (fun y hy => h y (by simp [hy]))]; rfl
theorem co_perm {X Y : List Tm} (h : X.Perm Y) (q : Wr) : co X q = co Y q := by
 induction h with
 | nil => rfl
 | cons x _ ih => rw [co_cons, co_cons, ih]
 | swap x y l => simp only [co_cons]; omega
 | trans _ _ ih1 ih2 => rw [ih1, ih2]
def Eqm (L : Int) (X Y : List Tm) : Prop := ∀ q, co X q % L = co Y q % L
theorem Eqm.symm {L : Int} {X Y : List Tm} (h : Eqm L X Y) : Eqm L Y X := fun q => (h q).symm
theorem Eqm.trans {L : Int} {X Y Z : List Tm} (h : Eqm L X Y) (k : Eqm L Y Z) : Eqm L X Z := fun q => (h q).trans (k q)
structure Ls (L : Int) (X : List Tm) : Prop where
 up : X.Pairwise (fun x y => bf x.1 y.1 = true)
 nz : ∀ x ∈ X, 0 < x.2 ∧ x.2 < L
theorem Ls.tail {L : Int} {x : Tm} {X : List Tm} (h : Ls L (x :: X)) : Ls L X := ⟨(List.pairwise_cons.1 h.up).2, fun y hy => h.nz y (by simp [hy])⟩
theorem Ls.head {L : Int} {x : Tm} {X : List Tm} (h : Ls L (x :: X)) : co (x :: X) x.1 = x.2 := by
 rw [co_cons, if_pos rfl, co_out (fun y hy => (bf_ne ((List.pairwise_cons.1 h.up).1 y hy)).symm)]; omega
theorem Ls.below {L : Int} {x : Tm} {X : List Tm} (h : Ls L (x :: X)) {q : Wr} (hq : bf q x.1 = true) : co (x :: X) q = 0 :=
 co_out (fun y hy => by
  rcases List.mem_cons.1 hy with rfl | hy
  ·exact (bf_ne hq).symm
  ·exact (bf_ne (bf_trans hq ((List.pairwise_cons.1 h.up).1 y hy))).symm)
theorem Ls.not0 {L : Int} {x : Tm} {X : List Tm} (h : Ls L (x :: X)) : co (x :: X) x.1 % L ≠ 0 := by
 have hx := h.nz x (by simp)
 rw [h.head, Int.emod_eq_of_lt (by omega) hx.2]
 omega
theorem Ls.only {L : Int} : ∀ {X Y : List Tm}, Ls L X → Ls L Y → Eqm L X Y → X = Y
 | [], [], _, _, _ => rfl
 | [], y :: Y, _, hY, h => absurd (h y.1).symm (by rw [co_nil, Int.zero_emod]; exact hY.not0)
 | x :: X, [], hX, _, h => absurd (h x.1) (by rw [co_nil, Int.zero_emod]; exact hX.not0)
 | x :: X, y :: Y, hX, hY, h => by
  have hx := hX.nz x (by simp)
  have hy := hY.nz y (by simp)
  cases h1 : bf x.1 y.1 with
  | true => exact absurd (h x.1) (by rw [hY.below h1, Int.zero_emod]; exact hX.not0)
  | false =>
   cases h2 : bf y.1 x.1 with
   | true => exact absurd (h y.1).symm (by rw [hX.below h2, Int.zero_emod]; exact hY.not0)
   | false =>
    have e := bf_tri _ _ h1 h2
    have e2 : x.2 = y.2 := by
     have := h x.1
     rw [hX.head, e, hY.head, Int.emod_eq_of_lt (by omega) hx.2, Int.emod_eq_of_lt (by omega) hy.2] at this
     exact this
    have exy : x = y := Prod.ext e e2
    subst exy
    congr 1
    refine Ls.only hX.tail hY.tail (fun q => ?_)
    have := h q
    rw [co_cons, co_cons] at this
    by_cases hq : x.1 = q
    ·subst hq
     rw [co_out (fun z hz => (bf_ne ((List.pairwise_cons.1 hX.up).1 z hz)).symm), co_out (fun z hz => (bf_ne ((List.pairwise_cons.1 hY.up).1 z hz)).symm)]
    ·simpa [hq] using this
def ins (L : Int) : List Tm → Tm → List Tm
 | [], t => if t.2 % L = 0 then [] else [(t.1, t.2 % L)]
 | x :: X, t => if x.1 = t.1 then (if (x.2 + t.2) % L = 0 then X else (t.1, (x.2 + t.2) % L) :: X)
   else if bf t.1 x.1 then (if t.2 % L = 0 then x :: X else (t.1, t.2 % L) :: x :: X) else x :: ins L X t
theorem ins_mem {L : Int} {t : Tm} : ∀ {X : List Tm} {z : Tm}, z ∈ ins L X t → z.1 = t.1 ∨ z ∈ X
 | [], z, h => by
  unfold ins at h
  split at h
  ·simp at h
  ·simp at h; left; rw [h]
 | x :: X, z, h => by
  unfold ins at h
  split at h
  ·split at h
   ·right; simp [h]
   ·rcases List.mem_cons.1 h with rfl | h
    ·left; rfl
    ·right; simp [h]
  ·split at h
   ·split at h
    ·right; exact h
    ·rcases List.mem_cons.1 h with rfl | h
     ·left; rfl
     ·right; exact h
   ·rcases List.mem_cons.1 h with rfl | h
    ·right; simp
    ·rcases ins_mem h with h | h
     ·left; exact h
     ·right; simp [h]
theorem mod_nz {L a : Int} (hL : 0 < L) (h : a % L ≠ 0) : 0 < a % L ∧ a % L < L := ⟨by have := Int.emod_nonneg a (by omega : L ≠ 0); omega, Int.emod_lt_of_pos a hL⟩
theorem ins_ls {L : Int} (hL : 0 < L) {t : Tm} : ∀ {X : List Tm}, Ls L X → Ls L (ins L X t)
 | [], _ => by
  unfold ins
  split
  ·exact ⟨by simp, by simp⟩
  ·rename_i h
   exact ⟨by simp, by simp; exact mod_nz hL h⟩
 | x :: X, hX => by
  unfold ins
  have hp := List.pairwise_cons.1 hX.up
  split
  ·rename_i e
   split
   ·exact hX.tail
   ·rename_i h
    refine ⟨List.pairwise_cons.2 ⟨fun y hy => by have := hp.1 y hy; rwa [e] at this, hp.2⟩, ?_⟩
    intro z hz
    rcases List.mem_cons.1 hz with rfl | hz
    ·exact mod_nz hL h
    ·exact hX.nz z (by simp [hz])
  ·rename_i e
   split
   ·rename_i hb
    split
    ·exact hX
    ·rename_i h
     refine ⟨List.pairwise_cons.2 ⟨fun y hy => ?_, hX.up⟩, ?_⟩
     ·rcases List.mem_cons.1 hy with rfl | hy
      ·exact hb
      ·exact bf_trans hb (hp.1 y hy)
     ·intro z hz
      rcases List.mem_cons.1 hz with rfl | hz
      ·exact mod_nz hL h
      ·exact hX.nz z hz
   ·rename_i hb
    have ih := ins_ls hL (t := t) hX.tail
    have hx : bf x.1 t.1 = true := by
     cases h1 : bf x.1 t.1 with
     | true => rfl
     | false => exact absurd (bf_tri _ _ h1 (by simpa using hb)) e
    refine ⟨List.pairwise_cons.2 ⟨fun y hy => ?_, ih.up⟩, ?_⟩
    ·rcases ins_mem hy with h | h
     ·rw [h]; exact hx
     ·exact hp.1 y h
    ·intro z hz
     rcases List.mem_cons.1 hz with rfl | hz
     ·exact hX.nz _ (by simp)
     ·exact ih.nz z hz
theorem ins_co {L : Int} (t : Tm) (q : Wr) : ∀ X : List Tm, co (ins L X t) q % L = (co X q + if t.1 = q then t.2 else 0) % L
 | [] => by
  unfold ins
  split
  ·rename_i h
   simp only [co_nil]
   split
   ·simp [h]
   ·rfl
  ·simp only [co_cons, co_nil]
   split <;> simp
 | x :: X => by
  unfold ins
  have ih := ins_co (L := L) t q X
  split
  ·rename_i e
   split
   ·rename_i h
    rw [co_cons, e]
    split
    ·rw [show x.2 + co X q + t.2 = (x.2 + t.2) + co X q by omega, Int.add_emod, h]; simp
    ·simp
   ·rw [co_cons, co_cons, e]
    split
    ·simp only [Int.emod_add_emod]; congr 1; omega
    ·simp
  ·split
   ·split
    ·rename_i h
     split
     ·rw [Int.add_emod, h]; simp
     ·simp
    ·rw [co_cons (t.1, t.2 % L)]
     split
     ·simp only [Int.emod_add_emod]; congr 1; omega
     ·simp
   ·rw [co_cons, co_cons, Int.add_emod, ih, ← Int.add_emod]; congr 1; omega
def lf (L : Int) (X : List Tm) : List Tm := X.foldl (ins L) []
theorem foldl_ls {L : Int} (hL : 0 < L) (Y : List Tm) : ∀ {X : List Tm}, Ls L X → Ls L (Y.foldl (ins L) X) := by
 induction Y with
 | nil => intro X h; exact h
 | cons y Y ih => intro X h; exact ih (ins_ls hL h)
theorem foldl_co {L : Int} (Y : List Tm) (q : Wr) : ∀ X : List Tm, co (Y.foldl (ins L) X) q % L = (co X q + co Y q) % L := by
 induction Y with
 | nil => intro X; simp [co]
 | cons y Y ih =>
  intro X
  rw [List.foldl_cons, ih, Int.add_emod, ins_co, ← Int.add_emod, co_cons]
  congr 1; omega
theorem ls_nil (L : Int) : Ls L [] := ⟨by simp, by simp⟩
theorem lf_ls {L : Int} (hL : 0 < L) (X : List Tm) : Ls L (lf L X) := foldl_ls hL X (ls_nil L)
theorem lf_eqm {L : Int} (X : List Tm) : Eqm L (lf L X) X := fun q => by unfold lf; rw [foldl_co]; simp [co]
theorem lf_app {L : Int} (X Y : List Tm) : Y.foldl (ins L) (lf L X) = lf L (X ++ Y) := by simp [lf, List.foldl_append]
theorem lf_only {L : Int} (hL : 0 < L) {X Y : List Tm} (hX : Ls L X) (h : Eqm L X Y) : X = lf L Y := Ls.only hX (lf_ls hL Y) (h.trans (lf_eqm Y).symm)
theorem lf_congr {L : Int} (hL : 0 < L) {X Y : List Tm} (h : Eqm L X Y) : lf L X = lf L Y := lf_only hL (lf_ls hL X) ((lf_eqm X).trans h)
end Go.Proofs.YtghcfcglakbkeaaGreatDoor.Cm
namespace Go.Proofs.YtghcfcglakbkeaaGreatDoor
open Go.RowKit
set_option linter.unusedVariables false
open Cm (Wr Tm co bf Ls lf ins Eqm)
structure Trm where
 q : Wr
 a : E4
def Trm.cs (t : Trm) : List Value := [.int .i64 t.q.1, .int .i64 t.q.2, .int .u64 t.a.x0, .int .u64 t.a.x1, .int .u64 t.a.x2, .int .u64 t.a.x3]
def tvs (n : Nat) (f : Nat → Trm) : List Value := (List.range n).flatMap fun k => (f k).cs
theorem tvs_zero (f : Nat → Trm) : tvs 0 f = [] := rfl
theorem tvs_succ (n : Nat) (f : Nat → Trm) : tvs (n + 1) f = tvs n f ++ (f n).cs := by simp [tvs, List.range_succ]
theorem tvs_len (n : Nat) (f : Nat → Trm) : (tvs n f).length = n * 6 := by
 induction n with
 | zero => rfl
 | succ n ih => rw [tvs_succ, List.length_append, ih]; simp [Trm.cs]; omega
theorem tvs_congr {n : Nat} {f g : Nat → Trm} (h : ∀ k, k < n → f k = g k) : tvs n f = tvs n g := by
 induction n with
 | zero => rfl
 | succ n ih => rw [tvs_succ, tvs_succ, ih (fun k hk => h k (by omega)), h n (by omega)]
theorem tvs_one (n : Nat) (f : Nat → Trm) : ∀ u ∈ tvs n f, u.oneCell' = true := by
 induction n with
 | zero => intro u hu; simp [tvs] at hu
 | succ n ih =>
  intro u hu
  rw [tvs_succ] at hu
  rcases List.mem_append.1 hu with h | h
  ·exact ih u h
  ·simp only [Trm.cs, List.mem_cons, List.not_mem_nil, or_false] at h
   rcases h with rfl | rfl | rfl | rfl | rfl | rfl <;> rfl
structure Rt (w : World) (b o n : Nat) (f : Nat → Trm) : Prop where
 c0 : ∀ k, k < n → w.cell? ⟨b, o + k * 6, none⟩ = some (.int .i64 (f k).q.1)
 c1 : ∀ k, k < n → w.cell? ⟨b, o + k * 6 + 1, none⟩ = some (.int .i64 (f k).q.2)
 c2 : ∀ k, k < n → w.cell? ⟨b, o + k * 6 + 2, none⟩ = some (.int .u64 (f k).a.x0)
 c3 : ∀ k, k < n → w.cell? ⟨b, o + k * 6 + 3, none⟩ = some (.int .u64 (f k).a.x1)
 c4 : ∀ k, k < n → w.cell? ⟨b, o + k * 6 + 4, none⟩ = some (.int .u64 (f k).a.x2)
 c5 : ∀ k, k < n → w.cell? ⟨b, o + k * 6 + 5, none⟩ = some (.int .u64 (f k).a.x3)
theorem ckeep {w1 w2 : World} {b o : Nat} {v : Value} (h : w1.cell? ⟨b, o, none⟩ = some v) (hb : Below w1.heap.size w1 w2) : w2.cell? ⟨b, o, none⟩ = some v := cell_keep h hb
theorem Rt.keep {w1 w2 : World} {b o n : Nat} {f : Nat → Trm} (h : Rt w1 b o n f) (hb : Below w1.heap.size w1 w2) : Rt w2 b o n f :=
 ⟨fun k hk => ckeep (h.c0 k hk) hb, fun k hk => ckeep (h.c1 k hk) hb, fun k hk => ckeep (h.c2 k hk) hb, fun k hk => ckeep (h.c3 k hk) hb, fun k hk => ckeep (h.c4 k hk) hb, fun k hk => ckeep (h.c5 k hk) hb⟩
theorem Rt.less {w : World} {b o n m : Nat} {f : Nat → Trm} (h : Rt w b o n f) (hm : m ≤ n) : Rt w b o m f :=
 ⟨fun k hk => h.c0 k (by omega), fun k hk => h.c1 k (by omega), fun k hk => h.c2 k (by omega), fun k hk => h.c3 k (by omega), fun k hk => h.c4 k (by omega), fun k hk => h.c5 k (by omega)⟩
theorem Rt.congr {w : World} {b o n : Nat} {f g : Nat → Trm} (h : Rt w b o n f) (e : ∀ k, k < n → f k = g k) : Rt w b o n g :=
 ⟨fun k hk => by rw [← e k hk]; exact h.c0 k hk, fun k hk => by rw [← e k hk]; exact h.c1 k hk, fun k hk => by rw [← e k hk]; exact h.c2 k hk, fun k hk => by rw [← e k hk]; exact h.c3 k hk, fun k hk => by rw [← e k hk]; exact h.c4 k hk, fun k hk => by rw [← e k hk]; exact h.c5 k hk⟩
theorem rt_cells {w : World} {b o m : Nat} {f : Nat → Trm} (h : Rt w b o m f) (n : Nat) (hn : n ≤ m) : ∀ j u, (tvs n f)[j]? = some u → w.cell? ⟨b, o + j, none⟩ = some u := by
 induction n with
 | zero => intro j u hu; simp [tvs] at hu
 | succ n ih =>
  intro j u hu
  rw [tvs_succ] at hu
  by_cases hj : j < n * 6
  ·rw [List.getElem?_append_left (by rw [tvs_len]; exact hj)] at hu
   exact ih (by omega) j u hu
  ·rw [List.getElem?_append_right (by rw [tvs_len]; omega), tvs_len] at hu
   obtain ⟨d, hd⟩ : ∃ d, j = n * 6 + d := ⟨j - n * 6, by omega⟩
   subst hd
   rw [show n * 6 + d - n * 6 = d by omega] at hu
   match d, hu with
   | 0, hu => simp [Trm.cs] at hu; rw [← hu]; exact h.c0 n (by omega)
   | 1, hu => simp [Trm.cs] at hu; rw [← hu]; exact h.c1 n (by omega)
   | 2, hu => simp [Trm.cs] at hu; rw [← hu]; exact h.c2 n (by omega)
   | 3, hu => simp [Trm.cs] at hu; rw [← hu]; exact h.c3 n (by omega)
   | 4, hu => simp [Trm.cs] at hu; rw [← hu]; exact h.c4 n (by omega)
   | 5, hu => simp [Trm.cs] at hu; rw [← hu]; exact h.c5 n (by omega)
theorem tvs_get (n : Nat) (f : Nat → Trm) (k j : Nat) (hk : k < n) (hj : j < 6) : (tvs n f)[k * 6 + j]? = (f k).cs[j]? := by
 induction n with
 | zero => omega
 | succ n ih =>
  rw [tvs_succ]
  by_cases h : k < n
  ·rw [List.getElem?_append_left (by rw [tvs_len]; omega)]
   exact ih h
  ·obtain rfl : k = n := by omega
   rw [List.getElem?_append_right (by rw [tvs_len]; omega), tvs_len, show k * 6 + j - k * 6 = j by omega]
theorem cells_rt {w : World} {b o n : Nat} {f : Nat → Trm} (h : ∀ j u, (tvs n f)[j]? = some u → w.cell? ⟨b, o + j, none⟩ = some u) : Rt w b o n f :=
 ⟨fun k hk => by have := h (k * 6 + 0) _ (by rw [tvs_get n f k 0 hk (by omega)]; rfl); simpa using this,
 fun k hk => by have := h (k * 6 + 1) _ (by rw [tvs_get n f k 1 hk (by omega)]; rfl); rwa [← Nat.add_assoc] at this,
 fun k hk => by have := h (k * 6 + 2) _ (by rw [tvs_get n f k 2 hk (by omega)]; rfl); rwa [← Nat.add_assoc] at this,
 fun k hk => by have := h (k * 6 + 3) _ (by rw [tvs_get n f k 3 hk (by omega)]; rfl); rwa [← Nat.add_assoc] at this,
 fun k hk => by have := h (k * 6 + 4) _ (by rw [tvs_get n f k 4 hk (by omega)]; rfl); rwa [← Nat.add_assoc] at this,
 fun k hk => by have := h (k * 6 + 5) _ (by rw [tvs_get n f k 5 hk (by omega)]; rfl); rwa [← Nat.add_assoc] at this⟩
def Lt (w : World) (P : Option Addr) (n : Nat) (f : Nat → Trm) : Prop := ∃ sb so : Nat, (0 < n → P = some ⟨sb, so, none⟩) ∧ (0 < n → Rt w sb so n f)
theorem Lt.keep {w1 w2 : World} {P : Option Addr} {n : Nat} {f : Nat → Trm} (h : Lt w1 P n f) (hb : Below w1.heap.size w1 w2) : Lt w2 P n f := by
 obtain ⟨sb, so, h1, h2⟩ := h
 exact ⟨sb, so, h1, fun hl => (h2 hl).keep hb⟩
theorem Lt.less {w : World} {P : Option Addr} {n m : Nat} {f : Nat → Trm} (h : Lt w P n f) (hm : m ≤ n) : Lt w P m f := by
 obtain ⟨sb, so, h1, h2⟩ := h
 exact ⟨sb, so, fun hl => h1 (by omega), fun hl => (h2 (by omega)).less hm⟩
theorem Lt.congr {w : World} {P : Option Addr} {n : Nat} {f g : Nat → Trm} (h : Lt w P n f) (e : ∀ k, k < n → f k = g k) : Lt w P n g := by
 obtain ⟨sb, so, h1, h2⟩ := h
 exact ⟨sb, so, h1, fun hl => (h2 hl).congr e⟩
theorem Lt.none (w : World) (f : Nat → Trm) : Lt w none 0 f := ⟨0, 0, fun h => by omega, fun h => by omega⟩
theorem own_rt {w : World} {base n g c : Nat} {t : TypeId} {f : Nat → Trm} (h : w.ownsRow base t 6 (.slice (some ⟨g, 0, none⟩) n c) n (tvs n f)) : Rt w g 0 n f :=
 cells_rt (fun j u hu => by have := h.cells (g := g) rfl j u hu; rwa [Addr.add_mid] at this)
theorem own_shT {w : World} {base n : Nat} {t : TypeId} {v : Value} {xs : List Value} (h : w.ownsRow base t 6 v n xs) : ∃ (P : Option Addr) (c : Nat), v = .slice P n c ∧ n ≤ c ∧ (0 < n → ∃ g, P = some ⟨g, 0, none⟩) := by
 rcases h.2 with ⟨h1, h2⟩ | ⟨g, c, cur, h1, _, _, h4, _⟩
 ·exact ⟨none, 0, by rw [h1, h2], by omega, fun h => by omega⟩
 ·exact ⟨_, c, h1, h4, fun _ => ⟨g, rfl⟩⟩
theorem own_lt {w : World} {base n c : Nat} {t : TypeId} {P : Option Addr} {f : Nat → Trm} (h : w.ownsRow base t 6 (.slice P n c) n (tvs n f)) : Lt w P n f := by
 obtain ⟨P', c', e, _, hg⟩ := own_shT h
 simp only [Value.slice.injEq, true_and] at e
 obtain ⟨rfl, rfl⟩ := e
 by_cases h0 : 0 < n
 ·obtain ⟨g, rfl⟩ := hg h0
  exact ⟨g, 0, fun _ => rfl, fun _ => own_rt h⟩
 ·exact ⟨0, 0, fun h => absurd h h0, fun h => absurd h h0⟩
def tmOf (x : Tm) : Trm := ⟨x.1, lst x.2⟩
def ft (X : List Tm) (k : Nat) : Trm := tmOf (X.getD k ((0, 0), 0))
def tls (X : List Tm) : List Value := tvs X.length (ft X)
theorem tls_nil : tls [] = [] := rfl
theorem tls_snoc (X : List Tm) (x : Tm) : tls (X ++ [x]) = tls X ++ (tmOf x).cs := by
 unfold tls
 rw [List.length_append, List.length_singleton, tvs_succ]
 congr 1
 ·refine tvs_congr (fun k hk => ?_)
  unfold ft
  rw [List.getD_eq_getElem?_getD, List.getD_eq_getElem?_getD, List.getElem?_append_left hk]
 ·unfold ft
  rw [List.getD_eq_getElem?_getD, List.getElem?_append_right (Nat.le_refl _)]
  simp
theorem tls_map (X : List Tm) : tls X = X.flatMap fun x => (tmOf x).cs := by
 have h : ∀ Y Z : List Tm, tls (Y ++ Z) = tls Y ++ Z.flatMap fun x => (tmOf x).cs := by
  intro Y Z
  induction Z generalizing Y with
  | nil => simp
  | cons z Z ih =>
   have := ih (Y ++ [z])
   rw [tls_snoc] at this
   simpa using this
 simpa [tls_nil] using h [] X
theorem own_lts {w : World} {base c : Nat} {t : TypeId} {P : Option Addr} {X : List Tm} (h : w.ownsRow base t 6 (.slice P X.length c) X.length (tls X)) : Lt w P X.length (ft X) := own_lt h
end Go.Proofs.YtghcfcglakbkeaaGreatDoor
