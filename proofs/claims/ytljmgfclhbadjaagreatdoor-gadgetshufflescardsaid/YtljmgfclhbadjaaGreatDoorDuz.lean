import Derived.Test.YtljmgfclhbadjaaGreatDoorNtl
namespace Go.Proofs.YtljmgfclhbadjaaGreatDoor.Sh
open Nt (Prime)
def pr : List Int → Int → Int
 | [], _ => 1
 | x :: X, r => (x - r) * pr X r
theorem pr_app (A B : List Int) (r : Int) : pr (A ++ B) r = pr A r * pr B r := by
 induction A with
 | nil => simp [pr]
 | cons a A ih => simp only [List.cons_append, pr, ih, Int.mul_assoc]
def D : Nat → (Int → Int) → Prop
 | 0, f => ∀ r, f r = 0
 | n + 1, f => ∃ a g, D n g ∧ ∀ r, f r = a + r * g r
theorem D.congr {n : Nat} {f g : Int → Int} (h : D n f) (e : ∀ r, g r = f r) : D n g := by
 cases n with
 | zero => intro r; rw [e]; exact h r
 | succ n =>
  obtain ⟨a, k, h1, h2⟩ := h
  exact ⟨a, k, h1, fun r => by rw [e, h2]⟩
theorem D.zero : ∀ n, D n (fun _ => 0)
 | 0 => fun _ => rfl
 | n + 1 => ⟨0, fun _ => 0, D.zero n, fun r => by simp⟩
theorem D.up : ∀ {n : Nat} {f : Int → Int}, D n f → D (n + 1) f
 | 0, f, h => ⟨0, fun _ => 0, fun _ => rfl, fun r => by rw [h r]; simp⟩
 | n + 1, f, h => by
  obtain ⟨a, g, h1, h2⟩ := h
  exact ⟨a, g, h1.up, h2⟩
theorem D.le {n m : Nat} {f : Int → Int} (h : D n f) (hm : n ≤ m) : D m f := by
 induction m with
 | zero =>
  obtain rfl : n = 0 := by omega
  exact h
 | succ m ih =>
  by_cases e : n = m + 1
  ·subst e; exact h
  ·exact (ih (by omega)).up
theorem D.add : ∀ {n : Nat} {f g : Int → Int}, D n f → D n g → D n (fun r => f r + g r)
 | 0, f, g, h, k => fun r => by show f r + g r = 0; rw [h r, k r]; rfl
 | n + 1, f, g, h, k => by
  obtain ⟨a, f1, h1, h2⟩ := h
  obtain ⟨b, g1, k1, k2⟩ := k
  refine ⟨a + b, _, h1.add k1, fun r => ?_⟩
  show f r + g r = _
  rw [h2, k2, Int.mul_add]
  omega
theorem D.mul : ∀ {n : Nat} {f : Int → Int} (c : Int), D n f → D n (fun r => c * f r)
 | 0, f, c, h => fun r => by show c * f r = 0; rw [h r]; simp
 | n + 1, f, c, h => by
  obtain ⟨a, f1, h1, h2⟩ := h
  refine ⟨c * a, _, h1.mul c, fun r => ?_⟩
  show c * f r = _
  rw [h2, Int.mul_add, Int.mul_left_comm]
theorem D.sub {n : Nat} {f g : Int → Int} (h : D n f) (k : D n g) : D n (fun r => f r - g r) := (h.add (k.mul (-1))).congr (fun r => by omega)
theorem D.x {n : Nat} {f : Int → Int} (h : D n f) : D (n + 1) (fun r => r * f r) := ⟨0, f, h, fun r => by simp⟩
theorem D.fac {n : Nat} {f : Int → Int} (a : Int) (h : D n f) : D (n + 1) (fun r => (a - r) * f r) := ((h.mul a).up.sub h.x).congr (fun r => by rw [Int.sub_mul])
theorem D.pm {m : Nat} {f : Int → Int} (h : D m f) : ∀ A : List Int, D (m + A.length) (fun r => pr A r * f r)
 | [] => h.congr (fun r => by simp [Sh.pr])
 | a :: A => ((D.pm h A).fac a).congr (fun r => by simp [Sh.pr, Int.mul_assoc])
theorem D.one : D 1 (fun _ => 1) := ⟨1, fun _ => 0, fun _ => rfl, fun r => by simp⟩
theorem D.prs (A : List Int) : D (A.length + 1) (fun r => Sh.pr A r) := ((D.one.pm A).congr (fun r => by simp)).le (by omega)
theorem D.dif : ∀ (X Y : List Int), X.length = Y.length → D X.length (fun r => Sh.pr X r - Sh.pr Y r)
 | [], [], _ => fun r => by simp [Sh.pr]
 | [], y :: Y, h => by simp at h
 | x :: X, [], h => by simp at h
 | x :: X, y :: Y, h => by
  have hl : X.length = Y.length := by simpa using h
  have h1 := (D.prs X).mul x
  have h2 := (D.prs Y).mul y
  rw [← hl] at h2
  have h3 := (D.dif X Y hl).x
  exact ((h1.sub h2).sub h3).congr (fun r => by
   show (x - r) * Sh.pr X r - (y - r) * Sh.pr Y r = x * Sh.pr X r - y * Sh.pr Y r - r * (Sh.pr X r - Sh.pr Y r)
   rw [Int.sub_mul, Int.sub_mul, Int.mul_sub]
   omega)
theorem D.root : ∀ {n : Nat} {f : Int → Int}, D (n + 1) f → ∀ a, ∃ g, D n g ∧ ∀ r, f r = f a + (r - a) * g r
 | 0, f, h, a => by
  obtain ⟨c, g, h1, h2⟩ := h
  refine ⟨fun _ => 0, fun _ => rfl, fun r => ?_⟩
  rw [h2, h2, h1 r, h1 a]
  simp
 | n + 1, f, h, a => by
  obtain ⟨c, g, h1, h2⟩ := h
  obtain ⟨k, k1, k2⟩ := D.root h1 a
  refine ⟨fun r => g r + a * k r, h1.add (k1.up.mul a), fun r => ?_⟩
  rw [h2, h2 a]
  show c + r * g r = c + a * g a + (r - a) * (g r + a * k r)
  have e := k2 r
  have e1 : r * g r = r * (g a + (r - a) * k r) := by rw [← e]
  have e2 : (r - a) * (g r + a * k r) = (r - a) * g r + a * ((r - a) * k r) := by rw [Int.mul_add, Int.mul_left_comm]
  have e3 : (r - a) * g r = r * g r - a * g r := Int.sub_mul _ _ _
  have e4 : a * g r = a * g a + a * ((r - a) * k r) := by rw [e, Int.mul_add]
  omega
variable {p : Nat}
theorem eu (hp : Prime p) {a b : Int} (h : (p : Int) ∣ a * b) : (p : Int) ∣ a ∨ (p : Int) ∣ b := by
 have h1 : p ∣ a.natAbs * b.natAbs := by
  rw [← Int.natAbs_mul]
  exact Int.natCast_dvd_natCast.1 (by rw [Int.dvd_natAbs]; exact h)
 rcases hp.euclid h1 with e | e
 ·exact .inl (Int.dvd_natAbs.1 (Int.natCast_dvd_natCast.2 e))
 ·exact .inr (Int.dvd_natAbs.1 (Int.natCast_dvd_natCast.2 e))
theorem D.all (hp : Prime p) : ∀ {n : Nat} {f : Int → Int}, D n f → ∀ R : List Int, R.length = n → R.Pairwise (fun a b => ¬ (p : Int) ∣ a - b) → (∀ a ∈ R, (p : Int) ∣ f a) → ∀ r, (p : Int) ∣ f r
 | 0, f, h, R, _, _, _, r => by rw [h r]; exact Int.dvd_zero _
 | n + 1, f, h, [], hl, _, _, r => by simp at hl
 | n + 1, f, h, a :: R, hl, hd, hz, r => by
  obtain ⟨g, g1, g2⟩ := h.root a
  have hd2 := List.pairwise_cons.1 hd
  have fa := hz a (by simp)
  have hg := D.all hp g1 R (by simpa using hl) hd2.2 (fun b hb => by
   have h1 : (p : Int) ∣ (b - a) * g b := by
    have e : (b - a) * g b = f b - f a := by rw [g2 b]; omega
    rw [e]
    exact Int.dvd_sub (hz b (by simp [hb])) fa
   rcases eu hp h1 with e | e
   ·exact absurd (by have := (Int.dvd_neg (a := (p : Int)) (b := b - a)).2 e; rwa [show -(b - a) = a - b by omega] at this) (hd2.1 b hb)
   ·exact e) r
  rw [g2 r]
  exact Int.dvd_add fa (Int.dvd_trans hg (Int.dvd_mul_left _ _))
theorem D.cut (hp : Prime p) {m : Nat} {f : Int → Int} (hf : D m f) (hm : m < p) (a : Int) (h : ∀ r, (p : Int) ∣ (a - r) * f r) : ∀ r, (p : Int) ∣ f r := by
 refine D.all hp hf ((List.range m).map fun i : Nat => a + 1 + (i : Int)) (by simp) ?_ ?_
 ·rw [List.pairwise_map]
  refine List.Pairwise.imp_of_mem ?_ (List.pairwise_lt_range (n := m))
  intro i j hi hj hij hd
  simp only [List.mem_range] at hi hj
  have h1 : (p : Int) ∣ (j : Int) - i := by
   have h9 := Int.dvd_neg.2 hd
   rwa [show -(a + 1 + (i : Int) - (a + 1 + (j : Int))) = (j : Int) - i by omega] at h9
  have h2 := Int.le_of_dvd (by omega) h1
  omega
 ·intro b hb
  simp only [List.mem_map, List.mem_range] at hb
  obtain ⟨i, hi, rfl⟩ := hb
  rcases eu hp (h _) with e | e
  ·exfalso
   have e2 : (p : Int) ∣ (i : Int) + 1 := by
    have := (Int.dvd_neg (a := (p : Int)) (b := a - (a + 1 + (i : Int)))).2 e
    rwa [show -(a - (a + 1 + (i : Int))) = (i : Int) + 1 by omega] at this
   have := Int.le_of_dvd (by omega) e2
   omega
  ·exact e
theorem D.cuts (hp : Prime p) : ∀ (A : List Int) {m : Nat} {f : Int → Int}, D m f → m + A.length < p → (∀ r, (p : Int) ∣ pr A r * f r) → ∀ r, (p : Int) ∣ f r
 | [], m, f, hf, hm, h => fun r => by have := h r; simpa [Sh.pr] using this
 | a :: A, m, f, hf, hm, h => by
  simp only [List.length_cons] at hm
  exact D.cuts hp A hf (by omega) (D.cut hp (D.pm hf A) (by omega) a (fun r => by have := h r; rwa [Sh.pr, Int.mul_assoc] at this))
theorem pr_zero (hp : Prime p) : ∀ (A : List Int) (r : Int), (p : Int) ∣ pr A r → ∃ a ∈ A, (p : Int) ∣ a - r
 | [], r, h => by
  exfalso
  have h1 := Int.le_of_dvd (show (0 : Int) < 1 by decide) h
  have := hp.1
  omega
 | a :: A, r, h => by
  rcases eu hp h with e | e
  ·exact ⟨a, by simp, e⟩
  ·obtain ⟨b, hb, e⟩ := pr_zero hp A r e
   exact ⟨b, by simp [hb], e⟩
def Agr (p : Nat) (X Y : List Int) : Prop := ∀ r, (p : Int) ∣ pr X r - pr Y r
theorem Agr.left (hp : Prime p) {A X Y B : List Int} (h : Agr p (A ++ X) Y) (h2 : ∀ r, (p : Int) ∣ pr A r * pr B r - pr Y r) (hl : X.length = B.length) (hm : X.length + A.length < p) : Agr p X B := by
 intro r
 refine D.cuts hp A (D.dif X B hl) hm (fun r => ?_) r
 have h1 := Int.dvd_sub (h r) (h2 r)
 rw [pr_app] at h1
 rw [Int.mul_sub]
 have e : pr A r * pr X r - pr Y r - (pr A r * pr B r - pr Y r) = pr A r * pr X r - pr A r * pr B r := by omega
 rwa [e] at h1
theorem Agr.some (hp : Prime p) {A X Y B : List Int} {x : Int} (h : Agr p (A ++ x :: X) Y) (h2 : ∀ r, (p : Int) ∣ pr A r * pr B r - pr Y r) (hl : X.length + 1 = B.length) (hm : X.length + 1 + A.length < p) : ∃ b ∈ B, (p : Int) ∣ b - x := by
 have h3 := Agr.left hp h h2 (by simpa using hl) (by simpa using hm) x
 have e : pr (x :: X) x = 0 := by simp [pr]
 rw [e, Int.zero_sub] at h3
 exact pr_zero hp B x (Int.dvd_neg.1 h3)
theorem Agr.of (hp : Prime p) {X Y : List Int} (hl : X.length = Y.length) (R : List Int) (hR : X.length ≤ R.length) (hd : R.Pairwise (fun a b => ¬ (p : Int) ∣ a - b)) (hz : ∀ a ∈ R, (p : Int) ∣ pr X a - pr Y a) : Agr p X Y :=
 D.all hp (D.dif X Y hl) (R.take X.length) (by simp; omega) (hd.sublist (List.take_sublist _ _)) (fun a ha => hz a (List.mem_of_mem_take ha))
end Go.Proofs.YtljmgfclhbadjaaGreatDoor.Sh
namespace Go.Proofs.YtljmgfclhbadjaaGreatDoor.Sh
open Nt (Prime)
def la (X : Nat → Int) (n : Nat) : List Int := (List.range n).map X
theorem la_succ (X : Nat → Int) (n : Nat) : la X (n + 1) = la X n ++ [X n] := by simp [la, List.range_succ]
theorem la_len (X : Nat → Int) (n : Nat) : (la X n).length = n := by simp [la]
theorem la_split (X : Nat → Int) {i n : Nat} (h : i < n) : ∃ R, la X n = la X i ++ X i :: R ∧ R.length + 1 + i = n := by
 refine ⟨(la X n).drop (i + 1), ?_, by simp [la_len]; omega⟩
 have e1 : (la X n).take i = la X i := by
  simp only [la, ← List.map_take, List.take_range]
  congr 2
  omega
 have e2 : (la X n).drop i = X i :: (la X n).drop (i + 1) := by
  rw [List.drop_eq_getElem_cons (by rw [la_len]; exact h)]
  simp [la]
 rw [← e1, ← e2, List.take_append_drop]
def un (Y : Nat → Int) (u : Nat → Bool) : Nat → List Int
 | 0 => []
 | n + 1 => if u n then un Y u n else un Y u n ++ [Y n]
def us (u : Nat → Bool) (j : Nat) : Nat → Bool := fun k => if k = j then true else u k
theorem un_all (Y : Nat → Int) : ∀ n, un Y (fun _ => false) n = la Y n
 | 0 => rfl
 | n + 1 => by rw [la_succ, ← un_all Y n]; rfl
theorem un_congr {Y : Nat → Int} {u v : Nat → Bool} : ∀ n, (∀ k, k < n → u k = v k) → un Y u n = un Y v n
 | 0, _ => rfl
 | n + 1, h => by
  show (if u n then _ else _) = (if v n then _ else _)
  rw [h n (by omega), un_congr n (fun k hk => h k (by omega))]
theorem un_mem {Y : Nat → Int} {u : Nat → Bool} {b : Int} : ∀ {n}, b ∈ un Y u n → ∃ j, j < n ∧ u j = false ∧ b = Y j
 | 0, h => by cases h
 | n + 1, h => by
  change b ∈ (if u n then un Y u n else un Y u n ++ [Y n]) at h
  by_cases e : u n = true
  ·rw [if_pos e] at h
   obtain ⟨j, h1, h2⟩ := un_mem h
   exact ⟨j, by omega, h2⟩
  ·rw [if_neg e] at h
   rcases List.mem_append.1 h with h | h
   ·obtain ⟨j, h1, h2⟩ := un_mem h
    exact ⟨j, by omega, h2⟩
   ·exact ⟨n, by omega, by simpa using e, List.mem_singleton.1 h⟩
theorem un_set {Y : Nat → Int} {u : Nat → Bool} {j : Nat} (hu : u j = false) : ∀ {n}, j < n → (∀ r, pr (un Y u n) r = (Y j - r) * pr (un Y (us u j) n) r) ∧ (un Y u n).length = (un Y (us u j) n).length + 1
 | 0, h => absurd h (Nat.not_lt_zero _)
 | n + 1, h => by
  show (∀ r, pr (if u n then un Y u n else un Y u n ++ [Y n]) r = (Y j - r) * pr (if us u j n then un Y (us u j) n else un Y (us u j) n ++ [Y n]) r) ∧ (if u n then un Y u n else un Y u n ++ [Y n]).length = (if us u j n then un Y (us u j) n else un Y (us u j) n ++ [Y n]).length + 1
  by_cases e : j = n
  ·subst e
   have e1 : us u j j = true := if_pos rfl
   have e2 : un Y (us u j) j = un Y u j := un_congr j (fun k hk => if_neg (by omega))
   rw [hu, e1, e2]
   refine ⟨fun r => ?_, ?_⟩
   ·show pr (un Y u j ++ [Y j]) r = (Y j - r) * pr (un Y u j) r
    rw [pr_app, Int.mul_comm]
    show (Y j - r) * 1 * _ = _
    rw [Int.mul_one]
   ·show (un Y u j ++ [Y j]).length = _
    simp
  ·obtain ⟨i1, i2⟩ := un_set (Y := Y) hu (show j < n by omega)
   have e1 : us u j n = u n := if_neg (fun e9 => e e9.symm)
   rw [e1]
   by_cases e3 : u n = true
   ·rw [if_pos e3, if_pos e3]
    exact ⟨i1, i2⟩
   ·rw [if_neg e3, if_neg e3]
    refine ⟨fun r => ?_, by simp [i2]⟩
    rw [pr_app, pr_app, i1, Int.mul_assoc]
variable {p : Nat}
structure Gr (p : Nat) (X Y : Nat → Int) (n i : Nat) (u : Nat → Bool) : Prop where
 c : ∀ r, (p : Int) ∣ pr (la X i) r * pr (un Y u n) r - pr (la Y n) r
 l : (un Y u n).length + i = n
theorem Gr.start (X Y : Nat → Int) (n : Nat) : Gr p X Y n 0 (fun _ => false) := ⟨fun r => by
 rw [un_all]
 show (p : Int) ∣ 1 * _ - _
 rw [Int.one_mul, Int.sub_self]
 exact Int.dvd_zero _, by rw [un_all, la_len]; rfl⟩
theorem Gr.next {X Y : Nat → Int} {n i j : Nat} {u : Nat → Bool} (h : Gr p X Y n i u) (hj : j < n) (hu : u j = false) (e : (p : Int) ∣ Y j - X i) : Gr p X Y n (i + 1) (us u j) := by
 obtain ⟨s1, s2⟩ := un_set (Y := Y) hu hj
 refine ⟨fun r => ?_, by have := h.l; omega⟩
 have h1 := h.c r
 rw [s1 r] at h1
 rw [la_succ, pr_app]
 have e1 : pr [X i] r = X i - r := by show (X i - r) * 1 = _; rw [Int.mul_one]
 rw [e1]
 have h2 : (p : Int) ∣ pr (la X i) r * pr (un Y (us u j) n) r * (Y j - X i) := Int.dvd_trans e (Int.dvd_mul_left _ _)
 have h3 := Int.dvd_sub h1 h2
 have e3 : pr (la X i) r * ((Y j - r) * pr (un Y (us u j) n) r) - pr (la Y n) r - pr (la X i) r * pr (un Y (us u j) n) r * (Y j - X i) = pr (la X i) r * (X i - r) * pr (un Y (us u j) n) r - pr (la Y n) r := by
  generalize pr (la X i) r = a
  generalize pr (un Y (us u j) n) r = b
  have e4 : a * ((Y j - r) * b) = a * b * (Y j - r) := by rw [Int.mul_assoc, Int.mul_comm (Y j - r) b]
  have e5 : a * (X i - r) * b = a * b * (X i - r) := by rw [Int.mul_assoc, Int.mul_comm (X i - r) b, Int.mul_assoc]
  rw [e4, e5]
  have e6 : a * b * (Y j - r) - a * b * (Y j - X i) = a * b * (X i - r) := by rw [← Int.mul_sub]; congr 1; omega
  omega
 rwa [e3] at h3
theorem Gr.done {X Y : Nat → Int} {n : Nat} {u : Nat → Bool} (h : Gr p X Y n n u) : Agr p (la X n) (la Y n) := fun r => by
 have e : un Y u n = [] := List.eq_nil_of_length_eq_zero (by have := h.l; omega)
 have := h.c r
 rw [e] at this
 show (p : Int) ∣ _
 have e1 : pr ([] : List Int) r = 1 := rfl
 rwa [e1, Int.mul_one] at this
theorem Gr.none (hp : Prime p) {X Y : Nat → Int} {n i : Nat} {u : Nat → Bool} (h : Gr p X Y n i u) (hi : i < n) (hn : n < p) (hz : ∀ j, j < n → u j = false → ¬ (p : Int) ∣ Y j - X i) : ¬ Agr p (la X n) (la Y n) := fun ha => by
 obtain ⟨R, e, l⟩ := la_split X hi
 rw [e] at ha
 obtain ⟨b, hb, hd⟩ := Agr.some hp ha h.c (by have := h.l; omega) (by rw [la_len]; omega)
 obtain ⟨j, h1, h2, rfl⟩ := un_mem hb
 exact hz j h1 h2 hd
end Go.Proofs.YtljmgfclhbadjaaGreatDoor.Sh
