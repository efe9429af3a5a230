import Derived.Test.YtaejedhdpilhjaaDoorSia
import Derived.Test.YtaejedhdpilhjaaDoorStr
import Derived.Test.YtaejedhdpilhjaaDoorSRR
import Derived.Test.YtaejedhdpilhjaaDoorSsb
import Derived.Maps.AppendAt
import Derived.Laws.AppendOwnNone
namespace Go.Proofs.YtaejedhdpilhjaaDoor
open Go.RowKit
/-- limbs that lie from an address on -/
structure Rl (w : World) (b o n : Nat) (g : Nat → E4) : Prop where
  c0 : ∀ k, k < n → w.cell? ⟨b, o + k * 4, none⟩ = some (.int .u64 (g k).x0)
  c1 : ∀ k, k < n → w.cell? ⟨b, o + k * 4 + 1, none⟩ = some (.int .u64 (g k).x1)
  c2 : ∀ k, k < n → w.cell? ⟨b, o + k * 4 + 2, none⟩ = some (.int .u64 (g k).x2)
  c3 : ∀ k, k < n → w.cell? ⟨b, o + k * 4 + 3, none⟩ = some (.int .u64 (g k).x3)
theorem Rl.keep {w1 w2 : World} {b o n : Nat} {g : Nat → E4} (h : Rl w1 b o n g) (hb : Below w1.heap.size w1 w2) : Rl w2 b o n g :=
  ⟨fun k hk => cell_keep (h.c0 k hk) hb, fun k hk => cell_keep (h.c1 k hk) hb, fun k hk => cell_keep (h.c2 k hk) hb, fun k hk => cell_keep (h.c3 k hk) hb⟩
theorem Rl.less {w : World} {b o n m : Nat} {g : Nat → E4} (h : Rl w b o n g) (hm : m ≤ n) : Rl w b o m g :=
  ⟨fun k hk => h.c0 k (by omega), fun k hk => h.c1 k (by omega), fun k hk => h.c2 k (by omega), fun k hk => h.c3 k (by omega)⟩
theorem Rws.rl {w : World} {b n : Nat} {g : Nat → E4} (h : Rws w b n g) : Rl w b 0 n g :=
  ⟨fun k hk => by rw [Nat.zero_add]; exact h.c0 k hk, fun k hk => by rw [Nat.zero_add]; exact h.c1 k hk, fun k hk => by rw [Nat.zero_add]; exact h.c2 k hk, fun k hk => by rw [Nat.zero_add]; exact h.c3 k hk⟩
/-- a list of limbs -/
def Lm (w : World) (P : Option Addr) (n : Nat) (g : Nat → E4) : Prop := ∃ sb so : Nat, (0 < n → P = some ⟨sb, so, none⟩) ∧ (0 < n → Rl w sb so n g)
theorem Lm.keep {w1 w2 : World} {P : Option Addr} {n : Nat} {g : Nat → E4} (h : Lm w1 P n g) (hb : Below w1.heap.size w1 w2) : Lm w2 P n g := by
  obtain ⟨sb, so, h1, h2⟩ := h
  exact ⟨sb, so, h1, fun hl => (h2 hl).keep hb⟩
theorem Lm.less {w : World} {P : Option Addr} {n m : Nat} {g : Nat → E4} (h : Lm w P n g) (hm : m ≤ n) : Lm w P m g := by
  obtain ⟨sb, so, h1, h2⟩ := h
  exact ⟨sb, so, fun hl => h1 (by omega), fun hl => (h2 (by omega)).less hm⟩
theorem Rws.less {w : World} {b n m : Nat} {g : Nat → E4} (h : Rws w b n g) (hm : m ≤ n) : Rws w b m g :=
  ⟨fun k hk => h.c0 k (by omega), fun k hk => h.c1 k (by omega), fun k hk => h.c2 k (by omega), fun k hk => h.c3 k (by omega), fun k hk => h.fr k (by omega), h.lt⟩
/-- with two marks behind -/
def g77 (g : Nat → E4) (L k : Nat) : E4 := if k < L then g k else if k = L then ⟨77, 0, 0, 0⟩ else ⟨78, 0, 0, 0⟩
theorem svs_congr {n : Nat} {f g : Nat → E4} (h : ∀ k, k < n → f k = g k) : svs n f = svs n g := by
  induction n with
  | zero => rfl
  | succ n ih => rw [svs_succ, svs_succ, ih (fun k hk => h k (by omega)), h n (by omega)]
theorem svs_77 (g : Nat → E4) (L : Nat) : svs L g ++ [.int .u64 77, .int .u64 0, .int .u64 0, .int .u64 0, .int .u64 78, .int .u64 0, .int .u64 0, .int .u64 0] = svs (L + 2) (g77 g L) := by
  rw [svs_succ, svs_succ, svs_congr (f := g77 g L) (g := g) (fun k hk => if_pos hk), show g77 g L L = ⟨77, 0, 0, 0⟩ by unfold g77; rw [if_neg (by omega), if_pos rfl], show g77 g L (L + 1) = ⟨78, 0, 0, 0⟩ by unfold g77; rw [if_neg (by omega), if_neg (by omega)]]
  simp


/-- lists of inverses that were answered: block, length -/
structure Iw (w1 : World) (rs : List (Nat × Nat)) (g : Nat → E4) (w : World) : Prop where
  bel : Below w1.heap.size w1 w
  rows : ∀ x ∈ rs, w1.heap.size ≤ x.1 ∧ Rws w x.1 x.2 (fun k => iv (g k).n)
  pw : rs.Pairwise fun x y => x.1 ≠ y.1
theorem Iw.keep {w1 : World} {rs : List (Nat × Nat)} {g : Nat → E4} {w w' : World} (t : Iw w1 rs g w) (hb : Below w.heap.size w w') : Iw w1 rs g w' :=
  ⟨bl_trans t.bel hb, fun x hx => ⟨(t.rows x hx).1, (t.rows x hx).2.keep hb⟩, t.pw⟩
theorem Iw.new {w1 : World} {rs : List (Nat × Nat)} {g : Nat → E4} {w w' : World} (t : Iw w1 rs g w) (hb : Below w.heap.size w w') (b m : Nat) (h : w.heap.size ≤ b) (r : Rws w' b m (fun k => iv (g k).n)) : Iw w1 ((b, m) :: rs) g w' := by
  have t' := t.keep hb
  have hs := t.bel.size
  refine ⟨t'.bel, fun x hx => ?_, List.pairwise_cons.2 ⟨fun x hx => ?_, t.pw⟩⟩
  · rcases List.mem_cons.1 hx with rfl | hx
    · exact ⟨by simp only; omega, r⟩
    · exact t'.rows x hx
  · have := (t.rows x hx).2.lt
    show b ≠ x.1
    omega
theorem Iw.start (w : World) (g : Nat → E4) : Iw w [] g w := ⟨Below.refl _ _, fun x hx => (by cases hx), List.Pairwise.nil⟩
def nf3 (L h : Nat) : Nat → Nat
  | 1 => h
  | _ => L
def bf3 (b0 b1 b2 : Nat) : Nat → Nat
  | 0 => b0
  | 1 => b1
  | _ => b2
/-- the three lists that the law hands to apart -/
theorem inv_apart {w1 : World} {L h b0 b1 b2 : Nat} {g : Nat → E4} {w : World} (t : Iw w1 [(b2, L), (b1, h), (b0, L)] g w) (hL : L ≤ 4398046510976) (hh : h ≤ L) (ty : TypeId) :
    As3 w1 w.heap.size 3 (nf3 L h) (fun i => some ⟨bf3 b0 b1 b2 i, 0, none⟩) (bf3 b0 b1 b2) ∧
    AsW w1 w.heap.size 3 (nf3 L h) (fun i => some ⟨bf3 b0 b1 b2 i, 0, none⟩) (bf3 b0 b1 b2) (fun _ k => iv (g k).n) (w.alloc (.cells #[.slice (some ⟨b0, 0, none⟩) L L, .slice (some ⟨b1, 0, none⟩) h h, .slice (some ⟨b2, 0, none⟩) L L] ty)) := by
  have i3 : ∀ i, i < 3 → i = 0 ∨ i = 1 ∨ i = 2 := by omega
  have r2 := t.rows (b2, L) (by simp)
  have r1 := t.rows (b1, h) (by simp)
  have r0 := t.rows (b0, L) (by simp)
  simp only at r0 r1 r2
  have pw := t.pw
  simp only [List.pairwise_cons, List.mem_cons, List.not_mem_nil, or_false, forall_eq_or_imp, forall_eq] at pw
  obtain ⟨⟨p21, p20⟩, p10, _⟩ := pw
  refine ⟨⟨by omega, fun i hi => ?_, fun i hi hp => rfl, fun i hi hz => Or.inr ⟨_, rfl⟩, fun i j hi hj h1 h2 hne => ?_, fun i hi hp => ?_, fun i hi hp => ?_⟩, ⟨bl_trans t.bel (bl_alloc _ _), fun i hi => ?_, fun i hi hp => ?_⟩⟩
  · rcases i3 i hi with rfl | rfl | rfl <;> simp only [nf3] <;> omega
  · rcases i3 i hi with rfl | rfl | rfl <;> rcases i3 j hj with rfl | rfl | rfl <;> simp only [bf3] <;> first | exact absurd rfl hne | exact p21 | exact p21.symm | exact p20 | exact p20.symm | exact p10 | exact p10.symm
  · rcases i3 i hi with rfl | rfl | rfl <;> simp only [bf3]
    · have := r0.2.lt; omega
    · have := r1.2.lt; omega
    · have := r2.2.lt; omega
  · rcases i3 i hi with rfl | rfl | rfl <;> simp only [bf3]
    · exact r0.1
    · exact r1.1
    · exact r2.1
  · rcases i3 i hi with rfl | rfl | rfl <;> (rw [World.cell?_alloc_mark]; rfl)
  · rcases i3 i hi with rfl | rfl | rfl
    · exact r0.2.keep (bl_alloc _ _)
    · exact r1.2.keep (bl_alloc _ _)
    · exact r2.2.keep (bl_alloc _ _)
theorem Rws.one (w : World) (r : E4) (t : TypeId) : Rws (w.alloc (.cells #[.int .u64 r.x0, .int .u64 r.x1, .int .u64 r.x2, .int .u64 r.x3] t)) w.heap.size 1 (fun _ => r) := by
  have b := Blc.new w r t
  have f := Wrt.new w r t
  refine ⟨fun k hk => ?_, fun k hk => ?_, fun k hk => ?_, fun k hk => ?_, fun k hk => ?_, b.lt⟩
  · obtain rfl : k = 0 := by omega
    exact b.c0
  · obtain rfl : k = 0 := by omega
    exact b.c1
  · obtain rfl : k = 0 := by omega
    exact b.c2
  · obtain rfl : k = 0 := by omega
    exact b.c3
  · obtain rfl | rfl | rfl | rfl : k = 0 ∨ k = 1 ∨ k = 2 ∨ k = 3 := by omega
    · exact f.f0
    · exact f.f1
    · exact f.f2
    · exact f.f3
theorem iv_one : iv 1 = k1 := by unfold iv; rw [Int.one_pow, lst1]
theorem Rws.farS {w : World} {b n : Nat} {g : Nat → E4} (h : Rws w b n g) {c : Nat} (hne : c ≠ b) (o : Nat) (s : E4) : Rws (setS w c o s) b n g := (((h.far hne o _).far hne (o + 1) _).far hne (o + 2) _).far hne (o + 3) _
theorem rl_cells {w : World} {b o m : Nat} {g : Nat → E4} (h : Rl w b o m g) (n : Nat) (hn : n ≤ m) : ∀ j u, (svs n g)[j]? = some u → w.cell? ⟨b, o + j, none⟩ = some u := by
  induction n with
  | zero => intro j u hu; simp [svs] at hu
  | succ n ih =>
    intro j u hu
    rw [svs_succ] at hu
    by_cases hj : j < n * 4
    · rw [List.getElem?_append_left (by rw [svs_len]; exact hj)] at hu
      exact ih (by omega) j u hu
    · rw [List.getElem?_append_right (by rw [svs_len]; omega), svs_len] at hu
      obtain ⟨d, hd⟩ : ∃ d, j = n * 4 + d := ⟨j - n * 4, by omega⟩
      subst hd
      rw [show n * 4 + d - n * 4 = d by omega] at hu
      match d, hu with
      | 0, hu => simp at hu; rw [← hu]; exact h.c0 n (by omega)
      | 1, hu => simp at hu; rw [← hu]; exact h.c1 n (by omega)
      | 2, hu => simp at hu; rw [← hu]; exact h.c2 n (by omega)
      | 3, hu => simp at hu; rw [← hu]; exact h.c3 n (by omega)
theorem svs_one (g : Nat → E4) (n : Nat) : ∀ u ∈ svs n g, u.oneCell' = true := by
  induction n with
  | zero => intro u hu; simp [svs] at hu
  | succ n ih =>
    intro u hu
    rw [svs_succ] at hu
    rcases List.mem_append.1 hu with h | h
    · exact ih u h
    · simp only [List.mem_cons, List.not_mem_nil, or_false] at h
      rcases h with rfl | rfl | rfl | rfl <;> rfl
/-- what the list is written over with -/
def gc (g : Nat → E4) (k : Nat) : E4 := ⟨(k : Int) + 3, (g k).x1, 0, 0⟩
def fgc (g : Nat → E4) (L i k : Nat) : E4 := if k < i then gc g k else g77 g L k
def cgc (g : Nat → E4) (i k : Nat) : E4 := if k < i then gc g k else g k
theorem gc_ok {g : Nat → E4} {k : Nat} (h : (g k).ok) (hk : k ≤ 4398046510976) : (gc g k).ok := ⟨by unfold Sm.Wd gc; simp only; omega, h.2.1, by unfold Sm.Wd gc; simp, by unfold Sm.Wd gc; simp⟩
theorem fgc_next (g : Nat → E4) (L i j : Nat) : (if j = i then gc g i else fgc g L i j) = fgc g L (i + 1) j := by
  unfold fgc
  by_cases h : j = i
  · subst h; rw [if_pos rfl, if_pos (by omega)]
  · rw [if_neg h]
    by_cases hl : j < i
    · rw [if_pos hl, if_pos (by omega)]
    · rw [if_neg hl, if_neg (by omega)]
theorem cgc_next (g : Nat → E4) (i j : Nat) : (if j = i then gc g i else cgc g i j) = cgc g (i + 1) j := by
  unfold cgc
  by_cases h : j = i
  · subst h; rw [if_pos rfl, if_pos (by omega)]
  · rw [if_neg h]
    by_cases hl : j < i
    · rw [if_pos hl, if_pos (by omega)]
    · rw [if_neg hl, if_neg (by omega)]
end Go.Proofs.YtaejedhdpilhjaaDoor
