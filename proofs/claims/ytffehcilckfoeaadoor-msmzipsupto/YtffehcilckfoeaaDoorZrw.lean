import Derived.Test.YtffehcilckfoeaaDoorZbo
namespace Go.Proofs.YtffehcilckfoeaaDoor
open Go.RowKit
/-- are they the same limbs? -/
def E4.same (a b : E4) : Bool := a.x0 == b.x0 && (a.x1 == b.x1 && (a.x2 == b.x2 && (a.x3 == b.x3)))
theorem E4.same_iff (a b : E4) : a.same b = true ↔ a = b := by
  obtain ⟨a0, a1, a2, a3⟩ := a
  obtain ⟨b0, b1, b2, b3⟩ := b
  simp [E4.same]
theorem E4.same_self (a : E4) : a.same a = true := (E4.same_iff a a).2 rfl
theorem eqItems_ints {P : Program} (w : World) {e : TypeId} {k : IntKind} (d : Nat) (hp : P.plainKey e = true) (hu : P.underlying e = some (.int k)) (xs ys : Array Value) (f g : Nat → Int) :
    ∀ is : List Nat, (∀ i ∈ is, xs[i]? = some (.int k (f i)) ∧ ys[i]? = some (.int k (g i))) → (Op.eqItems (d + 1) e 1 xs ys is).run P w = .ok (is.all fun i => f i == g i) w
  | [], _ => by simp [Op.eqItems]
  | i :: is, h => by
    have hi := h i (by simp)
    have ih := eqItems_ints w d hp hu xs ys f g is (fun j hj => h j (by simp [hj]))
    simp only [Op.eqItems, Sem.run_bind, Nat.mul_one, run_part_plain w hp hi.1, run_part_plain w hp hi.2, Result.andThen_ok, run_equalIn_int w d e k k _ _ hu, List.all_cons]
    by_cases hx : f i = g i
    · simp [hx, ih]
    · simp [hx]

theorem eq4 (a b : E4) (w : World) : (Op.equalIn 10000 27 a.v b.v).run Tryd.prog w = .ok (a.same b) w := by
  have hi : Tryd.prog.info? 25 = some (Tryd.prog.info? 25).get! := by kernel_rfl
  have hc : Tryd.prog.cellsOf 25 = 1 := by kernel_rfl
  unfold E4.v
  rw [run_equalIn_array w 9999 _ _ (by kernel_rfl : Tryd.prog.underlying 27 = some (.array 4 25)) hi, hc]
  rw [eqItems_ints w (k := .u64) 9998 (by kernel_rfl) (by kernel_rfl) _ _ (fun i => [a.x0, a.x1, a.x2, a.x3].getD i 0) (fun i => [b.x0, b.x1, b.x2, b.x3].getD i 0)]
  · rw [show List.range 4 = [0, 1, 2, 3] from rfl]
    simp only [List.all_cons, List.all_nil, Bool.and_true]
    rfl
  · intro i hi
    have : i < 4 := List.mem_range.1 hi
    match i, this with
    | 0, _ => exact ⟨rfl, rfl⟩
    | 1, _ => exact ⟨rfl, rfl⟩
    | 2, _ => exact ⟨rfl, rfl⟩
    | 3, _ => exact ⟨rfl, rfl⟩

theorem addr_add (g j : Nat) : (⟨g, 0, none⟩ : Addr).add j = ⟨g, j, none⟩ := by unfold Addr.add; split <;> simp_all
theorem below_grown {w w' : World} {row : Option Nat} {base : Nat} (hg : w.grownBy w' row) (hb : base ≤ w.heap.size) (hr : ∀ k, row = some k → base ≤ k) : Below base w w' :=
  ⟨hg.os, hg.tape, hg.output, hg.size, fun k hk => hg.block k (by omega) (fun e => by have := hr k e.symm; omega)⟩
theorem cells_new (w : World) (cs : List Value) (t : TypeId) : ∀ j u, cs[j]? = some u → (w.alloc (.cells cs.toArray t)).cell? ((⟨w.heap.size, 0, none⟩ : Addr).add j) = some u := by
  intro j u hu
  have hadd : (⟨w.heap.size, 0, none⟩ : Addr).add j = ⟨w.heap.size, j, none⟩ := by unfold Addr.add; split <;> simp_all
  rw [hadd, cell_of_row (w.alloc (.cells cs.toArray t)) w.heap.size j cs.toArray t (0, 0) (heap_alloc_new w _)]
  simpa using hu
theorem below_trans {n : Nat} {w1 w2 w3 : World} (h1 : Below n w1 w2) (h2 : Below n w2 w3) : Below n w1 w3 := ⟨h2.os.trans h1.os, h2.tape.trans h1.tape, h2.output.trans h1.output, Nat.le_trans h1.size h2.size, fun k hk => (h2.block k hk).trans (h1.block k hk)⟩
/-- limbs that lie from an address on -/
structure Rl (w : World) (b o n : Nat) (g : Nat → E4) : Prop where
  c0 : ∀ k, k < n → w.cell? ⟨b, o + k * 4, none⟩ = some (.int .u64 (g k).x0)
  c1 : ∀ k, k < n → w.cell? ⟨b, o + k * 4 + 1, none⟩ = some (.int .u64 (g k).x1)
  c2 : ∀ k, k < n → w.cell? ⟨b, o + k * 4 + 2, none⟩ = some (.int .u64 (g k).x2)
  c3 : ∀ k, k < n → w.cell? ⟨b, o + k * 4 + 3, none⟩ = some (.int .u64 (g k).x3)
theorem Rl.keep {w1 w2 : World} {b o n : Nat} {g : Nat → E4} (h : Rl w1 b o n g) (hb : Below w1.heap.size w1 w2) : Rl w2 b o n g :=
  ⟨fun k hk => cell_keep (h.c0 k hk) hb, fun k hk => cell_keep (h.c1 k hk) hb, fun k hk => cell_keep (h.c2 k hk) hb, fun k hk => cell_keep (h.c3 k hk) hb⟩
theorem Rl.less {w : World} {b o n m : Nat} {g : Nat → E4} (h : Rl w b o n g) (hm : m ≤ n) : Rl w b o m g :=
  ⟨fun k hk => h.c0 k (by omega), fun k hk => h.c1 k (by omega), fun k hk => h.c2 k (by omega), fun k hk => h.c3 k (by omega)⟩
/-- a list of limbs -/
def Lm (w : World) (P : Option Addr) (n : Nat) (g : Nat → E4) : Prop := ∃ sb so : Nat, (0 < n → P = some ⟨sb, so, none⟩) ∧ (0 < n → Rl w sb so n g)
theorem Lm.keep {w1 w2 : World} {P : Option Addr} {n : Nat} {g : Nat → E4} (h : Lm w1 P n g) (hb : Below w1.heap.size w1 w2) : Lm w2 P n g := by
  obtain ⟨sb, so, h1, h2⟩ := h
  exact ⟨sb, so, h1, fun hl => (h2 hl).keep hb⟩
theorem Lm.less {w : World} {P : Option Addr} {n m : Nat} {g : Nat → E4} (h : Lm w P n g) (hm : m ≤ n) : Lm w P m g := by
  obtain ⟨sb, so, h1, h2⟩ := h
  exact ⟨sb, so, fun hl => h1 (by omega), fun hl => (h2 (by omega)).less hm⟩
/-- the cells of scalars -/
def svs (n : Nat) (g : Nat → E4) : List Value := (List.range n).flatMap fun k => [.int .u64 (g k).x0, .int .u64 (g k).x1, .int .u64 (g k).x2, .int .u64 (g k).x3]
theorem svs_succ (n : Nat) (g : Nat → E4) : svs (n + 1) g = svs n g ++ [.int .u64 (g n).x0, .int .u64 (g n).x1, .int .u64 (g n).x2, .int .u64 (g n).x3] := by simp [svs, List.range_succ]
theorem svs_len (n : Nat) (g : Nat → E4) : (svs n g).length = n * 4 := by
  induction n with
  | zero => rfl
  | succ n ih => rw [svs_succ, List.length_append, ih]; simp; omega
theorem svs_congr {n : Nat} {f g : Nat → E4} (h : ∀ k, k < n → f k = g k) : svs n f = svs n g := by
  induction n with
  | zero => rfl
  | succ n ih => rw [svs_succ, svs_succ, ih (fun k hk => h k (by omega)), h n (by omega)]
theorem rl_cells {w : World} {b o m : Nat} {g : Nat → E4} (h : Rl w b o m g) (n : Nat) (hn : n ≤ m) : ∀ j u, (svs n g)[j]? = some u → w.cell? ⟨b, o + j, none⟩ = some u := by
  induction n with
  | zero => intro j u hu; simp [svs] at hu
  | succ n ih =>
    intro j u hu
    rw [svs_succ] at hu
    by_cases hj : j < n * 4
    · rw [List.getElem?_append_left (by rw [svs_len]; exact hj)] at hu
      exact ih (by omega) j u hu
    · rw [List.getElem?_append_right (by rw [svs_len]; omega), svs_len] at hu
      obtain ⟨d, hd⟩ : ∃ d, j = n * 4 + d := ⟨j - n * 4, by omega⟩
      subst hd
      rw [show n * 4 + d - n * 4 = d by omega] at hu
      match d, hu with
      | 0, hu => simp at hu; rw [← hu]; exact h.c0 n (by omega)
      | 1, hu => simp at hu; rw [← hu]; exact h.c1 n (by omega)
      | 2, hu => simp at hu; rw [← hu]; exact h.c2 n (by omega)
      | 3, hu => simp at hu; rw [← hu]; exact h.c3 n (by omega)
theorem svs_one (g : Nat → E4) (n : Nat) : ∀ u ∈ svs n g, u.oneCell' = true := by
  induction n with
  | zero => intro u hu; simp [svs] at hu
  | succ n ih =>
    intro u hu
    rw [svs_succ] at hu
    rcases List.mem_append.1 hu with h | h
    · exact ih u h
    · simp only [List.mem_cons, List.not_mem_nil, or_false] at h
      rcases h with rfl | rfl | rfl | rfl <;> rfl

/-- the cells of a term -/
def tn (x y : E4) : Nat → Value
  | 0 => .int .u64 x.x0 | 1 => .int .u64 x.x1 | 2 => .int .u64 x.x2 | 3 => .int .u64 x.x3 | 4 => .int .u64 y.x0 | 5 => .int .u64 y.x1 | 6 => .int .u64 y.x2 | _ => .int .u64 y.x3
/-- a term is written -/
def setT (w : World) (b o : Nat) (x y : E4) : World := (((((((w.setCell ⟨b, o, none⟩ (.int .u64 x.x0)).setCell ⟨b, o + 1, none⟩ (.int .u64 x.x1)).setCell ⟨b, o + 2, none⟩ (.int .u64 x.x2)).setCell ⟨b, o + 3, none⟩ (.int .u64 x.x3)).setCell ⟨b, o + 4, none⟩ (.int .u64 y.x0)).setCell ⟨b, o + 5, none⟩ (.int .u64 y.x1)).setCell ⟨b, o + 6, none⟩ (.int .u64 y.x2)).setCell ⟨b, o + 7, none⟩ (.int .u64 y.x3)
theorem setT_size (w : World) (b o : Nat) (x y : E4) : (setT w b o x y).heap.size = w.heap.size := by unfold setT; simp
theorem setT_frozen (w : World) (b o : Nat) (x y : E4) (a : Addr) : (setT w b o x y).frozen? a = w.frozen? a := by unfold setT; simp only [World.frozen?_setCell]
theorem setT_far (w : World) (b o : Nat) (x y : E4) {a : Addr} (h : b ≠ a.block) : (setT w b o x y).cell? a = w.cell? a := by
  unfold setT
  repeat rw [World.cell?_setCell_far _ _ _ _ h]
theorem setC_ne (W : World) (b x k : Nat) (v : Value) (h : k ≠ x) : (W.setCell ⟨b, x, none⟩ v).cell? ⟨b, k, none⟩ = W.cell? ⟨b, k, none⟩ := World.cell?_setCell_other _ _ _ _ (fun e => h (congrArg Addr.off e).symm)
theorem setT_out (w : World) (b o : Nat) (x y : E4) {k : Nat} (h : k < o ∨ o + 8 ≤ k) : (setT w b o x y).cell? ⟨b, k, none⟩ = w.cell? ⟨b, k, none⟩ := by
  unfold setT
  rw [setC_ne _ _ _ _ _ (by omega), setC_ne _ _ _ _ _ (by omega), setC_ne _ _ _ _ _ (by omega), setC_ne _ _ _ _ _ (by omega), setC_ne _ _ _ _ _ (by omega), setC_ne _ _ _ _ _ (by omega), setC_ne _ _ _ _ _ (by omega), setC_ne _ _ _ _ _ (by omega)]
theorem setT_in (w : World) (b o : Nat) (x y : E4) {v0 : Value} {v1 : Value} {v2 : Value} {v3 : Value} {v4 : Value} {v5 : Value} {v6 : Value} {v7 : Value} (h0 : w.cell? ⟨b, o, none⟩ = some v0) (h1 : w.cell? ⟨b, o + 1, none⟩ = some v1) (h2 : w.cell? ⟨b, o + 2, none⟩ = some v2) (h3 : w.cell? ⟨b, o + 3, none⟩ = some v3) (h4 : w.cell? ⟨b, o + 4, none⟩ = some v4) (h5 : w.cell? ⟨b, o + 5, none⟩ = some v5) (h6 : w.cell? ⟨b, o + 6, none⟩ = some v6) (h7 : w.cell? ⟨b, o + 7, none⟩ = some v7) :
    (setT w b o x y).cell? ⟨b, o, none⟩ = some (.int .u64 x.x0) ∧ (setT w b o x y).cell? ⟨b, o + 1, none⟩ = some (.int .u64 x.x1) ∧ (setT w b o x y).cell? ⟨b, o + 2, none⟩ = some (.int .u64 x.x2) ∧ (setT w b o x y).cell? ⟨b, o + 3, none⟩ = some (.int .u64 x.x3) ∧ (setT w b o x y).cell? ⟨b, o + 4, none⟩ = some (.int .u64 y.x0) ∧ (setT w b o x y).cell? ⟨b, o + 5, none⟩ = some (.int .u64 y.x1) ∧ (setT w b o x y).cell? ⟨b, o + 6, none⟩ = some (.int .u64 y.x2) ∧ (setT w b o x y).cell? ⟨b, o + 7, none⟩ = some (.int .u64 y.x3) := by
  unfold setT
  refine ⟨?_, ?_, ?_, ?_, ?_, ?_, ?_, ?_⟩ <;> go_simp
theorem setT_bel {w0 w : World} {m b o : Nat} {x y : E4} (h : Below m w0 w) (hb : m ≤ b) : Below m w0 (setT w b o x y) := by
  unfold setT
  exact (((((((h.setCell hb _).setCell hb _).setCell hb _).setCell hb _).setCell hb _).setCell hb _).setCell hb _).setCell hb _
/-- terms in a block, that may be written -/
structure Rt (w : World) (b n : Nat) (f h : Nat → E4) : Prop where
  lt : b < w.heap.size
  c : ∀ k, k < n → ∀ j, j < 8 → w.cell? ⟨b, k * 8 + j, none⟩ = some (tn (f k) (h k) j)
  fr : ∀ k, k < n * 8 → w.frozen? ⟨b, k, none⟩ = false
theorem Rt.keep {w w' : World} {b n : Nat} {f h : Nat → E4} (r : Rt w b n f h) (hb : Below w.heap.size w w') : Rt w' b n f h :=
  ⟨Nat.lt_of_lt_of_le r.lt hb.size, fun k hk j hj => cell_keep (r.c k hk j hj) hb, fun k hk => ((bcell hb).2 _ _ r.lt).trans (r.fr k hk)⟩
theorem Rt.far {w : World} {b n d o : Nat} {f h : Nat → E4} {x y : E4} (r : Rt w b n f h) (hn : d ≠ b) : Rt (setT w d o x y) b n f h :=
  ⟨by rw [setT_size]; exact r.lt, fun k hk j hj => by rw [setT_far _ _ _ _ _ hn]; exact r.c k hk j hj, fun k hk => by rw [setT_frozen]; exact r.fr k hk⟩
theorem Rt.set {w : World} {b n : Nat} {f h : Nat → E4} (r : Rt w b n f h) (k : Nat) (hk : k < n) (x y : E4) : Rt (setT w b (k * 8) x y) b n (fun j => if j = k then x else f j) (fun j => if j = k then y else h j) := by
  obtain ⟨e0, e1, e2, e3, e4, e5, e6, e7⟩ := setT_in w b (k * 8) x y (r.c k hk 0 (by omega)) (r.c k hk 1 (by omega)) (r.c k hk 2 (by omega)) (r.c k hk 3 (by omega)) (r.c k hk 4 (by omega)) (r.c k hk 5 (by omega)) (r.c k hk 6 (by omega)) (r.c k hk 7 (by omega))
  refine ⟨by rw [setT_size]; exact r.lt, fun i hi j hj => ?_, fun j hj => by rw [setT_frozen]; exact r.fr j hj⟩
  by_cases e : i = k
  · subst e
    simp only [if_pos]
    match j, hj with
    | 0, _ => exact e0 | 1, _ => exact e1 | 2, _ => exact e2 | 3, _ => exact e3 | 4, _ => exact e4 | 5, _ => exact e5 | 6, _ => exact e6 | 7, _ => exact e7
  · simp only [if_neg e]
    rw [setT_out _ _ _ _ _ (by omega)]
    exact r.c i hi j hj
theorem Rt.made (w : World) (n : Nat) (t : TypeId) : Rt (w.alloc (.cells (madeCells #[.int .u64 0, .int .u64 0, .int .u64 0, .int .u64 0, .int .u64 0, .int .u64 0, .int .u64 0, .int .u64 0] (n * 8)) t)) w.heap.size n (fun _ => ⟨0, 0, 0, 0⟩) (fun _ => ⟨0, 0, 0, 0⟩) := by
  have hc : ∀ j, j < n * 8 → (w.alloc (.cells (madeCells #[.int .u64 0, .int .u64 0, .int .u64 0, .int .u64 0, .int .u64 0, .int .u64 0, .int .u64 0, .int .u64 0] (n * 8)) t)).cell? ⟨w.heap.size, j, none⟩ = some (.int .u64 0) := fun j hj => by
    rw [cell_of_row (w.alloc (.cells (madeCells #[.int .u64 0, .int .u64 0, .int .u64 0, .int .u64 0, .int .u64 0, .int .u64 0, .int .u64 0, .int .u64 0] (n * 8)) t)) w.heap.size j _ t (0, 0) (heap_alloc_new w _)]
    have h2 : j % 8 = 0 ∨ j % 8 = 1 ∨ j % 8 = 2 ∨ j % 8 = 3 ∨ j % 8 = 4 ∨ j % 8 = 5 ∨ j % 8 = 6 ∨ j % 8 = 7 := by omega
    rcases h2 with h2 | h2 | h2 | h2 | h2 | h2 | h2 | h2 <;> simp [madeCells, hj, h2]
  refine ⟨by simp, fun k hk j hj => ?_, fun k hk => by go_simp⟩
  rw [hc _ (by omega)]
  match j, hj with
  | 0, _ => rfl | 1, _ => rfl | 2, _ => rfl | 3, _ => rfl | 4, _ => rfl | 5, _ => rfl | 6, _ => rfl | 7, _ => rfl
/-- with a mark behind -/
def g7 (g : Nat → E4) (L k : Nat) : E4 := if k < L then g k else ⟨77, 0, 0, 0⟩
theorem svs_7 (g : Nat → E4) (L : Nat) : svs L g ++ [.int .u64 77, .int .u64 0, .int .u64 0, .int .u64 0] = svs (L + 1) (g7 g L) := by
  rw [svs_succ, svs_congr (f := g7 g L) (g := g) (fun k hk => if_pos hk), show g7 g L L = ⟨77, 0, 0, 0⟩ from if_neg (by omega)]
/-- a row that is one's own, as limbs -/
theorem own_rl {w : World} {base gg n cap : Nat} {e : TypeId} {g : Nat → E4} (h : w.ownsRow base e 4 (.slice (some ⟨gg, 0, none⟩) n cap) n (svs n g)) : Rl w gg 0 n g := by
  have hc : ∀ k, k < n * 4 → w.cell? ⟨gg, k, none⟩ = (svs n g)[k]? := fun k hk => h.cellAt k hk
  have hs : ∀ k d, k < n → d < 4 → (svs n g)[k * 4 + d]? = some ([Value.int .u64 (g k).x0, .int .u64 (g k).x1, .int .u64 (g k).x2, .int .u64 (g k).x3].getD d undef) := by
    intro k d hk hd
    clear hc h
    induction n with
    | zero => omega
    | succ n ih =>
      rw [svs_succ]
      by_cases hkn : k < n
      · rw [List.getElem?_append_left (by rw [svs_len]; omega)]
        exact ih hkn
      · have : k = n := by omega
        subst this
        rw [List.getElem?_append_right (by rw [svs_len]; omega), svs_len, show k * 4 + d - k * 4 = d by omega]
        obtain rfl | rfl | rfl | rfl : d = 0 ∨ d = 1 ∨ d = 2 ∨ d = 3 := by omega
        all_goals rfl
  refine ⟨fun k hk => ?_, fun k hk => ?_, fun k hk => ?_, fun k hk => ?_⟩ <;> rw [Nat.zero_add]
  · rw [hc _ (by omega)]; exact hs k 0 hk (by omega)
  · rw [hc _ (by omega)]; exact hs k 1 hk (by omega)
  · rw [hc _ (by omega)]; exact hs k 2 hk (by omega)
  · rw [hc _ (by omega)]; exact hs k 3 hk (by omega)
theorem own_keepZ {w1 w2 : World} {base : Nat} {e : TypeId} {v : Value} {n : Nat} {xs : List Value} (h : w1.ownsRow base e 4 v n xs) (hb : Below w1.heap.size w1 w2) : w2.ownsRow base e 4 v n xs :=
  h.kept (row := none) ⟨hb.os, hb.tape, hb.output, hb.size, fun k hk _ => hb.block k hk⟩ (by cases v.ownBlock <;> simp)
theorem below_less {m n : Nat} {w1 w2 : World} (h : Below n w1 w2) (hm : m ≤ n) : Below m w1 w2 := ⟨h.os, h.tape, h.output, h.size, fun k hk => h.block k (by omega)⟩
/-- a slice of scalars that is one's own, or a full one -/
def MoreT (w : World) (base : Nat) (e : TypeId) (v : Value) (n : Nat) (xs : List Value) : Prop :=
  w.ownsRow base e 8 v n xs ∨ (∃ g, v = .slice (some ⟨g, 0, none⟩) n n ∧ xs.length = n * 8 ∧ ∀ j u, xs[j]? = some u → w.cell? ((⟨g, 0, none⟩ : Addr).add j) = some u)
theorem MoreT.alloc {w : World} {base : Nat} {e : TypeId} {v : Value} {n : Nat} {xs : List Value} (h : MoreT w base e v n xs) (o : Obj) : MoreT (w.alloc o) base e v n xs := by
  rcases h with h | ⟨g, hv, hl, hc⟩
  · exact Or.inl (h.alloc o)
  · exact Or.inr ⟨g, hv, hl, fun j u hu => by have := hc j u hu; rw [addr_add] at this ⊢; exact cell_keep this (bl_alloc w o)⟩
theorem run_append_moreT {P : Program} (w : World) (base : Nat) (t ty e : TypeId) (i : TypeInfo) (z : Value) (bytes : Nat) (ht : P.underlying t = some (.slice e)) (hi : P.info? e = some i) (hz : i.zero = some z)
    (hsize : i.size = 8) (hby : i.bytes = bytes) (hzs : z.cells.size = 8) (v : Value) (n : Nat) (xs : List Value) (hm : MoreT w base e v n xs)
    (a : Addr) (us : List Value) (hus : us.length = 8) (hc : ∀ j y, us[j]? = some y → w.cell? (a.add j) = some y) (h1 : ∀ u ∈ us, u.oneCell' = true) (h63 : n + 1 ≤ maxLen) (hbytes : (n + 1) * bytes ≤ 140737488355328) (hbase : base ≤ w.heap.size) :
    ∃ v' w', (Builtin.append_ #[t, t] ty #[v, .slice (some a) 1 1]).run P w = .ok v' w' ∧ w'.ownsRow base e 8 v' (n + 1) (xs ++ us) ∧ Below base w w' := by
  rcases hm with hown | ⟨g, rfl, hl, hcs⟩
  · obtain ⟨v', w', hr, ho, hg, _⟩ := run_append_own (P := P) w base t ty e i z 8 bytes ht hi hz hsize hby hzs (by omega) v n xs hown a 1 1 us (by omega) hc h1 h63 hbytes hbase
    exact ⟨v', w', hr, ho, below_grown hg hbase (fun k hk => (hown.lt k hk).1)⟩
  · subst hby
    have hr := run_append_grow (P := P) w t ty e i z ht hi hz ⟨g, 0, none⟩ n n xs (by rw [hsize]; omega) hcs a 1 1 us (by rw [hsize]; omega) hc (by omega) (by simp only [maxLen] at h63; omega) (growslice_fits (by omega) hbytes)
    have hge := grownCap_ge w (n + 1) n e
    have hcm : grownCap w (n + 1) n e ≤ maxLen := grownCap_le_maxLen w (n + 1) n e h63
    refine ⟨_, _, hr, ⟨by simp [hl, hus]; omega, .inr ⟨w.heap.size, _, _, rfl, hbase, heap_alloc_new w.drew _, hge, hcm, ?_, ?_⟩⟩, ⟨rfl, rfl, rfl, by simp, fun k hk => heap_alloc_old w.drew _ (show k < w.heap.size by omega)⟩⟩
    · simp only [Array.size_append, List.size_toArray, size_zeroCells, hzs, hl, hus]
      omega
    · simp only [Array.toList_append, List.append_assoc]
      rw [← List.append_assoc, show (n + 1) * 8 = (xs ++ us).length by simp [hl, hus]; omega]
      exact List.take_left
theorem wpList_append_moreT {P : Program} (w : World) {ops : Array Oper} {rest : List Oper} {o : Oper} {a : Act} {Q : Exit → Act → World → Prop} (hgd : o.guard = none) (s x : Operand) (t : TypeId)
    (ho : o.op = .call { callee := .builtin .append, args := #[s, x], argTypes := #[t, t] })
    (base : Nat) (e : TypeId) (i : TypeInfo) (z : Value) (bytes : Nat) (ht : P.underlying t = some (.slice e)) (hi : P.info? e = some i) (hz : i.zero = some z)
    (hsize : i.size = 8) (hby : i.bytes = bytes) (hzs : z.cells.size = 8) (v : Value) (n : Nat) (xs : List Value) (hs : a.eval s = v) (hm : MoreT w base e v n xs)
    (ad : Addr) (us : List Value) (hx : a.eval x = .slice (some ad) 1 1) (hus : us.length = 8) (hc : ∀ j y, us[j]? = some y → w.cell? (ad.add j) = some y) (h1 : ∀ u ∈ us, u.oneCell' = true) (h63 : n + 1 ≤ maxLen) (hbytes : (n + 1) * bytes ≤ 140737488355328) (hbase : base ≤ w.heap.size)
    (h : ∀ v' w', w'.ownsRow base e 8 v' (n + 1) (xs ++ us) → Below base w w' → wpList P ops Q rest (a.put o.dst v') w') : wpList P ops Q (o :: rest) a w := by
  refine wpList_plain hgd fun K hK => ?_
  obtain ⟨v', w', hr, h2, h3⟩ := run_append_moreT (P := P) w base t o.type e i z bytes ht hi hz hsize hby hzs v n xs hm ad us hus hc h1 h63 hbytes hbase
  unfold Oper.wp execOp
  simp only [ho, resolve, invoke, builtin, Sem.run_bind, Sem.run_pure, Result.andThen_ok, List.map_toArray, List.map_cons, List.map_nil, hs, hx, hr]
  exact hK _ _ (h v' w' h2 h3)

theorem sinfoZ : (Tryd.prog.info? 27).map (fun i => (i.zero, i.size, i.bytes)) = some (some (.agg #[.int .u64 0, .int .u64 0, .int .u64 0, .int .u64 0]), 4, 32) := by kernel_rfl
theorem linfoZ : (Tryd.prog.info? 29).map (fun i => (i.zero, i.size, i.bytes)) = some (some (.agg #[.int .u64 0, .int .u64 0, .int .u64 0, .int .u64 0]), 4, 32) := by kernel_rfl
theorem tinfoZ : (Tryd.prog.info? 37).map (fun i => (i.zero, i.size, i.bytes)) = some (some (.agg #[.int .u64 0, .int .u64 0, .int .u64 0, .int .u64 0, .int .u64 0, .int .u64 0, .int .u64 0, .int .u64 0]), 8, 64) := by kernel_rfl
end Go.Proofs.YtffehcilckfoeaaDoor
