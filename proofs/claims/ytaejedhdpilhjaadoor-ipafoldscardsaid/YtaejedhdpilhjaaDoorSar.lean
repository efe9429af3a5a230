import Derived.Test.YtaejedhdpilhjaaDoorSap
import Derived.Test.YtaejedhdpilhjaaDoorSop
import Derived.Test.YtaejedhdpilhjaaDoorSrl
namespace Go.Proofs.YtaejedhdpilhjaaDoor
open Go.RowKit

/-- a row of scalars -/
structure Rws (w : World) (b n : Nat) (g : Nat → E4) : Prop where
  c0 : ∀ k, k < n → w.cell? ⟨b, k * 4, none⟩ = some (.int .u64 (g k).x0)
  c1 : ∀ k, k < n → w.cell? ⟨b, k * 4 + 1, none⟩ = some (.int .u64 (g k).x1)
  c2 : ∀ k, k < n → w.cell? ⟨b, k * 4 + 2, none⟩ = some (.int .u64 (g k).x2)
  c3 : ∀ k, k < n → w.cell? ⟨b, k * 4 + 3, none⟩ = some (.int .u64 (g k).x3)
  fr : ∀ k, k < n * 4 → w.frozen? ⟨b, k, none⟩ = false
  lt : b < w.heap.size
theorem Rws.keep {w1 w2 : World} {b n : Nat} {g : Nat → E4} (h : Rws w1 b n g) (hb : Below w1.heap.size w1 w2) : Rws w2 b n g :=
  ⟨fun k hk => cell_keep (h.c0 k hk) hb, fun k hk => cell_keep (h.c1 k hk) hb, fun k hk => cell_keep (h.c2 k hk) hb, fun k hk => cell_keep (h.c3 k hk) hb, fun k hk => ((bcell hb).2 _ _ h.lt).trans (h.fr k hk), Nat.lt_of_lt_of_le h.lt hb.size⟩
theorem Rws.congr {w : World} {b n : Nat} {g f : Nat → E4} (h : Rws w b n g) (e : ∀ k, k < n → g k = f k) : Rws w b n f :=
  ⟨fun k hk => by rw [← e k hk]; exact h.c0 k hk, fun k hk => by rw [← e k hk]; exact h.c1 k hk, fun k hk => by rw [← e k hk]; exact h.c2 k hk, fun k hk => by rw [← e k hk]; exact h.c3 k hk, h.fr, h.lt⟩
theorem Rws.far {w : World} {b n : Nat} {g : Nat → E4} (h : Rws w b n g) {c : Nat} (hne : c ≠ b) (k : Nat) (v : Value) : Rws (w.setCell ⟨c, k, none⟩ v) b n g :=
  ⟨fun j hj => (World.cell?_setCell_far w _ _ _ hne).trans (h.c0 j hj), fun j hj => (World.cell?_setCell_far w _ _ _ hne).trans (h.c1 j hj), fun j hj => (World.cell?_setCell_far w _ _ _ hne).trans (h.c2 j hj), fun j hj => (World.cell?_setCell_far w _ _ _ hne).trans (h.c3 j hj), fun j hj => by have := h.fr j hj; go_simp, by have := h.lt; simpa using this⟩
/-- a scalar is written at a place of a row -/
def setS (w : World) (b o : Nat) (r : E4) : World := (((w.setCell ⟨b, o, none⟩ (.int .u64 r.x0)).setCell ⟨b, o + 1, none⟩ (.int .u64 r.x1)).setCell ⟨b, o + 2, none⟩ (.int .u64 r.x2)).setCell ⟨b, o + 3, none⟩ (.int .u64 r.x3)
theorem setS_size (w : World) (b o : Nat) (r : E4) : (setS w b o r).heap.size = w.heap.size := by unfold setS; simp
theorem setS_frozen (w : World) (b o : Nat) (r : E4) (a : Addr) : (setS w b o r).frozen? a = w.frozen? a := by unfold setS; simp
theorem setS_far (w : World) (b o : Nat) (r : E4) (a : Addr) (h : ∀ j, j < 4 → (⟨b, o + j, none⟩ : Addr) ≠ a) : (setS w b o r).cell? a = w.cell? a := by
  unfold setS
  rw [World.cell?_setCell_other _ _ _ _ (h 3 (by omega)), World.cell?_setCell_other _ _ _ _ (h 2 (by omega)), World.cell?_setCell_other _ _ _ _ (h 1 (by omega)), World.cell?_setCell_other _ _ _ _ (by simpa using h 0 (by omega))]
theorem setS_at (w : World) (b o : Nat) (r : E4) (x0 x1 x2 x3 : Value) (h0 : w.cell? ⟨b, o, none⟩ = some x0) (h1 : w.cell? ⟨b, o + 1, none⟩ = some x1) (h2 : w.cell? ⟨b, o + 2, none⟩ = some x2) (h3 : w.cell? ⟨b, o + 3, none⟩ = some x3) :
    (setS w b o r).cell? ⟨b, o, none⟩ = some (.int .u64 r.x0) ∧ (setS w b o r).cell? ⟨b, o + 1, none⟩ = some (.int .u64 r.x1) ∧ (setS w b o r).cell? ⟨b, o + 2, none⟩ = some (.int .u64 r.x2) ∧ (setS w b o r).cell? ⟨b, o + 3, none⟩ = some (.int .u64 r.x3) := by
  unfold setS
  refine ⟨?_, ?_, ?_, ?_⟩ <;> go_simp
set_option maxHeartbeats 2000000 in
theorem Rws.at {w : World} {b n : Nat} {g : Nat → E4} (h : Rws w b n g) (k : Nat) (hk : k < n) (r : E4) : Rws (setS w b (k * 4) r) b n (fun j => if j = k then r else g j) := by
  obtain ⟨a0, a1, a2, a3⟩ := setS_at w b (k * 4) r _ _ _ _ (h.c0 k hk) (h.c1 k hk) (h.c2 k hk) (h.c3 k hk)
  have hf : ∀ (j i : Nat), j ≠ k → i < 4 → (setS w b (k * 4) r).cell? ⟨b, j * 4 + i, none⟩ = w.cell? ⟨b, j * 4 + i, none⟩ := fun j i hj hi => setS_far w b (k * 4) r _ (fun x hx e => by have := congrArg Addr.off e; simp only at this; omega)
  refine ⟨fun j hj => ?_, fun j hj => ?_, fun j hj => ?_, fun j hj => ?_, fun j hj => by rw [setS_frozen]; exact h.fr j hj, by rw [setS_size]; exact h.lt⟩
  all_goals by_cases hjk : j = k
  all_goals first | (subst hjk; rw [if_pos rfl]; assumption) | rw [if_neg hjk]
  · exact (hf j 0 hjk (by omega)).trans (h.c0 j hj)
  · exact (hf j 1 hjk (by omega)).trans (h.c1 j hj)
  · exact (hf j 2 hjk (by omega)).trans (h.c2 j hj)
  · exact (hf j 3 hjk (by omega)).trans (h.c3 j hj)
theorem setS_below (w : World) (b o : Nat) (r : E4) {w0 : World} {n : Nat} (h : Below n w0 w) (hb : n ≤ b) : Below n w0 (setS w b o r) :=
  (((h.setCell hb _).setCell hb _).setCell hb _).setCell hb _

/-- a slice of scalars that is one's own, or a full one -/
def MoreS (w : World) (base : Nat) (e : TypeId) (v : Value) (n : Nat) (xs : List Value) : Prop :=
  w.ownsRow base e 4 v n xs ∨ (∃ g, v = .slice (some ⟨g, 0, none⟩) n n ∧ xs.length = n * 4 ∧ ∀ j u, xs[j]? = some u → w.cell? ((⟨g, 0, none⟩ : Addr).add j) = some u)
theorem MoreS.alloc {w : World} {base : Nat} {e : TypeId} {v : Value} {n : Nat} {xs : List Value} (h : MoreS w base e v n xs) (o : Obj) : MoreS (w.alloc o) base e v n xs := by
  rcases h with h | ⟨g, hv, hl, hc⟩
  · exact Or.inl (h.alloc o)
  · exact Or.inr ⟨g, hv, hl, fun j u hu => by have := hc j u hu; rw [addr_add] at this ⊢; exact cell_keep this (bl_alloc w o)⟩
theorem run_append_moreS {P : Program} (w : World) (base : Nat) (t ty e : TypeId) (i : TypeInfo) (z : Value) (bytes : Nat) (ht : P.underlying t = some (.slice e)) (hi : P.info? e = some i) (hz : i.zero = some z)
    (hsize : i.size = 4) (hby : i.bytes = bytes) (hzs : z.cells.size = 4) (v : Value) (n : Nat) (xs : List Value) (hm : MoreS w base e v n xs)
    (a : Addr) (us : List Value) (hus : us.length = 4) (hc : ∀ j y, us[j]? = some y → w.cell? (a.add j) = some y) (h1 : ∀ u ∈ us, u.oneCell' = true) (h63 : n + 1 ≤ maxLen) (hbytes : (n + 1) * bytes ≤ 140737488355328) (hbase : base ≤ w.heap.size) :
    ∃ v' w', (Builtin.append_ #[t, t] ty #[v, .slice (some a) 1 1]).run P w = .ok v' w' ∧ w'.ownsRow base e 4 v' (n + 1) (xs ++ us) ∧ Below base w w' := by
  rcases hm with hown | ⟨g, rfl, hl, hcs⟩
  · obtain ⟨v', w', hr, ho, hg, _⟩ := run_append_own (P := P) w base t ty e i z 4 bytes ht hi hz hsize hby hzs (by omega) v n xs hown a 1 1 us (by omega) hc h1 h63 hbytes hbase
    exact ⟨v', w', hr, ho, below_grown hg hbase (fun k hk => (hown.lt k hk).1)⟩
  · subst hby
    have hr := run_append_grow (P := P) w t ty e i z ht hi hz ⟨g, 0, none⟩ n n xs (by rw [hsize]; omega) hcs a 1 1 us (by rw [hsize]; omega) hc (by omega) (by simp only [maxLen] at h63; omega) (growslice_fits (by omega) hbytes)
    have hge := grownCap_ge w (n + 1) n e
    have hcm : grownCap w (n + 1) n e ≤ maxLen := grownCap_le_maxLen w (n + 1) n e h63
    refine ⟨_, _, hr, ⟨by simp [hl, hus]; omega, .inr ⟨w.heap.size, _, _, rfl, hbase, heap_alloc_new w.drew _, hge, hcm, ?_, ?_⟩⟩, ⟨rfl, rfl, rfl, by simp, fun k hk => heap_alloc_old w.drew _ (show k < w.heap.size by omega)⟩⟩
    · simp only [Array.size_append, List.size_toArray, size_zeroCells, hzs, hl, hus]
      omega
    · simp only [Array.toList_append, List.append_assoc]
      rw [← List.append_assoc, show (n + 1) * 4 = (xs ++ us).length by simp [hl, hus]; omega]
      exact List.take_left
theorem wpList_append_moreS {P : Program} (w : World) {ops : Array Oper} {rest : List Oper} {o : Oper} {a : Act} {Q : Exit → Act → World → Prop} (hgd : o.guard = none) (s x : Operand) (t : TypeId)
    (ho : o.op = .call { callee := .builtin .append, args := #[s, x], argTypes := #[t, t] })
    (base : Nat) (e : TypeId) (i : TypeInfo) (z : Value) (bytes : Nat) (ht : P.underlying t = some (.slice e)) (hi : P.info? e = some i) (hz : i.zero = some z)
    (hsize : i.size = 4) (hby : i.bytes = bytes) (hzs : z.cells.size = 4) (v : Value) (n : Nat) (xs : List Value) (hs : a.eval s = v) (hm : MoreS w base e v n xs)
    (ad : Addr) (us : List Value) (hx : a.eval x = .slice (some ad) 1 1) (hus : us.length = 4) (hc : ∀ j y, us[j]? = some y → w.cell? (ad.add j) = some y) (h1 : ∀ u ∈ us, u.oneCell' = true) (h63 : n + 1 ≤ maxLen) (hbytes : (n + 1) * bytes ≤ 140737488355328) (hbase : base ≤ w.heap.size)
    (h : ∀ v' w', w'.ownsRow base e 4 v' (n + 1) (xs ++ us) → Below base w w' → wpList P ops Q rest (a.put o.dst v') w') : wpList P ops Q (o :: rest) a w := by
  refine wpList_plain hgd fun K hK => ?_
  obtain ⟨v', w', hr, h2, h3⟩ := run_append_moreS (P := P) w base t o.type e i z bytes ht hi hz hsize hby hzs v n xs hm ad us hus hc h1 h63 hbytes hbase
  unfold Oper.wp execOp
  simp only [ho, resolve, invoke, builtin, Sem.run_bind, Sem.run_pure, Result.andThen_ok, List.map_toArray, List.map_cons, List.map_nil, hs, hx, hr]
  exact hK _ _ (h v' w' h2 h3)
theorem sinfo : (Tryd.prog.info? 26).map (fun i => (i.zero, i.size, i.bytes)) = some (some (.agg #[.int .u64 0, .int .u64 0, .int .u64 0, .int .u64 0]), 4, 32) := by kernel_rfl

/-- the mark of a place -/
def mks (i k : Nat) : E4 := ⟨100000 * ((i : Int) + 1) + k, 0, 0, 0⟩
def gms (g : Nat → Nat → E4) (i k : Nat) (a j : Nat) : E4 := if a < i then mks a j else if a = i ∧ j < k then mks a j else g a j
structure AsW (w0 : World) (B c : Nat) (n : Nat → Nat) (p : Nat → Option Addr) (b : Nat → Nat) (g : Nat → Nat → E4) (w : World) : Prop where
  bel : Below w0.heap.size w0 w
  cB : ∀ i, i < c → w.cell? ⟨B, i, none⟩ = some (.slice (p i) (n i) (n i))
  rows : ∀ i, i < c → 0 < n i → Rws w (b i) (n i) (g i)
/-- slices of their own -/
structure As3 (w0 : World) (B c : Nat) (n : Nat → Nat) (p : Nat → Option Addr) (b : Nat → Nat) : Prop where
  c0 : c < 100
  n0 : ∀ i, i < c → n i ≤ 4398046511040
  hp : ∀ i, i < c → 0 < n i → p i = some ⟨b i, 0, none⟩
  hz : ∀ i, i < c → n i = 0 → p i = none ∨ ∃ x, p i = some ⟨x, 0, none⟩
  hd : ∀ i j, i < c → j < c → 0 < n i → 0 < n j → i ≠ j → b i ≠ b j
  hB : ∀ i, i < c → 0 < n i → b i ≠ B
  h0 : ∀ i, i < c → 0 < n i → w0.heap.size ≤ b i
theorem AsW.keep {w0 : World} {B c : Nat} {n : Nat → Nat} {p : Nat → Option Addr} {b : Nat → Nat} {g : Nat → Nat → E4} {w1 w2 : World} (h : AsW w0 B c n p b g w1) (hb : Below w1.heap.size w1 w2) : AsW w0 B c n p b g w2 :=
  ⟨bl_trans h.bel hb, fun i hi => cell_keep (h.cB i hi) hb, fun i hi hn => (h.rows i hi hn).keep hb⟩
theorem AsW.congr {w0 : World} {B c : Nat} {n : Nat → Nat} {p : Nat → Option Addr} {b : Nat → Nat} {g f : Nat → Nat → E4} {w : World} (h : AsW w0 B c n p b g w) (e : ∀ i, i < c → ∀ j, j < n i → g i j = f i j) : AsW w0 B c n p b f w :=
  ⟨h.bel, h.cB, fun i hi hn => (h.rows i hi hn).congr (e i hi)⟩
theorem AsW.put {w0 : World} {B c i k : Nat} {n : Nat → Nat} {p : Nat → Option Addr} {b : Nat → Nat} {g : Nat → Nat → E4} {w : World} (h : AsW w0 B c n p b (gms g i k) w) (A : As3 w0 B c n p b) (hi : i < c) (hk : k < n i) : AsW w0 B c n p b (gms g i (k + 1)) (setS w (b i) (k * 4) (mks i k)) := by
  have hn0 : 0 < n i := by omega
  refine ⟨setS_below _ _ _ _ h.bel (A.h0 i hi hn0), fun j hj => (setS_far _ _ _ _ _ (fun x _ e => A.hB i hi hn0 (congrArg Addr.block e))).trans (h.cB j hj), fun j hj hn => ?_⟩
  by_cases hji : j = i
  · subst hji
    refine ((h.rows j hj hn).at k hk (mks j k)).congr fun x _ => ?_
    unfold gms
    by_cases hx : x = k
    · subst hx
      rw [if_pos rfl, if_neg (by omega), if_pos (by omega)]
    · rw [if_neg hx, if_neg (Nat.lt_irrefl j)]
      by_cases hlt : x < k
      · rw [if_pos ⟨rfl, hlt⟩, if_neg (Nat.lt_irrefl j), if_pos ⟨rfl, by omega⟩]
      · rw [if_neg (by omega), if_neg (Nat.lt_irrefl j), if_neg (by omega)]
  · have hne := A.hd i j hi hj hn0 hn (fun e => hji e.symm)
    have hr := ((((h.rows j hj hn).far hne (k * 4) (.int .u64 (mks i k).x0)).far hne (k * 4 + 1) (.int .u64 (mks i k).x1)).far hne (k * 4 + 2) (.int .u64 (mks i k).x2)).far hne (k * 4 + 3) (.int .u64 (mks i k).x3)
    refine Rws.congr (g := gms g i k j) hr fun x _ => ?_
    unfold gms
    by_cases hlt : j < i
    · rw [if_pos hlt, if_pos hlt]
    · rw [if_neg hlt, if_neg hlt, if_neg (by omega), if_neg (by omega)]
theorem gms_next (g : Nat → Nat → E4) (c : Nat) (n : Nat → Nat) (i : Nat) : ∀ a, a < c → ∀ j, j < n a → gms g i (n i) a j = gms g (i + 1) 0 a j := by
  intro a _ j hj
  unfold gms
  by_cases h : a < i
  · rw [if_pos h, if_pos (by omega)]
  · by_cases h2 : a = i
    · rw [if_neg h, if_pos ⟨h2, by rw [← h2]; exact hj⟩, if_pos (by omega)]
    · rw [if_neg h, if_neg (by omega), if_neg (by omega), if_neg (by omega)]
theorem gms_zero (g : Nat → Nat → E4) (a j : Nat) : gms g 0 0 a j = g a j := by
  unfold gms
  rw [if_neg (by omega), if_neg (by omega)]
theorem gms_all (g : Nat → Nat → E4) (c : Nat) : ∀ a, a < c → ∀ j, gms g c 0 a j = mks a j := by
  intro a ha j
  unfold gms
  rw [if_pos ha]

/-- the cells of scalars -/
def svs (n : Nat) (g : Nat → E4) : List Value := (List.range n).flatMap fun k => [.int .u64 (g k).x0, .int .u64 (g k).x1, .int .u64 (g k).x2, .int .u64 (g k).x3]
theorem svs_succ (n : Nat) (g : Nat → E4) : svs (n + 1) g = svs n g ++ [.int .u64 (g n).x0, .int .u64 (g n).x1, .int .u64 (g n).x2, .int .u64 (g n).x3] := by simp [svs, List.range_succ]
theorem svs_len (n : Nat) (g : Nat → E4) : (svs n g).length = n * 4 := by
  induction n with
  | zero => rfl
  | succ n ih => rw [svs_succ, List.length_append, ih]; simp; omega
theorem svs_row {w : World} {b m : Nat} {g : Nat → E4} (h : Rws w b m g) (n : Nat) (hn : n ≤ m) : ∀ j u, (svs n g)[j]? = some u → w.cell? ⟨b, j, none⟩ = some u := by
  induction n with
  | zero => intro j u hu; simp [svs] at hu
  | succ n ih =>
    intro j u hu
    rw [svs_succ] at hu
    by_cases hj : j < n * 4
    · rw [List.getElem?_append_left (by rw [svs_len]; exact hj)] at hu
      exact ih (by omega) j u hu
    · rw [List.getElem?_append_right (by rw [svs_len]; omega), svs_len] at hu
      obtain ⟨d, hd⟩ : ∃ d, j = n * 4 + d := ⟨j - n * 4, by omega⟩
      subst hd
      rw [show n * 4 + d - n * 4 = d by omega] at hu
      match d, hu with
      | 0, hu => simp at hu; rw [← hu]; exact h.c0 n (by omega)
      | 1, hu => simp at hu; rw [← hu]; exact h.c1 n (by omega)
      | 2, hu => simp at hu; rw [← hu]; exact h.c2 n (by omega)
      | 3, hu => simp at hu; rw [← hu]; exact h.c3 n (by omega)
end Go.Proofs.YtaejedhdpilhjaaDoor
