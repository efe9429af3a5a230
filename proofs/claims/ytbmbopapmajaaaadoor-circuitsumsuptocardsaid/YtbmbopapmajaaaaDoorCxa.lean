import Derived.Test.YtbmbopapmajaaaaDoorCmd
import Derived.Maps.AppendAt
import Derived.Laws.AppendOwn
namespace Go.Proofs.YtbmbopapmajaaaaDoor
namespace Xo
open Go.RowKit
set_option linter.unusedVariables false
/-- so many times the same cells -/
def rpt : Nat → List Value → List Value
  | 0, _ => []
  | k + 1, e => rpt k e ++ e
theorem rpt_len (k : Nat) (e : List Value) : (rpt k e).length = k * e.length := by
  induction k with
  | zero => simp [rpt]
  | succ k ih => rw [rpt, List.length_append, ih, Nat.add_mul, Nat.one_mul]
theorem rpt_get (k : Nat) (e : List Value) (i j : Nat) (hi : i < k) (hj : j < e.length) : (rpt k e)[i * e.length + j]? = e[j]? := by
  induction k with
  | zero => omega
  | succ k ih =>
    rw [rpt]
    by_cases h : i < k
    · have h2 : (i + 1) * e.length ≤ k * e.length := Nat.mul_le_mul_right _ h
      rw [Nat.add_mul, Nat.one_mul] at h2
      rw [List.getElem?_append_left (by rw [rpt_len]; omega)]
      exact ih h
    · obtain rfl : i = k := by omega
      rw [List.getElem?_append_right (by rw [rpt_len]; omega), rpt_len, show i * e.length + j - i * e.length = j by omega]
theorem rpt_add (k m : Nat) (e : List Value) : rpt (k + m) e = rpt k e ++ rpt m e := by
  induction m with
  | zero => simp [rpt]
  | succ m ih => rw [← Nat.add_assoc, rpt, ih, rpt, List.append_assoc]
/-- unlike blocks -/
def Dj (a b : Value) : Prop := ∀ k, a.ownBlock = some k → b.ownBlock ≠ some k
theorem ob (P : Option Addr) (n c m d : Nat) : (Value.slice P n c).ownBlock = (Value.slice P m d).ownBlock := by cases P <;> rfl
theorem Dj.symm {a b : Value} (h : Dj a b) : Dj b a := fun k hk e => h k e hk
theorem Dj.kept {w w' : World} {base s : Nat} {e : TypeId} {u v : Value} {n : Nat} {xs : List Value} (h : Dj u v) (ho : w.ownsRow base e s v n xs) (hg : w.grownBy w' u.ownBlock) : w'.ownsRow base e s v n xs :=
  ho.kept hg (by
    cases hv : v.ownBlock with
    | none => exact .inl rfl
    | some k => exact .inr (fun e => h k e.symm hv))
theorem below_tr {n : Nat} {w1 w2 w3 : World} (h1 : Below n w1 w2) (h2 : Below n w2 w3) : Below n w1 w3 := ⟨h2.os.trans h1.os, h2.tape.trans h1.tape, h2.output.trans h1.output, Nat.le_trans h1.size h2.size, fun k hk => (h2.block k hk).trans (h1.block k hk)⟩
theorem below_gr {B : Nat} {w w' : World} {row : Option Nat} (hg : w.grownBy w' row) (hB : B ≤ w.heap.size) (hr : ∀ k, row = some k → B ≤ k) : Below B w w' := (Below.refl _ _).grown hg hB hr
theorem own_keep {w1 w2 : World} {base s : Nat} {e : TypeId} {v : Value} {n : Nat} {xs : List Value} (h : w1.ownsRow base e s v n xs) (hb : Below w1.heap.size w1 w2) : w2.ownsRow base e s v n xs := ⟨h.1, by
  rcases h.2 with h0 | ⟨g, c, cur, h1, h2, h3, h4⟩
  · exact .inl h0
  · exact .inr ⟨g, c, cur, h1, h2, (hb.block g (Array.getElem?_eq_some_iff.1 h3).1).trans h3, h4⟩⟩
theorem own_some {w : World} {base n s : Nat} {e : TypeId} {v : Value} {xs : List Value} (h : w.ownsRow base e s v n xs) (hn : 0 < n) : ∃ g c : Nat, v = .slice (some ⟨g, 0, none⟩) n c ∧ n ≤ c := by
  rcases h.2 with ⟨_, h2⟩ | ⟨g, c, cur, h1, _, _, h4, _⟩
  · omega
  · exact ⟨g, c, h1, h4⟩
theorem own_sh {w : World} {base n s : Nat} {e : TypeId} {v : Value} {xs : List Value} (h : w.ownsRow base e s v n xs) : ∃ (P : Option Addr) (c : Nat), v = .slice P n c := by
  rcases h.2 with ⟨h1, h2⟩ | ⟨g, c, cur, h1, _⟩
  · exact ⟨none, 0, by rw [h1, h2]⟩
  · exact ⟨_, c, h1⟩
theorem own_front {w : World} {base s : Nat} {e : TypeId} {b c n m : Nat} {xs ys : List Value} (h : w.ownsRow base e s (.slice (some ⟨b, 0, none⟩) m c) m (xs ++ ys)) (hx : xs.length = n * s) (hn : n ≤ m) : w.ownsRow base e s (.slice (some ⟨b, 0, none⟩) n c) n xs := by
  rcases h.2 with ⟨h', _⟩ | ⟨b', c', cur, h', hb, hg, hnc, hcm, hcs, ht⟩
  · simp at h'
  · simp only [Value.slice.injEq, Option.some.injEq, Addr.mk.injEq, and_true, true_and] at h'
    obtain ⟨rfl, rfl⟩ := h'
    refine ⟨hx, .inr ⟨b, c, cur, rfl, hb, hg, Nat.le_trans hn hnc, hcm, hcs, ?_⟩⟩
    have h1 := congrArg (List.take (n * s)) ht
    rw [List.take_take, Nat.min_eq_left (Nat.mul_le_mul_right s hn), List.take_left' hx] at h1
    exact h1
theorem own_mono {w : World} {base base' s : Nat} {e : TypeId} {v : Value} {n : Nat} {xs : List Value} (h : w.ownsRow base e s v n xs) (hb : base' ≤ base) : w.ownsRow base' e s v n xs := by
  refine ⟨h.1, ?_⟩
  rcases h.2 with h | ⟨g, c, cur, h1, h2, h3⟩
  · exact .inl h
  · exact .inr ⟨g, c, cur, h1, Nat.le_trans hb h2, h3⟩
/-- rows of unlike kinds -/
theorem own_dj {w : World} {b1 b2 s1 s2 : Nat} {e1 e2 : TypeId} {v1 v2 : Value} {n1 n2 : Nat} {xs1 xs2 : List Value} (h1 : w.ownsRow b1 e1 s1 v1 n1 xs1) (h2 : w.ownsRow b2 e2 s2 v2 n2 xs2) (he : e1 ≠ e2) : Dj v1 v2 := by
  intro k hk hk2
  rcases h1.2 with ⟨rfl, -⟩ | ⟨g, c, cur, rfl, _, k1, _⟩
  · cases hk
  · rcases h2.2 with ⟨rfl, -⟩ | ⟨g', c', cur', rfl, _, k2, _⟩
    · cases hk2
    · simp only [Value.ownBlock, Option.some.injEq] at hk hk2
      subst hk
      subst hk2
      rw [k1] at k2
      simp only [Option.some.injEq, Obj.cells.injEq] at k2
      exact he k2.2.1
theorem own_new {w : World} {base s n : Nat} {e : TypeId} {v u : Value} {xs : List Value} (h : w.ownsRow base e s v n xs) (hu : u.ownBlock = some w.heap.size) : Dj u v := fun k hk e => by
  have := (h.lt k e).2
  rw [hu] at hk
  have := Option.some.inj hk
  omega
/-- append of one element that tells what became of the old row -/
theorem run_tell {P : Program} (w : World) (base : Nat) (t ty e : TypeId) (i : TypeInfo) (z : Value) (sz by' : Nat) (ht : P.underlying t = some (.slice e)) (hi : P.info? e = some i) (hz : i.zero = some z)
    (hsize : i.size = sz) (hby : i.bytes = by') (hzs : z.cells.size = sz) (hsz : 0 < sz) (v : Value) (n : Nat) (xs : List Value) (hown : w.ownsRow base e sz v n xs)
    (a : Addr) (news : List Value) (hl : news.length = sz) (hnews : ∀ j u, news[j]? = some u → w.cell? (a.add j) = some u) (h1 : ∀ u ∈ news, u.oneCell' = true)
    (h63 : n + 1 ≤ maxLen) (hbytes : (n + 1) * by' ≤ 140737488355328) (hbase : base ≤ w.heap.size) :
    ∃ v' w', (Builtin.append_ #[t, t] ty #[v, .slice (some a) 1 1]).run P w = .ok v' w' ∧ w'.ownsRow base e sz v' (n + 1) (xs ++ news) ∧ w.grownBy w' v.ownBlock ∧
      ((∃ g cap, v = .slice (some ⟨g, 0, none⟩) n cap ∧ v' = .slice (some ⟨g, 0, none⟩) (n + 1) cap) ∨ (v'.ownBlock = some w.heap.size ∧ Below w.heap.size w w')) := by
  obtain ⟨v', w', hr, ho', hg, _, hat⟩ := run_append_own_at (P := P) w base t ty e i z sz by' ht hi hz hsize hby hzs hsz v n xs hown a 1 1 news (by omega) hnews h1 h63 hbytes hbase
  refine ⟨v', w', hr, ho', hg, ?_⟩
  rcases hown.2 with ⟨rfl, rfl⟩ | ⟨g, cap, cur, rfl, hbg, hgg, hnc, hcm, hcs, htake⟩
  · refine .inr ⟨?_, ⟨hg.os, hg.tape, hg.output, hg.size, fun k hk => hg.block k hk (by simp [Value.ownBlock])⟩⟩
    rcases hat with h | h
    · obtain ⟨g', c', e', _⟩ := own_some ho' (by omega)
      rw [e'] at h
      simp [Value.ownBlock] at h
    · exact h
  · by_cases hroom : n + 1 ≤ cap
    · have hr2 := run_append_room (P := P) w t ty e i ht hi g n cap cur hgg a 1 1 news (by omega) hnews h1 hroom (by rw [hsize, hcs, hl]; have h9 := Nat.mul_le_mul_right sz hroom; rw [Nat.add_mul, Nat.one_mul] at h9; exact h9)
      rw [hr] at hr2
      simp only [Result.ok.injEq] at hr2
      exact .inl ⟨g, cap, rfl, hr2.1⟩
    · have hr2 := run_append_grow (P := P) w t ty e i z ht hi hz ⟨g, 0, none⟩ n cap xs (by rw [hsize]; exact hown.1) (hown.cells (g := g) rfl) a 1 1 news (by omega) hnews (by omega) (by simp only [maxLen] at h63; omega) (growslice_fits (by omega) (by rw [hby]; exact hbytes))
      rw [hr] at hr2
      simp only [Result.ok.injEq] at hr2
      obtain ⟨rfl, rfl⟩ := hr2
      exact .inr ⟨rfl, ⟨rfl, rfl, rfl, by simp, fun k hk => heap_alloc_old w.drew _ hk⟩⟩
theorem wpList_tell {P : Program} {w : World} {ops : Array Oper} {rest : List Oper} {o : Oper} {a : Act} {Q : Exit → Act → World → Prop} (hgd : o.guard = none) (s x : Operand) (t : TypeId)
    (ho : o.op = .call { callee := .builtin .append, args := #[s, x], argTypes := #[t, t] })
    (base : Nat) (e : TypeId) (i : TypeInfo) (z : Value) (sz by' : Nat) (ht : P.underlying t = some (.slice e)) (hi : P.info? e = some i) (hz : i.zero = some z)
    (hsize : i.size = sz) (hby : i.bytes = by') (hzs : z.cells.size = sz) (hsz : 0 < sz) (v : Value) (n : Nat) (xs : List Value) (hs : a.eval s = v) (hown : w.ownsRow base e sz v n xs)
    (ad : Addr) (us : List Value) (hx : a.eval x = .slice (some ad) 1 1) (hus : us.length = sz) (hc : ∀ j y, us[j]? = some y → w.cell? (ad.add j) = some y) (h1 : ∀ u ∈ us, u.oneCell' = true) (h63 : n + 1 ≤ maxLen) (hbytes : (n + 1) * by' ≤ 140737488355328) (hbase : base ≤ w.heap.size)
    (h : ∀ v' w', w'.ownsRow base e sz v' (n + 1) (xs ++ us) → w.grownBy w' v.ownBlock → ((∃ g cap, v = .slice (some ⟨g, 0, none⟩) n cap ∧ v' = .slice (some ⟨g, 0, none⟩) (n + 1) cap) ∨ (v'.ownBlock = some w.heap.size ∧ Below w.heap.size w w')) → wpList P ops Q rest (a.put o.dst v') w') : wpList P ops Q (o :: rest) a w := by
  refine wpList_plain hgd fun K hK => ?_
  obtain ⟨v', w', hr, h2, h3, h4⟩ := run_tell (P := P) w base t o.type e i z sz by' ht hi hz hsize hby hzs hsz v n xs hown ad us hus hc h1 h63 hbytes hbase
  unfold Oper.wp execOp
  simp only [ho, resolve, invoke, builtin, Sem.run_bind, Sem.run_pure, Result.andThen_ok, List.map_toArray, List.map_cons, List.map_nil, hs, hx, hr]
  exact hK _ _ (h v' w' h2 h3 h4)
/-- blocks of a kind stay -/
def Kt (U : TypeId → Prop) (w w' : World) : Prop := ∀ (b : Nat) (cur : Array Value) (u : TypeId), U u → w.heap[b]? = some (Obj.cells cur u (0, 0)) → w'.heap[b]? = some (Obj.cells cur u (0, 0))
theorem Kt.refl (U : TypeId → Prop) (w : World) : Kt U w w := fun _ _ _ _ h => h
theorem Kt.trans {U : TypeId → Prop} {w1 w2 w3 : World} (h : Kt U w1 w2) (k : Kt U w2 w3) : Kt U w1 w3 := fun b cur u hu e => k b cur u hu (h b cur u hu e)
theorem Kt.below {U : TypeId → Prop} {w w' : World} (h : Below w.heap.size w w') : Kt U w w' := fun b cur u hu e => (h.block b (Array.getElem?_eq_some_iff.1 e).1).trans e
theorem Kt.grown {U : TypeId → Prop} {T : TypeId} {base sz n : Nat} {w w' : World} {v : Value} {xs : List Value} (h : w.ownsRow base T sz v n xs) (hT : ¬ U T) (hg : w.grownBy w' v.ownBlock) : Kt U w w' := fun b cur u hu e => by
  refine (hg.block b (Array.getElem?_eq_some_iff.1 e).1 (fun hb => ?_)).trans e
  rcases h.2 with ⟨rfl, -⟩ | ⟨g, c, cur', rfl, _, k1, _⟩
  · cases hb
  · simp only [Value.ownBlock, Option.some.injEq] at hb
    subst hb
    rw [k1] at e
    simp only [Option.some.injEq, Obj.cells.injEq] at e
    exact hT (e.2.1 ▸ hu)
theorem Kt.own {U : TypeId → Prop} {u : TypeId} (hu : U u) {base s n : Nat} {w w' : World} {v : Value} {xs : List Value} (h : Kt U w w') (ho : w.ownsRow base u s v n xs) : w'.ownsRow base u s v n xs := by
  refine ⟨ho.1, ?_⟩
  rcases ho.2 with h0 | ⟨g, c, cur, h1, h2, h3, h4⟩
  · exact .inl h0
  · exact .inr ⟨g, c, cur, h1, h2, h g cur u hu h3, h4⟩
section
variable {U : TypeId → Prop} {w1 : World} {T TS sz : Nat} {w0 : World} {B c : Nat} {n : Nat → Nat} {p : Nat → Option Addr} {d : Nat → Nat} {e : Nat → List Value}
/-- lists of one's own, named in the block B -/
structure Ar (U : TypeId → Prop) (w1 : World) (T sz : Nat) (w0 : World) (B c : Nat) (n : Nat → Nat) (p : Nat → Option Addr) (d : Nat → Nat) (x : Nat → List Value) (w : World) : Prop where
  bel : Below w0.heap.size w0 w
  cB : ∀ i, i < c → w.cell? ⟨B, i, none⟩ = some (.slice (p i) (n i) (d i))
  rows : ∀ i, i < c → w.ownsRow w0.heap.size T sz (.slice (p i) (n i) (d i)) (n i) (x i)
  kt : Kt U w1 w
structure Aq (w0 : World) (B c : Nat) (n : Nat → Nat) (p : Nat → Option Addr) (d : Nat → Nat) : Prop where
  c0 : c < 100
  n0 : ∀ i, i < c → n i ≤ 1099511627776
  dj : ∀ i j, i < c → j < c → i ≠ j → Dj (.slice (p i) (n i) (d i)) (.slice (p j) (n j) (d j))
  hB : ∀ i, i < c → ¬ (Value.slice (p i) (n i) (d i)).ownBlock = some B
theorem Ar.congr {x y : Nat → List Value} {w : World} (h : Ar U w1 T sz w0 B c n p d x w) (h2 : ∀ i, i < c → x i = y i) : Ar U w1 T sz w0 B c n p d y w :=
  ⟨h.bel, h.cB, fun i hi => by rw [← h2 i hi]; exact h.rows i hi, h.kt⟩
theorem Ar.keep {x : Nat → List Value} {w w' : World} (h : Ar U w1 T sz w0 B c n p d x w) (hb : Below w.heap.size w w') : Ar U w1 T sz w0 B c n p d x w' :=
  ⟨bl_trans h.bel hb, fun i hi => cell_keep (h.cB i hi) hb, fun i hi => own_keep (h.rows i hi) hb, h.kt.trans (Kt.below hb)⟩
theorem Ar.other {x : Nat → List Value} {w w' : World} {v : Value} (h : Ar U w1 T sz w0 B c n p d x w) (hg : w.grownBy w' v.ownBlock) (hv : ∀ k, v.ownBlock = some k → w0.heap.size ≤ k) (hd : ∀ i, i < c → Dj v (.slice (p i) (n i) (d i))) (hB : ¬ v.ownBlock = some B) (hk : Kt U w w') : Ar U w1 T sz w0 B c n p d x w' :=
  ⟨below_tr h.bel (below_gr hg h.bel.size hv), fun i hi => hg.cell (h.cB i hi) (fun e => hB e.symm), fun i hi => (hd i hi).kept (h.rows i hi) hg, h.kt.trans hk⟩
theorem Ar.blk {x : Nat → List Value} {w : World} (h : Ar U w1 T sz w0 B c n p d x w) {i : Nat} (hi : i < c) (h0 : 0 < n i) : ∃ b, p i = some ⟨b, 0, none⟩ := by
  obtain ⟨b, c', e, _⟩ := own_some (h.rows i hi) h0
  simp only [Value.slice.injEq, true_and] at e
  exact ⟨b, e.1⟩
/-- one row is written into -/
theorem Ar.wrote (hU : ¬ U T) {x : Nat → List Value} {w w' : World} {i b : Nat} {y : List Value} (h : Ar U w1 T sz w0 B c n p d x w) (A : Aq w0 B c n p d) (hi : i < c) (hp : p i = some ⟨b, 0, none⟩) (ho : w'.ownsRow w0.heap.size T sz (.slice (some ⟨b, 0, none⟩) (n i) (d i)) (n i) y) (hg : w.grownBy w' (some b)) : Ar U w1 T sz w0 B c n p d (fun j => if j = i then y else x j) w' := by
  have hr := h.rows i hi
  rw [hp] at hr
  have eb : (Value.slice (p i) (n i) (d i)).ownBlock = some b := by rw [hp]; rfl
  have hb := (hr.lt b rfl).1
  refine ⟨below_tr h.bel (below_gr hg h.bel.size (fun k hk => by have := Option.some.inj hk; omega)), fun j hj => hg.cell (h.cB j hj) (fun e => A.hB i hi (by rw [eb]; exact e.symm)), fun j hj => ?_, h.kt.trans (Kt.grown hr hU (by simpa [Value.ownBlock] using hg))⟩
  by_cases hji : j = i
  · subst hji
    rw [if_pos rfl, hp]
    exact ho
  · rw [if_neg hji]
    have hd := A.dj i j hi hj (fun e => hji e.symm)
    rw [← eb] at hg
    exact hd.kept (h.rows j hj) hg
/-- the rows ahead of i are full of their marks, row i up to k -/
def gx (sz : Nat) (n : Nat → Nat) (e x : Nat → List Value) (i k j : Nat) : List Value := if j < i then rpt (n j) (e j) else if j = i then rpt k (e j) ++ (x j).drop (k * sz) else x j
theorem gx_zero (x : Nat → List Value) (j : Nat) : gx sz n e x 0 0 j = x j := by
  unfold gx
  rw [if_neg (by omega)]
  split <;> simp [rpt]
theorem gx_next (x : Nat → List Value) (i : Nat) (hx : (x i).length = n i * sz) (j : Nat) : gx sz n e x i (n i) j = gx sz n e x (i + 1) 0 j := by
  unfold gx
  by_cases h1 : j < i
  · rw [if_pos h1, if_pos (by omega)]
  · rw [if_neg h1]
    by_cases h2 : j = i
    · subst h2
      rw [if_pos rfl, if_pos (by omega), List.drop_eq_nil_of_le (by omega), List.append_nil]
    · rw [if_neg h2, if_neg (by omega)]
      split <;> simp [rpt]
theorem gx_all (x : Nat → List Value) (i j : Nat) (h : j < i) : gx sz n e x i 0 j = rpt (n j) (e j) := by unfold gx; rw [if_pos h]
theorem gx_step (x : Nat → List Value) (i k j : Nat) (y : List Value) (hy : y = gx sz n e x i (k + 1) i) : (if j = i then y else gx sz n e x i k j) = gx sz n e x i (k + 1) j := by
  by_cases h : j = i
  · rw [if_pos h, hy, h]
  · rw [if_neg h]
    unfold gx
    rw [if_neg h, if_neg h]
/-- the list that is appended to: still the list itself, or one in a block of its own -/
def Mo (B c : Nat) (n : Nat → Nat) (p : Nat → Option Addr) (d : Nat → Nat) (j k : Nat) (v : Value) : Prop :=
  v = .slice (p j) (n j + k) (d j) ∨ ((∀ i, i < c → Dj v (.slice (p i) (n i) (d i))) ∧ ¬ v.ownBlock = some B)
/-- the grown lists so far, and the list that names them -/
structure Am (U : TypeId → Prop) (w1 : World) (T TS sz : Nat) (w0 : World) (B c : Nat) (n : Nat → Nat) (p : Nat → Option Addr) (d : Nat → Nat) (e : Nat → List Value) (j : Nat) (V : Value) (pp : Nat → Option Addr) (dd : Nat → Nat) (w : World) : Prop where
  ar : Ar U w1 T sz w0 B c n p d (fun i => rpt (n i) (e i)) w
  mv : w.ownsRow w0.heap.size TS 1 V j ((List.range j).map fun a => .slice (pp a) (n a + 40) (dd a))
  mr : ∀ a, a < j → w.ownsRow w0.heap.size T sz (.slice (pp a) (n a + 40) (dd a)) (n a + 40) (rpt (n a + 40) (e a))
  vB : ¬ V.ownBlock = some B
  bB : B < w.heap.size
theorem Am.keep {j : Nat} {V : Value} {pp : Nat → Option Addr} {dd : Nat → Nat} {w w' : World} (h : Am U w1 T TS sz w0 B c n p d e j V pp dd w) (hb : Below w.heap.size w w') : Am U w1 T TS sz w0 B c n p d e j V pp dd w' :=
  ⟨h.ar.keep hb, own_keep h.mv hb, fun a ha => own_keep (h.mr a ha) hb, h.vB, Nat.lt_of_lt_of_le h.bB hb.size⟩
structure Ap (B c : Nat) (n : Nat → Nat) (p : Nat → Option Addr) (d : Nat → Nat) (j : Nat) (pp : Nat → Option Addr) (dd : Nat → Nat) : Prop where
  da : ∀ a, a < j → ∀ i, i < c → i ≠ a → Dj (.slice (pp a) (n a + 40) (dd a)) (.slice (p i) (n i) (d i))
/-- a list that is being grown -/
structure Ag (T sz : Nat) (w0 : World) (B c : Nat) (n : Nat → Nat) (p : Nat → Option Addr) (d : Nat → Nat) (e : Nat → List Value) (j : Nat) (pp : Nat → Option Addr) (dd : Nat → Nat) (k : Nat) (v : Value) (w : World) : Prop where
  ho : w.ownsRow w0.heap.size T sz v (n j + k) (rpt (n j + k) (e j))
  mo : Mo B c n p d j k v
  dv : ∀ a, a < j → Dj v (.slice (pp a) (n a + 40) (dd a))
theorem Ag.keep {j k : Nat} {v : Value} {pp : Nat → Option Addr} {dd : Nat → Nat} {w w' : World} (h : Ag T sz w0 B c n p d e j pp dd k v w) (hb : Below w.heap.size w w') : Ag T sz w0 B c n p d e j pp dd k v w' := ⟨own_keep h.ho hb, h.mo, h.dv⟩
theorem Ag.start {j : Nat} {V : Value} {pp : Nat → Option Addr} {dd : Nat → Nat} {w : World} (hj : j < c) (h : Am U w1 T TS sz w0 B c n p d e j V pp dd w) (a : Ap B c n p d j pp dd) : Ag T sz w0 B c n p d e j pp dd 0 (.slice (p j) (n j) (d j)) w :=
  ⟨h.ar.rows j hj, .inl rfl, fun x hx => (a.da x hx j hj (by omega)).symm⟩
theorem Ag.next (hU : ¬ U T) {j k : Nat} {V v v' : Value} {pp : Nat → Option Addr} {dd : Nat → Nat} {w w' : World} (hT : T ≠ TS) (A : Aq w0 B c n p d) (hj : j < c) (hm : Am U w1 T TS sz w0 B c n p d e j V pp dd w) (h : Ag T sz w0 B c n p d e j pp dd k v w) (hez : (e j).length = sz)
    (ho' : w'.ownsRow w0.heap.size T sz v' (n j + k + 1) (rpt (n j + k) (e j) ++ e j)) (hg : w.grownBy w' v.ownBlock)
    (ht : (∃ g cap, v = .slice (some ⟨g, 0, none⟩) (n j + k) cap ∧ v' = .slice (some ⟨g, 0, none⟩) (n j + k + 1) cap) ∨ (v'.ownBlock = some w.heap.size ∧ Below w.heap.size w w')) :
    Ag T sz w0 B c n p d e j pp dd (k + 1) v' w' ∧ Am U w1 T TS sz w0 B c n p d e j V pp dd w' := by
  have hv : ∀ x, v.ownBlock = some x → w0.heap.size ≤ x := fun x hx => (h.ho.lt x hx).1
  have hvV : Dj v V := own_dj h.ho hm.mv hT
  have hkt := Kt.grown h.ho hU hg
  rcases ht with ⟨b, cap, e1, e2⟩ | ⟨e1, e2⟩
  · have ebv : v'.ownBlock = v.ownBlock := by rw [e1, e2]; rfl
    have dv' : ∀ a, a < j → Dj v' (.slice (pp a) (n a + 40) (dd a)) := fun a ha k hk => h.dv a ha k (by rw [← ebv]; exact hk)
    have mv' := hvV.kept hm.mv hg
    have mr' := fun a ha => (h.dv a ha).kept (hm.mr a ha) hg
    have bB' := Nat.lt_of_lt_of_le hm.bB hg.size
    rcases h.mo with hmo | ⟨h1, h2⟩
    · rw [hmo] at e1
      simp only [Value.slice.injEq, true_and] at e1
      obtain ⟨ep, ed⟩ := e1
      have eb : (Value.slice (p j) (n j) (d j)).ownBlock = v.ownBlock := by rw [hmo]; exact ob _ _ _ _ _
      refine ⟨⟨ho', .inl (by rw [e2, ep, ed]; rfl), dv'⟩, ⟨⟨below_tr hm.ar.bel (below_gr hg hm.ar.bel.size hv), fun i hi => hg.cell (hm.ar.cB i hi) (fun e => A.hB j hj (by rw [eb]; exact e.symm)), fun i hi => ?_, hm.ar.kt.trans hkt⟩, mv', mr', hm.vB, bB'⟩⟩
      by_cases hij : i = j
      · subst hij
        rw [e2, ← ed, rpt_add, List.append_assoc] at ho'
        rw [ep]
        exact own_front ho' (by rw [rpt_len, hez]) (by omega)
      · have hd := A.dj j i hj hi (fun e => hij e.symm)
        rw [← eb] at hg
        exact hd.kept (hm.ar.rows i hi) hg
    · refine ⟨⟨ho', .inr ⟨fun i hi x hx => h1 i hi x (by rw [← ebv]; exact hx), by rw [ebv]; exact h2⟩, dv'⟩, ⟨hm.ar.other hg hv h1 h2 hkt, mv', mr', hm.vB, bB'⟩⟩
  · refine ⟨⟨ho', .inr ⟨fun i hi => own_new (hm.ar.rows i hi) e1, ?_⟩, fun a ha => own_new (hm.mr a ha) e1⟩, hm.keep e2⟩
    rw [e1]
    intro e
    have := Option.some.inj e
    have := hm.bB
    omega
/-- a grown list is named in more -/
theorem Am.more (hV : ¬ U TS) {j : Nat} {V V' : Value} {pp : Nat → Option Addr} {dd : Nat → Nat} {w w' : World} {P : Option Addr} {cap : Nat} (hT : T ≠ TS) (A : Aq w0 B c n p d) (hj : j < c) (hm : Am U w1 T TS sz w0 B c n p d e j V pp dd w) (h : Ag T sz w0 B c n p d e j pp dd 40 (.slice P (n j + 40) cap) w) (ap : Ap B c n p d j pp dd)
    (ho' : w'.ownsRow w0.heap.size TS 1 V' (j + 1) (((List.range j).map fun a => .slice (pp a) (n a + 40) (dd a)) ++ [.slice P (n j + 40) cap])) (hg : w.grownBy w' V.ownBlock) (hV2 : V'.ownBlock = V.ownBlock ∨ V'.ownBlock = some w.heap.size) :
    ∃ (pp' : Nat → Option Addr) (dd' : Nat → Nat), Am U w1 T TS sz w0 B c n p d e (j + 1) V' pp' dd' w' ∧ Ap B c n p d (j + 1) pp' dd' := by
  refine ⟨fun a => if a = j then P else pp a, fun a => if a = j then cap else dd a, ⟨?_, ?_, ?_, ?_, Nat.lt_of_lt_of_le hm.bB hg.size⟩, ⟨?_⟩⟩
  · exact hm.ar.other hg (fun k hk => (hm.mv.lt k hk).1) (fun i hi => (own_dj (hm.ar.rows i hi) hm.mv hT).symm) hm.vB (Kt.grown hm.mv hV hg)
  · rw [List.range_succ, List.map_append, List.map_cons, List.map_nil]
    rw [show ((List.range j).map fun a => Value.slice (if a = j then P else pp a) (n a + 40) (if a = j then cap else dd a)) = ((List.range j).map fun a => .slice (pp a) (n a + 40) (dd a)) from List.map_congr_left (fun a ha => by have := List.mem_range.1 ha; rw [if_neg (by omega), if_neg (by omega)])]
    rw [if_pos rfl, if_pos rfl]
    exact ho'
  · intro a ha
    by_cases haj : a = j
    · subst haj
      rw [if_pos rfl, if_pos rfl]
      exact (own_dj h.ho hm.mv hT).symm.kept h.ho hg
    · rw [if_neg haj, if_neg haj]
      have := hm.mr a (by omega)
      exact (own_dj this hm.mv hT).symm.kept this hg
  · rcases hV2 with hV | hV
    · rw [hV]; exact hm.vB
    · rw [hV]
      intro e
      have := Option.some.inj e
      have := hm.bB
      omega
  · intro a ha i hi hne
    by_cases haj : a = j
    · subst haj
      rw [if_pos rfl, if_pos rfl]
      rcases h.mo with hmo | ⟨h1, _⟩
      · rw [hmo]
        intro k hk
        exact A.dj a i hj hi (fun e => hne e.symm) k (by rw [ob (p a) (n a) (d a) (n a + 40) (d a)]; exact hk)
      · exact h1 i hi
    · rw [if_neg haj, if_neg haj]
      exact ap.da a (by omega) i hi hne
end
end Xo
end Go.Proofs.YtbmbopapmajaaaaDoor
