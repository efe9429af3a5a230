import Derived.Test.YtkfkmndhbfeagaaGreatDoorPG
import Derived.Test.YtkfkmndhbfeagaaGreatDoorWd
import Derived.Maps.AppendAt
import Derived.Laws.AppendOwn
import Derived.Test.YtkfkmndhbfeagaaGreatDoorQG
import Derived.Laws.StructEq
import Derived.ChangeKeysEq
namespace Go.Proofs.YtkfkmndhbfeagaaGreatDoor
namespace Xo
open Go.RowKit
set_option linter.unusedVariables false
/-- so many times the same cells -/
def rpt : Nat → List Value → List Value
  | 0, _ => []
  | k + 1, e => rpt k e ++ e
theorem rpt_len (k : Nat) (e : List Value) : (rpt k e).length = k * e.length := by
  induction k with
  | zero => simp [rpt]
  | succ k ih => rw [rpt, List.length_append, ih, Nat.add_mul, Nat.one_mul]
theorem rpt_get (k : Nat) (e : List Value) (i j : Nat) (hi : i < k) (hj : j < e.length) : (rpt k e)[i * e.length + j]? = e[j]? := by
  induction k with
  | zero => omega
  | succ k ih =>
    rw [rpt]
    by_cases h : i < k
    · have h2 : (i + 1) * e.length ≤ k * e.length := Nat.mul_le_mul_right _ h
      rw [Nat.add_mul, Nat.one_mul] at h2
      rw [List.getElem?_append_left (by rw [rpt_len]; omega)]
      exact ih h
    · obtain rfl : i = k := by omega
      rw [List.getElem?_append_right (by rw [rpt_len]; omega), rpt_len, show i * e.length + j - i * e.length = j by omega]
theorem rpt_add (k m : Nat) (e : List Value) : rpt (k + m) e = rpt k e ++ rpt m e := by
  induction m with
  | zero => simp [rpt]
  | succ m ih => rw [← Nat.add_assoc, rpt, ih, rpt, List.append_assoc]
/-- unlike blocks -/
def Dj (a b : Value) : Prop := ∀ k, a.ownBlock = some k → b.ownBlock ≠ some k
theorem ob (P : Option Addr) (n c m d : Nat) : (Value.slice P n c).ownBlock = (Value.slice P m d).ownBlock := by cases P <;> rfl
theorem Dj.symm {a b : Value} (h : Dj a b) : Dj b a := fun k hk e => h k e hk
theorem Dj.kept {w w' : World} {base s : Nat} {e : TypeId} {u v : Value} {n : Nat} {xs : List Value} (h : Dj u v) (ho : w.ownsRow base e s v n xs) (hg : w.grownBy w' u.ownBlock) : w'.ownsRow base e s v n xs :=
  ho.kept hg (by
    cases hv : v.ownBlock with
    | none => exact .inl rfl
    | some k => exact .inr (fun e => h k e.symm hv))
theorem below_tr {n : Nat} {w1 w2 w3 : World} (h1 : Below n w1 w2) (h2 : Below n w2 w3) : Below n w1 w3 := ⟨h2.os.trans h1.os, h2.tape.trans h1.tape, h2.output.trans h1.output, Nat.le_trans h1.size h2.size, fun k hk => (h2.block k hk).trans (h1.block k hk)⟩
theorem below_gr {B : Nat} {w w' : World} {row : Option Nat} (hg : w.grownBy w' row) (hB : B ≤ w.heap.size) (hr : ∀ k, row = some k → B ≤ k) : Below B w w' := (Below.refl _ _).grown hg hB hr
theorem own_keep {w1 w2 : World} {base s : Nat} {e : TypeId} {v : Value} {n : Nat} {xs : List Value} (h : w1.ownsRow base e s v n xs) (hb : Below w1.heap.size w1 w2) : w2.ownsRow base e s v n xs := ⟨h.1, by
  rcases h.2 with h0 | ⟨g, c, cur, h1, h2, h3, h4⟩
  · exact .inl h0
  · exact .inr ⟨g, c, cur, h1, h2, (hb.block g (Array.getElem?_eq_some_iff.1 h3).1).trans h3, h4⟩⟩
theorem own_some {w : World} {base n s : Nat} {e : TypeId} {v : Value} {xs : List Value} (h : w.ownsRow base e s v n xs) (hn : 0 < n) : ∃ g c : Nat, v = .slice (some ⟨g, 0, none⟩) n c ∧ n ≤ c := by
  rcases h.2 with ⟨_, h2⟩ | ⟨g, c, cur, h1, _, _, h4, _⟩
  · omega
  · exact ⟨g, c, h1, h4⟩
theorem own_sh {w : World} {base n s : Nat} {e : TypeId} {v : Value} {xs : List Value} (h : w.ownsRow base e s v n xs) : ∃ (P : Option Addr) (c : Nat), v = .slice P n c := by
  rcases h.2 with ⟨h1, h2⟩ | ⟨g, c, cur, h1, _⟩
  · exact ⟨none, 0, by rw [h1, h2]⟩
  · exact ⟨_, c, h1⟩
theorem own_front {w : World} {base s : Nat} {e : TypeId} {b c n m : Nat} {xs ys : List Value} (h : w.ownsRow base e s (.slice (some ⟨b, 0, none⟩) m c) m (xs ++ ys)) (hx : xs.length = n * s) (hn : n ≤ m) : w.ownsRow base e s (.slice (some ⟨b, 0, none⟩) n c) n xs := by
  rcases h.2 with ⟨h', _⟩ | ⟨b', c', cur, h', hb, hg, hnc, hcm, hcs, ht⟩
  · simp at h'
  · simp only [Value.slice.injEq, Option.some.injEq, Addr.mk.injEq, and_true, true_and] at h'
    obtain ⟨rfl, rfl⟩ := h'
    refine ⟨hx, .inr ⟨b, c, cur, rfl, hb, hg, Nat.le_trans hn hnc, hcm, hcs, ?_⟩⟩
    have h1 := congrArg (List.take (n * s)) ht
    rw [List.take_take, Nat.min_eq_left (Nat.mul_le_mul_right s hn), List.take_left' hx] at h1
    exact h1
theorem own_mono {w : World} {base base' s : Nat} {e : TypeId} {v : Value} {n : Nat} {xs : List Value} (h : w.ownsRow base e s v n xs) (hb : base' ≤ base) : w.ownsRow base' e s v n xs := by
  refine ⟨h.1, ?_⟩
  rcases h.2 with h | ⟨g, c, cur, h1, h2, h3⟩
  · exact .inl h
  · exact .inr ⟨g, c, cur, h1, Nat.le_trans hb h2, h3⟩
/-- rows of unlike kinds -/
theorem own_dj {w : World} {b1 b2 s1 s2 : Nat} {e1 e2 : TypeId} {v1 v2 : Value} {n1 n2 : Nat} {xs1 xs2 : List Value} (h1 : w.ownsRow b1 e1 s1 v1 n1 xs1) (h2 : w.ownsRow b2 e2 s2 v2 n2 xs2) (he : e1 ≠ e2) : Dj v1 v2 := by
  intro k hk hk2
  rcases h1.2 with ⟨rfl, -⟩ | ⟨g, c, cur, rfl, _, k1, _⟩
  · cases hk
  · rcases h2.2 with ⟨rfl, -⟩ | ⟨g', c', cur', rfl, _, k2, _⟩
    · cases hk2
    · simp only [Value.ownBlock, Option.some.injEq] at hk hk2
      subst hk
      subst hk2
      rw [k1] at k2
      simp only [Option.some.injEq, Obj.cells.injEq] at k2
      exact he k2.2.1
theorem own_new {w : World} {base s n : Nat} {e : TypeId} {v u : Value} {xs : List Value} (h : w.ownsRow base e s v n xs) (hu : u.ownBlock = some w.heap.size) : Dj u v := fun k hk e => by
  have := (h.lt k e).2
  rw [hu] at hk
  have := Option.some.inj hk
  omega
/-- append of one element that tells what became of the old row -/
theorem run_tell {P : Program} (w : World) (base : Nat) (t ty e : TypeId) (i : TypeInfo) (z : Value) (sz by' : Nat) (ht : P.underlying t = some (.slice e)) (hi : P.info? e = some i) (hz : i.zero = some z)
    (hsize : i.size = sz) (hby : i.bytes = by') (hzs : z.cells.size = sz) (hsz : 0 < sz) (v : Value) (n : Nat) (xs : List Value) (hown : w.ownsRow base e sz v n xs)
    (a : Addr) (news : List Value) (hl : news.length = sz) (hnews : ∀ j u, news[j]? = some u → w.cell? (a.add j) = some u) (h1 : ∀ u ∈ news, u.oneCell' = true)
    (h63 : n + 1 ≤ maxLen) (hbytes : (n + 1) * by' ≤ 140737488355328) (hbase : base ≤ w.heap.size) :
    ∃ v' w', (Builtin.append_ #[t, t] ty #[v, .slice (some a) 1 1]).run P w = .ok v' w' ∧ w'.ownsRow base e sz v' (n + 1) (xs ++ news) ∧ w.grownBy w' v.ownBlock ∧
      ((∃ g cap, v = .slice (some ⟨g, 0, none⟩) n cap ∧ v' = .slice (some ⟨g, 0, none⟩) (n + 1) cap) ∨ (v'.ownBlock = some w.heap.size ∧ Below w.heap.size w w')) := by
  obtain ⟨v', w', hr, ho', hg, _, hat⟩ := run_append_own_at (P := P) w base t ty e i z sz by' ht hi hz hsize hby hzs hsz v n xs hown a 1 1 news (by omega) hnews h1 h63 hbytes hbase
  refine ⟨v', w', hr, ho', hg, ?_⟩
  rcases hown.2 with ⟨rfl, rfl⟩ | ⟨g, cap, cur, rfl, hbg, hgg, hnc, hcm, hcs, htake⟩
  · refine .inr ⟨?_, ⟨hg.os, hg.tape, hg.output, hg.size, fun k hk => hg.block k hk (by simp [Value.ownBlock])⟩⟩
    rcases hat with h | h
    · obtain ⟨g', c', e', _⟩ := own_some ho' (by omega)
      rw [e'] at h
      simp [Value.ownBlock] at h
    · exact h
  · by_cases hroom : n + 1 ≤ cap
    · have hr2 := run_append_room (P := P) w t ty e i ht hi g n cap cur hgg a 1 1 news (by omega) hnews h1 hroom (by rw [hsize, hcs, hl]; have h9 := Nat.mul_le_mul_right sz hroom; rw [Nat.add_mul, Nat.one_mul] at h9; exact h9)
      rw [hr] at hr2
      simp only [Result.ok.injEq] at hr2
      exact .inl ⟨g, cap, rfl, hr2.1⟩
    · have hr2 := run_append_grow (P := P) w t ty e i z ht hi hz ⟨g, 0, none⟩ n cap xs (by rw [hsize]; exact hown.1) (hown.cells (g := g) rfl) a 1 1 news (by omega) hnews (by omega) (by simp only [maxLen] at h63; omega) (growslice_fits (by omega) (by rw [hby]; exact hbytes))
      rw [hr] at hr2
      simp only [Result.ok.injEq] at hr2
      obtain ⟨rfl, rfl⟩ := hr2
      exact .inr ⟨rfl, ⟨rfl, rfl, rfl, by simp, fun k hk => heap_alloc_old w.drew _ hk⟩⟩
theorem wpList_tell {P : Program} {w : World} {ops : Array Oper} {rest : List Oper} {o : Oper} {a : Act} {Q : Exit → Act → World → Prop} (hgd : o.guard = none) (s x : Operand) (t : TypeId)
    (ho : o.op = .call { callee := .builtin .append, args := #[s, x], argTypes := #[t, t] })
    (base : Nat) (e : TypeId) (i : TypeInfo) (z : Value) (sz by' : Nat) (ht : P.underlying t = some (.slice e)) (hi : P.info? e = some i) (hz : i.zero = some z)
    (hsize : i.size = sz) (hby : i.bytes = by') (hzs : z.cells.size = sz) (hsz : 0 < sz) (v : Value) (n : Nat) (xs : List Value) (hs : a.eval s = v) (hown : w.ownsRow base e sz v n xs)
    (ad : Addr) (us : List Value) (hx : a.eval x = .slice (some ad) 1 1) (hus : us.length = sz) (hc : ∀ j y, us[j]? = some y → w.cell? (ad.add j) = some y) (h1 : ∀ u ∈ us, u.oneCell' = true) (h63 : n + 1 ≤ maxLen) (hbytes : (n + 1) * by' ≤ 140737488355328) (hbase : base ≤ w.heap.size)
    (h : ∀ v' w', w'.ownsRow base e sz v' (n + 1) (xs ++ us) → w.grownBy w' v.ownBlock → ((∃ g cap, v = .slice (some ⟨g, 0, none⟩) n cap ∧ v' = .slice (some ⟨g, 0, none⟩) (n + 1) cap) ∨ (v'.ownBlock = some w.heap.size ∧ Below w.heap.size w w')) → wpList P ops Q rest (a.put o.dst v') w') : wpList P ops Q (o :: rest) a w := by
  refine wpList_plain hgd fun K hK => ?_
  obtain ⟨v', w', hr, h2, h3, h4⟩ := run_tell (P := P) w base t o.type e i z sz by' ht hi hz hsize hby hzs hsz v n xs hown ad us hus hc h1 h63 hbytes hbase
  unfold Oper.wp execOp
  simp only [ho, resolve, invoke, builtin, Sem.run_bind, Sem.run_pure, Result.andThen_ok, List.map_toArray, List.map_cons, List.map_nil, hs, hx, hr]
  exact hK _ _ (h v' w' h2 h3 h4)
/-- blocks of a kind stay -/
def Kt (U : TypeId) (w w' : World) : Prop := ∀ (b : Nat) (cur : Array Value), w.heap[b]? = some (Obj.cells cur U (0, 0)) → w'.heap[b]? = some (Obj.cells cur U (0, 0))
theorem Kt.refl (U : TypeId) (w : World) : Kt U w w := fun _ _ h => h
theorem Kt.trans {U : TypeId} {w1 w2 w3 : World} (h : Kt U w1 w2) (k : Kt U w2 w3) : Kt U w1 w3 := fun b cur e => k b cur (h b cur e)
theorem Kt.below {U : TypeId} {w w' : World} (h : Below w.heap.size w w') : Kt U w w' := fun b cur e => (h.block b (Array.getElem?_eq_some_iff.1 e).1).trans e
theorem Kt.grown {U T : TypeId} {base sz n : Nat} {w w' : World} {v : Value} {xs : List Value} (h : w.ownsRow base T sz v n xs) (hT : T ≠ U) (hg : w.grownBy w' v.ownBlock) : Kt U w w' := fun b cur e => by
  refine (hg.block b (Array.getElem?_eq_some_iff.1 e).1 (fun hb => ?_)).trans e
  rcases h.2 with ⟨rfl, -⟩ | ⟨g, c, cur', rfl, _, k1, _⟩
  · cases hb
  · simp only [Value.ownBlock, Option.some.injEq] at hb
    subst hb
    rw [k1] at e
    simp only [Option.some.injEq, Obj.cells.injEq] at e
    exact hT e.2.1
theorem Kt.own {U : TypeId} {base s n : Nat} {w w' : World} {v : Value} {xs : List Value} (h : Kt U w w') (ho : w.ownsRow base U s v n xs) : w'.ownsRow base U s v n xs := by
  refine ⟨ho.1, ?_⟩
  rcases ho.2 with h0 | ⟨g, c, cur, h1, h2, h3, h4⟩
  · exact .inl h0
  · exact .inr ⟨g, c, cur, h1, h2, h g cur h3, h4⟩
section
variable {U : TypeId} {w1 : World} {T TS sz : Nat} {w0 : World} {B c : Nat} {n : Nat → Nat} {p : Nat → Option Addr} {d : Nat → Nat} {e : Nat → List Value}
/-- lists of one's own, named in the block B -/
structure Ar (U : TypeId) (w1 : World) (T sz : Nat) (w0 : World) (B c : Nat) (n : Nat → Nat) (p : Nat → Option Addr) (d : Nat → Nat) (x : Nat → List Value) (w : World) : Prop where
  bel : Below w0.heap.size w0 w
  cB : ∀ i, i < c → w.cell? ⟨B, i, none⟩ = some (.slice (p i) (n i) (d i))
  rows : ∀ i, i < c → w.ownsRow w0.heap.size T sz (.slice (p i) (n i) (d i)) (n i) (x i)
  kt : Kt U w1 w
structure Aq (w0 : World) (B c : Nat) (n : Nat → Nat) (p : Nat → Option Addr) (d : Nat → Nat) : Prop where
  c0 : c < 100
  n0 : ∀ i, i < c → n i ≤ 1099511627776
  dj : ∀ i j, i < c → j < c → i ≠ j → Dj (.slice (p i) (n i) (d i)) (.slice (p j) (n j) (d j))
  hB : ∀ i, i < c → ¬ (Value.slice (p i) (n i) (d i)).ownBlock = some B
theorem Ar.congr {x y : Nat → List Value} {w : World} (h : Ar U w1 T sz w0 B c n p d x w) (h2 : ∀ i, i < c → x i = y i) : Ar U w1 T sz w0 B c n p d y w :=
  ⟨h.bel, h.cB, fun i hi => by rw [← h2 i hi]; exact h.rows i hi, h.kt⟩
theorem Ar.keep {x : Nat → List Value} {w w' : World} (h : Ar U w1 T sz w0 B c n p d x w) (hb : Below w.heap.size w w') : Ar U w1 T sz w0 B c n p d x w' :=
  ⟨bl_trans h.bel hb, fun i hi => cell_keep (h.cB i hi) hb, fun i hi => own_keep (h.rows i hi) hb, h.kt.trans (Kt.below hb)⟩
theorem Ar.other {x : Nat → List Value} {w w' : World} {v : Value} (h : Ar U w1 T sz w0 B c n p d x w) (hg : w.grownBy w' v.ownBlock) (hv : ∀ k, v.ownBlock = some k → w0.heap.size ≤ k) (hd : ∀ i, i < c → Dj v (.slice (p i) (n i) (d i))) (hB : ¬ v.ownBlock = some B) (hk : Kt U w w') : Ar U w1 T sz w0 B c n p d x w' :=
  ⟨below_tr h.bel (below_gr hg h.bel.size hv), fun i hi => hg.cell (h.cB i hi) (fun e => hB e.symm), fun i hi => (hd i hi).kept (h.rows i hi) hg, h.kt.trans hk⟩
theorem Ar.blk {x : Nat → List Value} {w : World} (h : Ar U w1 T sz w0 B c n p d x w) {i : Nat} (hi : i < c) (h0 : 0 < n i) : ∃ b, p i = some ⟨b, 0, none⟩ := by
  obtain ⟨b, c', e, _⟩ := own_some (h.rows i hi) h0
  simp only [Value.slice.injEq, true_and] at e
  exact ⟨b, e.1⟩
/-- one row is written into -/
theorem Ar.wrote (hU : T ≠ U) {x : Nat → List Value} {w w' : World} {i b : Nat} {y : List Value} (h : Ar U w1 T sz w0 B c n p d x w) (A : Aq w0 B c n p d) (hi : i < c) (hp : p i = some ⟨b, 0, none⟩) (ho : w'.ownsRow w0.heap.size T sz (.slice (some ⟨b, 0, none⟩) (n i) (d i)) (n i) y) (hg : w.grownBy w' (some b)) : Ar U w1 T sz w0 B c n p d (fun j => if j = i then y else x j) w' := by
  have hr := h.rows i hi
  rw [hp] at hr
  have eb : (Value.slice (p i) (n i) (d i)).ownBlock = some b := by rw [hp]; rfl
  have hb := (hr.lt b rfl).1
  refine ⟨below_tr h.bel (below_gr hg h.bel.size (fun k hk => by have := Option.some.inj hk; omega)), fun j hj => hg.cell (h.cB j hj) (fun e => A.hB i hi (by rw [eb]; exact e.symm)), fun j hj => ?_, h.kt.trans (Kt.grown hr hU (by simpa [Value.ownBlock] using hg))⟩
  by_cases hji : j = i
  · subst hji
    rw [if_pos rfl, hp]
    exact ho
  · rw [if_neg hji]
    have hd := A.dj i j hi hj (fun e => hji e.symm)
    rw [← eb] at hg
    exact hd.kept (h.rows j hj) hg
/-- the rows ahead of i are full of their marks, row i up to k -/
def gx (sz : Nat) (n : Nat → Nat) (e x : Nat → List Value) (i k j : Nat) : List Value := if j < i then rpt (n j) (e j) else if j = i then rpt k (e j) ++ (x j).drop (k * sz) else x j
theorem gx_zero (x : Nat → List Value) (j : Nat) : gx sz n e x 0 0 j = x j := by
  unfold gx
  rw [if_neg (by omega)]
  split <;> simp [rpt]
theorem gx_next (x : Nat → List Value) (i : Nat) (hx : (x i).length = n i * sz) (j : Nat) : gx sz n e x i (n i) j = gx sz n e x (i + 1) 0 j := by
  unfold gx
  by_cases h1 : j < i
  · rw [if_pos h1, if_pos (by omega)]
  · rw [if_neg h1]
    by_cases h2 : j = i
    · subst h2
      rw [if_pos rfl, if_pos (by omega), List.drop_eq_nil_of_le (by omega), List.append_nil]
    · rw [if_neg h2, if_neg (by omega)]
      split <;> simp [rpt]
theorem gx_all (x : Nat → List Value) (i j : Nat) (h : j < i) : gx sz n e x i 0 j = rpt (n j) (e j) := by unfold gx; rw [if_pos h]
theorem gx_step (x : Nat → List Value) (i k j : Nat) (y : List Value) (hy : y = gx sz n e x i (k + 1) i) : (if j = i then y else gx sz n e x i k j) = gx sz n e x i (k + 1) j := by
  by_cases h : j = i
  · rw [if_pos h, hy, h]
  · rw [if_neg h]
    unfold gx
    rw [if_neg h, if_neg h]
/-- the list that is appended to: still the list itself, or one in a block of its own -/
def Mo (B c : Nat) (n : Nat → Nat) (p : Nat → Option Addr) (d : Nat → Nat) (j k : Nat) (v : Value) : Prop :=
  v = .slice (p j) (n j + k) (d j) ∨ ((∀ i, i < c → Dj v (.slice (p i) (n i) (d i))) ∧ ¬ v.ownBlock = some B)
/-- the grown lists so far, and the list that names them -/
structure Am (U : TypeId) (w1 : World) (T TS sz : Nat) (w0 : World) (B c : Nat) (n : Nat → Nat) (p : Nat → Option Addr) (d : Nat → Nat) (e : Nat → List Value) (j : Nat) (V : Value) (pp : Nat → Option Addr) (dd : Nat → Nat) (w : World) : Prop where
  ar : Ar U w1 T sz w0 B c n p d (fun i => rpt (n i) (e i)) w
  mv : w.ownsRow w0.heap.size TS 1 V j ((List.range j).map fun a => .slice (pp a) (n a + 64) (dd a))
  mr : ∀ a, a < j → w.ownsRow w0.heap.size T sz (.slice (pp a) (n a + 64) (dd a)) (n a + 64) (rpt (n a + 64) (e a))
  vB : ¬ V.ownBlock = some B
  bB : B < w.heap.size
theorem Am.keep {j : Nat} {V : Value} {pp : Nat → Option Addr} {dd : Nat → Nat} {w w' : World} (h : Am U w1 T TS sz w0 B c n p d e j V pp dd w) (hb : Below w.heap.size w w') : Am U w1 T TS sz w0 B c n p d e j V pp dd w' :=
  ⟨h.ar.keep hb, own_keep h.mv hb, fun a ha => own_keep (h.mr a ha) hb, h.vB, Nat.lt_of_lt_of_le h.bB hb.size⟩
structure Ap (B c : Nat) (n : Nat → Nat) (p : Nat → Option Addr) (d : Nat → Nat) (j : Nat) (pp : Nat → Option Addr) (dd : Nat → Nat) : Prop where
  da : ∀ a, a < j → ∀ i, i < c → i ≠ a → Dj (.slice (pp a) (n a + 64) (dd a)) (.slice (p i) (n i) (d i))
/-- a list that is being grown -/
structure Ag (T sz : Nat) (w0 : World) (B c : Nat) (n : Nat → Nat) (p : Nat → Option Addr) (d : Nat → Nat) (e : Nat → List Value) (j : Nat) (pp : Nat → Option Addr) (dd : Nat → Nat) (k : Nat) (v : Value) (w : World) : Prop where
  ho : w.ownsRow w0.heap.size T sz v (n j + k) (rpt (n j + k) (e j))
  mo : Mo B c n p d j k v
  dv : ∀ a, a < j → Dj v (.slice (pp a) (n a + 64) (dd a))
theorem Ag.keep {j k : Nat} {v : Value} {pp : Nat → Option Addr} {dd : Nat → Nat} {w w' : World} (h : Ag T sz w0 B c n p d e j pp dd k v w) (hb : Below w.heap.size w w') : Ag T sz w0 B c n p d e j pp dd k v w' := ⟨own_keep h.ho hb, h.mo, h.dv⟩
theorem Ag.start {j : Nat} {V : Value} {pp : Nat → Option Addr} {dd : Nat → Nat} {w : World} (hj : j < c) (h : Am U w1 T TS sz w0 B c n p d e j V pp dd w) (a : Ap B c n p d j pp dd) : Ag T sz w0 B c n p d e j pp dd 0 (.slice (p j) (n j) (d j)) w :=
  ⟨h.ar.rows j hj, .inl rfl, fun x hx => (a.da x hx j hj (by omega)).symm⟩
theorem Ag.next (hU : T ≠ U) {j k : Nat} {V v v' : Value} {pp : Nat → Option Addr} {dd : Nat → Nat} {w w' : World} (hT : T ≠ TS) (A : Aq w0 B c n p d) (hj : j < c) (hm : Am U w1 T TS sz w0 B c n p d e j V pp dd w) (h : Ag T sz w0 B c n p d e j pp dd k v w) (hez : (e j).length = sz)
    (ho' : w'.ownsRow w0.heap.size T sz v' (n j + k + 1) (rpt (n j + k) (e j) ++ e j)) (hg : w.grownBy w' v.ownBlock)
    (ht : (∃ g cap, v = .slice (some ⟨g, 0, none⟩) (n j + k) cap ∧ v' = .slice (some ⟨g, 0, none⟩) (n j + k + 1) cap) ∨ (v'.ownBlock = some w.heap.size ∧ Below w.heap.size w w')) :
    Ag T sz w0 B c n p d e j pp dd (k + 1) v' w' ∧ Am U w1 T TS sz w0 B c n p d e j V pp dd w' := by
  have hv : ∀ x, v.ownBlock = some x → w0.heap.size ≤ x := fun x hx => (h.ho.lt x hx).1
  have hvV : Dj v V := own_dj h.ho hm.mv hT
  have hkt := Kt.grown h.ho hU hg
  rcases ht with ⟨b, cap, e1, e2⟩ | ⟨e1, e2⟩
  · have ebv : v'.ownBlock = v.ownBlock := by rw [e1, e2]; rfl
    have dv' : ∀ a, a < j → Dj v' (.slice (pp a) (n a + 64) (dd a)) := fun a ha k hk => h.dv a ha k (by rw [← ebv]; exact hk)
    have mv' := hvV.kept hm.mv hg
    have mr' := fun a ha => (h.dv a ha).kept (hm.mr a ha) hg
    have bB' := Nat.lt_of_lt_of_le hm.bB hg.size
    rcases h.mo with hmo | ⟨h1, h2⟩
    · rw [hmo] at e1
      simp only [Value.slice.injEq, true_and] at e1
      obtain ⟨ep, ed⟩ := e1
      have eb : (Value.slice (p j) (n j) (d j)).ownBlock = v.ownBlock := by rw [hmo]; exact ob _ _ _ _ _
      refine ⟨⟨ho', .inl (by rw [e2, ep, ed]; rfl), dv'⟩, ⟨⟨below_tr hm.ar.bel (below_gr hg hm.ar.bel.size hv), fun i hi => hg.cell (hm.ar.cB i hi) (fun e => A.hB j hj (by rw [eb]; exact e.symm)), fun i hi => ?_, hm.ar.kt.trans hkt⟩, mv', mr', hm.vB, bB'⟩⟩
      by_cases hij : i = j
      · subst hij
        rw [e2, ← ed, rpt_add, List.append_assoc] at ho'
        rw [ep]
        exact own_front ho' (by rw [rpt_len, hez]) (by omega)
      · have hd := A.dj j i hj hi (fun e => hij e.symm)
        rw [← eb] at hg
        exact hd.kept (hm.ar.rows i hi) hg
    · refine ⟨⟨ho', .inr ⟨fun i hi x hx => h1 i hi x (by rw [← ebv]; exact hx), by rw [ebv]; exact h2⟩, dv'⟩, ⟨hm.ar.other hg hv h1 h2 hkt, mv', mr', hm.vB, bB'⟩⟩
  · refine ⟨⟨ho', .inr ⟨fun i hi => own_new (hm.ar.rows i hi) e1, ?_⟩, fun a ha => own_new (hm.mr a ha) e1⟩, hm.keep e2⟩
    rw [e1]
    intro e
    have := Option.some.inj e
    have := hm.bB
    omega
/-- a grown list is named in more -/
theorem Am.more (hV : TS ≠ U) {j : Nat} {V V' : Value} {pp : Nat → Option Addr} {dd : Nat → Nat} {w w' : World} {P : Option Addr} {cap : Nat} (hT : T ≠ TS) (A : Aq w0 B c n p d) (hj : j < c) (hm : Am U w1 T TS sz w0 B c n p d e j V pp dd w) (h : Ag T sz w0 B c n p d e j pp dd 64 (.slice P (n j + 64) cap) w) (ap : Ap B c n p d j pp dd)
    (ho' : w'.ownsRow w0.heap.size TS 1 V' (j + 1) (((List.range j).map fun a => .slice (pp a) (n a + 64) (dd a)) ++ [.slice P (n j + 64) cap])) (hg : w.grownBy w' V.ownBlock) (hV2 : V'.ownBlock = V.ownBlock ∨ V'.ownBlock = some w.heap.size) :
    ∃ (pp' : Nat → Option Addr) (dd' : Nat → Nat), Am U w1 T TS sz w0 B c n p d e (j + 1) V' pp' dd' w' ∧ Ap B c n p d (j + 1) pp' dd' := by
  refine ⟨fun a => if a = j then P else pp a, fun a => if a = j then cap else dd a, ⟨?_, ?_, ?_, ?_, Nat.lt_of_lt_of_le hm.bB hg.size⟩, ⟨?_⟩⟩
  · exact hm.ar.other hg (fun k hk => (hm.mv.lt k hk).1) (fun i hi => (own_dj (hm.ar.rows i hi) hm.mv hT).symm) hm.vB (Kt.grown hm.mv hV hg)
  · rw [List.range_succ, List.map_append, List.map_cons, List.map_nil]
    rw [show ((List.range j).map fun a => Value.slice (if a = j then P else pp a) (n a + 64) (if a = j then cap else dd a)) = ((List.range j).map fun a => .slice (pp a) (n a + 64) (dd a)) from List.map_congr_left (fun a ha => by have := List.mem_range.1 ha; rw [if_neg (by omega), if_neg (by omega)])]
    rw [if_pos rfl, if_pos rfl]
    exact ho'
  · intro a ha
    by_cases haj : a = j
    · subst haj
      rw [if_pos rfl, if_pos rfl]
      exact (own_dj h.ho hm.mv hT).symm.kept h.ho hg
    · rw [if_neg haj, if_neg haj]
      have := hm.mr a (by omega)
      exact (own_dj this hm.mv hT).symm.kept this hg
  · rcases hV2 with hV | hV
    · rw [hV]; exact hm.vB
    · rw [hV]
      intro e
      have := Option.some.inj e
      have := hm.bB
      omega
  · intro a ha i hi hne
    by_cases haj : a = j
    · subst haj
      rw [if_pos rfl, if_pos rfl]
      rcases h.mo with hmo | ⟨h1, _⟩
      · rw [hmo]
        intro k hk
        exact A.dj a i hj hi (fun e => hne e.symm) k (by rw [ob (p a) (n a) (d a) (n a + 64) (d a)]; exact hk)
      · exact h1 i hi
    · rw [if_neg haj, if_neg haj]
      exact ap.da a (by omega) i hi hne
end
end Xo
end Go.Proofs.YtkfkmndhbfeagaaGreatDoor
namespace Go.Proofs.YtkfkmndhbfeagaaGreatDoor
namespace Xo
open Go.RowKit
set_option linter.unusedVariables false
theorem sbinfo : (Tryz.prog.info? 29).map (fun i => (i.zero, i.size, i.bytes)) = some (some (.slice none 0 0), 1, 24) := by kernel_rfl
theorem parts {P : Program} {e : TypeId} {z : Value} {s b : Nat} (h : (P.info? e).map (fun i => (i.zero, i.size, i.bytes)) = some (some z, s, b)) : ∃ i, P.info? e = some i ∧ i.zero = some z ∧ i.size = s ∧ i.bytes = b := by
  cases hi : P.info? e with
  | none => rw [hi] at h; cases h
  | some i =>
    rw [hi] at h
    simp only [Option.map_some, Option.some.injEq, Prod.mk.injEq] at h
    exact ⟨i, rfl, h.1, h.2.1, h.2.2⟩
theorem set1 (A ys : List Value) (m : Nat) (a : Value) (hA : A.length = m) (hy : 1 ≤ ys.length) : (A ++ ys).set m a = A ++ [a] ++ ys.drop 1 := by
  match ys, hy with
  | y0 :: ys, _ =>
    subst hA
    simp
theorem gx_set1 {n : Nat → Nat} {x e : Nat → List Value} (i k : Nat) (a : Value) (hx : (x i).length = n i * 1) (hk : k < n i) (he : e i = [a]) : (gx 1 n e x i k i).set k a = gx 1 n e x i (k + 1) i := by
  unfold gx
  rw [if_neg (Nat.lt_irrefl i), if_pos rfl, if_neg (Nat.lt_irrefl i), if_pos rfl]
  rw [set1 _ _ k a (by rw [rpt_len, he]; simp) (by rw [List.length_drop, hx]; omega), List.drop_drop, rpt, he]
  rw [show k * 1 + 1 = (k + 1) * 1 by omega]
theorem Ar.put1 {U : TypeId} {w1 : World} (hU : 5 ≠ U) {w0 : World} {B c i k b : Nat} {n : Nat → Nat} {p : Nat → Option Addr} {d : Nat → Nat} {x e : Nat → List Value} {w : World} {y0 : Value} (h : Ar U w1 5 1 w0 B c n p d (gx 1 n e x i k) w) (A : Aq w0 B c n p d) (hx : ∀ j, j < c → (x j).length = n j * 1) (hi : i < c) (hk : k < n i) (hp : p i = some ⟨b, 0, none⟩) (he : e i = [y0]) : Ar U w1 5 1 w0 B c n p d (gx 1 n e x i (k + 1)) (w.setCell ⟨b, k, none⟩ y0) := by
  have hr := h.rows i hi
  rw [hp] at hr
  obtain ⟨o0, g0⟩ := hr.stored k y0
  exact (h.wrote hU A hi hp o0 g0).congr (fun j hj => gx_step x i k j _ (gx_set1 i k _ (hx i hi) hk he))
/-- the marks -/
def ealone (i : Nat) : List Value := [.int .u8 (i : Int)]
theorem ealone_len (i : Nat) : (ealone i).length = 1 := rfl
set_option maxRecDepth 100000 in
set_option maxHeartbeats 16000000 in
theorem alone_any (w0 w : World) (B c cB : Nat) (n : Nat → Nat) (p : Nat → Option Addr) (d : Nat → Nat) (x : Nat → List Value) (hA : Aq w0 B c n p d) (hW : Ar 52 w 5 1 w0 B c n p d x w) (hBw : B < w.heap.size) :
    Calls Tryz.prog 20 #[.slice (some ⟨B, 0, none⟩) c cB] w fun e w' => e = .returned (.bool true) ∧ Below w0.heap.size w0 w' ∧ Kt 52 w w' := by
  obtain ⟨e, he⟩ : ∃ e, e = ealone := ⟨_, rfl⟩
  have EE : Hid (∀ i, e i = [.int .u8 (i : Int)]) := hidden (fun i => by rw [he]; rfl)
  have EL : Hid (∀ i, (e i).length = 1) := hidden (fun i => by rw [he]; rfl)
  clear he
  have A3 := hidden hA
  have XL : Hid (∀ j, j < c → (x j).length = n j * 1) := hidden (fun j hj => (hW.rows j hj).1)
  have W0 := hidden (hW.congr (y := gx 1 n e x 0 0) (fun i _ => (gx_zero x i).symm))
  have BL := hidden hBw
  have cc0 : (0 : Int) ≤ (c : Int) := by omega
  have cc1 : (c : Int) < 100 := by have := hA.c0; omega
  obtain ⟨i0, hi, hz0, hz1, hz2⟩ := info8
  have HI := hidden hi
  have HZ0 := hidden hz0
  have HZ1 := hidden hz1
  have HZ2 := hidden hz2
  obtain ⟨j0, ji, jz0, jz1, jz2⟩ := parts sbinfo
  have JI := hidden ji
  have JZ0 := hidden jz0
  have JZ1 := hidden jz1
  have JZ2 := hidden jz2
  have T1 : Hid (Tryz.prog.underlying 29 = some (.slice 5)) := hidden (by kernel_rfl)
  have T2 : Hid (Tryz.prog.underlying 73 = some (.slice 29)) := hidden (by kernel_rfl)
  have NT : Hid (5 ≠ 29) := hidden (by decide)
  have NU : Hid (5 ≠ 52) := hidden (by decide)
  have NV : Hid (29 ≠ 52) := hidden (by decide)
  clear hA hW hi hz0 hz1 hz2 ji jz0 jz1 jz2 hBw
  go_enter Tryz.func20, Tryz.ntmps20
  go_wp2_with fail
  go_loopw [4] (fun iv w' => ∃ i : Nat, i ≤ c ∧ iv = .int .i64 i ∧ Hid (Ar 52 w 5 1 w0 B c n p d (gx 1 n e x i 0) w') ∧ Hid (B < w'.heap.size)) (fun i _ => c - (intOf i).toNat)
  case atStart => exact ⟨0, by omega, rfl, W0, BL⟩
  case round =>
    obtain ⟨i, hi, rfl, hw, hbl⟩ := hrel
    clear W0 BL
    by_cases hi3 : i < c
    · have ii0 : (0 : Int) ≤ (i : Int) := by omega
      have ii1 : (i : Int) < (c : Int) := by omega
      have hc9 := A3.out.c0
      have hn9 := A3.out.n0 i hi3
      have wi1 : IntKind.i64.wrap ((i : Int) + 1) = (i : Int) + 1 := IntWalk.i64_in _ (by omega)
      have wi5 : IntKind.u8.wrap (i : Int) = (i : Int) := by rw [IntKind.wrap_u8]; omega
      go_wp2_with fail
      go_loopw [5] (fun kv w' => ∃ k : Nat, k ≤ n i ∧ kv = .int .i64 k ∧ Hid (Ar 52 w 5 1 w0 B c n p d (gx 1 n e x i k) w') ∧ Hid (B < w'.heap.size)) (fun k _ => n i - (intOf k).toNat)
      case atStart => exact ⟨0, by omega, rfl, hw, hbl⟩
      case round =>
        clear hw hbl
        obtain ⟨k, hk, rfl, hw, hbl⟩ := hrel
        have cB := hw.out.cB i hi3
        by_cases hkn : k < n i
        · have kk0 : (0 : Int) ≤ (k : Int) := by omega
          have kk1 : (k : Int) < (n i : Int) := by omega
          obtain ⟨bi, hbi⟩ := hw.out.blk hi3 (by omega)
          have hr0 := hw.out.rows i hi3
          rw [hbi] at hr0 cB
          have gl : ∀ j, j < n i * 1 → ∃ u, wr.cell? ⟨bi, j, none⟩ = some u := fun j hj => by
            have hc := hr0.cells (g := bi) rfl j
            have hlen := hr0.1
            have := hc _ (List.getElem?_eq_getElem (by rw [hlen]; exact hj))
            rw [Addr.add_mid, Nat.zero_add] at this
            exact ⟨_, this⟩
          obtain ⟨y0, a0⟩ := gl (k) (by omega)
          have f0 := hr0.frozenAt (k)
          have NX := hidden (Ar.put1 NU.out hw.out A3.out XL.out hi3 hkn hbi (EE.out i))
          have NB : Hid (B < (wr.setCell ⟨bi, k, none⟩ (.int .u8 0)).heap.size) := hidden (by simpa using hbl.out)
          simp only [World.size_setCell] at NB
          have w9 : IntKind.i64.wrap ((k : Int) + 1) = (k : Int) + 1 := IntWalk.i64_in _ (by omega)
          clear hr0 hbi gl hw hn9 hc9 hbl
          generalize d i = di at *
          go_wp2_with fail
          go_roundw
          case rel => exact ⟨k + 1, by omega, by go_num, NX, hidden (by simpa using NB.out)⟩
          case measure => simp [intOf]; omega
        · have hkk : k = n i := by omega
          have NX := hidden (hw.out.congr (fun j _ => (congrArg (fun q => gx 1 n e x i q j) hkk).trans (gx_next x i (XL.out i hi3) j)))
          have lq : ¬ (k : Int) < (n i : Int) := by omega
          clear hw hn9 hc9 hkk
          generalize p i = pi at *
          generalize d i = di at *
          generalize n i = ni at *
          go_wp2_with fail
          go_roundw
          case rel => exact ⟨i + 1, by omega, by go_num, NX, hbl⟩
          case measure => simp [intOf]; omega
    · have hii : i = c := by omega
      subst hii
      have lq : ¬ (i : Int) < (i : Int) := by omega
      have W1 : Hid (Am 52 w 5 29 1 w0 B i n p d e 0 (.slice none 0 0) (fun _ => none) (fun _ => 0) wr ∧ Ap B i n p d 0 (fun _ => none) (fun _ => 0)) := hidden ⟨⟨hw.out.congr (fun a ha => gx_all x i a ha), World.ownsRow_nil _ _ _ _, fun a ha => by omega, by simp [Value.ownBlock], hbl.out⟩, ⟨fun a ha => by omega⟩⟩
      clear hw hbl
      go_wp2_with fail
      clear lq
      go_loopw [3, 6] (fun V iv w' => ∃ j : Nat, j ≤ i ∧ iv = .int .i64 j ∧ ∃ (pp : Nat → Option Addr) (dd : Nat → Nat), Hid (Am 52 w 5 29 1 w0 B i n p d e j V pp dd w' ∧ Ap B i n p d j pp dd)) (fun _ j _ => i - (intOf j).toNat)
      case atStart => exact ⟨0, by omega, rfl, _, _, W1⟩
      case round =>
        clear W1
        obtain ⟨j, hj, rfl, pp, dd, hw⟩ := hrel
        by_cases hj3 : j < i
        · have jj0 : (0 : Int) ≤ (j : Int) := by omega
          have jj1 : (j : Int) < (i : Int) := by omega
          have cB := hw.out.1.ar.cB j hj3
          have hc9 := A3.out.c0
          have N9 := hidden (A3.out.n0 j hj3)
          have wi5 : IntKind.u8.wrap (j : Int) = (j : Int) := by rw [IntKind.wrap_u8]; omega
          have wj1 : IntKind.i64.wrap ((j : Int) + 1) = (j : Int) + 1 := IntWalk.i64_in _ (by omega)
          have G0 := hidden (Ag.start hj3 hw.out.1 hw.out.2)
          have M0 := hidden hw.out.1
          have AP := hidden hw.out.2
          have J9 := hidden hj3
          clear hw hc9
          generalize wr = ws at *
          go_wp2_with fail
          clear cB
          go_loopw [7, 8] (fun v kv w' => ∃ k : Nat, k ≤ 64 ∧ kv = .int .i64 k ∧ Hid (Ag 5 1 w0 B i n p d e j pp dd k v w') ∧ Hid (Am 52 w 5 29 1 w0 B i n p d e j u3 pp dd w')) (fun _ k _ => 64 - (intOf k).toNat)
          case atStart => exact ⟨0, by omega, rfl, G0, M0⟩
          case round =>
            clear G0 M0
            obtain ⟨k, hk, rfl, hag, ham⟩ := hrel
            by_cases hk64 : k < 64
            · have kk0 : (0 : Int) ≤ (k : Int) := by omega
              have kk1 : (k : Int) < 64 := by omega
              have a1 := hidden (hag.out.keep (bl_alloc wr (.cells #[.int .u8 (j : Int)] 5)))
              have a7 := hidden (ham.out.keep (bl_alloc wr (.cells #[.int .u8 (j : Int)] 5)))
              have a2 := hidden (cells_newP wr [.int .u8 (j : Int)] 5)
              have a3 : Hid (∀ u ∈ ([.int .u8 (j : Int)] : List Value), u.oneCell' = true) := hidden (by simp [Value.oneCell'])
              have a4 : Hid (n j + k + 1 ≤ maxLen) := hidden (by have := N9.out; unfold maxLen; omega)
              have a5 : Hid ((n j + k + 1) * 1 ≤ 140737488355328) := hidden (by have := N9.out; omega)
              have a6 : Hid (w0.heap.size ≤ (wr.alloc (.cells #[.int .u8 (j : Int)] 5)).heap.size) := hidden (by have := ham.out.ar.bel.size; simp; omega)
              go_wp2_with (first | (at_builtin; refine wpList_tell rfl _ _ 29 rfl w0.heap.size 5 i0 (.int .u8 0) 1 1 T1.out HI.out HZ0.out HZ1.out HZ2.out rfl (by decide) u7 _ _ (by rfl) a1.out.ho ⟨wr.heap.size, 0, none⟩ [.int .u8 (j : Int)] rfl rfl a2.out a3.out a4.out a5.out a6.out ?_; intro v' w3 ho3 hg3 ht3; have HO := hidden ho3; have HG := hidden hg3; have HT := hidden ht3; clear ho3 hg3 ht3))
              go_roundw
              case rel =>
                obtain ⟨q1, q2⟩ := Ag.next NU.out NT.out A3.out J9.out a7.out a1.out (EL.out j) (by rw [EE.out j]; have := HO.out; rw [EE.out j] at this; exact this) HG.out HT.out
                exact ⟨k + 1, by omega, by go_num, hidden q1, hidden q2⟩
              case measure => simp [intOf]; omega
            · have hkk : k = 64 := by omega
              subst hkk
              obtain ⟨gg, cap, rfl, hnc⟩ := own_some hag.out.ho (by omega)
              have b1 := hidden (hag.out.keep (bl_alloc wr (.cells #[.slice (some ⟨gg, 0, none⟩) (n j + 64) cap] 29)))
              have b7 := hidden (ham.out.keep (bl_alloc wr (.cells #[.slice (some ⟨gg, 0, none⟩) (n j + 64) cap] 29)))
              have b2 := hidden (cells_newP wr [.slice (some ⟨gg, 0, none⟩) (n j + 64) cap] 29)
              have b3 : Hid (∀ u ∈ [Value.slice (some ⟨gg, 0, none⟩) (n j + 64) cap], u.oneCell' = true) := hidden (by simp [Value.oneCell'])
              have b4 : Hid (j + 1 ≤ maxLen) := hidden (by have := A3.out.c0; have := J9.out; unfold maxLen; omega)
              have b5 : Hid ((j + 1) * 24 ≤ 140737488355328) := hidden (by have := A3.out.c0; have := J9.out; omega)
              have b6 : Hid (w0.heap.size ≤ (wr.alloc (.cells #[.slice (some ⟨gg, 0, none⟩) (n j + 64) cap] 29)).heap.size) := hidden (by have := ham.out.ar.bel.size; simp; omega)
              clear hag ham hnc
              go_wp2_with (first | (at_builtin; refine wpList_append_own_at _ rfl _ _ 73 rfl w0.heap.size 29 j0 (.slice none 0 0) 1 24 T2.out JI.out JZ0.out JZ1.out JZ2.out rfl (by decide) u3 _ _ (by rfl) b7.out.mv ⟨wr.heap.size, 0, none⟩ 1 1 [.slice (some ⟨gg, 0, none⟩) (n j + 64) cap] rfl rfl b2.out b3.out b4.out b5.out b6.out ?_; intro v' w3 ho3 hg3 _ ht3; have HO := hidden ho3; have HG := hidden hg3; have HT := hidden ht3; clear ho3 hg3 ht3))
              go_roundw
              case rel =>
                obtain ⟨pp', dd', q1, q2⟩ := Am.more NV.out NT.out A3.out J9.out b7.out b1.out AP.out HO.out HG.out HT.out
                exact ⟨j + 1, by omega, by go_num, pp', dd', hidden ⟨q1, q2⟩⟩
              case measure => simp [intOf]; omega
        · have hjj : j = i := by omega
          subst hjj
          have lq : ¬ (j : Int) < (j : Int) := by omega
          have MM := hidden hw.out.1
          clear hw
          go_wp2_with fail
          clear lq
          by_cases hz : j = 0
          · subst hz
            have lq : ¬ ((0 : Nat) : Int) < ((0 : Nat) : Int) := by omega
            go_loopw [9] (fun iv w' => ∃ i : Nat, i = 0 ∧ iv = .int .i64 (i : Int) ∧ Hid (Below w0.heap.size w0 w' ∧ Kt 52 w w')) (fun i _ => 0)
            case atStart => exact ⟨0, rfl, rfl, hidden ⟨MM.out.ar.bel, MM.out.ar.kt⟩⟩
            case round =>
              obtain ⟨i, rfl, rfl, hb⟩ := hrel
              go_wp2_with fail
              go_ret
              exact ⟨rfl, hb.out.1, hb.out.2⟩
          obtain ⟨G, cV, rfl, hnc⟩ := own_some MM.out.mv (by omega)
          go_loopw [9] (fun iv w' => ∃ i : Nat, i ≤ j ∧ iv = .int .i64 i ∧ Hid (Am 52 w 5 29 1 w0 B j n p d e j (.slice (some ⟨G, 0, none⟩) j cV) pp dd w')) (fun i _ => j - (intOf i).toNat)
          case atStart => exact ⟨0, by omega, rfl, MM⟩
          case round =>
            clear MM
            obtain ⟨i, hi, rfl, hw⟩ := hrel
            by_cases hi3 : i < j
            · have ii0 : (0 : Int) ≤ (i : Int) := by omega
              have ii1 : (i : Int) < (j : Int) := by omega
              have hc9 := A3.out.c0
              have hn9 := A3.out.n0 i hi3
              have wi1 : IntKind.i64.wrap ((i : Int) + 1) = (i : Int) + 1 := IntWalk.i64_in _ (by omega)
              have wi5 : IntKind.u8.wrap (i : Int) = (i : Int) := by rw [IntKind.wrap_u8]; omega
              go_wp2_with fail
              go_loopw [10] (fun kv w' => ∃ k : Nat, k ≤ n i + 64 ∧ kv = .int .i64 k ∧ Hid (Am 52 w 5 29 1 w0 B j n p d e j (.slice (some ⟨G, 0, none⟩) j cV) pp dd w')) (fun k _ => n i + 64 - (intOf k).toNat)
              case atStart => exact ⟨0, by omega, rfl, hw⟩
              case round =>
                clear hw
                obtain ⟨k, hk, rfl, hw⟩ := hrel
                have cB := hw.out.ar.cB i hi3
                have mr := hw.out.mr i hi3
                obtain ⟨bm, hbm⟩ : ∃ b, pp i = some ⟨b, 0, none⟩ := by
                  obtain ⟨b, c', e', _⟩ := own_some mr (by omega)
                  simp only [Value.slice.injEq, true_and] at e'
                  exact ⟨b, e'.1⟩
                have cM : wr.cell? ⟨G, i, none⟩ = some (.slice (some ⟨bm, 0, none⟩) (n i + 64) (dd i)) := by
                  have := hw.out.mv.cells (g := G) rfl i (.slice (pp i) (n i + 64) (dd i)) (by rw [List.getElem?_map, List.getElem?_range hi3]; rfl)
                  rw [Addr.add_mid, Nat.zero_add, hbm] at this
                  exact this
                rw [hbm] at mr
                have l64 : ((n i + 64 : Nat) : Int) = (n i : Int) + 64 := by omega
                by_cases hkn : k < n i + 64
                · have kk0 : (0 : Int) ≤ (k : Int) := by omega
                  have kk1 : (k : Int) < (n i : Int) + 64 := by omega
                  have w9 : IntKind.i64.wrap ((k : Int) + 1) = (k : Int) + 1 := IntWalk.i64_in _ (by omega)
                  have gm : ∀ q u, (e i)[q]? = some u → wr.cell? ⟨bm, k * 1 + q, none⟩ = some u := fun q u hq => by
                    have h0 := (List.getElem?_eq_some_iff.1 hq).1
                    have h1 := rpt_get (n i + 64) (e i) k q hkn h0
                    rw [EL.out i] at h1
                    have := mr.cells (g := bm) rfl (k * 1 + q) u (h1.trans hq)
                    rw [Addr.add_mid, Nat.zero_add] at this
                    exact this
                  have m0 : wr.cell? ⟨bm, k, none⟩ = some (.int .u8 (i : Int)) := by have := gm 0 _ (by rw [EE.out i]; rfl); simpa using this
                  by_cases hkp : k < n i
                  · have kk2 : (k : Int) < (n i : Int) := by omega
                    obtain ⟨bi, hbi⟩ := hw.out.ar.blk hi3 (by omega)
                    have hr0 := hw.out.ar.rows i hi3
                    rw [hbi] at hr0 cB
                    have gp : ∀ q u, (e i)[q]? = some u → wr.cell? ⟨bi, k * 1 + q, none⟩ = some u := fun q u hq => by
                      have h0 := (List.getElem?_eq_some_iff.1 hq).1
                      have h1 := rpt_get (n i) (e i) k q hkp h0
                      rw [EL.out i] at h1
                      have := hr0.cells (g := bi) rfl (k * 1 + q) u (h1.trans hq)
                      rw [Addr.add_mid, Nat.zero_add] at this
                      exact this
                    have p0 : wr.cell? ⟨bi, k, none⟩ = some (.int .u8 (i : Int)) := by have := gp 0 _ (by rw [EE.out i]; rfl); simpa using this
                    clear gm gp hr0 mr hbi hbm hn9 hc9
                    generalize dd i = ddi at *
                    generalize d i = di at *
                    go_wp2_with fail
                    go_roundw
                    case rel => exact ⟨k + 1, by omega, by go_num, hw⟩
                    case measure => simp [intOf]; omega
                  · have kk2 : ¬ (k : Int) < (n i : Int) := by omega
                    clear gm mr hbm hn9 hc9
                    generalize dd i = ddi at *
                    generalize d i = di at *
                    generalize p i = pi at *
                    go_wp2_with fail
                    go_roundw
                    case rel => exact ⟨k + 1, by omega, by go_num, hw⟩
                    case measure => simp [intOf]; omega
                · have hkk : k = n i + 64 := by omega
                  have lq : ¬ (k : Int) < (n i : Int) + 64 := by omega
                  clear hn9 hc9 hkk mr hbm
                  generalize dd i = ddi at *
                  go_wp2_with fail
                  go_roundw
                  case rel => exact ⟨i + 1, by omega, by go_num, hw⟩
                  case measure => simp [intOf]; omega
            · have hii : i = j := by omega
              subst hii
              have lq : ¬ (i : Int) < (i : Int) := by omega
              go_wp2_with fail
              go_ret
              exact ⟨rfl, hw.out.ar.bel, hw.out.ar.kt⟩
end Xo
end Go.Proofs.YtkfkmndhbfeagaaGreatDoor
namespace Go.Proofs.YtkfkmndhbfeagaaGreatDoor
namespace Xo
open Go.RowKit
set_option linter.unusedVariables false
theorem linfo : (Tryz.prog.info? 52).map (fun i => (i.zero, i.size, i.bytes)) = some (some (.agg #[.int .u64 0, .int .u64 0, .int .u64 0, .int .u64 0]), 4, 32) := by kernel_rfl
theorem slinfo : (Tryz.prog.info? 53).map (fun i => (i.zero, i.size, i.bytes)) = some (some (.slice none 0 0), 1, 24) := by kernel_rfl
/-- == of two of Line -/
theorem eq4d (a b : E4) (w : World) : (Op.equalIn 9999 24 a.v b.v).run Tryz.prog w = .ok (a.same b) w := by
  have hi : Tryz.prog.info? 22 = some (Tryz.prog.info? 22).get! := by kernel_rfl
  have hc : Tryz.prog.cellsOf 22 = 1 := by kernel_rfl
  unfold E4.v
  rw [run_equalIn_array w 9998 _ _ (by kernel_rfl : Tryz.prog.underlying 24 = some (.array 4 22)) hi, hc]
  rw [eqItems_ints w (k := .u64) 9997 (by kernel_rfl) (by kernel_rfl) _ _ (fun i => [a.x0, a.x1, a.x2, a.x3].getD i 0) (fun i => [b.x0, b.x1, b.x2, b.x3].getD i 0)]
  · rw [show List.range 4 = [0, 1, 2, 3] from rfl]
    simp only [List.all_cons, List.all_nil, Bool.and_true]
    rfl
  · intro i hi
    have : i < 4 := List.mem_range.1 hi
    match i, this with
    | 0, _ => exact ⟨rfl, rfl⟩
    | 1, _ => exact ⟨rfl, rfl⟩
    | 2, _ => exact ⟨rfl, rfl⟩
    | 3, _ => exact ⟨rfl, rfl⟩
theorem fldL : ∃ f : Field, (Tryz.prog.fieldsOf 52).toList = [f] ∧ f.name ≠ "_" ∧ f.type = 24 ∧ f.offset = 0 :=
  ⟨(Tryz.prog.fieldsOf 52)[0]!, by kernel_rfl, by decide +kernel, by kernel_rfl, by kernel_rfl⟩
theorem partL (a : E4) (w : World) : (part 24 #[.int .u64 a.x0, .int .u64 a.x1, .int .u64 a.x2, .int .u64 a.x3] 0).run Tryz.prog w = .ok a.v w := by kernel_rfl
theorem eqL (a b : E4) (w : World) : (Op.equalIn 10000 52 a.v b.v).run Tryz.prog w = .ok (a.same b) w := by
  obtain ⟨f, h1, h2, h3, h4⟩ := fldL
  unfold E4.v
  rw [run_equalIn_struct w 9999 _ _ _ (by kernel_rfl) (by kernel_rfl), h1]
  unfold Op.eqFields
  rw [if_pos h2, h3, h4, Sem.run_bind, partL, Result.andThen_ok, Sem.run_bind, partL, Result.andThen_ok, Sem.run_bind, eq4d, Result.andThen_ok]
  cases a.same b <;> simp [Op.eqFields]
theorem set4 (A ys : List Value) (m : Nat) (a b c d : Value) (hA : A.length = m) (hy : 4 ≤ ys.length) : ((((A ++ ys).set m a).set (m + 1) b).set (m + 2) c).set (m + 3) d = A ++ [a, b, c, d] ++ ys.drop 4 := by
  match ys, hy with
  | y0 :: y1 :: y2 :: y3 :: ys, _ =>
    subst hA
    simp
theorem gx_set4 {n : Nat → Nat} {x e : Nat → List Value} (i k : Nat) (a b c d : Value) (hx : (x i).length = n i * 4) (hk : k < n i) (he : e i = [a, b, c, d]) : ((((gx 4 n e x i k i).set (k * 4) a).set (k * 4 + 1) b).set (k * 4 + 2) c).set (k * 4 + 3) d = gx 4 n e x i (k + 1) i := by
  unfold gx
  rw [if_neg (Nat.lt_irrefl i), if_pos rfl, if_neg (Nat.lt_irrefl i), if_pos rfl]
  rw [set4 _ _ (k * 4) a b c d (by rw [rpt_len, he]; rfl) (by rw [List.length_drop, hx]; omega), List.drop_drop, rpt, he]
  rw [show k * 4 + 4 = (k + 1) * 4 by omega]
theorem Ar.put4 {U : TypeId} {w1 : World} (hU : 52 ≠ U) {w0 : World} {B c i k b : Nat} {n : Nat → Nat} {p : Nat → Option Addr} {d : Nat → Nat} {x e : Nat → List Value} {w : World} {y0 y1 y2 y3 : Value} (h : Ar U w1 52 4 w0 B c n p d (gx 4 n e x i k) w) (A : Aq w0 B c n p d) (hx : ∀ j, j < c → (x j).length = n j * 4) (hi : i < c) (hk : k < n i) (hp : p i = some ⟨b, 0, none⟩) (he : e i = [y0, y1, y2, y3]) : Ar U w1 52 4 w0 B c n p d (gx 4 n e x i (k + 1)) ((((w.setCell ⟨b, k * 4, none⟩ y0).setCell ⟨b, k * 4 + 1, none⟩ y1).setCell ⟨b, k * 4 + 2, none⟩ y2).setCell ⟨b, k * 4 + 3, none⟩ y3) := by
  have hr := h.rows i hi
  rw [hp] at hr
  obtain ⟨o0, g0⟩ := hr.stored (k * 4) y0
  obtain ⟨o1, g1⟩ := o0.stored (k * 4 + 1) y1
  obtain ⟨o2, g2⟩ := o1.stored (k * 4 + 2) y2
  obtain ⟨o3, g3⟩ := o2.stored (k * 4 + 3) y3
  exact (h.wrote hU A hi hp o3 (((g0.trans g1).trans g2).trans g3)).congr (fun j hj => gx_step x i k j _ (gx_set4 i k _ _ _ _ (hx i hi) hk he))
/-- the marks -/
def elone (i : Nat) : List Value := [.int .u64 (500 + (i : Int)), .int .u64 0, .int .u64 0, .int .u64 0]
theorem elone_len (i : Nat) : (elone i).length = 4 := rfl
set_option maxRecDepth 100000 in
set_option maxHeartbeats 16000000 in
theorem lone_any (w0 w : World) (B c cB : Nat) (n : Nat → Nat) (p : Nat → Option Addr) (d : Nat → Nat) (x : Nat → List Value) (hA : Aq w0 B c n p d) (hW : Ar 5 w 52 4 w0 B c n p d x w) (hBw : B < w.heap.size) :
    Calls Tryz.prog 19 #[.slice (some ⟨B, 0, none⟩) c cB] w fun e w' => e = .returned (.bool true) ∧ Below w0.heap.size w0 w' ∧ Kt 5 w w' := by
  obtain ⟨e, he⟩ : ∃ e, e = elone := ⟨_, rfl⟩
  have EE : Hid (∀ i, e i = [.int .u64 (500 + (i : Int)), .int .u64 0, .int .u64 0, .int .u64 0]) := hidden (fun i => by rw [he]; rfl)
  have EL : Hid (∀ i, (e i).length = 4) := hidden (fun i => by rw [he]; rfl)
  clear he
  have A3 := hidden hA
  have XL : Hid (∀ j, j < c → (x j).length = n j * 4) := hidden (fun j hj => (hW.rows j hj).1)
  have W0 := hidden (hW.congr (y := gx 4 n e x 0 0) (fun i _ => (gx_zero x i).symm))
  have BL := hidden hBw
  have cc0 : (0 : Int) ≤ (c : Int) := by omega
  have cc1 : (c : Int) < 100 := by have := hA.c0; omega
  obtain ⟨i0, hi, hz0, hz1, hz2⟩ := parts linfo
  have HI := hidden hi
  have HZ0 := hidden hz0
  have HZ1 := hidden hz1
  have HZ2 := hidden hz2
  obtain ⟨j0, ji, jz0, jz1, jz2⟩ := parts slinfo
  have JI := hidden ji
  have JZ0 := hidden jz0
  have JZ1 := hidden jz1
  have JZ2 := hidden jz2
  have T1 : Hid (Tryz.prog.underlying 53 = some (.slice 52)) := hidden (by kernel_rfl)
  have T2 : Hid (Tryz.prog.underlying 71 = some (.slice 53)) := hidden (by kernel_rfl)
  have NT : Hid (52 ≠ 53) := hidden (by decide)
  have NU : Hid (52 ≠ 5) := hidden (by decide)
  have NV : Hid (53 ≠ 5) := hidden (by decide)
  clear hA hW hi hz0 hz1 hz2 ji jz0 jz1 jz2 hBw
  go_enter Tryz.func19, Tryz.ntmps19
  go_wp2_with fail
  go_loopw [4] (fun iv w' => ∃ i : Nat, i ≤ c ∧ iv = .int .i64 i ∧ Hid (Ar 5 w 52 4 w0 B c n p d (gx 4 n e x i 0) w') ∧ Hid (B < w'.heap.size)) (fun i _ => c - (intOf i).toNat)
  case atStart => exact ⟨0, by omega, rfl, W0, BL⟩
  case round =>
    obtain ⟨i, hi, rfl, hw, hbl⟩ := hrel
    clear W0 BL
    by_cases hi3 : i < c
    · have ii0 : (0 : Int) ≤ (i : Int) := by omega
      have ii1 : (i : Int) < (c : Int) := by omega
      have hc9 := A3.out.c0
      have hn9 := A3.out.n0 i hi3
      have wi1 : IntKind.i64.wrap ((i : Int) + 1) = (i : Int) + 1 := IntWalk.i64_in _ (by omega)
      have wi5 : IntKind.i64.wrap (500 + (i : Int)) = 500 + (i : Int) := IntWalk.i64_in _ (by omega)
      have wi6 : IntKind.u64.wrap (500 + (i : Int)) = 500 + (i : Int) := by rw [IntKind.wrap_u64]; omega
      go_wp2_with fail
      go_loopw [5] (fun kv w' => ∃ k : Nat, k ≤ n i ∧ kv = .int .i64 k ∧ Hid (Ar 5 w 52 4 w0 B c n p d (gx 4 n e x i k) w') ∧ Hid (B < w'.heap.size)) (fun k _ => n i - (intOf k).toNat)
      case atStart => exact ⟨0, by omega, rfl, hw, hbl⟩
      case round =>
        clear hw hbl
        obtain ⟨k, hk, rfl, hw, hbl⟩ := hrel
        have cB := hw.out.cB i hi3
        by_cases hkn : k < n i
        · have kk0 : (0 : Int) ≤ (k : Int) := by omega
          have kk1 : (k : Int) < (n i : Int) := by omega
          obtain ⟨bi, hbi⟩ := hw.out.blk hi3 (by omega)
          have hr0 := hw.out.rows i hi3
          rw [hbi] at hr0 cB
          have gl : ∀ j, j < n i * 4 → ∃ u, wr.cell? ⟨bi, j, none⟩ = some u := fun j hj => by
            have hc := hr0.cells (g := bi) rfl j
            have hlen := hr0.1
            have := hc _ (List.getElem?_eq_getElem (by rw [hlen]; exact hj))
            rw [Addr.add_mid, Nat.zero_add] at this
            exact ⟨_, this⟩
          obtain ⟨y0, a0⟩ := gl (k * 4) (by omega)
          have f0 := hr0.frozenAt (k * 4)
          obtain ⟨y1, a1⟩ := gl (k * 4 + 1) (by omega)
          have f1 := hr0.frozenAt (k * 4 + 1)
          obtain ⟨y2, a2⟩ := gl (k * 4 + 2) (by omega)
          have f2 := hr0.frozenAt (k * 4 + 2)
          obtain ⟨y3, a3⟩ := gl (k * 4 + 3) (by omega)
          have f3 := hr0.frozenAt (k * 4 + 3)
          have NX := hidden (Ar.put4 NU.out hw.out A3.out XL.out hi3 hkn hbi (EE.out i))
          have NB : Hid (B < (wr.setCell ⟨bi, k, none⟩ (.int .u8 0)).heap.size) := hidden (by simpa using hbl.out)
          simp only [World.size_setCell] at NB
          have w9 : IntKind.i64.wrap ((k : Int) + 1) = (k : Int) + 1 := IntWalk.i64_in _ (by omega)
          clear hr0 hbi gl hw hn9 hc9 hbl
          generalize d i = di at *
          go_wp2_with fail
          go_roundw
          case rel => exact ⟨k + 1, by omega, by go_num, NX, hidden (by simpa using NB.out)⟩
          case measure => simp [intOf]; omega
        · have hkk : k = n i := by omega
          have NX := hidden (hw.out.congr (fun j _ => (congrArg (fun q => gx 4 n e x i q j) hkk).trans (gx_next x i (XL.out i hi3) j)))
          have lq : ¬ (k : Int) < (n i : Int) := by omega
          clear hw hn9 hc9 hkk
          generalize p i = pi at *
          generalize d i = di at *
          generalize n i = ni at *
          go_wp2_with fail
          go_roundw
          case rel => exact ⟨i + 1, by omega, by go_num, NX, hbl⟩
          case measure => simp [intOf]; omega
    · have hii : i = c := by omega
      subst hii
      have lq : ¬ (i : Int) < (i : Int) := by omega
      have W1 : Hid (Am 5 w 52 53 4 w0 B i n p d e 0 (.slice none 0 0) (fun _ => none) (fun _ => 0) wr ∧ Ap B i n p d 0 (fun _ => none) (fun _ => 0)) := hidden ⟨⟨hw.out.congr (fun a ha => gx_all x i a ha), World.ownsRow_nil _ _ _ _, fun a ha => by omega, by simp [Value.ownBlock], hbl.out⟩, ⟨fun a ha => by omega⟩⟩
      clear hw hbl
      go_wp2_with fail
      clear lq
      go_loopw [3, 6] (fun V iv w' => ∃ j : Nat, j ≤ i ∧ iv = .int .i64 j ∧ ∃ (pp : Nat → Option Addr) (dd : Nat → Nat), Hid (Am 5 w 52 53 4 w0 B i n p d e j V pp dd w' ∧ Ap B i n p d j pp dd)) (fun _ j _ => i - (intOf j).toNat)
      case atStart => exact ⟨0, by omega, rfl, _, _, W1⟩
      case round =>
        clear W1
        obtain ⟨j, hj, rfl, pp, dd, hw⟩ := hrel
        by_cases hj3 : j < i
        · have jj0 : (0 : Int) ≤ (j : Int) := by omega
          have jj1 : (j : Int) < (i : Int) := by omega
          have cB := hw.out.1.ar.cB j hj3
          have hc9 := A3.out.c0
          have N9 := hidden (A3.out.n0 j hj3)
          have wi5 : IntKind.i64.wrap (500 + (j : Int)) = 500 + (j : Int) := IntWalk.i64_in _ (by omega)
          have wi6 : IntKind.u64.wrap (500 + (j : Int)) = 500 + (j : Int) := by rw [IntKind.wrap_u64]; omega
          have wj1 : IntKind.i64.wrap ((j : Int) + 1) = (j : Int) + 1 := IntWalk.i64_in _ (by omega)
          have G0 := hidden (Ag.start hj3 hw.out.1 hw.out.2)
          have M0 := hidden hw.out.1
          have AP := hidden hw.out.2
          have J9 := hidden hj3
          clear hw hc9
          generalize wr = ws at *
          go_wp2_with fail
          clear cB
          go_loopw [7, 8] (fun v kv w' => ∃ k : Nat, k ≤ 64 ∧ kv = .int .i64 k ∧ Hid (Ag 52 4 w0 B i n p d e j pp dd k v w') ∧ Hid (Am 5 w 52 53 4 w0 B i n p d e j u3 pp dd w')) (fun _ k _ => 64 - (intOf k).toNat)
          case atStart => exact ⟨0, by omega, rfl, G0, M0⟩
          case round =>
            clear G0 M0
            obtain ⟨k, hk, rfl, hag, ham⟩ := hrel
            by_cases hk64 : k < 64
            · have kk0 : (0 : Int) ≤ (k : Int) := by omega
              have kk1 : (k : Int) < 64 := by omega
              have a1 := hidden (hag.out.keep (bl_alloc wr (.cells #[.int .u64 (500 + (j : Int)), .int .u64 0, .int .u64 0, .int .u64 0] 52)))
              have a7 := hidden (ham.out.keep (bl_alloc wr (.cells #[.int .u64 (500 + (j : Int)), .int .u64 0, .int .u64 0, .int .u64 0] 52)))
              have a2 := hidden (cells_newP wr [.int .u64 (500 + (j : Int)), .int .u64 0, .int .u64 0, .int .u64 0] 52)
              have a3 : Hid (∀ u ∈ ([.int .u64 (500 + (j : Int)), .int .u64 0, .int .u64 0, .int .u64 0] : List Value), u.oneCell' = true) := hidden (by simp [Value.oneCell'])
              have a4 : Hid (n j + k + 1 ≤ maxLen) := hidden (by have := N9.out; unfold maxLen; omega)
              have a5 : Hid ((n j + k + 1) * 32 ≤ 140737488355328) := hidden (by have := N9.out; omega)
              have a6 : Hid (w0.heap.size ≤ (wr.alloc (.cells #[.int .u64 (500 + (j : Int)), .int .u64 0, .int .u64 0, .int .u64 0] 52)).heap.size) := hidden (by have := ham.out.ar.bel.size; simp; omega)
              go_wp2_with (first | (at_builtin; refine wpList_tell rfl _ _ 53 rfl w0.heap.size 52 i0 (.agg #[.int .u64 0, .int .u64 0, .int .u64 0, .int .u64 0]) 4 32 T1.out HI.out HZ0.out HZ1.out HZ2.out rfl (by decide) u7 _ _ (by rfl) a1.out.ho ⟨wr.heap.size, 0, none⟩ [.int .u64 (500 + (j : Int)), .int .u64 0, .int .u64 0, .int .u64 0] rfl rfl a2.out a3.out a4.out a5.out a6.out ?_; intro v' w3 ho3 hg3 ht3; have HO := hidden ho3; have HG := hidden hg3; have HT := hidden ht3; clear ho3 hg3 ht3))
              go_roundw
              case rel =>
                obtain ⟨q1, q2⟩ := Ag.next NU.out NT.out A3.out J9.out a7.out a1.out (EL.out j) (by rw [EE.out j]; have := HO.out; rw [EE.out j] at this; exact this) HG.out HT.out
                exact ⟨k + 1, by omega, by go_num, hidden q1, hidden q2⟩
              case measure => simp [intOf]; omega
            · have hkk : k = 64 := by omega
              subst hkk
              obtain ⟨gg, cap, rfl, hnc⟩ := own_some hag.out.ho (by omega)
              have b1 := hidden (hag.out.keep (bl_alloc wr (.cells #[.slice (some ⟨gg, 0, none⟩) (n j + 64) cap] 53)))
              have b7 := hidden (ham.out.keep (bl_alloc wr (.cells #[.slice (some ⟨gg, 0, none⟩) (n j + 64) cap] 53)))
              have b2 := hidden (cells_newP wr [.slice (some ⟨gg, 0, none⟩) (n j + 64) cap] 53)
              have b3 : Hid (∀ u ∈ [Value.slice (some ⟨gg, 0, none⟩) (n j + 64) cap], u.oneCell' = true) := hidden (by simp [Value.oneCell'])
              have b4 : Hid (j + 1 ≤ maxLen) := hidden (by have := A3.out.c0; have := J9.out; unfold maxLen; omega)
              have b5 : Hid ((j + 1) * 24 ≤ 140737488355328) := hidden (by have := A3.out.c0; have := J9.out; omega)
              have b6 : Hid (w0.heap.size ≤ (wr.alloc (.cells #[.slice (some ⟨gg, 0, none⟩) (n j + 64) cap] 53)).heap.size) := hidden (by have := ham.out.ar.bel.size; simp; omega)
              clear hag ham hnc
              go_wp2_with (first | (at_builtin; refine wpList_append_own_at _ rfl _ _ 71 rfl w0.heap.size 53 j0 (.slice none 0 0) 1 24 T2.out JI.out JZ0.out JZ1.out JZ2.out rfl (by decide) u3 _ _ (by rfl) b7.out.mv ⟨wr.heap.size, 0, none⟩ 1 1 [.slice (some ⟨gg, 0, none⟩) (n j + 64) cap] rfl rfl b2.out b3.out b4.out b5.out b6.out ?_; intro v' w3 ho3 hg3 _ ht3; have HO := hidden ho3; have HG := hidden hg3; have HT := hidden ht3; clear ho3 hg3 ht3))
              go_roundw
              case rel =>
                obtain ⟨pp', dd', q1, q2⟩ := Am.more NV.out NT.out A3.out J9.out b7.out b1.out AP.out HO.out HG.out HT.out
                exact ⟨j + 1, by omega, by go_num, pp', dd', hidden ⟨q1, q2⟩⟩
              case measure => simp [intOf]; omega
        · have hjj : j = i := by omega
          subst hjj
          have lq : ¬ (j : Int) < (j : Int) := by omega
          have MM := hidden hw.out.1
          clear hw
          go_wp2_with fail
          clear lq
          by_cases hz : j = 0
          · subst hz
            have lq : ¬ ((0 : Nat) : Int) < ((0 : Nat) : Int) := by omega
            go_loopw [9] (fun iv w' => ∃ i : Nat, i = 0 ∧ iv = .int .i64 (i : Int) ∧ Hid (Below w0.heap.size w0 w' ∧ Kt 5 w w')) (fun i _ => 0)
            case atStart => exact ⟨0, rfl, rfl, hidden ⟨MM.out.ar.bel, MM.out.ar.kt⟩⟩
            case round =>
              obtain ⟨i, rfl, rfl, hb⟩ := hrel
              go_wp2_with fail
              go_ret
              exact ⟨rfl, hb.out.1, hb.out.2⟩
          obtain ⟨G, cV, rfl, hnc⟩ := own_some MM.out.mv (by omega)
          go_loopw [9] (fun iv w' => ∃ i : Nat, i ≤ j ∧ iv = .int .i64 i ∧ Hid (Am 5 w 52 53 4 w0 B j n p d e j (.slice (some ⟨G, 0, none⟩) j cV) pp dd w')) (fun i _ => j - (intOf i).toNat)
          case atStart => exact ⟨0, by omega, rfl, MM⟩
          case round =>
            clear MM
            obtain ⟨i, hi, rfl, hw⟩ := hrel
            by_cases hi3 : i < j
            · have ii0 : (0 : Int) ≤ (i : Int) := by omega
              have ii1 : (i : Int) < (j : Int) := by omega
              have hc9 := A3.out.c0
              have hn9 := A3.out.n0 i hi3
              have wi1 : IntKind.i64.wrap ((i : Int) + 1) = (i : Int) + 1 := IntWalk.i64_in _ (by omega)
              have wi5 : IntKind.i64.wrap (500 + (i : Int)) = 500 + (i : Int) := IntWalk.i64_in _ (by omega)
              have wi6 : IntKind.u64.wrap (500 + (i : Int)) = 500 + (i : Int) := by rw [IntKind.wrap_u64]; omega
              go_wp2_with fail
              go_loopw [10] (fun kv w' => ∃ k : Nat, k ≤ n i + 64 ∧ kv = .int .i64 k ∧ Hid (Am 5 w 52 53 4 w0 B j n p d e j (.slice (some ⟨G, 0, none⟩) j cV) pp dd w')) (fun k _ => n i + 64 - (intOf k).toNat)
              case atStart => exact ⟨0, by omega, rfl, hw⟩
              case round =>
                clear hw
                obtain ⟨k, hk, rfl, hw⟩ := hrel
                have cB := hw.out.ar.cB i hi3
                have mr := hw.out.mr i hi3
                obtain ⟨bm, hbm⟩ : ∃ b, pp i = some ⟨b, 0, none⟩ := by
                  obtain ⟨b, c', e', _⟩ := own_some mr (by omega)
                  simp only [Value.slice.injEq, true_and] at e'
                  exact ⟨b, e'.1⟩
                have cM : wr.cell? ⟨G, i, none⟩ = some (.slice (some ⟨bm, 0, none⟩) (n i + 64) (dd i)) := by
                  have := hw.out.mv.cells (g := G) rfl i (.slice (pp i) (n i + 64) (dd i)) (by rw [List.getElem?_map, List.getElem?_range hi3]; rfl)
                  rw [Addr.add_mid, Nat.zero_add, hbm] at this
                  exact this
                rw [hbm] at mr
                have l64 : ((n i + 64 : Nat) : Int) = (n i : Int) + 64 := by omega
                by_cases hkn : k < n i + 64
                · have kk0 : (0 : Int) ≤ (k : Int) := by omega
                  have kk1 : (k : Int) < (n i : Int) + 64 := by omega
                  have w9 : IntKind.i64.wrap ((k : Int) + 1) = (k : Int) + 1 := IntWalk.i64_in _ (by omega)
                  have gm : ∀ q u, (e i)[q]? = some u → wr.cell? ⟨bm, k * 4 + q, none⟩ = some u := fun q u hq => by
                    have h0 := (List.getElem?_eq_some_iff.1 hq).1
                    have h1 := rpt_get (n i + 64) (e i) k q hkn h0
                    rw [EL.out i] at h1
                    have := mr.cells (g := bm) rfl (k * 4 + q) u (h1.trans hq)
                    rw [Addr.add_mid, Nat.zero_add] at this
                    exact this
                  have m0 : wr.cell? ⟨bm, k * 4, none⟩ = some (.int .u64 (500 + (i : Int))) := by have := gm 0 _ (by rw [EE.out i]; rfl); simpa using this
                  have m1 : wr.cell? ⟨bm, k * 4 + 1, none⟩ = some (.int .u64 0) := by have := gm 1 _ (by rw [EE.out i]; rfl); simpa using this
                  have m2 : wr.cell? ⟨bm, k * 4 + 2, none⟩ = some (.int .u64 0) := by have := gm 2 _ (by rw [EE.out i]; rfl); simpa using this
                  have m3 : wr.cell? ⟨bm, k * 4 + 3, none⟩ = some (.int .u64 0) := by have := gm 3 _ (by rw [EE.out i]; rfl); simpa using this
                  by_cases hkp : k < n i
                  · have kk2 : (k : Int) < (n i : Int) := by omega
                    obtain ⟨bi, hbi⟩ := hw.out.ar.blk hi3 (by omega)
                    have hr0 := hw.out.ar.rows i hi3
                    rw [hbi] at hr0 cB
                    have gp : ∀ q u, (e i)[q]? = some u → wr.cell? ⟨bi, k * 4 + q, none⟩ = some u := fun q u hq => by
                      have h0 := (List.getElem?_eq_some_iff.1 hq).1
                      have h1 := rpt_get (n i) (e i) k q hkp h0
                      rw [EL.out i] at h1
                      have := hr0.cells (g := bi) rfl (k * 4 + q) u (h1.trans hq)
                      rw [Addr.add_mid, Nat.zero_add] at this
                      exact this
                    have p0 : wr.cell? ⟨bi, k * 4, none⟩ = some (.int .u64 (500 + (i : Int))) := by have := gp 0 _ (by rw [EE.out i]; rfl); simpa using this
                    have p1 : wr.cell? ⟨bi, k * 4 + 1, none⟩ = some (.int .u64 0) := by have := gp 1 _ (by rw [EE.out i]; rfl); simpa using this
                    have p2 : wr.cell? ⟨bi, k * 4 + 2, none⟩ = some (.int .u64 0) := by have := gp 2 _ (by rw [EE.out i]; rfl); simpa using this
                    have p3 : wr.cell? ⟨bi, k * 4 + 3, none⟩ = some (.int .u64 0) := by have := gp 3 _ (by rw [EE.out i]; rfl); simpa using this
                    clear gm gp hr0 mr hbi hbm hn9 hc9
                    obtain ⟨v, hv⟩ : ∃ v, 500 + (i : Int) = v := ⟨_, rfl⟩
                    rw [hv] at m0 p0
                    replace wi5 := wi5.trans hv
                    rw [hv] at wi6
                    have qv := fun w => (eq4 ⟨v, 0, 0, 0⟩ ⟨v, 0, 0, 0⟩ w).trans (by rw [E4.same_self] : _ = Result.ok true w)
                    have qw := fun w => (eqL ⟨v, 0, 0, 0⟩ ⟨v, 0, 0, 0⟩ w).trans (by rw [E4.same_self] : _ = Result.ok true w)
                    simp only [E4.v] at qv qw
                    clear hv
                    generalize dd i = ddi at *
                    generalize d i = di at *
                    go_upto_region 24 with fail
                    go_big_region
                    go_wp2_with fail
                    go_roundw
                    case rel => exact ⟨k + 1, by omega, by go_num, hidden (hw.out.keep (Tr.drew_blW _))⟩
                    case measure => simp [intOf]; omega
                  · have kk2 : ¬ (k : Int) < (n i : Int) := by omega
                    clear gm mr hbm hn9 hc9
                    obtain ⟨v, hv⟩ : ∃ v, 500 + (i : Int) = v := ⟨_, rfl⟩
                    rw [hv] at m0
                    replace wi5 := wi5.trans hv
                    rw [hv] at wi6
                    have qv := fun w => (eq4 ⟨v, 0, 0, 0⟩ ⟨v, 0, 0, 0⟩ w).trans (by rw [E4.same_self] : _ = Result.ok true w)
                    have qw := fun w => (eqL ⟨v, 0, 0, 0⟩ ⟨v, 0, 0, 0⟩ w).trans (by rw [E4.same_self] : _ = Result.ok true w)
                    simp only [E4.v] at qv qw
                    clear hv
                    generalize dd i = ddi at *
                    generalize d i = di at *
                    generalize p i = pi at *
                    go_upto_region 24 with fail
                    go_big_region
                    go_wp2_with fail
                    go_roundw
                    case rel => exact ⟨k + 1, by omega, by go_num, hidden (hw.out.keep (Tr.drew_blW _))⟩
                    case measure => simp [intOf]; omega
                · have hkk : k = n i + 64 := by omega
                  have lq : ¬ (k : Int) < (n i : Int) + 64 := by omega
                  clear hn9 hc9 hkk mr hbm
                  generalize dd i = ddi at *
                  go_wp2_with fail
                  go_roundw
                  case rel => exact ⟨i + 1, by omega, by go_num, hw⟩
                  case measure => simp [intOf]; omega
            · have hii : i = j := by omega
              subst hii
              have lq : ¬ (i : Int) < (i : Int) := by omega
              go_wp2_with fail
              go_ret
              exact ⟨rfl, hw.out.ar.bel, hw.out.ar.kt⟩
end Xo
end Go.Proofs.YtkfkmndhbfeagaaGreatDoor
