import Derived.Test.YtbkiobfjabadeaaDoorYl
namespace Go.Proofs.YtbkiobfjabadeaaDoor
open Go.RowKit
set_option linter.unusedVariables false
/-- rows of 18 cells -/
def rws (n : Nat) (F : Nat → List Value) : List Value := (List.range n).flatMap F
theorem rws_succ (n : Nat) (F : Nat → List Value) : rws (n + 1) F = rws n F ++ F n := by simp [rws, List.range_succ]
theorem rws_congr {n : Nat} {F G : Nat → List Value} (h : ∀ k, k < n → F k = G k) : rws n F = rws n G := by
  induction n with
  | zero => rfl
  | succ n ih => rw [rws_succ, rws_succ, ih (fun k hk => h k (by omega)), h n (by omega)]
theorem rws_len (n : Nat) (F : Nat → List Value) (h : ∀ k, k < n → (F k).length = 18) : (rws n F).length = n * 18 := by
  induction n with
  | zero => rfl
  | succ n ih => rw [rws_succ, List.length_append, ih (fun k hk => h k (by omega)), h n (by omega)]; omega
theorem rws_get (n : Nat) (F : Nat → List Value) (h : ∀ k, k < n → (F k).length = 18) (i j : Nat) (hi : i < n) (hj : j < 18) : (rws n F)[i * 18 + j]? = (F i)[j]? := by
  induction n with
  | zero => omega
  | succ n ih =>
    rw [rws_succ]
    have hl := rws_len n F (fun k hk => h k (by omega))
    by_cases hin : i < n
    · rw [List.getElem?_append_left (by omega)]
      exact ih (fun k hk => h k (by omega)) hin
    · obtain rfl : i = n := by omega
      rw [List.getElem?_append_right (by omega), hl]
      congr 1
      omega
theorem own_range {w : World} {base n b c : Nat} {e : TypeId} {F : Nat → List Value} (h : w.ownsRow base e 18 (.slice (some ⟨b, 0, none⟩) n c) n (rws n F)) (hF : ∀ k, k < n → (F k).length = 18) (i : Nat) (hi : i < n) : w.rangeAt b (i * 18) (F i) := fun j v hv => by
  have hj : j < 18 := by
    have := (List.getElem?_eq_some_iff.1 hv).1
    rw [hF i hi] at this
    exact this
  rw [← hv, ← rws_get n F hF i j hi hj]
  exact h.cellAt (i * 18 + j) (by omega)
/-- the list without its mark -/
def cut : Value → Value
  | .slice p n c => .slice p (n - 1) c
  | v => v
def upd (L : Nat → Value) (i : Nat) (v : Value) : Nat → Value := fun j => if j = i then v else L j
theorem upd_at (L : Nat → Value) (i : Nat) (v : Value) : upd L i v i = v := if_pos rfl
theorem upd_ne (L : Nat → Value) (i j : Nat) (v : Value) (h : j < i) : upd L i v j = L j := if_neg (by omega)
/-- lists of one's own, two for each tape -/
structure LL (w0 w : World) (e : TypeId) (N : Nat) (nl nr : Nat → Nat) (L R : Nat → Value) (f g : Nat → Nat → E4) : Prop where
  l : ∀ i, i < N → w.ownsRow w0.heap.size e 4 (L i) (nl i) (svs (nl i) (f i))
  r : ∀ i, i < N → w.ownsRow w0.heap.size e 4 (R i) (nr i) (svs (nr i) (g i))
  d1 : ∀ i j, i < N → j < N → Dj (L i) (R j)
  d2 : ∀ i j, i < N → j < N → i ≠ j → Dj (L i) (L j)
theorem LL.keep {w0 w w' : World} {e : TypeId} {N : Nat} {nl nr : Nat → Nat} {L R : Nat → Value} {f g : Nat → Nat → E4} (h : LL w0 w e N nl nr L R f g) (hb : Below w.heap.size w w') : LL w0 w' e N nl nr L R f g :=
  ⟨fun i hi => own_keepX (h.l i hi) hb, fun i hi => own_keepX (h.r i hi) hb, h.d1, h.d2⟩
theorem LL.grown {w0 w w' : World} {e e' : TypeId} {N : Nat} {nl nr : Nat → Nat} {L R : Nat → Value} {f g : Nat → Nat → E4} (h : LL w0 w e N nl nr L R f g) {base s n : Nat} {v : Value} {xs : List Value} (ho : w.ownsRow base e' s v n xs) (hne : e ≠ e') (hg : w.grownBy w' v.ownBlock) : LL w0 w' e N nl nr L R f g :=
  ⟨fun i hi => (h.l i hi).kept hg (own_ne (h.l i hi) ho hne), fun i hi => (h.r i hi).kept hg (own_ne (h.r i hi) ho hne), h.d1, h.d2⟩
/-- a block that holds none of the lists is written -/
theorem LL.far {w0 w w' : World} {e : TypeId} {N : Nat} {nl nr : Nat → Nat} {L R : Nat → Value} {f g : Nat → Nat → E4} (h : LL w0 w e N nl nr L R f g) {b : Nat} (hg : w.grownBy w' (some b)) (hl : ∀ i, i < N → ¬ (L i).ownBlock = some b ∧ ¬ (R i).ownBlock = some b) : LL w0 w' e N nl nr L R f g :=
  ⟨fun i hi => (h.l i hi).kept hg (.inr (hl i hi).1), fun i hi => (h.r i hi).kept hg (.inr (hl i hi).2), h.d1, h.d2⟩
theorem LL.snoc {w0 w1 w : World} {e : TypeId} {i : Nat} {nl nr : Nat → Nat} {L R : Nat → Value} {f g : Nat → Nat → E4} (h : LL w0 w1 e i nl nr L R f g) (hb : Below w1.heap.size w1 w) (hw : w0.heap.size ≤ w1.heap.size) {A B : Value} {x y : Nat} (hx : w1.heap.size ≤ x) (hy : w1.heap.size ≤ y)
    (ha : w.ownsRow x e 4 A (nl i) (svs (nl i) (f i))) (hr : w.ownsRow y e 4 B (nr i) (svs (nr i) (g i))) (dj : Dj A B) : LL w0 w e (i + 1) nl nr (upd L i A) (upd R i B) f g := by
  have hk := h.keep hb
  have lo : ∀ j, j < i → ∀ k, (L j).ownBlock = some k → k < w1.heap.size := fun j hj k hk' => ((h.l j hj).lt k hk').2
  have ro : ∀ j, j < i → ∀ k, (R j).ownBlock = some k → k < w1.heap.size := fun j hj k hk' => ((h.r j hj).lt k hk').2
  have an : ∀ k, A.ownBlock = some k → w1.heap.size ≤ k := fun k hk' => Nat.le_trans hx (ha.lt k hk').1
  have bn : ∀ k, B.ownBlock = some k → w1.heap.size ≤ k := fun k hk' => Nat.le_trans hy (hr.lt k hk').1
  refine ⟨fun j hj => ?_, fun j hj => ?_, fun j k hj hk' => ?_, fun j k hj hk' hne => ?_⟩
  · by_cases e : j = i
    · subst e; rw [upd_at]; exact own_mono ha (Nat.le_trans hw hx)
    · rw [upd_ne _ _ _ _ (by omega)]; exact hk.l j (by omega)
  · by_cases e : j = i
    · subst e; rw [upd_at]; exact own_mono hr (Nat.le_trans hw hy)
    · rw [upd_ne _ _ _ _ (by omega)]; exact hk.r j (by omega)
  · by_cases e1 : j = i
    · subst e1
      rw [upd_at]
      by_cases e2 : k = j
      · subst e2; rw [upd_at]; exact dj
      · rw [upd_ne _ _ _ _ (by omega)]
        intro z hz hz2
        have := an z hz
        have := ro k (by omega) z hz2
        omega
    · rw [upd_ne _ _ _ _ (by omega : j < i)]
      by_cases e2 : k = i
      · subst e2
        rw [upd_at]
        intro z hz hz2
        have := bn z hz2
        have := lo j (by omega) z hz
        omega
      · rw [upd_ne _ _ _ _ (by omega : k < i)]
        exact h.d1 j k (by omega) (by omega)
  · by_cases e1 : j = i
    · subst e1
      rw [upd_at, upd_ne _ _ _ _ (by omega : k < j)]
      intro z hz hz2
      have := an z hz
      have := lo k (by omega) z hz2
      omega
    · rw [upd_ne _ _ _ _ (by omega : j < i)]
      by_cases e2 : k = i
      · subst e2
        rw [upd_at]
        intro z hz hz2
        have := an z hz2
        have := lo j (by omega) z hz
        omega
      · rw [upd_ne _ _ _ _ (by omega : k < i)]
        exact h.d2 j k (by omega) (by omega) hne
theorem LL.congr {w0 w : World} {e : TypeId} {N : Nat} {nl nr : Nat → Nat} {L R : Nat → Value} {f f' g : Nat → Nat → E4} (h : LL w0 w e N nl nr L R f g) (hf : ∀ i, i < N → ∀ k, k < nl i → f i k = f' i k) : LL w0 w e N nl nr L R f' g :=
  ⟨fun i hi => by rw [← svs_congr (hf i hi)]; exact h.l i hi, h.r, h.d1, h.d2⟩
/-- a scalar of a list is written -/
theorem LL.write {w0 w : World} {e : TypeId} {N : Nat} {nl nr : Nat → Nat} {L R : Nat → Value} {f g : Nat → Nat → E4} (h : LL w0 w e N nl nr L R f g) {i k b c : Nat} (hi : i < N) (hk : k < nl i) (hL : L i = .slice (some ⟨b, 0, none⟩) (nl i) c) (z : E4) :
    LL w0 (setS w b (k * 4) z) e N nl nr L R (fun j x => if j = i ∧ x = k then z else f j x) g ∧ w.grownBy (setS w b (k * 4) z) (some b) ∧ w0.heap.size ≤ b := by
  have hr := h.l i hi
  rw [hL] at hr
  obtain ⟨o1, g1⟩ := own_setS hr k hk z
  have eb : (L i).ownBlock = some b := by rw [hL]; rfl
  have g2 := g1
  rw [← eb] at g2
  refine ⟨⟨fun j hj => ?_, fun j hj => (h.d1 i j hi hj).kept (h.r j hj) g2, h.d1, h.d2⟩, g1, (hr.lt b rfl).1⟩
  by_cases hji : j = i
  · subst hji
    rw [hL, svs_congr (g := fun x => if j = j ∧ x = k then z else f j x) (f := fun x => if x = k then z else f j x) (fun x _ => by simp)]
    exact o1
  · rw [svs_congr (g := fun x => if j = i ∧ x = k then z else f j x) (f := f j) (fun x _ => if_neg (fun h => hji h.1))]
    exact (h.d2 i j hi hj (fun e => hji e.symm)).kept (h.l j hj) g2
/-- all that the law has made of the tapes -/
structure ST (w0 : World) (q : Nat → Tq) (N M : Nat) (L R K J : Nat → Value) (Vo Vi : Value) (f d : Nat → Nat → E4) (w : World) : Prop where
  bel : Below w0.heap.size w0 w
  ll : LL w0 w 28 N (fun j => (q j).n + 1) (fun j => (q j).m + 1) L R f (fun j => mk (q j).h (q j).m 78)
  dl : LL w0 w 33 M (fun j => (q j).n) (fun j => (q j).m) K J d (fun j k => lst ((q j).h k).n)
  vo : w.ownsRow w0.heap.size 31 18 Vo N (rws N (fun j => tc (q j).a (q j).r (q j).s (q j).t (cut (L j)) (cut (R j))))
  vi : w.ownsRow w0.heap.size 36 18 Vi M (rws M (fun j => tc (q j).doc.a (q j).doc.r (q j).doc.s (q j).doc.t (K j) (J j)))
theorem ST.keep {w0 w w' : World} {q : Nat → Tq} {N M : Nat} {L R K J : Nat → Value} {Vo Vi : Value} {f d : Nat → Nat → E4} (h : ST w0 q N M L R K J Vo Vi f d w) (hb : Below w.heap.size w w') : ST w0 q N M L R K J Vo Vi f d w' :=
  ⟨bl_trans h.bel hb, h.ll.keep hb, h.dl.keep hb, own_keepX h.vo hb, own_keepX h.vi hb⟩
theorem ST.own {w0 wr wt wA w3 : World} {q : Nat → Tq} {i M : Nat} {L R K J : Nat → Value} {Vo Vi A B v' : Value} {f d : Nat → Nat → E4} (h : ST w0 q i M L R K J Vo Vi f d wr) (hb : Below wr.heap.size wr wt)
    (o1 : wt.ownsRow wr.heap.size 28 4 A ((q i).n + 1) (svs ((q i).n + 1) (f i))) (o2 : wt.ownsRow wr.heap.size 28 4 B ((q i).m + 1) (svs ((q i).m + 1) (Go.Proofs.YtbkiobfjabadeaaDoor.mk (q i).h (q i).m 78))) (dj : Dj A B) (hb2 : Below wt.heap.size wt wA)
    (O3 : w3.ownsRow w0.heap.size 31 18 v' (i + 1) (rws i (fun j => tc (q j).a (q j).r (q j).s (q j).t (cut (L j)) (cut (R j))) ++ tc (q i).a (q i).r (q i).s (q i).t (cut A) (cut B))) (hg : wA.grownBy w3 Vo.ownBlock) : ST w0 q (i + 1) M (upd L i A) (upd R i B) K J v' Vi f d w3 := by
  have vA := own_keepX (own_keepX h.vo hb) hb2
  have iA := own_keepX (own_keepX h.vi hb) hb2
  refine ⟨below_transI (bl_trans (bl_trans h.bel hb) hb2) (bl_grown hg (bl_trans (bl_trans h.bel hb) hb2).size (fun k hk => (vA.lt k hk).1)), ((h.ll.snoc hb h.bel.size (Nat.le_refl _) (Nat.le_refl _) o1 o2 dj).keep hb2).grown vA (by decide) hg, ((h.dl.keep hb).keep hb2).grown vA (by decide) hg, ?_, iA.kept hg (own_ne iA vA (by decide))⟩
  rw [rws_succ, upd_at, upd_at, rws_congr (G := fun j => tc (q j).a (q j).r (q j).s (q j).t (cut (L j)) (cut (R j))) (fun k hk => by rw [upd_ne _ _ _ _ hk, upd_ne _ _ _ _ hk])]
  exact O3
theorem ST.doc {w0 wr wt wA w3 : World} {q : Nat → Tq} {N i : Nat} {L R K J : Nat → Value} {Vo Vi A B v' : Value} {f d : Nat → Nat → E4} (h : ST w0 q N i L R K J Vo Vi f d wr) (hb : Below wr.heap.size wr wt) {x : Nat} (hx : wr.heap.size ≤ x)
    (o1 : wt.ownsRow wr.heap.size 33 4 A (q i).n (svs (q i).n (d i))) (o2 : wt.ownsRow x 33 4 B (q i).m (svs (q i).m (fun k => lst ((q i).h k).n))) (dj : Dj A B) (hb2 : Below wt.heap.size wt wA)
    (O3 : w3.ownsRow w0.heap.size 36 18 v' (i + 1) (rws i (fun j => tc (q j).doc.a (q j).doc.r (q j).doc.s (q j).doc.t (K j) (J j)) ++ tc (q i).doc.a (q i).doc.r (q i).doc.s (q i).doc.t A B)) (hg : wA.grownBy w3 Vi.ownBlock) : ST w0 q N (i + 1) L R (upd K i A) (upd J i B) Vo v' f d w3 := by
  have vA := own_keepX (own_keepX h.vi hb) hb2
  have oA := own_keepX (own_keepX h.vo hb) hb2
  refine ⟨below_transI (bl_trans (bl_trans h.bel hb) hb2) (bl_grown hg (bl_trans (bl_trans h.bel hb) hb2).size (fun k hk => (vA.lt k hk).1)), ((h.ll.keep hb).keep hb2).grown vA (by decide) hg, ((h.dl.snoc hb h.bel.size (Nat.le_refl _) hx o1 o2 dj).keep hb2).grown vA (by decide) hg, oA.kept hg (own_ne oA vA (by decide)), ?_⟩
  rw [rws_succ, upd_at, upd_at, rws_congr (G := fun j => tc (q j).doc.a (q j).doc.r (q j).doc.s (q j).doc.t (K j) (J j)) (fun k hk => by rw [upd_ne _ _ _ _ hk, upd_ne _ _ _ _ hk])]
  exact O3
/-- a scalar of a list is written, of either kind -/
theorem ST.put {w0 w : World} {q : Nat → Tq} {N M : Nat} {L R K J : Nat → Value} {Vo Vi : Value} {f d : Nat → Nat → E4} (h : ST w0 q N M L R K J Vo Vi f d w) {i k b c : Nat} (hi : i < N) (hk : k < (q i).n) (hL : L i = .slice (some ⟨b, 0, none⟩) ((q i).n + 1) c) (z : E4) :
    ST w0 q N M L R K J Vo Vi (fun j x => if j = i ∧ x = k then z else f j x) d (setS w b (k * 4) z) := by
  obtain ⟨l, g, hb⟩ := h.ll.write hi (show k < (q i).n + 1 by omega) hL z
  have hl := h.ll.l i hi
  have eb : (L i).ownBlock = some b := by rw [hL]; rfl
  rw [← eb] at g
  exact ⟨below_transI h.bel (bl_grown g h.bel.size (fun k hk => (hl.lt k hk).1)), l, h.dl.grown hl (by decide) g, h.vo.kept g (own_ne h.vo hl (by decide)), h.vi.kept g (own_ne h.vi hl (by decide))⟩
theorem ST.putd {w0 w : World} {q : Nat → Tq} {N M : Nat} {L R K J : Nat → Value} {Vo Vi : Value} {f d : Nat → Nat → E4} (h : ST w0 q N M L R K J Vo Vi f d w) {i k b c : Nat} (hi : i < M) (hk : k < (q i).n) (hL : K i = .slice (some ⟨b, 0, none⟩) (q i).n c) (z : E4) :
    ST w0 q N M L R K J Vo Vi f (fun j x => if j = i ∧ x = k then z else d j x) (setS w b (k * 4) z) := by
  obtain ⟨l, g, hb⟩ := h.dl.write hi hk hL z
  have hl := h.dl.l i hi
  have eb : (K i).ownBlock = some b := by rw [hL]; rfl
  rw [← eb] at g
  exact ⟨below_transI h.bel (bl_grown g h.bel.size (fun k hk => (hl.lt k hk).1)), h.ll.grown hl (by decide) g, l, h.vo.kept g (own_ne h.vo hl (by decide)), h.vi.kept g (own_ne h.vi hl (by decide))⟩
theorem ST.congr {w0 w : World} {q : Nat → Tq} {N M : Nat} {L R K J : Nat → Value} {Vo Vi : Value} {f f' d d' : Nat → Nat → E4} (h : ST w0 q N M L R K J Vo Vi f d w) (hf : ∀ i, i < N → ∀ k, k < (q i).n + 1 → f i k = f' i k) (hd : ∀ i, i < M → ∀ k, k < (q i).n → d i k = d' i k) : ST w0 q N M L R K J Vo Vi f' d' w :=
  ⟨h.bel, h.ll.congr hf, h.dl.congr hd, h.vo, h.vi⟩
/-- the list with its mark, and without -/
theorem LL.cut {w0 w : World} {e : TypeId} {N : Nat} {nl nr : Nat → Nat} {L R : Nat → Value} {f g : Nat → Nat → E4} (h : LL w0 w e N (fun j => nl j + 1) (fun j => nr j + 1) L R f g) {i : Nat} (hi : i < N) :
    ∃ b c b' c' : Nat, L i = .slice (some ⟨b, 0, none⟩) (nl i + 1) c ∧ cut (L i) = .slice (some ⟨b, 0, none⟩) (nl i) c ∧ nl i + 1 ≤ c ∧ w0.heap.size ≤ b ∧ R i = .slice (some ⟨b', 0, none⟩) (nr i + 1) c' ∧ cut (R i) = .slice (some ⟨b', 0, none⟩) (nr i) c' ∧ nr i + 1 ≤ c' ∧ w.ownsRow w0.heap.size e 4 (.slice (some ⟨b, 0, none⟩) (nl i + 1) c) (nl i + 1) (svs (nl i + 1) (f i)) ∧ w.ownsRow w0.heap.size e 4 (.slice (some ⟨b', 0, none⟩) (nr i + 1) c') (nr i + 1) (svs (nr i + 1) (g i)) := by
  have h1 := h.l i hi
  have h2 := h.r i hi
  obtain ⟨b, c, e1, k1⟩ := own_some4 h1 (Nat.succ_pos _)
  obtain ⟨b', c', e2, k2⟩ := own_some4 h2 (Nat.succ_pos _)
  rw [e1] at h1
  rw [e2] at h2
  exact ⟨b, c, b', c', e1, by rw [e1]; rfl, k1, (h1.lt b rfl).1, e2, by rw [e2]; rfl, k2, h1, h2⟩
theorem own_half {w : World} {base b c n : Nat} {e : TypeId} {g : Nat → E4} (h : w.ownsRow base e 4 (.slice (some ⟨b, 0, none⟩) (n + 1) c) (n + 1) (svs (n + 1) g)) : w.ownsRow base e 4 (.slice (some ⟨b, 0, none⟩) n c) n (svs n g) := by
  rw [svs_succ] at h
  exact own_front h (svs_len _ _) (by omega)
def Tq.with (q : Tq) (g : Nat → E4) : Tq := ⟨q.a, q.r, q.s, q.t, q.n, q.m, g, q.h⟩
theorem rows_of_own {w : World} {base N : Nat} {e : TypeId} {V : Value} {F : Nat → List Value} (h : w.ownsRow base e 18 V N (rws N F)) (hF : ∀ k, k < N → (F k).length = 18) : ∃ (P : Option Addr) (c : Nat), V = .slice P N c ∧ (0 < N → ∃ b o, P = some ⟨b, o, none⟩ ∧ ∀ i, i < N → w.rangeAt b (o + i * 18) (F i)) := by
  rcases h.2 with ⟨rfl, rfl⟩ | ⟨b, c, cur, rfl, _⟩
  · exact ⟨none, 0, rfl, fun h => absurd h (by omega)⟩
  · exact ⟨_, c, rfl, fun _ => ⟨b, 0, rfl, fun i hi => by rw [Nat.zero_add]; exact own_range h hF i hi⟩⟩
theorem ST.ts {w0 w : World} {q : Nat → Tq} {N M : Nat} {L R K J : Nat → Value} {Vo Vi : Value} {f d : Nat → Nat → E4} (h : ST w0 q N M L R K J Vo Vi f d w) : Ts w Vo N (fun i => (q i).with (f i)) (fun i => cut (L i)) (fun i => cut (R i)) := by
  obtain ⟨P, c, e, hr⟩ := rows_of_own h.vo (fun _ _ => rfl)
  refine ⟨P, c, e, hr, fun i hi => ?_⟩
  obtain ⟨b, c, b', c', e1, e2, _, _, e3, e4, _, o1, o2⟩ := h.ll.cut hi
  simp only [Tq.with]
  rw [e2, e4]
  refine ⟨own_in (own_half o1), ?_⟩
  have := own_half o2
  rw [svs_congr (g := Go.Proofs.YtbkiobfjabadeaaDoor.mk (q i).h (q i).m 78) (f := (q i).h) (fun k hk => by unfold Go.Proofs.YtbkiobfjabadeaaDoor.mk; rw [if_neg (by omega)])] at this
  exact own_in this
theorem ST.td {w0 w : World} {q : Nat → Tq} {N M : Nat} {L R K J : Nat → Value} {Vo Vi : Value} {f d : Nat → Nat → E4} (h : ST w0 q N M L R K J Vo Vi f d w) (g' : Nat → Nat → E4) (hd : ∀ i, i < M → ∀ k, k < (q i).n → d i k = lst (g' i k).n) : Ts w Vi M (fun i => ((q i).with (g' i)).doc) K J := by
  obtain ⟨P, c, e, hr⟩ := rows_of_own h.vi (fun _ _ => rfl)
  refine ⟨P, c, e, hr, fun i hi => ⟨?_, own_in (h.dl.r i hi)⟩⟩
  have := h.dl.l i hi
  rw [svs_congr (hd i hi)] at this
  exact own_in this
/-- what a Whole answers -/
def Wa (F : Nat) (e : TypeId) (x : World) (args : Array Value) (a r s t : E4) (E : Int) (n : Nat) (g1 g2 : Nat → E4) : Prop :=
  Calls Tryd.prog F args x fun z w' => ∃ (p1 : Option Addr) (k1 : Nat) (p2 : Option Addr) (k2 : Nat), z = .returned (.tuple #[.agg (tc a r s t (.slice p1 n k1) (.slice p2 n k2)).toArray, .int .i64 E]) ∧ w'.ownsRow x.heap.size e 4 (.slice p1 n k1) n (svs n g1) ∧ w'.ownsRow x.heap.size e 4 (.slice p2 n k2) n (svs n g2) ∧ Dj (.slice p1 n k1) (.slice p2 n k2) ∧ Below x.heap.size x w'
theorem Wa.zero {F : Nat} {e : TypeId} {x : World} {args : Array Value} {E : Int} (g1 g2 : Nat → E4) (h : Calls Tryd.prog F args x fun z w' => z = .returned (.tuple #[.agg tz.toArray, .int .i64 E]) ∧ Below x.heap.size x w') : Wa F e x args zero4 zero4 zero4 zero4 E 0 g1 g2 :=
  h.mono (by rintro z w' ⟨rfl, hb⟩; exact ⟨none, 0, none, 0, rfl, World.ownsRow_nil _ _ _ _, World.ownsRow_nil _ _ _ _, fun k hk => by simp [Value.ownBlock] at hk, hb⟩)
theorem wholes_both (b c : Int) (N : Nat) (q : Nat → Tq) (hN : N ≤ 1099511627776) (hq : ∀ i, i < N → (q i).ok) :
    ∃ (a r s t : E4) (E : Int) (n : Nat) (g1 g2 : Nat → E4), n ≤ 1024 ∧ (∀ (x : World) V L R, Tb x → Ts x V N q L R → Wa 6 28 x #[.agg #[.int .i64 b, .int .i64 c], V] a r s t E n g1 g2) ∧
      (∀ (x : World) V L R, Ts x V N (fun i => (q i).doc) L R → Wa 7 33 x #[.agg #[.int .i64 b, .int .i64 c], V] a r s t E n g1 g2) := by
  by_cases hal : al b c = true
  · obtain ⟨B, C, rfl, rfl, hB0, hB, hC0, hC⟩ := al_in hal
    by_cases hNC : N = C
    · by_cases hf : Fits N q (B : Int)
      · have hle : N * B ≤ 16 * 64 := Nat.mul_le_mul (by omega) hB
        refine ⟨_, _, _, _, 0, N * B, _, _, by omega, fun x V L R hT hV => whole_in B C V N q L R x hB hC hal hT hV ⟨hNC, hf⟩ hq, fun x V L R hV => ?_⟩
        refine (rwhole_loop B C V N q L R x hB hC hal hV hNC hq).mono ?_
        rintro z w' (⟨h, -⟩ | ⟨-, h⟩)
        · exact absurd hf h
        · exact h
      · refine ⟨zero4, zero4, zero4, zero4, 2, 0, fun _ => zero4, fun _ => zero4, by omega, fun x V L R hT hV => Wa.zero _ _ (whole_length B C V N q L R x hN hal hV (fun h => hf h.2)), fun x V L R hV => Wa.zero _ _ ?_⟩
        refine (rwhole_loop B C V N q L R x hB hC hal hV hNC hq).mono ?_
        rintro z w' (⟨-, h⟩ | ⟨h, -⟩)
        · exact h
        · exact absurd h hf
    · exact ⟨zero4, zero4, zero4, zero4, 2, 0, fun _ => zero4, fun _ => zero4, by omega, fun x V L R hT hV => Wa.zero _ _ (whole_length B C V N q L R x hN hal hV (fun h => hNC (by omega))), fun x V L R hV => Wa.zero _ _ (rwhole_count B C V N _ L R x hal hV (by omega))⟩
  · have hal' : al b c = false := by simpa using hal
    exact ⟨zero4, zero4, zero4, zero4, 130, 0, fun _ => zero4, fun _ => zero4, by omega, fun x V L R hT hV => Wa.zero _ _ (whole_params b c V N q L R x hal' hV), fun x V L R hV => Wa.zero _ _ (rwhole_params b c V N _ L R x hal' hV)⟩
theorem infoP : (Tryd.prog.info? 31).map (fun i => (i.zero, i.size, i.bytes)) = some (some (.agg tz.toArray), 18, 176) := by kernel_rfl
theorem infoR : (Tryd.prog.info? 36).map (fun i => (i.zero, i.size, i.bytes)) = some (some (.agg tz.toArray), 18, 176) := by kernel_rfl
end Go.Proofs.YtbkiobfjabadeaaDoor
