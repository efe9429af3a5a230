import Derived.Test.YtbkiobfjabadeaaDoorYb
namespace Go.Proofs.YtbkiobfjabadeaaDoor
open Go.RowKit
set_option linter.unusedVariables false
/-- cells that are patched -/
def pt (D : List Value) (o : Nat) (vs : List Value) : List Value := D.take o ++ (vs ++ D.drop (o + vs.length))
theorem pt_len {D vs : List Value} {o : Nat} (h : o + vs.length ≤ D.length) : (pt D o vs).length = D.length := by unfold pt; simp; omega
theorem pt_in {D vs : List Value} {o j : Nat} (h : o + vs.length ≤ D.length) (h1 : o ≤ j) (h2 : j < o + vs.length) : (pt D o vs)[j]? = vs[j - o]? := by
  unfold pt
  rw [List.getElem?_append_right (by simp; omega), List.getElem?_append_left (by simp; omega)]
  congr 1
  simp; omega
theorem pt_out {D vs : List Value} {o j : Nat} (h : o + vs.length ≤ D.length) (h1 : j < o ∨ o + vs.length ≤ j) : (pt D o vs)[j]? = D[j]? := by
  unfold pt
  rcases h1 with h1 | h1
  · rw [List.getElem?_append_left (by simp; omega), List.getElem?_take, if_pos h1]
  · rw [List.getElem?_append_right (by simp; omega), List.getElem?_append_right (by simp; omega), List.getElem?_drop]
    congr 1
    simp; omega
theorem range_pt {w : World} {c : Nat} {D : List Value} (h : w.rangeAt c 0 D) (o : Nat) (vs : List Value) (hl : o + vs.length ≤ D.length) : (w.setCells c o vs).rangeAt c 0 (pt D o vs) := fun j v hv => by
  by_cases hj : o ≤ j ∧ j < o + vs.length
  · rw [pt_in hl hj.1 hj.2] at hv
    have hlt : j - o < vs.length := by omega
    have := World.cell?_setCells_in c vs o w (fun i hi => by
      have := h (o + i) (D[o + i]'(by omega)) (List.getElem?_eq_getElem _)
      rw [Nat.zero_add] at this
      rw [this]; rfl) (j - o) hlt
    rw [show o + (j - o) = 0 + j by omega] at this
    rw [this]
    rw [List.getElem?_eq_getElem hlt] at hv
    exact hv
  · rw [pt_out hl (by omega)] at hv
    rw [World.cell?_setCells_out c vs o w _ (fun _ _ => by simp only; omega)]
    exact h j v hv
theorem Mw.patch {w0 : World} {L M : List (Nat × List Value)} {w : World} (h : Mw w0 L w) {c : Nat} {D : List Value} (o : Nat) (vs : List Value) (hc : (c, D) ∈ L) (hl : o + vs.length ≤ D.length) (hs : ∀ p ∈ M, p ∈ L ∧ c ≠ p.1) : Mw w0 ((c, pt D o vs) :: M) (w.setCells c o vs) := by
  obtain ⟨h1, ht, hg, hlt⟩ := h.r _ hc
  simp only at hg ht hlt h1
  refine ⟨below_setCellsM c vs o h.bel hg, fun p hp => ?_⟩
  rcases List.mem_cons.1 hp with rfl | hp
  · refine ⟨range_pt h1 o vs hl, ?_, hg, by rw [size_setCellsM]; exact hlt⟩
    simp only [pt_len hl]
    exact fun j hj => ⟨World.isSome_setCells c vs o w _ (ht j hj).1, by rw [World.frozen?_setCells]; exact (ht j hj).2⟩
  · obtain ⟨h3, h2⟩ := hs p hp
    exact ⟨World.rangeAt_setCells_apart (h.r p h3).1 _ _ _ (Or.inl (fun e => h2 e.symm)), fun j hj => ⟨World.isSome_setCells c vs o w _ ((h.r p h3).2.1 j hj).1, by rw [World.frozen?_setCells]; exact ((h.r p h3).2.1 j hj).2⟩, (h.r p h3).2.2.1, by rw [size_setCellsM]; exact (h.r p h3).2.2.2⟩
theorem own_setCells {w : World} {base s : Nat} {e : TypeId} {v : Value} {n : Nat} {xs : List Value} (h : w.ownsRow base e s v n xs) (A o : Nat) (cs : List Value) (hne : v.ownBlock ≠ some A) : (w.setCells A o cs).ownsRow base e s v n xs := h.kept (gb_setCells A cs o w) (.inr hne)
/-- append of a list that is handed in -/
theorem wp_appIn {P : Program} {w : World} {o : Oper} {a : Act} {K : Act → World → Prop} {Q : Exit → Act → World → Prop} (s x : Operand) (t : TypeId)
    (ho : o.op = .call { callee := .builtin .append, args := #[s, x], argTypes := #[t, t] })
    (base : Nat) (e : TypeId) (i : TypeInfo) (ht : P.underlying t = some (.slice e)) (hi : P.info? e = some i) (hz : i.zero = some (.agg #[.int .u64 0, .int .u64 0, .int .u64 0, .int .u64 0])) (hsize : i.size = 4) (hby : i.bytes = 32)
    (v : Value) (n : Nat) (xs : List Value) (hs : a.eval s = v) (hown : w.ownsRow base e 4 v n xs) (V : Value) (m : Nat) (g : Nat → E4) (hx : a.eval x = V) (hV : In w V m g) (hl : n + m ≤ 4398046511104) (hbase : base ≤ w.heap.size)
    (h : ∀ v' w', w'.ownsRow base e 4 v' (n + m) (xs ++ svs m g) → w.grownBy w' v.ownBlock → (v'.ownBlock = v.ownBlock ∨ v'.ownBlock = some w.heap.size) → K (a.put o.dst v') w') : o.wp P a w K Q := by
  obtain ⟨p, c, rfl, hc, hn0, hr⟩ := hV
  cases p with
  | none =>
    obtain rfl := hn0 rfl
    obtain rfl : m = 0 := by omega
    have hrun := run_append_owned_none (P := P) (w := w) base t o.type e i 4 ht hi v n xs hown
    unfold Oper.wp
    simp [execOp, ho, resolve, invoke, builtin, hs, hx, hrun, Result.andThen]
    have := h v w (by simpa [svs] using hown) ⟨rfl, rfl, rfl, Nat.le_refl _, fun _ _ _ => rfl⟩ (.inl rfl)
    exact this
  | some ad =>
    refine wp_appendI s x t ho base e i _ 4 32 ht hi hz hsize hby rfl (by decide) v n xs hs hown ad m c (svs m g) hx (svs_len m g) (fun j u hu => ?_) (svs_one g m) (by unfold maxLen; omega) (by omega) hbase h
    by_cases h0 : m = 0
    · subst h0; simp [svs] at hu
    · obtain ⟨b, q, e', rl⟩ := hr (by omega)
      cases e'
      have hj : j < m * 4 := by
        have := (List.getElem?_eq_some_iff.1 hu).1
        rwa [svs_len] at this
      obtain ⟨k, d, rfl, hd⟩ : ∃ k d, j = k * 4 + d ∧ d < 4 := ⟨j / 4, j % 4, by omega, by omega⟩
      obtain ⟨a0, a1, a2, a3⟩ := svs_get m g k (by omega)
      rw [Addr.add_lit]
      match d, hd with
      | 0, _ => rw [Nat.add_zero, a0] at hu; cases hu; exact rl.c0 k (by omega)
      | 1, _ => rw [a1] at hu; cases hu; rw [← Nat.add_assoc]; exact rl.c1 k (by omega)
      | 2, _ => rw [a2] at hu; cases hu; rw [← Nat.add_assoc]; exact rl.c2 k (by omega)
      | 3, _ => rw [a3] at hu; cases hu; rw [← Nat.add_assoc]; exact rl.c3 k (by omega)
theorem wpList_appIn {P : Program} {w : World} {ops : Array Oper} {rest : List Oper} {o : Oper} {a : Act} {Q : Exit → Act → World → Prop} (hgd : o.guard = none) (s x : Operand) (t : TypeId)
    (ho : o.op = .call { callee := .builtin .append, args := #[s, x], argTypes := #[t, t] })
    (base : Nat) (e : TypeId) (i : TypeInfo) (ht : P.underlying t = some (.slice e)) (hi : P.info? e = some i) (hz : i.zero = some (.agg #[.int .u64 0, .int .u64 0, .int .u64 0, .int .u64 0])) (hsize : i.size = 4) (hby : i.bytes = 32)
    (v : Value) (n : Nat) (xs : List Value) (hs : a.eval s = v) (hown : w.ownsRow base e 4 v n xs) (V : Value) (m : Nat) (g : Nat → E4) (hx : a.eval x = V) (hV : In w V m g) (hl : n + m ≤ 4398046511104) (hbase : base ≤ w.heap.size)
    (h : ∀ v' w', w'.ownsRow base e 4 v' (n + m) (xs ++ svs m g) → w.grownBy w' v.ownBlock → (v'.ownBlock = v.ownBlock ∨ v'.ownBlock = some w.heap.size) → wpList P ops Q rest (a.put o.dst v') w') : wpList P ops Q (o :: rest) a w :=
  wpList_plain hgd fun K hK => wp_appIn s x t ho base e i ht hi hz hsize hby v n xs hs hown V m g hx hV hl hbase (fun v' w' h1 h2 h3 => hK _ _ (h v' w' h1 h2 h3))
/-- a list with a mark behind it -/
def mk (g : Nat → E4) (n : Nat) (x : Int) : Nat → E4 := fun k => if k = n then ⟨x, 0, 0, 0⟩ else g k
theorem mk_svs (g : Nat → E4) (n : Nat) (x : Int) : svs n g ++ [.int .u64 x, .int .u64 0, .int .u64 0, .int .u64 0] = svs (n + 1) (mk g n x) := by
  rw [svs_succ, svs_congr (g := mk g n x) (f := g) (fun k hk => by unfold mk; rw [if_neg (by omega)])]
  unfold mk
  rw [if_pos rfl]
theorem tc_len (a r s t : E4) (L R : Value) : (tc a r s t L R).length = 18 := rfl
theorem tc_16 (a r s t : E4) (L R v : Value) : pt (tc a r s t L R) 16 [v] = tc a r s t v R := rfl
theorem tc_17 (a r s t : E4) (L R v : Value) : pt (tc a r s t L R) 17 [v] = tc a r s t L v := rfl
theorem tc_at16 (a r s t : E4) (L R : Value) : (tc a r s t L R)[16]? = some L := rfl
theorem tc_at17 (a r s t : E4) (L R : Value) : (tc a r s t L R)[17]? = some R := rfl
end Go.Proofs.YtbkiobfjabadeaaDoor
