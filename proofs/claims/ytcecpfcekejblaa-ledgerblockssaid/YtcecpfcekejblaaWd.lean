import Derived.Test.YtcecpfcekejblaaWc
namespace Go.Proofs.Ytcecpfcekejblaa
open Go.RowKit
/-- append of bytes: the old list reads as it did -/
theorem run_app_keep (w : World) (base ty g cap : Nat) (xs bs : List UInt8) (a : Addr) (c : Nat) (ho : w.ownsRow base 5 1 (.slice (some ⟨g, 0, none⟩) xs.length cap) xs.length (cb xs)) (hB : By w (some a) c bs) (hx : xs.length + bs.length ≤ 2 ^ 47) (hb : base ≤ w.heap.size) :
    ∃ v' w', (Builtin.append_ #[24, 24] ty #[.slice (some ⟨g, 0, none⟩) xs.length cap, .slice (some a) bs.length c]).run Try.prog w = .ok v' w' ∧ w'.ownsRow base 5 1 v' (xs ++ bs).length (cb (xs ++ bs)) ∧ w.grownBy w' (some g) ∧ By w' (some ⟨g, 0, none⟩) cap xs ∧ (v'.ownBlock = some g ∨ v'.ownBlock = some w.heap.size) := by
  have h1 : Try.prog.underlying 24 = some (.slice 5) := by kernel_rfl
  have hi : Try.prog.info? 5 = some (Try.prog.info? 5).get! := by kernel_rfl
  have hz : (Try.prog.info? 5).get!.zero = some (.int .u8 0) := by kernel_rfl
  have hs : (Try.prog.info? 5).get!.size = 1 := by kernel_rfl
  have hy : (Try.prog.info? 5).get!.bytes = 1 := by kernel_rfl
  obtain ⟨v', w', hr, ho', hg, _, hat⟩ := run_append_own_at (P := Try.prog) w base _ ty _ _ _ 1 1 h1 hi hz hs hy rfl (by decide) _ _ _ ho a bs.length c (cb bs) (by simp [cb_len]) (hB.lie a rfl) (cb_one bs) (by unfold maxLen; omega) (by omega) hb
  have ho2 : w'.ownsRow base 5 1 v' (xs ++ bs).length (cb (xs ++ bs)) := by rw [List.length_append, cb_app]; exact ho'
  refine ⟨v', w', hr, ho2, hg, ?_, hat⟩
  have hlt := (ho.lt g rfl).2
  rcases hat with hat | hat
  · obtain ⟨Q, d, rfl, _⟩ := own_shape ho2
    have hq := own_byQ ho2
    have hcell : ∀ j u, (cb xs)[j]? = some u → w'.cell? ((⟨g, 0, none⟩ : Addr).add j) = some u := by
      rcases ho2.2 with ⟨hv, _⟩ | ⟨g2, cap2, cur2, hv, _⟩
      · simp only [Value.slice.injEq] at hv
        obtain ⟨rfl, _⟩ := hv
        simp [Value.ownBlock] at hat
      · simp only [Value.slice.injEq] at hv
        obtain ⟨rfl, _, rfl⟩ := hv
        simp only [Value.ownBlock, Option.some.injEq] at hat
        subst hat
        exact hq.front.lie _ rfl
    exact ⟨fun h => (by cases h), fun b hb' => by obtain rfl := Option.some.inj hb'; exact hcell⟩
  · by_cases hroom : xs.length + bs.length ≤ cap
    · rcases ho.2 with ⟨h', _⟩ | ⟨g', cap', cur, h', _, hgg, _, _, hcs, _⟩
      · simp at h'
      · simp only [Value.slice.injEq, Option.some.injEq, Addr.mk.injEq, and_true, true_and] at h'
        obtain ⟨rfl, rfl⟩ := h'
        have hr2 := run_append_room (P := Try.prog) w _ ty _ _ h1 hi g xs.length cap cur hgg a bs.length c (cb bs) (by simp [hs, cb_len]) (hB.lie a rfl) (cb_one bs) hroom (by rw [hs, cb_len]; simp at hcs; omega)
        rw [hr] at hr2
        simp only [Result.ok.injEq] at hr2
        obtain ⟨rfl, _⟩ := hr2
        simp only [Value.ownBlock, Option.some.injEq] at hat
        omega
    · have hr2 := run_append_grow (P := Try.prog) w _ ty _ _ _ h1 hi hz ⟨g, 0, none⟩ xs.length cap (cb xs) (by simp [hs, cb_len]) (ho.cells (g := g) rfl) a bs.length c (cb bs) (by simp [hs, cb_len]) (hB.lie a rfl) (by omega) (by omega) (growslice_fits (by omega) (by rw [hy]; omega))
      rw [hr] at hr2
      simp only [Result.ok.injEq] at hr2
      obtain ⟨_, rfl⟩ := hr2
      exact (own_byQ ho).keep (bl_trans (drew_blW w) (bl_alloc w.drew _))
theorem wpList_app_keep {w : World} {ops : Array Oper} {rest : List Oper} {o : Oper} {a : Act} {Q : Exit → Act → World → Prop} (hgd : o.guard = none) (sl x : Operand)
    (ho : o.op = .call { callee := .builtin .append, args := #[sl, x], argTypes := #[24, 24] })
    (base g cap m : Nat) (xs bs : List UInt8) (hm : m = xs.length) (ad : Addr) (c : Nat) (hs : a.eval sl = .slice (some ⟨g, 0, none⟩) m cap) (hx : a.eval x = .slice (some ad) bs.length c) (hown : w.ownsRow base 5 1 (.slice (some ⟨g, 0, none⟩) m cap) m (cb xs)) (hB : By w (some ad) c bs) (hl : xs.length + bs.length ≤ 2 ^ 47) (hbase : base ≤ w.heap.size)
    (h : ∀ v' w', w'.ownsRow base 5 1 v' (xs ++ bs).length (cb (xs ++ bs)) → w.grownBy w' (some g) → By w' (some ⟨g, 0, none⟩) cap xs → (v'.ownBlock = some g ∨ v'.ownBlock = some w.heap.size) → wpList Try.prog ops Q rest (a.put o.dst v') w') : wpList Try.prog ops Q (o :: rest) a w := by
  subst hm
  refine wpList_plain hgd fun K hK => ?_
  obtain ⟨v', w', hr, h2, h3, h4, h5⟩ := run_app_keep w base o.type g cap xs bs ad c hown hB hl hbase
  unfold Oper.wp execOp
  simp only [ho, resolve, invoke, builtin, Sem.run_bind, Sem.run_pure, Result.andThen_ok, List.map_toArray, List.map_cons, List.map_nil, hs, hx, hr]
  exact hK _ _ (h v' w' h2 h3 h4 h5)
/-- bytes half written over -/
def fl (m : UInt8) (C : List UInt8) (k : Nat) : List UInt8 := List.replicate k m ++ C.drop k
theorem fl_len (m : UInt8) (C : List UInt8) (k : Nat) (h : k ≤ C.length) : (fl m C k).length = C.length := by simp [fl]; omega
theorem fl_zero (m : UInt8) (C : List UInt8) : fl m C 0 = C := by simp [fl]
theorem fl_all (m : UInt8) (C : List UInt8) : fl m C C.length = List.replicate C.length m := by simp [fl]
theorem fl_set (m : UInt8) (C : List UInt8) (k : Nat) (h : k < C.length) : (cb (fl m C k)).set k (.int .u8 (m.toNat : Int)) = cb (fl m C (k + 1)) := by
  refine List.ext_getElem? fun j => ?_
  rw [List.getElem?_set]
  simp only [cb, List.getElem?_map, fl, List.length_map, List.length_append, List.length_replicate, List.length_drop, List.getElem?_append, List.getElem?_replicate, List.getElem?_drop]
  by_cases e : k = j
  · subst e
    simp
    omega
  · rw [if_neg e]
    by_cases h1 : j < k
    · rw [if_pos h1, if_pos (by omega)]
      simp [show j < k + 1 by omega]
    · rw [if_neg h1, if_neg (by omega), show k + (j - k) = k + 1 + (j - (k + 1)) by omega]
theorem own_kept {w w' : World} {base size n g : Nat} {e : TypeId} {v : Value} {xs : List Value} (h : w.ownsRow base e size v n xs) (hg : w.grownBy w' (some g)) (hne : v.ownBlock ≠ some g) : w'.ownsRow base e size v n xs := h.kept hg (.inr hne)
theorem own_less {w : World} {B C s n : Nat} {e : TypeId} {v : Value} {xs : List Value} (h : w.ownsRow B e s v n xs) (hc : C ≤ B) : w.ownsRow C e s v n xs := by
  refine ⟨h.1, ?_⟩
  rcases h.2 with h0 | ⟨g, cap, cur, h1, hB, h3⟩
  · exact .inl h0
  · exact .inr ⟨g, cap, cur, h1, Nat.le_trans hc hB, h3⟩
theorem own_some {w : World} {base n : Nat} {e : TypeId} {v : Value} {xs : List Value} (h : w.ownsRow base e 1 v n xs) (hn : 0 < n) : ∃ g c : Nat, v = .slice (some ⟨g, 0, none⟩) n c ∧ n ≤ c ∧ c ≤ maxLen ∧ base ≤ g ∧ g < w.heap.size := by
  have hl := h.lt
  rcases h.2 with ⟨_, h0⟩ | ⟨g, cap, cur, rfl, _, _, hnc, hcm, _⟩
  · omega
  · exact ⟨g, cap, rfl, hnc, hcm, (hl g rfl).1, (hl g rfl).2⟩
theorem By.blk {w w' : World} {b c : Nat} {bs : List UInt8} (h : By w (some ⟨b, 0, none⟩) c bs) (e : w'.heap[b]? = w.heap[b]?) : By w' (some ⟨b, 0, none⟩) c bs :=
  ⟨h.nil, fun a ha j u hu => by
    have := h.lie a ha j u hu
    obtain rfl := Option.some.inj ha
    rw [← this]
    exact World.cell?_of_block (by rw [show ((⟨b, 0, none⟩ : Addr).add j).block = b by unfold Addr.add; split <;> rfl]; exact e)⟩
theorem By.grown {w w' : World} {b c g : Nat} {bs : List UInt8} (h : By w (some ⟨b, 0, none⟩) c bs) (hg : w.grownBy w' (some g)) (hb : b < w.heap.size) (hne : b ≠ g) : By w' (some ⟨b, 0, none⟩) c bs := h.blk (hg.block b hb (fun e => hne (Option.some.inj e)))
theorem below_set {B : Nat} {w0 w w' : World} {g : Nat} (h : Below B w0 w) (hg : w.grownBy w' (some g)) (hb : B ≤ g) (hs : B ≤ w0.heap.size) : Below B w0 w' := below_trans h (below_grown hg (Nat.le_trans hs h.size) (fun k hk => by obtain rfl := Option.some.inj hk; exact hb))
end Go.Proofs.Ytcecpfcekejblaa
