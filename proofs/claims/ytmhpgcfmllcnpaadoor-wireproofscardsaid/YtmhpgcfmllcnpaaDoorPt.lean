import Derived.Test.YtmhpgcfmllcnpaaDoorPs
namespace Go.Proofs.YtmhpgcfmllcnpaaDoor
open Go.RowKit
set_option linter.unusedVariables false
/-- bytes that are a proof -/
def DOk (l : List UInt8) (k : Nat) : Prop := k ≤ 10 ∧ l.length = 32 * (9 + 2 * k) ∧ ∀ j, j < 9 + 2 * k → dn (ck l j) < Sm.L
theorem Rl.congr {w : World} {b o n : Nat} {f g : Nat → E4} (h : Rl w b o n f) (e : ∀ j, j < n → f j = g j) : Rl w b o n g :=
  ⟨fun k hk => by rw [← e k hk]; exact h.c0 k hk, fun k hk => by rw [← e k hk]; exact h.c1 k hk, fun k hk => by rw [← e k hk]; exact h.c2 k hk, fun k hk => by rw [← e k hk]; exact h.c3 k hk⟩
theorem dec_all (P : Option Addr) (c : Nat) (l : List UInt8) (w : World) (hT : Tb w) (hB : Tr.By w P c l) (hl : l.length ≤ 140737488355328) :
    Calls Tryd.prog 7 #[.slice P l.length c] w fun e w' => ∃ (s : Nat → E4) (P1 : Option Addr) (n1 c1 : Nat) (P2 : Option Addr) (n2 c2 : Nat) (er : Int), e = .returned (.tuple #[.agg (pc s (.slice P1 n1 c1) (.slice P2 n2 c2)).toArray, .int .i64 er]) ∧ Below w.heap.size w w' ∧
      ((er = 0 ∧ ∃ k, DOk l k ∧ n1 = k ∧ n2 = k ∧ s = gs l k ∧ Lm w' P1 k (gl l) ∧ Lm w' P2 k (gr l) ∧ (∀ a, P1 = some a → a.block < w'.heap.size) ∧ (∀ a, P2 = some a → a.block < w'.heap.size)) ∨ (er ≠ 0 ∧ ∀ k, ¬ DOk l k)) := by
  by_cases h : ∃ k : Nat, k ≤ 10 ∧ l.length = 32 * (9 + 2 * k)
  · obtain ⟨k, hk, hlen⟩ := h
    refine (dec_any P c k l w hT hB hk hlen).mono fun e w' ⟨v, er, he, hb, hc⟩ => ?_
    rcases hc with ⟨h0, hg, bL, bR, hv, r1, r2, l1, l2⟩ | ⟨h3, ⟨j, hj, hbad⟩, hv⟩
    · have hs : ∀ j, j < 9 + 2 * k → sv l j = gv l j := by
        rcases ts_inv l _ hlen (9 + 2 * k) (Nat.le_refl _) with ⟨_, _, _, h4⟩ | ⟨_, j, hj, hbad⟩
        · exact h4
        · exact absurd (hg j hj) hbad
      refine ⟨gs l k, some ⟨bL, 0, none⟩, k, k, some ⟨bR, 0, none⟩, k, k, er, ?_, hb, .inl ⟨h0, k, ⟨hk, hlen, hg⟩, rfl, rfl, rfl, ⟨bL, 0, fun _ => rfl, fun _ => r1.congr (fun j hj => ?_)⟩, ⟨bR, 0, fun _ => rfl, fun _ => r2.congr (fun j hj => ?_)⟩, fun a ha => by obtain rfl := Option.some.inj ha; exact l1, fun a ha => by obtain rfl := Option.some.inj ha; exact l2⟩⟩
      · rw [he, hv, pcv_pc, hs 0 (by omega), hs 1 (by omega), hs 2 (by omega), hs 3 (by omega), hs 4 (by omega), hs 5 (by omega), hs 6 (by omega), hs (7 + 2 * k) (by omega), hs (8 + 2 * k) (by omega)]
        have g : ∀ j, j < 7 → gs l k j = gv l j := fun j hj => by unfold gs; rw [if_pos hj]
        have g7 : gs l k 7 = gv l (7 + 2 * k) := by unfold gs; rw [if_neg (by omega)]
        have g8 : gs l k 8 = gv l (8 + 2 * k) := by unfold gs; rw [if_neg (by omega)]
        rw [g 0 (by omega), g 1 (by omega), g 2 (by omega), g 3 (by omega), g 4 (by omega), g 5 (by omega), g 6 (by omega), g7, g8]
      · unfold fL gl; rw [if_pos hj, hs _ (by omega)]
      · unfold fR gr; rw [if_pos hj, hs _ (by omega)]
    · refine ⟨fun _ => zero4, none, 0, 0, none, 0, 0, er, by rw [he, hv, pcv_pc], hb, .inr ⟨by omega, fun k' hk' => ?_⟩⟩
      obtain rfl : k' = k := by have := hk'.2.1; omega
      exact hbad (hk'.2.2 j hj)
  · refine (dec_no P c l w (by omega) (fun k hk he => h ⟨k, hk, he⟩)).mono fun e w' ⟨he, hb⟩ => ?_
    exact ⟨fun _ => zero4, none, 0, 0, none, 0, 0, 2, by rw [he, pcv_pc], hb, .inr ⟨by omega, fun k hk => h ⟨k, hk.1, hk.2.1⟩⟩⟩
theorem gs_ok (l : List UInt8) (k j : Nat) : (gs l k j).ok := by unfold gs; split <;> exact gv_ok _ _
/-- two proofs of bytes, looked at by alike, and the bytes -/
theorem alike_g (b c : List UInt8) (k k' : Nat) (hb : DOk b k) (hc : DOk c k') (P1 P2 P3 P4 : Option Addr) (c1 c2 c3 c4 : Nat) (w : World) (hT : Tb w) (h1 : Lm w P1 k (gl b)) (h2 : Lm w P2 k (gr b)) (h3 : Lm w P3 k' (gl c)) (h4 : Lm w P4 k' (gr c)) :
    Calls Tryd.prog 8 #[.agg (pc (gs b k) (.slice P1 k c1) (.slice P2 k c2)).toArray, .agg (pc (gs c k') (.slice P3 k' c3) (.slice P4 k' c4)).toArray] w fun e w' => e = .returned (.bool (decide (b = c))) ∧ Below w.heap.size w w' := by
  by_cases hk : k = k'
  · subst hk
    refine alike_any (gs b k) (gs c k) (gl b) (gl c) (gr b) (gr c) P1 P2 P3 P4 k c1 c2 c3 c4 w hT hb.1 (fun j _ => gs_ok _ _ _) (fun j _ => gs_ok _ _ _) (fun j _ => gv_ok _ _) (fun j _ => gv_ok _ _) (fun j _ => gv_ok _ _) (fun j _ => gv_ok _ _) h1 h2 h3 h4 _ ?_
    rw [decide_eq_true_iff, all_st]
    exact same_bytes b c k hb.2.1 hc.2.1 hb.2.2 hc.2.2
  · have hne : decide (b = c) = false := decide_eq_false (fun e => hk (by subst e; have := hb.2.1; have := hc.2.1; omega))
    rw [hne]
    exact alike_len (gs b k) (gs c k') P1 P3 k k' c1 c3 _ _ w hk
end Go.Proofs.YtmhpgcfmllcnpaaDoor
