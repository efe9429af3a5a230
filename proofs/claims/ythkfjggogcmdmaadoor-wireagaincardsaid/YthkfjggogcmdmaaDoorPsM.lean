import Derived.Test.YthkfjggogcmdmaaDoorPrM
namespace Go.Proofs.YthkfjggogcmdmaaDoor
open Go.RowKit
set_option linter.unusedVariables false
/-- the thing in place j of a proof of k rounds -/
def st (k : Nat) (s l r : Nat → E4) (j : Nat) : E4 := if j < 7 then s j else if j < 7 + 2 * k then (if (j - 7) % 2 = 0 then l ((j - 7) / 2) else r ((j - 7) / 2)) else s (j - 2 * k)
theorem ef_congr {n : Nat} {f g : Nat → E4} (h : ∀ j, j < n → eb (f j).n = eb (g j).n) : ef n f = ef n g := by
  induction n with
  | zero => rfl
  | succ n ih => rw [ef_succ, ef_succ, ih (fun j hj => h j (by omega)), h n (by omega)]
theorem ef_rb (k : Nat) (l r g : Nat → E4) (hl : ∀ i, i < k → g (2 * i) = l i) (hr : ∀ i, i < k → g (2 * i + 1) = r i) : ef (2 * k) g = rb k l r := by
  induction k with
  | zero => rfl
  | succ k ih =>
    rw [show 2 * (k + 1) = 2 * k + 1 + 1 by omega, ef_succ, ef_succ, ih (fun i hi => hl i (by omega)) (fun i hi => hr i (by omega)), rb_succ, hl k (by omega), hr k (by omega), List.append_assoc]
theorem pe_ef (k : Nat) (s l r : Nat → E4) : pe k s l r = ef (9 + 2 * k) (st k s l r) := by
  have h1 : ef 7 (st k s l r) = ef 7 s := ef_congr (fun j hj => by unfold st; rw [if_pos hj])
  have h2 : ef (2 * k) (fun j => st k s l r (7 + j)) = rb k l r := by
    refine ef_rb k l r _ (fun i hi => ?_) (fun i hi => ?_)
    · unfold st
      rw [if_neg (by omega), if_pos (by omega), if_pos (by omega), show (7 + 2 * i - 7) / 2 = i by omega]
    · unfold st
      rw [if_neg (by omega), if_pos (by omega), if_neg (by omega), show (7 + (2 * i + 1) - 7) / 2 = i by omega]
  have h3 : ef 2 (fun j => st k s l r (7 + 2 * k + j)) = eb (s 7).n ++ eb (s 8).n := by
    have a : st k s l r (7 + 2 * k + 0) = s 7 := by unfold st; rw [if_neg (by omega), if_neg (by omega), show 7 + 2 * k + 0 - 2 * k = 7 by omega]
    have b : st k s l r (7 + 2 * k + 1) = s 8 := by unfold st; rw [if_neg (by omega), if_neg (by omega), show 7 + 2 * k + 1 - 2 * k = 8 by omega]
    rw [ef_succ, ef_succ, ef_zero, List.nil_append, a, b]
  rw [show 9 + 2 * k = 7 + 2 * k + 2 by omega, ef_add, ef_add, h1, h2, h3]
  rfl
theorem ck_ef (m : Nat) (g : Nat → E4) (j : Nat) (hj : j < m) : ck (ef m g) j = eb (g j).n := by
  have h := ef_add j (m - j) g
  rw [show j + (m - j) = m by omega] at h
  have h2 := ef_add 1 (m - j - 1) (fun k => g (j + k))
  rw [show 1 + (m - j - 1) = m - j by omega] at h2
  unfold ck
  rw [h, h2, show ef 1 (fun k => g (j + k)) = eb (g j).n from by rw [ef_succ, ef_zero]; rfl]
  rw [List.drop_left' (by rw [ef_len]), List.take_left' (by rw [eb_len])]
/-- what the bytes stand for -/
def gv (b : List UInt8) (j : Nat) : E4 := lst (dn (ck b j))
theorem eb_lst (n : Int) : eb (lst n).n = eb n := eb_congr (by rw [lst_n, emod_emod_L])
theorem ck_succ {b : List UInt8} {m j : Nat} (hl : b.length = 32 * m) (hj : j < m) : b.drop (32 * j) = ck b j ++ b.drop (32 * (j + 1)) := by
  unfold ck
  rw [show 32 * (j + 1) = 32 * j + 32 by omega, ← List.drop_drop, List.take_append_drop]
theorem ef_gv_aux (b : List UInt8) (m : Nat) (hl : b.length = 32 * m) (hg : ∀ j, j < m → dn (ck b j) < Sm.L) : ∀ i, i ≤ m → ef i (gv b) ++ b.drop (32 * i) = b
  | 0, _ => by rw [ef_zero]; rfl
  | i + 1, hi => by
    have ih := ef_gv_aux b m hl hg i (by omega)
    rw [ck_succ hl (by omega : i < m)] at ih
    rw [ef_succ, List.append_assoc, show eb (gv b i).n = ck b i from by unfold gv; rw [eb_lst, eb_dn (ck_len hl (by omega)) (hg i (by omega))]]
    exact ih
theorem ef_gv (b : List UInt8) (m : Nat) (hl : b.length = 32 * m) (hg : ∀ j, j < m → dn (ck b j) < Sm.L) : ef m (gv b) = b := by
  have := ef_gv_aux b m hl hg m (Nat.le_refl _)
  rwa [← hl, List.drop_length, List.append_nil] at this
/-- the parts of a proof of bytes -/
def gs (b : List UInt8) (k j : Nat) : E4 := if j < 7 then gv b j else gv b (j + 2 * k)
def gl (b : List UInt8) (j : Nat) : E4 := gv b (7 + 2 * j)
def gr (b : List UInt8) (j : Nat) : E4 := gv b (8 + 2 * j)
theorem st_g (b : List UInt8) (k j : Nat) (hj : j < 9 + 2 * k) : st k (gs b k) (gl b) (gr b) j = gv b j := by
  unfold st gs gl gr
  by_cases h : j < 7
  · rw [if_pos h, if_pos h]
  · rw [if_neg h]
    by_cases h2 : j < 7 + 2 * k
    · rw [if_pos h2]
      by_cases h3 : (j - 7) % 2 = 0
      · rw [if_pos h3, show 7 + 2 * ((j - 7) / 2) = j by omega]
      · rw [if_neg h3, show 8 + 2 * ((j - 7) / 2) = j by omega]
    · rw [if_neg h2, if_neg (by omega), show j - 2 * k + 2 * k = j by omega]
theorem pe_g (b : List UInt8) (k : Nat) (hl : b.length = 32 * (9 + 2 * k)) (hg : ∀ j, j < 9 + 2 * k → dn (ck b j) < Sm.L) : pe k (gs b k) (gl b) (gr b) = b := by
  rw [pe_ef, ef_congr (g := gv b) (fun j hj => by rw [st_g b k j hj])]
  exact ef_gv b _ hl hg
/-- places of parts -/
theorem all_st {k : Nat} {s l r s' l' r' : Nat → E4} : ((∀ j, j < 9 → lst (s j).n = lst (s' j).n) ∧ (∀ j, j < k → lst (l j).n = lst (l' j).n) ∧ ∀ j, j < k → lst (r j).n = lst (r' j).n) ↔ ∀ j, j < 9 + 2 * k → lst (st k s l r j).n = lst (st k s' l' r' j).n := by
  constructor
  · rintro ⟨h1, h2, h3⟩ j hj
    unfold st
    by_cases a : j < 7
    · rw [if_pos a, if_pos a]; exact h1 j (by omega)
    · rw [if_neg a, if_neg a]
      by_cases b : j < 7 + 2 * k
      · rw [if_pos b, if_pos b]
        by_cases c : (j - 7) % 2 = 0
        · rw [if_pos c, if_pos c]; exact h2 _ (by omega)
        · rw [if_neg c, if_neg c]; exact h3 _ (by omega)
      · rw [if_neg b, if_neg b]; exact h1 _ (by omega)
  · intro h
    refine ⟨fun j hj => ?_, fun j hj => ?_, fun j hj => ?_⟩
    · by_cases a : j < 7
      · have := h j (by omega)
        unfold st at this
        rwa [if_pos a, if_pos a] at this
      · have := h (j + 2 * k) (by omega)
        unfold st at this
        rwa [if_neg (by omega), if_neg (by omega), if_neg (by omega), if_neg (by omega), show j + 2 * k - 2 * k = j by omega] at this
    · have := h (7 + 2 * j) (by omega)
      unfold st at this
      rwa [if_neg (by omega), if_pos (by omega), if_pos (by omega), if_neg (by omega), if_pos (by omega), if_pos (by omega), show (7 + 2 * j - 7) / 2 = j by omega] at this
    · have := h (8 + 2 * j) (by omega)
      unfold st at this
      rwa [if_neg (by omega), if_pos (by omega), if_neg (by omega), if_neg (by omega), if_pos (by omega), if_neg (by omega), show (8 + 2 * j - 7) / 2 = j by omega] at this
theorem gv_lst (b : List UInt8) (j : Nat) : lst (gv b j).n = gv b j := by unfold gv; exact lst_n' _
theorem gv_ok (b : List UInt8) (j : Nat) : (gv b j).ok := lst_ok _
/-- what is written is read back -/
theorem back_st (k : Nat) (s l r : Nat → E4) (j : Nat) (hj : j < 9 + 2 * k) : dn (ck (pe k s l r) j) < Sm.L ∧ gv (pe k s l r) j = lst (st k s l r j).n := by
  unfold gv
  rw [pe_ef, ck_ef _ _ _ hj, dn_eb]
  exact ⟨(mod_bd _).2, lst_congr (emod_emod_L _)⟩
/-- unlike bytes are unlike proofs -/
theorem same_bytes (b c : List UInt8) (k : Nat) (hb : b.length = 32 * (9 + 2 * k)) (hc : c.length = 32 * (9 + 2 * k)) (gb : ∀ j, j < 9 + 2 * k → dn (ck b j) < Sm.L) (gc : ∀ j, j < 9 + 2 * k → dn (ck c j) < Sm.L) :
    b = c ↔ ∀ j, j < 9 + 2 * k → lst (st k (gs b k) (gl b) (gr b) j).n = lst (st k (gs c k) (gl c) (gr c) j).n := by
  constructor
  · rintro rfl; intro j hj; rfl
  · intro h
    rw [← ef_gv b _ hb gb, ← ef_gv c _ hc gc]
    exact ef_congr (fun j hj => by
      have := h j hj
      rw [st_g b k j hj, st_g c k j hj, gv_lst, gv_lst] at this
      rw [this])
end Go.Proofs.YthkfjggogcmdmaaDoor
namespace Go.Proofs.YthkfjggogcmdmaaDoor
open Go.RowKit
set_option linter.unusedVariables false
/-- bytes that are a proof -/
def DOk (l : List UInt8) (k : Nat) : Prop := k ≤ 10 ∧ l.length = 32 * (9 + 2 * k) ∧ ∀ j, j < 9 + 2 * k → dn (ck l j) < Sm.L
theorem Rl.congr {w : World} {b o n : Nat} {f g : Nat → E4} (h : Rl w b o n f) (e : ∀ j, j < n → f j = g j) : Rl w b o n g :=
  ⟨fun k hk => by rw [← e k hk]; exact h.c0 k hk, fun k hk => by rw [← e k hk]; exact h.c1 k hk, fun k hk => by rw [← e k hk]; exact h.c2 k hk, fun k hk => by rw [← e k hk]; exact h.c3 k hk⟩
theorem dec_all (P : Option Addr) (c : Nat) (l : List UInt8) (w : World) (hT : Tb w) (hB : Tr.By w P c l) (hl : l.length ≤ 140737488355328) :
    Calls Tryd.prog 5 #[.slice P l.length c] w fun e w' => ∃ (s : Nat → E4) (P1 : Option Addr) (n1 c1 : Nat) (P2 : Option Addr) (n2 c2 : Nat) (er : Int), e = .returned (.tuple #[.agg (pc s (.slice P1 n1 c1) (.slice P2 n2 c2)).toArray, .int .i64 er]) ∧ Below w.heap.size w w' ∧
      ((er = 0 ∧ ∃ k, DOk l k ∧ n1 = k ∧ n2 = k ∧ s = gs l k ∧ Lm w' P1 k (gl l) ∧ Lm w' P2 k (gr l) ∧ (∀ a, P1 = some a → a.block < w'.heap.size) ∧ (∀ a, P2 = some a → a.block < w'.heap.size)) ∨ (er ≠ 0 ∧ ∀ k, ¬ DOk l k)) := by
  by_cases h : ∃ k : Nat, k ≤ 10 ∧ l.length = 32 * (9 + 2 * k)
  · obtain ⟨k, hk, hlen⟩ := h
    refine (dec_any P c k l w hT hB hk hlen).mono fun e w' ⟨v, er, he, hb, hc⟩ => ?_
    rcases hc with ⟨h0, hg, bL, bR, hv, r1, r2, l1, l2⟩ | ⟨h3, ⟨j, hj, hbad⟩, hv⟩
    · have hs : ∀ j, j < 9 + 2 * k → sv l j = gv l j := by
        rcases ts_inv l _ hlen (9 + 2 * k) (Nat.le_refl _) with ⟨_, _, _, h4⟩ | ⟨_, j, hj, hbad⟩
        · exact h4
        · exact absurd (hg j hj) hbad
      refine ⟨gs l k, some ⟨bL, 0, none⟩, k, k, some ⟨bR, 0, none⟩, k, k, er, ?_, hb, .inl ⟨h0, k, ⟨hk, hlen, hg⟩, rfl, rfl, rfl, ⟨bL, 0, fun _ => rfl, fun _ => r1.congr (fun j hj => ?_)⟩, ⟨bR, 0, fun _ => rfl, fun _ => r2.congr (fun j hj => ?_)⟩, fun a ha => by obtain rfl := Option.some.inj ha; exact l1, fun a ha => by obtain rfl := Option.some.inj ha; exact l2⟩⟩
      · rw [he, hv, pcv_pc, hs 0 (by omega), hs 1 (by omega), hs 2 (by omega), hs 3 (by omega), hs 4 (by omega), hs 5 (by omega), hs 6 (by omega), hs (7 + 2 * k) (by omega), hs (8 + 2 * k) (by omega)]
        have g : ∀ j, j < 7 → gs l k j = gv l j := fun j hj => by unfold gs; rw [if_pos hj]
        have g7 : gs l k 7 = gv l (7 + 2 * k) := by unfold gs; rw [if_neg (by omega)]
        have g8 : gs l k 8 = gv l (8 + 2 * k) := by unfold gs; rw [if_neg (by omega)]
        rw [g 0 (by omega), g 1 (by omega), g 2 (by omega), g 3 (by omega), g 4 (by omega), g 5 (by omega), g 6 (by omega), g7, g8]
      · unfold fL gl; rw [if_pos hj, hs _ (by omega)]
      · unfold fR gr; rw [if_pos hj, hs _ (by omega)]
    · refine ⟨fun _ => zero4, none, 0, 0, none, 0, 0, er, by rw [he, hv, pcv_pc], hb, .inr ⟨by omega, fun k' hk' => ?_⟩⟩
      obtain rfl : k' = k := by have := hk'.2.1; omega
      exact hbad (hk'.2.2 j hj)
  · refine (dec_no P c l w (by omega) (fun k hk he => h ⟨k, hk, he⟩)).mono fun e w' ⟨he, hb⟩ => ?_
    exact ⟨fun _ => zero4, none, 0, 0, none, 0, 0, 2, by rw [he, pcv_pc], hb, .inr ⟨by omega, fun k hk => h ⟨k, hk.1, hk.2.1⟩⟩⟩
theorem gs_ok (l : List UInt8) (k j : Nat) : (gs l k j).ok := by unfold gs; split <;> exact gv_ok _ _
end Go.Proofs.YthkfjggogcmdmaaDoor
