import Derived.Test.YtgdbcmhkepkaeaaProg
import Derived.WalkKit
import Derived.WalkSpells
import Derived.WalkLawsBesides
import Derived.Laws.Bits64b
import Derived.Laws.BitsAllLaws
import Derived.Deep.DeepCutAuto
import Derived.Deep.DeepMust
import Derived.Deep.RegionHeld3
import Derived.Deep.RegionLaw
namespace Go.Proofs.Ytgdbcmhkepkaeaa
open Go.RowKit
set_option linter.unusedVariables false
theorem hidden {p : Prop} (h : p) : Hid p := h
theorem bl_trans {w w1 w2 : World} (h1 : Below w.heap.size w w1) (h2 : Below w1.heap.size w1 w2) : Below w.heap.size w w2 := h1.trans (h2.mono h1.size)
theorem bl_alloc (w : World) (o : Obj) : Below w.heap.size w (w.alloc o) := (Below.refl _ _).alloc (Nat.le_refl _) _
theorem cell_keep {w w' : World} {a : Addr} {v : Value} (h : w.cell? a = some v) (hb : Below w.heap.size w w') : w'.cell? a = some v := by
  rw [hb.cell (p := a) (World.block_lt_of_cell? w a h)]; exact h
/-- may there be such proofs? -/
noncomputable def al (b c : Int) : Bool := decide (1 ≤ b ∧ b ≤ 64 ∧ bits .and .i64 b (b - 1) = 0 ∧ 1 ≤ c ∧ c ≤ 16 ∧ bits .and .i64 c (c - 1) = 0)
theorem al_in {b c : Int} (h : al b c = true) : ∃ B C : Nat, b = B ∧ c = C ∧ 1 ≤ B ∧ B ≤ 64 ∧ 1 ≤ C ∧ C ≤ 16 := by
  have := of_decide_eq_true h
  exact ⟨b.toNat, c.toNat, by omega, by omega, by omega, by omega, by omega, by omega⟩
set_option maxRecDepth 100000 in
set_option maxHeartbeats 4000000 in
theorem Allowed_any (b c : Int) (w : World) : Calls Try.prog 6 #[.agg #[.int .i64 b, .int .i64 c]] w fun e w' => e = .returned (.bool (al b c)) ∧ Below w.heap.size w w' := by
  have B0 := hidden (bl_alloc w (.cells #[.int .i64 b, .int .i64 c] 23))
  obtain ⟨A, hA⟩ : ∃ A, al b c = A := ⟨_, rfl⟩
  have HA := hidden hA
  rw [hA]
  clear hA
  by_cases h1 : 1 ≤ b
  · by_cases h2 : b ≤ 64
    · have wb : IntKind.i64.wrap (b - 1) = b - 1 := IntWalk.i64_in _ (by omega)
      obtain ⟨x, hx⟩ : ∃ x, bits .and .i64 b (b - 1) = x := ⟨_, rfl⟩
      by_cases h3 : x = 0
      · by_cases h4 : 1 ≤ c
        · by_cases h5 : c ≤ 16
          · have wc : IntKind.i64.wrap (c - 1) = c - 1 := IntWalk.i64_in _ (by omega)
            obtain ⟨y, hy⟩ : ∃ y, bits .and .i64 c (c - 1) = y := ⟨_, rfl⟩
            by_cases h6 : y = 0
            · have e : A = true := by
                rw [← HA.out]; unfold al
                exact decide_eq_true ⟨by omega, by omega, by rw [hx]; exact h3, by omega, by omega, by rw [hy]; exact h6⟩
              subst e
              clear HA
              go_enter Try.func6, Try.ntmps6
              go_wp2_with fail
              refine bodyPost_ret (v := .bool true) (by simp [results, Try.results6, go_sem] <;> assumption) rfl ⟨rfl, B0.out⟩
            · have e : A = false := by
                rw [← HA.out]; unfold al
                refine decide_eq_false ?_; rintro ⟨k1, k2, k3, k4, k5, k6⟩; first | omega | (rw [hx] at k3; omega) | (rw [hy] at k6; omega)
              subst e
              clear HA
              go_enter Try.func6, Try.ntmps6
              go_wp2_with fail
              refine bodyPost_ret (v := .bool false) (by simp [results, Try.results6, go_sem] <;> assumption) rfl ⟨rfl, B0.out⟩
          · have e : A = false := by
              rw [← HA.out]; unfold al
              refine decide_eq_false ?_; rintro ⟨k1, k2, k3, k4, k5, k6⟩; first | omega | (rw [hx] at k3; omega) | (rw [hy] at k6; omega)
            subst e
            clear HA
            go_enter Try.func6, Try.ntmps6
            go_wp2_with fail
            refine bodyPost_ret (v := .bool false) (by simp [results, Try.results6, go_sem] <;> assumption) rfl ⟨rfl, B0.out⟩
        · have e : A = false := by
            rw [← HA.out]; unfold al
            refine decide_eq_false ?_; rintro ⟨k1, k2, k3, k4, k5, k6⟩; first | omega | (rw [hx] at k3; omega) | (rw [hy] at k6; omega)
          subst e
          clear HA
          go_enter Try.func6, Try.ntmps6
          go_wp2_with fail
          refine bodyPost_ret (v := .bool false) (by simp [results, Try.results6, go_sem] <;> assumption) rfl ⟨rfl, B0.out⟩
      · have e : A = false := by
          rw [← HA.out]; unfold al
          refine decide_eq_false ?_; rintro ⟨k1, k2, k3, k4, k5, k6⟩; first | omega | (rw [hx] at k3; omega) | (rw [hy] at k6; omega)
        subst e
        clear HA
        go_enter Try.func6, Try.ntmps6
        go_wp2_with fail
        refine bodyPost_ret (v := .bool false) (by simp [results, Try.results6, go_sem] <;> assumption) rfl ⟨rfl, B0.out⟩
    · have e : A = false := by
        rw [← HA.out]; unfold al
        refine decide_eq_false ?_; rintro ⟨k1, k2, k3, k4, k5, k6⟩; first | omega | (rw [hx] at k3; omega) | (rw [hy] at k6; omega)
      subst e
      clear HA
      go_enter Try.func6, Try.ntmps6
      go_wp2_with fail
      refine bodyPost_ret (v := .bool false) (by simp [results, Try.results6, go_sem] <;> assumption) rfl ⟨rfl, B0.out⟩
  · have e : A = false := by
      rw [← HA.out]; unfold al
      refine decide_eq_false ?_; rintro ⟨k1, k2, k3, k4, k5, k6⟩; first | omega | (rw [hx] at k3; omega) | (rw [hy] at k6; omega)
    subst e
    clear HA
    go_enter Try.func6, Try.ntmps6
    go_wp2_with fail
    refine bodyPost_ret (v := .bool false) (by simp [results, Try.results6, go_sem] <;> assumption) rfl ⟨rfl, B0.out⟩
set_option maxRecDepth 100000 in
set_option maxHeartbeats 4000000 in
theorem Size_any (B C n : Nat) (hn : B * C = n) (hB : B ≤ 64) (hC : C ≤ 16) (w : World) : Calls Try.prog 7 #[.agg #[.int .i64 B, .int .i64 C]] w fun e w' => e = .returned (.int .i64 n) ∧ Below w.heap.size w w' := by
  have B0 := hidden (bl_alloc w (.cells #[.int .i64 B, .int .i64 C] 23))
  have hle : B * C ≤ 64 * 16 := Nat.mul_le_mul hB hC
  have hw : IntKind.i64.wrap ((B : Int) * (C : Int)) = (n : Int) := by
    rw [← Int.natCast_mul, hn]; exact IntWalk.i64_in _ (by omega)
  clear hn hle
  go_enter Try.func7, Try.ntmps7
  go_wp2_with fail
  refine bodyPost_ret (v := .int .i64 n) (by simp [results, Try.results7, go_sem]) rfl ⟨rfl, B0.out⟩
/-- the rounds of so many places -/
def rd (n : Nat) : Nat := if n ≤ 1 then 0 else if n ≤ 2 then 1 else if n ≤ 4 then 2 else if n ≤ 8 then 3 else if n ≤ 16 then 4 else if n ≤ 32 then 5 else if n ≤ 64 then 6 else if n ≤ 128 then 7 else if n ≤ 256 then 8 else if n ≤ 512 then 9 else 10
theorem rd_le (n : Nat) : rd n ≤ 10 := by
  unfold rd
  (repeat' split)
  all_goals omega
theorem rd_is (n k : Nat) (hk : k ≤ 10) (h1 : k = 0 ∨ 2 ^ (k - 1) < n) (h2 : n ≤ 2 ^ k) : rd n = k := by
  obtain rfl | rfl | rfl | rfl | rfl | rfl | rfl | rfl | rfl | rfl | rfl : k = 0 ∨ k = 1 ∨ k = 2 ∨ k = 3 ∨ k = 4 ∨ k = 5 ∨ k = 6 ∨ k = 7 ∨ k = 8 ∨ k = 9 ∨ k = 10 := by omega
  all_goals
    simp at h1 h2
    unfold rd
    (repeat' split)
    all_goals omega

/-- Params in a block -/
structure Pb (w : World) (b : Nat) (B C : Int) : Prop where
  c0 : w.cell? ⟨b, 0, none⟩ = some (.int .i64 B)
  c1 : w.cell? ⟨b, 1, none⟩ = some (.int .i64 C)
theorem Pb.keep {w w' : World} {b : Nat} {B C : Int} (h : Pb w b B C) (hb : Below w.heap.size w w') : Pb w' b B C := ⟨cell_keep h.c0 hb, cell_keep h.c1 hb⟩
theorem Pb.new (w : World) (B C : Int) (t : TypeId) : Pb (w.alloc (.cells #[.int .i64 B, .int .i64 C] t)) w.heap.size B C := ⟨by go_simp, by go_simp⟩
theorem Pb.lt {w : World} {b : Nat} {B C : Int} (h : Pb w b B C) : b < w.heap.size := World.block_lt_of_cell? w ⟨b, 0, none⟩ h.c0
theorem Pb.drew {w : World} {b : Nat} {B C : Int} (h : Pb w b B C) : Pb w.drew b B C := h.keep (Below.drew (Below.refl _ _))
theorem bl_drew (w : World) : Below w.heap.size w w.drew := Below.drew (Below.refl _ _)
set_option maxRecDepth 100000 in
set_option maxHeartbeats 4000000 in
theorem Rounds_any (B C n : Nat) (hn : B * C = n) (hB : B ≤ 64) (hC : C ≤ 16) (w : World) : Calls Try.prog 9 #[.agg #[.int .i64 B, .int .i64 C]] w fun e w' => e = .returned (.int .i64 (rd n)) ∧ Below w.heap.size w w' := by
  have B0 := hidden (bl_alloc w (.cells #[.int .i64 B, .int .i64 C] 23))
  have P0 := hidden (Pb.new w B C 23)
  have SZ := hidden (fun w => Size_any B C n hn hB hC w)
  have hle : B * C ≤ 64 * 16 := Nat.mul_le_mul hB hC
  have hN : Hid (n ≤ 1024) := hidden (by omega)
  clear hn hB hC hle
  go_enter Try.func9, Try.ntmps9
  go_wp2_with fail
  generalize w.alloc (.cells #[.int .i64 B, .int .i64 C] 23) = w1 at *
  go_loopw [3] (fun kv w' => ∃ k : Nat, kv = .int .i64 k ∧ Hid (k ≤ 10) ∧ Hid (k = 0 ∨ 2 ^ (k - 1) < n) ∧ Hid (Pb w' w.heap.size B C) ∧ Hid (Below w.heap.size w w')) (fun k _ => 11 - (intOf k).toNat)
  case atStart => exact ⟨0, rfl, hidden (by omega), hidden (.inl rfl), P0, B0⟩
  case round =>
    clear B0 P0
    obtain ⟨k, rfl, hk, hl, hP, hb0⟩ := hrel
    have DP := hidden hP.out.drew
    have x0 := DP.out.c0
    have x1 := DP.out.c1
    have NB := hidden (bl_trans hb0.out (bl_drew wr))
    have hkk := hk.out
    have mk : min k 64 = k := by omega
    obtain ⟨q, hq⟩ : ∃ q : Nat, 2 ^ k = q := ⟨_, rfl⟩
    have hq1 : q ≤ 1024 := by rw [← hq]; exact Nat.pow_le_pow_right (by omega) (by omega : k ≤ 10)
    have HQ := hidden hq
    have e0 : IntKind.i64.wrap ((2 : Int) ^ min k 64) = (q : Int) := by
      rw [mk, show ((2 : Int) ^ k) = ((2 ^ k : Nat) : Int) by simp, hq]; exact IntWalk.i64_in _ (by omega)
    have w9 : IntKind.i64.wrap ((k : Int) + 1) = (k : Int) + 1 := IntWalk.i64_in _ (by omega)
    clear mk hq1 hq
    by_cases hlt : q < n
    · have hlt' : (q : Int) < (n : Int) := by omega
      have hk9 : Hid (k ≤ 9) := hidden (by
        have h1 := hN.out; have h2 := HQ.out
        by_cases h10 : k = 10
        · subst h10; omega
        · omega)
      clear hkk hlt
      go_upto_region 2 with fail
      go_region_with (first | (go_at_call 7; refine (SZ.out _).mono ?_; rintro e wa ⟨rfl, hb⟩; have HB := hidden (bl_trans NB.out hb); have HP := hidden (DP.out.keep hb); clear hb))
      all_goals
        go_wp2_with fail
        go_roundw
        case rel => exact ⟨k + 1, by simp, hidden (by have := hk9.out; omega), hidden (.inr (by rw [Nat.add_sub_cancel, HQ.out]; omega)), HP, HB⟩
        case measure => have := hk9.out; simp [intOf]; omega
    · have hlt' : ¬ (q : Int) < (n : Int) := by omega
      have E : Hid (rd n = k) := hidden (rd_is n k hkk hl.out (by rw [HQ.out]; omega))
      clear hkk hlt
      go_upto_region 2 with fail
      go_region_with (first | (go_at_call 7; refine (SZ.out _).mono ?_; rintro e wa ⟨rfl, hb⟩; have HB := hidden (bl_trans NB.out hb); clear hb))
      all_goals
        go_wp2_with fail
        refine bodyPost_ret (v := .int .i64 k) (by simp [results, Try.results9, go_sem]) rfl ⟨by rw [E.out], HB.out⟩
end Go.Proofs.Ytgdbcmhkepkaeaa
