import Derived.Test.YtpblcnefihhhoaaDoorSop
import Derived.Laws.Bits64b
import Derived.Laws.BitsAllLaws
import Derived.Test.YtpblcnefihhhoaaDoorStr
import Derived.Lib.SliceRun
import Derived.OwnWalkIn
import Derived.Deep.MidRow
import Derived.Deep.RegionHeld3
namespace Go.Proofs.YtpblcnefihhhoaaDoor
open Go.RowKit
set_option linter.unusedVariables false
/-- may there be such proofs? -/
noncomputable def al (b c : Int) : Bool := decide (1 ≤ b ∧ b ≤ 64 ∧ bits .and .i64 b (b - 1) = 0 ∧ 1 ≤ c ∧ c ≤ 16 ∧ bits .and .i64 c (c - 1) = 0)
theorem al_in {b c : Int} (h : al b c = true) : ∃ B C : Nat, b = B ∧ c = C ∧ 1 ≤ B ∧ B ≤ 64 ∧ 1 ≤ C ∧ C ≤ 16 := by
  have := of_decide_eq_true h
  exact ⟨b.toNat, c.toNat, by omega, by omega, by omega, by omega, by omega, by omega⟩
set_option maxRecDepth 100000 in
set_option maxHeartbeats 4000000 in
theorem Allowed_any (b c : Int) (w : World) : Calls Tryd.prog 11 #[.agg #[.int .i64 b, .int .i64 c]] w fun e w' => e = .returned (.bool (al b c)) ∧ Below w.heap.size w w' := by
  have B0 := hidden (bl_alloc w (.cells #[.int .i64 b, .int .i64 c] 23))
  obtain ⟨A, hA⟩ : ∃ A, al b c = A := ⟨_, rfl⟩
  have HA := hidden hA
  rw [hA]
  clear hA
  by_cases h1 : 1 ≤ b
  · by_cases h2 : b ≤ 64
    · have wb : IntKind.i64.wrap (b - 1) = b - 1 := IntWalk.i64_in _ (by omega)
      obtain ⟨x, hx⟩ : ∃ x, bits .and .i64 b (b - 1) = x := ⟨_, rfl⟩
      by_cases h3 : x = 0
      · by_cases h4 : 1 ≤ c
        · by_cases h5 : c ≤ 16
          · have wc : IntKind.i64.wrap (c - 1) = c - 1 := IntWalk.i64_in _ (by omega)
            obtain ⟨y, hy⟩ : ∃ y, bits .and .i64 c (c - 1) = y := ⟨_, rfl⟩
            by_cases h6 : y = 0
            · have e : A = true := by
                rw [← HA.out]; unfold al
                exact decide_eq_true ⟨by omega, by omega, by rw [hx]; exact h3, by omega, by omega, by rw [hy]; exact h6⟩
              subst e
              clear HA
              go_enter Tryd.func11, Tryd.ntmps11
              go_wp2_with fail
              refine bodyPost_ret (v := .bool true) (by simp [results, Tryd.results11, go_sem] <;> assumption) rfl ⟨rfl, B0.out⟩
            · have e : A = false := by
                rw [← HA.out]; unfold al
                refine decide_eq_false ?_; rintro ⟨k1, k2, k3, k4, k5, k6⟩; first | omega | (rw [hx] at k3; omega) | (rw [hy] at k6; omega)
              subst e
              clear HA
              go_enter Tryd.func11, Tryd.ntmps11
              go_wp2_with fail
              refine bodyPost_ret (v := .bool false) (by simp [results, Tryd.results11, go_sem] <;> assumption) rfl ⟨rfl, B0.out⟩
          · have e : A = false := by
              rw [← HA.out]; unfold al
              refine decide_eq_false ?_; rintro ⟨k1, k2, k3, k4, k5, k6⟩; first | omega | (rw [hx] at k3; omega) | (rw [hy] at k6; omega)
            subst e
            clear HA
            go_enter Tryd.func11, Tryd.ntmps11
            go_wp2_with fail
            refine bodyPost_ret (v := .bool false) (by simp [results, Tryd.results11, go_sem] <;> assumption) rfl ⟨rfl, B0.out⟩
        · have e : A = false := by
            rw [← HA.out]; unfold al
            refine decide_eq_false ?_; rintro ⟨k1, k2, k3, k4, k5, k6⟩; first | omega | (rw [hx] at k3; omega) | (rw [hy] at k6; omega)
          subst e
          clear HA
          go_enter Tryd.func11, Tryd.ntmps11
          go_wp2_with fail
          refine bodyPost_ret (v := .bool false) (by simp [results, Tryd.results11, go_sem] <;> assumption) rfl ⟨rfl, B0.out⟩
      · have e : A = false := by
          rw [← HA.out]; unfold al
          refine decide_eq_false ?_; rintro ⟨k1, k2, k3, k4, k5, k6⟩; first | omega | (rw [hx] at k3; omega) | (rw [hy] at k6; omega)
        subst e
        clear HA
        go_enter Tryd.func11, Tryd.ntmps11
        go_wp2_with fail
        refine bodyPost_ret (v := .bool false) (by simp [results, Tryd.results11, go_sem] <;> assumption) rfl ⟨rfl, B0.out⟩
    · have e : A = false := by
        rw [← HA.out]; unfold al
        refine decide_eq_false ?_; rintro ⟨k1, k2, k3, k4, k5, k6⟩; first | omega | (rw [hx] at k3; omega) | (rw [hy] at k6; omega)
      subst e
      clear HA
      go_enter Tryd.func11, Tryd.ntmps11
      go_wp2_with fail
      refine bodyPost_ret (v := .bool false) (by simp [results, Tryd.results11, go_sem] <;> assumption) rfl ⟨rfl, B0.out⟩
  · have e : A = false := by
      rw [← HA.out]; unfold al
      refine decide_eq_false ?_; rintro ⟨k1, k2, k3, k4, k5, k6⟩; first | omega | (rw [hx] at k3; omega) | (rw [hy] at k6; omega)
    subst e
    clear HA
    go_enter Tryd.func11, Tryd.ntmps11
    go_wp2_with fail
    refine bodyPost_ret (v := .bool false) (by simp [results, Tryd.results11, go_sem] <;> assumption) rfl ⟨rfl, B0.out⟩
set_option maxRecDepth 100000 in
set_option maxHeartbeats 4000000 in
theorem Size_any (B C n : Nat) (hn : B * C = n) (hB : B ≤ 64) (hC : C ≤ 16) (w : World) : Calls Tryd.prog 14 #[.agg #[.int .i64 B, .int .i64 C]] w fun e w' => e = .returned (.int .i64 n) ∧ Below w.heap.size w w' := by
  have B0 := hidden (bl_alloc w (.cells #[.int .i64 B, .int .i64 C] 23))
  have hle : B * C ≤ 64 * 16 := Nat.mul_le_mul hB hC
  have hw : IntKind.i64.wrap ((B : Int) * (C : Int)) = (n : Int) := by
    rw [← Int.natCast_mul, hn]; exact IntWalk.i64_in _ (by omega)
  clear hn hle
  go_enter Tryd.func14, Tryd.ntmps14
  go_wp2_with fail
  refine bodyPost_ret (v := .int .i64 n) (by simp [results, Tryd.results14, go_sem]) rfl ⟨rfl, B0.out⟩
/-- the rounds of so many places -/
def rd (n : Nat) : Nat := if n ≤ 1 then 0 else if n ≤ 2 then 1 else if n ≤ 4 then 2 else if n ≤ 8 then 3 else if n ≤ 16 then 4 else if n ≤ 32 then 5 else if n ≤ 64 then 6 else if n ≤ 128 then 7 else if n ≤ 256 then 8 else if n ≤ 512 then 9 else 10
theorem rd_le (n : Nat) : rd n ≤ 10 := by
  unfold rd
  (repeat' split)
  all_goals omega
theorem rd_is (n k : Nat) (hk : k ≤ 10) (h1 : k = 0 ∨ 2 ^ (k - 1) < n) (h2 : n ≤ 2 ^ k) : rd n = k := by
  obtain rfl | rfl | rfl | rfl | rfl | rfl | rfl | rfl | rfl | rfl | rfl : k = 0 ∨ k = 1 ∨ k = 2 ∨ k = 3 ∨ k = 4 ∨ k = 5 ∨ k = 6 ∨ k = 7 ∨ k = 8 ∨ k = 9 ∨ k = 10 := by omega
  all_goals
    simp at h1 h2
    unfold rd
    (repeat' split)
    all_goals omega
end Go.Proofs.YtpblcnefihhhoaaDoor
namespace Go.Proofs.YtpblcnefihhhoaaDoor
open Go.RowKit
set_option linter.unusedVariables false
/-- Params in a block -/
structure Pb (w : World) (b : Nat) (B C : Int) : Prop where
  c0 : w.cell? ⟨b, 0, none⟩ = some (.int .i64 B)
  c1 : w.cell? ⟨b, 1, none⟩ = some (.int .i64 C)
theorem Pb.keep {w w' : World} {b : Nat} {B C : Int} (h : Pb w b B C) (hb : Below w.heap.size w w') : Pb w' b B C := ⟨cell_keep h.c0 hb, cell_keep h.c1 hb⟩
theorem Pb.new (w : World) (B C : Int) (t : TypeId) : Pb (w.alloc (.cells #[.int .i64 B, .int .i64 C] t)) w.heap.size B C := ⟨by go_simp, by go_simp⟩
theorem Pb.lt {w : World} {b : Nat} {B C : Int} (h : Pb w b B C) : b < w.heap.size := World.block_lt_of_cell? w ⟨b, 0, none⟩ h.c0
theorem Pb.drew {w : World} {b : Nat} {B C : Int} (h : Pb w b B C) : Pb w.drew b B C := h.keep (Below.drew (Below.refl _ _))
theorem bl_drew (w : World) : Below w.heap.size w w.drew := Below.drew (Below.refl _ _)
set_option maxRecDepth 100000 in
set_option maxHeartbeats 4000000 in
theorem Rounds_any (B C n : Nat) (hn : B * C = n) (hB : B ≤ 64) (hC : C ≤ 16) (w : World) : Calls Tryd.prog 20 #[.agg #[.int .i64 B, .int .i64 C]] w fun e w' => e = .returned (.int .i64 (rd n)) ∧ Below w.heap.size w w' := by
  have B0 := hidden (bl_alloc w (.cells #[.int .i64 B, .int .i64 C] 23))
  have P0 := hidden (Pb.new w B C 23)
  have SZ := hidden (fun w => Size_any B C n hn hB hC w)
  have hle : B * C ≤ 64 * 16 := Nat.mul_le_mul hB hC
  have hN : Hid (n ≤ 1024) := hidden (by omega)
  clear hn hB hC hle
  go_enter Tryd.func20, Tryd.ntmps20
  go_wp2_with fail
  generalize w.alloc (.cells #[.int .i64 B, .int .i64 C] 23) = w1 at *
  go_loopw [3] (fun kv w' => ∃ k : Nat, kv = .int .i64 k ∧ Hid (k ≤ 10) ∧ Hid (k = 0 ∨ 2 ^ (k - 1) < n) ∧ Hid (Pb w' w.heap.size B C) ∧ Hid (Below w.heap.size w w')) (fun k _ => 11 - (intOf k).toNat)
  case atStart => exact ⟨0, rfl, hidden (by omega), hidden (.inl rfl), P0, B0⟩
  case round =>
    clear B0 P0
    obtain ⟨k, rfl, hk, hl, hP, hb0⟩ := hrel
    have DP := hidden hP.out.drew
    have x0 := DP.out.c0
    have x1 := DP.out.c1
    have NB := hidden (bl_trans hb0.out (bl_drew wr))
    have hkk := hk.out
    have mk : min k 64 = k := by omega
    obtain ⟨q, hq⟩ : ∃ q : Nat, 2 ^ k = q := ⟨_, rfl⟩
    have hq1 : q ≤ 1024 := by rw [← hq]; exact Nat.pow_le_pow_right (by omega) (by omega : k ≤ 10)
    have HQ := hidden hq
    have e0 : IntKind.i64.wrap ((2 : Int) ^ min k 64) = (q : Int) := by
      rw [mk, show ((2 : Int) ^ k) = ((2 ^ k : Nat) : Int) by simp, hq]; exact IntWalk.i64_in _ (by omega)
    have w9 : IntKind.i64.wrap ((k : Int) + 1) = (k : Int) + 1 := IntWalk.i64_in _ (by omega)
    clear mk hq1 hq
    by_cases hlt : q < n
    · have hlt' : (q : Int) < (n : Int) := by omega
      have hk9 : Hid (k ≤ 9) := hidden (by
        have h1 := hN.out; have h2 := HQ.out
        by_cases h10 : k = 10
        · subst h10; omega
        · omega)
      clear hkk hlt
      go_upto_region 2 with fail
      go_region_with (first | (go_at_call 14; refine (SZ.out _).mono ?_; rintro e wa ⟨rfl, hb⟩; have HB := hidden (bl_trans NB.out hb); have HP := hidden (DP.out.keep hb); clear hb))
      all_goals
        go_wp2_with fail
        go_roundw
        case rel => exact ⟨k + 1, by simp, hidden (by have := hk9.out; omega), hidden (.inr (by rw [Nat.add_sub_cancel, HQ.out]; omega)), HP, HB⟩
        case measure => have := hk9.out; simp [intOf]; omega
    · have hlt' : ¬ (q : Int) < (n : Int) := by omega
      have E : Hid (rd n = k) := hidden (rd_is n k hkk hl.out (by rw [HQ.out]; omega))
      clear hkk hlt
      go_upto_region 2 with fail
      go_region_with (first | (go_at_call 14; refine (SZ.out _).mono ?_; rintro e wa ⟨rfl, hb⟩; have HB := hidden (bl_trans NB.out hb); clear hb))
      all_goals
        go_wp2_with fail
        refine bodyPost_ret (v := .int .i64 k) (by simp [results, Tryd.results20, go_sem]) rfl ⟨by rw [E.out], HB.out⟩
end Go.Proofs.YtpblcnefihhhoaaDoor
namespace Go.Proofs.YtpblcnefihhhoaaDoor
open Go.RowKit
set_option linter.unusedVariables false
theorem svs_one (g : Nat → E4) (n : Nat) : ∀ u ∈ svs n g, u.oneCell' = true := by
  induction n with
  | zero => intro u hu; simp [svs] at hu
  | succ n ih =>
    intro u hu
    rw [svs_succ] at hu
    rcases List.mem_append.1 hu with h | h
    · exact ih u h
    · simp only [List.mem_cons, List.not_mem_nil, or_false] at h
      rcases h with rfl | rfl | rfl | rfl <;> rfl
theorem own_shape4 {w : World} {base n s : Nat} {e : TypeId} {v : Value} {xs : List Value} (h : w.ownsRow base e s v n xs) : ∃ (P : Option Addr) (c : Nat), v = .slice P n c ∧ n ≤ c := by
  rcases h.2 with ⟨rfl, rfl⟩ | ⟨g, cap, cur, rfl, _, _, hn, _⟩
  · exact ⟨none, 0, rfl, Nat.le_refl _⟩
  · exact ⟨_, _, rfl, hn⟩
theorem own_some4 {w : World} {base n s : Nat} {e : TypeId} {v : Value} {xs : List Value} (h : w.ownsRow base e s v n xs) (hn : 0 < n) : ∃ g c : Nat, v = .slice (some ⟨g, 0, none⟩) n c ∧ n ≤ c := by
  rcases h.2 with ⟨_, h0⟩ | ⟨g, cap, cur, rfl, _, _, hnc, _⟩
  · omega
  · exact ⟨g, cap, rfl, hnc⟩
theorem svs_at (n m o : Nat) (g : Nat → E4) (w : World) (b : Nat) (h : Rws w b m g) (hn : o + n ≤ m) : ∀ j u, (svs n (fun k => g (o + k)))[j]? = some u → w.cell? ⟨b, o * 4 + j, none⟩ = some u := by
  induction n with
  | zero => intro j u hu; simp [svs] at hu
  | succ n ih =>
    intro j u hu
    rw [svs_succ] at hu
    by_cases hj : j < n * 4
    · rw [List.getElem?_append_left (by rw [svs_len]; exact hj)] at hu
      exact ih (by omega) j u hu
    · rw [List.getElem?_append_right (by rw [svs_len]; omega), svs_len] at hu
      obtain ⟨d, hd⟩ : ∃ d, j = n * 4 + d := ⟨j - n * 4, by omega⟩
      subst hd
      rw [show n * 4 + d - n * 4 = d by omega] at hu
      match d, hu with
      | 0, hu => simp at hu; rw [← hu, show o * 4 + (n * 4 + 0) = (o + n) * 4 by omega]; exact h.c0 (o + n) (by omega)
      | 1, hu => simp at hu; rw [← hu, show o * 4 + (n * 4 + 1) = (o + n) * 4 + 1 by omega]; exact h.c1 (o + n) (by omega)
      | 2, hu => simp at hu; rw [← hu, show o * 4 + (n * 4 + 2) = (o + n) * 4 + 2 by omega]; exact h.c2 (o + n) (by omega)
      | 3, hu => simp at hu; rw [← hu, show o * 4 + (n * 4 + 3) = (o + n) * 4 + 3 by omega]; exact h.c3 (o + n) (by omega)
theorem cell_keepA {w w' : World} {a : Addr} {v : Value} (h : w.cell? a = some v) (hb : Below w.heap.size w w') : w'.cell? a = some v := (hb.cell (p := a) (World.block_lt_of_cell? w a h)).trans h
theorem info27 : (Tryd.prog.info? 27).map (fun i => (i.zero, i.size, i.bytes)) = some (some (.agg #[.int .u64 0, .int .u64 0, .int .u64 0, .int .u64 0]), 4, 32) := by kernel_rfl
set_option maxRecDepth 100000 in
set_option maxHeartbeats 4000000 in
theorem sclone_any (P : Option Addr) (c m : Nat) (g : Nat → E4) (w : World) (hn : P = none → m = 0 ∧ c = 0) (hc : ∀ a, P = some a → ∀ j u, (svs m g)[j]? = some u → w.cell? (a.add j) = some u) (hl : m ≤ 4398046510976) :
    Calls Tryd.prog 17 #[.slice P m c] w fun e w' => ∃ (Q : Option Addr) (d : Nat), e = .returned (.slice Q m d) ∧ w'.ownsRow w.heap.size 27 4 (.slice Q m d) m (svs m g) ∧ Below w.heap.size w w' := by
  have eqn := fun (a : Option Addr) (l c : Nat) (w : World) => Lib.run_eql_slice_nil (P := Tryd.prog) w 28 27 a l c 0 0 (by kernel_rfl)
  have HL := hidden hl
  cases P with
  | none =>
    obtain ⟨rfl, rfl⟩ := hn rfl
    clear hn hc hl
    go_enter Tryd.func17, Tryd.ntmps17
    go_wp2_with fail
    refine bodyPost_ret (v := .slice none 0 0) (by simp [results, Tryd.results17, go_sem]) rfl ⟨none, 0, rfl, World.ownsRow_nil _ _ _ _, Below.refl _ _⟩
  | some ad =>
    obtain ⟨i0, hi, hz0, hz1, hz2⟩ := info_parts info27
    have HI := hidden hi
    have HZ0 := hidden hz0
    have HZ1 := hidden hz1
    have HZ2 := hidden hz2
    have HU : Hid (Tryd.prog.underlying 28 = some (.slice 27)) := hidden (by kernel_rfl)
    have O0 := hidden (World.ownsRow_made (base := w.heap.size) (e := 27) (size := 4) w #[] 0 (Nat.le_refl _) (by unfold maxLen; omega) rfl)
    have B0 := hidden (bl_alloc w (.cells #[] 27))
    have HC : Hid (∀ j u, (svs m g)[j]? = some u → (w.alloc (.cells #[] 27)).cell? (ad.add j) = some u) := hidden (fun j u hu => cell_keepA (hc ad rfl j u hu) (bl_alloc w _))
    clear hn hc hl hi hz0 hz1 hz2
    go_enter Tryd.func17, Tryd.ntmps17
    go_wp2_with (first | (at_builtin; refine wpList_append_own_at _ rfl _ _ 28 rfl w.heap.size 27 i0 (.agg #[.int .u64 0, .int .u64 0, .int .u64 0, .int .u64 0]) 4 32 HU.out HI.out HZ0.out HZ1.out HZ2.out rfl (by decide) _ 0 [] rfl O0.out ad m c (svs m g) rfl (svs_len _ _) HC.out (svs_one g m) (by have := HL.out; unfold maxLen; omega) (by have := HL.out; omega) B0.out.size ?_; intro v2 w2 ho2 hg2 hn2 ha2; have HO := hidden ho2; have HB := hidden (below_trans B0.out (below_grown hg2 B0.out.size (fun k hk => (O0.out.lt k hk).1))); clear ho2 hg2 hn2 ha2; rw [Nat.zero_add, List.nil_append] at HO))
    obtain ⟨Q, d, rfl, -⟩ := own_shape4 HO.out
    refine bodyPost_ret (v := .slice Q m d) (by simp [results, Tryd.results17, go_sem]) rfl ⟨Q, d, rfl, HO.out, HB.out⟩
theorem sclone_in (b m o n c : Nat) (g : Nat → E4) (w : World) (h : Rws w b m g) (hm : o + n ≤ m) (h0 : 0 < n) (hl : m ≤ 4398046510976) :
    Calls Tryd.prog 17 #[.slice (some ⟨b, o * 4, none⟩) n c] w fun e w' => ∃ q d : Nat, e = .returned (.slice (some ⟨q, 0, none⟩) n d) ∧ w.heap.size ≤ q ∧ n ≤ d ∧ Rws w' q n (fun k => g (o + k)) ∧ Below w.heap.size w w' := by
  refine (sclone_any (some ⟨b, o * 4, none⟩) c n (fun k => g (o + k)) w (fun e => by cases e) (fun a ha j u hu => ?_) (by omega)).mono ?_
  · cases ha
    have := svs_at n m o g w b h hm j u hu
    by_cases e : j = 0
    · subst e; simpa [Addr.add] using this
    · simpa [Addr.add, e] using this
  · rintro e w' ⟨Q, d, rfl, ho, hb⟩
    obtain ⟨q, d', hq, hd⟩ := own_some4 ho h0
    cases hq
    exact ⟨q, d, rfl, (ho.lt q rfl).1, hd, Rws.own ho, hb⟩
end Go.Proofs.YtpblcnefihhhoaaDoor
namespace Go.Proofs.YtpblcnefihhhoaaDoor
open Go.RowKit
set_option linter.unusedVariables false
theorem results_cellM {fn : Func} {p : Tmp} {ty : TypeId} (h : fn.results = #[.cell p ty]) (tmps : Array Value) (P : Program) (w : World) (a : Addr) (v : Value) (ha : tmps.getD p undef = .pointer (some a)) (hl : (loadVar ty a).run P w = .ok v w) :
    (results fn tmps).run P w = .ok v w := by
  have e : (results fn tmps).run P w = ((asAddr (tmps.getD p undef)).run P w).andThen fun a w1 => (loadVar ty a).run P w1 := by
    simp only [results, h]
    simp [Sem.run_bind, Result.andThen]
  rw [e, ha]
  simp [asAddr, hl, Result.andThen]
theorem results_tupM {fn : Func} {p q : Tmp} {ty : TypeId} (h : fn.results = #[.cell p ty, .tmp q]) (tmps : Array Value) (P : Program) (w : World) (a : Addr) (v x : Value) (ha : tmps.getD p undef = .pointer (some a)) (hx : tmps.getD q undef = x) (hl : (loadVar ty a).run P w = .ok v w) :
    (results fn tmps).run P w = .ok (.tuple #[v, x]) w := by
  have ha' : tmps[p]?.getD undef = .pointer (some a) := by simpa using ha
  have hx' : tmps[q]?.getD undef = x := by simpa using hx
  simp only [results, h]
  simp [Result.andThen, ha', hx', asAddr, hl]
theorem below_setCellsM {w0 : World} (b : Nat) : ∀ (vs : List Value) (o : Nat) {w : World}, Below w0.heap.size w0 w → w0.heap.size ≤ b → Below w0.heap.size w0 (w.setCells b o vs)
  | [], _, _, h, _ => h
  | v :: vs, o, w, h, hb => by
    rw [World.setCells]
    exact below_setCellsM b vs (o + 1) (h.setCell hb v) hb
theorem size_setCellsM (b : Nat) : ∀ (vs : List Value) (o : Nat) (w : World), (w.setCells b o vs).heap.size = w.heap.size
  | [], _, _ => rfl
  | v :: vs, o, w => by rw [World.setCells, size_setCellsM b vs (o + 1)]; simp
theorem range_keepM {w w' : World} {b : Nat} {cs : List Value} (h : w.rangeAt b 0 cs) (hb : Below w.heap.size w w') : w'.rangeAt b 0 cs := fun j v hv => by
  have := h j v hv
  rw [hb.cell (p := ⟨b, 0 + j, none⟩) (World.block_lt_of_cell? w ⟨b, 0 + j, none⟩ this)]
  exact this
theorem there_keepM {w w' : World} {b n : Nat} (h : w.there b 0 n) (hb : Below w.heap.size w w') : w'.there b 0 n := fun j hj => by
  obtain ⟨h1, h2⟩ := h j hj
  obtain ⟨u, hu⟩ := Option.isSome_iff_exists.1 h1
  have hl := World.block_lt_of_cell? w _ hu
  exact ⟨by rw [hb.cell (p := ⟨b, 0 + j, none⟩) hl]; exact h1, by rw [hb.frozen (p := ⟨b, 0 + j, none⟩) hl]; exact h2⟩
theorem there_setM {w : World} {b n : Nat} (h : w.there b 0 n) (c : Nat) (vs : List Value) : (w.setCells c 0 vs).there b 0 n := fun j hj =>
  ⟨World.isSome_setCells c vs 0 w _ (h j hj).1, by rw [World.frozen?_setCells]; exact (h j hj).2⟩
theorem range_newM (w : World) (cs : List Value) (t : TypeId) : (w.alloc (.cells cs.toArray t)).rangeAt w.heap.size 0 cs := fun j v hv => by
  rw [cell_of_row _ _ (0 + j) cs.toArray t (0, 0) (heap_alloc_new w _), Nat.zero_add]
  simpa using hv
theorem there_newM (w : World) (cs : List Value) (t : TypeId) : (w.alloc (.cells cs.toArray t)).there w.heap.size 0 cs.length := fun j hj => by
  refine ⟨?_, by go_simp⟩
  rw [cell_of_row _ _ (0 + j) cs.toArray t (0, 0) (heap_alloc_new w _), Nat.zero_add]
  simp [hj]
/-- what lies where: blocks that were made since w0, with their cells -/
structure Mw (w0 : World) (L : List (Nat × List Value)) (w : World) : Prop where
  bel : Below w0.heap.size w0 w
  r : ∀ p ∈ L, w.rangeAt p.1 0 p.2 ∧ w.there p.1 0 p.2.length ∧ w0.heap.size ≤ p.1 ∧ p.1 < w.heap.size
theorem Mw.start (w : World) : Mw w [] w := ⟨Below.refl _ _, fun p hp => by cases hp⟩
theorem Mw.keep {w0 : World} {L : List (Nat × List Value)} {w w' : World} (h : Mw w0 L w) (hb : Below w.heap.size w w') : Mw w0 L w' :=
  ⟨bl_trans h.bel hb, fun p hp => ⟨range_keepM (h.r p hp).1 hb, there_keepM (h.r p hp).2.1 hb, (h.r p hp).2.2.1, Nat.lt_of_lt_of_le (h.r p hp).2.2.2 hb.size⟩⟩
theorem Mw.sub {w0 : World} {L M : List (Nat × List Value)} {w : World} (h : Mw w0 L w) (hs : ∀ p ∈ M, p ∈ L) : Mw w0 M w := ⟨h.bel, fun p hp => h.r p (hs p hp)⟩
theorem Mw.new {w0 : World} {L : List (Nat × List Value)} {w : World} (h : Mw w0 L w) (cs : List Value) (t : TypeId) : Mw w0 ((w.heap.size, cs) :: L) (w.alloc (.cells cs.toArray t)) := by
  have k := h.keep (bl_alloc w (.cells cs.toArray t))
  refine ⟨k.bel, fun p hp => ?_⟩
  rcases List.mem_cons.1 hp with rfl | hp
  · exact ⟨range_newM w cs t, there_newM w cs t, h.bel.size, by simp⟩
  · exact k.r p hp
theorem Mw.set {w0 : World} {L M : List (Nat × List Value)} {w : World} (h : Mw w0 L w) {c : Nat} {o : List Value} (ds : List Value) (hc : (c, o) ∈ L) (hl : ds.length = o.length) (hs : ∀ p ∈ M, p ∈ L ∧ c ≠ p.1) :
    Mw w0 ((c, ds) :: M) (w.setCells c 0 ds) := by
  obtain ⟨h1, ht, hg, hlt⟩ := h.r _ hc
  simp only at hg ht hlt
  refine ⟨below_setCellsM c ds 0 h.bel hg, fun p hp => ?_⟩
  rcases List.mem_cons.1 hp with rfl | hp
  · exact ⟨World.rangeAt_setCells_same w c 0 ds (by rw [hl]; exact ht), there_setM (by simp only [hl]; exact ht) _ _, hg, by rw [size_setCellsM]; exact hlt⟩
  · obtain ⟨h3, h2⟩ := hs p hp
    exact ⟨World.rangeAt_setCells_apart (h.r p h3).1 _ _ _ (Or.inl (fun e => h2 e.symm)), there_setM (h.r p h3).2.1 _ _, (h.r p h3).2.2.1, by rw [size_setCellsM]; exact (h.r p h3).2.2.2⟩
theorem Mw.ther {w0 : World} {L : List (Nat × List Value)} {w : World} (h : Mw w0 L w) {c : Nat} {o : List Value} (ds : List Value) (hc : (c, o) ∈ L) (hl : ds.length = o.length) : w.there c 0 ds.toArray.size := by
  have := (h.r _ hc).2.1
  simpa [hl] using this
theorem Mw.var {w0 : World} {L : List (Nat × List Value)} {w : World} (h : Mw w0 L w) {c : Nat} {ds : List Value} (hc : (c, ds) ∈ L) {ty : TypeId} {d : TypeDesc} (hu : Tryd.prog.underlying ty = some d) (hd : d.isRow = true) (hi : (Tryd.prog.info? ty).map (·.size) = some ds.length) :
    (loadVar ty ⟨c, 0, none⟩).run Tryd.prog w = .ok (.agg ds.toArray) w := run_loadVar_mid w c 0 ty ds d (h.r _ hc).1 hu hd hi
theorem ready_store {P : Program} {ops : Array Oper} {o : Oper} {a : Act} {w : World} {K : Act → World → Prop} {Q : Exit → Act → World → Prop} {E : Prop} (hg : o.guard = none) (ty : TypeId) (x y : Operand) (ho : o.op = .store ty x y) (hd : o.dst = none)
    (b off : Nat) (cs : List Value) (hx : a.eval x = .pointer (some ⟨b, off, none⟩)) (hy : a.eval y = .agg cs.toArray) (ht : w.there b off cs.toArray.size) (hi : (P.info? ty).map (·.size) = some cs.toArray.size) (h1 : cs.toArray.all (·.oneCell') = true)
    (h : K a (w.setCells b off cs)) : if Region.wanted o (yielded ops a.tmps) = true then Oper.wp P o a w K Q else E := by
  have hw : Region.wanted o (yielded ops a.tmps) = true := by simp [Region.wanted, hg]
  rw [if_pos hw]
  refine wp_store_mid ty x y ho b off cs.toArray hx hy ht hi h1 ?_
  rw [hd, List.toList_toArray]
  exact h
theorem wpList_storeL {P : Program} {ops : Array Oper} {rest : List Oper} {o : Oper} {a : Act} {w : World} {Q : Exit → Act → World → Prop} (hg : o.guard = none) (ty : TypeId) (x y : Operand) (ho : o.op = .store ty x y) (hd : o.dst = none)
    (b off : Nat) (cs : List Value) (hx : a.eval x = .pointer (some ⟨b, off, none⟩)) (hy : a.eval y = .agg cs.toArray) (ht : w.there b off cs.toArray.size) (hi : (P.info? ty).map (·.size) = some cs.toArray.size) (h1 : cs.toArray.all (·.oneCell') = true)
    (h : wpList P ops Q rest a (w.setCells b off cs)) : wpList P ops Q (o :: rest) a w := by
  refine wpList_store_mid hg ty x y ho b off cs.toArray hx hy ht hi h1 ?_
  rw [hd, List.toList_toArray]
  exact h
set_option linter.unusedVariables false
theorem gb_setCells (b : Nat) : ∀ (vs : List Value) (o : Nat) (w : World), w.grownBy (w.setCells b o vs) (some b)
  | [], _, w => World.grownBy.refl _ _
  | v :: vs, o, w => by
    rw [World.setCells]
    have h1 : w.grownBy (w.setCell ⟨b, o, none⟩ v) (some b) := ⟨rfl, rfl, rfl, by simp, fun k _ hk => heap_setCell_other w ⟨b, o, none⟩ k v (fun e => hk (by simp [e]))⟩
    exact h1.trans (gb_setCells b vs (o + 1) _)
/-- a tape's cells -/
def tc (a r s t : E4) (L R : Value) : List Value := [.int .u64 a.x0, .int .u64 a.x1, .int .u64 a.x2, .int .u64 a.x3, .int .u64 r.x0, .int .u64 r.x1, .int .u64 r.x2, .int .u64 r.x3, .int .u64 s.x0, .int .u64 s.x1, .int .u64 s.x2, .int .u64 s.x3, .int .u64 t.x0, .int .u64 t.x1, .int .u64 t.x2, .int .u64 t.x3, L, R]
def tz : List Value := tc zero4 zero4 zero4 zero4 (.slice none 0 0) (.slice none 0 0)
theorem tc_one (a r s t : E4) (P Q : Option Addr) (n c m d : Nat) : (tc a r s t (.slice P n c) (.slice Q m d)).toArray.all (·.oneCell') = true := by simp [tc, Value.oneCell']
theorem ptinfo : (Tryd.prog.info? 30).map (·.size) = some 18 := by kernel_rfl
theorem ptzv (w : World) : (zeroValue 30).run Tryd.prog w = .ok (.agg tz.toArray) w := by kernel_rfl
theorem pt_alloc {o : Oper} {a : Act} {w : World} {K : Act → World → Prop} {Q : Exit → Act → World → Prop} (ho : o.op = .alloc 30) (h : K (a.put o.dst (.pointer (some ⟨w.heap.size, 0, none⟩))) (w.alloc (.cells tz.toArray 30))) : o.wp Tryd.prog a w K Q := by
  have hz := ptzv w
  generalize tz = z at hz h
  unfold Oper.wp execOp
  simp [ho, Instr.alloc, hz]
  exact h
theorem wpList_ptalloc {ops : Array Oper} {rest : List Oper} {o : Oper} {a : Act} {w : World} {Q : Exit → Act → World → Prop} (hg : o.guard = none) (ho : o.op = .alloc 30) (h : wpList Tryd.prog ops Q rest (a.put o.dst (.pointer (some ⟨w.heap.size, 0, none⟩))) (w.alloc (.cells tz.toArray 30))) : wpList Tryd.prog ops Q (o :: rest) a w :=
  wpList_plain hg fun K hK => pt_alloc ho (hK _ _ h)
theorem wpList_ptbuild {ops : Array Oper} {rest : List Oper} {o : Oper} {a : Act} {w : World} {Q : Exit → Act → World → Prop} (hg : o.guard = none) (ho : o.op = .build 30 #[]) (h : wpList Tryd.prog ops Q rest (a.put o.dst (.agg tz.toArray)) w) : wpList Tryd.prog ops Q (o :: rest) a w := by
  have e : Tryd.prog.built 30 ((#[] : Array (Nat × Operand)).map fun (i, x) => (i, a.eval x)).toList = some tz.toArray := by kernel_rfl
  exact wpList_build hg 30 #[] ho (by rw [e]; rfl) (by rw [e]; exact h)
theorem rtinfo : (Tryd.prog.info? 37).map (·.size) = some 18 := by kernel_rfl
theorem rtzv (w : World) : (zeroValue 37).run Tryd.prog w = .ok (.agg tz.toArray) w := by kernel_rfl
theorem rt_alloc {o : Oper} {a : Act} {w : World} {K : Act → World → Prop} {Q : Exit → Act → World → Prop} (ho : o.op = .alloc 37) (h : K (a.put o.dst (.pointer (some ⟨w.heap.size, 0, none⟩))) (w.alloc (.cells tz.toArray 37))) : o.wp Tryd.prog a w K Q := by
  have hz := rtzv w
  generalize tz = z at hz h
  unfold Oper.wp execOp
  simp [ho, Instr.alloc, hz]
  exact h
theorem wpList_rtalloc {ops : Array Oper} {rest : List Oper} {o : Oper} {a : Act} {w : World} {Q : Exit → Act → World → Prop} (hg : o.guard = none) (ho : o.op = .alloc 37) (h : wpList Tryd.prog ops Q rest (a.put o.dst (.pointer (some ⟨w.heap.size, 0, none⟩))) (w.alloc (.cells tz.toArray 37))) : wpList Tryd.prog ops Q (o :: rest) a w :=
  wpList_plain hg fun K hK => rt_alloc ho (hK _ _ h)
theorem wpList_rtbuild {ops : Array Oper} {rest : List Oper} {o : Oper} {a : Act} {w : World} {Q : Exit → Act → World → Prop} (hg : o.guard = none) (ho : o.op = .build 37 #[]) (h : wpList Tryd.prog ops Q rest (a.put o.dst (.agg tz.toArray)) w) : wpList Tryd.prog ops Q (o :: rest) a w := by
  have e : Tryd.prog.built 37 ((#[] : Array (Nat × Operand)).map fun (i, x) => (i, a.eval x)).toList = some tz.toArray := by kernel_rfl
  exact wpList_build hg 37 #[] ho (by rw [e]; rfl) (by rw [e]; exact h)
end Go.Proofs.YtpblcnefihhhoaaDoor
namespace Go.Proofs.YtpblcnefihhhoaaDoor
open Go.RowKit
set_option maxRecDepth 100000 in
set_option maxHeartbeats 16000000 in
theorem rTape_c (P : Option Addr) (sb so len cap n : Nat) (f : Nat → Int) (w : World) (hP : 0 < n → P = some ⟨sb, so, none⟩) (hn : n ≤ 4096) (hl : 64 * n ≤ len) (hlen : len < 9223372036854775807) (hB : 0 < n → Bs w sb so len f) :
    Calls Tryd.prog 18 #[.slice P len cap, .int .i64 n] w fun e w' => ∃ (v : Value) (p : Option Addr) (c : Nat), e = .returned (.tuple #[v, .int .i64 0]) ∧ v = .slice p n c ∧ (0 < n → ∃ b : Nat, p = some ⟨b, 0, none⟩ ∧ w.heap.size ≤ b ∧ Rws w' b n (tp f) ∧ n ≤ c) ∧ Below w.heap.size w w' := by
  have HB := hidden hB
  have HP := hidden hP
  clear hP
  have nn0 : ¬ (n : Int) < 0 := by omega
  have nn1 : ¬ (4096 : Int) < (n : Int) := by omega
  have nn2 : (0 : Int) ≤ (n : Int) := by omega
  obtain ⟨q, hq⟩ : ∃ q, len / 64 = q := ⟨_, rfl⟩
  have dq : (len : Int).tdiv 64 = (q : Int) := by rw [Int.tdiv_eq_ediv_of_nonneg (by omega)]; omega
  have wq : IntKind.i64.wrap (q : Int) = (q : Int) := IntWalk.i64_in _ (by omega)
  have ll : ¬ (q : Int) < (n : Int) := by omega
  obtain ⟨i0, hi, hz0, hz1, hz2⟩ := info_parts refinfo
  have HI0 := hidden hi
  have HZ0 := hidden hz0
  have HZ1 := hidden hz1
  have HZ2 := hidden hz2
  have HL := hidden hl
  have HN := hidden hn
  have HLEN := hidden hlen
  clear hB hi hz0 hz1 hz2 hl hn hlen hq
  go_enter Tryd.func18, Tryd.ntmps18
  go_wp2_with fail
  clear dq wq ll nn0 nn1
  go_loopw [6, 7] (fun ov iv w' => ∃ i : Nat, i ≤ n ∧ iv = .int .i64 i ∧ Hid (w'.ownsRow w.heap.size 34 4 ov i (svs i (tp f))) ∧ Hid (Below w.heap.size w w')) (fun _ i _ => n - (intOf i).toNat)
  case atStart => exact ⟨0, by omega, rfl, hidden (World.ownsRow_nil _ _ _ _), hidden (Below.refl _ _)⟩
  case round =>
    obtain ⟨i, hi, rfl, how, hbl⟩ := hrel
    by_cases hin : i < n
    · obtain rfl := HP.out (by omega)
      have ii0 : (0 : Int) ≤ (i : Int) := by omega
      have ii1 : (i : Int) < (n : Int) := by omega
      have BS := hidden ((HB.out (by omega)).keep hbl.out)
      have hn := HN.out
      have hl := HL.out
      have hlen := HLEN.out
      have v1 : IntKind.i64.wrap (64 * (i : Int)) = 64 * (i : Int) := IntWalk.i64_in _ (by omega)
      generalize wr = ws at *
      go_upto_region 9 with fail
      go_cut [8] (fun vx wx => ∃ pb : Nat, vx = .pointer (some ⟨pb, 0, none⟩) ∧ ws.heap.size ≤ pb ∧ Rb wx pb (fun _ => 0) ∧ Below ws.heap.size ws wx)
      case first =>
        have R0 := hidden (Rb.new ws 64)
        have B0 := hidden (bl_alloc ws (.cells #[.int .u8 0, .int .u8 0, .int .u8 0, .int .u8 0, .int .u8 0, .int .u8 0, .int .u8 0, .int .u8 0, .int .u8 0, .int .u8 0, .int .u8 0, .int .u8 0, .int .u8 0, .int .u8 0, .int .u8 0, .int .u8 0, .int .u8 0, .int .u8 0, .int .u8 0, .int .u8 0, .int .u8 0, .int .u8 0, .int .u8 0, .int .u8 0, .int .u8 0, .int .u8 0, .int .u8 0, .int .u8 0, .int .u8 0, .int .u8 0, .int .u8 0, .int .u8 0, .int .u8 0, .int .u8 0, .int .u8 0, .int .u8 0, .int .u8 0, .int .u8 0, .int .u8 0, .int .u8 0, .int .u8 0, .int .u8 0, .int .u8 0, .int .u8 0, .int .u8 0, .int .u8 0, .int .u8 0, .int .u8 0, .int .u8 0, .int .u8 0, .int .u8 0, .int .u8 0, .int .u8 0, .int .u8 0, .int .u8 0, .int .u8 0, .int .u8 0, .int .u8 0, .int .u8 0, .int .u8 0, .int .u8 0, .int .u8 0, .int .u8 0, .int .u8 0] 64))
        clear hn hl hlen
        go_wp2_with fail
        go_meet
        exact ⟨_, rfl, Nat.le_refl _, R0.out, B0.out⟩
      case rest =>
      obtain ⟨pb, rfl, hpb, r0, b0⟩ := hcut
      have R0 := hidden r0
      have B0 := hidden b0
      clear r0 b0
      have HNL : Hid (64 * i + 64 ≤ len ∧ len < 9223372036854775807) := hidden ⟨by omega, hlen⟩
      clear hn hl hlen
      go_wp2_with fail
      go_loopw [9] (fun kv w' => ∃ k : Nat, k ≤ 64 ∧ kv = .int .i64 k ∧ Hid (Rb w' pb (fun j => if j < k then f (64 * i + j) else 0)) ∧ Hid (Below ws.heap.size ws w')) (fun k _ => 64 - (intOf k).toNat)
      case atStart => exact ⟨0, by omega, rfl, hidden ⟨fun j hj => by rw [if_neg (by omega)]; exact R0.out.c j hj, R0.out.fr⟩, B0⟩
      case round =>
        clear R0 B0
        obtain ⟨k, hk, rfl, hr, hb2⟩ := hrel
        by_cases hk64 : k < 64
        · have kk0 : (0 : Int) ≤ (k : Int) := by omega
          have kk1 : (k : Int) < 64 := by omega
          obtain ⟨nl1, nl2⟩ := HNL.out
          have v2 : IntKind.i64.wrap (64 * (i : Int) + (k : Int)) = 64 * (i : Int) + (k : Int) := IntWalk.i64_in _ (by omega)
          have s1 : (0 : Int) ≤ 64 * (i : Int) + (k : Int) := by omega
          have s2 : 64 * (i : Int) + (k : Int) < (len : Int) := by omega
          have s3 : (64 * (i : Int) + (k : Int)).toNat = 64 * i + k := by omega
          have cs := cell_keep (BS.out.c (64 * i + k) (by omega)) hb2.out
          have cr := hr.out.c k hk64
          have fr := hr.out.fr k hk64
          have NR : Hid (Rb (wr.setCell ⟨pb, k, none⟩ (.int .u8 (f (64 * i + k)))) pb (fun j => if j < k + 1 then f (64 * i + j) else 0)) := hidden ⟨fun j hj => by
            rw [(hr.out.at k hk64 (f (64 * i + k))).c j hj]
            by_cases hjk : j = k
            · subst hjk
              rw [if_pos rfl, if_pos (by omega)]
            · rw [if_neg hjk]
              by_cases hlt : j < k
              · rw [if_pos hlt, if_pos (by omega)]
              · rw [if_neg hlt, if_neg (by omega)], (hr.out.at k hk64 (f (64 * i + k))).fr⟩
          have NB : Hid (Below ws.heap.size ws (wr.setCell ⟨pb, k, none⟩ (.int .u8 (f (64 * i + k))))) := hidden (hb2.out.setCell hpb _)
          generalize f (64 * i + k) = v at *
          clear hr hb2 nl1 nl2
          go_wp2_with fail
          go_roundw
          case rel => exact ⟨k + 1, by omega, by go_num, NR, NB⟩
          case measure => simp [intOf]; omega
        · have hkk : k = 64 := by omega
          subst hkk
          rw [show ((64 : Nat) : Int) = 64 from rfl]
          have hrb : Rb wr pb (fun j => f (64 * i + j)) := ⟨fun j hj => by rw [hr.out.c j hj, if_pos hj], hr.out.fr⟩
          have hra := hrb.range
          have nl := HNL.out
          have hz : ∀ z ∈ b64 f (64 * i), 0 ≤ z ∧ z ≤ 255 := fun z hz => by
            rcases List.mem_append.1 hz with h | h
            · exact b32_in BS.out (64 * i) (by omega) z h
            · exact b32_in BS.out (64 * i + 32) (by omega) z h
          obtain ⟨X, hX⟩ : ∃ X, tp f i = X := ⟨_, rfl⟩
          have wd := hidden (fun w => fix (rWide_any (b64 f (64 * i)) w (b64_len _ _) hz) ((tp_64 f i).symm.trans hX))
          have hlc : ((b64 f (64 * i)).map fun z => Value.int .u8 z).length = 64 := by simp [b64_len]
          have hi2 : (Tryd.prog.info? 64).map (·.size) = some ((b64 f (64 * i)).map fun z => Value.int .u8 z).length := by rw [hlc]; kernel_rfl
          have hu : Tryd.prog.underlying 64 = some (.array 64 5) := by kernel_rfl
          unfold bv at wd
          generalize (b64 f (64 * i)).map (fun z => Value.int .u8 z) = cs at *
          have HRA := hidden hra
          have HI := hidden hi2
          have HU := hidden hu
          have OW := hidden (own_keepS how.out hb2.out)
          have B2 := hidden (bl_trans hbl.out hb2.out)
          have SV := hidden (svs_succ i (tp f))
          rw [hX] at SV
          have n9 := HN.out
          have w9 : IntKind.i64.wrap ((i : Int) + 1) = (i : Int) + 1 := IntWalk.i64_in _ (by omega)
          have N9 := hidden (show i + 1 ≤ 4096 by omega)
          simp only [E4.v] at wd
          clear hr hb2 hrb hra nl hz hX hlc hi2 hu how hbl BS n9
          go_upto_region 14 with fail
          go_wp2_with (refine wpList_load_mid rfl 64 _ rfl pb 0 (by rfl) cs _ HRA.out HU.out rfl HI.out ?_)
          refine (wd.out _).mono ?_
          rintro e w2 ⟨rfl, hb3⟩
          have O2 := hidden (own_keepS OW.out hb3)
          have B3 := hidden (bl_trans B2.out hb3)
          have bs := B3.out.size
          clear hb3 OW B2 HRA HI HU wd
          go_wp2_with (first | (at_builtin; refine wpList_append_moreS _ rfl _ _ 35 rfl w.heap.size 34 i0 (.agg #[.int .u64 0, .int .u64 0, .int .u64 0, .int .u64 0]) 32 (by kernel_rfl) HI0.out HZ0.out HZ1.out HZ2.out rfl _ _ _ rfl (Or.inl (O2.out.alloc _)) ⟨w2.heap.size, 0, none⟩ [.int .u64 X.x0, .int .u64 X.x1, .int .u64 X.x2, .int .u64 X.x3] rfl rfl (cells_new w2 [.int .u64 X.x0, .int .u64 X.x1, .int .u64 X.x2, .int .u64 X.x3] 34) (by simp [Value.oneCell']) (by have := N9.out; unfold maxLen; omega) (by have := N9.out; omega) (by simp; omega) ?_; intro v' w3 hown hb4; have HO := hidden hown; have HB4 := hidden (bl_trans2 B3.out hb4 (by omega)); clear hown hb4))
          go_roundw
          case rel => exact ⟨i + 1, by omega, by go_num, hidden (by rw [SV.out]; exact HO.out), HB4⟩
          case measure => simp [intOf]; omega
    · have hii : i = n := by omega
      subst hii
      have lq : ¬ (i : Int) < (i : Int) := by omega
      have RES : ∃ (p : Option Addr) (c : Nat), u6 = .slice p i c ∧ (0 < i → ∃ b : Nat, p = some ⟨b, 0, none⟩ ∧ w.heap.size ≤ b ∧ Rws wr b i (tp f) ∧ i ≤ c) := by
        rcases how.out.2 with ⟨h1, h2⟩ | ⟨gg, cp, cur, h1, hg, _, hnc, _, _, _⟩
        · exact ⟨none, 0, by rw [h1, h2], fun h => by omega⟩
        · have ho := how.out
          rw [h1] at ho
          exact ⟨_, cp, h1, fun _ => ⟨gg, rfl, hg, Rws.own ho, hnc⟩⟩
      obtain ⟨p, c, hv, hrw⟩ := RES
      have HV := hidden hv
      have HRW := hidden hrw
      clear how hv hrw
      go_wp2_with fail
      refine bodyPost_ret (v := .tuple #[u6, .int .i64 0]) (by simp [results, Tryd.results18, go_sem]) rfl ?_
      exact ⟨u6, rfl, p, c, HV.out, HRW.out, hbl.out⟩
end Go.Proofs.YtpblcnefihhhoaaDoor
namespace Go.Proofs.YtpblcnefihhhoaaDoor
open Go.RowKit
set_option linter.unusedVariables false
theorem gbI {w w' : World} (h : Below w.heap.size w w') (row : Option Nat) : w.grownBy w' row := ⟨h.os, h.tape, h.output, h.size, fun k hk _ => h.block k hk⟩
def rt7o : Array Oper := #[{ dst := some 28, op := Op.move (Operand.tmp 7), type := 28, pos := "ranges.go:42", after := #[], guard := none },
  { dst := some 29, op := Op.indexAddr 28 (Operand.tmp 28) (Operand.const (Value.int IntKind.i64 0)), type := 0, pos := "ranges.go:42", after := #[{ on := 0, ground := Ground.data }], guard := none },
  { dst := some 30, op := Op.load 27 (Operand.tmp 29), type := 27, pos := "ranges.go:42", after := #[{ on := 1, ground := Ground.data }], guard := none },
  { dst := some 31, op := Op.move (Operand.tmp 7), type := 28, pos := "ranges.go:42", after := #[], guard := none },
  { dst := some 32, op := Op.indexAddr 28 (Operand.tmp 31) (Operand.const (Value.int IntKind.i64 1)), type := 0, pos := "ranges.go:42", after := #[{ on := 3, ground := Ground.data }], guard := none },
  { dst := some 33, op := Op.load 27 (Operand.tmp 32), type := 27, pos := "ranges.go:42", after := #[{ on := 4, ground := Ground.data }], guard := none },
  { dst := some 34, op := Op.move (Operand.tmp 7), type := 28, pos := "ranges.go:42", after := #[], guard := none },
  { dst := some 35, op := Op.move (Operand.tmp 6), type := 3, pos := "ranges.go:42", after := #[], guard := none },
  { dst := some 36, op := Op.binOp BinOp.add 3 (Operand.const (Value.int IntKind.i64 2)) (Operand.tmp 35) 3, type := 3, pos := "ranges.go:42", after := #[{ on := 7, ground := Ground.data }], guard := none },
  { dst := some 37, op := Op.slice 28 (Operand.tmp 34) (some (Operand.const (Value.int IntKind.i64 2))) (some (Operand.tmp 36)) none, type := 28, pos := "ranges.go:42", after := #[{ on := 6, ground := Ground.data }, { on := 8, ground := Ground.data }], guard := none },
  { dst := some 38, op := Op.call { callee := Callee.value (Operand.func 17), args := #[Operand.tmp 37], argTypes := #[28] }, type := 28, pos := "ranges.go:45", after := #[{ on := 9, ground := Ground.data }], guard := none },
  { dst := some 39, op := Op.move (Operand.tmp 7), type := 28, pos := "ranges.go:42", after := #[], guard := none },
  { dst := some 40, op := Op.move (Operand.tmp 6), type := 3, pos := "ranges.go:42", after := #[], guard := none },
  { dst := some 41, op := Op.binOp BinOp.add 3 (Operand.const (Value.int IntKind.i64 2)) (Operand.tmp 40) 3, type := 3, pos := "ranges.go:42", after := #[{ on := 12, ground := Ground.data }], guard := none },
  { dst := some 42, op := Op.move (Operand.tmp 6), type := 3, pos := "ranges.go:42", after := #[], guard := none },
  { dst := some 43, op := Op.binOp BinOp.mul 3 (Operand.const (Value.int IntKind.i64 2)) (Operand.tmp 42) 3, type := 3, pos := "ranges.go:42", after := #[{ on := 14, ground := Ground.data }], guard := none },
  { dst := some 44, op := Op.binOp BinOp.add 3 (Operand.const (Value.int IntKind.i64 2)) (Operand.tmp 43) 3, type := 3, pos := "ranges.go:42", after := #[{ on := 15, ground := Ground.data }], guard := none },
  { dst := some 45, op := Op.slice 28 (Operand.tmp 39) (some (Operand.tmp 41)) (some (Operand.tmp 44)) none, type := 28, pos := "ranges.go:42", after := #[{ on := 11, ground := Ground.data }, { on := 13, ground := Ground.data }, { on := 16, ground := Ground.data }], guard := none },
  { dst := some 46, op := Op.call { callee := Callee.value (Operand.func 17), args := #[Operand.tmp 45], argTypes := #[28] }, type := 28, pos := "ranges.go:46", after := #[{ on := 17, ground := Ground.data }, { on := 10, ground := Ground.chain }], guard := none },
  { dst := some 47, op := Op.move (Operand.tmp 7), type := 28, pos := "ranges.go:42", after := #[], guard := none },
  { dst := some 48, op := Op.move (Operand.tmp 6), type := 3, pos := "ranges.go:42", after := #[], guard := none },
  { dst := some 49, op := Op.binOp BinOp.mul 3 (Operand.const (Value.int IntKind.i64 2)) (Operand.tmp 48) 3, type := 3, pos := "ranges.go:42", after := #[{ on := 20, ground := Ground.data }], guard := none },
  { dst := some 50, op := Op.binOp BinOp.add 3 (Operand.const (Value.int IntKind.i64 2)) (Operand.tmp 49) 3, type := 3, pos := "ranges.go:42", after := #[{ on := 21, ground := Ground.data }], guard := none },
  { dst := some 51, op := Op.indexAddr 28 (Operand.tmp 47) (Operand.tmp 50), type := 0, pos := "ranges.go:42", after := #[{ on := 19, ground := Ground.data }, { on := 22, ground := Ground.data }], guard := none },
  { dst := some 52, op := Op.load 27 (Operand.tmp 51), type := 27, pos := "ranges.go:42", after := #[{ on := 23, ground := Ground.data }], guard := none },
  { dst := some 53, op := Op.move (Operand.tmp 7), type := 28, pos := "ranges.go:42", after := #[], guard := none },
  { dst := some 54, op := Op.move (Operand.tmp 6), type := 3, pos := "ranges.go:42", after := #[], guard := none },
  { dst := some 55, op := Op.binOp BinOp.mul 3 (Operand.const (Value.int IntKind.i64 2)) (Operand.tmp 54) 3, type := 3, pos := "ranges.go:42", after := #[{ on := 26, ground := Ground.data }], guard := none },
  { dst := some 56, op := Op.binOp BinOp.add 3 (Operand.const (Value.int IntKind.i64 3)) (Operand.tmp 55) 3, type := 3, pos := "ranges.go:42", after := #[{ on := 27, ground := Ground.data }], guard := none },
  { dst := some 57, op := Op.indexAddr 28 (Operand.tmp 53) (Operand.tmp 56), type := 0, pos := "ranges.go:42", after := #[{ on := 25, ground := Ground.data }, { on := 28, ground := Ground.data }], guard := none },
  { dst := some 58, op := Op.load 27 (Operand.tmp 57), type := 27, pos := "ranges.go:42", after := #[{ on := 29, ground := Ground.data }], guard := none },
  { dst := some 59, op := Op.build 30 #[(0, Operand.tmp 30), (1, Operand.tmp 33), (4, Operand.tmp 38), (5, Operand.tmp 46), (2, Operand.tmp 52), (3, Operand.tmp 58)], type := 30, pos := "ranges.go:42", after := #[{ on := 2, ground := Ground.data }, { on := 5, ground := Ground.data }, { on := 10, ground := Ground.data }, { on := 18, ground := Ground.data }, { on := 24, ground := Ground.data }, { on := 30, ground := Ground.data }], guard := none },
  { dst := none, op := Op.store 30 (Operand.tmp 4) (Operand.tmp 59), type := 0, pos := "ranges.go:42", after := #[{ on := 31, ground := Ground.data }, { on := 18, ground := Ground.chain }, { on := 0, ground := Ground.phase }, { on := 1, ground := Ground.phase }, { on := 2, ground := Ground.phase }, { on := 3, ground := Ground.phase }, { on := 4, ground := Ground.phase }, { on := 5, ground := Ground.phase }, { on := 6, ground := Ground.phase }, { on := 7, ground := Ground.phase }, { on := 8, ground := Ground.phase }, { on := 9, ground := Ground.phase }, { on := 10, ground := Ground.phase }, { on := 11, ground := Ground.phase }, { on := 12, ground := Ground.phase }, { on := 13, ground := Ground.phase }, { on := 14, ground := Ground.phase }, { on := 15, ground := Ground.phase }, { on := 16, ground := Ground.phase }, { on := 17, ground := Ground.phase }, { on := 18, ground := Ground.phase }, { on := 19, ground := Ground.phase }, { on := 20, ground := Ground.phase }, { on := 21, ground := Ground.phase }, { on := 22, ground := Ground.phase }, { on := 23, ground := Ground.phase }, { on := 24, ground := Ground.phase }, { on := 25, ground := Ground.phase }, { on := 26, ground := Ground.phase }, { on := 27, ground := Ground.phase }, { on := 28, ground := Ground.phase }, { on := 29, ground := Ground.phase }, { on := 30, ground := Ground.phase }, { on := 31, ground := Ground.phase }], guard := none },
  { dst := some 5, op := Op.assign (Operand.const (Value.int IntKind.i64 0)), type := 31, pos := "ranges.go:42", after := #[{ on := 32, ground := Ground.chain }, { on := 0, ground := Ground.phase }, { on := 1, ground := Ground.phase }, { on := 2, ground := Ground.phase }, { on := 3, ground := Ground.phase }, { on := 4, ground := Ground.phase }, { on := 5, ground := Ground.phase }, { on := 6, ground := Ground.phase }, { on := 7, ground := Ground.phase }, { on := 8, ground := Ground.phase }, { on := 9, ground := Ground.phase }, { on := 10, ground := Ground.phase }, { on := 11, ground := Ground.phase }, { on := 12, ground := Ground.phase }, { on := 13, ground := Ground.phase }, { on := 14, ground := Ground.phase }, { on := 15, ground := Ground.phase }, { on := 16, ground := Ground.phase }, { on := 17, ground := Ground.phase }, { on := 18, ground := Ground.phase }, { on := 19, ground := Ground.phase }, { on := 20, ground := Ground.phase }, { on := 21, ground := Ground.phase }, { on := 22, ground := Ground.phase }, { on := 23, ground := Ground.phase }, { on := 24, ground := Ground.phase }, { on := 25, ground := Ground.phase }, { on := 26, ground := Ground.phase }, { on := 27, ground := Ground.phase }, { on := 28, ground := Ground.phase }, { on := 29, ground := Ground.phase }, { on := 30, ground := Ground.phase }, { on := 31, ground := Ground.phase }, { on := 32, ground := Ground.phase }], guard := none }]
set_option maxRecDepth 100000 in
set_option maxHeartbeats 16000000 in
theorem rt7 (Q : Exit → Act → World → Prop) (T b n m p1 p2 p3 p4 : Nat) (l0 l1 l2 l3 : E4) (g : Nat → E4) (u0 u1 u2 u3 u5 u8 u9 u10 u11 u12 u13 u14 u15 u16 u17 u18 u19 u20 u21 u22 u23 u24 u25 u26 u27 u28 u29 u30 u31 u32 u33 u34 u35 u36 u37 u38 u39 u40 u41 u42 u43 u44 u45 u46 u47 u48 u49 u50 u51 u52 u53 u54 u55 u56 u57 u58 u59 : Value) (W : World) (nT : b ≠ T) (ht : W.there T 0 18) (hm : m = 2 * n + 4) (hn : n ≤ 1024) (e1 : p1 = n + 2) (e2 : p2 = 2 * n) (e3 : p3 = 2 * n + 2) (e4 : p4 = 2 * n + 3)
    (c00 : W.cell? ⟨b, 0, none⟩ = some (.int .u64 l0.x0)) (c01 : W.cell? ⟨b, 1, none⟩ = some (.int .u64 l0.x1)) (c02 : W.cell? ⟨b, 2, none⟩ = some (.int .u64 l0.x2)) (c03 : W.cell? ⟨b, 3, none⟩ = some (.int .u64 l0.x3)) (c10 : W.cell? ⟨b, 4, none⟩ = some (.int .u64 l1.x0)) (c11 : W.cell? ⟨b, 5, none⟩ = some (.int .u64 l1.x1)) (c12 : W.cell? ⟨b, 6, none⟩ = some (.int .u64 l1.x2)) (c13 : W.cell? ⟨b, 7, none⟩ = some (.int .u64 l1.x3)) (c20 : W.cell? ⟨b, p3 * 4, none⟩ = some (.int .u64 l2.x0)) (c21 : W.cell? ⟨b, p3 * 4 + 1, none⟩ = some (.int .u64 l2.x1)) (c22 : W.cell? ⟨b, p3 * 4 + 2, none⟩ = some (.int .u64 l2.x2)) (c23 : W.cell? ⟨b, p3 * 4 + 3, none⟩ = some (.int .u64 l2.x3)) (c30 : W.cell? ⟨b, p4 * 4, none⟩ = some (.int .u64 l3.x0)) (c31 : W.cell? ⟨b, p4 * 4 + 1, none⟩ = some (.int .u64 l3.x1)) (c32 : W.cell? ⟨b, p4 * 4 + 2, none⟩ = some (.int .u64 l3.x2)) (c33 : W.cell? ⟨b, p4 * 4 + 3, none⟩ = some (.int .u64 l3.x3))
    (C0 : Hid (∀ x, W.grownBy x (some T) → Calls Tryd.prog 17 #[.slice (some ⟨b, 8, none⟩) n (m - 2)] x fun e w' => ∃ q d : Nat, e = .returned (.slice (some ⟨q, 0, none⟩) n d) ∧ x.heap.size ≤ q ∧ n ≤ d ∧ Rws w' q n (fun k => g (2 + k)) ∧ Below x.heap.size x w'))
    (C1 : Hid (∀ x, W.grownBy x (some T) → Calls Tryd.prog 17 #[.slice (some ⟨b, p1 * 4, none⟩) n (m - p1)] x fun e w' => ∃ q d : Nat, e = .returned (.slice (some ⟨q, 0, none⟩) n d) ∧ x.heap.size ≤ q ∧ n ≤ d ∧ Rws w' q n (fun k => g (p1 + k)) ∧ Below x.heap.size x w'))
    (HQ : Hid (∀ q1 d1 q2 d2 wy, Below W.heap.size W wy → W.heap.size ≤ q1 → W.heap.size ≤ q2 → Rws wy q1 n (fun k => g (2 + k)) → Rws wy q2 n (fun k => g (p1 + k)) → Q .normal ⟨#[u0, u1, u2, u3, .pointer (some ⟨T, 0, none⟩), .int .i64 0, .int .i64 (n : Int), .slice (some ⟨b, 0, none⟩) m m, u8, u9, u10, u11, u12, u13, u14, u15, u16, u17, u18, u19, u20, u21, u22, u23, u24, u25, u26, u27, .slice (some ⟨b, 0, none⟩) m m, .pointer (some ⟨b, 0, none⟩), .agg #[.int .u64 l0.x0, .int .u64 l0.x1, .int .u64 l0.x2, .int .u64 l0.x3], .slice (some ⟨b, 0, none⟩) m m, .pointer (some ⟨b, 4, none⟩), .agg #[.int .u64 l1.x0, .int .u64 l1.x1, .int .u64 l1.x2, .int .u64 l1.x3], .slice (some ⟨b, 0, none⟩) m m, .int .i64 (n : Int), .int .i64 (p1 : Int), .slice (some ⟨b, 8, none⟩) n (m - 2), .slice (some ⟨q1, 0, none⟩) n d1, .slice (some ⟨b, 0, none⟩) m m, .int .i64 (n : Int), .int .i64 (p1 : Int), .int .i64 (n : Int), .int .i64 (p2 : Int), .int .i64 (p3 : Int), .slice (some ⟨b, p1 * 4, none⟩) n (m - p1), .slice (some ⟨q2, 0, none⟩) n d2, .slice (some ⟨b, 0, none⟩) m m, .int .i64 (n : Int), .int .i64 (p2 : Int), .int .i64 (p3 : Int), .pointer (some ⟨b, p3 * 4, none⟩), .agg #[.int .u64 l2.x0, .int .u64 l2.x1, .int .u64 l2.x2, .int .u64 l2.x3], .slice (some ⟨b, 0, none⟩) m m, .int .i64 (n : Int), .int .i64 (p2 : Int), .int .i64 (p4 : Int), .pointer (some ⟨b, p4 * 4, none⟩), .agg #[.int .u64 l3.x0, .int .u64 l3.x1, .int .u64 l3.x2, .int .u64 l3.x3], .agg (tc l0 l1 l2 l3 (.slice (some ⟨q1, 0, none⟩) n d1) (.slice (some ⟨q2, 0, none⟩) n d2)).toArray], []⟩ (wy.setCells T 0 (tc l0 l1 l2 l3 (.slice (some ⟨q1, 0, none⟩) n d1) (.slice (some ⟨q2, 0, none⟩) n d2))))) : (Code.region 7 rt7o true).wp Tryd.prog Q ⟨#[u0, u1, u2, u3, .pointer (some ⟨T, 0, none⟩), u5, .int .i64 (n : Int), .slice (some ⟨b, 0, none⟩) m m, u8, u9, u10, u11, u12, u13, u14, u15, u16, u17, u18, u19, u20, u21, u22, u23, u24, u25, u26, u27, u28, u29, u30, u31, u32, u33, u34, u35, u36, u37, u38, u39, u40, u41, u42, u43, u44, u45, u46, u47, u48, u49, u50, u51, u52, u53, u54, u55, u56, u57, u58, u59], []⟩ W := by
  have B0 := hidden (bl_drew W)
  have HT := hidden ht
  have w1 : IntKind.i64.wrap (2 + (n : Int)) = (p1 : Int) := by rw [IntWalk.i64_in _ (by omega)]; omega
  have w2 : IntKind.i64.wrap (2 * (n : Int)) = (p2 : Int) := by rw [IntWalk.i64_in _ (by omega)]; omega
  have w3 : IntKind.i64.wrap (2 + (p2 : Int)) = (p3 : Int) := by rw [IntWalk.i64_in _ (by omega)]; omega
  have w4 : IntKind.i64.wrap (3 + (p2 : Int)) = (p4 : Int) := by rw [IntWalk.i64_in _ (by omega)]; omega
  have i0 : (0 : Int) < (m : Int) := by omega
  have i00 : ¬ m = 0 := by omega
  have i1 : (1 : Int) < (m : Int) := by omega
  have i3 : (p3 : Int) < (m : Int) := by omega
  have i4 : (p4 : Int) < (m : Int) := by omega
  have s1 : (2 : Int) ≤ (p1 : Int) := by omega
  have s2 : (p1 : Int) ≤ (m : Int) := by omega
  have s3 : (p1 : Int) ≤ (p3 : Int) := by omega
  have s4 : (p3 : Int) ≤ (m : Int) := by omega
  have s5 : p1 - 2 = n := by omega
  have s6 : p3 - p1 = n := by omega
  have s7 : ¬ m = 2 := by omega
  have s8 : ¬ m = p1 := by omega
  have s9 : (m : Int) - 2 = ((m - 2 : Nat) : Int) := by omega
  clear ht hm hn e1 e2 e3 e4
  unfold rt7o
  refine wp_region_noPanic ?_
  refine wp_region_held_drew (S := fun x => W.grownBy x (some T)) (by kernel_rfl) (gbI (bl_drew W) _) (fun hHeld => ?_)
  refine wpAnyH_take (i := 0) (oi := { dst := some 28, op := Op.move (Operand.tmp 7), type := 28, pos := "ranges.go:42", after := #[], guard := none }) (v := .slice (some ⟨b, 0, none⟩) m m) rfl (by kernel_rfl) (by kernel_rfl) (by kernel_rfl) (fun _ _ _ h => h) (Or.inl ⟨by rfl, fun w0 hSw => ?_⟩) hHeld ?_
  · (clear hSw; go_simp)
  simp only [Act.put, List.setIfInBounds_toArray, List.set_cons_zero, List.set_cons_succ]
  refine wpAnyH_take (i := 1) (oi := { dst := some 29, op := Op.indexAddr 28 (Operand.tmp 28) (Operand.const (Value.int IntKind.i64 0)), type := 0, pos := "ranges.go:42", after := #[{ on := 0, ground := Ground.data }], guard := none }) (v := .pointer (some ⟨b, 0, none⟩)) rfl (by kernel_rfl) (by kernel_rfl) (by kernel_rfl) (fun _ _ _ h => h) (Or.inl ⟨by rfl, fun w0 hSw => ?_⟩) hHeld ?_
  · (clear hSw; go_simp)
  simp only [Act.put, List.setIfInBounds_toArray, List.set_cons_zero, List.set_cons_succ]
  refine wpAnyH_take (i := 2) (oi := { dst := some 30, op := Op.load 27 (Operand.tmp 29), type := 27, pos := "ranges.go:42", after := #[{ on := 1, ground := Ground.data }], guard := none }) (v := .agg #[.int .u64 l0.x0, .int .u64 l0.x1, .int .u64 l0.x2, .int .u64 l0.x3]) rfl (by kernel_rfl) (by kernel_rfl) (by kernel_rfl) (fun _ _ _ h => h) (Or.inl ⟨by rfl, fun w0 hSw => ?_⟩) hHeld ?_
  · (have hS : W.grownBy w0 (some T) := hSw; have a0 := hS.cell c00 (fun e => nT (Option.some.inj e)); have a1 := hS.cell c01 (fun e => nT (Option.some.inj e)); have a2 := hS.cell c02 (fun e => nT (Option.some.inj e)); have a3 := hS.cell c03 (fun e => nT (Option.some.inj e)); clear hS hSw; go_simp)
  simp only [Act.put, List.setIfInBounds_toArray, List.set_cons_zero, List.set_cons_succ]
  refine wpAnyH_take (i := 3) (oi := { dst := some 31, op := Op.move (Operand.tmp 7), type := 28, pos := "ranges.go:42", after := #[], guard := none }) (v := .slice (some ⟨b, 0, none⟩) m m) rfl (by kernel_rfl) (by kernel_rfl) (by kernel_rfl) (fun _ _ _ h => h) (Or.inl ⟨by rfl, fun w0 hSw => ?_⟩) hHeld ?_
  · (clear hSw; go_simp)
  simp only [Act.put, List.setIfInBounds_toArray, List.set_cons_zero, List.set_cons_succ]
  refine wpAnyH_take (i := 4) (oi := { dst := some 32, op := Op.indexAddr 28 (Operand.tmp 31) (Operand.const (Value.int IntKind.i64 1)), type := 0, pos := "ranges.go:42", after := #[{ on := 3, ground := Ground.data }], guard := none }) (v := .pointer (some ⟨b, 4, none⟩)) rfl (by kernel_rfl) (by kernel_rfl) (by kernel_rfl) (fun _ _ _ h => h) (Or.inl ⟨by rfl, fun w0 hSw => ?_⟩) hHeld ?_
  · (clear hSw; go_simp)
  simp only [Act.put, List.setIfInBounds_toArray, List.set_cons_zero, List.set_cons_succ]
  refine wpAnyH_take (i := 5) (oi := { dst := some 33, op := Op.load 27 (Operand.tmp 32), type := 27, pos := "ranges.go:42", after := #[{ on := 4, ground := Ground.data }], guard := none }) (v := .agg #[.int .u64 l1.x0, .int .u64 l1.x1, .int .u64 l1.x2, .int .u64 l1.x3]) rfl (by kernel_rfl) (by kernel_rfl) (by kernel_rfl) (fun _ _ _ h => h) (Or.inl ⟨by rfl, fun w0 hSw => ?_⟩) hHeld ?_
  · (have hS : W.grownBy w0 (some T) := hSw; have a0 := hS.cell c10 (fun e => nT (Option.some.inj e)); have a1 := hS.cell c11 (fun e => nT (Option.some.inj e)); have a2 := hS.cell c12 (fun e => nT (Option.some.inj e)); have a3 := hS.cell c13 (fun e => nT (Option.some.inj e)); clear hS hSw; go_simp)
  simp only [Act.put, List.setIfInBounds_toArray, List.set_cons_zero, List.set_cons_succ]
  refine wpAnyH_take (i := 6) (oi := { dst := some 34, op := Op.move (Operand.tmp 7), type := 28, pos := "ranges.go:42", after := #[], guard := none }) (v := .slice (some ⟨b, 0, none⟩) m m) rfl (by kernel_rfl) (by kernel_rfl) (by kernel_rfl) (fun _ _ _ h => h) (Or.inl ⟨by rfl, fun w0 hSw => ?_⟩) hHeld ?_
  · (clear hSw; go_simp)
  simp only [Act.put, List.setIfInBounds_toArray, List.set_cons_zero, List.set_cons_succ]
  refine wpAnyH_take (i := 7) (oi := { dst := some 35, op := Op.move (Operand.tmp 6), type := 3, pos := "ranges.go:42", after := #[], guard := none }) (v := .int .i64 (n : Int)) rfl (by kernel_rfl) (by kernel_rfl) (by kernel_rfl) (fun _ _ _ h => h) (Or.inl ⟨by rfl, fun w0 hSw => ?_⟩) hHeld ?_
  · (clear hSw; go_simp)
  simp only [Act.put, List.setIfInBounds_toArray, List.set_cons_zero, List.set_cons_succ]
  refine wpAnyH_take (i := 8) (oi := { dst := some 36, op := Op.binOp BinOp.add 3 (Operand.const (Value.int IntKind.i64 2)) (Operand.tmp 35) 3, type := 3, pos := "ranges.go:42", after := #[{ on := 7, ground := Ground.data }], guard := none }) (v := .int .i64 (p1 : Int)) rfl (by kernel_rfl) (by kernel_rfl) (by kernel_rfl) (fun _ _ _ h => h) (Or.inl ⟨by rfl, fun w0 hSw => ?_⟩) hHeld ?_
  · (clear hSw; go_simp)
  simp only [Act.put, List.setIfInBounds_toArray, List.set_cons_zero, List.set_cons_succ]
  refine wpAnyH_take (i := 9) (oi := { dst := some 37, op := Op.slice 28 (Operand.tmp 34) (some (Operand.const (Value.int IntKind.i64 2))) (some (Operand.tmp 36)) none, type := 28, pos := "ranges.go:42", after := #[{ on := 6, ground := Ground.data }, { on := 8, ground := Ground.data }], guard := none }) (v := .slice (some ⟨b, 8, none⟩) n (m - 2)) rfl (by kernel_rfl) (by kernel_rfl) (by kernel_rfl) (fun _ _ _ h => h) (Or.inl ⟨by rfl, fun w0 hSw => ?_⟩) hHeld ?_
  · (clear hSw; go_simp)
  simp only [Act.put, List.setIfInBounds_toArray, List.set_cons_zero, List.set_cons_succ]
  refine wpAnyH_take (i := 11) (oi := { dst := some 39, op := Op.move (Operand.tmp 7), type := 28, pos := "ranges.go:42", after := #[], guard := none }) (v := .slice (some ⟨b, 0, none⟩) m m) rfl (by kernel_rfl) (by kernel_rfl) (by kernel_rfl) (fun _ _ _ h => h) (Or.inl ⟨by rfl, fun w0 hSw => ?_⟩) hHeld ?_
  · (clear hSw; go_simp)
  simp only [Act.put, List.setIfInBounds_toArray, List.set_cons_zero, List.set_cons_succ]
  refine wpAnyH_take (i := 12) (oi := { dst := some 40, op := Op.move (Operand.tmp 6), type := 3, pos := "ranges.go:42", after := #[], guard := none }) (v := .int .i64 (n : Int)) rfl (by kernel_rfl) (by kernel_rfl) (by kernel_rfl) (fun _ _ _ h => h) (Or.inl ⟨by rfl, fun w0 hSw => ?_⟩) hHeld ?_
  · (clear hSw; go_simp)
  simp only [Act.put, List.setIfInBounds_toArray, List.set_cons_zero, List.set_cons_succ]
  refine wpAnyH_take (i := 13) (oi := { dst := some 41, op := Op.binOp BinOp.add 3 (Operand.const (Value.int IntKind.i64 2)) (Operand.tmp 40) 3, type := 3, pos := "ranges.go:42", after := #[{ on := 12, ground := Ground.data }], guard := none }) (v := .int .i64 (p1 : Int)) rfl (by kernel_rfl) (by kernel_rfl) (by kernel_rfl) (fun _ _ _ h => h) (Or.inl ⟨by rfl, fun w0 hSw => ?_⟩) hHeld ?_
  · (clear hSw; go_simp)
  simp only [Act.put, List.setIfInBounds_toArray, List.set_cons_zero, List.set_cons_succ]
  refine wpAnyH_take (i := 14) (oi := { dst := some 42, op := Op.move (Operand.tmp 6), type := 3, pos := "ranges.go:42", after := #[], guard := none }) (v := .int .i64 (n : Int)) rfl (by kernel_rfl) (by kernel_rfl) (by kernel_rfl) (fun _ _ _ h => h) (Or.inl ⟨by rfl, fun w0 hSw => ?_⟩) hHeld ?_
  · (clear hSw; go_simp)
  simp only [Act.put, List.setIfInBounds_toArray, List.set_cons_zero, List.set_cons_succ]
  refine wpAnyH_take (i := 15) (oi := { dst := some 43, op := Op.binOp BinOp.mul 3 (Operand.const (Value.int IntKind.i64 2)) (Operand.tmp 42) 3, type := 3, pos := "ranges.go:42", after := #[{ on := 14, ground := Ground.data }], guard := none }) (v := .int .i64 (p2 : Int)) rfl (by kernel_rfl) (by kernel_rfl) (by kernel_rfl) (fun _ _ _ h => h) (Or.inl ⟨by rfl, fun w0 hSw => ?_⟩) hHeld ?_
  · (clear hSw; go_simp)
  simp only [Act.put, List.setIfInBounds_toArray, List.set_cons_zero, List.set_cons_succ]
  refine wpAnyH_take (i := 16) (oi := { dst := some 44, op := Op.binOp BinOp.add 3 (Operand.const (Value.int IntKind.i64 2)) (Operand.tmp 43) 3, type := 3, pos := "ranges.go:42", after := #[{ on := 15, ground := Ground.data }], guard := none }) (v := .int .i64 (p3 : Int)) rfl (by kernel_rfl) (by kernel_rfl) (by kernel_rfl) (fun _ _ _ h => h) (Or.inl ⟨by rfl, fun w0 hSw => ?_⟩) hHeld ?_
  · (clear hSw; go_simp)
  simp only [Act.put, List.setIfInBounds_toArray, List.set_cons_zero, List.set_cons_succ]
  refine wpAnyH_take (i := 17) (oi := { dst := some 45, op := Op.slice 28 (Operand.tmp 39) (some (Operand.tmp 41)) (some (Operand.tmp 44)) none, type := 28, pos := "ranges.go:42", after := #[{ on := 11, ground := Ground.data }, { on := 13, ground := Ground.data }, { on := 16, ground := Ground.data }], guard := none }) (v := .slice (some ⟨b, p1 * 4, none⟩) n (m - p1)) rfl (by kernel_rfl) (by kernel_rfl) (by kernel_rfl) (fun _ _ _ h => h) (Or.inl ⟨by rfl, fun w0 hSw => ?_⟩) hHeld ?_
  · (clear hSw; go_simp)
  simp only [Act.put, List.setIfInBounds_toArray, List.set_cons_zero, List.set_cons_succ]
  refine wpAnyH_take (i := 19) (oi := { dst := some 47, op := Op.move (Operand.tmp 7), type := 28, pos := "ranges.go:42", after := #[], guard := none }) (v := .slice (some ⟨b, 0, none⟩) m m) rfl (by kernel_rfl) (by kernel_rfl) (by kernel_rfl) (fun _ _ _ h => h) (Or.inl ⟨by rfl, fun w0 hSw => ?_⟩) hHeld ?_
  · (clear hSw; go_simp)
  simp only [Act.put, List.setIfInBounds_toArray, List.set_cons_zero, List.set_cons_succ]
  refine wpAnyH_take (i := 20) (oi := { dst := some 48, op := Op.move (Operand.tmp 6), type := 3, pos := "ranges.go:42", after := #[], guard := none }) (v := .int .i64 (n : Int)) rfl (by kernel_rfl) (by kernel_rfl) (by kernel_rfl) (fun _ _ _ h => h) (Or.inl ⟨by rfl, fun w0 hSw => ?_⟩) hHeld ?_
  · (clear hSw; go_simp)
  simp only [Act.put, List.setIfInBounds_toArray, List.set_cons_zero, List.set_cons_succ]
  refine wpAnyH_take (i := 21) (oi := { dst := some 49, op := Op.binOp BinOp.mul 3 (Operand.const (Value.int IntKind.i64 2)) (Operand.tmp 48) 3, type := 3, pos := "ranges.go:42", after := #[{ on := 20, ground := Ground.data }], guard := none }) (v := .int .i64 (p2 : Int)) rfl (by kernel_rfl) (by kernel_rfl) (by kernel_rfl) (fun _ _ _ h => h) (Or.inl ⟨by rfl, fun w0 hSw => ?_⟩) hHeld ?_
  · (clear hSw; go_simp)
  simp only [Act.put, List.setIfInBounds_toArray, List.set_cons_zero, List.set_cons_succ]
  refine wpAnyH_take (i := 22) (oi := { dst := some 50, op := Op.binOp BinOp.add 3 (Operand.const (Value.int IntKind.i64 2)) (Operand.tmp 49) 3, type := 3, pos := "ranges.go:42", after := #[{ on := 21, ground := Ground.data }], guard := none }) (v := .int .i64 (p3 : Int)) rfl (by kernel_rfl) (by kernel_rfl) (by kernel_rfl) (fun _ _ _ h => h) (Or.inl ⟨by rfl, fun w0 hSw => ?_⟩) hHeld ?_
  · (clear hSw; go_simp)
  simp only [Act.put, List.setIfInBounds_toArray, List.set_cons_zero, List.set_cons_succ]
  refine wpAnyH_take (i := 23) (oi := { dst := some 51, op := Op.indexAddr 28 (Operand.tmp 47) (Operand.tmp 50), type := 0, pos := "ranges.go:42", after := #[{ on := 19, ground := Ground.data }, { on := 22, ground := Ground.data }], guard := none }) (v := .pointer (some ⟨b, p3 * 4, none⟩)) rfl (by kernel_rfl) (by kernel_rfl) (by kernel_rfl) (fun _ _ _ h => h) (Or.inl ⟨by rfl, fun w0 hSw => ?_⟩) hHeld ?_
  · (clear hSw; go_simp)
  simp only [Act.put, List.setIfInBounds_toArray, List.set_cons_zero, List.set_cons_succ]
  refine wpAnyH_take (i := 24) (oi := { dst := some 52, op := Op.load 27 (Operand.tmp 51), type := 27, pos := "ranges.go:42", after := #[{ on := 23, ground := Ground.data }], guard := none }) (v := .agg #[.int .u64 l2.x0, .int .u64 l2.x1, .int .u64 l2.x2, .int .u64 l2.x3]) rfl (by kernel_rfl) (by kernel_rfl) (by kernel_rfl) (fun _ _ _ h => h) (Or.inl ⟨by rfl, fun w0 hSw => ?_⟩) hHeld ?_
  · (have hS : W.grownBy w0 (some T) := hSw; have a0 := hS.cell c20 (fun e => nT (Option.some.inj e)); have a1 := hS.cell c21 (fun e => nT (Option.some.inj e)); have a2 := hS.cell c22 (fun e => nT (Option.some.inj e)); have a3 := hS.cell c23 (fun e => nT (Option.some.inj e)); clear hS hSw; go_simp)
  simp only [Act.put, List.setIfInBounds_toArray, List.set_cons_zero, List.set_cons_succ]
  refine wpAnyH_take (i := 25) (oi := { dst := some 53, op := Op.move (Operand.tmp 7), type := 28, pos := "ranges.go:42", after := #[], guard := none }) (v := .slice (some ⟨b, 0, none⟩) m m) rfl (by kernel_rfl) (by kernel_rfl) (by kernel_rfl) (fun _ _ _ h => h) (Or.inl ⟨by rfl, fun w0 hSw => ?_⟩) hHeld ?_
  · (clear hSw; go_simp)
  simp only [Act.put, List.setIfInBounds_toArray, List.set_cons_zero, List.set_cons_succ]
  refine wpAnyH_take (i := 26) (oi := { dst := some 54, op := Op.move (Operand.tmp 6), type := 3, pos := "ranges.go:42", after := #[], guard := none }) (v := .int .i64 (n : Int)) rfl (by kernel_rfl) (by kernel_rfl) (by kernel_rfl) (fun _ _ _ h => h) (Or.inl ⟨by rfl, fun w0 hSw => ?_⟩) hHeld ?_
  · (clear hSw; go_simp)
  simp only [Act.put, List.setIfInBounds_toArray, List.set_cons_zero, List.set_cons_succ]
  refine wpAnyH_take (i := 27) (oi := { dst := some 55, op := Op.binOp BinOp.mul 3 (Operand.const (Value.int IntKind.i64 2)) (Operand.tmp 54) 3, type := 3, pos := "ranges.go:42", after := #[{ on := 26, ground := Ground.data }], guard := none }) (v := .int .i64 (p2 : Int)) rfl (by kernel_rfl) (by kernel_rfl) (by kernel_rfl) (fun _ _ _ h => h) (Or.inl ⟨by rfl, fun w0 hSw => ?_⟩) hHeld ?_
  · (clear hSw; go_simp)
  simp only [Act.put, List.setIfInBounds_toArray, List.set_cons_zero, List.set_cons_succ]
  refine wpAnyH_take (i := 28) (oi := { dst := some 56, op := Op.binOp BinOp.add 3 (Operand.const (Value.int IntKind.i64 3)) (Operand.tmp 55) 3, type := 3, pos := "ranges.go:42", after := #[{ on := 27, ground := Ground.data }], guard := none }) (v := .int .i64 (p4 : Int)) rfl (by kernel_rfl) (by kernel_rfl) (by kernel_rfl) (fun _ _ _ h => h) (Or.inl ⟨by rfl, fun w0 hSw => ?_⟩) hHeld ?_
  · (clear hSw; go_simp)
  simp only [Act.put, List.setIfInBounds_toArray, List.set_cons_zero, List.set_cons_succ]
  refine wpAnyH_take (i := 29) (oi := { dst := some 57, op := Op.indexAddr 28 (Operand.tmp 53) (Operand.tmp 56), type := 0, pos := "ranges.go:42", after := #[{ on := 25, ground := Ground.data }, { on := 28, ground := Ground.data }], guard := none }) (v := .pointer (some ⟨b, p4 * 4, none⟩)) rfl (by kernel_rfl) (by kernel_rfl) (by kernel_rfl) (fun _ _ _ h => h) (Or.inl ⟨by rfl, fun w0 hSw => ?_⟩) hHeld ?_
  · (clear hSw; go_simp)
  simp only [Act.put, List.setIfInBounds_toArray, List.set_cons_zero, List.set_cons_succ]
  refine wpAnyH_take (i := 30) (oi := { dst := some 58, op := Op.load 27 (Operand.tmp 57), type := 27, pos := "ranges.go:42", after := #[{ on := 29, ground := Ground.data }], guard := none }) (v := .agg #[.int .u64 l3.x0, .int .u64 l3.x1, .int .u64 l3.x2, .int .u64 l3.x3]) rfl (by kernel_rfl) (by kernel_rfl) (by kernel_rfl) (fun _ _ _ h => h) (Or.inl ⟨by rfl, fun w0 hSw => ?_⟩) hHeld ?_
  · (have hS : W.grownBy w0 (some T) := hSw; have a0 := hS.cell c30 (fun e => nT (Option.some.inj e)); have a1 := hS.cell c31 (fun e => nT (Option.some.inj e)); have a2 := hS.cell c32 (fun e => nT (Option.some.inj e)); have a3 := hS.cell c33 (fun e => nT (Option.some.inj e)); clear hS hSw; go_simp)
  simp only [Act.put, List.setIfInBounds_toArray, List.set_cons_zero, List.set_cons_succ]
  refine wpAnyH_ready (rs := [10]) (by kernel_rfl) (by simp) ?_
  refine AllReadyH.cons (o := { dst := some 38, op := Op.call { callee := Callee.value (Operand.func 17), args := #[Operand.tmp 37], argTypes := #[28] }, type := 28, pos := "ranges.go:45", after := #[{ on := 9, ground := Ground.data }], guard := none }) rfl (fun K hK => ?_) AllReadyH.nil
  have HH := hidden hHeld
  clear hHeld
  go_simp
  refine (C0.out _ HH.out).mono ?_
  rintro e wn1 ⟨q1, d1, rfl, hq, hd, hr, hb⟩
  have R1 := hidden hr
  have N1 := hidden (Nat.le_trans B0.out.size hq)
  clear hr hq hd
  replace B0 := hidden (bl_trans B0.out hb)
  have SN := hidden (HH.out.trans (gbI hb _))
  clear HH hb C0
  go_wp2_with fail
  refine hK.out _ _ SN.out (fun hHeld1 => ?_)
  clear hK K SN
  refine wpAnyH_ready (rs := [18]) (by kernel_rfl) (by simp) ?_
  refine AllReadyH.cons (o := { dst := some 46, op := Op.call { callee := Callee.value (Operand.func 17), args := #[Operand.tmp 45], argTypes := #[28] }, type := 28, pos := "ranges.go:46", after := #[{ on := 17, ground := Ground.data }, { on := 10, ground := Ground.chain }], guard := none }) rfl (fun K hK => ?_) AllReadyH.nil
  have HH := hidden hHeld1
  clear hHeld1
  go_simp
  refine (C1.out _ HH.out).mono ?_
  rintro e wn2 ⟨q2, d2, rfl, hq, hd, hr, hb⟩
  have R2 := hidden hr
  have N2 := hidden (Nat.le_trans B0.out.size hq)
  clear hr hq hd
  replace R1 := hidden (R1.out.keep hb)
  replace B0 := hidden (bl_trans B0.out hb)
  have SN := hidden (HH.out.trans (gbI hb _))
  clear HH hb C1
  go_wp2_with fail
  refine hK.out _ _ SN.out (fun hHeld2 => ?_)
  clear hK K SN
  refine wpAnyH_take (i := 31) (oi := { dst := some 59, op := Op.build 30 #[(0, Operand.tmp 30), (1, Operand.tmp 33), (4, Operand.tmp 38), (5, Operand.tmp 46), (2, Operand.tmp 52), (3, Operand.tmp 58)], type := 30, pos := "ranges.go:42", after := #[{ on := 2, ground := Ground.data }, { on := 5, ground := Ground.data }, { on := 10, ground := Ground.data }, { on := 18, ground := Ground.data }, { on := 24, ground := Ground.data }, { on := 30, ground := Ground.data }], guard := none }) (v := .agg (tc l0 l1 l2 l3 (.slice (some ⟨q1, 0, none⟩) n d1) (.slice (some ⟨q2, 0, none⟩) n d2)).toArray) rfl (by kernel_rfl) (by kernel_rfl) (by kernel_rfl) (fun _ _ _ h => h) (Or.inl ⟨by rfl, fun w0 hSw => by kernel_rfl⟩) hHeld2 ?_
  simp only [Act.put, List.setIfInBounds_toArray, List.set_cons_zero, List.set_cons_succ]
  refine wpAnyH_ready (rs := [32]) (by kernel_rfl) (by simp) ?_
  refine AllReadyH.cons (o := { dst := none, op := Op.store 30 (Operand.tmp 4) (Operand.tmp 59), type := 0, pos := "ranges.go:42", after := #[{ on := 31, ground := Ground.data }, { on := 18, ground := Ground.chain }, { on := 0, ground := Ground.phase }, { on := 1, ground := Ground.phase }, { on := 2, ground := Ground.phase }, { on := 3, ground := Ground.phase }, { on := 4, ground := Ground.phase }, { on := 5, ground := Ground.phase }, { on := 6, ground := Ground.phase }, { on := 7, ground := Ground.phase }, { on := 8, ground := Ground.phase }, { on := 9, ground := Ground.phase }, { on := 10, ground := Ground.phase }, { on := 11, ground := Ground.phase }, { on := 12, ground := Ground.phase }, { on := 13, ground := Ground.phase }, { on := 14, ground := Ground.phase }, { on := 15, ground := Ground.phase }, { on := 16, ground := Ground.phase }, { on := 17, ground := Ground.phase }, { on := 18, ground := Ground.phase }, { on := 19, ground := Ground.phase }, { on := 20, ground := Ground.phase }, { on := 21, ground := Ground.phase }, { on := 22, ground := Ground.phase }, { on := 23, ground := Ground.phase }, { on := 24, ground := Ground.phase }, { on := 25, ground := Ground.phase }, { on := 26, ground := Ground.phase }, { on := 27, ground := Ground.phase }, { on := 28, ground := Ground.phase }, { on := 29, ground := Ground.phase }, { on := 30, ground := Ground.phase }, { on := 31, ground := Ground.phase }], guard := none }) rfl (fun K hK => ?_) AllReadyH.nil
  have HH := hidden hHeld2
  clear hHeld2
  have TH := hidden (there_keepM HT.out B0.out)
  refine wp_store_mid 30 _ _ rfl T 0 (tc l0 l1 l2 l3 (.slice (some ⟨q1, 0, none⟩) n d1) (.slice (some ⟨q2, 0, none⟩) n d2)).toArray (by rfl) (by rfl) TH.out ptinfo (tc_one _ _ _ _ _ _ _ _ _ _) ?_
  have FQ := hidden (HQ.out q1 d1 q2 d2 _ B0.out N1.out N2.out R1.out R2.out)
  refine hK.out _ _ (HH.out.trans (gb_setCells T _ 0 _)) (fun hHb => ?_)
  clear hK K HH
  simp only [Act.put]
  refine wpAnyH_take (i := 33) (oi := { dst := some 5, op := Op.assign (Operand.const (Value.int IntKind.i64 0)), type := 31, pos := "ranges.go:42", after := #[{ on := 32, ground := Ground.chain }, { on := 0, ground := Ground.phase }, { on := 1, ground := Ground.phase }, { on := 2, ground := Ground.phase }, { on := 3, ground := Ground.phase }, { on := 4, ground := Ground.phase }, { on := 5, ground := Ground.phase }, { on := 6, ground := Ground.phase }, { on := 7, ground := Ground.phase }, { on := 8, ground := Ground.phase }, { on := 9, ground := Ground.phase }, { on := 10, ground := Ground.phase }, { on := 11, ground := Ground.phase }, { on := 12, ground := Ground.phase }, { on := 13, ground := Ground.phase }, { on := 14, ground := Ground.phase }, { on := 15, ground := Ground.phase }, { on := 16, ground := Ground.phase }, { on := 17, ground := Ground.phase }, { on := 18, ground := Ground.phase }, { on := 19, ground := Ground.phase }, { on := 20, ground := Ground.phase }, { on := 21, ground := Ground.phase }, { on := 22, ground := Ground.phase }, { on := 23, ground := Ground.phase }, { on := 24, ground := Ground.phase }, { on := 25, ground := Ground.phase }, { on := 26, ground := Ground.phase }, { on := 27, ground := Ground.phase }, { on := 28, ground := Ground.phase }, { on := 29, ground := Ground.phase }, { on := 30, ground := Ground.phase }, { on := 31, ground := Ground.phase }, { on := 32, ground := Ground.phase }], guard := none }) (v := .int .i64 0) rfl (by kernel_rfl) (by kernel_rfl) (by kernel_rfl) (fun _ _ _ h => h) (Or.inl ⟨by rfl, fun w0 hSw => ?_⟩) hHb ?_
  · (clear hSw; go_simp)
  simp only [Act.put, List.setIfInBounds_toArray, List.set_cons_zero, List.set_cons_succ]
  refine wpAnyH_done (by kernel_rfl) ?_ _
  refine NoPanic.normal ?_
  exact FQ.out
def rr8o : Array Oper := #[{ dst := some 29, op := Op.move (Operand.tmp 8), type := 35, pos := "ranges.go:93", after := #[], guard := none },
  { dst := some 30, op := Op.indexAddr 35 (Operand.tmp 29) (Operand.const (Value.int IntKind.i64 0)), type := 0, pos := "ranges.go:93", after := #[{ on := 0, ground := Ground.data }], guard := none },
  { dst := some 31, op := Op.load 34 (Operand.tmp 30), type := 34, pos := "ranges.go:93", after := #[{ on := 1, ground := Ground.data }], guard := none },
  { dst := some 32, op := Op.move (Operand.tmp 8), type := 35, pos := "ranges.go:93", after := #[], guard := none },
  { dst := some 33, op := Op.indexAddr 35 (Operand.tmp 32) (Operand.const (Value.int IntKind.i64 1)), type := 0, pos := "ranges.go:93", after := #[{ on := 3, ground := Ground.data }], guard := none },
  { dst := some 34, op := Op.load 34 (Operand.tmp 33), type := 34, pos := "ranges.go:93", after := #[{ on := 4, ground := Ground.data }], guard := none },
  { dst := some 35, op := Op.move (Operand.tmp 8), type := 35, pos := "ranges.go:93", after := #[], guard := none },
  { dst := some 36, op := Op.move (Operand.tmp 7), type := 3, pos := "ranges.go:93", after := #[], guard := none },
  { dst := some 37, op := Op.binOp BinOp.add 3 (Operand.const (Value.int IntKind.i64 2)) (Operand.tmp 36) 3, type := 3, pos := "ranges.go:93", after := #[{ on := 7, ground := Ground.data }], guard := none },
  { dst := some 38, op := Op.slice 35 (Operand.tmp 35) (some (Operand.const (Value.int IntKind.i64 2))) (some (Operand.tmp 37)) none, type := 35, pos := "ranges.go:93", after := #[{ on := 6, ground := Ground.data }, { on := 8, ground := Ground.data }], guard := none },
  { dst := some 39, op := Op.move (Operand.tmp 8), type := 35, pos := "ranges.go:93", after := #[], guard := none },
  { dst := some 40, op := Op.move (Operand.tmp 7), type := 3, pos := "ranges.go:93", after := #[], guard := none },
  { dst := some 41, op := Op.binOp BinOp.add 3 (Operand.const (Value.int IntKind.i64 2)) (Operand.tmp 40) 3, type := 3, pos := "ranges.go:93", after := #[{ on := 11, ground := Ground.data }], guard := none },
  { dst := some 42, op := Op.move (Operand.tmp 7), type := 3, pos := "ranges.go:93", after := #[], guard := none },
  { dst := some 43, op := Op.binOp BinOp.mul 3 (Operand.const (Value.int IntKind.i64 2)) (Operand.tmp 42) 3, type := 3, pos := "ranges.go:93", after := #[{ on := 13, ground := Ground.data }], guard := none },
  { dst := some 44, op := Op.binOp BinOp.add 3 (Operand.const (Value.int IntKind.i64 2)) (Operand.tmp 43) 3, type := 3, pos := "ranges.go:93", after := #[{ on := 14, ground := Ground.data }], guard := none },
  { dst := some 45, op := Op.slice 35 (Operand.tmp 39) (some (Operand.tmp 41)) (some (Operand.tmp 44)) none, type := 35, pos := "ranges.go:93", after := #[{ on := 10, ground := Ground.data }, { on := 12, ground := Ground.data }, { on := 15, ground := Ground.data }], guard := none },
  { dst := some 46, op := Op.move (Operand.tmp 8), type := 35, pos := "ranges.go:93", after := #[], guard := none },
  { dst := some 47, op := Op.move (Operand.tmp 7), type := 3, pos := "ranges.go:93", after := #[], guard := none },
  { dst := some 48, op := Op.binOp BinOp.mul 3 (Operand.const (Value.int IntKind.i64 2)) (Operand.tmp 47) 3, type := 3, pos := "ranges.go:93", after := #[{ on := 18, ground := Ground.data }], guard := none },
  { dst := some 49, op := Op.binOp BinOp.add 3 (Operand.const (Value.int IntKind.i64 2)) (Operand.tmp 48) 3, type := 3, pos := "ranges.go:93", after := #[{ on := 19, ground := Ground.data }], guard := none },
  { dst := some 50, op := Op.indexAddr 35 (Operand.tmp 46) (Operand.tmp 49), type := 0, pos := "ranges.go:93", after := #[{ on := 17, ground := Ground.data }, { on := 20, ground := Ground.data }], guard := none },
  { dst := some 51, op := Op.load 34 (Operand.tmp 50), type := 34, pos := "ranges.go:93", after := #[{ on := 21, ground := Ground.data }], guard := none },
  { dst := some 52, op := Op.move (Operand.tmp 8), type := 35, pos := "ranges.go:93", after := #[], guard := none },
  { dst := some 53, op := Op.move (Operand.tmp 7), type := 3, pos := "ranges.go:93", after := #[], guard := none },
  { dst := some 54, op := Op.binOp BinOp.mul 3 (Operand.const (Value.int IntKind.i64 2)) (Operand.tmp 53) 3, type := 3, pos := "ranges.go:93", after := #[{ on := 24, ground := Ground.data }], guard := none },
  { dst := some 55, op := Op.binOp BinOp.add 3 (Operand.const (Value.int IntKind.i64 3)) (Operand.tmp 54) 3, type := 3, pos := "ranges.go:93", after := #[{ on := 25, ground := Ground.data }], guard := none },
  { dst := some 56, op := Op.indexAddr 35 (Operand.tmp 52) (Operand.tmp 55), type := 0, pos := "ranges.go:93", after := #[{ on := 23, ground := Ground.data }, { on := 26, ground := Ground.data }], guard := none },
  { dst := some 57, op := Op.load 34 (Operand.tmp 56), type := 34, pos := "ranges.go:93", after := #[{ on := 27, ground := Ground.data }], guard := none },
  { dst := some 58, op := Op.build 37 #[(0, Operand.tmp 31), (1, Operand.tmp 34), (4, Operand.tmp 38), (5, Operand.tmp 45), (2, Operand.tmp 51), (3, Operand.tmp 57)], type := 37, pos := "ranges.go:93", after := #[{ on := 2, ground := Ground.data }, { on := 5, ground := Ground.data }, { on := 9, ground := Ground.data }, { on := 16, ground := Ground.data }, { on := 22, ground := Ground.data }, { on := 28, ground := Ground.data }], guard := none },
  { dst := none, op := Op.store 37 (Operand.tmp 4) (Operand.tmp 58), type := 0, pos := "ranges.go:93", after := #[{ on := 29, ground := Ground.data }, { on := 0, ground := Ground.phase }, { on := 1, ground := Ground.phase }, { on := 2, ground := Ground.phase }, { on := 3, ground := Ground.phase }, { on := 4, ground := Ground.phase }, { on := 5, ground := Ground.phase }, { on := 6, ground := Ground.phase }, { on := 7, ground := Ground.phase }, { on := 8, ground := Ground.phase }, { on := 9, ground := Ground.phase }, { on := 10, ground := Ground.phase }, { on := 11, ground := Ground.phase }, { on := 12, ground := Ground.phase }, { on := 13, ground := Ground.phase }, { on := 14, ground := Ground.phase }, { on := 15, ground := Ground.phase }, { on := 16, ground := Ground.phase }, { on := 17, ground := Ground.phase }, { on := 18, ground := Ground.phase }, { on := 19, ground := Ground.phase }, { on := 20, ground := Ground.phase }, { on := 21, ground := Ground.phase }, { on := 22, ground := Ground.phase }, { on := 23, ground := Ground.phase }, { on := 24, ground := Ground.phase }, { on := 25, ground := Ground.phase }, { on := 26, ground := Ground.phase }, { on := 27, ground := Ground.phase }, { on := 28, ground := Ground.phase }, { on := 29, ground := Ground.phase }], guard := none },
  { dst := some 5, op := Op.assign (Operand.const (Value.int IntKind.i64 0)), type := 31, pos := "ranges.go:93", after := #[{ on := 30, ground := Ground.chain }, { on := 0, ground := Ground.phase }, { on := 1, ground := Ground.phase }, { on := 2, ground := Ground.phase }, { on := 3, ground := Ground.phase }, { on := 4, ground := Ground.phase }, { on := 5, ground := Ground.phase }, { on := 6, ground := Ground.phase }, { on := 7, ground := Ground.phase }, { on := 8, ground := Ground.phase }, { on := 9, ground := Ground.phase }, { on := 10, ground := Ground.phase }, { on := 11, ground := Ground.phase }, { on := 12, ground := Ground.phase }, { on := 13, ground := Ground.phase }, { on := 14, ground := Ground.phase }, { on := 15, ground := Ground.phase }, { on := 16, ground := Ground.phase }, { on := 17, ground := Ground.phase }, { on := 18, ground := Ground.phase }, { on := 19, ground := Ground.phase }, { on := 20, ground := Ground.phase }, { on := 21, ground := Ground.phase }, { on := 22, ground := Ground.phase }, { on := 23, ground := Ground.phase }, { on := 24, ground := Ground.phase }, { on := 25, ground := Ground.phase }, { on := 26, ground := Ground.phase }, { on := 27, ground := Ground.phase }, { on := 28, ground := Ground.phase }, { on := 29, ground := Ground.phase }, { on := 30, ground := Ground.phase }], guard := none }]
set_option maxRecDepth 100000 in
set_option maxHeartbeats 16000000 in
theorem rr8 (Q : Exit → Act → World → Prop) (T b n m c p1 p2 p3 p4 : Nat) (l0 l1 l2 l3 : E4) (g : Nat → E4) (u0 u1 u2 u3 u5 u6 u9 u10 u11 u12 u13 u14 u15 u16 u17 u18 u19 u20 u21 u22 u23 u24 u25 u26 u27 u28 u29 u30 u31 u32 u33 u34 u35 u36 u37 u38 u39 u40 u41 u42 u43 u44 u45 u46 u47 u48 u49 u50 u51 u52 u53 u54 u55 u56 u57 u58 : Value) (W : World) (nT : b ≠ T) (ht : W.there T 0 18) (hm : m = 2 * n + 4) (hcap : m ≤ c) (hn : n ≤ 1024) (e1 : p1 = n + 2) (e2 : p2 = 2 * n) (e3 : p3 = 2 * n + 2) (e4 : p4 = 2 * n + 3)
    (c00 : W.cell? ⟨b, 0, none⟩ = some (.int .u64 l0.x0)) (c01 : W.cell? ⟨b, 1, none⟩ = some (.int .u64 l0.x1)) (c02 : W.cell? ⟨b, 2, none⟩ = some (.int .u64 l0.x2)) (c03 : W.cell? ⟨b, 3, none⟩ = some (.int .u64 l0.x3)) (c10 : W.cell? ⟨b, 4, none⟩ = some (.int .u64 l1.x0)) (c11 : W.cell? ⟨b, 5, none⟩ = some (.int .u64 l1.x1)) (c12 : W.cell? ⟨b, 6, none⟩ = some (.int .u64 l1.x2)) (c13 : W.cell? ⟨b, 7, none⟩ = some (.int .u64 l1.x3)) (c20 : W.cell? ⟨b, p3 * 4, none⟩ = some (.int .u64 l2.x0)) (c21 : W.cell? ⟨b, p3 * 4 + 1, none⟩ = some (.int .u64 l2.x1)) (c22 : W.cell? ⟨b, p3 * 4 + 2, none⟩ = some (.int .u64 l2.x2)) (c23 : W.cell? ⟨b, p3 * 4 + 3, none⟩ = some (.int .u64 l2.x3)) (c30 : W.cell? ⟨b, p4 * 4, none⟩ = some (.int .u64 l3.x0)) (c31 : W.cell? ⟨b, p4 * 4 + 1, none⟩ = some (.int .u64 l3.x1)) (c32 : W.cell? ⟨b, p4 * 4 + 2, none⟩ = some (.int .u64 l3.x2)) (c33 : W.cell? ⟨b, p4 * 4 + 3, none⟩ = some (.int .u64 l3.x3))
    
    (HQ : Hid (∀ wy, Below W.heap.size W wy → Q .normal ⟨#[u0, u1, u2, u3, .pointer (some ⟨T, 0, none⟩), .int .i64 0, u6, .int .i64 (n : Int), .slice (some ⟨b, 0, none⟩) m c, u9, u10, u11, u12, u13, u14, u15, u16, u17, u18, u19, u20, u21, u22, u23, u24, u25, u26, u27, u28, .slice (some ⟨b, 0, none⟩) m c, .pointer (some ⟨b, 0, none⟩), .agg #[.int .u64 l0.x0, .int .u64 l0.x1, .int .u64 l0.x2, .int .u64 l0.x3], .slice (some ⟨b, 0, none⟩) m c, .pointer (some ⟨b, 4, none⟩), .agg #[.int .u64 l1.x0, .int .u64 l1.x1, .int .u64 l1.x2, .int .u64 l1.x3], .slice (some ⟨b, 0, none⟩) m c, .int .i64 (n : Int), .int .i64 (p1 : Int), .slice (some ⟨b, 8, none⟩) n (c - 2), .slice (some ⟨b, 0, none⟩) m c, .int .i64 (n : Int), .int .i64 (p1 : Int), .int .i64 (n : Int), .int .i64 (p2 : Int), .int .i64 (p3 : Int), .slice (some ⟨b, p1 * 4, none⟩) n (c - p1), .slice (some ⟨b, 0, none⟩) m c, .int .i64 (n : Int), .int .i64 (p2 : Int), .int .i64 (p3 : Int), .pointer (some ⟨b, p3 * 4, none⟩), .agg #[.int .u64 l2.x0, .int .u64 l2.x1, .int .u64 l2.x2, .int .u64 l2.x3], .slice (some ⟨b, 0, none⟩) m c, .int .i64 (n : Int), .int .i64 (p2 : Int), .int .i64 (p4 : Int), .pointer (some ⟨b, p4 * 4, none⟩), .agg #[.int .u64 l3.x0, .int .u64 l3.x1, .int .u64 l3.x2, .int .u64 l3.x3], .agg (tc l0 l1 l2 l3 (.slice (some ⟨b, 8, none⟩) n (c - 2)) (.slice (some ⟨b, p1 * 4, none⟩) n (c - p1))).toArray], []⟩ (wy.setCells T 0 (tc l0 l1 l2 l3 (.slice (some ⟨b, 8, none⟩) n (c - 2)) (.slice (some ⟨b, p1 * 4, none⟩) n (c - p1)))))) : (Code.region 8 rr8o true).wp Tryd.prog Q ⟨#[u0, u1, u2, u3, .pointer (some ⟨T, 0, none⟩), u5, u6, .int .i64 (n : Int), .slice (some ⟨b, 0, none⟩) m c, u9, u10, u11, u12, u13, u14, u15, u16, u17, u18, u19, u20, u21, u22, u23, u24, u25, u26, u27, u28, u29, u30, u31, u32, u33, u34, u35, u36, u37, u38, u39, u40, u41, u42, u43, u44, u45, u46, u47, u48, u49, u50, u51, u52, u53, u54, u55, u56, u57, u58], []⟩ W := by
  have B0 := hidden (bl_drew W)
  have HT := hidden ht
  have w1 : IntKind.i64.wrap (2 + (n : Int)) = (p1 : Int) := by rw [IntWalk.i64_in _ (by omega)]; omega
  have w2 : IntKind.i64.wrap (2 * (n : Int)) = (p2 : Int) := by rw [IntWalk.i64_in _ (by omega)]; omega
  have w3 : IntKind.i64.wrap (2 + (p2 : Int)) = (p3 : Int) := by rw [IntWalk.i64_in _ (by omega)]; omega
  have w4 : IntKind.i64.wrap (3 + (p2 : Int)) = (p4 : Int) := by rw [IntWalk.i64_in _ (by omega)]; omega
  have i0 : (0 : Int) < (m : Int) := by omega
  have i00 : ¬ m = 0 := by omega
  have i1 : (1 : Int) < (m : Int) := by omega
  have i3 : (p3 : Int) < (m : Int) := by omega
  have i4 : (p4 : Int) < (m : Int) := by omega
  have s1 : (2 : Int) ≤ (p1 : Int) := by omega
  have s2 : (p1 : Int) ≤ (c : Int) := by omega
  have s3 : (p1 : Int) ≤ (p3 : Int) := by omega
  have s4 : (p3 : Int) ≤ (c : Int) := by omega
  have s5 : p1 - 2 = n := by omega
  have s6 : p3 - p1 = n := by omega
  have s7 : ¬ c = 2 := by omega
  have s8 : ¬ c = p1 := by omega
  have s9 : (c : Int) - 2 = ((c - 2 : Nat) : Int) := by omega
  clear ht hm hn e1 e2 e3 e4 hcap
  unfold rr8o
  refine wp_region_noPanic ?_
  refine wp_region_held_drew (S := fun x => W.grownBy x (some T)) (by kernel_rfl) (gbI (bl_drew W) _) (fun hHeld => ?_)
  refine wpAnyH_take (i := 0) (oi := { dst := some 29, op := Op.move (Operand.tmp 8), type := 35, pos := "ranges.go:93", after := #[], guard := none }) (v := .slice (some ⟨b, 0, none⟩) m c) rfl (by kernel_rfl) (by kernel_rfl) (by kernel_rfl) (fun _ _ _ h => h) (Or.inl ⟨by rfl, fun w0 hSw => ?_⟩) hHeld ?_
  · (clear hSw; go_simp)
  simp only [Act.put, List.setIfInBounds_toArray, List.set_cons_zero, List.set_cons_succ]
  refine wpAnyH_take (i := 1) (oi := { dst := some 30, op := Op.indexAddr 35 (Operand.tmp 29) (Operand.const (Value.int IntKind.i64 0)), type := 0, pos := "ranges.go:93", after := #[{ on := 0, ground := Ground.data }], guard := none }) (v := .pointer (some ⟨b, 0, none⟩)) rfl (by kernel_rfl) (by kernel_rfl) (by kernel_rfl) (fun _ _ _ h => h) (Or.inl ⟨by rfl, fun w0 hSw => ?_⟩) hHeld ?_
  · (clear hSw; go_simp)
  simp only [Act.put, List.setIfInBounds_toArray, List.set_cons_zero, List.set_cons_succ]
  refine wpAnyH_take (i := 2) (oi := { dst := some 31, op := Op.load 34 (Operand.tmp 30), type := 34, pos := "ranges.go:93", after := #[{ on := 1, ground := Ground.data }], guard := none }) (v := .agg #[.int .u64 l0.x0, .int .u64 l0.x1, .int .u64 l0.x2, .int .u64 l0.x3]) rfl (by kernel_rfl) (by kernel_rfl) (by kernel_rfl) (fun _ _ _ h => h) (Or.inl ⟨by rfl, fun w0 hSw => ?_⟩) hHeld ?_
  · (have hS : W.grownBy w0 (some T) := hSw; have a0 := hS.cell c00 (fun e => nT (Option.some.inj e)); have a1 := hS.cell c01 (fun e => nT (Option.some.inj e)); have a2 := hS.cell c02 (fun e => nT (Option.some.inj e)); have a3 := hS.cell c03 (fun e => nT (Option.some.inj e)); clear hS hSw; go_simp)
  simp only [Act.put, List.setIfInBounds_toArray, List.set_cons_zero, List.set_cons_succ]
  refine wpAnyH_take (i := 3) (oi := { dst := some 32, op := Op.move (Operand.tmp 8), type := 35, pos := "ranges.go:93", after := #[], guard := none }) (v := .slice (some ⟨b, 0, none⟩) m c) rfl (by kernel_rfl) (by kernel_rfl) (by kernel_rfl) (fun _ _ _ h => h) (Or.inl ⟨by rfl, fun w0 hSw => ?_⟩) hHeld ?_
  · (clear hSw; go_simp)
  simp only [Act.put, List.setIfInBounds_toArray, List.set_cons_zero, List.set_cons_succ]
  refine wpAnyH_take (i := 4) (oi := { dst := some 33, op := Op.indexAddr 35 (Operand.tmp 32) (Operand.const (Value.int IntKind.i64 1)), type := 0, pos := "ranges.go:93", after := #[{ on := 3, ground := Ground.data }], guard := none }) (v := .pointer (some ⟨b, 4, none⟩)) rfl (by kernel_rfl) (by kernel_rfl) (by kernel_rfl) (fun _ _ _ h => h) (Or.inl ⟨by rfl, fun w0 hSw => ?_⟩) hHeld ?_
  · (clear hSw; go_simp)
  simp only [Act.put, List.setIfInBounds_toArray, List.set_cons_zero, List.set_cons_succ]
  refine wpAnyH_take (i := 5) (oi := { dst := some 34, op := Op.load 34 (Operand.tmp 33), type := 34, pos := "ranges.go:93", after := #[{ on := 4, ground := Ground.data }], guard := none }) (v := .agg #[.int .u64 l1.x0, .int .u64 l1.x1, .int .u64 l1.x2, .int .u64 l1.x3]) rfl (by kernel_rfl) (by kernel_rfl) (by kernel_rfl) (fun _ _ _ h => h) (Or.inl ⟨by rfl, fun w0 hSw => ?_⟩) hHeld ?_
  · (have hS : W.grownBy w0 (some T) := hSw; have a0 := hS.cell c10 (fun e => nT (Option.some.inj e)); have a1 := hS.cell c11 (fun e => nT (Option.some.inj e)); have a2 := hS.cell c12 (fun e => nT (Option.some.inj e)); have a3 := hS.cell c13 (fun e => nT (Option.some.inj e)); clear hS hSw; go_simp)
  simp only [Act.put, List.setIfInBounds_toArray, List.set_cons_zero, List.set_cons_succ]
  refine wpAnyH_take (i := 6) (oi := { dst := some 35, op := Op.move (Operand.tmp 8), type := 35, pos := "ranges.go:93", after := #[], guard := none }) (v := .slice (some ⟨b, 0, none⟩) m c) rfl (by kernel_rfl) (by kernel_rfl) (by kernel_rfl) (fun _ _ _ h => h) (Or.inl ⟨by rfl, fun w0 hSw => ?_⟩) hHeld ?_
  · (clear hSw; go_simp)
  simp only [Act.put, List.setIfInBounds_toArray, List.set_cons_zero, List.set_cons_succ]
  refine wpAnyH_take (i := 7) (oi := { dst := some 36, op := Op.move (Operand.tmp 7), type := 3, pos := "ranges.go:93", after := #[], guard := none }) (v := .int .i64 (n : Int)) rfl (by kernel_rfl) (by kernel_rfl) (by kernel_rfl) (fun _ _ _ h => h) (Or.inl ⟨by rfl, fun w0 hSw => ?_⟩) hHeld ?_
  · (clear hSw; go_simp)
  simp only [Act.put, List.setIfInBounds_toArray, List.set_cons_zero, List.set_cons_succ]
  refine wpAnyH_take (i := 8) (oi := { dst := some 37, op := Op.binOp BinOp.add 3 (Operand.const (Value.int IntKind.i64 2)) (Operand.tmp 36) 3, type := 3, pos := "ranges.go:93", after := #[{ on := 7, ground := Ground.data }], guard := none }) (v := .int .i64 (p1 : Int)) rfl (by kernel_rfl) (by kernel_rfl) (by kernel_rfl) (fun _ _ _ h => h) (Or.inl ⟨by rfl, fun w0 hSw => ?_⟩) hHeld ?_
  · (clear hSw; go_simp)
  simp only [Act.put, List.setIfInBounds_toArray, List.set_cons_zero, List.set_cons_succ]
  refine wpAnyH_take (i := 9) (oi := { dst := some 38, op := Op.slice 35 (Operand.tmp 35) (some (Operand.const (Value.int IntKind.i64 2))) (some (Operand.tmp 37)) none, type := 35, pos := "ranges.go:93", after := #[{ on := 6, ground := Ground.data }, { on := 8, ground := Ground.data }], guard := none }) (v := .slice (some ⟨b, 8, none⟩) n (c - 2)) rfl (by kernel_rfl) (by kernel_rfl) (by kernel_rfl) (fun _ _ _ h => h) (Or.inl ⟨by rfl, fun w0 hSw => ?_⟩) hHeld ?_
  · (clear hSw; go_simp)
  simp only [Act.put, List.setIfInBounds_toArray, List.set_cons_zero, List.set_cons_succ]
  refine wpAnyH_take (i := 10) (oi := { dst := some 39, op := Op.move (Operand.tmp 8), type := 35, pos := "ranges.go:93", after := #[], guard := none }) (v := .slice (some ⟨b, 0, none⟩) m c) rfl (by kernel_rfl) (by kernel_rfl) (by kernel_rfl) (fun _ _ _ h => h) (Or.inl ⟨by rfl, fun w0 hSw => ?_⟩) hHeld ?_
  · (clear hSw; go_simp)
  simp only [Act.put, List.setIfInBounds_toArray, List.set_cons_zero, List.set_cons_succ]
  refine wpAnyH_take (i := 11) (oi := { dst := some 40, op := Op.move (Operand.tmp 7), type := 3, pos := "ranges.go:93", after := #[], guard := none }) (v := .int .i64 (n : Int)) rfl (by kernel_rfl) (by kernel_rfl) (by kernel_rfl) (fun _ _ _ h => h) (Or.inl ⟨by rfl, fun w0 hSw => ?_⟩) hHeld ?_
  · (clear hSw; go_simp)
  simp only [Act.put, List.setIfInBounds_toArray, List.set_cons_zero, List.set_cons_succ]
  refine wpAnyH_take (i := 12) (oi := { dst := some 41, op := Op.binOp BinOp.add 3 (Operand.const (Value.int IntKind.i64 2)) (Operand.tmp 40) 3, type := 3, pos := "ranges.go:93", after := #[{ on := 11, ground := Ground.data }], guard := none }) (v := .int .i64 (p1 : Int)) rfl (by kernel_rfl) (by kernel_rfl) (by kernel_rfl) (fun _ _ _ h => h) (Or.inl ⟨by rfl, fun w0 hSw => ?_⟩) hHeld ?_
  · (clear hSw; go_simp)
  simp only [Act.put, List.setIfInBounds_toArray, List.set_cons_zero, List.set_cons_succ]
  refine wpAnyH_take (i := 13) (oi := { dst := some 42, op := Op.move (Operand.tmp 7), type := 3, pos := "ranges.go:93", after := #[], guard := none }) (v := .int .i64 (n : Int)) rfl (by kernel_rfl) (by kernel_rfl) (by kernel_rfl) (fun _ _ _ h => h) (Or.inl ⟨by rfl, fun w0 hSw => ?_⟩) hHeld ?_
  · (clear hSw; go_simp)
  simp only [Act.put, List.setIfInBounds_toArray, List.set_cons_zero, List.set_cons_succ]
  refine wpAnyH_take (i := 14) (oi := { dst := some 43, op := Op.binOp BinOp.mul 3 (Operand.const (Value.int IntKind.i64 2)) (Operand.tmp 42) 3, type := 3, pos := "ranges.go:93", after := #[{ on := 13, ground := Ground.data }], guard := none }) (v := .int .i64 (p2 : Int)) rfl (by kernel_rfl) (by kernel_rfl) (by kernel_rfl) (fun _ _ _ h => h) (Or.inl ⟨by rfl, fun w0 hSw => ?_⟩) hHeld ?_
  · (clear hSw; go_simp)
  simp only [Act.put, List.setIfInBounds_toArray, List.set_cons_zero, List.set_cons_succ]
  refine wpAnyH_take (i := 15) (oi := { dst := some 44, op := Op.binOp BinOp.add 3 (Operand.const (Value.int IntKind.i64 2)) (Operand.tmp 43) 3, type := 3, pos := "ranges.go:93", after := #[{ on := 14, ground := Ground.data }], guard := none }) (v := .int .i64 (p3 : Int)) rfl (by kernel_rfl) (by kernel_rfl) (by kernel_rfl) (fun _ _ _ h => h) (Or.inl ⟨by rfl, fun w0 hSw => ?_⟩) hHeld ?_
  · (clear hSw; go_simp)
  simp only [Act.put, List.setIfInBounds_toArray, List.set_cons_zero, List.set_cons_succ]
  refine wpAnyH_take (i := 16) (oi := { dst := some 45, op := Op.slice 35 (Operand.tmp 39) (some (Operand.tmp 41)) (some (Operand.tmp 44)) none, type := 35, pos := "ranges.go:93", after := #[{ on := 10, ground := Ground.data }, { on := 12, ground := Ground.data }, { on := 15, ground := Ground.data }], guard := none }) (v := .slice (some ⟨b, p1 * 4, none⟩) n (c - p1)) rfl (by kernel_rfl) (by kernel_rfl) (by kernel_rfl) (fun _ _ _ h => h) (Or.inl ⟨by rfl, fun w0 hSw => ?_⟩) hHeld ?_
  · (clear hSw; go_simp)
  simp only [Act.put, List.setIfInBounds_toArray, List.set_cons_zero, List.set_cons_succ]
  refine wpAnyH_take (i := 17) (oi := { dst := some 46, op := Op.move (Operand.tmp 8), type := 35, pos := "ranges.go:93", after := #[], guard := none }) (v := .slice (some ⟨b, 0, none⟩) m c) rfl (by kernel_rfl) (by kernel_rfl) (by kernel_rfl) (fun _ _ _ h => h) (Or.inl ⟨by rfl, fun w0 hSw => ?_⟩) hHeld ?_
  · (clear hSw; go_simp)
  simp only [Act.put, List.setIfInBounds_toArray, List.set_cons_zero, List.set_cons_succ]
  refine wpAnyH_take (i := 18) (oi := { dst := some 47, op := Op.move (Operand.tmp 7), type := 3, pos := "ranges.go:93", after := #[], guard := none }) (v := .int .i64 (n : Int)) rfl (by kernel_rfl) (by kernel_rfl) (by kernel_rfl) (fun _ _ _ h => h) (Or.inl ⟨by rfl, fun w0 hSw => ?_⟩) hHeld ?_
  · (clear hSw; go_simp)
  simp only [Act.put, List.setIfInBounds_toArray, List.set_cons_zero, List.set_cons_succ]
  refine wpAnyH_take (i := 19) (oi := { dst := some 48, op := Op.binOp BinOp.mul 3 (Operand.const (Value.int IntKind.i64 2)) (Operand.tmp 47) 3, type := 3, pos := "ranges.go:93", after := #[{ on := 18, ground := Ground.data }], guard := none }) (v := .int .i64 (p2 : Int)) rfl (by kernel_rfl) (by kernel_rfl) (by kernel_rfl) (fun _ _ _ h => h) (Or.inl ⟨by rfl, fun w0 hSw => ?_⟩) hHeld ?_
  · (clear hSw; go_simp)
  simp only [Act.put, List.setIfInBounds_toArray, List.set_cons_zero, List.set_cons_succ]
  refine wpAnyH_take (i := 20) (oi := { dst := some 49, op := Op.binOp BinOp.add 3 (Operand.const (Value.int IntKind.i64 2)) (Operand.tmp 48) 3, type := 3, pos := "ranges.go:93", after := #[{ on := 19, ground := Ground.data }], guard := none }) (v := .int .i64 (p3 : Int)) rfl (by kernel_rfl) (by kernel_rfl) (by kernel_rfl) (fun _ _ _ h => h) (Or.inl ⟨by rfl, fun w0 hSw => ?_⟩) hHeld ?_
  · (clear hSw; go_simp)
  simp only [Act.put, List.setIfInBounds_toArray, List.set_cons_zero, List.set_cons_succ]
  refine wpAnyH_take (i := 21) (oi := { dst := some 50, op := Op.indexAddr 35 (Operand.tmp 46) (Operand.tmp 49), type := 0, pos := "ranges.go:93", after := #[{ on := 17, ground := Ground.data }, { on := 20, ground := Ground.data }], guard := none }) (v := .pointer (some ⟨b, p3 * 4, none⟩)) rfl (by kernel_rfl) (by kernel_rfl) (by kernel_rfl) (fun _ _ _ h => h) (Or.inl ⟨by rfl, fun w0 hSw => ?_⟩) hHeld ?_
  · (clear hSw; go_simp)
  simp only [Act.put, List.setIfInBounds_toArray, List.set_cons_zero, List.set_cons_succ]
  refine wpAnyH_take (i := 22) (oi := { dst := some 51, op := Op.load 34 (Operand.tmp 50), type := 34, pos := "ranges.go:93", after := #[{ on := 21, ground := Ground.data }], guard := none }) (v := .agg #[.int .u64 l2.x0, .int .u64 l2.x1, .int .u64 l2.x2, .int .u64 l2.x3]) rfl (by kernel_rfl) (by kernel_rfl) (by kernel_rfl) (fun _ _ _ h => h) (Or.inl ⟨by rfl, fun w0 hSw => ?_⟩) hHeld ?_
  · (have hS : W.grownBy w0 (some T) := hSw; have a0 := hS.cell c20 (fun e => nT (Option.some.inj e)); have a1 := hS.cell c21 (fun e => nT (Option.some.inj e)); have a2 := hS.cell c22 (fun e => nT (Option.some.inj e)); have a3 := hS.cell c23 (fun e => nT (Option.some.inj e)); clear hS hSw; go_simp)
  simp only [Act.put, List.setIfInBounds_toArray, List.set_cons_zero, List.set_cons_succ]
  refine wpAnyH_take (i := 23) (oi := { dst := some 52, op := Op.move (Operand.tmp 8), type := 35, pos := "ranges.go:93", after := #[], guard := none }) (v := .slice (some ⟨b, 0, none⟩) m c) rfl (by kernel_rfl) (by kernel_rfl) (by kernel_rfl) (fun _ _ _ h => h) (Or.inl ⟨by rfl, fun w0 hSw => ?_⟩) hHeld ?_
  · (clear hSw; go_simp)
  simp only [Act.put, List.setIfInBounds_toArray, List.set_cons_zero, List.set_cons_succ]
  refine wpAnyH_take (i := 24) (oi := { dst := some 53, op := Op.move (Operand.tmp 7), type := 3, pos := "ranges.go:93", after := #[], guard := none }) (v := .int .i64 (n : Int)) rfl (by kernel_rfl) (by kernel_rfl) (by kernel_rfl) (fun _ _ _ h => h) (Or.inl ⟨by rfl, fun w0 hSw => ?_⟩) hHeld ?_
  · (clear hSw; go_simp)
  simp only [Act.put, List.setIfInBounds_toArray, List.set_cons_zero, List.set_cons_succ]
  refine wpAnyH_take (i := 25) (oi := { dst := some 54, op := Op.binOp BinOp.mul 3 (Operand.const (Value.int IntKind.i64 2)) (Operand.tmp 53) 3, type := 3, pos := "ranges.go:93", after := #[{ on := 24, ground := Ground.data }], guard := none }) (v := .int .i64 (p2 : Int)) rfl (by kernel_rfl) (by kernel_rfl) (by kernel_rfl) (fun _ _ _ h => h) (Or.inl ⟨by rfl, fun w0 hSw => ?_⟩) hHeld ?_
  · (clear hSw; go_simp)
  simp only [Act.put, List.setIfInBounds_toArray, List.set_cons_zero, List.set_cons_succ]
  refine wpAnyH_take (i := 26) (oi := { dst := some 55, op := Op.binOp BinOp.add 3 (Operand.const (Value.int IntKind.i64 3)) (Operand.tmp 54) 3, type := 3, pos := "ranges.go:93", after := #[{ on := 25, ground := Ground.data }], guard := none }) (v := .int .i64 (p4 : Int)) rfl (by kernel_rfl) (by kernel_rfl) (by kernel_rfl) (fun _ _ _ h => h) (Or.inl ⟨by rfl, fun w0 hSw => ?_⟩) hHeld ?_
  · (clear hSw; go_simp)
  simp only [Act.put, List.setIfInBounds_toArray, List.set_cons_zero, List.set_cons_succ]
  refine wpAnyH_take (i := 27) (oi := { dst := some 56, op := Op.indexAddr 35 (Operand.tmp 52) (Operand.tmp 55), type := 0, pos := "ranges.go:93", after := #[{ on := 23, ground := Ground.data }, { on := 26, ground := Ground.data }], guard := none }) (v := .pointer (some ⟨b, p4 * 4, none⟩)) rfl (by kernel_rfl) (by kernel_rfl) (by kernel_rfl) (fun _ _ _ h => h) (Or.inl ⟨by rfl, fun w0 hSw => ?_⟩) hHeld ?_
  · (clear hSw; go_simp)
  simp only [Act.put, List.setIfInBounds_toArray, List.set_cons_zero, List.set_cons_succ]
  refine wpAnyH_take (i := 28) (oi := { dst := some 57, op := Op.load 34 (Operand.tmp 56), type := 34, pos := "ranges.go:93", after := #[{ on := 27, ground := Ground.data }], guard := none }) (v := .agg #[.int .u64 l3.x0, .int .u64 l3.x1, .int .u64 l3.x2, .int .u64 l3.x3]) rfl (by kernel_rfl) (by kernel_rfl) (by kernel_rfl) (fun _ _ _ h => h) (Or.inl ⟨by rfl, fun w0 hSw => ?_⟩) hHeld ?_
  · (have hS : W.grownBy w0 (some T) := hSw; have a0 := hS.cell c30 (fun e => nT (Option.some.inj e)); have a1 := hS.cell c31 (fun e => nT (Option.some.inj e)); have a2 := hS.cell c32 (fun e => nT (Option.some.inj e)); have a3 := hS.cell c33 (fun e => nT (Option.some.inj e)); clear hS hSw; go_simp)
  simp only [Act.put, List.setIfInBounds_toArray, List.set_cons_zero, List.set_cons_succ]
  refine wpAnyH_take (i := 29) (oi := { dst := some 58, op := Op.build 37 #[(0, Operand.tmp 31), (1, Operand.tmp 34), (4, Operand.tmp 38), (5, Operand.tmp 45), (2, Operand.tmp 51), (3, Operand.tmp 57)], type := 37, pos := "ranges.go:93", after := #[{ on := 2, ground := Ground.data }, { on := 5, ground := Ground.data }, { on := 9, ground := Ground.data }, { on := 16, ground := Ground.data }, { on := 22, ground := Ground.data }, { on := 28, ground := Ground.data }], guard := none }) (v := .agg (tc l0 l1 l2 l3 (.slice (some ⟨b, 8, none⟩) n (c - 2)) (.slice (some ⟨b, p1 * 4, none⟩) n (c - p1))).toArray) rfl (by kernel_rfl) (by kernel_rfl) (by kernel_rfl) (fun _ _ _ h => h) (Or.inl ⟨by rfl, fun w0 hSw => by kernel_rfl⟩) hHeld ?_
  simp only [Act.put, List.setIfInBounds_toArray, List.set_cons_zero, List.set_cons_succ]
  refine wpAnyH_ready (rs := [30]) (by kernel_rfl) (by simp) ?_
  refine AllReadyH.cons (o := { dst := none, op := Op.store 37 (Operand.tmp 4) (Operand.tmp 58), type := 0, pos := "ranges.go:93", after := #[{ on := 29, ground := Ground.data }, { on := 0, ground := Ground.phase }, { on := 1, ground := Ground.phase }, { on := 2, ground := Ground.phase }, { on := 3, ground := Ground.phase }, { on := 4, ground := Ground.phase }, { on := 5, ground := Ground.phase }, { on := 6, ground := Ground.phase }, { on := 7, ground := Ground.phase }, { on := 8, ground := Ground.phase }, { on := 9, ground := Ground.phase }, { on := 10, ground := Ground.phase }, { on := 11, ground := Ground.phase }, { on := 12, ground := Ground.phase }, { on := 13, ground := Ground.phase }, { on := 14, ground := Ground.phase }, { on := 15, ground := Ground.phase }, { on := 16, ground := Ground.phase }, { on := 17, ground := Ground.phase }, { on := 18, ground := Ground.phase }, { on := 19, ground := Ground.phase }, { on := 20, ground := Ground.phase }, { on := 21, ground := Ground.phase }, { on := 22, ground := Ground.phase }, { on := 23, ground := Ground.phase }, { on := 24, ground := Ground.phase }, { on := 25, ground := Ground.phase }, { on := 26, ground := Ground.phase }, { on := 27, ground := Ground.phase }, { on := 28, ground := Ground.phase }, { on := 29, ground := Ground.phase }], guard := none }) rfl (fun K hK => ?_) AllReadyH.nil
  have HH := hidden hHeld
  clear hHeld
  have TH := hidden (there_keepM HT.out B0.out)
  refine wp_store_mid 37 _ _ rfl T 0 (tc l0 l1 l2 l3 (.slice (some ⟨b, 8, none⟩) n (c - 2)) (.slice (some ⟨b, p1 * 4, none⟩) n (c - p1))).toArray (by rfl) (by rfl) TH.out rtinfo (tc_one _ _ _ _ _ _ _ _ _ _) ?_
  have FQ := hidden (HQ.out _ B0.out)
  refine hK.out _ _ (HH.out.trans (gb_setCells T _ 0 _)) (fun hHb => ?_)
  clear hK K HH
  simp only [Act.put]
  refine wpAnyH_take (i := 31) (oi := { dst := some 5, op := Op.assign (Operand.const (Value.int IntKind.i64 0)), type := 31, pos := "ranges.go:93", after := #[{ on := 30, ground := Ground.chain }, { on := 0, ground := Ground.phase }, { on := 1, ground := Ground.phase }, { on := 2, ground := Ground.phase }, { on := 3, ground := Ground.phase }, { on := 4, ground := Ground.phase }, { on := 5, ground := Ground.phase }, { on := 6, ground := Ground.phase }, { on := 7, ground := Ground.phase }, { on := 8, ground := Ground.phase }, { on := 9, ground := Ground.phase }, { on := 10, ground := Ground.phase }, { on := 11, ground := Ground.phase }, { on := 12, ground := Ground.phase }, { on := 13, ground := Ground.phase }, { on := 14, ground := Ground.phase }, { on := 15, ground := Ground.phase }, { on := 16, ground := Ground.phase }, { on := 17, ground := Ground.phase }, { on := 18, ground := Ground.phase }, { on := 19, ground := Ground.phase }, { on := 20, ground := Ground.phase }, { on := 21, ground := Ground.phase }, { on := 22, ground := Ground.phase }, { on := 23, ground := Ground.phase }, { on := 24, ground := Ground.phase }, { on := 25, ground := Ground.phase }, { on := 26, ground := Ground.phase }, { on := 27, ground := Ground.phase }, { on := 28, ground := Ground.phase }, { on := 29, ground := Ground.phase }, { on := 30, ground := Ground.phase }], guard := none }) (v := .int .i64 0) rfl (by kernel_rfl) (by kernel_rfl) (by kernel_rfl) (fun _ _ _ h => h) (Or.inl ⟨by rfl, fun w0 hSw => ?_⟩) hHb ?_
  · (clear hSw; go_simp)
  simp only [Act.put, List.setIfInBounds_toArray, List.set_cons_zero, List.set_cons_succ]
  refine wpAnyH_done (by kernel_rfl) ?_ _
  refine NoPanic.normal ?_
  exact FQ.out
end Go.Proofs.YtpblcnefihhhoaaDoor
