import Derived.Test.YtcecpfcekejblaaBkb
namespace Go.Proofs.Ytcecpfcekejblaa
open Go.RowKit
set_option linter.unusedVariables false
set_option maxRecDepth 100000 in
set_option maxHeartbeats 4000000 in
theorem tooLong_any (P : Option Addr) (c n : Nat) (w : World) (q : Bool) (hq : q = decide (1048576 < n)) :
    Calls Try.prog 11 #[.slice P n c] w fun e w' => e = .returned (.bool q) ∧ w' = w := by
  by_cases h : 1048576 < n
  · have k0 : (n : Int) > 1048576 := by omega
    obtain rfl : q = true := by rw [hq]; exact decide_eq_true h
    clear hq
    go_enter Try.func11, Try.ntmps11
    go_wp2_with fail
    refine bodyPost_ret (v := .bool true) (by simp [results, Try.results11, go_sem]) rfl ⟨rfl, rfl⟩
  · have k0 : ¬ (n : Int) > 1048576 := by omega
    obtain rfl : q = false := by rw [hq]; exact decide_eq_false h
    clear hq
    go_enter Try.func11, Try.ntmps11
    go_wp2_with fail
    refine bodyPost_ret (v := .bool false) (by simp [results, Try.results11, go_sem]) rfl ⟨rfl, rfl⟩
/-- is one of them too long? -/
def lg (ps : List (List UInt8)) : Prop := ∃ k, k < ps.length ∧ 1048576 < (ps.getD k []).length
set_option maxRecDepth 100000 in
set_option maxHeartbeats 16000000 in
theorem index_any (ps : List (List UInt8)) (P : Option Addr) (cap : Nat) (q : Nat → Option Addr) (c : Nat → Nat) (w : World) (hP : Pt w P ps q c) (hn : ps.length ≤ 2 ^ 40) :
    Calls Try.prog 17 #[.slice P ps.length cap, .func (.func 11) #[] #[]] w fun e w' => ∃ r : Int, e = .returned (.int .i64 r) ∧ (0 ≤ r ↔ lg ps) ∧ w' = w := by
  have HP := hidden hP
  have HN := hidden hn
  clear hP hn
  go_enter Try.func17, Try.ntmps17
  go_wp2_with fail
  go_loopw [8] (fun iv' w' => ∃ k : Nat, k ≤ ps.length ∧ iv' = .int .i64 k ∧ Hid (∀ j, j < k → ¬ 1048576 < (ps.getD j []).length) ∧ w' = w) (fun i _ => ps.length - (intOf i).toNat)
  case atStart => exact ⟨0, by omega, rfl, hidden (fun j hj => by omega), rfl⟩
  case round =>
    obtain ⟨k, hk, rfl, hZ, rfl⟩ := hrel
    by_cases hkn : k < ps.length
    · have k0 : (0 : Int) ≤ (k : Int) := by omega
      have k1 : (k : Int) < (ps.length : Int) := by omega
      have w9 : IntKind.i64.wrap ((k : Int) + 1) = (k : Int) + 1 := IntWalk.i64_in _ (by have := HN.out; omega)
      obtain ⟨b, o, rfl, hc⟩ := HP.out.lie (by omega)
      have x0 := hc k hkn
      obtain ⟨m, hm⟩ : ∃ m, m = (ps.getD k []).length := ⟨_, rfl⟩
      rw [← hm] at x0
      have HM := hidden hm
      have TL := hidden (tooLong_any (q k) (c k) m wr _ rfl)
      clear hc hm
      by_cases h0 : 1048576 < m
      · rw [show decide (1048576 < m) = true from decide_eq_true h0] at TL
        have H0 := hidden h0
        clear h0
        go_wp2_with (first | (go_at_call 11; refine TL.out.mono ?_; rintro e w1 ⟨rfl, rfl⟩))
        refine bodyPost_ret (v := .int .i64 (k : Int)) (by simp [results, Try.results17, go_sem]) rfl ⟨_, rfl, ⟨fun _ => ⟨k, hkn, by rw [← HM.out]; exact H0.out⟩, fun _ => k0⟩, rfl⟩
      · rw [show decide (1048576 < m) = false from decide_eq_false h0] at TL
        have H0 := hidden h0
        clear h0
        go_wp2_with (first | (go_at_call 11; refine TL.out.mono ?_; rintro e w1 ⟨rfl, rfl⟩))
        go_roundw
        case rel => exact ⟨k + 1, by omega, by go_num, hidden (fun j hj => by
          by_cases hjk : j = k
          · subst hjk; rw [← HM.out]; exact H0.out
          · exact hZ.out j (by omega)), trivial⟩
        case measure => simp [intOf]; omega
    · have hkn : k = ps.length := by omega
      subst hkn
      have lq : ¬ (ps.length : Int) < (ps.length : Int) := by omega
      go_wp2_with fail
      refine bodyPost_ret (v := .int .i64 (-1)) (by simp [results, Try.results17, go_sem]) rfl ⟨_, rfl, ⟨fun h => absurd h (by omega), fun ⟨j, hj, h⟩ => absurd h (hZ.out j hj)⟩, rfl⟩
set_option maxRecDepth 100000 in
set_option maxHeartbeats 16000000 in
theorem contains_any (ps : List (List UInt8)) (P : Option Addr) (cap : Nat) (q : Nat → Option Addr) (c : Nat → Nat) (w : World) (hP : Pt w P ps q c) (hn : ps.length ≤ 2 ^ 40) (y : Bool) (hy : y = true ↔ lg ps) :
    Calls Try.prog 12 #[.slice P ps.length cap, .func (.func 11) #[] #[]] w fun e w' => e = .returned (.bool y) ∧ w' = w := by
  have IX := hidden (index_any ps P cap q c w hP hn)
  have HY := hidden hy
  clear hP hn hy
  go_enter Try.func12, Try.ntmps12
  go_wp2_with (first | (go_at_call 17; refine IX.out.mono ?_; rintro e w1 ⟨r, rfl, hr, rfl⟩; have HR := hidden hr; clear hr))
  have e : decide (0 ≤ r) = y := by
    cases y with
    | true => exact decide_eq_true (HR.out.2 (HY.out.1 rfl))
    | false => exact decide_eq_false (fun h => by have := HY.out.2 (HR.out.1 h); cases this)
  refine bodyPost_ret (v := .bool y) (by simp [results, Try.results12, go_sem, e]) rfl ⟨rfl, rfl⟩
set_option maxRecDepth 100000 in
set_option maxHeartbeats 4000000 in
theorem isHeight_any (h : Int) (w : World) (q : Bool) (hq : q = decide (1 ≤ h ∧ h ≤ 1048576)) :
    Calls Try.prog 10 #[.int .i64 h] w fun e w' => e = .returned (.bool q) ∧ w' = w := by
  by_cases h1 : 1 ≤ h
  · by_cases h2 : h ≤ 1048576
    · obtain rfl : q = true := by rw [hq]; exact decide_eq_true ⟨h1, h2⟩
      have k1 : h ≥ 1 := h1
      clear hq
      go_enter Try.func10, Try.ntmps10
      go_wp2_with fail
      refine bodyPost_ret (v := .bool true) (by simp [results, Try.results10, go_sem]) rfl ⟨rfl, rfl⟩
    · obtain rfl : q = false := by rw [hq]; exact decide_eq_false (fun x => h2 x.2)
      have k1 : h ≥ 1 := h1
      clear hq
      go_enter Try.func10, Try.ntmps10
      go_wp2_with fail
      refine bodyPost_ret (v := .bool false) (by simp [results, Try.results10, go_sem]) rfl ⟨rfl, rfl⟩
  · obtain rfl : q = false := by rw [hq]; exact decide_eq_false (fun x => h1 x.1)
    have k1 : ¬ h ≥ 1 := h1
    clear hq
    go_enter Try.func10, Try.ntmps10
    go_wp2_with fail
    refine bodyPost_ret (v := .bool false) (by simp [results, Try.results10, go_sem]) rfl ⟨rfl, rfl⟩
set_option maxRecDepth 100000 in
set_option maxHeartbeats 4000000 in
theorem bytes_any (P Q : Option Addr) (c d : Nat) (a b : List UInt8) (w : World) (ha : By w P c a) (hb : By w Q d b) :
    Calls Try.prog 7 #[.slice P a.length c, .slice Q b.length d] w fun e w' => e = .returned (.bool (a == b)) ∧ w' = w := by
  have CA := by_conv ha
  have CB := by_conv hb
  have e0 := sb_list a
  have e1 := sb_list b
  clear ha hb
  go_enter Try.func7, Try.ntmps7
  go_wp2_with fail
  refine bodyPost_ret (v := .bool (a == b)) (by simp [results, Try.results7, go_sem]) rfl ⟨rfl, rfl⟩
/-- the marks -/
def mk8 : List UInt8 := [211, 212, 213]
set_option maxRecDepth 100000 in
set_option maxHeartbeats 4000000 in
theorem room_any (P : Option Addr) (c : Nat) (bs : List UInt8) (w : World) (hB : By w P c bs) (hl : bs.length ≤ 140737488351232) :
    Calls Try.prog 4 #[.slice P bs.length c] w fun e w' => ∃ v, e = .returned v ∧ w'.ownsRow w.heap.size 5 1 v (bs ++ mk8).length (cb (bs ++ mk8)) ∧ Below w.heap.size w w' := by
  have HL := hidden hl
  have HY := hidden (hB.keep (bl_alloc w (.cells #[] 5)))
  have O0 := hidden (World.ownsRow_made (base := w.heap.size) (e := 5) (size := 1) w #[] 0 (Nat.le_refl _) (by unfold maxLen; omega) rfl)
  have B0 := hidden (bl_alloc w (.cells #[] 5))
  clear hB hl
  go_enter Try.func4, Try.ntmps4
  go_wp2_with (first | (at_builtin; refine wpList_app_by rfl _ _ rfl w.heap.size _ [] bs P c rfl rfl O0.out HY.out (by have := HL.out; simp only [List.length_nil]; omega) B0.out.size ?_; intro v2 w2 ho2 hg2; have HO := hidden ho2; have HB := hidden (below_trans B0.out (below_grown hg2 B0.out.size (fun k hk => (O0.out.lt k hk).1))); clear ho2 hg2 O0 HY; rw [List.nil_append] at HO; have HY2 := hidden (by_list w2 mk8 3)) | (at_builtin; refine wpList_app_by rfl _ _ rfl w.heap.size _ bs mk8 (some ⟨w2.heap.size, 0, none⟩) 3 rfl rfl (own_stay HO.out (bl_alloc w2 _)) HY2.out (by have := HL.out; simp only [mk8, List.length_cons, List.length_nil]; omega) (Nat.le_trans HB.out.size (bl_alloc w2 _).size) ?_; intro v3 w3 ho3 hg3; have HO3 := hidden ho3; have HB3 := hidden (below_trans (bl_trans HB.out (bl_alloc w2 _)) (below_grown hg3 (Nat.le_trans HB.out.size (bl_alloc w2 _).size) (fun k hk => (HO.out.lt k hk).1))); clear ho3 hg3))
  refine bodyPost_ret (v := v3) (by simp [results, Try.results4, go_sem]) rfl ⟨_, rfl, HO3.out, HB3.out⟩
set_option maxRecDepth 100000 in
set_option maxHeartbeats 4000000 in
theorem stays_any (b o d : Nat) (P : Option Addr) (c : Nat) (bs : List UInt8) (w : World) (hF : By w (some ⟨b, o, none⟩) d (bs ++ mk8)) (hd : bs.length + 3 ≤ d) (hm : bs.length ≤ 2 ^ 62) (hB : By w P c bs) :
    Calls Try.prog 9 #[.slice (some ⟨b, o, none⟩) (bs.length + 3) d, .slice P bs.length c] w fun e w' => e = .returned (.bool true) ∧ w' = w := by
  have SA := hidden (bytes_any (some ⟨b, o, none⟩) P d c bs bs w hF.front hB)
  rw [show (bs == bs) = true from beq_self_eq_true bs] at SA
  have l0 : (bs ++ mk8).length = bs.length + 3 := by simp [mk8]
  have x0 := hF.at bs.length (by omega)
  have x1 := hF.at (bs.length + 1) (by omega)
  have x2 := hF.at (bs.length + 2) (by omega)
  have y0 : (bs ++ mk8).getD bs.length 0 = 211 := by simp [mk8]
  have y1 : (bs ++ mk8).getD (bs.length + 1) 0 = 212 := by simp [mk8]
  have y2 : (bs ++ mk8).getD (bs.length + 2) 0 = 213 := by simp [mk8]
  rw [y0] at x0
  rw [y1] at x1
  rw [y2] at x2
  clear hF hB l0 y0 y1 y2
  have w1 : IntKind.i64.wrap ((bs.length : Int) + 1) = ((bs.length + 1 : Nat) : Int) := IntWalk.i64_in _ (by omega)
  have w2 : IntKind.i64.wrap ((bs.length : Int) + 2) = ((bs.length + 2 : Nat) : Int) := IntWalk.i64_in _ (by omega)
  have k0 : (0 : Int) ≤ (bs.length : Int) := by omega
  have k1 : (bs.length : Int) ≤ (d : Int) := by omega
  have k2 : (bs.length : Int) < ((bs.length + 3 : Nat) : Int) := by omega
  have k3 : ((bs.length + 1 : Nat) : Int) < ((bs.length + 3 : Nat) : Int) := by omega
  have k4 : ((bs.length + 2 : Nat) : Int) < ((bs.length + 3 : Nat) : Int) := by omega
  go_enter Try.func9, Try.ntmps9
  go_wp2_with (first | (go_at_call 7; refine SA.out.mono ?_; rintro e w2 ⟨rfl, rfl⟩))
  refine bodyPost_ret (v := .bool true) (by simp [results, Try.results9, go_sem]) rfl ⟨rfl, rfl⟩
end Go.Proofs.Ytcecpfcekejblaa
