import Derived.Test.YtfkigebbcbfkiaaWs
namespace Go.Proofs.Ytfkigebbcbfkiaa
open Go.RowKit
/-- a list's bytes, how many bytes it takes, its fault -/
def bt (bs : List UInt8) (most : Nat) : List UInt8 × Nat × Nat :=
  let x := ct bs most
  if x.2.2 ≠ 0 then ([], 0, x.2.2) else if bs.length - x.2.1 < x.1 then ([], 0, 100) else ((bs.drop x.2.1).take x.1, x.2.1 + x.1, 0)
theorem bt_bad {bs : List UInt8} {most : Nat} (h : (ct bs most).2.2 ≠ 0) : bt bs most = ([], 0, (ct bs most).2.2) := by simp [bt, h]
theorem bt_end {bs : List UInt8} {most : Nat} (h : (ct bs most).2.2 = 0) (hm : bs.length - (ct bs most).2.1 < (ct bs most).1) : bt bs most = ([], 0, 100) := by simp [bt, h, hm]
theorem bt_ok {bs : List UInt8} {most : Nat} (h : (ct bs most).2.2 = 0) (hm : ¬ bs.length - (ct bs most).2.1 < (ct bs most).1) : bt bs most = ((bs.drop (ct bs most).2.1).take (ct bs most).1, (ct bs most).2.1 + (ct bs most).1, 0) := by simp [bt, h, hm]
theorem ct_le {bs : List UInt8} {most : Nat} (h : (ct bs most).2.2 = 0) : (ct bs most).1 ≤ most ∧ (ct bs most).2.1 ≤ bs.length ∧ 1 ≤ (ct bs most).2.1 ∧ ct bs most = nm bs 18446744073709551615 := by
  by_cases h0 : (nm bs 18446744073709551615).2.2 = 0
  · by_cases h1 : most < (nm bs 18446744073709551615).1
    · rw [ct_more h0 h1] at h
      simp at h
    · rw [ct_ok h0 h1]
      obtain ⟨-, -, h2, -, h3, -⟩ := nm_ok bs 18446744073709551615 h0
      exact ⟨by omega, h2, h3, rfl⟩
  · rw [ct_bad h0] at h
    exact absurd h h0
theorem bt_fault {bs : List UInt8} {most : Nat} (h : (bt bs most).2.2 ≠ 0) : (bt bs most).1 = [] ∧ (bt bs most).2.1 = 0 := by
  by_cases h0 : (ct bs most).2.2 = 0
  · by_cases h1 : bs.length - (ct bs most).2.1 < (ct bs most).1
    · rw [bt_end h0 h1]; exact ⟨rfl, rfl⟩
    · rw [bt_ok h0 h1] at h; exact absurd rfl h
  · rw [bt_bad h0]; exact ⟨rfl, rfl⟩
theorem bt_le {bs : List UInt8} {most : Nat} (h : (bt bs most).2.2 = 0) : (bt bs most).2.1 ≤ bs.length ∧ 1 ≤ (bt bs most).2.1 := by
  by_cases h0 : (ct bs most).2.2 = 0
  · by_cases h1 : bs.length - (ct bs most).2.1 < (ct bs most).1
    · rw [bt_end h0 h1] at h; simp at h
    · obtain ⟨-, h2, h3, -⟩ := ct_le h0
      rw [bt_ok h0 h1]
      dsimp only
      omega
  · rw [bt_bad h0] at h; exact absurd h h0
theorem By.front' {w : World} {P : Option Addr} {c : Nat} {a : List UInt8} (h : By w P c a) (n : Nat) : By w P c (a.take n) := by
  have h2 := h
  rw [← List.take_append_drop n a] at h2
  exact h2.front
set_option maxRecDepth 100000
set_option maxHeartbeats 4000000
theorem toldB_any (P : Option Addr) (c X : Nat) (bs : List UInt8) (most : Nat) (w : World) (hB : By w P c bs) (hl : bs.length ≤ 140737488355328) (hc : bs.length ≤ c) (hm : most < 2 ^ 63) (hX : w.cell? ⟨X, 0, none⟩ = some (.int .i64 (most : Int))) :
    Calls Try.prog 35 #[.slice P bs.length c, .pointer (some ⟨X, 0, none⟩)] w fun e w' => ∃ v, e = .returned (.tuple #[v, .int .i64 ((bt bs most).2.1 : Int), .int .i64 ((bt bs most).2.2 : Int)]) ∧ w'.ownsRow w.heap.size 5 1 v (bt bs most).1.length (cb (bt bs most).1) ∧ Below w.heap.size w w' := by
  have N := hidden (count_any P c bs most w hB (by omega) hm)
  by_cases h0 : (ct bs most).2.2 = 0
  · obtain ⟨g1, g2, g3, -⟩ := ct_le h0
    rw [h0] at N
    have n0 : IntKind.i64.wrap ((bs.length : Int) - ((ct bs most).2.1 : Int)) = (bs.length : Int) - ((ct bs most).2.1 : Int) := IntWalk.i64_in _ (by omega)
    by_cases h1 : bs.length - (ct bs most).2.1 < (ct bs most).1
    · have n1 : (bs.length : Int) - ((ct bs most).2.1 : Int) < ((ct bs most).1 : Int) := by omega
      rw [bt_end h0 h1]
      generalize ct bs most = x at *
      obtain ⟨n, s, e⟩ := x
      dsimp only at *
      clear hB hl hc hm h0 h1 g1 g2 g3
      go_enter Try.func35, Try.ntmps35
      go_wp2_with (first | (go_at_call 36; refine N.out.mono ?_; rintro r w2 ⟨rfl, rfl⟩; clear N))
      refine bodyPost_ret (v := .tuple #[.slice none 0 0, .int .i64 0, .int .i64 100]) (by simp [results, Try.results35, go_sem]) rfl ⟨_, rfl, World.ownsRow_nil _ _ _ _, Below.refl _ _⟩
    · have n1 : ¬ (bs.length : Int) - ((ct bs most).2.1 : Int) < ((ct bs most).1 : Int) := by omega
      rw [bt_ok h0 h1]
      obtain ⟨b, o, rfl⟩ := hB.none' (by omega)
      generalize ct bs most = x at *
      obtain ⟨n, s, e⟩ := x
      dsimp only at *
      have hlen : ((bs.drop s).take n).length = n := by rw [List.length_take, List.length_drop]; omega
      have n2 : IntKind.i64.wrap ((s : Int) + (n : Int)) = ((s + n : Nat) : Int) := by rw [IntWalk.i64_in _ (by omega)]; omega
      have n3 : (0 : Int) ≤ (s : Int) := by omega
      have n4 : (s : Int) ≤ ((s + n : Nat) : Int) := by omega
      have n5 : ((s + n : Nat) : Int) ≤ (c : Int) := by omega
      have hsn : s + n - s = n := by omega
      have hY : By w (some ⟨b, o + s, none⟩) (c - s) ((bs.drop s).take n) := ((hB.drop s (c - s)).front' n)
      have C := clone_any _ _ _ w hY (by rw [hlen]; omega)
      rw [hlen]
      rw [hlen] at C
      have C2 := hidden C
      by_cases hcs : c = s
      · subst hcs
        obtain rfl : n = 0 := by omega
        have C3 := hidden (clone_any (some ⟨b, o, none⟩) 0 [] w ⟨fun e => (by cases e), fun a ha j u hu => (by simp [cb] at hu)⟩ (by simp))
        rw [List.take_zero]
        have n6 : wrap64 (c : Int) = (c : Int) := by unfold wrap64; omega
        have n7 : IntKind.i64.wrap (c : Int) = (c : Int) := IntWalk.i64_in _ (by omega)
        clear C C2 hY hlen hB hl hc hm h0 h1 g1 g2 g3
        go_enter Try.func35, Try.ntmps35
        go_wp2_with (first | (go_at_call 36; refine N.out.mono ?_; rintro r w2 ⟨rfl, rfl⟩; clear N) | (go_at_call 26; refine C3.out.mono ?_; rintro r w3 ⟨v3, rfl, ho, hb⟩; have HO := hidden ho; have HB := hidden hb; clear C3 ho hb))
        refine bodyPost_ret (v := .tuple #[v3, .int .i64 ((c + 0 : Nat) : Int), .int .i64 0]) (by simp [results, Try.results35, go_sem]) rfl ⟨_, rfl, HO.out, HB.out⟩
      · clear C hY hB hl hc hm h0 h1 g1 g2 g3
        generalize (bs.drop s).take n = Y at C2 hlen ⊢
        go_enter Try.func35, Try.ntmps35
        go_wp2_with (first | (go_at_call 36; refine N.out.mono ?_; rintro r w2 ⟨rfl, rfl⟩; clear N) | (go_at_call 26; refine C2.out.mono ?_; rintro r w3 ⟨v3, rfl, ho, hb⟩; have HO := hidden ho; have HB := hidden hb; clear C2 ho hb))
        refine bodyPost_ret (v := .tuple #[v3, .int .i64 ((s + n : Nat) : Int), .int .i64 0]) (by simp [results, Try.results35, go_sem]) rfl ⟨_, rfl, HO.out, HB.out⟩
  · rw [bt_bad h0]
    have n0 : (((ct bs most).2.2 : Int) != 0) = true := by simpa using h0
    generalize ct bs most = x at *
    obtain ⟨n, s, e⟩ := x
    dsimp only at *
    clear hB hl hc hm h0
    go_enter Try.func35, Try.ntmps35
    go_wp2_with (first | (go_at_call 36; refine N.out.mono ?_; rintro r w2 ⟨rfl, rfl⟩; clear N))
    refine bodyPost_ret (v := .tuple #[.slice none 0 0, .int .i64 0, .int .i64 (e : Int)]) (by simp [results, Try.results35, go_sem]) rfl ⟨_, rfl, World.ownsRow_nil _ _ _ _, Below.refl _ _⟩
end Go.Proofs.Ytfkigebbcbfkiaa
