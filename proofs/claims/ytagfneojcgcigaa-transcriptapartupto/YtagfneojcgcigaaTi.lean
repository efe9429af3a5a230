import Derived.Test.YtagfneojcgcigaaTh
namespace Go.Proofs.Ytagfneojcgcigaa
open Go.RowKit
theorem sb_extract (l : List UInt8) (n : Nat) : ((sb l).extract 0 n).toList = l.take n := by
  rw [ByteArray.toList_eq, ByteArray.data_extract]
  simp [sb]
theorem fr_eq {l m : List UInt8} {a b : List (List UInt8)} (ha : frl l a < 2 ^ 62) (hb : frl m b < 2 ^ 62) : (fr l a == fr m b) = decide (l = m ∧ a = b) := by
  by_cases h : l = m ∧ a = b
  · rw [decide_eq_true h, h.1, h.2]; simp
  · rw [decide_eq_false h]
    have : fr l a ≠ fr m b := fun e => h (fr_apart ha hb (r := []) (by simpa using e))
    simpa using this
theorem fr_less {l m : List UInt8} {a b : List (List UInt8)} (ha : frl l a < 2 ^ 62) (hb : frl m b < 2 ^ 62) (h : (fr l a).length < (fr m b).length) : ((fr m b).take (fr l a).length == fr l a) = false := by
  have : (fr m b).take (fr l a).length ≠ fr l a := fun e => by
    have e2 : fr l a ++ (fr m b).drop (fr l a).length = fr m b := by
      conv => rhs; rw [← List.take_append_drop (fr l a).length (fr m b), e]
    have := fr_apart ha hb e2
    rw [this.1, this.2] at h
    omega
  simpa using this
set_option maxRecDepth 100000 in
set_option maxHeartbeats 8000000 in
theorem apart_any (l m : List UInt8) (a b : List (List UInt8)) (P0 P1 : Option Addr) (k0 k1 : Nat) (q0 q1 : Nat → Option Addr) (c0 c1 : Nat → Nat) (w : World) (h0 : Pt w P0 a q0 c0) (h1 : Pt w P1 b q1 c1) (hs0 : frl l a ≤ 2 ^ 40) (hs1 : frl m b ≤ 2 ^ 40) :
    Calls Try.prog 3 #[.string (sb l), .slice P0 a.length k0, .string (sb m), .slice P1 b.length k1] w fun e w' => e = .returned (.bool true) ∧ Below w.heap.size w w' := by
  have H0 := hidden h0
  have H1 := hidden h1
  have HS0 := hidden hs0
  have HS1 := hidden hs1
  have HLA : Hid (a.length ≤ 2 ^ 40) := hidden (by have := len_le a; unfold frl at hs0; omega)
  have F0 := hidden (fun w' (hb : Below w.heap.size w w') => frame_any l a P0 k0 q0 c0 w' (H0.out.keep hb) HS0.out)
  have F1 := hidden (fun w' (hb : Below w.heap.size w w') => frame_any m b P1 k1 q1 c1 w' (H1.out.keep hb) HS1.out)
  have SA := hidden (fun w' (hb : Below w.heap.size w w') => same_any l m a b P0 P1 k0 k1 q0 q1 c0 c1 w' (H0.out.keep hb) (H1.out.keep hb) HLA.out)
  have hE := fr_eq (l := l) (m := m) (a := a) (b := b) (by omega) (by omega)
  have hL0 := fun h => fr_less (l := l) (m := m) (a := a) (b := b) (by omega) (by omega) h
  have hL1 := fun h => fr_less (l := m) (m := l) (a := b) (b := a) (by omega) (by omega) h
  have g0 := fr_big l a
  have g1 := fr_big m b
  generalize decide (l = m ∧ a = b) = D at SA hE
  generalize fr l a = X at F0 hE hL0 hL1 g0
  generalize fr m b = Y at F1 hE hL0 hL1 g1
  have HL0 := hidden hL0
  have HL1 := hidden hL1
  have HE := hidden hE
  clear h0 h1 hs0 hs1 hL0 hL1 hE
  have z0 := sb_size X
  have z1 := sb_size Y
  have e0 := sb_list X
  have e1 := sb_list Y
  have n0 : ¬ (X.length : Int) < 16 := by omega
  have n1 : ¬ (Y.length : Int) < 16 := by omega
  go_enter Try.func3, Try.ntmps3
  go_upto_region 2 with (first | (go_at_call 5; refine (F0.out _ (Below.refl _ _)).mono ?_; rintro e wa ⟨va, rfl, ha, hb⟩; have CA := own_conv ha; have HB := hidden hb; clear ha hb))
  clear CA
  go_upto_region 3 with (first | (go_at_call 5; refine (F1.out _ HB.out).mono ?_; rintro e wb ⟨vb, rfl, ha, hb⟩; have CB := own_conv ha; replace HB := hidden (bl_trans HB.out hb); clear ha hb))
  clear CB
  go_upto_region 5 with fail
  have hE := HE.out
  go_upto_region 7 with (first | (go_at_call 6; refine (SA.out _ HB.out).mono ?_; rintro e wc ⟨rfl, hb⟩; replace HB := hidden (bl_trans HB.out hb); clear hb))
  clear hE n0 n1 F0 F1 SA HE
  rcases Nat.lt_trichotomy X.length Y.length with hlt | heq | hgt
  · have r0 : ¬ (Y.length : Int) < (X.length : Int) := by omega
    have r1 : ¬ (X.length : Int) = (Y.length : Int) := by omega
    have r2 := sb_extract Y X.length
    have r3 := HL0.out hlt
    have r4 : (X.length : Int) ≤ (Y.length : Int) := by omega
    clear HL0 HL1 hlt g0 g1
    go_wp2_with fail
    refine bodyPost_ret (v := .bool true) (by simp [results, Try.results3, go_sem]) rfl ⟨rfl, HB.out⟩
  · have r0 : ¬ (Y.length : Int) < (X.length : Int) := by omega
    have r1 : (X.length : Int) = (Y.length : Int) := by omega
    clear HL0 HL1 heq g0 g1
    go_wp2_with fail
    refine bodyPost_ret (v := .bool true) (by simp [results, Try.results3, go_sem]) rfl ⟨rfl, HB.out⟩
  · have r0 : (Y.length : Int) < (X.length : Int) := by omega
    have r1 : ¬ (Y.length : Int) = (X.length : Int) := by omega
    have r2 := sb_extract X Y.length
    have r3 := HL1.out hgt
    have r4 : (Y.length : Int) ≤ (X.length : Int) := by omega
    clear HL0 HL1 hgt g0 g1
    go_wp2_with fail
    refine bodyPost_ret (v := .bool true) (by simp [results, Try.results3, go_sem]) rfl ⟨rfl, HB.out⟩
end Go.Proofs.Ytagfneojcgcigaa
