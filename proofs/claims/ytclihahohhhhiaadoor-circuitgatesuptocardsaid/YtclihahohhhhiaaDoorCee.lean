import Derived.Test.YtclihahohhhhiaaDoorCed
namespace Go.Proofs.YtclihahohhhhiaaDoor
open Go.RowKit
set_option linter.unusedVariables false
set_option linter.unusedSimpArgs false
open Cm (Wr Tm co bf Ls lf ins Eqm)
namespace Ci
set_option maxRecDepth 100000
set_option maxHeartbeats 4000000
def zsB (N : Nat → Sl) (Q : List (List Tm)) : Bool := Q.all fun X => decide ((es N (ft X) X.length).n % Sm.L = 0)
theorem zsB_iff (N : Nat → Sl) (Q : List (List Tm)) : zsB N Q = true ↔ ∀ (i : Nat) (X : List Tm), Q[i]? = some X → (es N (ft X) X.length).n % Sm.L = 0 := by
 unfold zsB
 rw [List.all_eq_true]
 constructor
 ·intro h i X hX
  exact of_decide_eq_true (h X (List.mem_of_getElem? hX))
 ·intro h X hX
  obtain ⟨i, hi⟩ := List.mem_iff_getElem?.1 hX
  exact decide_eq_true (h i X hi)
theorem nms_zs (b : Nat) (l r o v : Sl) (Q : List (List Tm)) : zsB (nms b l r o v) Q = zsB (nms 0 l r o v) Q := by
 unfold zsB
 congr 1
 funext X
 rw [nms_es]
theorem nms_ln {b : Nat} {l r o v : Sl} {m Kg : Nat} (h : ftB (nms b l r o v) m Kg = true) : l.n = Kg ∧ r.n = Kg ∧ o.n = Kg ∧ v.n = m :=
 ⟨(ftB_iff _ _ _).1 h 2 (by omega), (ftB_iff _ _ _).1 h 3 (by omega), (ftB_iff _ _ _).1 h 4 (by omega), (ftB_iff _ _ _).1 h 5 (by omega)⟩
def hoE (l r o v : Sl) (m Kg : Nat) (Q : List (List Tm)) : Int := if ftB (nms 0 l r o v) m Kg = true then (if mlB l r o = true then (if zsB (nms 0 l r o v) Q = true then 0 else 203) else 202) else 2
structure Wk (m Kg : Nat) (Q : List (List Tm)) : Prop where
 wr : ∀ X ∈ Q, ∀ x ∈ X, hs m Kg x.1 = true
 ln : ∀ X ∈ Q, X.length ≤ 2932031007402
 q : Q.length ≤ 4096
 k : Kg ≤ 1024
 pf : ∃ R, Q = enl m ++ R
 mle : m ≤ Kg
theorem ft_mem {X : List Tm} {k : Nat} (hk : k < X.length) : ∃ x ∈ X, (ft X k).q = x.1 := ⟨X[k], List.getElem_mem hk, by
 unfold ft tmOf
 rw [List.getD_eq_getElem?_getD, List.getElem?_eq_getElem hk]
 rfl⟩
theorem Holds_any {base : Nat} {w : World} {s m Kg : Nat} {vv : Value} {vs : List Value} {Q : List (List Tm)} (h : Sy base w s m Kg vv vs Q) (hW : Wk m Kg Q) (hT : Tb w) (l r o v : Sl) (hl : l.at w) (hr : r.at w) (ho : o.at w) (hv : v.at w) :
  Calls Tryd.prog 25 #[.pointer (some ⟨s, 0, none⟩), .agg #[l.v, r.v, o.v, v.v]] w fun e w' => e = .returned (.int .i64 (hoE l r o v m Kg Q)) ∧ Below w.heap.size w w' := by
 have BA := bl_alloc w (.cells #[.slice l.p l.n l.c, .slice r.p r.n r.c, .slice o.p o.n o.c, .slice v.p v.n v.c] 37)
 have C0 := hidden (none_any (h.keep BA))
 have C1 := hidden (fun y => numbers_any l r o v y)
 have c0 : (w.alloc (.cells #[.slice l.p l.n l.c, .slice r.p r.n r.c, .slice o.p o.n o.c, .slice v.p v.n v.c] 37)).cell? ⟨w.heap.size, 0, none⟩ = some (.slice l.p l.n l.c) := by go_simp
 have c1 : (w.alloc (.cells #[.slice l.p l.n l.c, .slice r.p r.n r.c, .slice o.p o.n o.c, .slice v.p v.n v.c] 37)).cell? ⟨w.heap.size, 1, none⟩ = some (.slice r.p r.n r.c) := by go_simp
 have c2 : (w.alloc (.cells #[.slice l.p l.n l.c, .slice r.p r.n r.c, .slice o.p o.n o.c, .slice v.p v.n v.c] 37)).cell? ⟨w.heap.size, 2, none⟩ = some (.slice o.p o.n o.c) := by go_simp
 have c3 : (w.alloc (.cells #[.slice l.p l.n l.c, .slice r.p r.n r.c, .slice o.p o.n o.c, .slice v.p v.n v.c] 37)).cell? ⟨w.heap.size, 3, none⟩ = some (.slice v.p v.n v.c) := by go_simp
 have HB := hidden BA
 have HH := hidden h
 have HW := hidden hW
 have HA := hidden (And.intro hl (And.intro hr (And.intro ho hv)))
 have HT := hidden hT
 obtain ⟨PQ, cQ, rfl, _, hG⟩ := h.shape
 have HG := hidden hG
 have lc2 := h.c2
 clear BA h hW hl hr ho hv hT hG
 simp only [Sl.v] at C1 ⊢
 go_enter Tryd.func25, Tryd.ntmps25
 go_upto_region 1 with fail
 generalize (w.alloc (.cells #[.slice l.p l.n l.c, .slice r.p r.n r.c, .slice o.p o.n o.c, .slice v.p v.n v.c] 37)) = w2 at *
 go_upto_region 3 with (go_at_call 29; refine C0.out.mono ?_; rintro e w1 ⟨rfl, rfl⟩)
 clear C0
 go_upto_region 4 with (go_at_call 37; refine (C1.out _).mono ?_; rintro e w3 ⟨b, rfl, h1, hb⟩; have O1 := hidden h1; have B3 := hidden (bl_trans HB.out hb); have y0 := cell_keep c0 hb; have y1 := cell_keep c1 hb; have y2 := cell_keep c2 hb; have y3 := cell_keep c3 hb; clear hb h1 C1 c0 c1 c2 c3)
 have EF := hidden (nms_ft b l r o v m Kg)
 have EZ := hidden (nms_zs b l r o v Q)
 have EL := hidden (fun h => nms_ln (b := b) (l := l) (r := r) (o := o) (v := v) (m := m) (Kg := Kg) h)
 have eN : Hid (∀ k, k < 6 → (nms b l r o v k).at w3) := hidden (nms_at O1.out (HA.out.1.keep B3.out) (HA.out.2.1.keep B3.out) (HA.out.2.2.1.keep B3.out) (HA.out.2.2.2.keep B3.out))
 clear O1 HB
 generalize nms b l r o v = N at *
 have BA := bl_alloc w3 (.cells #[.slice (N 0).p (N 0).n (N 0).c, .slice (N 1).p (N 1).n (N 1).c, .slice (N 2).p (N 2).n (N 2).c, .slice (N 3).p (N 3).n (N 3).c, .slice (N 4).p (N 4).n (N 4).c, .slice (N 5).p (N 5).n (N 5).c] 79)
 have d0 : (w3.alloc (.cells #[.slice (N 0).p (N 0).n (N 0).c, .slice (N 1).p (N 1).n (N 1).c, .slice (N 2).p (N 2).n (N 2).c, .slice (N 3).p (N 3).n (N 3).c, .slice (N 4).p (N 4).n (N 4).c, .slice (N 5).p (N 5).n (N 5).c] 79)).cell? ⟨w3.heap.size, 0, none⟩ = some (.slice (N 0).p (N 0).n (N 0).c) := by go_simp
 have d1 : (w3.alloc (.cells #[.slice (N 0).p (N 0).n (N 0).c, .slice (N 1).p (N 1).n (N 1).c, .slice (N 2).p (N 2).n (N 2).c, .slice (N 3).p (N 3).n (N 3).c, .slice (N 4).p (N 4).n (N 4).c, .slice (N 5).p (N 5).n (N 5).c] 79)).cell? ⟨w3.heap.size, 1, none⟩ = some (.slice (N 1).p (N 1).n (N 1).c) := by go_simp
 have d2 : (w3.alloc (.cells #[.slice (N 0).p (N 0).n (N 0).c, .slice (N 1).p (N 1).n (N 1).c, .slice (N 2).p (N 2).n (N 2).c, .slice (N 3).p (N 3).n (N 3).c, .slice (N 4).p (N 4).n (N 4).c, .slice (N 5).p (N 5).n (N 5).c] 79)).cell? ⟨w3.heap.size, 2, none⟩ = some (.slice (N 2).p (N 2).n (N 2).c) := by go_simp
 have d3 : (w3.alloc (.cells #[.slice (N 0).p (N 0).n (N 0).c, .slice (N 1).p (N 1).n (N 1).c, .slice (N 2).p (N 2).n (N 2).c, .slice (N 3).p (N 3).n (N 3).c, .slice (N 4).p (N 4).n (N 4).c, .slice (N 5).p (N 5).n (N 5).c] 79)).cell? ⟨w3.heap.size, 3, none⟩ = some (.slice (N 3).p (N 3).n (N 3).c) := by go_simp
 have d4 : (w3.alloc (.cells #[.slice (N 0).p (N 0).n (N 0).c, .slice (N 1).p (N 1).n (N 1).c, .slice (N 2).p (N 2).n (N 2).c, .slice (N 3).p (N 3).n (N 3).c, .slice (N 4).p (N 4).n (N 4).c, .slice (N 5).p (N 5).n (N 5).c] 79)).cell? ⟨w3.heap.size, 4, none⟩ = some (.slice (N 4).p (N 4).n (N 4).c) := by go_simp
 have d5 : (w3.alloc (.cells #[.slice (N 0).p (N 0).n (N 0).c, .slice (N 1).p (N 1).n (N 1).c, .slice (N 2).p (N 2).n (N 2).c, .slice (N 3).p (N 3).n (N 3).c, .slice (N 4).p (N 4).n (N 4).c, .slice (N 5).p (N 5).n (N 5).c] 79)).cell? ⟨w3.heap.size, 5, none⟩ = some (.slice (N 5).p (N 5).n (N 5).c) := by go_simp
 have x0 := cell_keep y0 BA
 have x1 := cell_keep y1 BA
 have x2 := cell_keep y2 BA
 have x3 := cell_keep y3 BA
 have B5 := hidden (bl_trans B3.out BA)
 have N5 : Hid (∀ k, k < 6 → (N k).at (w3.alloc (.cells #[.slice (N 0).p (N 0).n (N 0).c, .slice (N 1).p (N 1).n (N 1).c, .slice (N 2).p (N 2).n (N 2).c, .slice (N 3).p (N 3).n (N 3).c, .slice (N 4).p (N 4).n (N 4).c, .slice (N 5).p (N 5).n (N 5).c] 79))) := hidden (fun k hk => (eN.out k hk).keep BA)
 clear BA B3 eN y0 y1 y2 y3
 generalize w3.alloc (.cells #[.slice (N 0).p (N 0).n (N 0).c, .slice (N 1).p (N 1).n (N 1).c, .slice (N 2).p (N 2).n (N 2).c, .slice (N 3).p (N 3).n (N 3).c, .slice (N 4).p (N 4).n (N 4).c, .slice (N 5).p (N 5).n (N 5).c] 79) = w5 at *
 generalize w3.heap.size = nb at *
 have C3 := fits_any (HH.out.keep B5.out) N
 simp only [Sl.v] at C3
 replace C3 := hidden C3
 by_cases hF : ftB N m Kg = true
 ·rw [hF] at C3
  obtain ⟨el, er, eo, ev⟩ := EL.out hF
  have C4 := fun y (hb : Below w5.heap.size w5 y) => multiplies_any l r o v y (HT.out.keep (bl_trans B5.out hb)) (by have := HW.out.k; omega) (HA.out.1.keep (bl_trans B5.out hb)) (HA.out.2.1.keep (bl_trans B5.out hb)) (HA.out.2.2.1.keep (bl_trans B5.out hb)) (by omega) (by omega)
  simp only [Sl.v] at C4
  replace C4 := hidden C4
  have HF := hidden hF
  clear el er eo ev EL hF
  go_upto_region 6 with (go_at_call 39; refine C3.out.mono ?_; rintro e w6 ⟨rfl, hb⟩; have B6 := hidden hb; have z0 := cell_keep x0 hb; have z1 := cell_keep x1 hb; have z2 := cell_keep x2 hb; have z3 := cell_keep x3 hb; clear hb x0 x1 x2 x3)
  clear C3
  by_cases hM : mlB l r o = true
  ·rw [hM] at C4
   have HMM := hidden hM
   clear hM
   go_upto_region 8 with (go_at_call 52; refine (C4.out _ B6.out).mono ?_; rintro e w7 ⟨rfl, hb⟩; have B7 := hidden (bl_trans B6.out hb); have B70 := hidden (bl_trans B5.out (bl_trans B6.out hb)); have s2 := cell_keep lc2 (bl_trans B5.out (bl_trans B6.out hb)); clear hb z0 z1 z2 z3)
   clear C4
   have t0 := cell_keep d0 B7.out
   have t1 := cell_keep d1 B7.out
   have t2 := cell_keep d2 B7.out
   have t3 := cell_keep d3 B7.out
   have t4 := cell_keep d4 B7.out
   have t5 := cell_keep d5 B7.out
   have TT6 := hidden (And.intro t0 (And.intro t1 (And.intro t2 (And.intro t3 (And.intro t4 t5)))))
   have N7 : Hid (∀ k, k < 6 → (N k).at w7) := hidden (fun k hk => (N5.out k hk).keep B7.out)
   clear d0 d1 d2 d3 d4 d5 t0 t1 t2 t3 t4 t5 N5 B6 B7
   have R0 := hidden (Below.refl w7.heap.size w7)
   have qn : Hid (Q.length ≤ 4096) := hidden HW.out.q
   go_upto_region 9 with fail
   clear s2
   go_loopw [26] (fun iv w' => ∃ i : Nat, i ≤ Q.length ∧ iv = .int .i64 (i : Int) ∧ Hid (∀ k X, k < i → Q[k]? = some X → (es N (ft X) X.length).n % Sm.L = 0) ∧ Hid (Below w7.heap.size w7 w')) (fun i _ => Q.length - (intOf i).toNat)
   case atStart => exact ⟨0, by omega, rfl, hidden (fun k X hk => by omega), R0⟩
   case round =>
    clear R0
    obtain ⟨i, hi, rfl, hZ, hR⟩ := hrel
    by_cases hin : i < Q.length
    ·have i1 : (i : Int) < (Q.length : Int) := by omega
     have i0 : (0 : Int) ≤ (i : Int) := by omega
     have w9 : IntKind.i64.wrap ((i : Int) + 1) = (i : Int) + 1 := IntWalk.i64_in _ (by have := qn.out; omega)
     obtain ⟨G, rfl⟩ := HG.out (by omega)
     obtain ⟨X, hX⟩ : ∃ X, Q[i]? = some X := ⟨Q[i], by simp [hin]⟩
     obtain ⟨u, hu, hown⟩ := HH.out.ls i X hX
     obtain ⟨PX, cX, rfl, _⟩ := own_shT hown
     have cc := HH.out.row.cells (g := G) rfl i _ hu
     rw [Addr.add_mid, Nat.zero_add] at cc
     have BW := bl_trans B70.out hR.out
     have gc := cell_keep cc BW
     have LX := (own_lts hown).keep BW
     have mX := List.mem_of_getElem? hX
     have t0 := cell_keep TT6.out.1 hR.out
     have t1 := cell_keep TT6.out.2.1 hR.out
     have t2 := cell_keep TT6.out.2.2.1 hR.out
     have t3 := cell_keep TT6.out.2.2.2.1 hR.out
     have t4 := cell_keep TT6.out.2.2.2.2.1 hR.out
     have t5 := cell_keep TT6.out.2.2.2.2.2 hR.out
     have C5 := fun y (hb : Below wr.heap.size wr y) => nsum_any N PX X.length cX (ft X) y (HT.out.keep (bl_trans BW hb)) (HW.out.ln X mX) (fun k hk => (N7.out k hk).keep (bl_trans hR.out hb)) (fun k hk => lst_ok _) (fun k hk => nm_of_hs HF.out (by obtain ⟨x, hx, e⟩ := ft_mem hk; rw [e]; exact HW.out.wr X mX x hx)) (LX.keep hb)
     simp only [Sl.v] at C5
     have KY : Hid ((es N (ft X) X.length).n % Sm.L = 0 → ∀ k Y, k < i + 1 → Q[k]? = some Y → (es N (ft Y) Y.length).n % Sm.L = 0) := hidden (fun h k Y hk hY => by
      rcases Nat.lt_or_ge k i with h1 | h1
      ·exact hZ.out k Y h1 hY
      ·obtain rfl : k = i := by omega
       rw [hX] at hY
       obtain rfl := Option.some.inj hY
       exact h)
     have NK : Hid (¬ (es N (ft X) X.length).n % Sm.L = 0 → zsB N Q = false) := hidden (fun h => by
      rw [Bool.eq_false_iff]
      exact fun e => h ((zsB_iff N Q).1 e i X hX))
     obtain ⟨rv, hrv⟩ : ∃ rv, es N (ft X) X.length = rv := ⟨_, rfl⟩
     have orv : rv.ok := hrv ▸ es_ok N _ _
     rw [hrv] at C5 KY NK
     have C6 := fun y (hb : Below wr.heap.size wr y) => IsZero_any rv y (HT.out.keep (bl_trans BW hb)) orv
     obtain ⟨Bz, hBz⟩ : ∃ Bz, decide (rv.n % Sm.L = 0) = Bz := ⟨_, rfl⟩
     rw [hBz] at C6
     simp only [E4.v] at C6
     replace C5 := hidden C5
     replace C6 := hidden C6
     clear hZ hX hu hown cc LX mX orv hrv
     go_upto_region 11 with fail
     cases Bz with
     | true =>
      have KZ := hidden (KY.out (of_decide_eq_true hBz))
      clear KY NK hBz
      go_wp2_with (first | (go_at_call 40; refine (C5.out _ (Below.refl _ _)).mono ?_; rintro e w8 ⟨rfl, hb⟩; have B8 := hidden hb; clear hb C5) | (go_at_call 14; refine (C6.out _ B8.out).mono ?_; rintro e w9 ⟨rfl, hb⟩; have PN := hidden (bl_trans hR.out (bl_trans B8.out hb)); clear hb C6))
      go_roundw
      case rel => exact ⟨i + 1, by omega, by go_num, KZ, PN⟩
      case measure => simp [intOf]; omega
     | false =>
      have fz := hidden (NK.out (of_decide_eq_false hBz))
      clear KY NK hBz
      go_wp2_with (first | (go_at_call 40; refine (C5.out _ (Below.refl _ _)).mono ?_; rintro e w8 ⟨rfl, hb⟩; have B8 := hidden hb; clear hb C5) | (go_at_call 14; refine (C6.out _ B8.out).mono ?_; rintro e w9 ⟨rfl, hb⟩; have PN := hidden (bl_trans B70.out (bl_trans hR.out (bl_trans B8.out hb))); clear hb C6))
      have eE : hoE l r o v m Kg Q = 203 := by
       unfold hoE
       rw [← EF.out, if_pos HF.out, if_pos HMM.out, ← EZ.out, if_neg (by rw [fz.out]; decide)]
      refine bodyPost_ret (v := .int .i64 203) (by simp [results, Tryd.results25, go_sem]) rfl ⟨by rw [eE], PN.out⟩
    ·obtain rfl : i = Q.length := by omega
     have lq : ¬ (Q.length : Int) < (Q.length : Int) := by omega
     have BF := hidden (bl_trans B70.out hR.out)
     have fz := hidden ((zsB_iff N Q).2 (fun i X hX => hZ.out i X (List.getElem?_eq_some_iff.1 hX).1 hX))
     clear hZ hR
     go_wp2_with fail
     have eE : hoE l r o v m Kg Q = 0 := by
      unfold hoE
      rw [← EF.out, if_pos HF.out, if_pos HMM.out, ← EZ.out, if_pos fz.out]
     refine bodyPost_ret (v := .int .i64 0) (by simp [results, Tryd.results25, go_sem]) rfl ⟨by rw [eE], BF.out⟩
  ·have hM2 : mlB l r o = false := by simpa using hM
   rw [hM2] at C4
   have HMM := hidden hM
   clear hM hM2
   go_wp2_with (go_at_call 52; refine (C4.out _ B6.out).mono ?_; rintro e w7 ⟨rfl, hb⟩; have BF := hidden (bl_trans B5.out (bl_trans B6.out hb)); clear hb z0 z1 z2 z3)
   have eE : hoE l r o v m Kg Q = 202 := by
    unfold hoE
    rw [← EF.out, if_pos HF.out, if_neg HMM.out]
   refine bodyPost_ret (v := .int .i64 202) (by simp [results, Tryd.results25, go_sem]) rfl ⟨by rw [eE], BF.out⟩
 ·have hF2 : ftB N m Kg = false := by simpa using hF
  rw [hF2] at C3
  have HF := hidden hF
  clear hF hF2
  go_wp2_with (go_at_call 39; refine C3.out.mono ?_; rintro e w6 ⟨rfl, hb⟩; have BF := hidden (bl_trans B5.out hb); clear hb)
  have eE : hoE l r o v m Kg Q = 2 := by
   unfold hoE
   rw [← EF.out, if_neg HF.out]
  refine bodyPost_ret (v := .int .i64 2) (by simp [results, Tryd.results25, go_sem]) rfl ⟨by rw [eE], BF.out⟩
end Ci
end Go.Proofs.YtclihahohhhhiaaDoor
