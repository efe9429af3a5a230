import Derived.Test.YtghcfcglakbkeaaGreatDoorWcz
namespace Go.Proofs.YtghcfcglakbkeaaGreatDoor
open Go.RowKit
set_option linter.unusedVariables false
set_option linter.unusedSimpArgs false
open Cm (Wr Tm co bf Ls lf ins Eqm)
namespace Ci
set_option maxRecDepth 100000
set_option maxHeartbeats 4000000
theorem ls_len3 {X : List Tm} {m K : Nat} (hL : Ls Sm.L X) (hw : ∀ x ∈ X, hs m K x.1 = true) (hK : K ≤ 1024) (hm : m ≤ 16) : X.length ≤ 3089 := by
 have key : ∀ x ∈ X, (x.1.1 = 1 ∧ x.1.2 = 0) ∨ ((x.1.1 = 2 ∨ x.1.1 = 3 ∨ x.1.1 = 4) ∧ 0 ≤ x.1.2 ∧ x.1.2 < 1024) ∨ (x.1.1 = 5 ∧ 0 ≤ x.1.2 ∧ x.1.2 < 16) := fun x hx => by
  have h := hw x hx
  unfold hs at h
  simp only [Bool.and_eq_true, decide_eq_true_eq] at h
  obtain ⟨h1, h2, h3, h4⟩ := h
  have : x.1.1 = 1 ∨ x.1.1 = 2 ∨ x.1.1 = 3 ∨ x.1.1 = 4 ∨ x.1.1 = 5 := by omega
  rcases this with e | e | e | e | e <;> rw [e] at h4 <;> simp [ct] at h4 <;> omega
 have h := up_len (X.map fun x => if x.1.1 = 1 then 0 else 1 + (x.1.1 - 2) * 1024 + x.1.2) 0 3089 (by
  rw [List.pairwise_map]
  refine hL.up.imp_of_mem (fun {x y} hx hy hb => ?_)
  have hx := key x hx
  have hy := key y hy
  rw [Cm.bf_iff] at hb
  split <;> split <;> omega) (fun z hz => by
  obtain ⟨x, hx, rfl⟩ := List.mem_map.1 hz
  have := key x hx
  split <;> omega) (by omega)
 rw [List.length_map] at h
 omega
theorem enl_at {n j : Nat} (h : j < n) : (enl n)[j]? = some (enX (j : Int)) := by
 induction n with
 | zero => omega
 | succ n ih =>
  have e : enl (n + 1) = enl n ++ [enX (n : Int)] := rfl
  rw [e]
  by_cases hj : j < n
  ·rw [List.getElem?_append_left (by rw [enl_len]; exact hj), ih hj]
  ·obtain rfl : j = n := by omega
   rw [List.getElem?_append_right (by rw [enl_len]; exact Nat.le_refl _), enl_len]
   simp
theorem enX_has (j : Int) : ∃ x ∈ enX j, x.1 = (2, j) := by
 apply Classical.byContradiction
 intro hn
 have h0 : co (enX j) (2, j) = 0 := Cm.co_out (fun x hx e => hn ⟨x, hx, e⟩)
 have h1 := Cm.lf_eqm (L := Sm.L) (glL 1 (cst (2, j)) ++ glN 1 (cst (5, j))) (2, j)
 have e1 : glL 1 (cst (2, j)) = [((2, j), (lst 1).n)] := rfl
 have e2 : glN 1 (cst (5, j)) = [((5, j), -(lst 1).n)] := rfl
 have h2 : co (glL 1 (cst (2, j)) ++ glN 1 (cst (5, j))) (2, j) = (lst 1).n := by
  rw [e1, e2]
  simp [co]
 have h3 : co (enX j) (2, j) % Sm.L = (lst 1).n % Sm.L := by
  rw [← h2]
  exact h1
 rw [h0, lst_n] at h3
 revert h3
 decide
theorem okY_of {m K : Nat} {Q : List (List Tm)} (h : Wk m K Q) (hm : m ≤ 16) (hl : ∀ X ∈ Q, Ls Sm.L X) : okY m K Q := by
 refine ⟨hm, h.k, h.q, fun X hX => ⟨ls_len3 (hl X hX) (h.wr X hX) h.k hm, hl X hX, h.wr X hX⟩, ?_⟩
 obtain ⟨R, e⟩ := h.pf
 rw [e, List.take_left' (enl_len m)]
theorem wk_of {m K : Nat} {Q : List (List Tm)} (h : okY m K Q) : Wk m K Q := by
 obtain ⟨hm, hK, hq, ho, he⟩ := h
 refine ⟨fun X hX x hx => (ho X hX).2.2 x hx, fun X hX => by have := (ho X hX).1; omega, hq, hK, ⟨Q.drop m, by rw [← he, List.take_append_drop]⟩, ?_⟩
 by_cases h0 : m = 0
 ·omega
 ·have ha := enl_at (n := m) (j := m - 1) (by omega)
  rw [← he, List.getElem?_take] at ha
  rw [if_pos (by omega)] at ha
  obtain ⟨x, hx, e⟩ := enX_has ((m - 1 : Nat) : Int)
  have hh := (ho _ (List.mem_of_getElem? ha)).2.2 x hx
  rw [e] at hh
  unfold hs at hh
  simp only [Bool.and_eq_true, decide_eq_true_eq] at hh
  have := hh.2.2.2
  simp [ct] at this
  omega
end Ci
end Go.Proofs.YtghcfcglakbkeaaGreatDoor
namespace Go.Proofs.YtghcfcglakbkeaaGreatDoor
open Go.RowKit
set_option linter.unusedVariables false
set_option linter.unusedSimpArgs false
open Cm (Wr Tm co bf Ls lf ins Eqm)
open Tr (By)
namespace Ci
set_option maxRecDepth 100000
set_option maxHeartbeats 16000000
theorem wp_conv {w : World} {o : Oper} {a : Act} {K : Act → World → Prop} {Q : Exit → Act → World → Prop} (x : Operand) (ho : o.op = .convert 61 9 x) {P : Option Addr} {c : Nat} {bs : List UInt8} (hx : a.eval x = .slice P bs.length c) (hB : By w P c bs) (h : K (a.put o.dst (.string (Tr.sb bs))) w) : o.wp Tryz.prog a w K Q := by
 have hr := Tr.by_conv hB
 unfold Oper.wp execOp
 simp only [ho, hx, hr, Sem.run_bind, Sem.run_pure, Result.andThen_ok]
 exact h
end Ci
end Go.Proofs.YtghcfcglakbkeaaGreatDoor
namespace Go.Proofs.YtghcfcglakbkeaaGreatDoor
open Go.RowKit
set_option linter.unusedVariables false
set_option linter.unusedSimpArgs false
open Cm (Wr Tm co bf Ls lf ins Eqm)
namespace Ci
set_option maxRecDepth 100000
set_option maxHeartbeats 4000000
theorem Multiply_wireA {base : Nat} {w : World} {s m Kg : Nat} {v : Value} {vs : List Value} {Q : List (List Tm)} (h : Sy base w s m Kg v vs Q) (hT : Tb w) (Pa Pb : Option Addr) (na ca nb cb : Nat) (fa fb : Nat → Trm) (hna : na ≤ 2932031007401) (hnb : nb ≤ 2932031007401) (hfa : ∀ k, k < na → (fa k).a.ok) (hfb : ∀ k, k < nb → (fb k).a.ok) (ha : Lt w Pa na fa) (hb : Lt w Pb nb fb) (hwa : nm m Kg (lf Sm.L (glL na fa)).length (ft (lf Sm.L (glL na fa))) = false) :
  Calls Tryz.prog 24 #[.pointer (some ⟨s, 0, none⟩), .slice Pa na ca, .slice Pb nb cb] w fun e w' => e = .returned (tup 0 0 0 0 0 0 200) ∧ Below w.heap.size w w' := by
 have hmm := @run_makeMap Tryz.prog
 obtain ⟨mu, bx, bl⟩ := mu_start h hT ha hb
 have B3 := bl_alloc3 w (.cells #[.int .i64 0, .int .i64 0] 79) (.cells #[.int .i64 0, .int .i64 0] 79) (.cells #[.int .i64 0, .int .i64 0] 79)
 have C0 := Hn (none_any (h.keep B3))
 have la9 : (lf Sm.L (glL na fa)).length ≤ 4398046510976 := by have h9 : (glL na fa).length = na := (by simp [glL]); have := lf_len_le (glL na fa); omega
 have lb9 : (lf Sm.L (glL nb fb)).length ≤ 4398046510976 := by have h9 : (glL nb fb).length = nb := (by simp [glL]); have := lf_len_le (glL nb fb); omega
 obtain ⟨Pv, cv, hv, hlc, hpv⟩ := h.shape
 have HV := Hn (fun k hk => h.vb k hk)
 have HLT := Hn h.lt
 subst hv
 generalize hnq : Q.length = nq at *
 have HNQ := Hn hnq
 generalize hbz : (((w.alloc (.cells #[.int .i64 0, .int .i64 0] 79)).alloc (.cells #[.int .i64 0, .int .i64 0] 79)).alloc (.cells #[.int .i64 0, .int .i64 0] 79)).heap.size = bz at *
 have C1 := Hn (fun x (h : Mu base w s m Kg (.slice Pv nq cv) vs Q bz Pa na fa Pb nb fb x) => mu_sum Pa na ca fa (by omega) hfa x h h.la)
 have C2 := Hn (fun x (h : Mu base w s m Kg (.slice Pv nq cv) vs Q bz Pa na fa Pb nb fb x) => mu_sum Pb nb cb fb (by omega) hfb x h h.lb)
 have N1 := Hn (fun x R e1 (h : Mu base w s m Kg (.slice Pv nq cv) vs Q bz Pa na fa Pb nb fb x) (hl : Lt x R (lf Sm.L (glL na fa)).length (ft (lf Sm.L (glL na fa)))) => names_any h.sy R (lf Sm.L (glL na fa)).length e1 (ft (lf Sm.L (glL na fa))) la9 hl)
 have N2 := Hn (fun x R e1 (h : Mu base w s m Kg (.slice Pv nq cv) vs Q bz Pa na fa Pb nb fb x) (hl : Lt x R (lf Sm.L (glL nb fb)).length (ft (lf Sm.L (glL nb fb)))) => names_any h.sy R (lf Sm.L (glL nb fb)).length e1 (ft (lf Sm.L (glL nb fb))) lb9 hl)
 rw [hwa] at N1
 have MU0 := Hn mu
 have BX0 := Hn bx
 have BL0 := Hn bl
 have HBZ : Hid (w.heap.size ≤ bz) := Hn mu.hb
 have BZ := Hn hbz
 clear h hT ha hb mu bx bl B3 hwa la9 lb9 hna hnb hfa hfb hnq hlc hpv
 generalize hxa : lf Sm.L (glL na fa) = Xa at *
 generalize hxb : lf Sm.L (glL nb fb) = Xb at *
 clear hxa hxb
 go_enter Tryz.func24, Tryz.ntmps24
 go_upto_region 3 with (go_at_call 44; refine C0.out.mono ?_; rintro e w1 ⟨rfl, rfl⟩)
 clear C0
 go_upto_region 4 with fail
 have hbz2 : w.heap.size + 1 + 1 + 1 = bz := by rw [← hbz]; simp
 try rw [hbz2]
 clear hbz hbz2
 generalize ((((w.alloc (.cells #[.int .i64 0, .int .i64 0] 79)).alloc (.cells #[.int .i64 0, .int .i64 0] 79)).alloc (.cells #[.int .i64 0, .int .i64 0] 79)).alloc (.map #[] 0)) = w4 at *
 go_upto_region 5 with (first | (have _t := C1; go_at_call 64; refine (C1.out _ MU0.out).mono ?_; rintro e w5 ⟨R1, e1, rfl, hm, hl, hg⟩; have M5 := Hn hm; have L5 := Hn hl; have X5 := Hn (BX0.out.to (wi_ne_map MU0.out.mp) hg); have B5 := Hn (BL0.out.grown hg BL0.out.size (fun k hk => by obtain rfl := Option.some.inj hk; exact HBZ.out)); clear hm hl hg C1) | (have _t := N1; go_at_call 63; refine (N1.out _ R1 e1 M5.out L5.out).mono ?_; rintro e w6 ⟨rfl, hbb⟩; have M6 := Hn (M5.out.bel hbb); have X6 := Hn (X5.out.bel hbb); have B6 := Hn (bl_trans B5.out hbb); clear hbb N1))
 clear M5 L5 X5 B5 MU0 BX0 BL0
 go_upto_region 5 with fail
 have XX := X6
 refine ml5 _ w.heap.size (w.heap.size + 1) (w.heap.size + 1 + 1) 0 0 0 0 0 0 _ _ _ _ _ _ _ _ _ _ _ _ _ _ _ _ _ _ _ _ _ _ _ _ _ _ _ _ _ _ _ _ _ _ _ _ _ _ _ _ _ _ _ _ _ _ _ _ _ _ _ _ _ _ _ _ _ _ _ _ _ _ _ _ _ _ _ _ _ _ _ _ _ _ w6 XX.out.c00 XX.out.c01 XX.out.f00 XX.out.f01 XX.out.c10 XX.out.c11 XX.out.f10 XX.out.f11 XX.out.c20 XX.out.c21 XX.out.f20 XX.out.f21 (Hn ?_)
 intro wz hz
 have d00 : wz.cell? ⟨w.heap.size, 0, none⟩ = some (.int .i64 0) := by rw [hz]; exact XX.out.c00
 have d01 : wz.cell? ⟨w.heap.size, 1, none⟩ = some (.int .i64 0) := by rw [hz]; exact XX.out.c01
 have d10 : wz.cell? ⟨w.heap.size + 1, 0, none⟩ = some (.int .i64 0) := by rw [hz]; exact XX.out.c10
 have d11 : wz.cell? ⟨w.heap.size + 1, 1, none⟩ = some (.int .i64 0) := by rw [hz]; exact XX.out.c11
 have d20 : wz.cell? ⟨w.heap.size + 1 + 1, 0, none⟩ = some (.int .i64 0) := by rw [hz]; exact XX.out.c20
 have d21 : wz.cell? ⟨w.heap.size + 1 + 1, 1, none⟩ = some (.int .i64 0) := by rw [hz]; exact XX.out.c21
 have HZ : Hid (Below w.heap.size w wz) := Hn (by rw [hz]; exact bl_trans B6.out (bl_drew _))
 clear hz X6 XX M6 B6
 go_wp2_with fail
 refine bodyPost_ret (v := tup 0 0 0 0 0 0 200) (by simp [results, Tryz.results24, go_sem, d00, d01, d10, d11, d20, d21, tup]) rfl ⟨rfl, HZ.out⟩
theorem Multiply_wireB {base : Nat} {w : World} {s m Kg : Nat} {v : Value} {vs : List Value} {Q : List (List Tm)} (h : Sy base w s m Kg v vs Q) (hT : Tb w) (Pa Pb : Option Addr) (na ca nb cb : Nat) (fa fb : Nat → Trm) (hna : na ≤ 2932031007401) (hnb : nb ≤ 2932031007401) (hfa : ∀ k, k < na → (fa k).a.ok) (hfb : ∀ k, k < nb → (fb k).a.ok) (ha : Lt w Pa na fa) (hb : Lt w Pb nb fb) (hwa : nm m Kg (lf Sm.L (glL na fa)).length (ft (lf Sm.L (glL na fa))) = true) (hwb : nm m Kg (lf Sm.L (glL nb fb)).length (ft (lf Sm.L (glL nb fb))) = false) :
  Calls Tryz.prog 24 #[.pointer (some ⟨s, 0, none⟩), .slice Pa na ca, .slice Pb nb cb] w fun e w' => e = .returned (tup 0 0 0 0 0 0 200) ∧ Below w.heap.size w w' := by
 have hmm := @run_makeMap Tryz.prog
 obtain ⟨mu, bx, bl⟩ := mu_start h hT ha hb
 have B3 := bl_alloc3 w (.cells #[.int .i64 0, .int .i64 0] 79) (.cells #[.int .i64 0, .int .i64 0] 79) (.cells #[.int .i64 0, .int .i64 0] 79)
 have C0 := Hn (none_any (h.keep B3))
 have la9 : (lf Sm.L (glL na fa)).length ≤ 4398046510976 := by have h9 : (glL na fa).length = na := (by simp [glL]); have := lf_len_le (glL na fa); omega
 have lb9 : (lf Sm.L (glL nb fb)).length ≤ 4398046510976 := by have h9 : (glL nb fb).length = nb := (by simp [glL]); have := lf_len_le (glL nb fb); omega
 obtain ⟨Pv, cv, hv, hlc, hpv⟩ := h.shape
 have HV := Hn (fun k hk => h.vb k hk)
 have HLT := Hn h.lt
 subst hv
 generalize hnq : Q.length = nq at *
 have HNQ := Hn hnq
 generalize hbz : (((w.alloc (.cells #[.int .i64 0, .int .i64 0] 79)).alloc (.cells #[.int .i64 0, .int .i64 0] 79)).alloc (.cells #[.int .i64 0, .int .i64 0] 79)).heap.size = bz at *
 have C1 := Hn (fun x (h : Mu base w s m Kg (.slice Pv nq cv) vs Q bz Pa na fa Pb nb fb x) => mu_sum Pa na ca fa (by omega) hfa x h h.la)
 have C2 := Hn (fun x (h : Mu base w s m Kg (.slice Pv nq cv) vs Q bz Pa na fa Pb nb fb x) => mu_sum Pb nb cb fb (by omega) hfb x h h.lb)
 have N1 := Hn (fun x R e1 (h : Mu base w s m Kg (.slice Pv nq cv) vs Q bz Pa na fa Pb nb fb x) (hl : Lt x R (lf Sm.L (glL na fa)).length (ft (lf Sm.L (glL na fa)))) => names_any h.sy R (lf Sm.L (glL na fa)).length e1 (ft (lf Sm.L (glL na fa))) la9 hl)
 have N2 := Hn (fun x R e1 (h : Mu base w s m Kg (.slice Pv nq cv) vs Q bz Pa na fa Pb nb fb x) (hl : Lt x R (lf Sm.L (glL nb fb)).length (ft (lf Sm.L (glL nb fb)))) => names_any h.sy R (lf Sm.L (glL nb fb)).length e1 (ft (lf Sm.L (glL nb fb))) lb9 hl)
 rw [hwa] at N1
 rw [hwb] at N2
 have MU0 := Hn mu
 have BX0 := Hn bx
 have BL0 := Hn bl
 have HBZ : Hid (w.heap.size ≤ bz) := Hn mu.hb
 have BZ := Hn hbz
 clear h hT ha hb mu bx bl B3 hwa hwb la9 lb9 hna hnb hfa hfb hnq hlc hpv
 generalize hxa : lf Sm.L (glL na fa) = Xa at *
 generalize hxb : lf Sm.L (glL nb fb) = Xb at *
 clear hxa hxb
 go_enter Tryz.func24, Tryz.ntmps24
 go_upto_region 3 with (go_at_call 44; refine C0.out.mono ?_; rintro e w1 ⟨rfl, rfl⟩)
 clear C0
 go_upto_region 4 with fail
 have hbz2 : w.heap.size + 1 + 1 + 1 = bz := by rw [← hbz]; simp
 try rw [hbz2]
 clear hbz hbz2
 generalize ((((w.alloc (.cells #[.int .i64 0, .int .i64 0] 79)).alloc (.cells #[.int .i64 0, .int .i64 0] 79)).alloc (.cells #[.int .i64 0, .int .i64 0] 79)).alloc (.map #[] 0)) = w4 at *
 go_upto_region 5 with (first | (have _t := C1; go_at_call 64; refine (C1.out _ MU0.out).mono ?_; rintro e w5 ⟨R1, e1, rfl, hm, hl, hg⟩; have M5 := Hn hm; have L5 := Hn hl; have X5 := Hn (BX0.out.to (wi_ne_map MU0.out.mp) hg); have B5 := Hn (BL0.out.grown hg BL0.out.size (fun k hk => by obtain rfl := Option.some.inj hk; exact HBZ.out)); clear hm hl hg C1) | (have _t := N1; go_at_call 63; refine (N1.out _ R1 e1 M5.out L5.out).mono ?_; rintro e w6 ⟨rfl, hbb⟩; have M6 := Hn (M5.out.bel hbb); have X6 := Hn (X5.out.bel hbb); have B6 := Hn (bl_trans B5.out hbb); clear hbb N1) | (have _t := C2; go_at_call 64; refine (C2.out _ M6.out).mono ?_; rintro e w7 ⟨R2, e2, rfl, hm, hl, hg⟩; have M7 := Hn hm; have L7 := Hn hl; have X7 := Hn (X6.out.to (wi_ne_map M6.out.mp) hg); have B7 := Hn (B6.out.grown hg B6.out.size (fun k hk => by obtain rfl := Option.some.inj hk; exact HBZ.out)); clear hm hl hg C2) | (have _t := N2; go_at_call 63; refine (N2.out _ R2 e2 M7.out L7.out).mono ?_; rintro e w8 ⟨rfl, hbb⟩; have M8 := Hn (M7.out.bel hbb); have X8 := Hn (X7.out.bel hbb); have B8 := Hn (bl_trans B7.out hbb); clear hbb N2))
 clear M5 L5 X5 B5 M6 X6 B6 M7 L7 X7 B7 MU0 BX0 BL0
 go_upto_region 5 with fail
 have XX := X8
 refine ml5 _ w.heap.size (w.heap.size + 1) (w.heap.size + 1 + 1) 0 0 0 0 0 0 _ _ _ _ _ _ _ _ _ _ _ _ _ _ _ _ _ _ _ _ _ _ _ _ _ _ _ _ _ _ _ _ _ _ _ _ _ _ _ _ _ _ _ _ _ _ _ _ _ _ _ _ _ _ _ _ _ _ _ _ _ _ _ _ _ _ _ _ _ _ _ _ _ _ w8 XX.out.c00 XX.out.c01 XX.out.f00 XX.out.f01 XX.out.c10 XX.out.c11 XX.out.f10 XX.out.f11 XX.out.c20 XX.out.c21 XX.out.f20 XX.out.f21 (Hn ?_)
 intro wz hz
 have d00 : wz.cell? ⟨w.heap.size, 0, none⟩ = some (.int .i64 0) := by rw [hz]; exact XX.out.c00
 have d01 : wz.cell? ⟨w.heap.size, 1, none⟩ = some (.int .i64 0) := by rw [hz]; exact XX.out.c01
 have d10 : wz.cell? ⟨w.heap.size + 1, 0, none⟩ = some (.int .i64 0) := by rw [hz]; exact XX.out.c10
 have d11 : wz.cell? ⟨w.heap.size + 1, 1, none⟩ = some (.int .i64 0) := by rw [hz]; exact XX.out.c11
 have d20 : wz.cell? ⟨w.heap.size + 1 + 1, 0, none⟩ = some (.int .i64 0) := by rw [hz]; exact XX.out.c20
 have d21 : wz.cell? ⟨w.heap.size + 1 + 1, 1, none⟩ = some (.int .i64 0) := by rw [hz]; exact XX.out.c21
 have HZ : Hid (Below w.heap.size w wz) := Hn (by rw [hz]; exact bl_trans B8.out (bl_drew _))
 clear hz X8 XX M8 B8
 go_wp2_with fail
 refine bodyPost_ret (v := tup 0 0 0 0 0 0 200) (by simp [results, Tryz.results24, go_sem, d00, d01, d10, d11, d20, d21, tup]) rfl ⟨rfl, HZ.out⟩
end Ci
end Go.Proofs.YtghcfcglakbkeaaGreatDoor
namespace Go.Proofs.YtghcfcglakbkeaaGreatDoor
open Go.RowKit
set_option linter.unusedVariables false
set_option linter.unusedSimpArgs false
open Cm (Wr Tm co bf Ls lf ins Eqm)
namespace Ci
set_option maxRecDepth 100000
set_option maxHeartbeats 4000000
theorem cloneL_any {base n : Nat} {v : Value} {vs : List Value} (w : World) (ho : w.ownsRow base 38 1 v n vs) (hn : n ≤ 4096) (h1 : ∀ u ∈ vs, u.oneCell' = true) : Calls Tryz.prog 74 #[v] w fun e w' => ∃ P c, e = .returned (.slice P n c) ∧ w'.ownsRow w.heap.size 38 1 (.slice P n c) n vs ∧ Below w.heap.size w w' := by
 have eqn := fun (a : Option Addr) (l c : Nat) (w : World) => Lib.run_eql_slice_nil (P := Tryz.prog) w 25 38 a l c 0 0 (by kernel_rfl)
 rcases ho.2 with ⟨rfl, rfl⟩ | ⟨g, c, cur, rfl, _, hh, hnc, _⟩
 ·have e0 : vs = [] := List.eq_nil_of_length_eq_zero (by have := ho.1; omega)
  subst e0
  clear ho h1 hn
  go_enter Tryz.func74, Tryz.ntmps74
  go_wp2_with fail
  refine bodyPost_ret (v := .slice none 0 0) (by simp [results, Tryz.results74, go_sem]) rfl ⟨none, 0, rfl, World.ownsRow_nil _ _ _ _, Below.refl _ _⟩
 ·have HN := Hn hn
  have HI : Hid ((Tryz.prog.info? 38) = some (Tryz.prog.info? 38).get!) := Hn (by kernel_rfl)
  have HZ0 : Hid ((Tryz.prog.info? 38).get!.zero = some (.slice none 0 0)) := Hn (by kernel_rfl)
  have HZ1 : Hid ((Tryz.prog.info? 38).get!.size = 1) := Hn (by kernel_rfl)
  have HZ2 : Hid ((Tryz.prog.info? 38).get!.bytes = 24) := Hn (by kernel_rfl)
  have T1 : Hid (Tryz.prog.underlying 25 = some (.slice 38)) := Hn (by kernel_rfl)
  have O0 := Hn (World.ownsRow_made (base := w.heap.size) (e := 38) (size := 1) w #[] 0 (Nat.le_refl _) (by unfold maxLen; omega) rfl)
  have B0 := Hn (bl_alloc w (.cells #[] 38))
  have HC : Hid (∀ j u, vs[j]? = some u → (w.alloc (.cells #[] 38)).cell? ((⟨g, 0, none⟩ : Addr).add j) = some u) := Hn (fun j u hu => by
   have := ho.cells (g := g) rfl j u hu
   rw [Addr.add_mid] at this ⊢
   exact cell_keep this (bl_alloc w _))
  have HL : Hid (vs.length = n * 1) := Hn ho.1
  have H1 := Hn h1
  clear ho hn h1 hh hnc
  go_enter Tryz.func74, Tryz.ntmps74
  go_wp2_with (first | (at_builtin; have x4 : 0 + n ≤ maxLen := (by have := HN.out; unfold maxLen; omega); have x5 : (0 + n) * 24 ≤ 140737488355328 := (by have := HN.out; omega); refine wpList_append_own_at _ rfl _ _ 25 rfl w.heap.size 38 _ _ 1 24 T1.out HI.out HZ0.out HZ1.out HZ2.out rfl (by decide) _ 0 [] rfl O0.out ⟨g, 0, none⟩ n c vs rfl HL.out HC.out H1.out x4 x5 B0.out.size ?_; intro v2 w2 ho hg _ _; have HO := Hn ho; have HG := Hn hg; clear ho hg x4 x5))
  have ho2 := HO.out
  rw [Nat.zero_add, List.nil_append] at ho2
  obtain ⟨P2, c2, e2, _⟩ : ∃ (P : Option Addr) (c : Nat), v2 = .slice P n c ∧ True := by
   rcases ho2.2 with ⟨h1, h2⟩ | ⟨g, c, cur, h1, _⟩
   ·exact ⟨none, 0, by rw [h1, h2], trivial⟩
   ·exact ⟨_, c, h1, trivial⟩
  subst e2
  refine bodyPost_ret (v := .slice P2 n c2) (by simp [results, Tryz.results74, go_sem]) rfl ⟨P2, c2, rfl, ho2, ?_⟩
  exact B0.out.grown HG.out B0.out.size (fun k hk => by obtain rfl := Option.some.inj hk; exact Nat.le_refl _)
theorem Sy.ones {base : Nat} {w : World} {s m Kg : Nat} {v : Value} {vs : List Value} {Q : List (List Tm)} (h : Sy base w s m Kg v vs Q) : ∀ u ∈ vs, u.oneCell' = true := fun u hu => by
 obtain ⟨i, hi⟩ := List.mem_iff_getElem?.1 hu
 have hl : i < Q.length := by have := h.row.1; have := (List.getElem?_eq_some_iff.1 hi).1; omega
 obtain ⟨u', hu', ho⟩ := h.ls i Q[i] (by simp [hl])
 rw [hi] at hu'
 obtain rfl := Option.some.inj hu'
 obtain ⟨P, c, rfl, _⟩ := own_shT ho
 rfl
end Ci
end Go.Proofs.YtghcfcglakbkeaaGreatDoor
namespace Go.Proofs.YtghcfcglakbkeaaGreatDoor
open Go.RowKit
set_option linter.unusedVariables false
set_option linter.unusedSimpArgs false
open Cm (Wr Tm co bf Ls lf ins Eqm)
namespace Ci
set_option maxRecDepth 100000
set_option maxHeartbeats 4000000
theorem ls_co {X : List Tm} (h : Ls Sm.L X) {x : Tm} (hx : x ∈ X) : co X x.1 = x.2 := by
 induction X with
 | nil => cases hx
 | cons y X ih =>
  rcases List.mem_cons.1 hx with rfl | hx
  ·exact h.head
  ·rw [Cm.co_cons, if_neg (Cm.bf_ne ((List.pairwise_cons.1 h.up).1 x hx)), ih h.tail hx]
   omega
theorem lf_wire {Y : List Tm} {x : Tm} (hx : x ∈ lf Sm.L Y) : co Y x.1 % Sm.L ≠ 0 := by
 have hl := Cm.lf_ls L0 Y
 have h1 := ls_co hl hx
 have h2 := hl.nz x hx
 rw [← Cm.lf_eqm Y x.1, h1, Int.emod_eq_of_lt (by omega) h2.2]
 omega
theorem wire_lf {Y : List Tm} {q : Wr} (h : co Y q % Sm.L ≠ 0) : ∃ y ∈ lf Sm.L Y, y.1 = q := by
 by_cases h1 : ∃ y ∈ lf Sm.L Y, y.1 = q
 ·exact h1
 ·exfalso
  apply h
  rw [← Cm.lf_eqm Y q, Cm.co_out (fun x hx e => h1 ⟨x, hx, e⟩)]
  rfl
theorem ct_mono (m K k : Nat) : ct m K k ≤ ct m (K + 1) k := by
 unfold ct
 split <;> omega
theorem hs_mono {m K : Nat} {q : Wr} (h : hs m K q = true) : hs m (K + 1) q = true := by
 unfold hs at h ⊢
 simp only [Bool.and_eq_true, decide_eq_true_eq] at h ⊢
 have := ct_mono m K q.1.toNat
 exact ⟨h.1, h.2.1, h.2.2.1, by omega⟩
theorem nm_mem {m K : Nat} {X : List Tm} (h : nm m K X.length (ft X) = true) : ∀ x ∈ X, hs m K x.1 = true := fun x hx => by
 obtain ⟨i, hi, e⟩ := List.mem_iff_getElem.1 hx
 have := nm_at h i hi
 rw [ft_get hi, e] at this
 exact this
theorem co_neg (n : Nat) (f : Nat → Trm) (q : Wr) : co (glN n f) q = -co (glL n f) q := by
 induction n with
 | zero => rfl
 | succ n ih =>
  rw [glN_succ, glL_succ, Cm.co_app, Cm.co_app, ih]
  simp only [Cm.co_cons, Cm.co_nil]
  split <;> omega
theorem mul_wires {m K n : Nat} {q : Wr} {f : Nat → Trm} (hq : hs m (K + 1) q = true) (h : nm m K (lf Sm.L (glL n f)).length (ft (lf Sm.L (glL n f))) = true) : ∀ x ∈ lf Sm.L (glL 1 (cst q) ++ glN n f), hs m (K + 1) x.1 = true := fun x hx => by
 by_cases e : x.1 = q
 ·rw [e]; exact hq
 ·have h1 := lf_wire hx
  rw [Cm.co_app, co_neg, Cm.co_out (X := glL 1 (cst q)) (fun y hy => by
   have : y = (q, (lst 1).n) := by simpa [glL, cst, List.range_succ] using hy
   rw [this]
   exact fun e2 => e e2.symm)] at h1
  obtain ⟨y, hy, e2⟩ := wire_lf (Y := glL n f) (q := x.1) (fun h2 => h1 (by rw [Int.zero_add]; exact Int.emod_eq_zero_of_dvd (Int.dvd_neg.2 (Int.dvd_of_emod_eq_zero h2))))
  rw [← e2]
  exact hs_mono (nm_mem h y hy)
theorem glL_l (n : Nat) (f : Nat → Trm) : (glL n f).length = n := by simp [glL]
theorem glN_l (n : Nat) (f : Nat → Trm) : (glN n f).length = n := by simp [glN]
theorem Wk.gate {m K : Nat} {Q : List (List Tm)} (h : Wk m K Q) (hK : K < 1024) : Wk m (K + 1) Q := ⟨fun X hX x hx => hs_mono (h.wr X hX x hx), h.ln, h.q, hK, h.pf, Nat.le_succ_of_le h.mle⟩
theorem Wk.req {m K : Nat} {Q : List (List Tm)} {X : List Tm} (h : Wk m K Q) (hX : nm m K X.length (ft X) = true) (hl : X.length ≤ 2932031007402) (hq : Q.length < 4096) : Wk m K (Q ++ [X]) :=
 ⟨fun Y hY x hx => by
  rcases List.mem_append.1 hY with h1 | h1
  ·exact h.wr Y h1 x hx
  ·rw [List.mem_singleton.1 h1] at hx
   exact nm_mem hX x hx, fun Y hY => by
  rcases List.mem_append.1 hY with h1 | h1
  ·exact h.ln Y h1
  ·rw [List.mem_singleton.1 h1]; exact hl, by rw [List.length_append]; simp; omega, h.k, (by obtain ⟨R, e⟩ := h.pf; exact ⟨R ++ [X], by rw [e, List.append_assoc]⟩), h.mle⟩
theorem hs_two (m K : Nat) : hs m (K + 1) (2, (K : Int)) = true := by
 unfold hs
 simp only [Bool.and_eq_true, decide_eq_true_eq]
 refine ⟨by omega, by omega, by omega, ?_⟩
 show (K : Int) < ((K + 1 : Nat) : Int)
 omega
theorem hs_three (m K : Nat) : hs m (K + 1) (3, (K : Int)) = true := by
 unfold hs
 simp only [Bool.and_eq_true, decide_eq_true_eq]
 refine ⟨by omega, by omega, by omega, ?_⟩
 show (K : Int) < ((K + 1 : Nat) : Int)
 omega
theorem Wk.mul {m K na nb : Nat} {fa fb : Nat → Trm} {Q : List (List Tm)} (h : Wk m K Q) (hK : K < 1024) (hq : Q.length ≤ 4094) (la : na ≤ 2932031007401) (lb : nb ≤ 2932031007401)
  (ha : nm m K (lf Sm.L (glL na fa)).length (ft (lf Sm.L (glL na fa))) = true) (hb : nm m K (lf Sm.L (glL nb fb)).length (ft (lf Sm.L (glL nb fb))) = true) :
  Wk m (K + 1) (Q ++ [lf Sm.L (glL 1 (cst (2, (K : Int))) ++ glN na fa), lf Sm.L (glL 1 (cst (3, (K : Int))) ++ glN nb fb)]) := by
 have l1 := lf_lenC (glL 1 (cst (2, (K : Int))) ++ glN na fa)
 have l2 := lf_lenC (glL 1 (cst (3, (K : Int))) ++ glN nb fb)
 rw [List.length_append, glL_l, glN_l] at l1 l2
 refine ⟨fun Y hY => ?_, fun Y hY => ?_, by rw [List.length_append]; simp; omega, hK, (by obtain ⟨R, e⟩ := h.pf; exact ⟨_, by rw [e, List.append_assoc]⟩), Nat.le_succ_of_le h.mle⟩
 ·rcases List.mem_append.1 hY with h1 | h1
  ·exact fun x hx => hs_mono (h.wr Y h1 x hx)
  ·simp only [List.mem_cons, List.not_mem_nil, or_false] at h1
   rcases h1 with rfl | rfl
   ·exact mul_wires (hs_two m K) ha
   ·exact mul_wires (hs_three m K) hb
 ·rcases List.mem_append.1 hY with h1 | h1
  ·exact h.ln Y h1
  ·simp only [List.mem_cons, List.not_mem_nil, or_false] at h1
   rcases h1 with rfl | rfl <;> omega
def Ts (w : World) (t m K : Nat) (Q : List (List Tm)) (x : World) : Prop := ∃ base v vs, Sy base x t m K v vs Q ∧ w.heap.size ≤ base ∧ Below w.heap.size w x ∧ Wk m K Q
theorem Ts.bl {w : World} {t m K : Nat} {Q : List (List Tm)} {x : World} (h : Ts w t m K Q x) : Below w.heap.size w x := by
 obtain ⟨base, v, vs, sy, hb, bl, wk⟩ := h
 exact bl
theorem Ts.wk {w : World} {t m K : Nat} {Q : List (List Tm)} {x : World} (h : Ts w t m K Q x) : Wk m K Q := by
 obtain ⟨base, v, vs, sy, hb, bl, wk⟩ := h
 exact wk
theorem Ts.keep {w : World} {t m K : Nat} {Q : List (List Tm)} {x y : World} (h : Ts w t m K Q x) (k : Below x.heap.size x y) : Ts w t m K Q y := by
 obtain ⟨base, v, vs, sy, hb, bl, wk⟩ := h
 exact ⟨base, v, vs, sy.keep k, hb, bl.trans (k.mono bl.size), wk⟩
structure Lf where
 p : Option Addr
 n : Nat
 c : Nat
 f : Nat → Trm
def Lf.v (s : Lf) : Value := .slice s.p s.n s.c
structure Lf.at (s : Lf) (w : World) : Prop where
 lt : Lt w s.p s.n s.f
 ok : ∀ k, k < s.n → (s.f k).a.ok
 n : s.n ≤ 1048576
theorem Lf.at.keep {s : Lf} {w w' : World} (h : s.at w) (hb : Below w.heap.size w w') : s.at w' := ⟨h.lt.keep hb, h.ok, h.n⟩
theorem tsNew {w x : World} {m : Nat} {y : World} (hm : m ≤ 16) (bl : Below w.heap.size w x) (h : Nu x x.heap.size m m y) : Ts w x.heap.size m m (enl m) y := by
 obtain ⟨Pv, cv, vs, sy, hb⟩ := h
 refine ⟨x.heap.size, _, vs, sy, bl.size, bl.trans (hb.mono bl.size), ?_⟩
 have key : ∀ k, k ≤ m → ∀ X ∈ enl k, ∃ j, j < m ∧ X = enX (j : Int) := by
  intro k
  induction k with
  | zero => intro _ X hX; cases hX
  | succ k ih =>
   intro hk X hX
   rcases List.mem_append.1 hX with h1 | h1
   ·exact ih (by omega) X h1
   ·exact ⟨k, by omega, List.mem_singleton.1 h1⟩
 refine ⟨fun X hX x hx => ?_, fun X hX => ?_, by rw [enl_len]; omega, by omega, ⟨[], by rw [List.append_nil]⟩, Nat.le_refl _⟩
 ·obtain ⟨j, hj, rfl⟩ := key m (Nat.le_refl m) X hX
  obtain ⟨y, hy, e⟩ := lf_mem hx
  rw [e]
  have hy2 : y.1 = (2, (j : Int)) ∨ y.1 = (5, (j : Int)) := by
   rcases List.mem_append.1 hy with h1 | h1
   ·left; have : y = ((2, (j : Int)), (lst 1).n) := by simpa [glL, cst, List.range_succ] using h1
    rw [this]
   ·right; have : y = ((5, (j : Int)), -(lst 1).n) := by simpa [glN, cst, List.range_succ] using h1
    rw [this]
  rcases hy2 with h1 | h1
  ·rw [h1]
   unfold hs
   simp only [Bool.and_eq_true, decide_eq_true_eq]
   exact ⟨by omega, by omega, by omega, (by omega : (j : Int) < (m : Int))⟩
  ·rw [h1]
   unfold hs
   simp only [Bool.and_eq_true, decide_eq_true_eq]
   exact ⟨by omega, by omega, by omega, (by omega : (j : Int) < (m : Int))⟩
 ·obtain ⟨j, hj, rfl⟩ := key m (Nat.le_refl m) X hX
  have := lf_lenC (glL 1 (cst (2, (j : Int))) ++ glN 1 (cst (5, (j : Int))))
  rw [List.length_append, glL_l, glN_l] at this
  unfold enX
  omega
end Ci
end Go.Proofs.YtghcfcglakbkeaaGreatDoor
namespace Go.Proofs.YtghcfcglakbkeaaGreatDoor
set_option maxRecDepth 100000
set_option maxHeartbeats 16000000
open Go.RowKit
set_option linter.unusedVariables false
set_option linter.unusedSimpArgs false
open Cm (Wr Tm co bf Ls lf ins Eqm)
namespace Ci
structure Stp where
 q : Int
 a : Lf
 b : Lf
structure Scr (w : World) (sb so n : Nat) (g : Nat → Stp) : Prop where
 c0 : ∀ k, k < n → w.cell? ⟨sb, so + k * 3, none⟩ = some (.int .i64 (g k).q)
 c1 : ∀ k, k < n → w.cell? ⟨sb, so + k * 3 + 1, none⟩ = some (.slice (g k).a.p (g k).a.n (g k).a.c)
 c2 : ∀ k, k < n → w.cell? ⟨sb, so + k * 3 + 2, none⟩ = some (.slice (g k).b.p (g k).b.n (g k).b.c)
 la : ∀ k, k < n → (g k).a.at w
 lb : ∀ k, k < n → (g k).b.at w
def Scl (w : World) (P : Option Addr) (n : Nat) (g : Nat → Stp) : Prop := ∃ sb so : Nat, (0 < n → P = some ⟨sb, so, none⟩) ∧ (0 < n → Scr w sb so n g)
end Ci
end Go.Proofs.YtghcfcglakbkeaaGreatDoor
namespace Go.Proofs.YtghcfcglakbkeaaGreatDoor
open Go.RowKit
set_option linter.unusedVariables false
set_option linter.unusedSimpArgs false
open Cm (Wr Tm co bf Ls lf ins Eqm)
namespace Ci
set_option maxRecDepth 100000
theorem Scl.keep {w w' : World} {P : Option Addr} {n : Nat} {g : Nat → Stp} (h : Scl w P n g) (hb : Below w.heap.size w w') : Scl w' P n g := by
 obtain ⟨sb, so, h1, h2⟩ := h
 exact ⟨sb, so, h1, fun hn => ⟨fun k hk => cell_keep ((h2 hn).c0 k hk) hb, fun k hk => cell_keep ((h2 hn).c1 k hk) hb, fun k hk => cell_keep ((h2 hn).c2 k hk) hb, fun k hk => ((h2 hn).la k hk).keep hb, fun k hk => ((h2 hn).lb k hk).keep hb⟩⟩
end Ci
end Go.Proofs.YtghcfcglakbkeaaGreatDoor
