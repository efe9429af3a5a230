import Derived.Test.YtclihahohhhhiaaDoorCeg
import Derived.Test.YtclihahohhhhiaaDoorCmo
namespace Go.Proofs.YtclihahohhhhiaaDoor
open Go.RowKit
set_option linter.unusedVariables false
set_option linter.unusedSimpArgs false
open Cm (Wr Tm co bf Ls lf ins Eqm)
namespace Ci
set_option maxRecDepth 100000
set_option maxHeartbeats 4000000
theorem Multiply_wireA {base : Nat} {w : World} {s m Kg : Nat} {v : Value} {vs : List Value} {Q : List (List Tm)} (h : Sy base w s m Kg v vs Q) (hT : Tb w) (Pa Pb : Option Addr) (na ca nb cb : Nat) (fa fb : Nat → Trm) (hna : na ≤ 2932031007401) (hnb : nb ≤ 2932031007401) (hfa : ∀ k, k < na → (fa k).a.ok) (hfb : ∀ k, k < nb → (fb k).a.ok) (ha : Lt w Pa na fa) (hb : Lt w Pb nb fb) (hwa : nm m Kg (lf Sm.L (glL na fa)).length (ft (lf Sm.L (glL na fa))) = false) :
  Calls Tryd.prog 7 #[.pointer (some ⟨s, 0, none⟩), .slice Pa na ca, .slice Pb nb cb] w fun e w' => e = .returned (tup 0 0 0 0 0 0 200) ∧ Below w.heap.size w w' := by
 have hmm := @run_makeMap Tryd.prog
 obtain ⟨mu, bx, bl⟩ := mu_start h hT ha hb
 have B3 := bl_alloc3 w (.cells #[.int .i64 0, .int .i64 0] 32) (.cells #[.int .i64 0, .int .i64 0] 32) (.cells #[.int .i64 0, .int .i64 0] 32)
 have C0 := hidden (none_any (h.keep B3))
 have la9 : (lf Sm.L (glL na fa)).length ≤ 4398046510976 := by have h9 : (glL na fa).length = na := (by simp [glL]); have := lf_len_le (glL na fa); omega
 have lb9 : (lf Sm.L (glL nb fb)).length ≤ 4398046510976 := by have h9 : (glL nb fb).length = nb := (by simp [glL]); have := lf_len_le (glL nb fb); omega
 obtain ⟨Pv, cv, hv, hlc, hpv⟩ := h.shape
 have HV := hidden (fun k hk => h.vb k hk)
 have HLT := hidden h.lt
 subst hv
 generalize hnq : Q.length = nq at *
 have HNQ := hidden hnq
 generalize hbz : (((w.alloc (.cells #[.int .i64 0, .int .i64 0] 32)).alloc (.cells #[.int .i64 0, .int .i64 0] 32)).alloc (.cells #[.int .i64 0, .int .i64 0] 32)).heap.size = bz at *
 have C1 := hidden (fun x (h : Mu base w s m Kg (.slice Pv nq cv) vs Q bz Pa na fa Pb nb fb x) => mu_sum Pa na ca fa (by omega) hfa x h h.la)
 have C2 := hidden (fun x (h : Mu base w s m Kg (.slice Pv nq cv) vs Q bz Pa na fa Pb nb fb x) => mu_sum Pb nb cb fb (by omega) hfb x h h.lb)
 have N1 := hidden (fun x R e1 (h : Mu base w s m Kg (.slice Pv nq cv) vs Q bz Pa na fa Pb nb fb x) (hl : Lt x R (lf Sm.L (glL na fa)).length (ft (lf Sm.L (glL na fa)))) => names_any h.sy R (lf Sm.L (glL na fa)).length e1 (ft (lf Sm.L (glL na fa))) la9 hl)
 have N2 := hidden (fun x R e1 (h : Mu base w s m Kg (.slice Pv nq cv) vs Q bz Pa na fa Pb nb fb x) (hl : Lt x R (lf Sm.L (glL nb fb)).length (ft (lf Sm.L (glL nb fb)))) => names_any h.sy R (lf Sm.L (glL nb fb)).length e1 (ft (lf Sm.L (glL nb fb))) lb9 hl)
 rw [hwa] at N1
 have MU0 := hidden mu
 have BX0 := hidden bx
 have BL0 := hidden bl
 have HBZ : Hid (w.heap.size ≤ bz) := hidden mu.hb
 have BZ := hidden hbz
 clear h hT ha hb mu bx bl B3 hwa la9 lb9 hna hnb hfa hfb hnq hlc hpv
 generalize hxa : lf Sm.L (glL na fa) = Xa at *
 generalize hxb : lf Sm.L (glL nb fb) = Xb at *
 clear hxa hxb
 go_enter Tryd.func7, Tryd.ntmps7
 go_upto_region 3 with (go_at_call 29; refine C0.out.mono ?_; rintro e w1 ⟨rfl, rfl⟩)
 clear C0
 go_upto_region 4 with fail
 have hbz2 : w.heap.size + 1 + 1 + 1 = bz := by rw [← hbz]; simp
 try rw [hbz2]
 clear hbz hbz2
 generalize ((((w.alloc (.cells #[.int .i64 0, .int .i64 0] 32)).alloc (.cells #[.int .i64 0, .int .i64 0] 32)).alloc (.cells #[.int .i64 0, .int .i64 0] 32)).alloc (.map #[] 0)) = w4 at *
 go_upto_region 5 with (first | (have _t := C1; go_at_call 33; refine (C1.out _ MU0.out).mono ?_; rintro e w5 ⟨R1, e1, rfl, hm, hl, hg⟩; have M5 := hidden hm; have L5 := hidden hl; have X5 := hidden (BX0.out.to (wi_ne_map MU0.out.mp) hg); have B5 := hidden (BL0.out.grown hg BL0.out.size (fun k hk => by obtain rfl := Option.some.inj hk; exact HBZ.out)); clear hm hl hg C1) | (have _t := N1; go_at_call 32; refine (N1.out _ R1 e1 M5.out L5.out).mono ?_; rintro e w6 ⟨rfl, hbb⟩; have M6 := hidden (M5.out.bel hbb); have X6 := hidden (X5.out.bel hbb); have B6 := hidden (bl_trans B5.out hbb); clear hbb N1))
 clear M5 L5 X5 B5 MU0 BX0 BL0
 go_upto_region 5 with fail
 have XX := X6
 refine ml5 _ w.heap.size (w.heap.size + 1) (w.heap.size + 1 + 1) 0 0 0 0 0 0 _ _ _ _ _ _ _ _ _ _ _ _ _ _ _ _ _ _ _ _ _ _ _ _ _ _ _ _ _ _ _ _ _ _ _ _ _ _ _ _ _ _ _ _ _ _ _ _ _ _ _ _ _ _ _ _ _ _ _ _ _ _ _ _ _ _ _ _ _ _ _ _ _ _ w6 XX.out.c00 XX.out.c01 XX.out.f00 XX.out.f01 XX.out.c10 XX.out.c11 XX.out.f10 XX.out.f11 XX.out.c20 XX.out.c21 XX.out.f20 XX.out.f21 (hidden ?_)
 intro wz hz
 have d00 : wz.cell? ⟨w.heap.size, 0, none⟩ = some (.int .i64 0) := by rw [hz]; exact XX.out.c00
 have d01 : wz.cell? ⟨w.heap.size, 1, none⟩ = some (.int .i64 0) := by rw [hz]; exact XX.out.c01
 have d10 : wz.cell? ⟨w.heap.size + 1, 0, none⟩ = some (.int .i64 0) := by rw [hz]; exact XX.out.c10
 have d11 : wz.cell? ⟨w.heap.size + 1, 1, none⟩ = some (.int .i64 0) := by rw [hz]; exact XX.out.c11
 have d20 : wz.cell? ⟨w.heap.size + 1 + 1, 0, none⟩ = some (.int .i64 0) := by rw [hz]; exact XX.out.c20
 have d21 : wz.cell? ⟨w.heap.size + 1 + 1, 1, none⟩ = some (.int .i64 0) := by rw [hz]; exact XX.out.c21
 have HZ : Hid (Below w.heap.size w wz) := hidden (by rw [hz]; exact bl_trans B6.out (bl_drew _))
 clear hz X6 XX M6 B6
 go_wp2_with fail
 refine bodyPost_ret (v := tup 0 0 0 0 0 0 200) (by simp [results, Tryd.results7, go_sem, d00, d01, d10, d11, d20, d21, tup]) rfl ⟨rfl, HZ.out⟩
theorem Multiply_wireB {base : Nat} {w : World} {s m Kg : Nat} {v : Value} {vs : List Value} {Q : List (List Tm)} (h : Sy base w s m Kg v vs Q) (hT : Tb w) (Pa Pb : Option Addr) (na ca nb cb : Nat) (fa fb : Nat → Trm) (hna : na ≤ 2932031007401) (hnb : nb ≤ 2932031007401) (hfa : ∀ k, k < na → (fa k).a.ok) (hfb : ∀ k, k < nb → (fb k).a.ok) (ha : Lt w Pa na fa) (hb : Lt w Pb nb fb) (hwa : nm m Kg (lf Sm.L (glL na fa)).length (ft (lf Sm.L (glL na fa))) = true) (hwb : nm m Kg (lf Sm.L (glL nb fb)).length (ft (lf Sm.L (glL nb fb))) = false) :
  Calls Tryd.prog 7 #[.pointer (some ⟨s, 0, none⟩), .slice Pa na ca, .slice Pb nb cb] w fun e w' => e = .returned (tup 0 0 0 0 0 0 200) ∧ Below w.heap.size w w' := by
 have hmm := @run_makeMap Tryd.prog
 obtain ⟨mu, bx, bl⟩ := mu_start h hT ha hb
 have B3 := bl_alloc3 w (.cells #[.int .i64 0, .int .i64 0] 32) (.cells #[.int .i64 0, .int .i64 0] 32) (.cells #[.int .i64 0, .int .i64 0] 32)
 have C0 := hidden (none_any (h.keep B3))
 have la9 : (lf Sm.L (glL na fa)).length ≤ 4398046510976 := by have h9 : (glL na fa).length = na := (by simp [glL]); have := lf_len_le (glL na fa); omega
 have lb9 : (lf Sm.L (glL nb fb)).length ≤ 4398046510976 := by have h9 : (glL nb fb).length = nb := (by simp [glL]); have := lf_len_le (glL nb fb); omega
 obtain ⟨Pv, cv, hv, hlc, hpv⟩ := h.shape
 have HV := hidden (fun k hk => h.vb k hk)
 have HLT := hidden h.lt
 subst hv
 generalize hnq : Q.length = nq at *
 have HNQ := hidden hnq
 generalize hbz : (((w.alloc (.cells #[.int .i64 0, .int .i64 0] 32)).alloc (.cells #[.int .i64 0, .int .i64 0] 32)).alloc (.cells #[.int .i64 0, .int .i64 0] 32)).heap.size = bz at *
 have C1 := hidden (fun x (h : Mu base w s m Kg (.slice Pv nq cv) vs Q bz Pa na fa Pb nb fb x) => mu_sum Pa na ca fa (by omega) hfa x h h.la)
 have C2 := hidden (fun x (h : Mu base w s m Kg (.slice Pv nq cv) vs Q bz Pa na fa Pb nb fb x) => mu_sum Pb nb cb fb (by omega) hfb x h h.lb)
 have N1 := hidden (fun x R e1 (h : Mu base w s m Kg (.slice Pv nq cv) vs Q bz Pa na fa Pb nb fb x) (hl : Lt x R (lf Sm.L (glL na fa)).length (ft (lf Sm.L (glL na fa)))) => names_any h.sy R (lf Sm.L (glL na fa)).length e1 (ft (lf Sm.L (glL na fa))) la9 hl)
 have N2 := hidden (fun x R e1 (h : Mu base w s m Kg (.slice Pv nq cv) vs Q bz Pa na fa Pb nb fb x) (hl : Lt x R (lf Sm.L (glL nb fb)).length (ft (lf Sm.L (glL nb fb)))) => names_any h.sy R (lf Sm.L (glL nb fb)).length e1 (ft (lf Sm.L (glL nb fb))) lb9 hl)
 rw [hwa] at N1
 rw [hwb] at N2
 have MU0 := hidden mu
 have BX0 := hidden bx
 have BL0 := hidden bl
 have HBZ : Hid (w.heap.size ≤ bz) := hidden mu.hb
 have BZ := hidden hbz
 clear h hT ha hb mu bx bl B3 hwa hwb la9 lb9 hna hnb hfa hfb hnq hlc hpv
 generalize hxa : lf Sm.L (glL na fa) = Xa at *
 generalize hxb : lf Sm.L (glL nb fb) = Xb at *
 clear hxa hxb
 go_enter Tryd.func7, Tryd.ntmps7
 go_upto_region 3 with (go_at_call 29; refine C0.out.mono ?_; rintro e w1 ⟨rfl, rfl⟩)
 clear C0
 go_upto_region 4 with fail
 have hbz2 : w.heap.size + 1 + 1 + 1 = bz := by rw [← hbz]; simp
 try rw [hbz2]
 clear hbz hbz2
 generalize ((((w.alloc (.cells #[.int .i64 0, .int .i64 0] 32)).alloc (.cells #[.int .i64 0, .int .i64 0] 32)).alloc (.cells #[.int .i64 0, .int .i64 0] 32)).alloc (.map #[] 0)) = w4 at *
 go_upto_region 5 with (first | (have _t := C1; go_at_call 33; refine (C1.out _ MU0.out).mono ?_; rintro e w5 ⟨R1, e1, rfl, hm, hl, hg⟩; have M5 := hidden hm; have L5 := hidden hl; have X5 := hidden (BX0.out.to (wi_ne_map MU0.out.mp) hg); have B5 := hidden (BL0.out.grown hg BL0.out.size (fun k hk => by obtain rfl := Option.some.inj hk; exact HBZ.out)); clear hm hl hg C1) | (have _t := N1; go_at_call 32; refine (N1.out _ R1 e1 M5.out L5.out).mono ?_; rintro e w6 ⟨rfl, hbb⟩; have M6 := hidden (M5.out.bel hbb); have X6 := hidden (X5.out.bel hbb); have B6 := hidden (bl_trans B5.out hbb); clear hbb N1) | (have _t := C2; go_at_call 33; refine (C2.out _ M6.out).mono ?_; rintro e w7 ⟨R2, e2, rfl, hm, hl, hg⟩; have M7 := hidden hm; have L7 := hidden hl; have X7 := hidden (X6.out.to (wi_ne_map M6.out.mp) hg); have B7 := hidden (B6.out.grown hg B6.out.size (fun k hk => by obtain rfl := Option.some.inj hk; exact HBZ.out)); clear hm hl hg C2) | (have _t := N2; go_at_call 32; refine (N2.out _ R2 e2 M7.out L7.out).mono ?_; rintro e w8 ⟨rfl, hbb⟩; have M8 := hidden (M7.out.bel hbb); have X8 := hidden (X7.out.bel hbb); have B8 := hidden (bl_trans B7.out hbb); clear hbb N2))
 clear M5 L5 X5 B5 M6 X6 B6 M7 L7 X7 B7 MU0 BX0 BL0
 go_upto_region 5 with fail
 have XX := X8
 refine ml5 _ w.heap.size (w.heap.size + 1) (w.heap.size + 1 + 1) 0 0 0 0 0 0 _ _ _ _ _ _ _ _ _ _ _ _ _ _ _ _ _ _ _ _ _ _ _ _ _ _ _ _ _ _ _ _ _ _ _ _ _ _ _ _ _ _ _ _ _ _ _ _ _ _ _ _ _ _ _ _ _ _ _ _ _ _ _ _ _ _ _ _ _ _ _ _ _ _ w8 XX.out.c00 XX.out.c01 XX.out.f00 XX.out.f01 XX.out.c10 XX.out.c11 XX.out.f10 XX.out.f11 XX.out.c20 XX.out.c21 XX.out.f20 XX.out.f21 (hidden ?_)
 intro wz hz
 have d00 : wz.cell? ⟨w.heap.size, 0, none⟩ = some (.int .i64 0) := by rw [hz]; exact XX.out.c00
 have d01 : wz.cell? ⟨w.heap.size, 1, none⟩ = some (.int .i64 0) := by rw [hz]; exact XX.out.c01
 have d10 : wz.cell? ⟨w.heap.size + 1, 0, none⟩ = some (.int .i64 0) := by rw [hz]; exact XX.out.c10
 have d11 : wz.cell? ⟨w.heap.size + 1, 1, none⟩ = some (.int .i64 0) := by rw [hz]; exact XX.out.c11
 have d20 : wz.cell? ⟨w.heap.size + 1 + 1, 0, none⟩ = some (.int .i64 0) := by rw [hz]; exact XX.out.c20
 have d21 : wz.cell? ⟨w.heap.size + 1 + 1, 1, none⟩ = some (.int .i64 0) := by rw [hz]; exact XX.out.c21
 have HZ : Hid (Below w.heap.size w wz) := hidden (by rw [hz]; exact bl_trans B8.out (bl_drew _))
 clear hz X8 XX M8 B8
 go_wp2_with fail
 refine bodyPost_ret (v := tup 0 0 0 0 0 0 200) (by simp [results, Tryd.results7, go_sem, d00, d01, d10, d11, d20, d21, tup]) rfl ⟨rfl, HZ.out⟩
end Ci
end Go.Proofs.YtclihahohhhhiaaDoor
