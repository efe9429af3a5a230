import Derived.Test.YtghcfcglakbkeaaGreatDoorCmm
import Derived.Lib.SliceRun
namespace Go.Proofs.YtghcfcglakbkeaaGreatDoor
open Go.RowKit
set_option linter.unusedVariables false
set_option linter.unusedSimpArgs false
open Cm (Wr Tm co bf Ls lf ins Eqm)
namespace Ci
set_option maxRecDepth 100000
set_option maxHeartbeats 4000000
theorem mu_sum {base : Nat} {w0 : World} {s m Kg : Nat} {v : Value} {vs : List Value} {QQ : List (List Tm)} {b : Nat} {Pa Pb : Option Addr} {na nb : Nat} {fa fb : Nat → Trm} (P : Option Addr) (n c : Nat) (f : Nat → Trm) (hn : n ≤ 2932031007402) (hf : ∀ k, k < n → (f k).a.ok) (x : World) (h : Mu base w0 s m Kg v vs QQ b Pa na fa Pb nb fb x) (hL : Lt x P n f) :
  Calls Tryz.prog 64 #[.map (some b), .slice P n c, .slice none 0 0] x fun e w' => ∃ R e1, e = .returned (.slice R (lf Sm.L (glL n f)).length e1) ∧ Mu base w0 s m Kg v vs QQ b Pa na fa Pb nb fb w' ∧ Lt w' R (lf Sm.L (glL n f)).length (ft (lf Sm.L (glL n f))) ∧ x.grownBy w' (some b) := by
 have C := sum_any P none n c 0 0 b f f x h.tb (by omega) hf (fun k hk => by omega) hL (Lt.none _ _) h.mp
 have e0 : glL n f ++ glL 0 f = glL n f := by simp [glL]
 rw [e0] at C
 refine C.mono fun e w' ⟨u, he, hq⟩ => ?_
 obtain ⟨R, e1, e2, _, _⟩ := own_shT hq.1
 subst e2
 exact ⟨R, e1, he, h.map (M' := []) hq.2.2.1 hq.2.1, own_lts hq.1, hq.2.2.1⟩
theorem dif_sl (q : Wr) (P Pa : Option Addr) (d na ca b : Nat) (fa : Nat → Trm) (y : World) (hT : Tb y) (hn : na ≤ 2932031007401) (hf : ∀ k, k < na → (fa k).a.ok) (h1 : Lt y P 1 (cst q)) (h2 : Lt y Pa na fa) (hm : Mp y b []) :
  Calls Tryz.prog 65 #[.map (some b), .slice P 1 d, .slice Pa na ca] y fun e w' => ∃ R e', e = .returned (.slice R (lf Sm.L (glL 1 (cst q) ++ glN na fa)).length e') ∧ Sq1 y b (lf Sm.L (glL 1 (cst q) ++ glN na fa)) (.slice R (lf Sm.L (glL 1 (cst q) ++ glN na fa)).length e') (lf Sm.L (glL 1 (cst q) ++ glN na fa)).length w' :=
 (difference_any P Pa 1 d na ca b (cst q) fa y hT (by omega) (fun _ _ => lst_ok 1) hf h1 h2 hm).mono fun e w' ⟨u, he, hq⟩ => by
  obtain ⟨R, e1, e2, _, _⟩ := own_shT hq.1
  subst e2
  exact ⟨R, e1, he, hq⟩
theorem fy_of {s : Nat} {v : Value} {b : Nat} {w x : World} (hb : Below w.heap.size w x) : Fy s v b w x := ⟨hb.os, hb.tape, hb.output, hb.size, fun i hi _ _ _ => hb.block i hi⟩
theorem mu_start {base : Nat} {w : World} {s m Kg : Nat} {v : Value} {vs : List Value} {Q : List (List Tm)} (h : Sy base w s m Kg v vs Q) (hT : Tb w) {Pa Pb : Option Addr} {na nb : Nat} {fa fb : Nat → Trm} (ha : Lt w Pa na fa) (hb : Lt w Pb nb fb) : Mu base w s m Kg v vs Q (((w.alloc (.cells #[.int .i64 0, .int .i64 0] 79)).alloc (.cells #[.int .i64 0, .int .i64 0] 79)).alloc (.cells #[.int .i64 0, .int .i64 0] 79)).heap.size Pa na fa Pb nb fb ((((w.alloc (.cells #[.int .i64 0, .int .i64 0] 79)).alloc (.cells #[.int .i64 0, .int .i64 0] 79)).alloc (.cells #[.int .i64 0, .int .i64 0] 79)).alloc (.map #[] 0)) ∧ Bx ((((w.alloc (.cells #[.int .i64 0, .int .i64 0] 79)).alloc (.cells #[.int .i64 0, .int .i64 0] 79)).alloc (.cells #[.int .i64 0, .int .i64 0] 79)).alloc (.map #[] 0)) w.heap.size 0 0 0 0 0 0 ∧ Below w.heap.size w ((((w.alloc (.cells #[.int .i64 0, .int .i64 0] 79)).alloc (.cells #[.int .i64 0, .int .i64 0] 79)).alloc (.cells #[.int .i64 0, .int .i64 0] 79)).alloc (.map #[] 0)) := by
 have B3 := bl_alloc3 w (.cells #[.int .i64 0, .int .i64 0] 79) (.cells #[.int .i64 0, .int .i64 0] 79) (.cells #[.int .i64 0, .int .i64 0] 79)
 have B4 := bl_trans B3 (bl_alloc (((w.alloc (.cells #[.int .i64 0, .int .i64 0] 79)).alloc (.cells #[.int .i64 0, .int .i64 0] 79)).alloc (.cells #[.int .i64 0, .int .i64 0] 79)) (.map #[] 0))
 refine ⟨⟨h.keep B4, Mp.made _, hT.keep B4, ha.keep B4, hb.keep B4, fy_of B4, B3.size⟩, ?_, B4⟩
 have e1 : (w.alloc (.cells #[.int .i64 0, .int .i64 0] 79)).heap.size = w.heap.size + 1 := by simp
 have e2 : ((w.alloc (.cells #[.int .i64 0, .int .i64 0] 79)).alloc (.cells #[.int .i64 0, .int .i64 0] 79)).heap.size = w.heap.size + 1 + 1 := by simp
 have h0 : (w.alloc (.cells #[.int .i64 0, .int .i64 0] 79)).heap[w.heap.size]? = some (.cells #[.int .i64 0, .int .i64 0] 79 (0, 0)) := heap_alloc_new w _
 have h1 : ((w.alloc (.cells #[.int .i64 0, .int .i64 0] 79)).alloc (.cells #[.int .i64 0, .int .i64 0] 79)).heap[w.heap.size + 1]? = some (.cells #[.int .i64 0, .int .i64 0] 79 (0, 0)) := by
  have := heap_alloc_new (w.alloc (.cells #[.int .i64 0, .int .i64 0] 79)) (.cells #[.int .i64 0, .int .i64 0] 79)
  rwa [e1] at this
 have h2 : (((w.alloc (.cells #[.int .i64 0, .int .i64 0] 79)).alloc (.cells #[.int .i64 0, .int .i64 0] 79)).alloc (.cells #[.int .i64 0, .int .i64 0] 79)).heap[w.heap.size + 1 + 1]? = some (.cells #[.int .i64 0, .int .i64 0] 79 (0, 0)) := by
  have := heap_alloc_new ((w.alloc (.cells #[.int .i64 0, .int .i64 0] 79)).alloc (.cells #[.int .i64 0, .int .i64 0] 79)) (.cells #[.int .i64 0, .int .i64 0] 79)
  rwa [e2] at this
 exact ⟨((bl_alloc3 (w.alloc (.cells #[.int .i64 0, .int .i64 0] 79)) (.cells #[.int .i64 0, .int .i64 0] 79) (.cells #[.int .i64 0, .int .i64 0] 79) (.map #[] 0)).block _ (by simp)).trans h0, ((bl_alloc2 ((w.alloc (.cells #[.int .i64 0, .int .i64 0] 79)).alloc (.cells #[.int .i64 0, .int .i64 0] 79)) (.cells #[.int .i64 0, .int .i64 0] 79) (.map #[] 0)).block _ (by simp)).trans h1, ((bl_alloc (((w.alloc (.cells #[.int .i64 0, .int .i64 0] 79)).alloc (.cells #[.int .i64 0, .int .i64 0] 79)).alloc (.cells #[.int .i64 0, .int .i64 0] 79)) (.map #[] 0)).block _ (by simp)).trans h2⟩
theorem Multiply_full2 {base : Nat} {w : World} {s m Kg : Nat} {v : Value} {vs : List Value} {Q : List (List Tm)} (h : Sy base w s m Kg v vs Q) (hT : Tb w) (Pa Pb : Option Addr) (na ca nb cb : Nat) (fa fb : Nat → Trm) (hna : na ≤ 2932031007401) (hnb : nb ≤ 2932031007401) (hfa : ∀ k, k < na → (fa k).a.ok) (hfb : ∀ k, k < nb → (fb k).a.ok) (ha : Lt w Pa na fa) (hb : Lt w Pb nb fb) (hwa : nm m Kg (lf Sm.L (glL na fa)).length (ft (lf Sm.L (glL na fa))) = true) (hwb : nm m Kg (lf Sm.L (glL nb fb)).length (ft (lf Sm.L (glL nb fb))) = true) (hq : 4094 < Q.length) :
  Calls Tryz.prog 24 #[.pointer (some ⟨s, 0, none⟩), .slice Pa na ca, .slice Pb nb cb] w fun e w' => e = .returned (tup 0 0 0 0 0 0 201) ∧ Below w.heap.size w w' := by
 have hmm := @run_makeMap Tryz.prog
 obtain ⟨mu, bx, bl⟩ := mu_start h hT ha hb
 have B3 := bl_alloc3 w (.cells #[.int .i64 0, .int .i64 0] 79) (.cells #[.int .i64 0, .int .i64 0] 79) (.cells #[.int .i64 0, .int .i64 0] 79)
 have C0 := Hn (none_any (h.keep B3))
 have la9 : (lf Sm.L (glL na fa)).length ≤ 4398046510976 := by have h9 : (glL na fa).length = na := (by simp [glL]); have := lf_len_le (glL na fa); omega
 have lb9 : (lf Sm.L (glL nb fb)).length ≤ 4398046510976 := by have h9 : (glL nb fb).length = nb := (by simp [glL]); have := lf_len_le (glL nb fb); omega
 obtain ⟨Pv, cv, hv, hlc, hpv⟩ := h.shape
 have HV := Hn (fun k hk => h.vb k hk)
 have HLT := Hn h.lt
 subst hv
 generalize hnq : Q.length = nq at *
 have HNQ := Hn hnq
 have HQ := Hn hq
 generalize hbz : (((w.alloc (.cells #[.int .i64 0, .int .i64 0] 79)).alloc (.cells #[.int .i64 0, .int .i64 0] 79)).alloc (.cells #[.int .i64 0, .int .i64 0] 79)).heap.size = bz at *
 have C1 := Hn (fun x (h : Mu base w s m Kg (.slice Pv nq cv) vs Q bz Pa na fa Pb nb fb x) => mu_sum Pa na ca fa (by omega) hfa x h h.la)
 have C2 := Hn (fun x (h : Mu base w s m Kg (.slice Pv nq cv) vs Q bz Pa na fa Pb nb fb x) => mu_sum Pb nb cb fb (by omega) hfb x h h.lb)
 have N1 := Hn (fun x R e1 (h : Mu base w s m Kg (.slice Pv nq cv) vs Q bz Pa na fa Pb nb fb x) (hl : Lt x R (lf Sm.L (glL na fa)).length (ft (lf Sm.L (glL na fa)))) => names_any h.sy R (lf Sm.L (glL na fa)).length e1 (ft (lf Sm.L (glL na fa))) la9 hl)
 have N2 := Hn (fun x R e1 (h : Mu base w s m Kg (.slice Pv nq cv) vs Q bz Pa na fa Pb nb fb x) (hl : Lt x R (lf Sm.L (glL nb fb)).length (ft (lf Sm.L (glL nb fb)))) => names_any h.sy R (lf Sm.L (glL nb fb)).length e1 (ft (lf Sm.L (glL nb fb))) lb9 hl)
 rw [hwa] at N1
 rw [hwb] at N2
 have MU0 := Hn mu
 have BX0 := Hn bx
 have BL0 := Hn bl
 have HBZ : Hid (w.heap.size ≤ bz) := Hn mu.hb
 have BZ := Hn hbz
 clear h hT ha hb mu bx bl B3 hwa hwb la9 lb9 hna hnb hfa hfb hnq hlc hpv hq
 generalize hxa : lf Sm.L (glL na fa) = Xa at *
 generalize hxb : lf Sm.L (glL nb fb) = Xb at *
 clear hxa hxb
 go_enter Tryz.func24, Tryz.ntmps24
 go_upto_region 3 with (go_at_call 44; refine C0.out.mono ?_; rintro e w1 ⟨rfl, rfl⟩)
 clear C0
 go_upto_region 4 with fail
 have hbz2 : w.heap.size + 1 + 1 + 1 = bz := by rw [← hbz]; simp
 try rw [hbz2]
 clear hbz hbz2
 generalize ((((w.alloc (.cells #[.int .i64 0, .int .i64 0] 79)).alloc (.cells #[.int .i64 0, .int .i64 0] 79)).alloc (.cells #[.int .i64 0, .int .i64 0] 79)).alloc (.map #[] 0)) = w4 at *
 go_upto_region 6 with (first | (have _t := C1; go_at_call 64; refine (C1.out _ MU0.out).mono ?_; rintro e w5 ⟨R1, e1, rfl, hm, hl, hg⟩; have M5 := Hn hm; have L5 := Hn hl; have X5 := Hn (BX0.out.to (wi_ne_map MU0.out.mp) hg); have B5 := Hn (BL0.out.grown hg BL0.out.size (fun k hk => by obtain rfl := Option.some.inj hk; exact HBZ.out)); clear hm hl hg C1) | (have _t := N1; go_at_call 63; refine (N1.out _ R1 e1 M5.out L5.out).mono ?_; rintro e w6 ⟨rfl, hbb⟩; have M6 := Hn (M5.out.bel hbb); have X6 := Hn (X5.out.bel hbb); have B6 := Hn (bl_trans B5.out hbb); clear hbb N1) | (have _t := C2; go_at_call 64; refine (C2.out _ M6.out).mono ?_; rintro e w7 ⟨R2, e2, rfl, hm, hl, hg⟩; have M7 := Hn hm; have L7 := Hn hl; have X7 := Hn (X6.out.to (wi_ne_map M6.out.mp) hg); have B7 := Hn (B6.out.grown hg B6.out.size (fun k hk => by obtain rfl := Option.some.inj hk; exact HBZ.out)); clear hm hl hg C2) | (have _t := N2; go_at_call 63; refine (N2.out _ R2 e2 M7.out L7.out).mono ?_; rintro e w8 ⟨rfl, hbb⟩; have M8 := Hn (M7.out.bel hbb); have X8 := Hn (X7.out.bel hbb); have B8 := Hn (bl_trans B7.out hbb); clear hbb N2))
 clear M5 L5 X5 B5 M6 X6 B6 M7 L7 X7 B7 MU0 BX0 BL0
 have k2 := M8.out.sy.c2
 have l9 : (4094 : Int) < (nq : Int) := by have := HQ.out; omega
 go_upto_region 7 with fail
 have XX := X8
 refine ml7 _ w.heap.size (w.heap.size + 1) (w.heap.size + 1 + 1) 0 0 0 0 0 0 _ _ _ _ _ _ _ _ _ _ _ _ _ _ _ _ _ _ _ _ _ _ _ _ _ _ _ _ _ _ _ _ _ _ _ _ _ _ _ _ _ _ _ _ _ _ _ _ _ _ _ _ _ _ _ _ _ _ _ _ _ _ _ _ _ _ _ _ _ _ _ _ _ _ w8 XX.out.c00 XX.out.c01 XX.out.f00 XX.out.f01 XX.out.c10 XX.out.c11 XX.out.f10 XX.out.f11 XX.out.c20 XX.out.c21 XX.out.f20 XX.out.f21 (Hn ?_)
 intro wz hz
 have d00 : wz.cell? ⟨w.heap.size, 0, none⟩ = some (.int .i64 0) := by rw [hz]; exact XX.out.c00
 have d01 : wz.cell? ⟨w.heap.size, 1, none⟩ = some (.int .i64 0) := by rw [hz]; exact XX.out.c01
 have d10 : wz.cell? ⟨w.heap.size + 1, 0, none⟩ = some (.int .i64 0) := by rw [hz]; exact XX.out.c10
 have d11 : wz.cell? ⟨w.heap.size + 1, 1, none⟩ = some (.int .i64 0) := by rw [hz]; exact XX.out.c11
 have d20 : wz.cell? ⟨w.heap.size + 1 + 1, 0, none⟩ = some (.int .i64 0) := by rw [hz]; exact XX.out.c20
 have d21 : wz.cell? ⟨w.heap.size + 1 + 1, 1, none⟩ = some (.int .i64 0) := by rw [hz]; exact XX.out.c21
 have HZ : Hid (Below w.heap.size w wz) := Hn (by rw [hz]; exact bl_trans B8.out (bl_drew _))
 clear hz k2 X8 XX M8 B8
 go_wp2_with fail
 refine bodyPost_ret (v := tup 0 0 0 0 0 0 201) (by simp [results, Tryz.results24, go_sem, d00, d01, d10, d11, d20, d21, tup]) rfl ⟨rfl, HZ.out⟩
theorem Multiply_full1 {base : Nat} {w : World} {s m Kg : Nat} {v : Value} {vs : List Value} {Q : List (List Tm)} (h : Sy base w s m Kg v vs Q) (hT : Tb w) (Pa Pb : Option Addr) (na ca nb cb : Nat) (fa fb : Nat → Trm) (hna : na ≤ 2932031007401) (hnb : nb ≤ 2932031007401) (hfa : ∀ k, k < na → (fa k).a.ok) (hfb : ∀ k, k < nb → (fb k).a.ok) (ha : Lt w Pa na fa) (hb : Lt w Pb nb fb) (hwa : nm m Kg (lf Sm.L (glL na fa)).length (ft (lf Sm.L (glL na fa))) = true) (hwb : nm m Kg (lf Sm.L (glL nb fb)).length (ft (lf Sm.L (glL nb fb))) = true) (hq : Q.length ≤ 4094) (hK : 1024 ≤ Kg) :
  Calls Tryz.prog 24 #[.pointer (some ⟨s, 0, none⟩), .slice Pa na ca, .slice Pb nb cb] w fun e w' => e = .returned (tup 0 0 0 0 0 0 201) ∧ Below w.heap.size w w' := by
 have hmm := @run_makeMap Tryz.prog
 obtain ⟨mu, bx, bl⟩ := mu_start h hT ha hb
 have B3 := bl_alloc3 w (.cells #[.int .i64 0, .int .i64 0] 79) (.cells #[.int .i64 0, .int .i64 0] 79) (.cells #[.int .i64 0, .int .i64 0] 79)
 have C0 := Hn (none_any (h.keep B3))
 have la9 : (lf Sm.L (glL na fa)).length ≤ 4398046510976 := by have h9 : (glL na fa).length = na := (by simp [glL]); have := lf_len_le (glL na fa); omega
 have lb9 : (lf Sm.L (glL nb fb)).length ≤ 4398046510976 := by have h9 : (glL nb fb).length = nb := (by simp [glL]); have := lf_len_le (glL nb fb); omega
 obtain ⟨Pv, cv, hv, hlc, hpv⟩ := h.shape
 have HV := Hn (fun k hk => h.vb k hk)
 have HLT := Hn h.lt
 subst hv
 generalize hnq : Q.length = nq at *
 have HNQ := Hn hnq
 have HQ := Hn hq
 generalize hbz : (((w.alloc (.cells #[.int .i64 0, .int .i64 0] 79)).alloc (.cells #[.int .i64 0, .int .i64 0] 79)).alloc (.cells #[.int .i64 0, .int .i64 0] 79)).heap.size = bz at *
 have C1 := Hn (fun x (h : Mu base w s m Kg (.slice Pv nq cv) vs Q bz Pa na fa Pb nb fb x) => mu_sum Pa na ca fa (by omega) hfa x h h.la)
 have C2 := Hn (fun x (h : Mu base w s m Kg (.slice Pv nq cv) vs Q bz Pa na fa Pb nb fb x) => mu_sum Pb nb cb fb (by omega) hfb x h h.lb)
 have N1 := Hn (fun x R e1 (h : Mu base w s m Kg (.slice Pv nq cv) vs Q bz Pa na fa Pb nb fb x) (hl : Lt x R (lf Sm.L (glL na fa)).length (ft (lf Sm.L (glL na fa)))) => names_any h.sy R (lf Sm.L (glL na fa)).length e1 (ft (lf Sm.L (glL na fa))) la9 hl)
 have N2 := Hn (fun x R e1 (h : Mu base w s m Kg (.slice Pv nq cv) vs Q bz Pa na fa Pb nb fb x) (hl : Lt x R (lf Sm.L (glL nb fb)).length (ft (lf Sm.L (glL nb fb)))) => names_any h.sy R (lf Sm.L (glL nb fb)).length e1 (ft (lf Sm.L (glL nb fb))) lb9 hl)
 rw [hwa] at N1
 rw [hwb] at N2
 have MU0 := Hn mu
 have BX0 := Hn bx
 have BL0 := Hn bl
 have HBZ : Hid (w.heap.size ≤ bz) := Hn mu.hb
 have BZ := Hn hbz
 clear h hT ha hb mu bx bl B3 hwa hwb la9 lb9 hna hnb hfa hfb hnq hlc hpv hq
 generalize hxa : lf Sm.L (glL na fa) = Xa at *
 generalize hxb : lf Sm.L (glL nb fb) = Xb at *
 clear hxa hxb
 go_enter Tryz.func24, Tryz.ntmps24
 go_upto_region 3 with (go_at_call 44; refine C0.out.mono ?_; rintro e w1 ⟨rfl, rfl⟩)
 clear C0
 go_upto_region 4 with fail
 have hbz2 : w.heap.size + 1 + 1 + 1 = bz := by rw [← hbz]; simp
 try rw [hbz2]
 clear hbz hbz2
 generalize ((((w.alloc (.cells #[.int .i64 0, .int .i64 0] 79)).alloc (.cells #[.int .i64 0, .int .i64 0] 79)).alloc (.cells #[.int .i64 0, .int .i64 0] 79)).alloc (.map #[] 0)) = w4 at *
 go_upto_region 6 with (first | (have _t := C1; go_at_call 64; refine (C1.out _ MU0.out).mono ?_; rintro e w5 ⟨R1, e1, rfl, hm, hl, hg⟩; have M5 := Hn hm; have L5 := Hn hl; have X5 := Hn (BX0.out.to (wi_ne_map MU0.out.mp) hg); have B5 := Hn (BL0.out.grown hg BL0.out.size (fun k hk => by obtain rfl := Option.some.inj hk; exact HBZ.out)); clear hm hl hg C1) | (have _t := N1; go_at_call 63; refine (N1.out _ R1 e1 M5.out L5.out).mono ?_; rintro e w6 ⟨rfl, hbb⟩; have M6 := Hn (M5.out.bel hbb); have X6 := Hn (X5.out.bel hbb); have B6 := Hn (bl_trans B5.out hbb); clear hbb N1) | (have _t := C2; go_at_call 64; refine (C2.out _ M6.out).mono ?_; rintro e w7 ⟨R2, e2, rfl, hm, hl, hg⟩; have M7 := Hn hm; have L7 := Hn hl; have X7 := Hn (X6.out.to (wi_ne_map M6.out.mp) hg); have B7 := Hn (B6.out.grown hg B6.out.size (fun k hk => by obtain rfl := Option.some.inj hk; exact HBZ.out)); clear hm hl hg C2) | (have _t := N2; go_at_call 63; refine (N2.out _ R2 e2 M7.out L7.out).mono ?_; rintro e w8 ⟨rfl, hbb⟩; have M8 := Hn (M7.out.bel hbb); have X8 := Hn (X7.out.bel hbb); have B8 := Hn (bl_trans B7.out hbb); clear hbb N2))
 clear M5 L5 X5 B5 M6 X6 B6 M7 L7 X7 B7 MU0 BX0 BL0
 have k2 := M8.out.sy.c2
 have l9 : ¬ (4094 : Int) < (nq : Int) := by have := HQ.out; omega
 go_upto_region 8 with fail
 clear k2
 have C3 := Gate_full M8.out.sy hK
 simp only [tup] at C3
 replace C3 := Hn C3
 go_upto_region 11 with (first | (go_at_call 23; refine C3.out.mono ?_; rintro e w9 ⟨rfl, hbb⟩; have M9 := Hn (M8.out.bel hbb); have X9 := Hn (X8.out.bel hbb); have B9 := Hn (bl_trans B8.out hbb); have y00 := X9.out.c00; have z00 := X9.out.f00; have y01 := X9.out.c01; have z01 := X9.out.f01; have y10 := X9.out.c10; have z10 := X9.out.f10; have y11 := X9.out.c11; have z11 := X9.out.f11; have y20 := X9.out.c20; have z20 := X9.out.f20; have y21 := X9.out.c21; have z21 := X9.out.f21; clear hbb))
 clear C3 y00 z00 y01 z01 y10 z10 y11 z11 y20 z20 y21 z21
 have SS := X9.out.set M9.out (Nat.le_refl _) 0 0 0 0 0 0
 have BW := Hn (show Below w.heap.size w ((((((w9.setCell ⟨w.heap.size, 0, none⟩ (.int .i64 0)).setCell ⟨w.heap.size, 1, none⟩ (.int .i64 0)).setCell ⟨w.heap.size + 1, 0, none⟩ (.int .i64 0)).setCell ⟨w.heap.size + 1, 1, none⟩ (.int .i64 0)).setCell ⟨w.heap.size + 1 + 1, 0, none⟩ (.int .i64 0)).setCell ⟨w.heap.size + 1 + 1, 1, none⟩ (.int .i64 0)) from bl_cell (bl_cell (bl_cell (bl_cell (bl_cell (bl_cell B9.out (by omega)) (by omega)) (by omega)) (by omega)) (by omega)) (by omega))
 generalize ((((((w9.setCell ⟨w.heap.size, 0, none⟩ (.int .i64 0)).setCell ⟨w.heap.size, 1, none⟩ (.int .i64 0)).setCell ⟨w.heap.size + 1, 0, none⟩ (.int .i64 0)).setCell ⟨w.heap.size + 1, 1, none⟩ (.int .i64 0)).setCell ⟨w.heap.size + 1 + 1, 0, none⟩ (.int .i64 0)).setCell ⟨w.heap.size + 1 + 1, 1, none⟩ (.int .i64 0)) = w10 at *
 have XX := Hn SS.1
 clear SS
 refine ml11 _ w.heap.size (w.heap.size + 1) (w.heap.size + 1 + 1) 0 0 0 0 0 0 201 _ _ _ _ _ _ _ _ _ _ _ _ _ _ _ _ _ _ _ _ _ _ _ _ _ _ _ _ _ _ _ _ _ _ _ _ _ _ _ _ _ _ _ _ _ _ _ _ _ _ _ _ _ _ _ _ _ _ _ _ _ _ _ _ _ _ _ _ _ _ _ _ _ w10 XX.out.c00 XX.out.c01 XX.out.f00 XX.out.f01 XX.out.c10 XX.out.c11 XX.out.f10 XX.out.f11 XX.out.c20 XX.out.c21 XX.out.f20 XX.out.f21 (Hn ?_)
 intro wz hz
 have d00 : wz.cell? ⟨w.heap.size, 0, none⟩ = some (.int .i64 0) := by rw [hz]; exact XX.out.c00
 have d01 : wz.cell? ⟨w.heap.size, 1, none⟩ = some (.int .i64 0) := by rw [hz]; exact XX.out.c01
 have d10 : wz.cell? ⟨w.heap.size + 1, 0, none⟩ = some (.int .i64 0) := by rw [hz]; exact XX.out.c10
 have d11 : wz.cell? ⟨w.heap.size + 1, 1, none⟩ = some (.int .i64 0) := by rw [hz]; exact XX.out.c11
 have d20 : wz.cell? ⟨w.heap.size + 1 + 1, 0, none⟩ = some (.int .i64 0) := by rw [hz]; exact XX.out.c20
 have d21 : wz.cell? ⟨w.heap.size + 1 + 1, 1, none⟩ = some (.int .i64 0) := by rw [hz]; exact XX.out.c21
 have HZ : Hid (Below w.heap.size w wz) := Hn (by rw [hz]; exact bl_trans BW.out (bl_drew _))
 clear hz X8 XX M8 B8 M9 X9 B9 BW
 go_wp2_with fail
 refine bodyPost_ret (v := tup 0 0 0 0 0 0 201) (by simp [results, Tryz.results24, go_sem, d00, d01, d10, d11, d20, d21, tup]) rfl ⟨rfl, HZ.out⟩
def MqA (base : Nat) (w : World) (s m Kg : Nat) (v : Value) (vs : List Value) (Q : List (List Tm)) (X1 X2 : List Tm) (w' : World) : Prop := ∃ v' u1 u2, Sy base w' s m (Kg + 1) v' (vs ++ [u1, u2]) (Q ++ [X1, X2]) ∧ Fz s v w w' ∧ (∀ k, v'.ownBlock = some k → v.ownBlock = some k ∨ w.heap.size ≤ k) ∧ ∀ u ∈ [u1, u2], ∀ k, u.ownBlock = some k → w.heap.size ≤ k
theorem Multiply_okA {base : Nat} {w : World} {s m Kg : Nat} {v : Value} {vs : List Value} {Q : List (List Tm)} (h : Sy base w s m Kg v vs Q) (hT : Tb w) (Pa Pb : Option Addr) (na ca nb cb : Nat) (fa fb : Nat → Trm) (hna : na ≤ 2932031007401) (hnb : nb ≤ 2932031007401) (hfa : ∀ k, k < na → (fa k).a.ok) (hfb : ∀ k, k < nb → (fb k).a.ok) (ha : Lt w Pa na fa) (hb : Lt w Pb nb fb) (hwa : nm m Kg (lf Sm.L (glL na fa)).length (ft (lf Sm.L (glL na fa))) = true) (hwb : nm m Kg (lf Sm.L (glL nb fb)).length (ft (lf Sm.L (glL nb fb))) = true) (hq : Q.length ≤ 4094) (hK : Kg < 1024) :
  Calls Tryz.prog 24 #[.pointer (some ⟨s, 0, none⟩), .slice Pa na ca, .slice Pb nb cb] w fun e w' => e = .returned (tup 2 Kg 3 Kg 4 Kg 0) ∧ MqA base w s m Kg v vs Q (lf Sm.L (glL 1 (cst (2, (Kg : Int))) ++ glN na fa)) (lf Sm.L (glL 1 (cst (3, (Kg : Int))) ++ glN nb fb)) w' := by
 have hmm := @run_makeMap Tryz.prog
 obtain ⟨mu, bx, bl⟩ := mu_start h hT ha hb
 have B3 := bl_alloc3 w (.cells #[.int .i64 0, .int .i64 0] 79) (.cells #[.int .i64 0, .int .i64 0] 79) (.cells #[.int .i64 0, .int .i64 0] 79)
 have C0 := Hn (none_any (h.keep B3))
 have la9 : (lf Sm.L (glL na fa)).length ≤ 4398046510976 := by have h9 : (glL na fa).length = na := (by simp [glL]); have := lf_len_le (glL na fa); omega
 have lb9 : (lf Sm.L (glL nb fb)).length ≤ 4398046510976 := by have h9 : (glL nb fb).length = nb := (by simp [glL]); have := lf_len_le (glL nb fb); omega
 obtain ⟨Pv, cv, hv, hlc, hpv⟩ := h.shape
 have HV := Hn (fun k hk => h.vb k hk)
 have HLT := Hn h.lt
 subst hv
 generalize hnq : Q.length = nq at *
 have HNQ := Hn hnq
 have HQ := Hn hq
 generalize hbz : (((w.alloc (.cells #[.int .i64 0, .int .i64 0] 79)).alloc (.cells #[.int .i64 0, .int .i64 0] 79)).alloc (.cells #[.int .i64 0, .int .i64 0] 79)).heap.size = bz at *
 have C1 := Hn (fun x (h : Mu base w s m Kg (.slice Pv nq cv) vs Q bz Pa na fa Pb nb fb x) => mu_sum Pa na ca fa (by omega) hfa x h h.la)
 have C2 := Hn (fun x (h : Mu base w s m Kg (.slice Pv nq cv) vs Q bz Pa na fa Pb nb fb x) => mu_sum Pb nb cb fb (by omega) hfb x h h.lb)
 have N1 := Hn (fun x R e1 (h : Mu base w s m Kg (.slice Pv nq cv) vs Q bz Pa na fa Pb nb fb x) (hl : Lt x R (lf Sm.L (glL na fa)).length (ft (lf Sm.L (glL na fa)))) => names_any h.sy R (lf Sm.L (glL na fa)).length e1 (ft (lf Sm.L (glL na fa))) la9 hl)
 have N2 := Hn (fun x R e1 (h : Mu base w s m Kg (.slice Pv nq cv) vs Q bz Pa na fa Pb nb fb x) (hl : Lt x R (lf Sm.L (glL nb fb)).length (ft (lf Sm.L (glL nb fb)))) => names_any h.sy R (lf Sm.L (glL nb fb)).length e1 (ft (lf Sm.L (glL nb fb))) lb9 hl)
 rw [hwa] at N1
 rw [hwb] at N2
 have MU0 := Hn mu
 have BX0 := Hn bx
 have BL0 := Hn bl
 have HBZ : Hid (w.heap.size ≤ bz) := Hn mu.hb
 have BZ := Hn hbz
 have HF := Hn (And.intro hna (And.intro hnb (And.intro hfa hfb)))
 clear h hT ha hb mu bx bl B3 hwa hwb la9 lb9 hna hnb hfa hfb hnq hlc hpv hq
 generalize hxa : lf Sm.L (glL na fa) = Xa at *
 generalize hxb : lf Sm.L (glL nb fb) = Xb at *
 clear hxa hxb
 go_enter Tryz.func24, Tryz.ntmps24
 go_upto_region 3 with (go_at_call 44; refine C0.out.mono ?_; rintro e w1 ⟨rfl, rfl⟩)
 clear C0
 go_upto_region 4 with fail
 have hbz2 : w.heap.size + 1 + 1 + 1 = bz := by rw [← hbz]; simp
 try rw [hbz2]
 clear hbz hbz2
 generalize ((((w.alloc (.cells #[.int .i64 0, .int .i64 0] 79)).alloc (.cells #[.int .i64 0, .int .i64 0] 79)).alloc (.cells #[.int .i64 0, .int .i64 0] 79)).alloc (.map #[] 0)) = w4 at *
 go_upto_region 6 with (first | (have _t := C1; go_at_call 64; refine (C1.out _ MU0.out).mono ?_; rintro e w5 ⟨R1, e1, rfl, hm, hl, hg⟩; have M5 := Hn hm; have L5 := Hn hl; have X5 := Hn (BX0.out.to (wi_ne_map MU0.out.mp) hg); have B5 := Hn (BL0.out.grown hg BL0.out.size (fun k hk => by obtain rfl := Option.some.inj hk; exact HBZ.out)); clear hm hl hg C1) | (have _t := N1; go_at_call 63; refine (N1.out _ R1 e1 M5.out L5.out).mono ?_; rintro e w6 ⟨rfl, hbb⟩; have M6 := Hn (M5.out.bel hbb); have X6 := Hn (X5.out.bel hbb); have B6 := Hn (bl_trans B5.out hbb); clear hbb N1) | (have _t := C2; go_at_call 64; refine (C2.out _ M6.out).mono ?_; rintro e w7 ⟨R2, e2, rfl, hm, hl, hg⟩; have M7 := Hn hm; have L7 := Hn hl; have X7 := Hn (X6.out.to (wi_ne_map M6.out.mp) hg); have B7 := Hn (B6.out.grown hg B6.out.size (fun k hk => by obtain rfl := Option.some.inj hk; exact HBZ.out)); clear hm hl hg C2) | (have _t := N2; go_at_call 63; refine (N2.out _ R2 e2 M7.out L7.out).mono ?_; rintro e w8 ⟨rfl, hbb⟩; have M8 := Hn (M7.out.bel hbb); have X8 := Hn (X7.out.bel hbb); have B8 := Hn (bl_trans B7.out hbb); clear hbb N2))
 clear M5 L5 X5 B5 M6 X6 B6 M7 L7 X7 B7 MU0 BX0 BL0
 have k2 := M8.out.sy.c2
 have l9 : ¬ (4094 : Int) < (nq : Int) := by have := HQ.out; omega
 go_upto_region 8 with fail
 clear k2
 have C3 := Gate_ok M8.out.sy hK
 simp only [tup] at C3
 replace C3 := Hn C3
 go_upto_region 10 with (first | (go_at_call 23; refine C3.out.mono ?_; rintro e w9 ⟨rfl, hsy, hgg⟩; have M9 := Hn (M8.out.gate hgg hsy); have X9 := Hn (X8.out.to (wi_ne_sy M8.out.sy) hgg); have y00 := X9.out.c00; have z00 := X9.out.f00; have y01 := X9.out.c01; have z01 := X9.out.f01; have y10 := X9.out.c10; have z10 := X9.out.f10; have y11 := X9.out.c11; have z11 := X9.out.f11; have y20 := X9.out.c20; have z20 := X9.out.f20; have y21 := X9.out.c21; have z21 := X9.out.f21; clear hsy hgg))
 clear C3 y00 z00 y01 z01 y10 z10 y11 z11 y20 z20 y21 z21
 have SS := X9.out.set M9.out (Nat.le_refl _) 2 (Kg : Int) 3 (Kg : Int) 4 (Kg : Int)
 generalize ((((((w9.setCell ⟨w.heap.size, 0, none⟩ (.int .i64 2)).setCell ⟨w.heap.size, 1, none⟩ (.int .i64 (Kg : Int))).setCell ⟨w.heap.size + 1, 0, none⟩ (.int .i64 3)).setCell ⟨w.heap.size + 1, 1, none⟩ (.int .i64 (Kg : Int))).setCell ⟨w.heap.size + 1 + 1, 0, none⟩ (.int .i64 4)).setCell ⟨w.heap.size + 1 + 1, 1, none⟩ (.int .i64 (Kg : Int))) = w10 at *
 have XX := Hn SS.1
 have MM := Hn SS.2
 clear SS M9 X9 M8 X8 B8
 have nv : ∀ k, w.heap.size ≤ k → (Value.slice Pv nq cv).ownBlock ≠ some k := fun k hk e => by have := (HV.out k e).2; omega
 have ns := HLT.out
 have nb0 := wi_ne_map MM.out.mp
 obtain ⟨n0, n1, n2⟩ := XX.out.ne nb0
 refine mu10 _ base s m (Kg + 1) nq cv _ _ bz na nb ca cb w.heap.size (w.heap.size + 1) w Pv Pa Pb fa fb vs Q (lf Sm.L (glL 1 (cst (2, (Kg : Int))) ++ glN na fa)) (lf Sm.L (glL 1 (cst (3, (Kg : Int))) ++ glN nb fb)) 2 (Kg : Int) 3 (Kg : Int) _ _ _ _ _ _ _ _ _ _ _ _ _ _ _ _ _ _ _ _ _ _ _ _ _ _ _ _ _ _ _ _ _ _ _ _ _ _ _ _ _ _ _ _ _ _ _ _ _ _ _ _ _ _ _ _ _ _ _ _ _ _ _ _ _ _ _ _ _ _ _ w10 MM.out HNQ (Hn (by have := HQ.out; omega)) (Hn rfl) (Hn rfl) XX.out.c00 XX.out.c01 XX.out.c10 XX.out.c11 (by omega) (nv _ (Nat.le_refl _)) n0 (by omega) (nv _ (by omega)) n1 (Hn (fun y => of_lt (2, (Kg : Int)) y)) (Hn (fun y => of_lt (3, (Kg : Int)) y)) (Hn (fun y P d hT h1 h2 hm => dif_sl (2, (Kg : Int)) P Pa d na ca bz fa y hT HF.out.1 HF.out.2.2.1 h1 h2 hm)) (Hn (fun y P d hT h1 h2 hm => dif_sl (3, (Kg : Int)) P Pb d nb cb bz fb y hT HF.out.2.1 HF.out.2.2.2 h1 h2 hm)) (Hn ?_)
 intro wz P1 P2 R3 R4 P4 d1 d2 e3 e4 c4 tb hf hs hvo hn1 hn2
 have VO := Hn hvo
 have NO := Hn (And.intro hn1 hn2)
 clear hvo hn1 hn2
 have MS := Hn MM.out.fr.size
 have XZ : Bx wz w.heap.size 2 (Kg : Int) 3 (Kg : Int) 4 (Kg : Int) := ⟨(hf.block _ (Array.getElem?_eq_some_iff.1 XX.out.h0).1 (by omega) (nv _ (Nat.le_refl _)) n0).trans XX.out.h0, (hf.block _ (Array.getElem?_eq_some_iff.1 XX.out.h1).1 (by omega) (nv _ (by omega)) n1).trans XX.out.h1, (hf.block _ (Array.getElem?_eq_some_iff.1 XX.out.h2).1 (by omega) (nv _ (by omega)) n2).trans XX.out.h2⟩
 have FZ : Hid (Fz s (.slice Pv nq cv) w wz) := Hn ⟨hf.os.trans MM.out.fr.os, hf.tape.trans MM.out.fr.tape, hf.output.trans MM.out.fr.output, Nat.le_trans MM.out.fr.size hf.size, fun i hi h1 h2 => by
  have hib : i ≠ bz := by have := HBZ.out; omega
  rw [hf.block i (Nat.lt_of_lt_of_le hi MM.out.fr.size) h1 h2 hib]
  exact MM.out.fr.block i hi h1 h2 hib⟩
 have SF := Hn hs
 replace XX := Hn XZ
 clear XZ hf hs nb0 n0 n1 n2 nv ns MM HF
 go_upto_region 11 with fail
 refine ml11 _ w.heap.size (w.heap.size + 1) (w.heap.size + 1 + 1) 2 (Kg : Int) 3 (Kg : Int) 4 (Kg : Int) 0 _ _ _ _ _ _ _ _ _ _ _ _ _ _ _ _ _ _ _ _ _ _ _ _ _ _ _ _ _ _ _ _ _ _ _ _ _ _ _ _ _ _ _ _ _ _ _ _ _ _ _ _ _ _ _ _ _ _ _ _ _ _ _ _ _ _ _ _ _ _ _ _ _ wz XX.out.c00 XX.out.c01 XX.out.f00 XX.out.f01 XX.out.c10 XX.out.c11 XX.out.f10 XX.out.f11 XX.out.c20 XX.out.c21 XX.out.f20 XX.out.f21 (Hn ?_)
 intro wy hz
 have d00 : wy.cell? ⟨w.heap.size, 0, none⟩ = some (.int .i64 2) := by rw [hz]; exact XX.out.c00
 have d01 : wy.cell? ⟨w.heap.size, 1, none⟩ = some (.int .i64 (Kg : Int)) := by rw [hz]; exact XX.out.c01
 have d10 : wy.cell? ⟨w.heap.size + 1, 0, none⟩ = some (.int .i64 3) := by rw [hz]; exact XX.out.c10
 have d11 : wy.cell? ⟨w.heap.size + 1, 1, none⟩ = some (.int .i64 (Kg : Int)) := by rw [hz]; exact XX.out.c11
 have d20 : wy.cell? ⟨w.heap.size + 1 + 1, 0, none⟩ = some (.int .i64 4) := by rw [hz]; exact XX.out.c20
 have d21 : wy.cell? ⟨w.heap.size + 1 + 1, 1, none⟩ = some (.int .i64 (Kg : Int)) := by rw [hz]; exact XX.out.c21
 have FY : Hid (MqA base w s m Kg (.slice Pv nq cv) vs Q (lf Sm.L (glL 1 (cst (2, (Kg : Int))) ++ glN na fa)) (lf Sm.L (glL 1 (cst (3, (Kg : Int))) ++ glN nb fb)) wy) := Hn (by rw [hz]; exact ⟨_, _, _, SF.out.keep (bl_drew _), ⟨FZ.out.os, FZ.out.tape, FZ.out.output, FZ.out.size, FZ.out.block⟩, fun k hk => (VO.out k hk).imp id (Nat.le_trans MS.out), fun u hu k hk => Nat.le_trans MS.out (by rcases List.mem_cons.1 hu with e | e; exact NO.out.1 k (by rw [← e]; exact hk); exact NO.out.2 k (by rw [← List.mem_singleton.1 e]; exact hk))⟩)
 clear hz XX SF FZ
 go_wp2_with fail
 refine bodyPost_ret (v := tup 2 Kg 3 Kg 4 Kg 0) (by simp [results, Tryz.results24, go_sem, d00, d01, d10, d11, d20, d21, tup]) rfl ⟨rfl, ?_⟩
 exact FY.out
theorem Clone_any (P : Option Addr) (n c : Nat) (f : Nat → Trm) (w : World) (h1 : 1 ≤ n) (hn : n ≤ 2932031007402) (hL : Lt w P n f) : Calls Tryz.prog 67 #[.slice P n c] w fun e w' => ∃ v, e = .returned v ∧ w'.ownsRow w.heap.size 123 6 v n (tvs n f) ∧ Below w.heap.size w w' := by
 obtain ⟨sb, so, e1, e2⟩ := hL
 obtain rfl := e1 (by omega)
 have hr := e2 (by omega)
 have eqn := fun (a : Option Addr) (l c : Nat) (w : World) => Lib.run_eql_slice_nil (P := Tryz.prog) w 38 123 a l c 0 0 (by kernel_rfl)
 have HN := Hn hn
 have HI := Hn tinfo
 have HZ0 : Hid ((Tryz.prog.info? 123).get!.zero = some (.agg #[.int .i64 0, .int .i64 0, .int .u64 0, .int .u64 0, .int .u64 0, .int .u64 0])) := Hn (by kernel_rfl)
 have HZ1 : Hid ((Tryz.prog.info? 123).get!.size = 6) := Hn (by kernel_rfl)
 have HZ2 : Hid ((Tryz.prog.info? 123).get!.bytes = 48) := Hn (by kernel_rfl)
 have T1 : Hid (Tryz.prog.underlying 38 = some (.slice 123)) := Hn (by kernel_rfl)
 have O0 := Hn (World.ownsRow_made (base := w.heap.size) (e := 123) (size := 6) w #[] 0 (Nat.le_refl _) (by unfold maxLen; omega) rfl)
 have B0 := Hn (bl_alloc w (.cells #[] 123))
 have HC : Hid (∀ j u, (tvs n f)[j]? = some u → (w.alloc (.cells #[] 123)).cell? ((⟨sb, so, none⟩ : Addr).add j) = some u) := Hn (fun j u hu => by rw [Addr.add_mid]; exact rt_cells (hr.keep (bl_alloc w _)) n (Nat.le_refl _) j u hu)
 clear hr hn h1 e1 e2
 go_enter Tryz.func67, Tryz.ntmps67
 go_wp2_with (first | (at_builtin; have x4 : 0 + n ≤ maxLen := (by have := HN.out; unfold maxLen; omega); have x5 : (0 + n) * 48 ≤ 140737488355328 := (by have := HN.out; omega); refine wpList_append_own_at _ rfl _ _ 38 rfl w.heap.size 123 _ _ 6 48 T1.out HI.out HZ0.out HZ1.out HZ2.out rfl (by decide) _ 0 [] rfl O0.out ⟨sb, so, none⟩ n c (tvs n f) rfl (tvs_len _ _) HC.out (tvs_one n f) x4 x5 B0.out.size ?_; intro v2 w2 ho hg _ _; have HO := Hn ho; have HG := Hn hg; clear ho hg x4 x5))
 refine bodyPost_ret (v := v2) (by simp [results, Tryz.results67, go_sem]) rfl ⟨v2, rfl, ?_, ?_⟩
 ·have := HO.out
  rw [Nat.zero_add, List.nil_append] at this
  exact this
 ·exact B0.out.grown HG.out B0.out.size (fun k hk => by obtain rfl := Option.some.inj hk; exact Nat.le_refl _)
end Ci
end Go.Proofs.YtghcfcglakbkeaaGreatDoor
