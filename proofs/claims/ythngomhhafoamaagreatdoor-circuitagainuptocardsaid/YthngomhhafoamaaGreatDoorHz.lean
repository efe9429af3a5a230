import Derived.Test.YthngomhhafoamaaGreatDoorEy
import Derived.Test.YthngomhhafoamaaGreatDoorCmo
set_option linter.unusedVariables false
set_option linter.unusedSimpArgs false
set_option maxRecDepth 100000
set_option maxHeartbeats 4000000
namespace Go.Proofs.YthngomhhafoamaaGreatDoor
open Go.RowKit
open Cm (Wr Tm co bf Ls lf ins Eqm)
namespace Ci
theorem Multiply_wireA {base : Nat} {w : World} {s m Kg : Nat} {v : Value} {vs : List Value} {Q : List (List Tm)} (h : Sy base w s m Kg v vs Q) (hT : Tb w) (Pa Pb : Option Addr) (na ca nb cb : Nat) (fa fb : Nat → Trm) (hna : na ≤ 2932031007401) (hnb : nb ≤ 2932031007401) (hfa : ∀ k, k < na → (fa k).a.ok) (hfb : ∀ k, k < nb → (fb k).a.ok) (ha : Lt w Pa na fa) (hb : Lt w Pb nb fb) (hwa : nm m Kg (lf Sm.L (glL na fa)).length (ft (lf Sm.L (glL na fa))) = false) :
  Calls Tryz.prog 25 #[.pointer (some ⟨s, 0, none⟩), .slice Pa na ca, .slice Pb nb cb] w fun e w' => e = .returned (tup 0 0 0 0 0 0 200) ∧ Below w.heap.size w w' := by
 have hmm := @run_makeMap Tryz.prog
 obtain ⟨mu, bx, bl⟩ := mu_start h hT ha hb
 have B3 := bl_alloc3 w (.cells #[.int .i64 0, .int .i64 0] 40) (.cells #[.int .i64 0, .int .i64 0] 40) (.cells #[.int .i64 0, .int .i64 0] 40)
 have C0 := Hn (none_any (h.keep B3))
 have la9 : (lf Sm.L (glL na fa)).length ≤ 4398046510976 := by have h9 : (glL na fa).length = na := (by simp [glL]); have := lf_len_le (glL na fa); omega
 have lb9 : (lf Sm.L (glL nb fb)).length ≤ 4398046510976 := by have h9 : (glL nb fb).length = nb := (by simp [glL]); have := lf_len_le (glL nb fb); omega
 obtain ⟨Pv, cv, hv, hlc, hpv⟩ := h.shape
 have HV := Hn (fun k hk => h.vb k hk)
 have HLT := Hn h.lt
 subst hv
 generalize hnq : Q.length = nq at *
 have HNQ := Hn hnq
 generalize hbz : (((w.alloc (.cells #[.int .i64 0, .int .i64 0] 40)).alloc (.cells #[.int .i64 0, .int .i64 0] 40)).alloc (.cells #[.int .i64 0, .int .i64 0] 40)).heap.size = bz at *
 have C1 := Hn (fun x (h : Mu base w s m Kg (.slice Pv nq cv) vs Q bz Pa na fa Pb nb fb x) => mu_sum Pa na ca fa (by omega) hfa x h h.la)
 have C2 := Hn (fun x (h : Mu base w s m Kg (.slice Pv nq cv) vs Q bz Pa na fa Pb nb fb x) => mu_sum Pb nb cb fb (by omega) hfb x h h.lb)
 have N1 := Hn (fun x R e1 (h : Mu base w s m Kg (.slice Pv nq cv) vs Q bz Pa na fa Pb nb fb x) (hl : Lt x R (lf Sm.L (glL na fa)).length (ft (lf Sm.L (glL na fa)))) => names_any h.sy R (lf Sm.L (glL na fa)).length e1 (ft (lf Sm.L (glL na fa))) la9 hl)
 have N2 := Hn (fun x R e1 (h : Mu base w s m Kg (.slice Pv nq cv) vs Q bz Pa na fa Pb nb fb x) (hl : Lt x R (lf Sm.L (glL nb fb)).length (ft (lf Sm.L (glL nb fb)))) => names_any h.sy R (lf Sm.L (glL nb fb)).length e1 (ft (lf Sm.L (glL nb fb))) lb9 hl)
 rw [hwa] at N1
 have MU0 := Hn mu
 have BX0 := Hn bx
 have BL0 := Hn bl
 have HBZ : Hid (w.heap.size ≤ bz) := Hn mu.hb
 have BZ := Hn hbz
 clear h hT ha hb mu bx bl B3 hwa la9 lb9 hna hnb hfa hfb hnq hlc hpv
 generalize hxa : lf Sm.L (glL na fa) = Xa at *
 generalize hxb : lf Sm.L (glL nb fb) = Xb at *
 clear hxa hxb
 go_enter Tryz.func25, Tryz.ntmps25
 go_upto_region 3 with (go_at_call 38; refine C0.out.mono ?_; rintro e w1 ⟨rfl, rfl⟩)
 clear C0
 go_upto_region 4 with fail
 have hbz2 : w.heap.size + 1 + 1 + 1 = bz := by rw [← hbz]; simp
 try rw [hbz2]
 clear hbz hbz2
 generalize ((((w.alloc (.cells #[.int .i64 0, .int .i64 0] 40)).alloc (.cells #[.int .i64 0, .int .i64 0] 40)).alloc (.cells #[.int .i64 0, .int .i64 0] 40)).alloc (.map #[] 0)) = w4 at *
 go_upto_region 5 with (first | (have _t := C1; go_at_call 58; refine (C1.out _ MU0.out).mono ?_; rintro e w5 ⟨R1, e1, rfl, hm, hl, hg⟩; have M5 := Hn hm; have L5 := Hn hl; have X5 := Hn (BX0.out.to (wi_ne_map MU0.out.mp) hg); have B5 := Hn (BL0.out.grown hg BL0.out.size (fun k hk => by obtain rfl := Option.some.inj hk; exact HBZ.out)); clear hm hl hg C1) | (have _t := N1; go_at_call 49; refine (N1.out _ R1 e1 M5.out L5.out).mono ?_; rintro e w6 ⟨rfl, hbb⟩; have M6 := Hn (M5.out.bel hbb); have X6 := Hn (X5.out.bel hbb); have B6 := Hn (bl_trans B5.out hbb); clear hbb N1))
 clear M5 L5 X5 B5 MU0 BX0 BL0
 go_upto_region 5 with fail
 have XX := X6
 refine ml5 _ w.heap.size (w.heap.size + 1) (w.heap.size + 1 + 1) 0 0 0 0 0 0 _ _ _ _ _ _ _ _ _ _ _ _ _ _ _ _ _ _ _ _ _ _ _ _ _ _ _ _ _ _ _ _ _ _ _ _ _ _ _ _ _ _ _ _ _ _ _ _ _ _ _ _ _ _ _ _ _ _ _ _ _ _ _ _ _ _ _ _ _ _ _ _ _ _ w6 XX.out.c00 XX.out.c01 XX.out.f00 XX.out.f01 XX.out.c10 XX.out.c11 XX.out.f10 XX.out.f11 XX.out.c20 XX.out.c21 XX.out.f20 XX.out.f21 (Hn ?_)
 intro wz hz
 have d00 : wz.cell? ⟨w.heap.size, 0, none⟩ = some (.int .i64 0) := by rw [hz]; exact XX.out.c00
 have d01 : wz.cell? ⟨w.heap.size, 1, none⟩ = some (.int .i64 0) := by rw [hz]; exact XX.out.c01
 have d10 : wz.cell? ⟨w.heap.size + 1, 0, none⟩ = some (.int .i64 0) := by rw [hz]; exact XX.out.c10
 have d11 : wz.cell? ⟨w.heap.size + 1, 1, none⟩ = some (.int .i64 0) := by rw [hz]; exact XX.out.c11
 have d20 : wz.cell? ⟨w.heap.size + 1 + 1, 0, none⟩ = some (.int .i64 0) := by rw [hz]; exact XX.out.c20
 have d21 : wz.cell? ⟨w.heap.size + 1 + 1, 1, none⟩ = some (.int .i64 0) := by rw [hz]; exact XX.out.c21
 have HZ : Hid (Below w.heap.size w wz) := Hn (by rw [hz]; exact bl_trans B6.out (bl_drew _))
 clear hz X6 XX M6 B6
 go_wp2_with fail
 refine bodyPost_ret (v := tup 0 0 0 0 0 0 200) (by simp [results, Tryz.results25, go_sem, d00, d01, d10, d11, d20, d21, tup]) rfl ⟨rfl, HZ.out⟩
theorem Multiply_wireB {base : Nat} {w : World} {s m Kg : Nat} {v : Value} {vs : List Value} {Q : List (List Tm)} (h : Sy base w s m Kg v vs Q) (hT : Tb w) (Pa Pb : Option Addr) (na ca nb cb : Nat) (fa fb : Nat → Trm) (hna : na ≤ 2932031007401) (hnb : nb ≤ 2932031007401) (hfa : ∀ k, k < na → (fa k).a.ok) (hfb : ∀ k, k < nb → (fb k).a.ok) (ha : Lt w Pa na fa) (hb : Lt w Pb nb fb) (hwa : nm m Kg (lf Sm.L (glL na fa)).length (ft (lf Sm.L (glL na fa))) = true) (hwb : nm m Kg (lf Sm.L (glL nb fb)).length (ft (lf Sm.L (glL nb fb))) = false) :
  Calls Tryz.prog 25 #[.pointer (some ⟨s, 0, none⟩), .slice Pa na ca, .slice Pb nb cb] w fun e w' => e = .returned (tup 0 0 0 0 0 0 200) ∧ Below w.heap.size w w' := by
 have hmm := @run_makeMap Tryz.prog
 obtain ⟨mu, bx, bl⟩ := mu_start h hT ha hb
 have B3 := bl_alloc3 w (.cells #[.int .i64 0, .int .i64 0] 40) (.cells #[.int .i64 0, .int .i64 0] 40) (.cells #[.int .i64 0, .int .i64 0] 40)
 have C0 := Hn (none_any (h.keep B3))
 have la9 : (lf Sm.L (glL na fa)).length ≤ 4398046510976 := by have h9 : (glL na fa).length = na := (by simp [glL]); have := lf_len_le (glL na fa); omega
 have lb9 : (lf Sm.L (glL nb fb)).length ≤ 4398046510976 := by have h9 : (glL nb fb).length = nb := (by simp [glL]); have := lf_len_le (glL nb fb); omega
 obtain ⟨Pv, cv, hv, hlc, hpv⟩ := h.shape
 have HV := Hn (fun k hk => h.vb k hk)
 have HLT := Hn h.lt
 subst hv
 generalize hnq : Q.length = nq at *
 have HNQ := Hn hnq
 generalize hbz : (((w.alloc (.cells #[.int .i64 0, .int .i64 0] 40)).alloc (.cells #[.int .i64 0, .int .i64 0] 40)).alloc (.cells #[.int .i64 0, .int .i64 0] 40)).heap.size = bz at *
 have C1 := Hn (fun x (h : Mu base w s m Kg (.slice Pv nq cv) vs Q bz Pa na fa Pb nb fb x) => mu_sum Pa na ca fa (by omega) hfa x h h.la)
 have C2 := Hn (fun x (h : Mu base w s m Kg (.slice Pv nq cv) vs Q bz Pa na fa Pb nb fb x) => mu_sum Pb nb cb fb (by omega) hfb x h h.lb)
 have N1 := Hn (fun x R e1 (h : Mu base w s m Kg (.slice Pv nq cv) vs Q bz Pa na fa Pb nb fb x) (hl : Lt x R (lf Sm.L (glL na fa)).length (ft (lf Sm.L (glL na fa)))) => names_any h.sy R (lf Sm.L (glL na fa)).length e1 (ft (lf Sm.L (glL na fa))) la9 hl)
 have N2 := Hn (fun x R e1 (h : Mu base w s m Kg (.slice Pv nq cv) vs Q bz Pa na fa Pb nb fb x) (hl : Lt x R (lf Sm.L (glL nb fb)).length (ft (lf Sm.L (glL nb fb)))) => names_any h.sy R (lf Sm.L (glL nb fb)).length e1 (ft (lf Sm.L (glL nb fb))) lb9 hl)
 rw [hwa] at N1
 rw [hwb] at N2
 have MU0 := Hn mu
 have BX0 := Hn bx
 have BL0 := Hn bl
 have HBZ : Hid (w.heap.size ≤ bz) := Hn mu.hb
 have BZ := Hn hbz
 clear h hT ha hb mu bx bl B3 hwa hwb la9 lb9 hna hnb hfa hfb hnq hlc hpv
 generalize hxa : lf Sm.L (glL na fa) = Xa at *
 generalize hxb : lf Sm.L (glL nb fb) = Xb at *
 clear hxa hxb
 go_enter Tryz.func25, Tryz.ntmps25
 go_upto_region 3 with (go_at_call 38; refine C0.out.mono ?_; rintro e w1 ⟨rfl, rfl⟩)
 clear C0
 go_upto_region 4 with fail
 have hbz2 : w.heap.size + 1 + 1 + 1 = bz := by rw [← hbz]; simp
 try rw [hbz2]
 clear hbz hbz2
 generalize ((((w.alloc (.cells #[.int .i64 0, .int .i64 0] 40)).alloc (.cells #[.int .i64 0, .int .i64 0] 40)).alloc (.cells #[.int .i64 0, .int .i64 0] 40)).alloc (.map #[] 0)) = w4 at *
 go_upto_region 5 with (first | (have _t := C1; go_at_call 58; refine (C1.out _ MU0.out).mono ?_; rintro e w5 ⟨R1, e1, rfl, hm, hl, hg⟩; have M5 := Hn hm; have L5 := Hn hl; have X5 := Hn (BX0.out.to (wi_ne_map MU0.out.mp) hg); have B5 := Hn (BL0.out.grown hg BL0.out.size (fun k hk => by obtain rfl := Option.some.inj hk; exact HBZ.out)); clear hm hl hg C1) | (have _t := N1; go_at_call 49; refine (N1.out _ R1 e1 M5.out L5.out).mono ?_; rintro e w6 ⟨rfl, hbb⟩; have M6 := Hn (M5.out.bel hbb); have X6 := Hn (X5.out.bel hbb); have B6 := Hn (bl_trans B5.out hbb); clear hbb N1) | (have _t := C2; go_at_call 58; refine (C2.out _ M6.out).mono ?_; rintro e w7 ⟨R2, e2, rfl, hm, hl, hg⟩; have M7 := Hn hm; have L7 := Hn hl; have X7 := Hn (X6.out.to (wi_ne_map M6.out.mp) hg); have B7 := Hn (B6.out.grown hg B6.out.size (fun k hk => by obtain rfl := Option.some.inj hk; exact HBZ.out)); clear hm hl hg C2) | (have _t := N2; go_at_call 49; refine (N2.out _ R2 e2 M7.out L7.out).mono ?_; rintro e w8 ⟨rfl, hbb⟩; have M8 := Hn (M7.out.bel hbb); have X8 := Hn (X7.out.bel hbb); have B8 := Hn (bl_trans B7.out hbb); clear hbb N2))
 clear M5 L5 X5 B5 M6 X6 B6 M7 L7 X7 B7 MU0 BX0 BL0
 go_upto_region 5 with fail
 have XX := X8
 refine ml5 _ w.heap.size (w.heap.size + 1) (w.heap.size + 1 + 1) 0 0 0 0 0 0 _ _ _ _ _ _ _ _ _ _ _ _ _ _ _ _ _ _ _ _ _ _ _ _ _ _ _ _ _ _ _ _ _ _ _ _ _ _ _ _ _ _ _ _ _ _ _ _ _ _ _ _ _ _ _ _ _ _ _ _ _ _ _ _ _ _ _ _ _ _ _ _ _ _ w8 XX.out.c00 XX.out.c01 XX.out.f00 XX.out.f01 XX.out.c10 XX.out.c11 XX.out.f10 XX.out.f11 XX.out.c20 XX.out.c21 XX.out.f20 XX.out.f21 (Hn ?_)
 intro wz hz
 have d00 : wz.cell? ⟨w.heap.size, 0, none⟩ = some (.int .i64 0) := by rw [hz]; exact XX.out.c00
 have d01 : wz.cell? ⟨w.heap.size, 1, none⟩ = some (.int .i64 0) := by rw [hz]; exact XX.out.c01
 have d10 : wz.cell? ⟨w.heap.size + 1, 0, none⟩ = some (.int .i64 0) := by rw [hz]; exact XX.out.c10
 have d11 : wz.cell? ⟨w.heap.size + 1, 1, none⟩ = some (.int .i64 0) := by rw [hz]; exact XX.out.c11
 have d20 : wz.cell? ⟨w.heap.size + 1 + 1, 0, none⟩ = some (.int .i64 0) := by rw [hz]; exact XX.out.c20
 have d21 : wz.cell? ⟨w.heap.size + 1 + 1, 1, none⟩ = some (.int .i64 0) := by rw [hz]; exact XX.out.c21
 have HZ : Hid (Below w.heap.size w wz) := Hn (by rw [hz]; exact bl_trans B8.out (bl_drew _))
 clear hz X8 XX M8 B8
 go_wp2_with fail
 refine bodyPost_ret (v := tup 0 0 0 0 0 0 200) (by simp [results, Tryz.results25, go_sem, d00, d01, d10, d11, d20, d21, tup]) rfl ⟨rfl, HZ.out⟩
end Ci
end Go.Proofs.YthngomhhafoamaaGreatDoor
namespace Go.Proofs.YthngomhhafoamaaGreatDoor
open Go.RowKit
open Cm (Wr Tm co bf Ls lf ins Eqm)
namespace Ci
theorem cloneL_any {base n : Nat} {v : Value} {vs : List Value} (w : World) (ho : w.ownsRow base 24 1 v n vs) (hn : n ≤ 4096) (h1 : ∀ u ∈ vs, u.oneCell' = true) : Calls Tryz.prog 39 #[v] w fun e w' => ∃ P c, e = .returned (.slice P n c) ∧ w'.ownsRow w.heap.size 24 1 (.slice P n c) n vs ∧ Below w.heap.size w w' := by
 have eqn := fun (a : Option Addr) (l c : Nat) (w : World) => Lib.run_eql_slice_nil (P := Tryz.prog) w 70 24 a l c 0 0 (by kernel_rfl)
 rcases ho.2 with ⟨rfl, rfl⟩ | ⟨g, c, cur, rfl, _, hh, hnc, _⟩
 ·have e0 : vs = [] := List.eq_nil_of_length_eq_zero (by have := ho.1; omega)
  subst e0
  clear ho h1 hn
  go_enter Tryz.func39, Tryz.ntmps39
  go_wp2_with fail
  refine bodyPost_ret (v := .slice none 0 0) (by simp [results, Tryz.results39, go_sem]) rfl ⟨none, 0, rfl, World.ownsRow_nil _ _ _ _, Below.refl _ _⟩
 ·have HN := Hn hn
  have HI : Hid ((Tryz.prog.info? 24) = some (Tryz.prog.info? 24).get!) := Hn (by kernel_rfl)
  have HZ0 : Hid ((Tryz.prog.info? 24).get!.zero = some (.slice none 0 0)) := Hn (by kernel_rfl)
  have HZ1 : Hid ((Tryz.prog.info? 24).get!.size = 1) := Hn (by kernel_rfl)
  have HZ2 : Hid ((Tryz.prog.info? 24).get!.bytes = 24) := Hn (by kernel_rfl)
  have T1 : Hid (Tryz.prog.underlying 70 = some (.slice 24)) := Hn (by kernel_rfl)
  have O0 := Hn (World.ownsRow_made (base := w.heap.size) (e := 24) (size := 1) w #[] 0 (Nat.le_refl _) (by unfold maxLen; omega) rfl)
  have B0 := Hn (bl_alloc w (.cells #[] 24))
  have HC : Hid (∀ j u, vs[j]? = some u → (w.alloc (.cells #[] 24)).cell? ((⟨g, 0, none⟩ : Addr).add j) = some u) := Hn (fun j u hu => by
   have := ho.cells (g := g) rfl j u hu
   rw [Addr.add_mid] at this ⊢
   exact cell_keep this (bl_alloc w _))
  have HL : Hid (vs.length = n * 1) := Hn ho.1
  have H1 := Hn h1
  clear ho hn h1 hh hnc
  go_enter Tryz.func39, Tryz.ntmps39
  go_wp2_with (first | (at_builtin; have x4 : 0 + n ≤ maxLen := (by have := HN.out; unfold maxLen; omega); have x5 : (0 + n) * 24 ≤ 140737488355328 := (by have := HN.out; omega); refine wpList_append_own_at _ rfl _ _ 70 rfl w.heap.size 24 _ _ 1 24 T1.out HI.out HZ0.out HZ1.out HZ2.out rfl (by decide) _ 0 [] rfl O0.out ⟨g, 0, none⟩ n c vs rfl HL.out HC.out H1.out x4 x5 B0.out.size ?_; intro v2 w2 ho hg _ _; have HO := Hn ho; have HG := Hn hg; clear ho hg x4 x5))
  have ho2 := HO.out
  rw [Nat.zero_add, List.nil_append] at ho2
  obtain ⟨P2, c2, e2, _⟩ : ∃ (P : Option Addr) (c : Nat), v2 = .slice P n c ∧ True := by
   rcases ho2.2 with ⟨h1, h2⟩ | ⟨g, c, cur, h1, _⟩
   ·exact ⟨none, 0, by rw [h1, h2], trivial⟩
   ·exact ⟨_, c, h1, trivial⟩
  subst e2
  refine bodyPost_ret (v := .slice P2 n c2) (by simp [results, Tryz.results39, go_sem]) rfl ⟨P2, c2, rfl, ho2, ?_⟩
  exact B0.out.grown HG.out B0.out.size (fun k hk => by obtain rfl := Option.some.inj hk; exact Nat.le_refl _)
theorem Sy.ones {base : Nat} {w : World} {s m Kg : Nat} {v : Value} {vs : List Value} {Q : List (List Tm)} (h : Sy base w s m Kg v vs Q) : ∀ u ∈ vs, u.oneCell' = true := fun u hu => by
 obtain ⟨i, hi⟩ := List.mem_iff_getElem?.1 hu
 have hl : i < Q.length := by have := h.row.1; have := (List.getElem?_eq_some_iff.1 hi).1; omega
 obtain ⟨u', hu', ho⟩ := h.ls i Q[i] (by simp [hl])
 rw [hi] at hu'
 obtain rfl := Option.some.inj hu'
 obtain ⟨P, c, rfl, _⟩ := own_shT ho
 rfl
theorem SysClone_any {base : Nat} {w : World} {s m Kg : Nat} {v : Value} {vs : List Value} {Q : List (List Tm)} (h : Sy base w s m Kg v vs Q) (hq : Q.length ≤ 4096) : Calls Tryz.prog 11 #[.pointer (some ⟨s, 0, none⟩)] w fun e w' => e = .returned (.pointer (some ⟨w.heap.size, 0, none⟩)) ∧ (∃ v' vs', Sy base w' w.heap.size m Kg v' vs' Q) ∧ Below w.heap.size w w' := by
 have C0 := Hn (none_any h)
 obtain ⟨PQ, cQ, rfl, _, _⟩ := h.shape
 have BA := bl_alloc w (.cells #[.int .i64 (m : Int), .int .i64 (Kg : Int), .slice PQ Q.length cQ, .bool true] 72)
 have C1 := Hn (cloneL_any (w.alloc (.cells #[.int .i64 (m : Int), .int .i64 (Kg : Int), .slice PQ Q.length cQ, .bool true] 72)) (own_keepT h.row BA) hq h.ones)
 have k0 := h.c0
 have k1 := h.c1
 have k2 := h.c2
 have k3 := h.c3
 have HB := Hn BA
 have HH := Hn h
 have hnew := heap_alloc_new w (.cells #[.int .i64 (m : Int), .int .i64 (Kg : Int), .slice PQ Q.length cQ, .bool true] 72)
 have HNW := Hn hnew
 have e2 : (w.alloc (.cells #[.int .i64 (m : Int), .int .i64 (Kg : Int), .slice PQ Q.length cQ, .bool true] 72)).cell? ⟨w.heap.size, 2, none⟩ = some (.slice PQ Q.length cQ) := by go_simp
 have f2 : (w.alloc (.cells #[.int .i64 (m : Int), .int .i64 (Kg : Int), .slice PQ Q.length cQ, .bool true] 72)).frozen? ⟨w.heap.size, 2, none⟩ = false := by go_simp
 have SZ : Hid (w.heap.size < (w.alloc (.cells #[.int .i64 (m : Int), .int .i64 (Kg : Int), .slice PQ Q.length cQ, .bool true] 72)).heap.size) := Hn (by simp)
 have k2n := cell_keep k2 BA
 have HBS := Hn h.bs
 have HLT := Hn h.lt
 clear h BA hq hnew
 generalize hqn : Q.length = nq at *
 have HQN := Hn hqn
 clear hqn
 go_enter Tryz.func11, Tryz.ntmps11
 go_upto_region 3 with (go_at_call 38; refine C0.out.mono ?_; rintro e w1 ⟨rfl, hw1⟩; have hw2 := hw1.symm; clear hw1; subst hw2)
 clear C0
 go_upto_region 4 with fail
 clear k0 k1 k2 k3
 generalize w.alloc (.cells #[.int .i64 (m : Int), .int .i64 (Kg : Int), .slice PQ nq cQ, .bool true] 72) = w2 at *
 go_wp2_with (go_at_call 39; refine C1.out.mono ?_; rintro e w3 ⟨P3, c3, rfl, ho, hb⟩; have HO := Hn ho; have B3 := Hn hb; have e3 := cell_keep e2 hb; have f3 := (hb.frozen (p := ⟨w.heap.size, 2, none⟩) SZ.out).trans f2; clear ho hb e2 f2)
 have hs3 : w3.heap[w.heap.size]? = some (.cells #[.int .i64 (m : Int), .int .i64 (Kg : Int), .slice PQ nq cQ, .bool true] 72 (0, 0)) := (B3.out.block _ SZ.out).trans HNW.out
 have BF : Below w.heap.size w (w3.setCell ⟨w.heap.size, 2, none⟩ (.slice P3 nq c3)) := bl_cell (bl_trans HB.out B3.out) (Nat.le_refl _)
 refine bodyPost_ret (v := .pointer (some ⟨w.heap.size, 0, none⟩)) (by simp [results, Tryz.results11, go_sem]) rfl ⟨rfl, ⟨.slice P3 nq c3, vs, ?_⟩, BF⟩
 have hk := HH.out.keep BF
 refine ⟨?_, ?_, hk.ls, ?_, hk.sm⟩
 ·have := heap_setCell_same w3 w.heap.size 2 _ 72 (.slice P3 nq c3) hs3
  simpa using this
 ·rw [HQN.out]
  exact own_keepS (own_monoT HO.out (by have := HBS.out; have := HLT.out; have := HB.out.size; omega)) hs3 (by decide) (gb_cell w3 w.heap.size 2 _)
 ·have := HBS.out; have := HLT.out; omega
end Ci
end Go.Proofs.YthngomhhafoamaaGreatDoor
