import Derived.Test.YtghcfcglakbkeaaGreatDoorEbj
namespace Go.Proofs.YtghcfcglakbkeaaGreatDoor
open Go.RowKit
set_option linter.unusedVariables false
set_option linter.unusedSimpArgs false
open Cm (Wr Tm co bf Ls lf ins Eqm)
namespace Ci
set_option maxRecDepth 100000
set_option maxHeartbeats 32000000
theorem six_new (w : World) (a b c d e f : Obj) : Below w.heap.size w ((((((w.alloc a).alloc b).alloc c).alloc d).alloc e).alloc f) ∧ ((((((w.alloc a).alloc b).alloc c).alloc d).alloc e).alloc f).heap[w.heap.size]? = some a ∧ ((((((w.alloc a).alloc b).alloc c).alloc d).alloc e).alloc f).heap[w.heap.size + 1]? = some b ∧ ((((((w.alloc a).alloc b).alloc c).alloc d).alloc e).alloc f).heap[w.heap.size + 1 + 1]? = some c ∧ ((((((w.alloc a).alloc b).alloc c).alloc d).alloc e).alloc f).heap[w.heap.size + 1 + 1 + 1]? = some d ∧ ((((((w.alloc a).alloc b).alloc c).alloc d).alloc e).alloc f).heap[w.heap.size + 1 + 1 + 1 + 1]? = some e ∧ ((((((w.alloc a).alloc b).alloc c).alloc d).alloc e).alloc f).heap[w.heap.size + 1 + 1 + 1 + 1 + 1]? = some f := by
 refine ⟨bl_trans (bl_alloc _ _) (bl_trans (bl_alloc _ _) (bl_trans (bl_alloc _ _) (bl_trans (bl_alloc _ _) (bl_trans (bl_alloc _ _) (bl_alloc _ _))))), ?_⟩
 have n0 := heap_alloc_new w a
 have n1 := heap_alloc_new (w.alloc a) b
 rw [show (w.alloc a).heap.size = w.heap.size + 1 by simp] at n1
 have n2 := heap_alloc_new ((w.alloc a).alloc b) c
 rw [show ((w.alloc a).alloc b).heap.size = w.heap.size + 1 + 1 by simp] at n2
 have n3 := heap_alloc_new (((w.alloc a).alloc b).alloc c) d
 rw [show (((w.alloc a).alloc b).alloc c).heap.size = w.heap.size + 1 + 1 + 1 by simp] at n3
 have n4 := heap_alloc_new ((((w.alloc a).alloc b).alloc c).alloc d) e
 rw [show ((((w.alloc a).alloc b).alloc c).alloc d).heap.size = w.heap.size + 1 + 1 + 1 + 1 by simp] at n4
 have n5 := heap_alloc_new (((((w.alloc a).alloc b).alloc c).alloc d).alloc e) f
 rw [show (((((w.alloc a).alloc b).alloc c).alloc d).alloc e).heap.size = w.heap.size + 1 + 1 + 1 + 1 + 1 by simp] at n5
 exact ⟨hb_bl n0 (bl_trans (bl_alloc _ _) (bl_trans (bl_alloc _ _) (bl_trans (bl_alloc _ _) (bl_trans (bl_alloc _ _) (bl_alloc _ _))))), hb_bl n1 (bl_trans (bl_alloc _ _) (bl_trans (bl_alloc _ _) (bl_trans (bl_alloc _ _) (bl_alloc _ _)))), hb_bl n2 (bl_trans (bl_alloc _ _) (bl_trans (bl_alloc _ _) (bl_alloc _ _))), hb_bl n3 (bl_trans (bl_alloc _ _) (bl_alloc _ _)), hb_bl n4 (bl_alloc _ _), n5⟩
theorem step_any {w0 x : World} {m : Nat} {p : Pr} {sa sb : Lf} {wh : Int} (hp : Pj w0 m p x) (hT : Tb w0) (hM : Mk w0) (la : Li w0 sa) (lb : Li w0 sb) (hb : Below w0.heap.size w0 x) :
  Calls Tryz.prog 36 #[.pointer (some ⟨p.b, 0, none⟩), .agg #[.int .i64 wh, .slice sa.p sa.n sa.c, .slice sb.p sb.n sb.c]] x fun e y => StP w0 m p x e y := by
 have BX := bl_alloc x (.cells #[.int .i64 wh, .slice sa.p sa.n sa.c, .slice sb.p sb.n sb.c] 65)
 have HCB := Hn (heap_alloc_new x (.cells #[.int .i64 wh, .slice sa.p sa.n sa.c, .slice sb.p sb.n sb.c] 65))
 have HP := Hn hp
 have HW := Hn (And.intro hT (And.intro hM (And.intro la lb)))
 have B0 := Hn hb
 have B1 := Hn BX
 have c1 := cell_of_row (x.alloc (.cells #[.int .i64 wh, .slice sa.p sa.n sa.c, .slice sb.p sb.n sb.c] 65)) x.heap.size 1 _ _ (0, 0) HCB.out
 have c2 := cell_of_row (x.alloc (.cells #[.int .i64 wh, .slice sa.p sa.n sa.c, .slice sb.p sb.n sb.c] 65)) x.heap.size 2 _ _ (0, 0) HCB.out
 have BB := Hn (Below.trans hb (BX.mono hb.size))
 have CA := Hn (fun y (hy : Below (x.alloc (.cells #[.int .i64 wh, .slice sa.p sa.n sa.c, .slice sb.p sb.n sb.c] 65)).heap.size (x.alloc (.cells #[.int .i64 wh, .slice sa.p sa.n sa.c, .slice sb.p sb.n sb.c] 65)) y) => room_sl (b := (x.alloc (.cells #[.int .i64 wh, .slice sa.p sa.n sa.c, .slice sb.p sb.n sb.c] 65)).heap.size) (la.keep (BB.out.trans (hy.mono BB.out.size))) (hM.keep (BB.out.trans (hy.mono BB.out.size))) hy.size)
 have CB := Hn (fun y (hy : Below (x.alloc (.cells #[.int .i64 wh, .slice sa.p sa.n sa.c, .slice sb.p sb.n sb.c] 65)).heap.size (x.alloc (.cells #[.int .i64 wh, .slice sa.p sa.n sa.c, .slice sb.p sb.n sb.c] 65)) y) => room_sl (b := (x.alloc (.cells #[.int .i64 wh, .slice sa.p sa.n sa.c, .slice sb.p sb.n sb.c] 65)).heap.size) (lb.keep (BB.out.trans (hy.mono BB.out.size))) (hM.keep (BB.out.trans (hy.mono BB.out.size))) hy.size)
 have SX : Hid (x.heap.size < (x.alloc (.cells #[.int .i64 wh, .slice sa.p sa.n sa.c, .slice sb.p sb.n sb.c] 65)).heap.size) := Hn (by simp)
 clear hp hT hM la lb hb BX
 go_enter Tryz.func36, Tryz.ntmps36
 go_upto_region 1 with fail
 obtain ⟨cb, hcb⟩ : ∃ cb, x.heap.size = cb := ⟨_, rfl⟩
 obtain ⟨x1, hx1⟩ : ∃ x1, (x.alloc (.cells #[.int .i64 wh, .slice sa.p sa.n sa.c, .slice sb.p sb.n sb.c] 65)) = x1 := ⟨_, rfl⟩
 rw [hx1] at HCB c1 c2 BB CA CB B1 SX ⊢
 have HCE := Hn hcb
 rw [hcb] at HCB c1 c2 ⊢
 clear hx1 hcb
 refine st1 _ sa sb cb _ _ _ _ _ _ _ _ _ _ _ _ _ _ _ _ _ _ _ _ _ _ _ _ _ _ _ _ _ _ _ _ _ _ _ _ _ _ _ _ _ _ _ _ _ _ _ _ _ _ _ _ _ _ _ _ _ _ _ _ _ _ _ _ _ _ _ _ _ _ _ _ _ _ _ _ _ _ _ _ _ _ _ _ _ _ _ _ _ _ _ _ _ _ _ _ _ _ _ _ _ _ _ _ _ _ _ _ _ _ _ _ _ _ _ _ _ _ _ _ _ _ _ _ _ _ _ _ _ _ _ _ _ _ _ _ _ _ _ _ _ _ _ _ _ _ _ _ _ _ _ _ _ _ _ _ _ _ _ _ _ _ _ _ _ _ _ _ _ _ _ _ _ _ _ _ _ _ _ _ _ _ _ _ _ _ _ _ _ _ _ x1 c1 c2 CA CB (Hn ?_)
 intro w2 ga ca gb cc hb2 ra rb gg
 have B2 := Hn hb2
 have RA := Hn ra
 have RB := Hn rb
 have GG := Hn gg
 clear hb2 ra rb gg c1 c2 CA CB
 go_upto_region 5 with fail
 have A6 := six_new w2 (.cells #[.int .i64 0, .int .i64 0] 79) (.cells #[.int .i64 0, .int .i64 0] 79) (.cells #[.int .i64 0, .int .i64 0] 79) (.cells #[.int .i64 0, .int .i64 0] 67) (.cells #[.int .i64 0, .int .i64 0] 67) (.cells #[.int .i64 0, .int .i64 0] 67)
 obtain ⟨w3, hw3⟩ : ∃ w3, ((((((w2.alloc (.cells #[.int .i64 0, .int .i64 0] 79)).alloc (.cells #[.int .i64 0, .int .i64 0] 79)).alloc (.cells #[.int .i64 0, .int .i64 0] 79)).alloc (.cells #[.int .i64 0, .int .i64 0] 67)).alloc (.cells #[.int .i64 0, .int .i64 0] 67)).alloc (.cells #[.int .i64 0, .int .i64 0] 67)) = w3 := ⟨_, rfl⟩
 rw [hw3] at A6 ⊢
 clear hw3
 have N2 : Hid (x.heap.size ≤ w2.heap.size) := Hn (Nat.le_trans B1.out.size B2.out.size)
 obtain ⟨t12, ht12⟩ : ∃ t, w2.heap.size + 1 + 1 + 1 + 1 + 1 = t := ⟨_, rfl⟩
 rw [ht12] at A6 ⊢
 obtain ⟨t11, ht11⟩ : ∃ t, w2.heap.size + 1 + 1 + 1 + 1 = t := ⟨_, rfl⟩
 rw [ht11] at A6 ⊢
 obtain ⟨t10, ht10⟩ : ∃ t, w2.heap.size + 1 + 1 + 1 = t := ⟨_, rfl⟩
 rw [ht10] at A6 ⊢
 obtain ⟨t9, ht9⟩ : ∃ t, w2.heap.size + 1 + 1 = t := ⟨_, rfl⟩
 rw [ht9] at A6 ⊢
 obtain ⟨t8, ht8⟩ : ∃ t, w2.heap.size + 1 = t := ⟨_, rfl⟩
 rw [ht8] at A6 ⊢
 obtain ⟨t7, ht7⟩ : ∃ t, w2.heap.size = t := ⟨_, rfl⟩
 rw [ht7] at ⊢
 have B3 : Below x.heap.size x w3 := bl_trans B1.out (bl_trans B2.out A6.1)
 have MD : Hid (Md w0 m p x sa sb wh cb t7 t8 t9 t10 t11 t12 ga ca gb cc p.K p.Q p.K p.Q 0 0 0 0 0 0 0 0 0 0 0 0 w3) := Hn (by
  have hp := HP.out.keep B3
  have n2 := N2.out
  have ra := own_keepT (own_monoT RA.out B1.out.size) A6.1
  have rb := own_keepT (own_monoT RB.out B1.out.size) A6.1
  have s1 := SX.out
  have s2 := RA.out.lt ga rfl
  have s3 := RB.out.lt gb rfl
  obtain ⟨a1, a2, a3, a4, a5, a6, a7⟩ := A6
  rw [ht7] at a2
  exact ⟨HW.out.1, HW.out.2.1, HW.out.2.2.1, HW.out.2.2.2, B0.out.size, B0.out.trans (B3.mono B0.out.size), fun i hi => ⟨HP.out.lo i hi, HP.out.lt i hi⟩, hp.hb, ⟨_, _, hp.sy, fun k hk => .inl hk, fun u hu k hk => by
   obtain ⟨i, hi, e⟩ := List.mem_iff_getElem.1 hu
   have hl := HP.out.sy.row.1
   obtain ⟨u2, c1, c2⟩ := HP.out.sy.ls i (p.Q[i]'(by omega)) (by simp [show i < p.Q.length by omega])
   rw [List.getElem?_eq_getElem hi, e] at c1
   obtain rfl := Option.some.inj c1
   have := (c2.lt k hk).2
   omega⟩, ⟨_, _, hp.dy, fun k hk => .inl hk⟩, HP.out.ok, HP.out.ok, Gs.bl B3, hb_bl (hb_bl HCB.out B2.out) a1, a2, a3, a4, a5, a6, a7, ra, rb, GG.out, ⟨by omega, by omega, by omega, by omega, by omega, by omega⟩, ⟨by omega, by omega, by omega, by omega, by omega, by omega⟩⟩)
 clear A6 B3 ht7 ht8 ht9 ht10 ht11 ht12 N2 RA RB GG B2 HCB BB B1 B0 HP HW SX HCE
 have cwh := cell_of_row w3 cb 0 _ _ (0, 0) MD.out.hcb
 go_upto_region 6 with fail
 clear cwh
 by_cases h1 : wh = 1
 ·have l1 : wh = 1 := h1
  obtain ⟨k0, k1, k2, k3, k4, k5, E, hgt⟩ := gt_tup p.K
  have C1 := mdGateP MD.out
  have pc := cell_of_row w3 p.b 0 _ _ (0, 0) MD.out.hb
  rw [hgt] at C1
  simp only [tup] at C1
  replace C1 := Hn C1
  have HGT := Hn hgt
  clear hgt
  go_upto_region 8 with (first | (go_at_call 23; refine C1.out.mono ?_; rintro e y ⟨rfl, hm⟩; clear MD; have MD := Hn hm; clear hm C1 pc) | (refine wpList_stA rfl 79 _ _ rfl t7 0 [.int .i64 k0, .int .i64 k1] rfl rfl MD.out.th7 i2_w (one2 _ _) rfl ?_; intro y2 hw; have M2 := Hn (MD.out.s7 k0 k1); rw [← hw] at M2; clear MD hw; have MD := M2; clear M2) | (refine wpList_stA rfl 79 _ _ rfl t8 0 [.int .i64 k2, .int .i64 k3] rfl rfl MD.out.th8 i2_w (one2 _ _) rfl ?_; intro y2 hw; have M2 := Hn (MD.out.s8 k2 k3); rw [← hw] at M2; clear MD hw; have MD := M2; clear M2) | (refine wpList_stA rfl 79 _ _ rfl t9 0 [.int .i64 k4, .int .i64 k5] rfl rfl MD.out.th9 i2_w (one2 _ _) rfl ?_; intro y2 hw; have M2 := Hn (MD.out.s9 k4 k5); rw [← hw] at M2; clear MD hw; have MD := M2; clear M2))
  rename_i yq _
  have C2 := mdGateR MD.out
  have pc := cell_of_row _ p.b 1 _ _ (0, 0) MD.out.hb
  rw [HGT.out] at C2
  simp only [tup] at C2
  replace C2 := Hn C2
  go_upto_region 15 with (first | (go_at_call 16; refine C2.out.mono ?_; rintro e y ⟨rfl, hm⟩; clear MD; have MD := Hn hm; clear hm C2 pc) | (refine wpList_stA rfl 67 _ _ rfl t10 0 [.int .i64 k0, .int .i64 k1] rfl rfl MD.out.th10 i2R (one2 _ _) rfl ?_; intro y2 hw; have M2 := Hn (MD.out.s10 k0 k1); rw [← hw] at M2; clear MD hw; have MD := M2; clear M2) | (refine wpList_stA rfl 67 _ _ rfl t11 0 [.int .i64 k2, .int .i64 k3] rfl rfl MD.out.th11 i2R (one2 _ _) rfl ?_; intro y2 hw; have M2 := Hn (MD.out.s11 k2 k3); rw [← hw] at M2; clear MD hw; have MD := M2; clear M2) | (refine wpList_stA rfl 67 _ _ rfl t12 0 [.int .i64 k4, .int .i64 k5] rfl rfl MD.out.th12 i2R (one2 _ _) rfl ?_; intro y2 hw; have M2 := Hn (MD.out.s12 k4 k5); rw [← hw] at M2; clear MD hw; have MD := M2; clear M2))
  obtain ⟨KK, hKK⟩ : ∃ K, gtK p.K = K := ⟨_, rfl⟩
  obtain ⟨QQ, hQQ⟩ : ∃ Q, p.Q = Q := ⟨_, rfl⟩
  rw [hKK, hQQ] at MD
  clear hKK hQQ HGT
  have C25 : Hid (∀ y, Md w0 m p x sa sb wh cb t7 t8 t9 t10 t11 t12 ga ca gb cc KK QQ KK QQ k0 k1 k2 k3 k4 k5 k0 k1 k2 k3 k4 k5 y → Calls Tryz.prog 42 #[.slice (some ⟨ga, 0, none⟩) sa.n ca, .slice sa.p sa.n sa.c] y fun e w' => e = .returned (.bool true) ∧ Below y.heap.size y w') := Hn (fun y hy => mdStaysA hy)
  have C32 : Hid (∀ y, Md w0 m p x sa sb wh cb t7 t8 t9 t10 t11 t12 ga ca gb cc KK QQ KK QQ k0 k1 k2 k3 k4 k5 k0 k1 k2 k3 k4 k5 y → Calls Tryz.prog 42 #[.slice (some ⟨gb, 0, none⟩) sb.n cc, .slice sb.p sb.n sb.c] y fun e w' => e = .returned (.bool true) ∧ Below y.heap.size y w') := Hn (fun y hy => mdStaysB hy)
  refine st15 _ w0 m p x sa sb wh cb t7 t8 t9 t10 t11 t12 ga ca gb cc KK QQ KK QQ k0 k1 k2 k3 k4 k5 E _ _ _ _ _ _ _ _ _ _ _ _ _ _ _ _ _ _ _ _ _ _ _ _ _ _ _ _ _ _ _ _ _ _ _ _ _ _ _ _ _ _ _ _ _ _ _ _ _ _ _ _ _ _ _ _ _ _ _ _ _ _ _ _ _ _ _ _ _ _ _ _ _ _ _ _ _ _ _ _ _ _ _ _ _ _ _ _ _ _ _ _ _ _ _ _ _ _ _ _ _ _ _ _ _ _ _ _ _ _ _ _ _ _ _ _ _ _ _ _ _ _ _ _ _ _ _ _ _ _ _ _ _ _ _ _ _ _ _ _ _ _ _ _ _ _ _ _ _ _ _ _ _ _ _ _ _ _ _ _ _ _ _ _ _ _ _ _ _ _ _ _ _ _ _ _ _ _ _ _ _ _ MD.out C25 C32 (Hn ?_)
  intro wz hm
  obtain ⟨p2, hf⟩ := hm.fn
  have FN := Hn hf
  have NA := Hn hm.la.a.n
  have NB := Hn hm.lb.a.n
  clear hf hm C25 C32 MD
  go_upto_region 18 with fail
  go_loopw [15] (fun iv z => ∃ i : Nat, i ≤ sa.n ∧ iv = .int .i64 (i : Int) ∧ Hid (Fn w0 m p p2 x ga gb sa.n sb.n z)) (fun i _ => sa.n - (intOf i).toNat)
  case atStart => exact ⟨0, by omega, rfl, FN⟩
  case round =>
   clear FN
   obtain ⟨i, hi, rfl, hS⟩ := hrel
   by_cases hin : i < sa.n
   ·have i1 : (i : Int) < (sa.n : Int) := by omega
    have i0 : (0 : Int) ≤ (i : Int) := by omega
    have w9 : IntKind.i64.wrap ((i : Int) + 1) = (i : Int) + 1 := IntWalk.i64_in _ (by have := NA.out; have := NB.out; omega)
    have mk := hS.out.mr.keep hS.out.bel
    have m0 := mk.m0
    have m1 := mk.m1
    have m2 := mk.m2
    have m3 := mk.m3
    have m4 := mk.m4
    have m5 := mk.m5
    have TH := Hn (th_arr (o := i * 6) (k := 6) hS.out.ba (by omega))
    clear mk
    go_wp2_with (refine wpList_stA rfl 123 _ _ rfl ga (i * 6) [.int .i64 77, .int .i64 78, .int .u64 79, .int .u64 0, .int .u64 0, .int .u64 0] (by go_simp) rfl TH.out i6T (by simp [Value.oneCell']) rfl ?_; intro y2 hw; have NS := Hn (hS.out.put ga (by simp) (i * 6) [.int .i64 77, .int .i64 78, .int .u64 79, .int .u64 0, .int .u64 0, .int .u64 0]); rw [← hw] at NS; clear hw hS TH m0 m1 m2 m3 m4 m5)
    go_roundw
    case rel => exact ⟨i + 1, by omega, by go_num, NS⟩
    case measure => simp [intOf]; omega
   ·obtain rfl : i = sa.n := by omega
    have lq : ¬ (sa.n : Int) < (sa.n : Int) := by omega
    have FN := hS
    clear hS
    go_upto_region 22 with fail
    go_loopw [16] (fun iv z => ∃ i : Nat, i ≤ sb.n ∧ iv = .int .i64 (i : Int) ∧ Hid (Fn w0 m p p2 x ga gb sa.n sb.n z)) (fun i _ => sb.n - (intOf i).toNat)
    case atStart => exact ⟨0, by omega, rfl, FN⟩
    case round =>
     clear FN
     obtain ⟨i, hi, rfl, hS⟩ := hrel
     by_cases hin : i < sb.n
     ·have i1 : (i : Int) < (sb.n : Int) := by omega
      have i0 : (0 : Int) ≤ (i : Int) := by omega
      have w9 : IntKind.i64.wrap ((i : Int) + 1) = (i : Int) + 1 := IntWalk.i64_in _ (by have := NB.out; omega)
      have mk := hS.out.mr.keep hS.out.bel
      have m0 := mk.m0
      have m1 := mk.m1
      have m2 := mk.m2
      have m3 := mk.m3
      have m4 := mk.m4
      have m5 := mk.m5
      have TH := Hn (th_arr (o := i * 6) (k := 6) hS.out.bb (by omega))
      clear mk
      go_wp2_with (refine wpList_stA rfl 123 _ _ rfl gb (i * 6) [.int .i64 77, .int .i64 78, .int .u64 79, .int .u64 0, .int .u64 0, .int .u64 0] (by go_simp) rfl TH.out i6T (by simp [Value.oneCell']) rfl ?_; intro y2 hw; have NS := Hn (hS.out.put gb (by simp) (i * 6) [.int .i64 77, .int .i64 78, .int .u64 79, .int .u64 0, .int .u64 0, .int .u64 0]); rw [← hw] at NS; clear hw hS TH m0 m1 m2 m3 m4 m5)
      go_roundw
      case rel => exact ⟨i + 1, by omega, by go_num, NS⟩
      case measure => simp [intOf]; omega
     ·obtain rfl : i = sb.n := by omega
      have lq2 : ¬ (sb.n : Int) < (sb.n : Int) := by omega
      have FN := hS
      clear hS
      go_upto_region 25 with fail
      have E1 := FN.out.e
      obtain ⟨Pu, cu, hu, _, _⟩ := FN.out.pj.dy.shape
      have RQ : Hid (∀ y, Pj w0 m p2 y → Calls Tryz.prog 31 #[.pointer (some ⟨p2.s, 0, none⟩)] y fun e w' => e = .returned (.int .i64 (p2.Q.length : Int)) ∧ w' = y) := Hn (fun y hy => Requires_any hy.sy)
      rw [← E1.1]
      refine st25 _ w0 m p2 p2.Q.length cu Pu _ _ _ _ _ _ _ _ _ _ _ _ _ _ _ _ _ _ _ _ _ _ _ _ _ _ _ _ _ _ _ _ _ _ _ _ _ _ _ _ _ _ _ _ _ _ _ _ _ _ _ _ _ _ _ _ _ _ _ _ _ _ _ _ _ _ _ _ _ _ _ _ _ _ _ _ _ _ _ _ _ _ _ _ _ _ _ _ _ _ _ _ _ _ _ _ _ _ _ _ _ _ _ _ _ _ _ _ _ _ _ _ _ _ _ _ _ _ _ _ _ _ _ _ _ _ _ _ _ _ _ _ _ _ _ _ _ _ _ _ _ _ _ _ _ _ _ _ _ _ _ _ _ _ _ _ _ _ _ _ _ _ _ _ _ _ _ _ _ _ _ _ _ _ _ _ _ _ _ _ _ _ _ _ _ _ _ _ _ _ _ _ FN.out.pj (Hn hu) RQ (Hn ?_)
      intro wz hp hb
      have RS : Hid (StP w0 m p x (.returned (.bool true)) wz) := Hn ⟨rfl, p2, E1.1, E1.2.1, E1.2.2, hp, FN.out.gs.trans (Gs.bl hb) Sk.refl, FN.out.fv, FN.out.fu⟩
      clear hp hb RQ hu FN
      go_wp2_with fail
      exact bodyPost_ret (v := .bool true) (by simp [results, Tryz.results36, go_sem]) rfl RS.out
 ·by_cases h2 : wh = 2
  ·have l1 : ¬ wh = 1 := h1
   have l2 : wh = 2 := h2
   obtain ⟨k0, k1, k2, k3, k4, k5, E, hgt⟩ := mu_tup m p.K p.Q (glL sa.n sa.f) (glL sb.n sb.f)
   have C1 := mdMulP MD.out
   have pc := cell_of_row w3 p.b 0 _ _ (0, 0) MD.out.hb
   rw [hgt] at C1
   simp only [tup] at C1
   replace C1 := Hn C1
   have HGT := Hn hgt
   clear hgt
   go_upto_region 11 with (first | (go_at_call 24; refine C1.out.mono ?_; rintro e y ⟨rfl, hm⟩; clear MD; have MD := Hn hm; clear hm C1 pc) | (refine wpList_stA rfl 79 _ _ rfl t7 0 [.int .i64 k0, .int .i64 k1] rfl rfl MD.out.th7 i2_w (one2 _ _) rfl ?_; intro y2 hw; have M2 := Hn (MD.out.s7 k0 k1); rw [← hw] at M2; clear MD hw; have MD := M2; clear M2) | (refine wpList_stA rfl 79 _ _ rfl t8 0 [.int .i64 k2, .int .i64 k3] rfl rfl MD.out.th8 i2_w (one2 _ _) rfl ?_; intro y2 hw; have M2 := Hn (MD.out.s8 k2 k3); rw [← hw] at M2; clear MD hw; have MD := M2; clear M2) | (refine wpList_stA rfl 79 _ _ rfl t9 0 [.int .i64 k4, .int .i64 k5] rfl rfl MD.out.th9 i2_w (one2 _ _) rfl ?_; intro y2 hw; have M2 := Hn (MD.out.s9 k4 k5); rw [← hw] at M2; clear MD hw; have MD := M2; clear M2))
   obtain ⟨AA, hAA⟩ : ∃ A, (glL sa.n sa.f) = A := ⟨_, rfl⟩
   obtain ⟨BA, hBA⟩ : ∃ B, (glL sb.n sb.f) = B := ⟨_, rfl⟩
   rw [hAA, hBA] at MD
   have C6 : Hid (∀ y, Md w0 m p x sa sb wh cb t7 t8 t9 t10 t11 t12 ga ca gb cc (muK m p.K p.Q AA BA) (muQ m p.K p.Q AA BA) p.K p.Q k0 k1 k2 k3 k4 k5 0 0 0 0 0 0 y → Calls Tryz.prog 18 #[.slice sa.p sa.n sa.c] y fun e w' => LnP AA y e w') := Hn (fun y hy => by rw [← hAA]; exact lin_sl hy.La.a)
   have C9 : Hid (∀ y, Md w0 m p x sa sb wh cb t7 t8 t9 t10 t11 t12 ga ca gb cc (muK m p.K p.Q AA BA) (muQ m p.K p.Q AA BA) p.K p.Q k0 k1 k2 k3 k4 k5 0 0 0 0 0 0 y → Calls Tryz.prog 18 #[.slice sb.p sb.n sb.c] y fun e w' => LnP BA y e w') := Hn (fun y hy => by rw [← hBA]; exact lin_sl hy.Lb.a)
   have C10 : Hid (∀ y P1 c1 P2 c2, Md w0 m p x sa sb wh cb t7 t8 t9 t10 t11 t12 ga ca gb cc (muK m p.K p.Q AA BA) (muQ m p.K p.Q AA BA) p.K p.Q k0 k1 k2 k3 k4 k5 0 0 0 0 0 0 y → y.ownsRow 0 116 6 (.slice P1 AA.length c1) AA.length (tls AA) → y.ownsRow 0 116 6 (.slice P2 BA.length c2) BA.length (tls BA) → Calls Tryz.prog 17 #[.pointer (some ⟨p.r, 0, none⟩), .slice P1 AA.length c1, .slice P2 BA.length c2] y fun e w' => e = .returned (.tuple #[.agg #[.int .i64 k0, .int .i64 k1], .agg #[.int .i64 k2, .int .i64 k3], .agg #[.int .i64 k4, .int .i64 k5], .int .i64 E]) ∧ Md w0 m p x sa sb wh cb t7 t8 t9 t10 t11 t12 ga ca gb cc (muK m p.K p.Q AA BA) (muQ m p.K p.Q AA BA) (muK m p.K p.Q AA BA) (muQ m p.K p.Q AA BA) k0 k1 k2 k3 k4 k5 0 0 0 0 0 0 w') := Hn (fun y P1 c1 P2 c2 hy h1 h2 => by
    subst hAA hBA
    have C := mdMulR hy h1 h2
    rw [HGT.out] at C
    exact C)
   clear hAA hBA HGT
   refine st11 _ w0 m p x sa sb wh cb t7 t8 t9 t10 t11 t12 ga ca gb cc (muK m p.K p.Q AA BA) (muQ m p.K p.Q AA BA) p.K p.Q k0 k1 k2 k3 k4 k5 0 0 0 0 0 0 AA BA (muK m p.K p.Q AA BA) (muQ m p.K p.Q AA BA) k0 k1 k2 k3 k4 k5 E _ _ _ _ _ _ _ _ _ _ _ _ _ _ _ _ _ _ _ _ _ _ _ _ _ _ _ _ _ _ _ _ _ _ _ _ _ _ _ _ _ _ _ _ _ _ _ _ _ _ _ _ _ _ _ _ _ _ _ _ _ _ _ _ _ _ _ _ _ _ _ _ _ _ _ _ _ _ _ _ _ _ _ _ _ _ _ _ _ _ _ _ _ _ _ _ _ _ _ _ _ _ _ _ _ _ _ _ _ _ _ _ _ _ _ _ _ _ _ _ _ _ _ _ _ _ _ _ _ _ _ _ _ _ _ _ _ _ _ _ _ _ _ _ _ _ _ _ _ _ _ _ _ _ _ _ _ _ _ _ _ _ _ _ _ _ _ _ _ _ _ _ _ _ _ _ _ _ _ _ _ _ _ _ _ _ _ _ MD.out C6 C9 C10 (Hn ?_)
   intro wm v68 v71 hm
   clear MD C6 C9 C10
   have MD := Hn hm
   clear hm
   obtain ⟨KK, hKK⟩ : ∃ K, muK m p.K p.Q AA BA = K := ⟨_, rfl⟩
   obtain ⟨QQ, hQQ⟩ : ∃ Q, muQ m p.K p.Q AA BA = Q := ⟨_, rfl⟩
   rw [hKK, hQQ] at MD
   clear hKK hQQ
   go_upto_region 15 with fail
   have C25 : Hid (∀ y, Md w0 m p x sa sb wh cb t7 t8 t9 t10 t11 t12 ga ca gb cc KK QQ KK QQ k0 k1 k2 k3 k4 k5 k0 k1 k2 k3 k4 k5 y → Calls Tryz.prog 42 #[.slice (some ⟨ga, 0, none⟩) sa.n ca, .slice sa.p sa.n sa.c] y fun e w' => e = .returned (.bool true) ∧ Below y.heap.size y w') := Hn (fun y hy => mdStaysA hy)
   have C32 : Hid (∀ y, Md w0 m p x sa sb wh cb t7 t8 t9 t10 t11 t12 ga ca gb cc KK QQ KK QQ k0 k1 k2 k3 k4 k5 k0 k1 k2 k3 k4 k5 y → Calls Tryz.prog 42 #[.slice (some ⟨gb, 0, none⟩) sb.n cc, .slice sb.p sb.n sb.c] y fun e w' => e = .returned (.bool true) ∧ Below y.heap.size y w') := Hn (fun y hy => mdStaysB hy)
   refine st15 _ w0 m p x sa sb wh cb t7 t8 t9 t10 t11 t12 ga ca gb cc KK QQ KK QQ k0 k1 k2 k3 k4 k5 E _ _ _ _ _ _ _ _ _ _ _ _ _ _ _ _ _ _ _ _ _ _ _ _ _ _ _ _ _ _ _ _ _ _ _ _ _ _ _ _ _ _ _ _ _ _ _ _ _ _ _ _ _ _ _ _ _ _ _ _ _ _ _ _ _ _ _ _ _ _ _ _ _ _ _ _ _ _ _ _ _ _ _ _ _ _ _ _ _ _ _ _ _ _ _ _ _ _ _ _ _ _ _ _ _ _ _ _ _ _ _ _ _ _ _ _ _ _ _ _ _ _ _ _ _ _ _ _ _ _ _ _ _ _ _ _ _ _ _ _ _ _ _ _ _ _ _ _ _ _ _ _ _ _ _ _ _ _ _ _ _ _ _ _ _ _ _ _ _ _ _ _ _ _ _ _ _ _ _ _ _ _ MD.out C25 C32 (Hn ?_)
   intro wz hm
   obtain ⟨p2, hf⟩ := hm.fn
   have FN := Hn hf
   have NA := Hn hm.la.a.n
   have NB := Hn hm.lb.a.n
   clear hf hm C25 C32 MD
   go_upto_region 18 with fail
   go_loopw [15] (fun iv z => ∃ i : Nat, i ≤ sa.n ∧ iv = .int .i64 (i : Int) ∧ Hid (Fn w0 m p p2 x ga gb sa.n sb.n z)) (fun i _ => sa.n - (intOf i).toNat)
   case atStart => exact ⟨0, by omega, rfl, FN⟩
   case round =>
    clear FN
    obtain ⟨i, hi, rfl, hS⟩ := hrel
    by_cases hin : i < sa.n
    ·have i1 : (i : Int) < (sa.n : Int) := by omega
     have i0 : (0 : Int) ≤ (i : Int) := by omega
     have w9 : IntKind.i64.wrap ((i : Int) + 1) = (i : Int) + 1 := IntWalk.i64_in _ (by have := NA.out; have := NB.out; omega)
     have mk := hS.out.mr.keep hS.out.bel
     have m0 := mk.m0
     have m1 := mk.m1
     have m2 := mk.m2
     have m3 := mk.m3
     have m4 := mk.m4
     have m5 := mk.m5
     have TH := Hn (th_arr (o := i * 6) (k := 6) hS.out.ba (by omega))
     clear mk
     go_wp2_with (refine wpList_stA rfl 123 _ _ rfl ga (i * 6) [.int .i64 77, .int .i64 78, .int .u64 79, .int .u64 0, .int .u64 0, .int .u64 0] (by go_simp) rfl TH.out i6T (by simp [Value.oneCell']) rfl ?_; intro y2 hw; have NS := Hn (hS.out.put ga (by simp) (i * 6) [.int .i64 77, .int .i64 78, .int .u64 79, .int .u64 0, .int .u64 0, .int .u64 0]); rw [← hw] at NS; clear hw hS TH m0 m1 m2 m3 m4 m5)
     go_roundw
     case rel => exact ⟨i + 1, by omega, by go_num, NS⟩
     case measure => simp [intOf]; omega
    ·obtain rfl : i = sa.n := by omega
     have lq : ¬ (sa.n : Int) < (sa.n : Int) := by omega
     have FN := hS
     clear hS
     go_upto_region 22 with fail
     go_loopw [16] (fun iv z => ∃ i : Nat, i ≤ sb.n ∧ iv = .int .i64 (i : Int) ∧ Hid (Fn w0 m p p2 x ga gb sa.n sb.n z)) (fun i _ => sb.n - (intOf i).toNat)
     case atStart => exact ⟨0, by omega, rfl, FN⟩
     case round =>
      clear FN
      obtain ⟨i, hi, rfl, hS⟩ := hrel
      by_cases hin : i < sb.n
      ·have i1 : (i : Int) < (sb.n : Int) := by omega
       have i0 : (0 : Int) ≤ (i : Int) := by omega
       have w9 : IntKind.i64.wrap ((i : Int) + 1) = (i : Int) + 1 := IntWalk.i64_in _ (by have := NB.out; omega)
       have mk := hS.out.mr.keep hS.out.bel
       have m0 := mk.m0
       have m1 := mk.m1
       have m2 := mk.m2
       have m3 := mk.m3
       have m4 := mk.m4
       have m5 := mk.m5
       have TH := Hn (th_arr (o := i * 6) (k := 6) hS.out.bb (by omega))
       clear mk
       go_wp2_with (refine wpList_stA rfl 123 _ _ rfl gb (i * 6) [.int .i64 77, .int .i64 78, .int .u64 79, .int .u64 0, .int .u64 0, .int .u64 0] (by go_simp) rfl TH.out i6T (by simp [Value.oneCell']) rfl ?_; intro y2 hw; have NS := Hn (hS.out.put gb (by simp) (i * 6) [.int .i64 77, .int .i64 78, .int .u64 79, .int .u64 0, .int .u64 0, .int .u64 0]); rw [← hw] at NS; clear hw hS TH m0 m1 m2 m3 m4 m5)
       go_roundw
       case rel => exact ⟨i + 1, by omega, by go_num, NS⟩
       case measure => simp [intOf]; omega
      ·obtain rfl : i = sb.n := by omega
       have lq2 : ¬ (sb.n : Int) < (sb.n : Int) := by omega
       have FN := hS
       clear hS
       go_upto_region 25 with fail
       have E1 := FN.out.e
       obtain ⟨Pu, cu, hu, _, _⟩ := FN.out.pj.dy.shape
       have RQ : Hid (∀ y, Pj w0 m p2 y → Calls Tryz.prog 31 #[.pointer (some ⟨p2.s, 0, none⟩)] y fun e w' => e = .returned (.int .i64 (p2.Q.length : Int)) ∧ w' = y) := Hn (fun y hy => Requires_any hy.sy)
       rw [← E1.1]
       refine st25 _ w0 m p2 p2.Q.length cu Pu _ _ _ _ _ _ _ _ _ _ _ _ _ _ _ _ _ _ _ _ _ _ _ _ _ _ _ _ _ _ _ _ _ _ _ _ _ _ _ _ _ _ _ _ _ _ _ _ _ _ _ _ _ _ _ _ _ _ _ _ _ _ _ _ _ _ _ _ _ _ _ _ _ _ _ _ _ _ _ _ _ _ _ _ _ _ _ _ _ _ _ _ _ _ _ _ _ _ _ _ _ _ _ _ _ _ _ _ _ _ _ _ _ _ _ _ _ _ _ _ _ _ _ _ _ _ _ _ _ _ _ _ _ _ _ _ _ _ _ _ _ _ _ _ _ _ _ _ _ _ _ _ _ _ _ _ _ _ _ _ _ _ _ _ _ _ _ _ _ _ _ _ _ _ _ _ _ _ _ _ _ _ _ _ _ _ _ _ _ _ _ _ FN.out.pj (Hn hu) RQ (Hn ?_)
       intro wz hp hb
       have RS : Hid (StP w0 m p x (.returned (.bool true)) wz) := Hn ⟨rfl, p2, E1.1, E1.2.1, E1.2.2, hp, FN.out.gs.trans (Gs.bl hb) Sk.refl, FN.out.fv, FN.out.fu⟩
       clear hp hb RQ hu FN
       go_wp2_with fail
       exact bodyPost_ret (v := .bool true) (by simp [results, Tryz.results36, go_sem]) rfl RS.out
  ·by_cases h3 : wh = 3
   ·have l1 : ¬ wh = 1 := h1
    have l2 : ¬ wh = 2 := h2
    have l3 : wh = 3 := h3
    have C1 := mdReqP MD.out
    have pc := cell_of_row w3 p.b 0 _ _ (0, 0) MD.out.hb
    obtain ⟨AA, hAA⟩ : ∃ A, (glL sa.n sa.f) = A := ⟨_, rfl⟩
    rw [hAA] at C1
    obtain ⟨E, hE⟩ : ∃ E, rqE m p.K p.Q (lf Sm.L AA) = E := ⟨_, rfl⟩
    rw [hE] at C1
    replace C1 := Hn C1
    have HE := Hn hE
    have HA := Hn hAA
    clear hE hAA
    go_upto_region 14 with (go_at_call 27; refine C1.out.mono ?_; rintro e y ⟨rfl, hm⟩; clear MD; have MD := Hn hm; clear hm C1 pc)
    have C6 : Hid (∀ y, Md w0 m p x sa sb wh cb t7 t8 t9 t10 t11 t12 ga ca gb cc p.K (rqQ m p.K p.Q (lf Sm.L AA)) p.K p.Q 0 0 0 0 0 0 0 0 0 0 0 0 y → Calls Tryz.prog 18 #[.slice sa.p sa.n sa.c] y fun e w' => LnP AA y e w') := Hn (fun y hy => by rw [← HA.out]; exact lin_sl hy.La.a)
    have C7 : Hid (∀ y P1 c1, Md w0 m p x sa sb wh cb t7 t8 t9 t10 t11 t12 ga ca gb cc p.K (rqQ m p.K p.Q (lf Sm.L AA)) p.K p.Q 0 0 0 0 0 0 0 0 0 0 0 0 y → y.ownsRow 0 116 6 (.slice P1 AA.length c1) AA.length (tls AA) → Calls Tryz.prog 19 #[.pointer (some ⟨p.r, 0, none⟩), .slice P1 AA.length c1] y fun e w' => e = .returned (.int .i64 E) ∧ Md w0 m p x sa sb wh cb t7 t8 t9 t10 t11 t12 ga ca gb cc p.K (rqQ m p.K p.Q (lf Sm.L AA)) p.K (rqQ m p.K p.Q (lf Sm.L AA)) 0 0 0 0 0 0 0 0 0 0 0 0 w') := Hn (fun y P1 c1 hy h1 => by
     have hAA := HA.out
     have hE := HE.out
     clear HA HE
     subst hAA
     have C := mdReqR hy h1
     rw [hE] at C
     exact C)
    clear HA HE
    refine st14 _ w0 m p x sa sb wh cb t7 t8 t9 t10 t11 t12 ga ca gb cc p.K (rqQ m p.K p.Q (lf Sm.L AA)) p.K p.Q 0 0 0 0 0 0 0 0 0 0 0 0 AA p.K (rqQ m p.K p.Q (lf Sm.L AA)) E _ _ _ _ _ _ _ _ _ _ _ _ _ _ _ _ _ _ _ _ _ _ _ _ _ _ _ _ _ _ _ _ _ _ _ _ _ _ _ _ _ _ _ _ _ _ _ _ _ _ _ _ _ _ _ _ _ _ _ _ _ _ _ _ _ _ _ _ _ _ _ _ _ _ _ _ _ _ _ _ _ _ _ _ _ _ _ _ _ _ _ _ _ _ _ _ _ _ _ _ _ _ _ _ _ _ _ _ _ _ _ _ _ _ _ _ _ _ _ _ _ _ _ _ _ _ _ _ _ _ _ _ _ _ _ _ _ _ _ _ _ _ _ _ _ _ _ _ _ _ _ _ _ _ _ _ _ _ _ _ _ _ _ _ _ _ _ _ _ _ _ _ _ _ _ _ _ _ _ _ _ _ _ _ _ _ _ _ _ _ _ MD.out C6 C7 (Hn ?_)
    intro wm v91 hm
    clear MD C6 C7
    have MD := Hn hm
    clear hm
    obtain ⟨KK, hKK⟩ : ∃ K, p.K = K := ⟨_, rfl⟩
    obtain ⟨QQ, hQQ⟩ : ∃ Q, rqQ m p.K p.Q (lf Sm.L AA) = Q := ⟨_, rfl⟩
    rw [hQQ, hKK] at MD
    clear hKK hQQ
    go_upto_region 15 with fail
    have C25 : Hid (∀ y, Md w0 m p x sa sb wh cb t7 t8 t9 t10 t11 t12 ga ca gb cc KK QQ KK QQ 0 0 0 0 0 0 0 0 0 0 0 0 y → Calls Tryz.prog 42 #[.slice (some ⟨ga, 0, none⟩) sa.n ca, .slice sa.p sa.n sa.c] y fun e w' => e = .returned (.bool true) ∧ Below y.heap.size y w') := Hn (fun y hy => mdStaysA hy)
    have C32 : Hid (∀ y, Md w0 m p x sa sb wh cb t7 t8 t9 t10 t11 t12 ga ca gb cc KK QQ KK QQ 0 0 0 0 0 0 0 0 0 0 0 0 y → Calls Tryz.prog 42 #[.slice (some ⟨gb, 0, none⟩) sb.n cc, .slice sb.p sb.n sb.c] y fun e w' => e = .returned (.bool true) ∧ Below y.heap.size y w') := Hn (fun y hy => mdStaysB hy)
    refine st15 _ w0 m p x sa sb wh cb t7 t8 t9 t10 t11 t12 ga ca gb cc KK QQ KK QQ 0 0 0 0 0 0 E _ _ _ _ _ _ _ _ _ _ _ _ _ _ _ _ _ _ _ _ _ _ _ _ _ _ _ _ _ _ _ _ _ _ _ _ _ _ _ _ _ _ _ _ _ _ _ _ _ _ _ _ _ _ _ _ _ _ _ _ _ _ _ _ _ _ _ _ _ _ _ _ _ _ _ _ _ _ _ _ _ _ _ _ _ _ _ _ _ _ _ _ _ _ _ _ _ _ _ _ _ _ _ _ _ _ _ _ _ _ _ _ _ _ _ _ _ _ _ _ _ _ _ _ _ _ _ _ _ _ _ _ _ _ _ _ _ _ _ _ _ _ _ _ _ _ _ _ _ _ _ _ _ _ _ _ _ _ _ _ _ _ _ _ _ _ _ _ _ _ _ _ _ _ _ _ _ _ _ _ _ _ MD.out C25 C32 (Hn ?_)
    intro wz hm
    obtain ⟨p2, hf⟩ := hm.fn
    have FN := Hn hf
    have NA := Hn hm.la.a.n
    have NB := Hn hm.lb.a.n
    clear hf hm C25 C32 MD
    go_upto_region 18 with fail
    go_loopw [15] (fun iv z => ∃ i : Nat, i ≤ sa.n ∧ iv = .int .i64 (i : Int) ∧ Hid (Fn w0 m p p2 x ga gb sa.n sb.n z)) (fun i _ => sa.n - (intOf i).toNat)
    case atStart => exact ⟨0, by omega, rfl, FN⟩
    case round =>
     clear FN
     obtain ⟨i, hi, rfl, hS⟩ := hrel
     by_cases hin : i < sa.n
     ·have i1 : (i : Int) < (sa.n : Int) := by omega
      have i0 : (0 : Int) ≤ (i : Int) := by omega
      have w9 : IntKind.i64.wrap ((i : Int) + 1) = (i : Int) + 1 := IntWalk.i64_in _ (by have := NA.out; have := NB.out; omega)
      have mk := hS.out.mr.keep hS.out.bel
      have m0 := mk.m0
      have m1 := mk.m1
      have m2 := mk.m2
      have m3 := mk.m3
      have m4 := mk.m4
      have m5 := mk.m5
      have TH := Hn (th_arr (o := i * 6) (k := 6) hS.out.ba (by omega))
      clear mk
      go_wp2_with (refine wpList_stA rfl 123 _ _ rfl ga (i * 6) [.int .i64 77, .int .i64 78, .int .u64 79, .int .u64 0, .int .u64 0, .int .u64 0] (by go_simp) rfl TH.out i6T (by simp [Value.oneCell']) rfl ?_; intro y2 hw; have NS := Hn (hS.out.put ga (by simp) (i * 6) [.int .i64 77, .int .i64 78, .int .u64 79, .int .u64 0, .int .u64 0, .int .u64 0]); rw [← hw] at NS; clear hw hS TH m0 m1 m2 m3 m4 m5)
      go_roundw
      case rel => exact ⟨i + 1, by omega, by go_num, NS⟩
      case measure => simp [intOf]; omega
     ·obtain rfl : i = sa.n := by omega
      have lq : ¬ (sa.n : Int) < (sa.n : Int) := by omega
      have FN := hS
      clear hS
      go_upto_region 22 with fail
      go_loopw [16] (fun iv z => ∃ i : Nat, i ≤ sb.n ∧ iv = .int .i64 (i : Int) ∧ Hid (Fn w0 m p p2 x ga gb sa.n sb.n z)) (fun i _ => sb.n - (intOf i).toNat)
      case atStart => exact ⟨0, by omega, rfl, FN⟩
      case round =>
       clear FN
       obtain ⟨i, hi, rfl, hS⟩ := hrel
       by_cases hin : i < sb.n
       ·have i1 : (i : Int) < (sb.n : Int) := by omega
        have i0 : (0 : Int) ≤ (i : Int) := by omega
        have w9 : IntKind.i64.wrap ((i : Int) + 1) = (i : Int) + 1 := IntWalk.i64_in _ (by have := NB.out; omega)
        have mk := hS.out.mr.keep hS.out.bel
        have m0 := mk.m0
        have m1 := mk.m1
        have m2 := mk.m2
        have m3 := mk.m3
        have m4 := mk.m4
        have m5 := mk.m5
        have TH := Hn (th_arr (o := i * 6) (k := 6) hS.out.bb (by omega))
        clear mk
        go_wp2_with (refine wpList_stA rfl 123 _ _ rfl gb (i * 6) [.int .i64 77, .int .i64 78, .int .u64 79, .int .u64 0, .int .u64 0, .int .u64 0] (by go_simp) rfl TH.out i6T (by simp [Value.oneCell']) rfl ?_; intro y2 hw; have NS := Hn (hS.out.put gb (by simp) (i * 6) [.int .i64 77, .int .i64 78, .int .u64 79, .int .u64 0, .int .u64 0, .int .u64 0]); rw [← hw] at NS; clear hw hS TH m0 m1 m2 m3 m4 m5)
        go_roundw
        case rel => exact ⟨i + 1, by omega, by go_num, NS⟩
        case measure => simp [intOf]; omega
       ·obtain rfl : i = sb.n := by omega
        have lq2 : ¬ (sb.n : Int) < (sb.n : Int) := by omega
        have FN := hS
        clear hS
        go_upto_region 25 with fail
        have E1 := FN.out.e
        obtain ⟨Pu, cu, hu, _, _⟩ := FN.out.pj.dy.shape
        have RQ : Hid (∀ y, Pj w0 m p2 y → Calls Tryz.prog 31 #[.pointer (some ⟨p2.s, 0, none⟩)] y fun e w' => e = .returned (.int .i64 (p2.Q.length : Int)) ∧ w' = y) := Hn (fun y hy => Requires_any hy.sy)
        rw [← E1.1]
        refine st25 _ w0 m p2 p2.Q.length cu Pu _ _ _ _ _ _ _ _ _ _ _ _ _ _ _ _ _ _ _ _ _ _ _ _ _ _ _ _ _ _ _ _ _ _ _ _ _ _ _ _ _ _ _ _ _ _ _ _ _ _ _ _ _ _ _ _ _ _ _ _ _ _ _ _ _ _ _ _ _ _ _ _ _ _ _ _ _ _ _ _ _ _ _ _ _ _ _ _ _ _ _ _ _ _ _ _ _ _ _ _ _ _ _ _ _ _ _ _ _ _ _ _ _ _ _ _ _ _ _ _ _ _ _ _ _ _ _ _ _ _ _ _ _ _ _ _ _ _ _ _ _ _ _ _ _ _ _ _ _ _ _ _ _ _ _ _ _ _ _ _ _ _ _ _ _ _ _ _ _ _ _ _ _ _ _ _ _ _ _ _ _ _ _ _ _ _ _ _ _ _ _ _ FN.out.pj (Hn hu) RQ (Hn ?_)
        intro wz hp hb
        have RS : Hid (StP w0 m p x (.returned (.bool true)) wz) := Hn ⟨rfl, p2, E1.1, E1.2.1, E1.2.2, hp, FN.out.gs.trans (Gs.bl hb) Sk.refl, FN.out.fv, FN.out.fu⟩
        clear hp hb RQ hu FN
        go_wp2_with fail
        exact bodyPost_ret (v := .bool true) (by simp [results, Tryz.results36, go_sem]) rfl RS.out
   ·have l1 : ¬ wh = 1 := h1
    have l2 : ¬ wh = 2 := h2
    have l3 : ¬ wh = 3 := h3
    obtain ⟨KK, hKK⟩ : ∃ K, p.K = K := ⟨_, rfl⟩
    obtain ⟨QQ, hQQ⟩ : ∃ Q, p.Q = Q := ⟨_, rfl⟩
    rw [hQQ, hKK] at MD
    clear hKK hQQ
    go_upto_region 15 with fail
    have C25 : Hid (∀ y, Md w0 m p x sa sb wh cb t7 t8 t9 t10 t11 t12 ga ca gb cc KK QQ KK QQ 0 0 0 0 0 0 0 0 0 0 0 0 y → Calls Tryz.prog 42 #[.slice (some ⟨ga, 0, none⟩) sa.n ca, .slice sa.p sa.n sa.c] y fun e w' => e = .returned (.bool true) ∧ Below y.heap.size y w') := Hn (fun y hy => mdStaysA hy)
    have C32 : Hid (∀ y, Md w0 m p x sa sb wh cb t7 t8 t9 t10 t11 t12 ga ca gb cc KK QQ KK QQ 0 0 0 0 0 0 0 0 0 0 0 0 y → Calls Tryz.prog 42 #[.slice (some ⟨gb, 0, none⟩) sb.n cc, .slice sb.p sb.n sb.c] y fun e w' => e = .returned (.bool true) ∧ Below y.heap.size y w') := Hn (fun y hy => mdStaysB hy)
    refine st15 _ w0 m p x sa sb wh cb t7 t8 t9 t10 t11 t12 ga ca gb cc KK QQ KK QQ 0 0 0 0 0 0 0 _ _ _ _ _ _ _ _ _ _ _ _ _ _ _ _ _ _ _ _ _ _ _ _ _ _ _ _ _ _ _ _ _ _ _ _ _ _ _ _ _ _ _ _ _ _ _ _ _ _ _ _ _ _ _ _ _ _ _ _ _ _ _ _ _ _ _ _ _ _ _ _ _ _ _ _ _ _ _ _ _ _ _ _ _ _ _ _ _ _ _ _ _ _ _ _ _ _ _ _ _ _ _ _ _ _ _ _ _ _ _ _ _ _ _ _ _ _ _ _ _ _ _ _ _ _ _ _ _ _ _ _ _ _ _ _ _ _ _ _ _ _ _ _ _ _ _ _ _ _ _ _ _ _ _ _ _ _ _ _ _ _ _ _ _ _ _ _ _ _ _ _ _ _ _ _ _ _ _ _ _ _ MD.out C25 C32 (Hn ?_)
    intro wz hm
    obtain ⟨p2, hf⟩ := hm.fn
    have FN := Hn hf
    have NA := Hn hm.la.a.n
    have NB := Hn hm.lb.a.n
    clear hf hm C25 C32 MD
    go_upto_region 18 with fail
    go_loopw [15] (fun iv z => ∃ i : Nat, i ≤ sa.n ∧ iv = .int .i64 (i : Int) ∧ Hid (Fn w0 m p p2 x ga gb sa.n sb.n z)) (fun i _ => sa.n - (intOf i).toNat)
    case atStart => exact ⟨0, by omega, rfl, FN⟩
    case round =>
     clear FN
     obtain ⟨i, hi, rfl, hS⟩ := hrel
     by_cases hin : i < sa.n
     ·have i1 : (i : Int) < (sa.n : Int) := by omega
      have i0 : (0 : Int) ≤ (i : Int) := by omega
      have w9 : IntKind.i64.wrap ((i : Int) + 1) = (i : Int) + 1 := IntWalk.i64_in _ (by have := NA.out; have := NB.out; omega)
      have mk := hS.out.mr.keep hS.out.bel
      have m0 := mk.m0
      have m1 := mk.m1
      have m2 := mk.m2
      have m3 := mk.m3
      have m4 := mk.m4
      have m5 := mk.m5
      have TH := Hn (th_arr (o := i * 6) (k := 6) hS.out.ba (by omega))
      clear mk
      go_wp2_with (refine wpList_stA rfl 123 _ _ rfl ga (i * 6) [.int .i64 77, .int .i64 78, .int .u64 79, .int .u64 0, .int .u64 0, .int .u64 0] (by go_simp) rfl TH.out i6T (by simp [Value.oneCell']) rfl ?_; intro y2 hw; have NS := Hn (hS.out.put ga (by simp) (i * 6) [.int .i64 77, .int .i64 78, .int .u64 79, .int .u64 0, .int .u64 0, .int .u64 0]); rw [← hw] at NS; clear hw hS TH m0 m1 m2 m3 m4 m5)
      go_roundw
      case rel => exact ⟨i + 1, by omega, by go_num, NS⟩
      case measure => simp [intOf]; omega
     ·obtain rfl : i = sa.n := by omega
      have lq : ¬ (sa.n : Int) < (sa.n : Int) := by omega
      have FN := hS
      clear hS
      go_upto_region 22 with fail
      go_loopw [16] (fun iv z => ∃ i : Nat, i ≤ sb.n ∧ iv = .int .i64 (i : Int) ∧ Hid (Fn w0 m p p2 x ga gb sa.n sb.n z)) (fun i _ => sb.n - (intOf i).toNat)
      case atStart => exact ⟨0, by omega, rfl, FN⟩
      case round =>
       clear FN
       obtain ⟨i, hi, rfl, hS⟩ := hrel
       by_cases hin : i < sb.n
       ·have i1 : (i : Int) < (sb.n : Int) := by omega
        have i0 : (0 : Int) ≤ (i : Int) := by omega
        have w9 : IntKind.i64.wrap ((i : Int) + 1) = (i : Int) + 1 := IntWalk.i64_in _ (by have := NB.out; omega)
        have mk := hS.out.mr.keep hS.out.bel
        have m0 := mk.m0
        have m1 := mk.m1
        have m2 := mk.m2
        have m3 := mk.m3
        have m4 := mk.m4
        have m5 := mk.m5
        have TH := Hn (th_arr (o := i * 6) (k := 6) hS.out.bb (by omega))
        clear mk
        go_wp2_with (refine wpList_stA rfl 123 _ _ rfl gb (i * 6) [.int .i64 77, .int .i64 78, .int .u64 79, .int .u64 0, .int .u64 0, .int .u64 0] (by go_simp) rfl TH.out i6T (by simp [Value.oneCell']) rfl ?_; intro y2 hw; have NS := Hn (hS.out.put gb (by simp) (i * 6) [.int .i64 77, .int .i64 78, .int .u64 79, .int .u64 0, .int .u64 0, .int .u64 0]); rw [← hw] at NS; clear hw hS TH m0 m1 m2 m3 m4 m5)
        go_roundw
        case rel => exact ⟨i + 1, by omega, by go_num, NS⟩
        case measure => simp [intOf]; omega
       ·obtain rfl : i = sb.n := by omega
        have lq2 : ¬ (sb.n : Int) < (sb.n : Int) := by omega
        have FN := hS
        clear hS
        go_upto_region 25 with fail
        have E1 := FN.out.e
        obtain ⟨Pu, cu, hu, _, _⟩ := FN.out.pj.dy.shape
        have RQ : Hid (∀ y, Pj w0 m p2 y → Calls Tryz.prog 31 #[.pointer (some ⟨p2.s, 0, none⟩)] y fun e w' => e = .returned (.int .i64 (p2.Q.length : Int)) ∧ w' = y) := Hn (fun y hy => Requires_any hy.sy)
        rw [← E1.1]
        refine st25 _ w0 m p2 p2.Q.length cu Pu _ _ _ _ _ _ _ _ _ _ _ _ _ _ _ _ _ _ _ _ _ _ _ _ _ _ _ _ _ _ _ _ _ _ _ _ _ _ _ _ _ _ _ _ _ _ _ _ _ _ _ _ _ _ _ _ _ _ _ _ _ _ _ _ _ _ _ _ _ _ _ _ _ _ _ _ _ _ _ _ _ _ _ _ _ _ _ _ _ _ _ _ _ _ _ _ _ _ _ _ _ _ _ _ _ _ _ _ _ _ _ _ _ _ _ _ _ _ _ _ _ _ _ _ _ _ _ _ _ _ _ _ _ _ _ _ _ _ _ _ _ _ _ _ _ _ _ _ _ _ _ _ _ _ _ _ _ _ _ _ _ _ _ _ _ _ _ _ _ _ _ _ _ _ _ _ _ _ _ _ _ _ _ _ _ _ _ _ _ _ _ _ FN.out.pj (Hn hu) RQ (Hn ?_)
        intro wz hp hb
        have RS : Hid (StP w0 m p x (.returned (.bool true)) wz) := Hn ⟨rfl, p2, E1.1, E1.2.1, E1.2.2, hp, FN.out.gs.trans (Gs.bl hb) Sk.refl, FN.out.fv, FN.out.fu⟩
        clear hp hb RQ hu FN
        go_wp2_with fail
        exact bodyPost_ret (v := .bool true) (by simp [results, Tryz.results36, go_sem]) rfl RS.out
end Ci
end Go.Proofs.YtghcfcglakbkeaaGreatDoor
