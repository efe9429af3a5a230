import Derived.Test.YtghcfcglakbkeaaGreatDoorCsbz
namespace Go.Proofs.YtghcfcglakbkeaaGreatDoor
open Go.RowKit
set_option linter.unusedVariables false
set_option linter.unusedSimpArgs false
open Cm (Wr Tm co bf Ls lf ins Eqm)
namespace Ci
set_option maxRecDepth 100000
set_option maxHeartbeats 4000000
theorem six_any (a b c d e f : Int) : ∀ u ∈ ([.int .i64 a, .int .i64 b, .int .u64 c, .int .u64 d, .int .u64 e, .int .u64 f] : List Value), u.oneCell' = true := by
 intro v hv
 simp only [List.mem_cons, List.not_mem_nil, or_false] at hv
 rcases hv with rfl | rfl | rfl | rfl | rfl | rfl <;> rfl
theorem ft_atC {X : List Tm} {i : Nat} {x : Tm} (h : X[i]? = some x) : ft X i = tmOf x := by
 unfold ft
 rw [List.getD_eq_getElem?_getD, h]
 rfl
theorem put_any (P : Option Addr) (c : Nat) (X : List Tm) (q : Wr) (m : Int) (w : World) (hn : X.length ≤ 2932031007400) (hL : Lt w P X.length (ft X)) :
  Calls Tryz.prog 99 #[.slice P X.length c, .agg #[.int .i64 q.1, .int .i64 q.2, .int .u64 (lst m).x0, .int .u64 (lst m).x1, .int .u64 (lst m).x2, .int .u64 (lst m).x3]] w fun e w' => ∃ v, e = .returned v ∧ Dl w (ins Sm.L X (q, m)) v w' := by
 have HI : Hid ((Tryz.prog.info? 116) = some (Tryz.prog.info? 116).get!) := Hn (by kernel_rfl)
 have HZ0 : Hid ((Tryz.prog.info? 116).get!.zero = some (.agg #[.int .i64 0, .int .i64 0, .int .u64 0, .int .u64 0, .int .u64 0, .int .u64 0])) := Hn (by kernel_rfl)
 have HZ1 : Hid ((Tryz.prog.info? 116).get!.size = 6) := Hn (by kernel_rfl)
 have HZ2 : Hid ((Tryz.prog.info? 116).get!.bytes = 48) := Hn (by kernel_rfl)
 have T1 : Hid (Tryz.prog.underlying 72 = some (.slice 116)) := Hn (by kernel_rfl)
 have P0 := Hn (Pb.begin w q (lst m))
 have IZm := fun y => rIsZero_any (lst m) y
 rw [same_zeroR] at IZm
 simp only [E4.v] at IZm
 replace IZm := Hn IZm
 have ADm := Hn (fun a y => rAdd_any a m y)
 simp only [E4.v] at ADm
 obtain ⟨qk, qi⟩ := q
 simp only at P0 ⊢
 obtain ⟨k, hk⟩ : ∃ k, lst m = k := ⟨_, rfl⟩
 have TM : Hid (tmOf ((qk, qi), m % Sm.L) = ⟨(qk, qi), k⟩) := Hn (by rw [tm_mod, hk])
 rw [hk] at IZm ADm P0 ⊢
 have HS := Hn hn
 have HL := Hn hL
 obtain ⟨R, hR⟩ : ∃ R, ins Sm.L X ((qk, qi), m) = R := ⟨_, rfl⟩
 have E0 : Hid (([] : List Tm) ++ Rs false X 0 ((qk, qi), m) = R) := Hn (by rw [← hR]; simp [Rs])
 rw [hR]
 clear hR hk hn hL
 have HB0 := Hn (bl_alloc w (.cells #[.int .i64 qk, .int .i64 qi, .int .u64 k.x0, .int .u64 k.x1, .int .u64 k.x2, .int .u64 k.x3] 116))
 go_enter Tryz.func99, Tryz.ntmps99
 go_upto_region 4 with fail
 generalize w.alloc (.cells #[.int .i64 qk, .int .i64 qi, .int .u64 k.x0, .int .u64 k.x1, .int .u64 k.x2, .int .u64 k.x3] 116) = w1 at *
 go_loopw [5, 6, 7] (fun v dv iv w' => ∃ (i : Nat) (dn : Bool) (K : E4) (out : List Tm), i ≤ X.length ∧ out.length ≤ i + 1 ∧ dv = .bool dn ∧ iv = .int .i64 (i : Int) ∧ Hid (Pb w (qk, qi) K v out w' ∧ (dn = false → K = k ∧ out.length ≤ i) ∧ out ++ Rs dn X i ((qk, qi), m) = R)) (fun _ _ i _ => X.length - (intOf i).toNat)
 case atStart => exact ⟨0, false, k, [], by omega, by simp, rfl, rfl, Hn ⟨P0.out, fun _ => ⟨rfl, by simp⟩, E0.out⟩⟩
 case round =>
  clear P0 E0
  obtain ⟨i, dn, K, out, hi, ho, rfl, rfl, hP⟩ := hrel
  have HO := Hn ho
  by_cases hin : i < X.length
  ·have i1 : (i : Int) < (X.length : Int) := by omega
   have i0 : (0 : Int) ≤ (i : Int) := by omega
   have w9 : IntKind.i64.wrap ((i : Int) + 1) = (i : Int) + 1 := IntWalk.i64_in _ (by have := HS.out; omega)
   obtain ⟨sb, so, hPs, hRt⟩ := HL.out
   obtain rfl := hPs (by omega)
   have rt := (hRt (by omega))
   have LW := Hn (rt.keep (Below.refl _ _))
   obtain ⟨x, hx⟩ : ∃ x, X[i]? = some x := ⟨X[i], by simp [hin]⟩
   have HX := Hn hx
   have fx := ft_atC hx
   have hb := hP.out.1.bel
   have a0 := cell_keep (rt.c0 i hin) hb
   have a1 := cell_keep (rt.c1 i hin) hb
   have a2 := cell_keep (rt.c2 i hin) hb
   have a3 := cell_keep (rt.c3 i hin) hb
   have a4 := cell_keep (rt.c4 i hin) hb
   have a5 := cell_keep (rt.c5 i hin) hb
   rw [fx] at a0 a1 a2 a3 a4 a5
   have NE : sb ≠ w.heap.size := by
    have := World.block_lt_of_cell? w _ (rt.c0 i hin)
    simp only at this
    omega
   have NS : Hid (sb < w.heap.size) := Hn (World.block_lt_of_cell? w _ (rt.c0 i hin))
   clear rt hRt hPs fx hb LW hx
   simp only [tmOf] at a0 a1 a2 a3 a4 a5
   have b0 := hP.out.1.c0
   have b1 := hP.out.1.c1
   simp only at b0 b1
   obtain ⟨⟨xk, xi⟩, xm⟩ := x
   simp only at a0 a1 a2 a3 a4 a5
   obtain ⟨p, hp⟩ : ∃ p, lst xm = p := ⟨_, rfl⟩
   rw [hp] at a2 a3 a4 a5
   have TX : Hid ((tmOf ((xk, xi), xm)).cs = [.int .i64 xk, .int .i64 xi, .int .u64 p.x0, .int .u64 p.x1, .int .u64 p.x2, .int .u64 p.x3]) := Hn (by unfold tmOf; rw [hp]; rfl)
   cases dn with
   | true =>
    clear IZm ADm TM hp b0 b1
    go_upto_region 6 with fail
    refine pt6t _ sb so X.length c w.heap.size i _ _ _ _ _ _ _ _ _ _ _ _ _ _ _ _ _ _ _ _ _ _ _ _ _ _ _ _ _ _ _ _ _ _ _ _ _ _ _ _ _ _ _ _ _ _ _ _ _ _ _ _ _ _ _ _ _ _ _ _ _ _ _ _ _ _ _ _ _ _ _ _ _ _ _ _ _ _ _ wr (Hn ?_)
    intro w2 hb2
    have B2 := Hn hb2
    clear hb2
    go_upto_region 11 with fail
    refine pt11t _ sb so X.length c w.heap.size i _ _ _ _ _ _ _ _ _ _ _ _ _ _ _ _ _ _ _ _ _ _ _ _ _ _ _ _ _ _ _ _ _ _ _ _ _ _ _ _ _ _ _ _ _ _ _ _ _ _ _ _ _ _ _ _ _ _ _ _ _ _ _ _ _ _ _ _ _ _ _ _ _ _ _ _ _ _ _ w2 (Hn ?_)
    intro w3 hb3
    have B3 := Hn (bl_trans B2.out hb3)
    have a0 := cell_keep a0 B3.out
    have a1 := cell_keep a1 B3.out
    have a2 := cell_keep a2 B3.out
    have a3 := cell_keep a3 B3.out
    have a4 := cell_keep a4 B3.out
    have a5 := cell_keep a5 B3.out
    have P3 := Hn (hP.out.1.keep B3.out)
    have E3 := Hn hP.out.2.2
    clear hb3 B2 B3 hP
    go_wp2_with (first | (at_builtin; have x1 := own_keepT P3.out.own (bl_alloc w3 (.cells #[.int .i64 xk, .int .i64 xi, .int .u64 p.x0, .int .u64 p.x1, .int .u64 p.x2, .int .u64 p.x3] 116)); have x2 := cells_newT w3 [.int .i64 xk, .int .i64 xi, .int .u64 p.x0, .int .u64 p.x1, .int .u64 p.x2, .int .u64 p.x3] 116; have x4 : out.length + 1 ≤ maxLen := (by unfold maxLen; have := HS.out; have := HO.out; simp; omega); have x5 : (out.length + 1) * 48 ≤ 140737488355328 := (by have := HS.out; have := HO.out; simp; omega); have x6 : w.heap.size + 1 ≤ (w3.alloc (.cells #[.int .i64 xk, .int .i64 xi, .int .u64 p.x0, .int .u64 p.x1, .int .u64 p.x2, .int .u64 p.x3] 116)).heap.size := (by have := P3.out.sz; simp; omega); refine wpList_append_own_at _ rfl _ _ 72 rfl (w.heap.size + 1) 116 _ _ 6 48 T1.out HI.out HZ0.out HZ1.out HZ2.out rfl (by decide) _ out.length (tls out) rfl x1 ⟨w3.heap.size, 0, none⟩ 1 1 [.int .i64 xk, .int .i64 xi, .int .u64 p.x0, .int .u64 p.x1, .int .u64 p.x2, .int .u64 p.x3] rfl rfl x2 (six_any _ _ _ _ _ _) x4 x5 x6 ?_; intro v4 w4 ho hg _ _; have O4 := Hn ho; have G4 := Hn hg; clear ho hg x1 x2 x4 x5 x6))
    have PN := Hn (P3.out.app (bl_alloc w3 (.cells #[.int .i64 xk, .int .i64 xi, .int .u64 p.x0, .int .u64 p.x1, .int .u64 p.x2, .int .u64 p.x3] 116)) G4.out (by rw [TX.out]; exact O4.out))
    have EN := Hn (Rs.done HX.out _ _ E3.out)
    clear O4 G4 P3 E3
    go_roundw
    case rel => exact ⟨i + 1, true, K, out ++ [((xk, xi), xm)], by omega, by have := HO.out; simp; omega, rfl, by go_num, Hn ⟨PN.out, fun h => absurd h (by decide), EN.out⟩⟩
    case measure => simp [intOf]; omega
   | false =>
    obtain ⟨rfl, ho2⟩ := hP.out.2.1 rfl
    have AX := ADm.out xm
    rw [hp] at AX
    obtain ⟨r, hr⟩ : ∃ r, lst (xm + m) = r := ⟨_, rfl⟩
    rw [hr] at AX
    replace AX := Hn AX
    clear ADm
    by_cases hq : (xk, xi) = (qk, qi)
    ·have EQ : Hid (true = decide ((xk, xi) = (qk, qi))) := Hn (by rw [decide_eq_true hq])
     go_upto_region 6 with fail
     refine pt6f _ sb so X.length c w.heap.size i qk qi xk xi true _ _ _ _ _ _ _ _ _ _ _ _ _ _ _ _ _ _ _ _ _ _ _ _ _ _ _ _ _ _ _ _ _ _ _ _ _ _ _ _ _ _ _ _ _ _ _ _ _ _ _ _ _ _ _ _ _ _ _ _ _ _ _ _ _ _ _ _ _ _ _ _ _ _ _ _ _ _ _ wr i0 i1 b0 b1 a0 a1 EQ (Hn ?_)
     intro w2 hb2
     have P2 := Hn (hP.out.1.keep hb2)
     have E2 := Hn hP.out.2.2
     have a0 := cell_keep a0 hb2
     have a1 := cell_keep a1 hb2
     have a2 := cell_keep a2 hb2
     have a3 := cell_keep a3 hb2
     have a4 := cell_keep a4 hb2
     have a5 := cell_keep a5 hb2
     clear hb2 hP b0 b1 IZm TM EQ
     go_upto_region 7 with fail
     refine pt7 _ sb so X.length c w.heap.size i p K r _ _ _ _ _ _ _ _ _ _ _ _ _ _ _ _ _ _ _ _ _ _ _ _ _ _ _ _ _ _ _ _ _ _ _ _ _ _ _ _ _ _ _ _ _ _ _ _ _ _ _ _ _ _ _ _ _ _ _ _ _ _ _ _ _ _ _ _ _ _ _ _ _ _ _ _ _ _ _ _ w2 i0 i1 NE P2.out.r1 P2.out.th a2 a3 a4 a5 AX (Hn ?_)
     intro w3 hz3
     have P3 := Hn (P2.out.set hz3)
     clear hz3 P2 a0 a1 a2 a3 a4 a5 AX
     have IZr := fun y => rIsZero_any (lst (xm + m)) y
     rw [same_zeroR, hr] at IZr
     simp only [E4.v] at IZr
     have TR : Hid ((tmOf ((qk, qi), (xm + m) % Sm.L)).cs = [.int .i64 qk, .int .i64 qi, .int .u64 r.x0, .int .u64 r.x1, .int .u64 r.x2, .int .u64 r.x3]) := Hn (by rw [tm_mod, hr]; rfl)
     have d0 := P3.out.c0
     have d1 := P3.out.c1
     have d2 := P3.out.c2
     have d3 := P3.out.c3
     have d4 := P3.out.c4
     have d5 := P3.out.c5
     simp only at d0 d1
     by_cases hz : (xm + m) % Sm.L = 0
     ·have EN := Hn (Rs.same0 HX.out hq hz _ _ E2.out)
      rw [decide_eq_true hz] at IZr
      replace IZr := Hn IZr
      go_wp2_with (first | (go_at_call 82; refine (IZr.out _).mono ?_; rintro e w4 ⟨rfl, hb⟩; have B4 := Hn hb; clear hb))
      have PN := Hn (P3.out.keep B4.out)
      clear P3 B4
      go_roundw
      case rel => exact ⟨i + 1, true, r, out, by omega, by have := HO.out; simp; omega, rfl, by go_num, Hn ⟨PN.out, fun h => absurd h (by decide), EN.out⟩⟩
      case measure => simp [intOf]; omega
     ·have EN := Hn (Rs.same1 HX.out hq hz _ _ E2.out)
      rw [decide_eq_false hz] at IZr
      replace IZr := Hn IZr
      go_wp2_with (first | (go_at_call 82; refine (IZr.out _).mono ?_; rintro e w4 ⟨rfl, hb⟩; have d0 := cell_keep d0 hb; have d1 := cell_keep d1 hb; have d2 := cell_keep d2 hb; have d3 := cell_keep d3 hb; have d4 := cell_keep d4 hb; have d5 := cell_keep d5 hb; have B4 := Hn hb; clear hb) | (at_builtin; have x1 := own_keepT P3.out.own (bl_trans B4.out (bl_alloc w4 (.cells #[.int .i64 qk, .int .i64 qi, .int .u64 r.x0, .int .u64 r.x1, .int .u64 r.x2, .int .u64 r.x3] 116))); have x2 := cells_newT w4 [.int .i64 qk, .int .i64 qi, .int .u64 r.x0, .int .u64 r.x1, .int .u64 r.x2, .int .u64 r.x3] 116; have x4 : out.length + 1 ≤ maxLen := (by unfold maxLen; have := HS.out; have := HO.out; simp; omega); have x5 : (out.length + 1) * 48 ≤ 140737488355328 := (by have := HS.out; have := HO.out; simp; omega); have x6 : w.heap.size + 1 ≤ (w4.alloc (.cells #[.int .i64 qk, .int .i64 qi, .int .u64 r.x0, .int .u64 r.x1, .int .u64 r.x2, .int .u64 r.x3] 116)).heap.size := (by have := Nat.le_trans P3.out.sz B4.out.size; simp; omega); refine wpList_append_own_at _ rfl _ _ 72 rfl (w.heap.size + 1) 116 _ _ 6 48 T1.out HI.out HZ0.out HZ1.out HZ2.out rfl (by decide) _ out.length (tls out) rfl x1 ⟨w4.heap.size, 0, none⟩ 1 1 [.int .i64 qk, .int .i64 qi, .int .u64 r.x0, .int .u64 r.x1, .int .u64 r.x2, .int .u64 r.x3] rfl rfl x2 (six_any _ _ _ _ _ _) x4 x5 x6 ?_; intro v5 w5 ho hg _ _; have O5 := Hn ho; have G5 := Hn hg; clear ho hg x1 x2 x4 x5 x6))
      have PN := Hn (P3.out.app (y := ((qk, qi), (xm + m) % Sm.L)) (bl_trans B4.out (bl_alloc w4 (.cells #[.int .i64 qk, .int .i64 qi, .int .u64 r.x0, .int .u64 r.x1, .int .u64 r.x2, .int .u64 r.x3] 116))) G5.out (by rw [TR.out]; exact O5.out))
      clear P3 B4 O5 G5 d0 d1 d2 d3 d4 d5
      go_roundw
      case rel => exact ⟨i + 1, true, r, out ++ [((qk, qi), (xm + m) % Sm.L)], by omega, by have := HO.out; simp; omega, rfl, by go_num, Hn ⟨PN.out, fun h => absurd h (by decide), EN.out⟩⟩
      case measure => simp [intOf]; omega
    ·have EQ : Hid (false = decide ((xk, xi) = (qk, qi))) := Hn (by rw [decide_eq_false hq])
     clear AX
     have CB := Hn (fun y => before_any (qk, qi) (xk, xi) y)
     simp only at CB
     go_upto_region 6 with fail
     refine pt6f _ sb so X.length c w.heap.size i qk qi xk xi false _ _ _ _ _ _ _ _ _ _ _ _ _ _ _ _ _ _ _ _ _ _ _ _ _ _ _ _ _ _ _ _ _ _ _ _ _ _ _ _ _ _ _ _ _ _ _ _ _ _ _ _ _ _ _ _ _ _ _ _ _ _ _ _ _ _ _ _ _ _ _ _ _ _ _ _ _ _ _ wr i0 i1 b0 b1 a0 a1 EQ (Hn ?_)
     intro w2 hb2
     have P2 := Hn (hP.out.1.keep hb2)
     have E2 := Hn hP.out.2.2
     have a0 := cell_keep a0 hb2
     have a1 := cell_keep a1 hb2
     have a2 := cell_keep a2 hb2
     have a3 := cell_keep a3 hb2
     have a4 := cell_keep a4 hb2
     have a5 := cell_keep a5 hb2
     have b0 := cell_keep b0 hb2
     have b1 := cell_keep b1 hb2
     clear hb2 hP EQ
     go_upto_region 11 with fail
     by_cases hbf : bf (qk, qi) (xk, xi) = true
     ·rw [hbf] at CB
      refine pt11 _ sb so X.length c w.heap.size i qk qi xk xi true _ _ _ _ _ _ _ _ _ _ _ _ _ _ _ _ _ _ _ _ _ _ _ _ _ _ _ _ _ _ _ _ _ _ _ _ _ _ _ _ _ _ _ _ _ _ _ _ _ _ _ _ _ _ _ _ _ _ _ _ _ _ _ _ _ _ _ _ _ _ _ _ _ _ _ _ _ _ _ w2 i0 i1 b0 b1 a0 a1 CB (Hn ?_)
      intro w3 hb3
      have P3 := Hn (P2.out.keep hb3)
      have a0 := cell_keep a0 hb3
      have a1 := cell_keep a1 hb3
      have a2 := cell_keep a2 hb3
      have a3 := cell_keep a3 hb3
      have a4 := cell_keep a4 hb3
      have a5 := cell_keep a5 hb3
      clear hb3 P2 b0 b1 CB
      have d0 := P3.out.c0
      have d1 := P3.out.c1
      have d2 := P3.out.c2
      have d3 := P3.out.c3
      have d4 := P3.out.c4
      have d5 := P3.out.c5
      simp only at d0 d1
      by_cases hz : m % Sm.L = 0
      ·have EN := Hn (Rs.bef0 HX.out hq hbf hz _ _ E2.out)
       rw [decide_eq_true hz] at IZm
       go_wp2_with (first | (go_at_call 82; refine (IZm.out _).mono ?_; rintro e w4 ⟨rfl, hb⟩; have a0 := cell_keep a0 hb; have a1 := cell_keep a1 hb; have a2 := cell_keep a2 hb; have a3 := cell_keep a3 hb; have a4 := cell_keep a4 hb; have a5 := cell_keep a5 hb; have B4 := Hn hb; clear hb) | (at_builtin; have x1 := own_keepT P3.out.own (bl_trans B4.out (bl_alloc w4 (.cells #[.int .i64 xk, .int .i64 xi, .int .u64 p.x0, .int .u64 p.x1, .int .u64 p.x2, .int .u64 p.x3] 116))); have x2 := cells_newT w4 [.int .i64 xk, .int .i64 xi, .int .u64 p.x0, .int .u64 p.x1, .int .u64 p.x2, .int .u64 p.x3] 116; have x4 : out.length + 1 ≤ maxLen := (by unfold maxLen; have := HS.out; have := HO.out; simp; omega); have x5 : (out.length + 1) * 48 ≤ 140737488355328 := (by have := HS.out; have := HO.out; simp; omega); have x6 : w.heap.size + 1 ≤ (w4.alloc (.cells #[.int .i64 xk, .int .i64 xi, .int .u64 p.x0, .int .u64 p.x1, .int .u64 p.x2, .int .u64 p.x3] 116)).heap.size := (by have := Nat.le_trans P3.out.sz B4.out.size; simp; omega); refine wpList_append_own_at _ rfl _ _ 72 rfl (w.heap.size + 1) 116 _ _ 6 48 T1.out HI.out HZ0.out HZ1.out HZ2.out rfl (by decide) _ out.length (tls out) rfl x1 ⟨w4.heap.size, 0, none⟩ 1 1 [.int .i64 xk, .int .i64 xi, .int .u64 p.x0, .int .u64 p.x1, .int .u64 p.x2, .int .u64 p.x3] rfl rfl x2 (six_any _ _ _ _ _ _) x4 x5 x6 ?_; intro v5 w5 ho hg _ _; have O5 := Hn ho; have G5 := Hn hg; clear ho hg x1 x2 x4 x5 x6))
       have PN := Hn (P3.out.app (y := ((xk, xi), xm)) (bl_trans B4.out (bl_alloc w4 (.cells #[.int .i64 xk, .int .i64 xi, .int .u64 p.x0, .int .u64 p.x1, .int .u64 p.x2, .int .u64 p.x3] 116))) G5.out (by rw [TX.out]; exact O5.out))
       clear P3 B4 O5 G5 d0 d1 d2 d3 d4 d5
       go_roundw
       case rel => exact ⟨i + 1, true, K, out ++ [((xk, xi), xm)], by omega, by have := HO.out; simp; omega, rfl, by go_num, Hn ⟨PN.out, fun h => absurd h (by decide), EN.out⟩⟩
       case measure => simp [intOf]; omega
      ·have EN := Hn (Rs.bef1 HX.out hq hbf hz _ _ E2.out)
       rw [decide_eq_false hz] at IZm
       have TK : Hid ((tmOf ((qk, qi), m % Sm.L)).cs = [.int .i64 qk, .int .i64 qi, .int .u64 K.x0, .int .u64 K.x1, .int .u64 K.x2, .int .u64 K.x3]) := Hn (by rw [TM.out]; rfl)
       go_upto_region 15 with (first | (go_at_call 82; refine (IZm.out _).mono ?_; rintro e w4 ⟨rfl, hb⟩; have d0 := cell_keep d0 hb; have d1 := cell_keep d1 hb; have d2 := cell_keep d2 hb; have d3 := cell_keep d3 hb; have d4 := cell_keep d4 hb; have d5 := cell_keep d5 hb; have a0 := cell_keep a0 hb; have a1 := cell_keep a1 hb; have a2 := cell_keep a2 hb; have a3 := cell_keep a3 hb; have a4 := cell_keep a4 hb; have a5 := cell_keep a5 hb; have B4 := Hn hb; clear hb) | (at_builtin; have x1 := own_keepT P3.out.own (bl_trans B4.out (bl_alloc w4 (.cells #[.int .i64 qk, .int .i64 qi, .int .u64 K.x0, .int .u64 K.x1, .int .u64 K.x2, .int .u64 K.x3] 116))); have x2 := cells_newT w4 [.int .i64 qk, .int .i64 qi, .int .u64 K.x0, .int .u64 K.x1, .int .u64 K.x2, .int .u64 K.x3] 116; have x4 : out.length + 1 ≤ maxLen := (by unfold maxLen; have := HS.out; have := HO.out; simp; omega); have x5 : (out.length + 1) * 48 ≤ 140737488355328 := (by have := HS.out; have := HO.out; simp; omega); have x6 : w.heap.size + 1 ≤ (w4.alloc (.cells #[.int .i64 qk, .int .i64 qi, .int .u64 K.x0, .int .u64 K.x1, .int .u64 K.x2, .int .u64 K.x3] 116)).heap.size := (by have := Nat.le_trans P3.out.sz B4.out.size; simp; omega); refine wpList_append_own_at _ rfl _ _ 72 rfl (w.heap.size + 1) 116 _ _ 6 48 T1.out HI.out HZ0.out HZ1.out HZ2.out rfl (by decide) _ out.length (tls out) rfl x1 ⟨w4.heap.size, 0, none⟩ 1 1 [.int .i64 qk, .int .i64 qi, .int .u64 K.x0, .int .u64 K.x1, .int .u64 K.x2, .int .u64 K.x3] rfl rfl x2 (six_any _ _ _ _ _ _) x4 x5 x6 ?_; intro v5 w5 ho hg _ _; have O5 := Hn ho; have G5 := Hn hg; clear ho hg x1 x2 x4 x5 x6))
       have PM := Hn (P3.out.app (y := ((qk, qi), m % Sm.L)) (bl_trans B4.out (bl_alloc w4 (.cells #[.int .i64 qk, .int .i64 qi, .int .u64 K.x0, .int .u64 K.x1, .int .u64 K.x2, .int .u64 K.x3] 116))) G5.out (by rw [TK.out]; exact O5.out))
       have NB : some sb ≠ Value.ownBlock u5 := fun e => by
        have h1 := (P3.out.own.lt _ e.symm).1
        have h2 := NS.out
        omega
       have a0 := G5.out.cell (cell_keep a0 (bl_alloc w4 (.cells #[.int .i64 qk, .int .i64 qi, .int .u64 K.x0, .int .u64 K.x1, .int .u64 K.x2, .int .u64 K.x3] 116))) NB
       have a1 := G5.out.cell (cell_keep a1 (bl_alloc w4 (.cells #[.int .i64 qk, .int .i64 qi, .int .u64 K.x0, .int .u64 K.x1, .int .u64 K.x2, .int .u64 K.x3] 116))) NB
       have a2 := G5.out.cell (cell_keep a2 (bl_alloc w4 (.cells #[.int .i64 qk, .int .i64 qi, .int .u64 K.x0, .int .u64 K.x1, .int .u64 K.x2, .int .u64 K.x3] 116))) NB
       have a3 := G5.out.cell (cell_keep a3 (bl_alloc w4 (.cells #[.int .i64 qk, .int .i64 qi, .int .u64 K.x0, .int .u64 K.x1, .int .u64 K.x2, .int .u64 K.x3] 116))) NB
       have a4 := G5.out.cell (cell_keep a4 (bl_alloc w4 (.cells #[.int .i64 qk, .int .i64 qi, .int .u64 K.x0, .int .u64 K.x1, .int .u64 K.x2, .int .u64 K.x3] 116))) NB
       have a5 := G5.out.cell (cell_keep a5 (bl_alloc w4 (.cells #[.int .i64 qk, .int .i64 qi, .int .u64 K.x0, .int .u64 K.x1, .int .u64 K.x2, .int .u64 K.x3] 116))) NB
       clear P3 B4 O5 G5 d0 d1 d2 d3 d4 d5 NB
       obtain ⟨out2, hO2⟩ : ∃ o2, out ++ [((qk, qi), m % Sm.L)] = o2 := ⟨_, rfl⟩
       have hl2 : out2.length ≤ i + 1 := by rw [← hO2]; simp; omega
       rw [hO2] at PM EN
       replace HO := Hn hl2
       clear hO2 hl2 ho ho2
       go_wp2_with (first | (at_builtin; have x1 := own_keepT PM.out.own (bl_alloc w5 (.cells #[.int .i64 xk, .int .i64 xi, .int .u64 p.x0, .int .u64 p.x1, .int .u64 p.x2, .int .u64 p.x3] 116)); have x2 := cells_newT w5 [.int .i64 xk, .int .i64 xi, .int .u64 p.x0, .int .u64 p.x1, .int .u64 p.x2, .int .u64 p.x3] 116; have x4 : out2.length + 1 ≤ maxLen := (by unfold maxLen; have := HS.out; have := HO.out; simp; omega); have x5 : (out2.length + 1) * 48 ≤ 140737488355328 := (by have := HS.out; have := HO.out; simp; omega); have x6 : w.heap.size + 1 ≤ (w5.alloc (.cells #[.int .i64 xk, .int .i64 xi, .int .u64 p.x0, .int .u64 p.x1, .int .u64 p.x2, .int .u64 p.x3] 116)).heap.size := (by have := PM.out.sz; simp; omega); refine wpList_append_own_at _ rfl _ _ 72 rfl (w.heap.size + 1) 116 _ _ 6 48 T1.out HI.out HZ0.out HZ1.out HZ2.out rfl (by decide) _ out2.length (tls out2) rfl x1 ⟨w5.heap.size, 0, none⟩ 1 1 [.int .i64 xk, .int .i64 xi, .int .u64 p.x0, .int .u64 p.x1, .int .u64 p.x2, .int .u64 p.x3] rfl rfl x2 (six_any _ _ _ _ _ _) x4 x5 x6 ?_; intro v6 w6 ho hg _ _; have O6 := Hn ho; have G6 := Hn hg; clear ho hg x1 x2 x4 x5 x6))
       have PN := Hn (PM.out.app (y := ((xk, xi), xm)) (bl_alloc w5 (.cells #[.int .i64 xk, .int .i64 xi, .int .u64 p.x0, .int .u64 p.x1, .int .u64 p.x2, .int .u64 p.x3] 116)) G6.out (by rw [TX.out]; exact O6.out))
       clear PM O6 G6
       go_roundw
       case rel => exact ⟨i + 1, true, K, out2 ++ [((xk, xi), xm)], by omega, by have := HO.out; simp; omega, rfl, by go_num, Hn ⟨PN.out, fun h => absurd h (by decide), EN.out⟩⟩
       case measure => simp [intOf]; omega
     ·have hbf' : bf (qk, qi) (xk, xi) = false := by simpa using hbf
      have EN := Hn (Rs.aft HX.out hq hbf' _ _ E2.out)
      rw [hbf'] at CB
      refine pt11 _ sb so X.length c w.heap.size i qk qi xk xi false _ _ _ _ _ _ _ _ _ _ _ _ _ _ _ _ _ _ _ _ _ _ _ _ _ _ _ _ _ _ _ _ _ _ _ _ _ _ _ _ _ _ _ _ _ _ _ _ _ _ _ _ _ _ _ _ _ _ _ _ _ _ _ _ _ _ _ _ _ _ _ _ _ _ _ _ _ _ _ w2 i0 i1 b0 b1 a0 a1 CB (Hn ?_)
      intro w3 hb3
      have P3 := Hn (P2.out.keep hb3)
      have a0 := cell_keep a0 hb3
      have a1 := cell_keep a1 hb3
      have a2 := cell_keep a2 hb3
      have a3 := cell_keep a3 hb3
      have a4 := cell_keep a4 hb3
      have a5 := cell_keep a5 hb3
      clear hb3 P2 b0 b1 CB IZm
      go_wp2_with (first | (at_builtin; have x1 := own_keepT P3.out.own (bl_alloc w3 (.cells #[.int .i64 xk, .int .i64 xi, .int .u64 p.x0, .int .u64 p.x1, .int .u64 p.x2, .int .u64 p.x3] 116)); have x2 := cells_newT w3 [.int .i64 xk, .int .i64 xi, .int .u64 p.x0, .int .u64 p.x1, .int .u64 p.x2, .int .u64 p.x3] 116; have x4 : out.length + 1 ≤ maxLen := (by unfold maxLen; have := HS.out; have := HO.out; simp; omega); have x5 : (out.length + 1) * 48 ≤ 140737488355328 := (by have := HS.out; have := HO.out; simp; omega); have x6 : w.heap.size + 1 ≤ (w3.alloc (.cells #[.int .i64 xk, .int .i64 xi, .int .u64 p.x0, .int .u64 p.x1, .int .u64 p.x2, .int .u64 p.x3] 116)).heap.size := (by have := P3.out.sz; simp; omega); refine wpList_append_own_at _ rfl _ _ 72 rfl (w.heap.size + 1) 116 _ _ 6 48 T1.out HI.out HZ0.out HZ1.out HZ2.out rfl (by decide) _ out.length (tls out) rfl x1 ⟨w3.heap.size, 0, none⟩ 1 1 [.int .i64 xk, .int .i64 xi, .int .u64 p.x0, .int .u64 p.x1, .int .u64 p.x2, .int .u64 p.x3] rfl rfl x2 (six_any _ _ _ _ _ _) x4 x5 x6 ?_; intro v5 w5 ho hg _ _; have O5 := Hn ho; have G5 := Hn hg; clear ho hg x1 x2 x4 x5 x6))
      have PN := Hn (P3.out.app (y := ((xk, xi), xm)) (bl_alloc w3 (.cells #[.int .i64 xk, .int .i64 xi, .int .u64 p.x0, .int .u64 p.x1, .int .u64 p.x2, .int .u64 p.x3] 116)) G5.out (by rw [TX.out]; exact O5.out))
      clear P3 O5 G5
      have LE : Hid (out.length ≤ i) := Hn ho2
      go_roundw
      case rel => exact ⟨i + 1, false, K, out ++ [((xk, xi), xm)], by omega, by have := HO.out; simp; omega, rfl, by go_num, Hn ⟨PN.out, fun _ => ⟨rfl, by have := LE.out; simp; omega⟩, EN.out⟩⟩
      case measure => simp [intOf]; omega
  ·obtain rfl : i = X.length := by omega
   have lq : ¬ (X.length : Int) < (X.length : Int) := by omega
   cases dn with
   | true =>
    obtain rfl := Rs.end1 _ _ hP.out.2.2
    clear IZm ADm
    go_wp2_with fail
    exact bodyPost_ret (v := u5) (by simp [results, Tryz.results99, go_sem]) rfl ⟨_, rfl, own_monoT hP.out.1.own (Nat.le_succ _), hP.out.1.bel⟩
   | false =>
    obtain ⟨rfl, ho2⟩ := hP.out.2.1 rfl
    clear ADm
    have P3 := Hn hP.out.1
    have d0 := P3.out.c0
    have d1 := P3.out.c1
    have d2 := P3.out.c2
    have d3 := P3.out.c3
    have d4 := P3.out.c4
    have d5 := P3.out.c5
    simp only at d0 d1
    by_cases hz : m % Sm.L = 0
    ·obtain rfl := Rs.end0 hz _ _ hP.out.2.2
     rw [decide_eq_true hz] at IZm
     go_wp2_with (first | (go_at_call 82; refine (IZm.out _).mono ?_; rintro e w4 ⟨rfl, hb⟩; have B4 := Hn hb; clear hb))
     exact bodyPost_ret (v := u5) (by simp [results, Tryz.results99, go_sem]) rfl ⟨_, rfl, own_monoT (P3.out.keep B4.out).own (Nat.le_succ _), (P3.out.keep B4.out).bel⟩
    ·obtain rfl := Rs.endt hz _ _ hP.out.2.2
     rw [decide_eq_false hz] at IZm
     have TK : Hid ((tmOf ((qk, qi), m % Sm.L)).cs = [.int .i64 qk, .int .i64 qi, .int .u64 K.x0, .int .u64 K.x1, .int .u64 K.x2, .int .u64 K.x3]) := Hn (by rw [TM.out]; rfl)
     go_wp2_with (first | (go_at_call 82; refine (IZm.out _).mono ?_; rintro e w4 ⟨rfl, hb⟩; have d0 := cell_keep d0 hb; have d1 := cell_keep d1 hb; have d2 := cell_keep d2 hb; have d3 := cell_keep d3 hb; have d4 := cell_keep d4 hb; have d5 := cell_keep d5 hb; have B4 := Hn hb; clear hb) | (at_builtin; have x1 := own_keepT P3.out.own (bl_trans B4.out (bl_alloc w4 (.cells #[.int .i64 qk, .int .i64 qi, .int .u64 K.x0, .int .u64 K.x1, .int .u64 K.x2, .int .u64 K.x3] 116))); have x2 := cells_newT w4 [.int .i64 qk, .int .i64 qi, .int .u64 K.x0, .int .u64 K.x1, .int .u64 K.x2, .int .u64 K.x3] 116; have x4 : out.length + 1 ≤ maxLen := (by unfold maxLen; have := HS.out; have := HO.out; simp; omega); have x5 : (out.length + 1) * 48 ≤ 140737488355328 := (by have := HS.out; have := HO.out; simp; omega); have x6 : w.heap.size + 1 ≤ (w4.alloc (.cells #[.int .i64 qk, .int .i64 qi, .int .u64 K.x0, .int .u64 K.x1, .int .u64 K.x2, .int .u64 K.x3] 116)).heap.size := (by have := Nat.le_trans P3.out.sz B4.out.size; simp; omega); refine wpList_append_own_at _ rfl _ _ 72 rfl (w.heap.size + 1) 116 _ _ 6 48 T1.out HI.out HZ0.out HZ1.out HZ2.out rfl (by decide) _ out.length (tls out) rfl x1 ⟨w4.heap.size, 0, none⟩ 1 1 [.int .i64 qk, .int .i64 qi, .int .u64 K.x0, .int .u64 K.x1, .int .u64 K.x2, .int .u64 K.x3] rfl rfl x2 (six_any _ _ _ _ _ _) x4 x5 x6 ?_; intro v5 w5 ho hg _ _; have O5 := Hn ho; have G5 := Hn hg; clear ho hg x1 x2 x4 x5 x6))
     have PN := Hn (P3.out.app (y := ((qk, qi), m % Sm.L)) (bl_trans B4.out (bl_alloc w4 (.cells #[.int .i64 qk, .int .i64 qi, .int .u64 K.x0, .int .u64 K.x1, .int .u64 K.x2, .int .u64 K.x3] 116))) G5.out (by rw [TK.out]; exact O5.out))
     exact bodyPost_ret (v := v5) (by simp [results, Tryz.results99, go_sem]) rfl ⟨_, rfl, own_monoT PN.out.own (Nat.le_succ _), PN.out.bel⟩
end Ci
end Go.Proofs.YtghcfcglakbkeaaGreatDoor
