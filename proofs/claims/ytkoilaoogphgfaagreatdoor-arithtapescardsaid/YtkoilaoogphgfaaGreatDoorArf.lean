import Derived.Test.YtkoilaoogphgfaaGreatDoorAre
namespace Go.Proofs.YtkoilaoogphgfaaGreatDoor
open Go.RowKit
set_option linter.unusedVariables false
set_option linter.unusedSimpArgs false
open Cm (Wr Tm co bf lf ins Eqm)
namespace Ci
set_option maxRecDepth 100000
set_option maxHeartbeats 8000000
structure Lh where
 p : Option Addr
 n : Nat
 c : Nat
 f : Nat → Trm
structure As (w : World) (b o n : Nat) (gt : Nat → Bool) (L : Nat → Lh) : Prop where
 c0 : ∀ k, k < n → w.cell? ⟨b, o + k * 2, none⟩ = some (.bool (gt k))
 c1 : ∀ k, k < n → w.cell? ⟨b, o + k * 2 + 1, none⟩ = some (.slice (L k).p (L k).n (L k).c)
 l : ∀ k, k < n → Lt w (L k).p (L k).n (L k).f
 ok : ∀ k, k < n → ∀ j, j < (L k).n → ((L k).f j).a.ok
 ln : ∀ k, k < n → (L k).n ≤ 2932031007317
theorem As.keep {w w' : World} {b o n : Nat} {gt : Nat → Bool} {L : Nat → Lh} (h : As w b o n gt L) (hb : Below w.heap.size w w') : As w' b o n gt L :=
 ⟨fun k hk => cell_keep (h.c0 k hk) hb, fun k hk => cell_keep (h.c1 k hk) hb, fun k hk => (h.l k hk).keep hb, h.ok, h.ln⟩
theorem build_bad (M : Int) (P : Option Addr) (n c : Nat) (w : World) (hM : M < 0 ∨ 16 < M) : Calls Tryz.prog 4 #[.agg #[.int .i64 M, .slice P n c]] w fun e w' => e = .returned (.tuple #[.pointer none, .pointer none]) ∧ Below w.heap.size w w' := by
 have B0 := hidden (bl_alloc w (.cells #[.int .i64 M, .slice P n c] 24))
 have C1 := hidden (fun y => New_bad M y hM)
 have C2 := hidden (fun y => dNew_bad M y hM)
 clear hM
 go_enter Tryz.func4, Tryz.ntmps4
 go_wp2_with (first | (go_at_call 11; refine (C1.out _).mono ?_; rintro e w1 ⟨rfl, rfl⟩) | (go_at_call 12; refine (C2.out _).mono ?_; rintro e w1 ⟨rfl, rfl⟩))
 refine bodyPost_ret (v := .tuple #[.pointer none, .pointer none]) (by simp [results, Tryz.results4, go_sem]) rfl ⟨rfl, B0.out⟩
structure IL (y : World) (f : Nat → Trm) (k : Nat) (lv mv : Value) (x : World) : Prop where
 l : x.ownsRow y.heap.size 74 6 lv k (tvs k f)
 m : x.ownsRow y.heap.size 77 6 mv k (tls (glL k f))
 b : Below y.heap.size y x
theorem IL.keep {y : World} {f : Nat → Trm} {k : Nat} {lv mv : Value} {x x' : World} (h : IL y f k lv mv x) (hb : Below x.heap.size x x') : IL y f k lv mv x' := ⟨own_keepT h.l hb, own_keepT h.m hb, bl_trans h.b hb⟩
theorem own_two {w w' : World} {b1 b2 : Nat} {e1 e2 : TypeId} {s1 s2 n1 n2 : Nat} {v1 v2 : Value} {xs ys : List Value} (h1 : w.ownsRow b1 e1 s1 v1 n1 xs) (h2 : w.ownsRow b2 e2 s2 v2 n2 ys) (hne : e1 ≠ e2) (hg : w.grownBy w' v2.ownBlock) : w'.ownsRow b1 e1 s1 v1 n1 xs := ⟨h1.1, by
 rcases h1.2 with h0 | ⟨g, c, cur, k1, k2, k3, k4⟩
 ·exact .inl h0
 ·refine .inr ⟨g, c, cur, k1, k2, (hg.block g (Array.getElem?_eq_some_iff.1 k3).1 (fun e' => ?_)).trans k3, k4⟩
  obtain ⟨cur', e5⟩ := own_blk h2 e'.symm
  rw [e5] at k3
  simp only [Option.some.injEq, Obj.cells.injEq] at k3
  exact hne k3.2.1.symm⟩
theorem tinfoP : (Tryz.prog.info? 74) = some (Tryz.prog.info? 74).get! := by kernel_rfl
theorem build_any (m : Nat) (hm : m ≤ 16) (P : Option Addr) (b o n c : Nat) (gt : Nat → Bool) (L : Nat → Lh) (w : World) (hT : Tb w) (hn : n ≤ 4398046510976) (hP : 0 < n → P = some ⟨b, o, none⟩) (hA : 0 < n → As w b o n gt L) :
  Calls Tryz.prog 4 #[.agg #[.int .i64 (m : Int), .slice P n c]] w fun e w' => ∃ t r K Q1 Q2, e = .returned (.tuple #[.pointer (some ⟨t, 0, none⟩), .pointer (some ⟨r, 0, none⟩)]) ∧ PD w t r m K K Q1 Q2 w' := by
 obtain ⟨M, hM⟩ : ∃ M : Int, (m : Int) = M := ⟨_, rfl⟩
 have B0 := hidden (bl_alloc w (.cells #[.int .i64 M, .slice P n c] 24))
 have HT := hidden (hT.keep B0.out)
 have HA : Hid (0 < n → As (w.alloc (.cells #[.int .i64 M, .slice P n c] 24)) b o n gt L) := hidden (fun h => (hA h).keep B0.out)
 have HP := hidden hP
 have HN := hidden hn
 have HM := hidden hm
 have C1 := hidden (New_any m (w.alloc (.cells #[.int .i64 M, .slice P n c] 24)) HT.out hm)
 have C2 := hidden (fun y => dNew_any m y hm)
 rw [hM] at C1 C2 ⊢
 have z0 : (w.alloc (.cells #[.int .i64 M, .slice P n c] 24)).cell? ⟨w.heap.size, 0, none⟩ = some (.int .i64 M) := by go_simp
 have z1 : (w.alloc (.cells #[.int .i64 M, .slice P n c] 24)).cell? ⟨w.heap.size, 1, none⟩ = some (.slice P n c) := by go_simp
 clear hT hn hP hA hm hM
 go_enter Tryz.func4, Tryz.ntmps4
 go_upto_region 1 with fail
 generalize (w.alloc (.cells #[.int .i64 M, .slice P n c] 24)) = w1 at *
 go_upto_region 2 with (first | (go_at_call 11; refine C1.out.mono ?_; rintro e w2 ⟨rfl, h2⟩; have N2 := hidden h2; have Z2 := hidden h2; clear h2))
 have y0 := N2.out
 obtain ⟨Pv, cv, vs, sy, hb2⟩ := y0
 have z2 := cell_keep z0 hb2
 have C3 := hidden (C2.out w2)
 clear C1 C2 sy
 go_upto_region 3 with (first | (go_at_call 12; refine C3.out.mono ?_; rintro e w3 ⟨rfl, h3⟩; have P3 := hidden (pd_new HM.out (Below.refl _ w1) N2.out h3); clear h3))
 clear C3 z2 hb2 vs cv Pv N2 Z2
 generalize w1.heap.size = t at *
 generalize w2.heap.size = r at *
 go_upto_region 7 with fail
 have P0 : Hid (∃ K Q1 Q2, PD w1 t r m K K Q1 Q2 w3) := hidden ⟨m, _, _, P3.out⟩
 clear P3
 go_upto_region 8 with fail
 go_loopw [8] (fun iv w' => ∃ i : Nat, i ≤ n ∧ iv = .int .i64 (i : Int) ∧ Hid (∃ K Q1 Q2, PD w1 t r m K K Q1 Q2 w')) (fun i _ => n - (intOf i).toNat)
 case atStart => exact ⟨0, by omega, rfl, P0⟩
 case round =>
  clear P0
  obtain ⟨i, hi, rfl, hR⟩ := hrel
  obtain ⟨K, Q1, Q2, pd⟩ := hR.out
  have PDR := hidden pd
  have BR := hidden pd.bl
  clear hR pd
  have y1 := cell_keep z1 BR.out
  by_cases hin : i < n
  ·have i1 : (i : Int) < (n : Int) := by omega
   have i0 : (0 : Int) ≤ (i : Int) := by omega
   have w9 : IntKind.i64.wrap ((i : Int) + 1) = (i : Int) + 1 := IntWalk.i64_in _ (by have := HN.out; omega)
   have hP := HP.out (by omega)
   subst hP
   have aw := (HA.out (by omega))
   have k0 := cell_keep (aw.c0 i hin) BR.out
   have k1 := cell_keep (aw.c1 i hin) BR.out
   have LH := hidden ((aw.l i hin).keep BR.out)
   have LO := hidden (aw.ok i hin)
   have LN := hidden (aw.ln i hin)
   clear aw
   cases hg : gt i with
   | true =>
    rw [hg] at k0
    have CG := hidden PDR.out.pGate
    go_upto_region 11 with fail
    go_upto_region 12 with (first | (go_at_call 13; refine CG.out.mono ?_; rintro e w4 ⟨rfl, h4, _⟩; have P4 := hidden h4; clear h4 CG))
    have CD := hidden P4.out.dGate
    go_wp2_with (first | (go_at_call 14; refine CD.out.mono ?_; rintro e w5 ⟨rfl, h5, _⟩; have P5 : Hid (∃ K Q1 Q2, PD w1 t r m K K Q1 Q2 w5) := hidden ⟨_, _, _, h5⟩; clear h5 CD))
    clear P4 PDR BR y1 k0 k1 LH LO LN
    go_roundw
    case rel => exact ⟨i + 1, by omega, by go_num, P5⟩
    case measure => simp [intOf]; omega
   | false =>
    rw [hg] at k0
    generalize L i = Li at *
    obtain ⟨lp, ln, lc, f⟩ := Li
    simp only at k1 LH LO LN
    generalize wr = wo at *
    go_upto_region 15 with fail
    have I0 : Hid (IL wo f 0 (.slice none 0 0) (.slice none 0 0) wo) := hidden ⟨World.ownsRow_nil _ _ _ _, World.ownsRow_nil _ _ _ _, Below.refl _ _⟩
    go_upto_region 16 with fail
    go_loopw [9, 10, 11] (fun lv mv kv w' => ∃ k : Nat, k ≤ ln ∧ kv = .int .i64 (k : Int) ∧ Hid (IL wo f k lv mv w')) (fun _ _ k _ => ln - (intOf k).toNat)
    case atStart => exact ⟨0, by omega, rfl, I0⟩
    case round =>
     clear I0
     obtain ⟨k, hk, rfl, hR⟩ := hrel
     have HB := hidden hR.out.b
     have x1 := cell_keep y1 HB.out
     have x2 := cell_keep k1 HB.out
     by_cases hkn : k < ln
     ·have j1 : (k : Int) < (ln : Int) := by omega
      have j0 : (0 : Int) ≤ (k : Int) := by omega
      have v9 : IntKind.i64.wrap ((k : Int) + 1) = (k : Int) + 1 := IntWalk.i64_in _ (by have := LN.out; omega)
      obtain ⟨lb, lo, e1, e2⟩ := LH.out
      have e3 := e1 (by omega)
      subst e3
      have rt := e2 (by omega)
      have a0 := cell_keep (rt.c0 k hkn) HB.out
      have a1 := cell_keep (rt.c1 k hkn) HB.out
      have a2 := cell_keep (rt.c2 k hkn) HB.out
      have a3 := cell_keep (rt.c3 k hkn) HB.out
      have a4 := cell_keep (rt.c4 k hkn) HB.out
      have a5 := cell_keep (rt.c5 k hkn) HB.out
      have PO := hidden (LO.out k hkn)
      have TX : Hid (tvs (k + 1) f = tvs k f ++ [.int .i64 (f k).q.1, .int .i64 (f k).q.2, .int .u64 (f k).a.x0, .int .u64 (f k).a.x1, .int .u64 (f k).a.x2, .int .u64 (f k).a.x3]) := hidden (tvs_succ k f)
      have TY : Hid (tls (glL (k + 1) f) = tls (glL k f) ++ (tmOf ((f k).q, (f k).a.n)).cs) := hidden (by rw [glL_succ, tls_snoc])
      clear e1 e2 rt
      generalize hfk : f k = z at a0 a1 a2 a3 a4 a5 PO TX TY
      clear hfk
      obtain ⟨⟨qk, qi⟩, p⟩ := z
      simp only at a0 a1 a2 a3 a4 a5 PO TX TY
      go_upto_region 19 with fail
      have BB := bl_alloc wr (.cells #[.int .i64 qk, .int .i64 qi, .int .u64 p.x0, .int .u64 p.x1, .int .u64 p.x2, .int .u64 p.x3] 72)
      have J := hidden (hR.out.keep BB)
      have c0 : (wr.alloc (.cells #[.int .i64 qk, .int .i64 qi, .int .u64 p.x0, .int .u64 p.x1, .int .u64 p.x2, .int .u64 p.x3] 72)).cell? ⟨wr.heap.size, 0, none⟩ = some (.int .i64 qk) := by go_simp
      have c1 : (wr.alloc (.cells #[.int .i64 qk, .int .i64 qi, .int .u64 p.x0, .int .u64 p.x1, .int .u64 p.x2, .int .u64 p.x3] 72)).cell? ⟨wr.heap.size, 1, none⟩ = some (.int .i64 qi) := by go_simp
      have c2 : (wr.alloc (.cells #[.int .i64 qk, .int .i64 qi, .int .u64 p.x0, .int .u64 p.x1, .int .u64 p.x2, .int .u64 p.x3] 72)).cell? ⟨wr.heap.size, 2, none⟩ = some (.int .u64 p.x0) := by go_simp
      have c3 : (wr.alloc (.cells #[.int .i64 qk, .int .i64 qi, .int .u64 p.x0, .int .u64 p.x1, .int .u64 p.x2, .int .u64 p.x3] 72)).cell? ⟨wr.heap.size, 3, none⟩ = some (.int .u64 p.x1) := by go_simp
      have c4 : (wr.alloc (.cells #[.int .i64 qk, .int .i64 qi, .int .u64 p.x0, .int .u64 p.x1, .int .u64 p.x2, .int .u64 p.x3] 72)).cell? ⟨wr.heap.size, 4, none⟩ = some (.int .u64 p.x2) := by go_simp
      have c5 : (wr.alloc (.cells #[.int .i64 qk, .int .i64 qi, .int .u64 p.x0, .int .u64 p.x1, .int .u64 p.x2, .int .u64 p.x3] 72)).cell? ⟨wr.heap.size, 5, none⟩ = some (.int .u64 p.x3) := by go_simp
      have NL : Hid (some wr.heap.size ≠ Value.ownBlock u9) := hidden (fun e => by have := (hR.out.l.lt _ e.symm).2; omega)
      have NM : Hid (some wr.heap.size ≠ Value.ownBlock u10) := hidden (fun e => by have := (hR.out.m.lt _ e.symm).2; omega)
      clear BB a0 a1 a2 a3 a4 a5 x1 x2 HB hR
      generalize (wr.alloc (.cells #[.int .i64 qk, .int .i64 qi, .int .u64 p.x0, .int .u64 p.x1, .int .u64 p.x2, .int .u64 p.x3] 72)) = wx at *
      generalize wr.heap.size = B at *
      have HI := hidden tinfoP
      have HZ0 : Hid ((Tryz.prog.info? 74).get!.zero = some (.agg #[.int .i64 0, .int .i64 0, .int .u64 0, .int .u64 0, .int .u64 0, .int .u64 0])) := hidden (by kernel_rfl)
      have HZ1 : Hid ((Tryz.prog.info? 74).get!.size = 6) := hidden (by kernel_rfl)
      have HZ2 : Hid ((Tryz.prog.info? 74).get!.bytes = 48) := hidden (by kernel_rfl)
      have T1 : Hid (Tryz.prog.underlying 68 = some (.slice 74)) := hidden (by kernel_rfl)
      go_upto_region 20 with (first | (at_builtin; have q1 := own_keepT J.out.l (bl_alloc wx (.cells #[.int .i64 qk, .int .i64 qi, .int .u64 p.x0, .int .u64 p.x1, .int .u64 p.x2, .int .u64 p.x3] 74)); have q2 := cells_newT wx [.int .i64 qk, .int .i64 qi, .int .u64 p.x0, .int .u64 p.x1, .int .u64 p.x2, .int .u64 p.x3] 74; have q3 : ∀ u ∈ ([.int .i64 qk, .int .i64 qi, .int .u64 p.x0, .int .u64 p.x1, .int .u64 p.x2, .int .u64 p.x3] : List Value), u.oneCell' = true := six_any _ _ _ _ _ _; have q4 : k + 1 ≤ maxLen := (by have := LN.out; unfold maxLen; omega); have q5 : (k + 1) * 48 ≤ 140737488355328 := (by have := LN.out; omega); have q6 : wo.heap.size ≤ (wx.alloc (.cells #[.int .i64 qk, .int .i64 qi, .int .u64 p.x0, .int .u64 p.x1, .int .u64 p.x2, .int .u64 p.x3] 74)).heap.size := (by have := J.out.b.size; simp; omega); refine wpList_append_own_at _ rfl _ _ 68 rfl wo.heap.size 74 _ _ 6 48 T1.out HI.out HZ0.out HZ1.out HZ2.out rfl (by decide) _ k (tvs k f) rfl q1 ⟨wx.heap.size, 0, none⟩ 1 1 [.int .i64 qk, .int .i64 qi, .int .u64 p.x0, .int .u64 p.x1, .int .u64 p.x2, .int .u64 p.x3] rfl rfl q2 q3 q4 q5 q6 ?_; intro v4 w4 ho4 hg4 _ _; have O4 := hidden ho4; have M4 := hidden (own_two (own_keepT J.out.m (bl_alloc wx (.cells #[.int .i64 qk, .int .i64 qi, .int .u64 p.x0, .int .u64 p.x1, .int .u64 p.x2, .int .u64 p.x3] 74))) q1 (by decide) hg4); have B4 : Hid (Below wo.heap.size wo w4) := hidden ((bl_trans J.out.b (bl_alloc wx (.cells #[.int .i64 qk, .int .i64 qi, .int .u64 p.x0, .int .u64 p.x1, .int .u64 p.x2, .int .u64 p.x3] 74))).grown hg4 (bl_trans J.out.b (bl_alloc wx (.cells #[.int .i64 qk, .int .i64 qi, .int .u64 p.x0, .int .u64 p.x1, .int .u64 p.x2, .int .u64 p.x3] 74))).size (fun k' hk' => (q1.lt k' hk').1)); have d0 := hg4.cell (cell_keep c0 (bl_alloc wx (.cells #[.int .i64 qk, .int .i64 qi, .int .u64 p.x0, .int .u64 p.x1, .int .u64 p.x2, .int .u64 p.x3] 74))) NL.out; have d1 := hg4.cell (cell_keep c1 (bl_alloc wx (.cells #[.int .i64 qk, .int .i64 qi, .int .u64 p.x0, .int .u64 p.x1, .int .u64 p.x2, .int .u64 p.x3] 74))) NL.out; have d2 := hg4.cell (cell_keep c2 (bl_alloc wx (.cells #[.int .i64 qk, .int .i64 qi, .int .u64 p.x0, .int .u64 p.x1, .int .u64 p.x2, .int .u64 p.x3] 74))) NL.out; have d3 := hg4.cell (cell_keep c3 (bl_alloc wx (.cells #[.int .i64 qk, .int .i64 qi, .int .u64 p.x0, .int .u64 p.x1, .int .u64 p.x2, .int .u64 p.x3] 74))) NL.out; have d4 := hg4.cell (cell_keep c4 (bl_alloc wx (.cells #[.int .i64 qk, .int .i64 qi, .int .u64 p.x0, .int .u64 p.x1, .int .u64 p.x2, .int .u64 p.x3] 74))) NL.out; have d5 := hg4.cell (cell_keep c5 (bl_alloc wx (.cells #[.int .i64 qk, .int .i64 qi, .int .u64 p.x0, .int .u64 p.x1, .int .u64 p.x2, .int .u64 p.x3] 74))) NL.out; clear ho4 hg4 q1 q2 q3 q4 q5 q6))
      clear c0 c1 c2 c3 c4 c5 J NL
      have C1 := fun y => num21_any p PO.out y
      obtain ⟨s, hs⟩ : ∃ s, lst p.n = s := ⟨_, rfl⟩
      simp only [hs] at C1
      replace TY : Hid (tls (glL (k + 1) f) = tls (glL k f) ++ [.int .i64 qk, .int .i64 qi, .int .u64 s.x0, .int .u64 s.x1, .int .u64 s.x2, .int .u64 s.x3]) := hidden (by rw [TY.out]; unfold tmOf Trm.cs; simp only [hs])
      replace C1 := hidden C1
      clear hs
      refine b20 _ B wo.heap.size k qk qi p s u10 (glL k f) _ _ _ _ _ _ _ _ _ _ _ _ _ _ _ _ _ _ _ _ _ _ _ _ _ _ _ _ _ _ _ _ _ _ _ _ _ _ _ _ _ _ _ _ _ _ _ _ _ _ _ _ _ _ _ _ _ _ _ _ _ _ _ _ _ _ _ _ _ _ _ _ _ _ _ _ _ _ _ _ _ _ _ _ _ _ _ _ _ _ _ _ _ _ _ _ w4 NM.out d0 d1 d2 d3 d4 d5 M4.out (hidden (by unfold maxLen; have := LN.out; omega)) (hidden (by have := LN.out; omega)) (hidden B4.out.size) C1 (hidden ?_)
      intro w6 tb v6 hg6 ho6
      have PN : Hid (IL wo f (k + 1) v4 v6 w6) := hidden ⟨by rw [TX.out]; exact own_two O4.out M4.out (by decide) hg6, by rw [TY.out]; exact ho6, B4.out.grown hg6 B4.out.size (fun k' hk' => (M4.out.lt k' hk').1)⟩
      clear hg6 ho6 d0 d1 d2 d3 d4 d5 C1 O4 M4 B4 TX TY
      go_wp2_with fail
      go_roundw
      case rel => exact ⟨k + 1, by omega, by go_num, PN⟩
      case measure => simp [intOf]; omega
     ·obtain rfl : k = ln := by omega
      have lq : ¬ (k : Int) < (k : Int) := by omega
      obtain ⟨P1, c1, e1, _, _⟩ := own_shT hR.out.l
      obtain ⟨P2, c2, e2, _, _⟩ := own_shT hR.out.m
      subst e1
      subst e2
      have PX := hidden (PDR.out.keep HB.out)
      have CQ := hidden (PX.out.pRequire HT.out P1 k c1 f (by have := LN.out; omega) LO.out (own_lt hR.out.l))
      have OM := hidden hR.out.m
      clear HB PDR hR
      go_upto_region 22 with (first | (go_at_call 16; refine CQ.out.mono ?_; rintro e w4 ⟨rfl, h4, h5⟩; have P4 := hidden h4; have O4 := hidden (h5.own OM.out (by decide) (by decide)); clear h4 h5 CQ OM))
      have CD := P4.out.dRequire P2 c2 (glL k f) (by rw [glL_len]; have := LN.out; omega) (by rw [glL_len]; exact own_lt (by have := O4.out; rw [tls, glL_len] at this; exact this))
      rw [glL_len] at CD
      replace CD := hidden CD
      go_wp2_with (first | (go_at_call 17; refine CD.out.mono ?_; rintro e w5 ⟨rfl, h5, _⟩; have P5 : Hid (∃ K Q1 Q2, PD w1 t r m K K Q1 Q2 w5) := hidden ⟨_, _, _, h5⟩; clear h5 CD))
      clear P4 O4 PX y1 k0 k1 LH LO LN x1 x2
      go_roundw
      case rel => exact ⟨i + 1, by omega, by go_num, P5⟩
      case measure => simp [intOf]; omega
  ·obtain rfl : i = n := by omega
   have lq : ¬ (i : Int) < (i : Int) := by omega
   have PF := hidden (show PD w t r m K K Q1 Q2 wr from ⟨by obtain ⟨b1, v1, s1, p1, l1⟩ := PDR.out.p; exact ⟨b1, v1, s1, p1, Nat.le_trans B0.out.size l1⟩, by obtain ⟨b1, v1, s1, p1, l1⟩ := PDR.out.d; exact ⟨b1, v1, s1, p1, Nat.le_trans B0.out.size l1⟩, bl_trans B0.out BR.out, PDR.out.q1, PDR.out.q2, PDR.out.k1, PDR.out.k2⟩)
   clear PDR BR
   go_wp2_with fail
   refine bodyPost_ret (v := .tuple #[.pointer (some ⟨t, 0, none⟩), .pointer (some ⟨r, 0, none⟩)]) (by simp [results, Tryz.results4, go_sem]) rfl ⟨t, r, rfl, K, Q1, Q2, PF.out⟩
end Ci
end Go.Proofs.YtkoilaoogphgfaaGreatDoor
