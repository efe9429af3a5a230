import Derived.Test.YtkfkmndhbfeagaaGreatDoorPc
namespace Go.Proofs.YtkfkmndhbfeagaaGreatDoor
open Go.RowKit
set_option linter.unusedVariables false
theorem wpList_make {w : World} {ops : Array Oper} {rest : List Oper} {o : Oper} {a : Act} {Q : Exit → Act → World → Prop} (hgd : o.guard = none) (x : Operand)
    (ho : o.op = .makeSlice 29 (.const (.int .i64 0)) x) (c base : Nat) (hx : a.eval x = .int .i64 (c : Int)) (hc : c ≤ 1048576) (hb : base ≤ w.heap.size)
    (h : ∀ w', w'.ownsRow base 5 1 (.slice (some ⟨w.heap.size, 0, none⟩) 0 c) 0 [] → w.grownBy w' none → wpList Tryz.prog ops Q rest (a.put o.dst (.slice (some ⟨w.heap.size, 0, none⟩) 0 c)) w') : wpList Tryz.prog ops Q (o :: rest) a w := by
  refine wpList_plain hgd fun K hK => ?_
  have h1 : Tryz.prog.underlying 29 = some (.slice 5) := by kernel_rfl
  have hi : Tryz.prog.info? 5 = some (Tryz.prog.info? 5).get! := by kernel_rfl
  have hz : (Tryz.prog.info? 5).get!.zero = some (.int .u8 0) := by kernel_rfl
  have hs : (Tryz.prog.info? 5).get!.size = 1 := by kernel_rfl
  have hy : (Tryz.prog.info? 5).get!.bytes = 1 := by kernel_rfl
  obtain ⟨w', hr, h2, h3⟩ := run_makeSlice_owned (P := Tryz.prog) w base _ _ _ _ 1 h1 hi hz hs .i64 .i64 c (by omega) (by rw [hy]; omega) (by unfold maxLen; omega) hb
  have e0 : a.eval (.const (.int .i64 0)) = .int .i64 0 := rfl
  unfold Oper.wp execOp
  simp only [ho, e0, hx, Sem.run_bind, Sem.run_pure, Result.andThen_ok, hr]
  exact hK _ _ (h w' h2 h3)
theorem ready_assign {P : Program} {ops : Array Oper} {o : Oper} {a : Act} {w : World} {K : Act → World → Prop} {Q : Exit → Act → World → Prop} {E : Prop} (hg : o.guard = none) (x : Operand) (ho : o.op = .assign x) (v : Value) (hv : a.eval x = v) (d : Option Tmp) (hd : o.dst = d) (h : K (a.put d v) w) : if Region.wanted o (yielded ops a.tmps) = true then Oper.wp P o a w K Q else E := by
  have hw : Region.wanted o (yielded ops a.tmps) = true := by simp [Region.wanted, hg]
  rw [if_pos hw]
  subst hv hd
  unfold Oper.wp execOp
  simp only [ho]
  exact h
/-- two, three, four -/
def f2 (a b : E4) : Nat → E4
  | 0 => a | _ => b
theorem ef_2 (a b : E4) : ef 2 (f2 a b) = eb a.n ++ eb b.n := by rw [ef_succ, ef_succ, ef_zero]; rfl
theorem ef_add (m n : Nat) (g : Nat → E4) : ef (m + n) g = ef m g ++ ef n (fun k => g (m + k)) := by
  induction n with
  | zero => simp [ef_zero]
  | succ n ih => rw [← Nat.add_assoc, ef_succ, ih, ef_succ, List.append_assoc]
set_option maxRecDepth 100000 in
set_option maxHeartbeats 16000000 in
theorem enc_ok (s l r : Nat → E4) (LP RP : Option Addr) (n cL cR : Nat) (w : World) (hT : Tb w) (hn : n ≤ 10) (os : ∀ k, k < 9 → (s k).ok) (ol : ∀ k, k < n → (l k).ok) (or : ∀ k, k < n → (r k).ok) (hL : Lm w LP n l) (hR : Lm w RP n r) (bL : ∀ a, LP = some a → a.block < w.heap.size) (bR : ∀ a, RP = some a → a.block < w.heap.size) :
    Calls Tryz.prog 6 #[.agg (pc s (.slice LP n cL) (.slice RP n cR)).toArray] w fun e w' => ∃ G : Nat, e = .returned (.tuple #[.slice (some ⟨G, 0, none⟩) (pe n s l r).length (32 * (9 + 2 * n)), .int .i64 0]) ∧ w'.ownsRow w.heap.size 5 1 (.slice (some ⟨G, 0, none⟩) (pe n s l r).length (32 * (9 + 2 * n))) (pe n s l r).length (Tr.cb (pe n s l r)) ∧ Below w.heap.size w w' := by
  obtain ⟨P, hP⟩ : ∃ P, pc s (.slice LP n cL) (.slice RP n cR) = P := ⟨_, rfl⟩
  have r0 := range_newM w (pc s (.slice LP n cL) (.slice RP n cR)) 55
  have B0 := hidden (bl_alloc w (.cells P.toArray 55))
  rw [hP] at r0 ⊢
  have BX := hidden r0
  have c28 : (w.alloc (.cells P.toArray 55)).cell? ⟨w.heap.size, 28, none⟩ = some (.slice LP n cL) := by have := r0 28 (.slice LP n cL) (by rw [← hP]; rfl); simpa using this
  have c29 : (w.alloc (.cells P.toArray 55)).cell? ⟨w.heap.size, 29, none⟩ = some (.slice RP n cR) := by have := r0 29 (.slice RP n cR) (by rw [← hP]; rfl); simpa using this
  have SZ : Hid ((w.alloc (.cells P.toArray 55)).heap.size = w.heap.size + 1) := hidden (by simp)
  clear r0
  generalize hW : w.alloc (.cells P.toArray 55) = W0 at c28 c29 B0 BX SZ
  have HP := hidden hP
  have h1 : ¬ (n : Int) > 10 := by omega
  have LN := hidden (fun x => length_any n x (by omega))
  obtain ⟨cap, hcap⟩ : ∃ c, 32 * (9 + 2 * n) = c := ⟨_, rfl⟩
  rw [hcap] at LN ⊢
  have HCC := hidden hcap
  have HCAP : Hid (cap ≤ 1048576) := hidden (by omega)
  have HN := hidden hn
  have HOK := hidden (And.intro os (And.intro ol or))
  have HL := hidden hL
  have HR := hidden hR
  have HBL := hidden bL
  have HBR := hidden bR
  have HT := hidden hT
  have T0 : Hid (5 < w.heap.size) := hidden (World.block_lt_of_cell? w _ hT.1)
  clear hP hn hcap os ol or hL hR bL bR hT
  go_enter Tryz.func6, Tryz.ntmps6
  go_upto_region 4 with (first | (go_at_call 25; refine (LN.out _).mono ?_; rintro e wq ⟨rfl, rfl⟩) | (refine wpList_make rfl _ rfl cap w.heap.size (by rfl) HCAP.out (Nat.le_trans (Nat.le_succ _) (Nat.le_of_eq SZ.out.symm)) ?_; intro W oW gW; have OW := hidden oW; have GW := hidden gW; clear oW gW c28 c29 h1))
  have BW := hidden (show Below wq.heap.size wq W from ⟨GW.out.os, GW.out.tape, GW.out.output, GW.out.size, fun k hk => GW.out.block k hk (by simp)⟩)
  have B1 := hidden (bl_trans B0.out BW.out)
  obtain ⟨G, hG⟩ : ∃ G, wq.heap.size = G := ⟨_, rfl⟩
  rw [hG] at OW ⊢
  have HG : Hid (w.heap.size ≤ G ∧ w.heap.size ≠ G ∧ (∀ a, LP = some a → a.block ≠ G) ∧ (∀ a, RP = some a → a.block ≠ G) ∧ 5 ≠ G ∧ G < W.heap.size) := hidden (by
    have := SZ.out; have := T0.out
    exact ⟨by omega, by omega, fun a ha => by have := HBL.out a ha; omega, fun a ha => by have := HBR.out a ha; omega, by omega, (OW.out.lt _ rfl).2⟩)
  have ES : Hid (Es w G w.heap.size cap s LP RP n cL cR l r [] W) := hidden ⟨B1.out, HT.out.keep B1.out, by rw [HP.out]; exact range_keepM BX.out BW.out, HL.out.keep B1.out, HR.out.keep B1.out, OW.out⟩
  clear OW GW BW B1 BX HP SZ HL HR HT B0 hW hG

  have c0 := ES.out.box 0 _ rfl
  have c1 := ES.out.box 1 _ rfl
  have c2 := ES.out.box 2 _ rfl
  have c3 := ES.out.box 3 _ rfl
  have c4 := ES.out.box 4 _ rfl
  have c5 := ES.out.box 5 _ rfl
  have c6 := ES.out.box 6 _ rfl
  have c7 := ES.out.box 7 _ rfl
  have c8 := ES.out.box 8 _ rfl
  have c9 := ES.out.box 9 _ rfl
  have c10 := ES.out.box 10 _ rfl
  have c11 := ES.out.box 11 _ rfl
  have c12 := ES.out.box 12 _ rfl
  have c13 := ES.out.box 13 _ rfl
  have c14 := ES.out.box 14 _ rfl
  have c15 := ES.out.box 15 _ rfl
  simp only [Nat.zero_add] at c0 c1 c2 c3 c4 c5 c6 c7 c8 c9 c10 c11 c12 c13 c14 c15
  have KB := hidden (bl_alloc W (.cells (svs 4 s).toArray 52))
  have RL : Hid (Rl (W.alloc (.cells (svs 4 s).toArray 52)) W.heap.size 0 4 s) := hidden (rl_of (range_newM W (svs 4 s) 52))
  have C4 := (appAllL w.heap.size G cap W.heap.size 4 4 [] s _ (ES.out.tb.keep KB.out) HG.out.2.2.2.2.1 (Nat.ne_of_gt HG.out.2.2.2.2.2) (by omega) (fun k hk => HOK.out.1 k (by omega)) RL.out (by have := HCC.out; simp only [List.length_nil]; omega) HCAP.out (Tr.own_stay ES.out.own KB.out))
  rw [show svs 4 s = [.int .u64 (s 0).x0, .int .u64 (s 0).x1, .int .u64 (s 0).x2, .int .u64 (s 0).x3, .int .u64 (s 1).x0, .int .u64 (s 1).x1, .int .u64 (s 1).x2, .int .u64 (s 1).x3, .int .u64 (s 2).x0, .int .u64 (s 2).x1, .int .u64 (s 2).x2, .int .u64 (s 2).x3, .int .u64 (s 3).x0, .int .u64 (s 3).x1, .int .u64 (s 3).x2, .int .u64 (s 3).x3] from rfl] at C4 KB
  simp only [List.length_nil, List.nil_append, Nat.zero_add] at C4
  have CL := hidden C4
  clear C4 RL
  go_upto_region 5 with (first | (go_at_call 26; refine (CL.out).mono ?_; rintro e W2 ⟨rfl, o2, k2⟩; have E2 : Hid (Es w G w.heap.size cap s LP RP n cL cR l r (ef 4 s) W2) := hidden (ES.out.step ((Tr.Kp.of KB.out).trans k2) HG.out.1 HG.out.2.1 HG.out.2.2.1 HG.out.2.2.2.1 HG.out.2.2.2.2.1 (by rw [ef_len]; exact o2)); clear CL KB o2 k2 c0 c1 c2 c3 c4 c5 c6 c7 c8 c9 c10 c11 c12 c13 c14 c15))
  replace ES := E2
  clear E2

  have c16 := ES.out.box 16 _ rfl
  have c17 := ES.out.box 17 _ rfl
  have c18 := ES.out.box 18 _ rfl
  have c19 := ES.out.box 19 _ rfl
  have c20 := ES.out.box 20 _ rfl
  have c21 := ES.out.box 21 _ rfl
  have c22 := ES.out.box 22 _ rfl
  have c23 := ES.out.box 23 _ rfl
  have c24 := ES.out.box 24 _ rfl
  have c25 := ES.out.box 25 _ rfl
  have c26 := ES.out.box 26 _ rfl
  have c27 := ES.out.box 27 _ rfl
  simp only [Nat.zero_add] at c16 c17 c18 c19 c20 c21 c22 c23 c24 c25 c26 c27
  have KB := hidden (bl_alloc W2 (.cells (svs 3 (fun k => s (4 + k))).toArray 24))
  have RL : Hid (Rl (W2.alloc (.cells (svs 3 (fun k => s (4 + k))).toArray 24)) W2.heap.size 0 3 (fun k => s (4 + k))) := hidden (rl_of (range_newM W2 (svs 3 (fun k => s (4 + k))) 24))
  have C4 := (appAllS w.heap.size G cap W2.heap.size 3 3 (ef 4 s) (fun k => s (4 + k)) _ (ES.out.tb.keep KB.out) HG.out.2.2.2.2.1 (Nat.ne_of_gt (ES.out.own.lt _ rfl).2) (by omega) (fun k hk => HOK.out.1 _ (by omega)) RL.out (by have := HCC.out; rw [ef_len]; omega) HCAP.out (Tr.own_stay ES.out.own KB.out))
  rw [show svs 3 (fun k => s (4 + k)) = [.int .u64 (s 4).x0, .int .u64 (s 4).x1, .int .u64 (s 4).x2, .int .u64 (s 4).x3, .int .u64 (s 5).x0, .int .u64 (s 5).x1, .int .u64 (s 5).x2, .int .u64 (s 5).x3, .int .u64 (s 6).x0, .int .u64 (s 6).x1, .int .u64 (s 6).x2, .int .u64 (s 6).x3] from rfl] at C4 KB
  rw [← ef_add 4 3 s, ef_len] at C4
  have CL := hidden C4
  clear C4 RL
  go_upto_region 7 with (first | (go_at_call 27; refine (CL.out).mono ?_; rintro e W3 ⟨rfl, o2, k2⟩; have E2 : Hid (Es w G w.heap.size cap s LP RP n cL cR l r (ef 7 s) W3) := hidden (ES.out.step ((Tr.Kp.of KB.out).trans k2) HG.out.1 HG.out.2.1 HG.out.2.2.1 HG.out.2.2.2.1 HG.out.2.2.2.2.1 (by rw [ef_len]; exact o2)); have c28 := E2.out.box 28 _ rfl; simp only [Nat.zero_add] at c28; clear CL KB o2 k2 c16 c17 c18 c19 c20 c21 c22 c23 c24 c25 c26 c27))
  replace ES := E2
  clear E2 c28
  go_loopw [4, 47] (fun v kv w' => ∃ k : Nat, k ≤ n ∧ kv = .int .i64 (k : Int) ∧ v = .slice (some ⟨G, 0, none⟩) (224 + 64 * k) cap ∧ Hid (Es w G w.heap.size cap s LP RP n cL cR l r (ef 7 s ++ rb k l r) w')) (fun _ k _ => n - (intOf k).toNat)
  case atStart => exact ⟨0, by omega, rfl, rfl, hidden (by have := ES.out; rwa [show rb 0 l r = [] from rfl, List.append_nil])⟩
  case round =>
    clear ES
    obtain ⟨k, hk, rfl, rfl, ES⟩ := hrel
    by_cases hkn : k < n
    · have k0 : (0 : Int) ≤ (k : Int) := by omega
      have k1 : (k : Int) < (n : Int) := by omega
      have w9 : IntKind.i64.wrap ((k : Int) + 1) = (k : Int) + 1 := IntWalk.i64_in _ (by have := HN.out; omega)
      obtain ⟨lb, lo, hlb, hlr⟩ := ES.out.ll
      obtain ⟨qb, qo, hqb, hqr⟩ := ES.out.rr
      have pL := hlb (by omega)
      have pR := hqb (by omega)
      have RLL := hidden (hlr (by omega))
      have RRR := hidden (hqr (by omega))
      clear hlb hqb hlr hqr
      obtain ⟨x, ex⟩ : ∃ x, l k = x := ⟨_, rfl⟩
      obtain ⟨y, ey⟩ : ∃ y, r k = y := ⟨_, rfl⟩
      have ox : x.ok := ex ▸ HOK.out.2.1 k hkn
      have oy : y.ok := ey ▸ HOK.out.2.2 k hkn
      subst pL
      subst pR
      have SK : Hid (∀ u, Tr.Kp G wr u → Tr.Kp G wr u ∧ u.cell? ⟨w.heap.size, 28, none⟩ = some (.slice (some ⟨lb, lo, none⟩) n cL) ∧ u.cell? ⟨w.heap.size, 29, none⟩ = some (.slice (some ⟨qb, qo, none⟩) n cR) ∧ u.cell? ⟨lb, lo + k * 4, none⟩ = some (.int .u64 x.x0) ∧ u.cell? ⟨lb, lo + k * 4 + 1, none⟩ = some (.int .u64 x.x1) ∧ u.cell? ⟨lb, lo + k * 4 + 2, none⟩ = some (.int .u64 x.x2) ∧ u.cell? ⟨lb, lo + k * 4 + 3, none⟩ = some (.int .u64 x.x3) ∧ u.cell? ⟨qb, qo + k * 4, none⟩ = some (.int .u64 y.x0) ∧ u.cell? ⟨qb, qo + k * 4 + 1, none⟩ = some (.int .u64 y.x1) ∧ u.cell? ⟨qb, qo + k * 4 + 2, none⟩ = some (.int .u64 y.x2) ∧ u.cell? ⟨qb, qo + k * 4 + 3, none⟩ = some (.int .u64 y.x3)) := hidden (fun u hu => by
        have b28 := ES.out.box 28 _ rfl
        have b29 := ES.out.box 29 _ rfl
        simp only [Nat.zero_add] at b28 b29
        have A := RLL.out.kp hu (HG.out.2.2.1 _ rfl)
        have B := RRR.out.kp hu (HG.out.2.2.2.1 _ rfl)
        have a0 := A.c0 k hkn; have a1 := A.c1 k hkn; have a2 := A.c2 k hkn; have a3 := A.c3 k hkn
        have b0 := B.c0 k hkn; have b1 := B.c1 k hkn; have b2 := B.c2 k hkn; have b3 := B.c3 k hkn
        rw [ex] at a0 a1 a2 a3
        rw [ey] at b0 b1 b2 b3
        exact ⟨hu, kp_cell hu b28 HG.out.2.1, kp_cell hu b29 HG.out.2.1, a0, a1, a2, a3, b0, b1, b2, b3⟩)
      have CC : Hid (∀ u, Below wr.heap.size wr u → Calls Tryz.prog 26 #[.slice (some ⟨G, 0, none⟩) (224 + 64 * k) cap, .slice (some ⟨u.heap.size, 0, none⟩) 2 2] (u.alloc (.cells #[.int .u64 x.x0, .int .u64 x.x1, .int .u64 x.x2, .int .u64 x.x3, .int .u64 y.x0, .int .u64 y.x1, .int .u64 y.x2, .int .u64 y.x3] 52)) fun e w' => e = .returned (.slice (some ⟨G, 0, none⟩) (224 + 64 * (k + 1)) cap) ∧ Es w G w.heap.size cap s (some ⟨lb, lo, none⟩) (some ⟨qb, qo, none⟩) n cL cR l r (ef 7 s ++ rb (k + 1) l r) w' ∧ Tr.Kp G wr w') := hidden (fun u hu => by
        have KB := bl_alloc u (.cells (svs 2 (f2 x y)).toArray 52)
        have RL : Rl (u.alloc (.cells (svs 2 (f2 x y)).toArray 52)) u.heap.size 0 2 (f2 x y) := rl_of (range_newM u (svs 2 (f2 x y)) 52)
        have EU := ES.out.step (Tr.Kp.of (bl_trans hu KB)) HG.out.1 HG.out.2.1 HG.out.2.2.1 HG.out.2.2.2.1 HG.out.2.2.2.2.1 (Tr.own_stay ES.out.own (bl_trans hu KB))
        have C4 := (appAllL w.heap.size G cap u.heap.size 2 2 (ef 7 s ++ rb k l r) (f2 x y) _ EU.tb HG.out.2.2.2.2.1 (Nat.ne_of_gt (Nat.lt_of_lt_of_le (ES.out.own.lt _ rfl).2 hu.size)) (by omega) (fun j hj => by
          obtain rfl | rfl : j = 0 ∨ j = 1 := (by omega)
          · exact ox
          · exact oy) RL (by have := HCC.out; simp only [List.length_append, ef_len, rb_len]; omega) HCAP.out EU.own)
        have el : (ef 7 s ++ rb k l r).length = 224 + 64 * k := by simp only [List.length_append, ef_len, rb_len]
        rw [el] at C4
        refine C4.mono fun e w' ⟨h1, h2, h3⟩ => ⟨?_, ?_, (Tr.Kp.of (bl_trans hu KB)).trans h3⟩
        · rw [h1, show 224 + 64 * k + 32 * 2 = 224 + 64 * (k + 1) by omega]
        · have eq : ef 7 s ++ rb k l r ++ ef 2 (f2 x y) = ef 7 s ++ rb (k + 1) l r := by rw [rb_succ, ef_2, ex, ey, List.append_assoc]
          rw [eq] at h2
          have el2 : (ef 7 s ++ rb (k + 1) l r).length = 224 + 64 * k + 32 * 2 := by simp only [List.length_append, ef_len, rb_len]; omega
          exact EU.step h3 HG.out.1 HG.out.2.1 HG.out.2.2.1 HG.out.2.2.2.1 HG.out.2.2.2.2.1 (by rw [el2]; exact h2))
      clear ox oy ex ey
      obtain ⟨mm, em⟩ : ∃ m, 224 + 64 * (k + 1) = m := ⟨_, rfl⟩
      rw [em] at CC
      have EM := hidden em
      clear em
      have c28 := (SK.out wr (Tr.Kp.refl _ _)).2.1
      go_upto_region 9 with fail
      clear c28

      refine wp_region_noPanic ?_
      refine wp_region_held_drew (S := fun u => Tr.Kp G wr u ∧ u.cell? ⟨w.heap.size, 28, none⟩ = some (.slice (some ⟨lb, lo, none⟩) n cL) ∧ u.cell? ⟨w.heap.size, 29, none⟩ = some (.slice (some ⟨qb, qo, none⟩) n cR) ∧ u.cell? ⟨lb, lo + k * 4, none⟩ = some (.int .u64 x.x0) ∧ u.cell? ⟨lb, lo + k * 4 + 1, none⟩ = some (.int .u64 x.x1) ∧ u.cell? ⟨lb, lo + k * 4 + 2, none⟩ = some (.int .u64 x.x2) ∧ u.cell? ⟨lb, lo + k * 4 + 3, none⟩ = some (.int .u64 x.x3) ∧ u.cell? ⟨qb, qo + k * 4, none⟩ = some (.int .u64 y.x0) ∧ u.cell? ⟨qb, qo + k * 4 + 1, none⟩ = some (.int .u64 y.x1) ∧ u.cell? ⟨qb, qo + k * 4 + 2, none⟩ = some (.int .u64 y.x2) ∧ u.cell? ⟨qb, qo + k * 4 + 3, none⟩ = some (.int .u64 y.x3)) (by kernel_rfl) (SK.out _ (Tr.Kp.of (Tr.drew_blW wr))) (fun hHeld => ?_)
      refine wpAnyH_take (i := 0) (oi := { dst := some 50, op := Op.move (Operand.tmp 4), type := 29, pos := "proof.go:48", after := #[], guard := none }) (v := .slice (some ⟨G, 0, none⟩) (224 + 64 * k) cap) rfl (by kernel_rfl) (by kernel_rfl) (by kernel_rfl) (fun _ _ _ h => h) (Or.inl ⟨by rfl, fun w0 hSw => ?_⟩) hHeld ?_
      · (obtain ⟨s0, s1, s2, s3, s4, s5, s6, s7, s8, s9, s10⟩ := hSw; clear s0; go_simp)
      simp only [Act.put, List.setIfInBounds_toArray, List.set_cons_zero, List.set_cons_succ]
      refine wpAnyH_take (i := 1) (oi := { dst := some 51, op := Op.fieldAddr 55 (Operand.tmp 1) 7, type := 0, pos := "proof.go:48", after := #[], guard := none }) (v := .pointer (some ⟨w.heap.size, 28, none⟩)) rfl (by kernel_rfl) (by kernel_rfl) (by kernel_rfl) (fun _ _ _ h => h) (Or.inl ⟨by rfl, fun w0 hSw => ?_⟩) hHeld ?_
      · (obtain ⟨s0, s1, s2, s3, s4, s5, s6, s7, s8, s9, s10⟩ := hSw; clear s0; go_simp)
      simp only [Act.put, List.setIfInBounds_toArray, List.set_cons_zero, List.set_cons_succ]
      refine wpAnyH_take (i := 2) (oi := { dst := some 52, op := Op.load 53 (Operand.tmp 51), type := 53, pos := "proof.go:48", after := #[{ on := 1, ground := Ground.data }], guard := none }) (v := .slice (some ⟨lb, lo, none⟩) n cL) rfl (by kernel_rfl) (by kernel_rfl) (by kernel_rfl) (fun _ _ _ h => h) (Or.inl ⟨by rfl, fun w0 hSw => ?_⟩) hHeld ?_
      · (obtain ⟨s0, s1, s2, s3, s4, s5, s6, s7, s8, s9, s10⟩ := hSw; clear s0; go_simp)
      simp only [Act.put, List.setIfInBounds_toArray, List.set_cons_zero, List.set_cons_succ]
      refine wpAnyH_take (i := 3) (oi := { dst := some 53, op := Op.move (Operand.tmp 5), type := 3, pos := "proof.go:48", after := #[], guard := none }) (v := .int .i64 (k : Int)) rfl (by kernel_rfl) (by kernel_rfl) (by kernel_rfl) (fun _ _ _ h => h) (Or.inl ⟨by rfl, fun w0 hSw => ?_⟩) hHeld ?_
      · (obtain ⟨s0, s1, s2, s3, s4, s5, s6, s7, s8, s9, s10⟩ := hSw; clear s0; go_simp)
      simp only [Act.put, List.setIfInBounds_toArray, List.set_cons_zero, List.set_cons_succ]
      refine wpAnyH_take (i := 4) (oi := { dst := some 54, op := Op.indexAddr 53 (Operand.tmp 52) (Operand.tmp 53), type := 0, pos := "proof.go:48", after := #[{ on := 2, ground := Ground.data }, { on := 3, ground := Ground.data }], guard := none }) (v := .pointer (some ⟨lb, lo + k * 4, none⟩)) rfl (by kernel_rfl) (by kernel_rfl) (by kernel_rfl) (fun _ _ _ h => h) (Or.inl ⟨by rfl, fun w0 hSw => ?_⟩) hHeld ?_
      · (obtain ⟨s0, s1, s2, s3, s4, s5, s6, s7, s8, s9, s10⟩ := hSw; clear s0; go_simp)
      simp only [Act.put, List.setIfInBounds_toArray, List.set_cons_zero, List.set_cons_succ]
      refine wpAnyH_take (i := 5) (oi := { dst := some 55, op := Op.load 52 (Operand.tmp 54), type := 52, pos := "proof.go:48", after := #[{ on := 4, ground := Ground.data }], guard := none }) (v := .agg #[.int .u64 x.x0, .int .u64 x.x1, .int .u64 x.x2, .int .u64 x.x3]) rfl (by kernel_rfl) (by kernel_rfl) (by kernel_rfl) (fun _ _ _ h => h) (Or.inl ⟨by rfl, fun w0 hSw => ?_⟩) hHeld ?_
      · (obtain ⟨s0, s1, s2, s3, s4, s5, s6, s7, s8, s9, s10⟩ := hSw; clear s0; go_simp)
      simp only [Act.put, List.setIfInBounds_toArray, List.set_cons_zero, List.set_cons_succ]
      refine wpAnyH_take (i := 6) (oi := { dst := some 56, op := Op.fieldAddr 55 (Operand.tmp 1) 8, type := 0, pos := "proof.go:48", after := #[], guard := none }) (v := .pointer (some ⟨w.heap.size, 29, none⟩)) rfl (by kernel_rfl) (by kernel_rfl) (by kernel_rfl) (fun _ _ _ h => h) (Or.inl ⟨by rfl, fun w0 hSw => ?_⟩) hHeld ?_
      · (obtain ⟨s0, s1, s2, s3, s4, s5, s6, s7, s8, s9, s10⟩ := hSw; clear s0; go_simp)
      simp only [Act.put, List.setIfInBounds_toArray, List.set_cons_zero, List.set_cons_succ]
      refine wpAnyH_take (i := 7) (oi := { dst := some 57, op := Op.load 53 (Operand.tmp 56), type := 53, pos := "proof.go:48", after := #[{ on := 6, ground := Ground.data }], guard := none }) (v := .slice (some ⟨qb, qo, none⟩) n cR) rfl (by kernel_rfl) (by kernel_rfl) (by kernel_rfl) (fun _ _ _ h => h) (Or.inl ⟨by rfl, fun w0 hSw => ?_⟩) hHeld ?_
      · (obtain ⟨s0, s1, s2, s3, s4, s5, s6, s7, s8, s9, s10⟩ := hSw; clear s0; go_simp)
      simp only [Act.put, List.setIfInBounds_toArray, List.set_cons_zero, List.set_cons_succ]
      refine wpAnyH_take (i := 8) (oi := { dst := some 58, op := Op.move (Operand.tmp 5), type := 3, pos := "proof.go:48", after := #[], guard := none }) (v := .int .i64 (k : Int)) rfl (by kernel_rfl) (by kernel_rfl) (by kernel_rfl) (fun _ _ _ h => h) (Or.inl ⟨by rfl, fun w0 hSw => ?_⟩) hHeld ?_
      · (obtain ⟨s0, s1, s2, s3, s4, s5, s6, s7, s8, s9, s10⟩ := hSw; clear s0; go_simp)
      simp only [Act.put, List.setIfInBounds_toArray, List.set_cons_zero, List.set_cons_succ]
      refine wpAnyH_take (i := 9) (oi := { dst := some 59, op := Op.indexAddr 53 (Operand.tmp 57) (Operand.tmp 58), type := 0, pos := "proof.go:48", after := #[{ on := 7, ground := Ground.data }, { on := 8, ground := Ground.data }], guard := none }) (v := .pointer (some ⟨qb, qo + k * 4, none⟩)) rfl (by kernel_rfl) (by kernel_rfl) (by kernel_rfl) (fun _ _ _ h => h) (Or.inl ⟨by rfl, fun w0 hSw => ?_⟩) hHeld ?_
      · (obtain ⟨s0, s1, s2, s3, s4, s5, s6, s7, s8, s9, s10⟩ := hSw; clear s0; go_simp)
      simp only [Act.put, List.setIfInBounds_toArray, List.set_cons_zero, List.set_cons_succ]
      refine wpAnyH_take (i := 10) (oi := { dst := some 60, op := Op.load 52 (Operand.tmp 59), type := 52, pos := "proof.go:48", after := #[{ on := 9, ground := Ground.data }], guard := none }) (v := .agg #[.int .u64 y.x0, .int .u64 y.x1, .int .u64 y.x2, .int .u64 y.x3]) rfl (by kernel_rfl) (by kernel_rfl) (by kernel_rfl) (fun _ _ _ h => h) (Or.inl ⟨by rfl, fun w0 hSw => ?_⟩) hHeld ?_
      · (obtain ⟨s0, s1, s2, s3, s4, s5, s6, s7, s8, s9, s10⟩ := hSw; clear s0; go_simp)
      simp only [Act.put, List.setIfInBounds_toArray, List.set_cons_zero, List.set_cons_succ]
      refine wpAnyH_ready (rs := [11]) (by kernel_rfl) (by simp) ?_
      refine AllReadyH.cons (o := { dst := some 61, op := Op.buildSlice 53 2 #[(0, Operand.tmp 55), (1, Operand.tmp 60)], type := 53, pos := "proof.go:48", after := #[{ on := 5, ground := Ground.data }, { on := 10, ground := Ground.data }], guard := none }) rfl (fun K hK => ?_) AllReadyH.nil
      have HH := hidden hHeld
      clear hHeld
      go_wp2_with fail
      have hb := hidden (HH.out.1.trans (Tr.Kp.of (bl_alloc _ (.cells #[.int .u64 x.x0, .int .u64 x.x1, .int .u64 x.x2, .int .u64 x.x3, .int .u64 y.x0, .int .u64 y.x1, .int .u64 y.x2, .int .u64 y.x3] 52))))
      refine hK.out _ _ (SK.out _ hb.out) (fun hHeld1 => ?_)
      clear hK K
      refine wpAnyH_ready (rs := [12]) (by kernel_rfl) (by simp) ?_
      refine AllReadyH.cons (o := { dst := some 62, op := Op.call { callee := Callee.value (Operand.func 26), args := #[Operand.tmp 50, Operand.tmp 61], argTypes := #[29, 53] }, type := 29, pos := "proof.go:48", after := #[{ on := 0, ground := Ground.data }, { on := 11, ground := Ground.data }], guard := none }) rfl (fun K hK => ?_) AllReadyH.nil
      clear hHeld1
      go_simp
      refine (CC.out _ (Tr.drew_blW wr)).mono ?_
      rintro e wf ⟨rfl, ef, kf⟩
      have EF := hidden ef
      have KF := hidden kf
      clear ef kf
      go_wp2_with fail
      refine hK.out _ _ (SK.out _ KF.out) (fun hz => ?_)
      clear hK K hz
      refine wpAnyH_ready (rs := [13]) (by kernel_rfl) (by simp) ?_
      refine AllReadyH.cons (o := { dst := some 4, op := Op.assign (Operand.tmp 62), type := 29, pos := "proof.go:48", after := #[{ on := 12, ground := Ground.data }, { on := 12, ground := Ground.chain }, { on := 0, ground := Ground.phase }, { on := 1, ground := Ground.phase }, { on := 2, ground := Ground.phase }, { on := 3, ground := Ground.phase }, { on := 4, ground := Ground.phase }, { on := 5, ground := Ground.phase }, { on := 6, ground := Ground.phase }, { on := 7, ground := Ground.phase }, { on := 8, ground := Ground.phase }, { on := 9, ground := Ground.phase }, { on := 10, ground := Ground.phase }, { on := 11, ground := Ground.phase }, { on := 12, ground := Ground.phase }], guard := none }) rfl (fun K hK => ?_) AllReadyH.nil
      refine ready_assign rfl _ rfl (.slice (some ⟨G, 0, none⟩) mm cap) (by rfl) (some 4) rfl ?_
      simp only [Act.put, List.setIfInBounds_toArray, List.set_cons_zero, List.set_cons_succ]
      refine hK.out _ _ (SK.out _ KF.out) (fun hz => ?_)
      clear hK K hz CC SK
      refine wpAnyH_done (by kernel_rfl) ?_ _
      refine NoPanic.normal ?_
      go_wp2_with fail
      go_roundw
      case rel => exact ⟨k + 1, by omega, by go_num, by rw [EM.out], EF⟩
      case measure => simp [intOf]; omega
    · obtain rfl : k = n := by omega
      have lq : ¬ (k : Int) < (k : Int) := by omega
      have c30 := ES.out.box 30 _ rfl
      have c31 := ES.out.box 31 _ rfl
      have c32 := ES.out.box 32 _ rfl
      have c33 := ES.out.box 33 _ rfl
      have c34 := ES.out.box 34 _ rfl
      have c35 := ES.out.box 35 _ rfl
      have c36 := ES.out.box 36 _ rfl
      have c37 := ES.out.box 37 _ rfl
      simp only [Nat.zero_add] at c30 c31 c32 c33 c34 c35 c36 c37
      have KB := hidden (bl_alloc wr (.cells (svs 2 (f2 (s 7) (s 8))).toArray 24))
      have RL : Hid (Rl (wr.alloc (.cells (svs 2 (f2 (s 7) (s 8))).toArray 24)) wr.heap.size 0 2 (f2 (s 7) (s 8))) := hidden (rl_of (range_newM wr (svs 2 (f2 (s 7) (s 8))) 24))
      have C4 := (appAllS w.heap.size G cap wr.heap.size 2 2 (ef 7 s ++ rb k l r) (f2 (s 7) (s 8)) _ (ES.out.tb.keep KB.out) HG.out.2.2.2.2.1 (Nat.ne_of_gt (ES.out.own.lt _ rfl).2) (by omega) (fun j hj => by
          obtain rfl | rfl : j = 0 ∨ j = 1 := (by omega)
          · exact HOK.out.1 7 (by omega)
          · exact HOK.out.1 8 (by omega)) RL.out (by have := HCC.out; simp only [List.length_append, ef_len, rb_len]; omega) HCAP.out (Tr.own_stay ES.out.own KB.out))
      rw [show svs 2 (f2 (s 7) (s 8)) = [.int .u64 (s 7).x0, .int .u64 (s 7).x1, .int .u64 (s 7).x2, .int .u64 (s 7).x3, .int .u64 (s 8).x0, .int .u64 (s 8).x1, .int .u64 (s 8).x2, .int .u64 (s 8).x3] from rfl] at C4 KB
      have el : (ef 7 s ++ rb k l r).length = 224 + 64 * k := by simp only [List.length_append, ef_len, rb_len]
      have ep : ef 7 s ++ rb k l r ++ ef 2 (f2 (s 7) (s 8)) = pe k s l r := by rw [ef_2]; rfl
      have e5 : (pe k s l r).length = 224 + 64 * k + 32 * 2 := by rw [pe_len]; omega
      rw [el, ep, ← e5] at C4
      have CL := hidden C4
      clear C4 RL el ep e5
      go_wp2_with (first | (go_at_call 27; refine (CL.out).mono ?_; rintro e W5 ⟨rfl, o2, k2⟩; have O5 := hidden o2; have B5 := hidden (Tr.below_trans ES.out.bel (((Tr.Kp.of KB.out).trans k2).below HG.out.1 ES.out.bel.size)); clear CL KB o2 k2 c30 c31 c32 c33 c34 c35 c36 c37))
      refine bodyPost_ret (v := .tuple #[.slice (some ⟨G, 0, none⟩) (pe k s l r).length cap, .int .i64 0]) (by simp [results, Tryz.results6, go_sem]) rfl ⟨G, rfl, O5.out, B5.out⟩
end Go.Proofs.YtkfkmndhbfeagaaGreatDoor
