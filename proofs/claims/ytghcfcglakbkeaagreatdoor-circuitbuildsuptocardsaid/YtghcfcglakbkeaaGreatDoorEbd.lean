import Derived.Test.YtghcfcglakbkeaaGreatDoorEba
namespace Go.Proofs.YtghcfcglakbkeaaGreatDoor
set_option maxRecDepth 100000
set_option maxHeartbeats 16000000
open Go.RowKit
set_option linter.unusedVariables false
set_option linter.unusedSimpArgs false
open Cm (Wr Tm co bf Ls lf ins Eqm)
namespace Ci
theorem own_blk {w : World} {base sz : Nat} {e : TypeId} {u : Value} {n : Nat} {xs : List Value} {k : Nat} (h : w.ownsRow base e sz u n xs) (hk : u.ownBlock = some k) : ∃ cur, w.heap[k]? = some (.cells cur e (0, 0)) := by
 rcases h.2 with ⟨h1, _⟩ | ⟨g, c, cur, h1, _, h3, _⟩
 ·rw [h1] at hk; cases hk
 ·rw [h1] at hk
  simp only [Value.ownBlock, Option.some.injEq] at hk
  subst hk
  exact ⟨cur, h3⟩
theorem own_fzK {w w' : World} {s : Nat} {v : Value} {arr : Array Value} {ts tr : TypeId} {base n0 sz0 : Nat} {vs : List Value} (hf : Fz s v w w') (hs : w.heap[s]? = some (.cells arr ts (0, 0))) (hr : w.ownsRow base tr sz0 v n0 vs)
  {b1 sz : Nat} {e : TypeId} {u : Value} {n : Nat} {xs : List Value} (h : w.ownsRow b1 e sz u n xs) (h1 : e ≠ ts) (h2 : e ≠ tr) : w'.ownsRow b1 e sz u n xs := ⟨h.1, by
 rcases h.2 with h0 | ⟨g, c, cur, e1, e2, e3, e4⟩
 ·exact .inl h0
 ·refine .inr ⟨g, c, cur, e1, e2, (hf.block g (Array.getElem?_eq_some_iff.1 e3).1 (fun e' => ?_) (fun e' => ?_)).trans e3, e4⟩
  ·subst e'
   rw [hs] at e3
   simp only [Option.some.injEq, Obj.cells.injEq] at e3
   exact h1 e3.2.1.symm
  ·obtain ⟨cur', e5⟩ := own_blk hr e'
   rw [e5] at e3
   simp only [Option.some.injEq, Obj.cells.injEq] at e3
   exact h2 e3.2.1.symm⟩
theorem wp_appLDA {w : World} {o : Oper} {a : Act} {K : Act → World → Prop} {Q' : Exit → Act → World → Prop} (s' x : Operand) (ho : o.op = .call { callee := .builtin .append, args := #[s', x], argTypes := #[95, 95] }) {base s m Kg : Nat} {Pv : Option Addr} {nq cv : Nat} {vs : List Value} {Q : List (List Tm)} (h : Dy base w s m Kg (.slice Pv nq cv) vs Q) (hq : Q.length = nq) (hq2 : nq ≤ 4096) (tb k : Nat) (us : List Value) (hk : us.length = k) (hk2 : k ≤ 2) (hs : a.eval s' = .slice Pv nq cv) (hx : a.eval x = .slice (some ⟨tb, 0, none⟩) k k) (hc : ∀ j u, us[j]? = some u → w.cell? ((⟨tb, 0, none⟩ : Addr).add j) = some u) (h1 : ∀ u ∈ us, u.oneCell' = true)
  (hK : ∀ P4 c4 w', w'.ownsRow base 72 1 (.slice P4 (nq + k) c4) (nq + k) (vs ++ us) → w.grownBy w' (Value.slice Pv nq cv).ownBlock → (∀ k', (Value.slice P4 (nq + k) c4).ownBlock = some k' → (Value.slice Pv nq cv).ownBlock = some k' ∨ w.heap.size ≤ k') → K (a.put o.dst (.slice P4 (nq + k) c4)) w') : o.wp Tryz.prog a w K Q' := by
 subst hq
 refine wp_appO s' x 95 ho base 72 _ _ 1 24 lluD llinfoD llz0D llz1D llz2D rfl (by decide) _ Q.length vs hs h.row ⟨tb, 0, none⟩ k k us hx (by omega) hc h1 (by unfold maxLen; omega) (by omega) (by have := h.lt; have := h.bs; omega) (fun v' w' ho' hg' => ?_)
 obtain ⟨P4, c4, rfl⟩ := own_sh1 ho'
 exact hK P4 c4 w' ho' hg'.g hg'.o
def pEbd0 : String := "circuit.go:191"
def pEbd1 : String := "circuit.go:192"
def dm8Ao_0 : Oper := oO 54 (Op.move (Operand.tmp 0)) 47 pEbd0 #[]
def dm8Ao_1 : Oper := oO 55 (Op.move (Operand.tmp 0)) 47 pEbd0 #[]
def dm8Ao_2 : Oper := oO 56 (Op.nilCheck (Operand.tmp 55)) 0 pEbd0 #[DD 1]
def dm8Ao_3 : Oper := oO 57 (Op.fieldAddr 97 (Operand.tmp 56) 2) 0 pEbd0 #[DD 2]
def dm8Ao_4 : Oper := oO 58 (Op.load 95 (Operand.tmp 57)) 95 pEbd0 #[DD 3]
def dm8Ao_5 : Oper := oO 59 (Op.load 67 (Operand.tmp 12)) 67 pEbd0 #[]
def dm8Ao_6 : Oper := oO 60 (Op.call { callee := Callee.value (Operand.func 56), args := #[Operand.tmp 59], argTypes := #[67] }) 72 pEbd0 #[DD 5]
def dm8Ao_7 : Oper := oO 61 (Op.move (Operand.tmp 1)) 72 pEbd0 #[]
def dm8Ao_8 : Oper := oO 62 (Op.call { callee := Callee.value (Operand.func 57), args := #[Operand.tmp 60, Operand.tmp 61], argTypes := #[72, 72] }) 72 pEbd0 #[DD 6, DD 7, CH 6]
def dm8Ao_9 : Oper := oO 63 (Op.load 67 (Operand.tmp 13)) 67 pEbd0 #[]
def dm8Ao_10 : Oper := oO 64 (Op.call { callee := Callee.value (Operand.func 56), args := #[Operand.tmp 63], argTypes := #[67] }) 72 pEbd0 #[DD 9, CH 8]
def dm8Ao_11 : Oper := oO 65 (Op.move (Operand.tmp 2)) 72 pEbd0 #[]
def dm8Ao_12 : Oper := oO 66 (Op.call { callee := Callee.value (Operand.func 57), args := #[Operand.tmp 64, Operand.tmp 65], argTypes := #[72, 72] }) 72 pEbd0 #[DD 10, DD 11, CH 10]
def dm8Ao_13 : Oper := oO 67 (Op.buildSlice 95 2 #[(0, Operand.tmp 62), (1, Operand.tmp 66)]) 95 pEbd0 #[DD 8, DD 12]
def dm8Ao_14 : Oper := oO 68 (Op.call { callee := Callee.builtin Builtin.append, args := #[Operand.tmp 58, Operand.tmp 67], argTypes := #[95, 95] }) 95 pEbd0 #[DD 4, DD 13, CH 12]
def dm8Ao_15 : Oper := oO 69 (Op.nilCheck (Operand.tmp 54)) 0 pEbd0 #[DD 0, PH 0, PH 1, PH 2, PH 3, PH 4, PH 5, PH 6, PH 7, PH 8, PH 9, PH 10, PH 11, PH 12, PH 13, PH 14]
def dm8Ao_16 : Oper := oO 70 (Op.fieldAddr 97 (Operand.tmp 69) 2) 0 pEbd0 #[DD 15, PH 0, PH 1, PH 2, PH 3, PH 4, PH 5, PH 6, PH 7, PH 8, PH 9, PH 10, PH 11, PH 12, PH 13, PH 14]
def dm8Ao_17 : Oper := oN (Op.store 95 (Operand.tmp 70) (Operand.tmp 68)) pEbd0 #[DD 16, DD 14, CH 14, PH 0, PH 1, PH 2, PH 3, PH 4, PH 5, PH 6, PH 7, PH 8, PH 9, PH 10, PH 11, PH 12, PH 13, PH 14]
def dm8Ao : Array Oper := #[dm8Ao_0, dm8Ao_1, dm8Ao_2, dm8Ao_3, dm8Ao_4, dm8Ao_5, dm8Ao_6, dm8Ao_7, dm8Ao_8, dm8Ao_9, dm8Ao_10, dm8Ao_11, dm8Ao_12, dm8Ao_13, dm8Ao_14, dm8Ao_15, dm8Ao_16, dm8Ao_17]
theorem dm8A (Q : Exit → Act → World → Prop) (base s m Kg nq cv x1 x2 B1 B2 na ca nb cb : Nat) (Pv Pa Pb : Option Addr) (qk qi rk ri : Int) (vs : List Value) (QQ : List (List Tm)) (X Y : List Tm) (u3 u4 u5 u6 u7 u8 u9 aa ab ad ae af ag ah ai aj ak al am an ao ap aq au av aw ax ay az aA aB aC aD aE aF aG aH aI aJ aK aL aM aN aO aP aQ aR aS aT aU aV aW aX aY aZ a2 a3 a4 a5 a6 a7 a8 a9 ba bb bc bd be bg bh : Value) (W : World)
  (sy : Dy base W s m Kg (.slice Pv nq cv) vs QQ) (HNQ : Hid (QQ.length = nq)) (HQ2 : Hid (nq ≤ 4096)) (HX1 : Hid (X.length = x1)) (HX2 : Hid (Y.length = x2)) (LX : Hid (Ls Sm.L X)) (LY : Hid (Ls Sm.L Y))
  (n1s : B1 ≠ s) (n1v : (Value.slice Pv nq cv).ownBlock ≠ some B1) (n2s : B2 ≠ s) (n2v : (Value.slice Pv nq cv).ownBlock ≠ some B2)
  (a0 : W.cell? ⟨B1, 0, none⟩ = some (.int .i64 qk)) (a1 : W.cell? ⟨B1, 1, none⟩ = some (.int .i64 qi)) (b0 : W.cell? ⟨B2, 0, none⟩ = some (.int .i64 rk)) (b1 : W.cell? ⟨B2, 1, none⟩ = some (.int .i64 ri))
  (C6 : Hid (∀ y, Calls Tryz.prog 56 #[.agg #[.int .i64 qk, .int .i64 qi]] y fun e w' => ∃ P c, e = .returned (.slice P 1 c) ∧ Lt w' P 1 (ft [((qk, qi), 1)]) ∧ Below y.heap.size y w'))
  (C8 : Hid (∀ P c y, Fy s (.slice Pv nq cv) s W y → Lt y P 1 (ft [((qk, qi), 1)]) → Calls Tryz.prog 57 #[.slice P 1 c, .slice Pa na ca] y fun e w' => ∃ R1 e1, e = .returned (.slice R1 x1 e1) ∧ Dl1 y X (.slice R1 x1 e1) x1 w'))
  (C10 : Hid (∀ y, Calls Tryz.prog 56 #[.agg #[.int .i64 rk, .int .i64 ri]] y fun e w' => ∃ P c, e = .returned (.slice P 1 c) ∧ Lt w' P 1 (ft [((rk, ri), 1)]) ∧ Below y.heap.size y w'))
  (C12 : Hid (∀ P c y, Fy s (.slice Pv nq cv) s W y → Lt y P 1 (ft [((rk, ri), 1)]) → Calls Tryz.prog 57 #[.slice P 1 c, .slice Pb nb cb] y fun e w' => ∃ R1 e1, e = .returned (.slice R1 x2 e1) ∧ Dl1 y Y (.slice R1 x2 e1) x2 w'))
  (HQ : Hid (∀ (wz : World) (O1 O2 R1 R2 P4 : Option Addr) (o1 o2 e1 e2 c4 tb : Nat), Fy s (.slice Pv nq cv) s W wz → Dy base wz s m Kg (.slice P4 (nq + 2) c4) (vs ++ [.slice R1 x1 e1, .slice R2 x2 e2]) (QQ ++ [X, Y]) → (∀ k, (Value.slice P4 (nq + 2) c4).ownBlock = some k → (Value.slice Pv nq cv).ownBlock = some k ∨ W.heap.size ≤ k) → Q .normal ⟨#[.pointer (some ⟨s, 0, none⟩), .slice Pa na ca, .slice Pb nb cb, u3, u4, u5, u6, u7, u8, u9, aa, ab, .pointer (some ⟨B1, 0, none⟩), .pointer (some ⟨B2, 0, none⟩), ad, ae, af, ag, ah, ai, aj, ak, al, am, an, ao, ap, aq, au, av, aw, ax, ay, az, aA, aB, aC, aD, aE, aF, aG, aH, aI, aJ, aK, aL, aM, aN, aO, aP, aQ, aR, aS, aT, .pointer (some ⟨s, 0, none⟩), .pointer (some ⟨s, 0, none⟩), .pointer (some ⟨s, 0, none⟩), .pointer (some ⟨s, 2, none⟩), .slice Pv nq cv, .agg #[.int .i64 qk, .int .i64 qi], .slice O1 1 o1, .slice Pa na ca, .slice R1 x1 e1, .agg #[.int .i64 rk, .int .i64 ri], .slice O2 1 o2, .slice Pb nb cb, .slice R2 x2 e2, .slice (some ⟨tb, 0, none⟩) 2 2, .slice P4 (nq + 2) c4, .pointer (some ⟨s, 0, none⟩), .pointer (some ⟨s, 2, none⟩), bd, be, bg, bh], []⟩ wz)) : (Code.region 8 dm8Ao true).wp Tryz.prog Q ⟨#[.pointer (some ⟨s, 0, none⟩), .slice Pa na ca, .slice Pb nb cb, u3, u4, u5, u6, u7, u8, u9, aa, ab, .pointer (some ⟨B1, 0, none⟩), .pointer (some ⟨B2, 0, none⟩), ad, ae, af, ag, ah, ai, aj, ak, al, am, an, ao, ap, aq, au, av, aw, ax, ay, az, aA, aB, aC, aD, aE, aF, aG, aH, aI, aJ, aK, aL, aM, aN, aO, aP, aQ, aR, aS, aT, aU, aV, aW, aX, aY, aZ, a2, a3, a4, a5, a6, a7, a8, a9, ba, bb, bc, bd, be, bg, bh], []⟩ W := by
 have SYF := Hn (sy.keep (bl_drew W))
 clear sy
 unfold dm8Ao
 refine wp_region_noPanic ?_
 refine wp_region_held_drew (S := fun x => Fy s (.slice Pv nq cv) s W x) (by kernel_rfl) (Fy.drew0 W) (fun hH0 => ?_)
 refine tj 0 dm8Ao_0 (.pointer (some ⟨s, 0, none⟩)) hH0 (fun w0 hSw => ?_) ?_
 ·(unfold dm8Ao_0 oO; clear hSw; go_simp)
 simp only [dm8Ao_0, oO, Act.put, sA, sB, sC]
 refine tj 1 dm8Ao_1 (.pointer (some ⟨s, 0, none⟩)) hH0 (fun w0 hSw => ?_) ?_
 ·(unfold dm8Ao_1 oO; clear hSw; go_simp)
 simp only [dm8Ao_1, oO, Act.put, sA, sB, sC]
 refine tj 5 dm8Ao_5 (.agg #[.int .i64 qk, .int .i64 qi]) hH0 (fun w0 hSw => ?_) ?_
 ·(unfold dm8Ao_5 oO; have hS : Fy s (.slice Pv nq cv) s W w0 := hSw; have a0 := hS.cl a0 n1s n1v n1s; have a1 := hS.cl a1 n1s n1v n1s; clear hS hSw; go_simp)
 simp only [dm8Ao_5, oO, Act.put, sA, sB, sC]
 refine tj 7 dm8Ao_7 (.slice Pa na ca) hH0 (fun w0 hSw => ?_) ?_
 ·(unfold dm8Ao_7 oO; clear hSw; go_simp)
 simp only [dm8Ao_7, oO, Act.put, sA, sB, sC]
 refine tj 9 dm8Ao_9 (.agg #[.int .i64 rk, .int .i64 ri]) hH0 (fun w0 hSw => ?_) ?_
 ·(unfold dm8Ao_9 oO; have hS : Fy s (.slice Pv nq cv) s W w0 := hSw; have a0 := hS.cl b0 n2s n2v n2s; have a1 := hS.cl b1 n2s n2v n2s; clear hS hSw; go_simp)
 simp only [dm8Ao_9, oO, Act.put, sA, sB, sC]
 refine tj 11 dm8Ao_11 (.slice Pb nb cb) hH0 (fun w0 hSw => ?_) ?_
 ·(unfold dm8Ao_11 oO; clear hSw; go_simp)
 simp only [dm8Ao_11, oO, Act.put, sA, sB, sC]
 refine tj 2 dm8Ao_2 (.pointer (some ⟨s, 0, none⟩)) hH0 (fun w0 hSw => ?_) ?_
 ·(unfold dm8Ao_2 oO; clear hSw; go_simp)
 simp only [dm8Ao_2, oO, Act.put, sA, sB, sC]
 refine tj 3 dm8Ao_3 (.pointer (some ⟨s, 2, none⟩)) hH0 (fun w0 hSw => ?_) ?_
 ·(unfold dm8Ao_3 oO; clear hSw; go_simp)
 simp only [dm8Ao_3, oO, Act.put, sA, sB, sC]
 refine ar [4, 6] ?_
 refine ac dm8Ao_4 (fun K hK => ?_) (ac dm8Ao_6 (fun K hK => ?_) AllReadyH.nil)
 ·unfold dm8Ao_4 oO
  have HH := Hn hH0
  clear hH0
  refine wp_loadCD _ rfl s 2 nq cv Pv rfl SYF.out.c2 ?_
  simp only [Act.put, sA, sB, sC]
  have SN := HH
  clear HH
  refine hK.out _ _ SN.out (fun hH1 => ?_)
  clear hK K SN
  refine ar [6] ?_
  refine ac dm8Ao_6 (fun K hK => ?_) AllReadyH.nil
  unfold dm8Ao_6 oO
  have HH := Hn hH1
  clear hH1
  go_simp
  refine (C6.out _).mono ?_
  rintro e wn2 ⟨O1, o1, rfl, hl, hb⟩
  have SN := Hn (HH.out.bel hb)
  replace SYF := Hn (SYF.out.keep hb)
  have L1 := Hn (hl)
  clear HH C6 hl hb
  go_wp2_with fail
  refine hK.out _ _ SN.out (fun hH2 => ?_)
  clear hK K SN
  refine ar [8] ?_
  refine ac dm8Ao_8 (fun K hK => ?_) AllReadyH.nil
  unfold dm8Ao_8 oO
  have HH := Hn hH2
  clear hH2
  go_simp
  refine (C8.out O1 o1 _ HH.out L1.out).mono ?_
  rintro e wn3 ⟨R1, e1, rfl, hq⟩
  have SN := Hn (HH.out.bel hq.2)
  replace SYF := Hn (SYF.out.keep hq.2)
  have OU := Hn (own_monoT hq.1 (Nat.zero_le _))
  clear HH C8 hq L1
  go_wp2_with fail
  refine hK.out _ _ SN.out (fun hH3 => ?_)
  clear hK K SN
  refine ar [10] ?_
  refine ac dm8Ao_10 (fun K hK => ?_) AllReadyH.nil
  unfold dm8Ao_10 oO
  have HH := Hn hH3
  clear hH3
  go_simp
  refine (C10.out _).mono ?_
  rintro e wn4 ⟨O2, o2, rfl, hl, hb⟩
  have SN := Hn (HH.out.bel hb)
  replace SYF := Hn (SYF.out.keep hb)
  replace OU := Hn (own_keepT OU.out hb)
  have L2 := Hn (hl)
  clear HH C10 hl hb
  go_wp2_with fail
  refine hK.out _ _ SN.out (fun hH4 => ?_)
  clear hK K SN
  refine ar [12] ?_
  refine ac dm8Ao_12 (fun K hK => ?_) AllReadyH.nil
  unfold dm8Ao_12 oO
  have HH := Hn hH4
  clear hH4
  go_simp
  refine (C12.out O2 o2 _ HH.out L2.out).mono ?_
  rintro e wn5 ⟨R2, e2, rfl, hq⟩
  have SN := Hn (HH.out.bel hq.2)
  replace SYF := Hn (SYF.out.keep hq.2)
  replace OU := Hn (own_keepT OU.out hq.2)
  have OV := Hn (own_monoT hq.1 (Nat.zero_le _))
  clear HH C12 hq L2
  go_wp2_with fail
  refine hK.out _ _ SN.out (fun hH5 => ?_)
  clear hK K SN
  refine ar [13] ?_
  refine ac dm8Ao_13 (fun K hK => ?_) AllReadyH.nil
  unfold dm8Ao_13 oO
  have HH := Hn hH5
  clear hH5
  refine wp_buildL2D _ _ rfl R1 R2 x1 e1 x2 e2 rfl rfl (fun tb wn6 htb hwq => ?_)
  have SN := Hn ((by rw [hwq]; exact HH.out.bel (bl_alloc _ _) : Fy s (.slice Pv nq cv) s W wn6))
  replace SYF := Hn ((by rw [hwq]; exact SYF.out.keep (bl_alloc _ _) : Dy base wn6 s m Kg (.slice Pv nq cv) vs QQ))
  replace OU := Hn ((by rw [hwq]; exact own_keepT OU.out (bl_alloc _ _) : World.ownsRow wn6 0 116 6 (.slice R1 x1 e1) x1 (tls X)))
  replace OV := Hn ((by rw [hwq]; exact own_keepT OV.out (bl_alloc _ _) : World.ownsRow wn6 0 116 6 (.slice R2 x2 e2) x2 (tls Y)))
  have CN := Hn ((by rw [hwq, htb]; exact cells_newT _ [.slice R1 x1 e1, .slice R2 x2 e2] _ : ∀ j u, ([.slice R1 x1 e1, .slice R2 x2 e2] : List Value)[j]? = some u → World.cell? wn6 ((⟨tb, 0, none⟩ : Addr).add j) = some u))
  clear HH htb hwq
  simp only [Act.put, sA, sB, sC]
  refine hK.out _ _ SN.out (fun hH6 => ?_)
  clear hK K SN
  refine ar [14] ?_
  refine ac dm8Ao_14 (fun K hK => ?_) AllReadyH.nil
  unfold dm8Ao_14 oO
  have HH := Hn hH6
  clear hH6
  refine wp_appLDA _ _ rfl SYF.out HNQ.out HQ2.out tb 2 [.slice R1 x1 e1, .slice R2 x2 e2] rfl (by omega) rfl rfl CN.out (by simp [Value.oneCell']) (fun P4 c4 wn7 hO hG hF => ?_)
  have SN := Hn (HH.out.row hG)
  have FV := Hn (fun k hk => (hF k hk).imp id (Nat.le_trans HH.out.size))
  have FIN := Hn ((new_more2D SYF.out HNQ.out HX1.out HX2.out OU.out OV.out LX.out LY.out hO hG))
  have TH := Hn (there_row2D SYF.out.h SYF.out.row hG)
  clear HH hO hG hF CN
  simp only [Act.put, sA, sB, sC]
  refine hK.out _ _ SN.out (fun hH7 => ?_)
  clear hK K SN
  refine tj 15 dm8Ao_15 (.pointer (some ⟨s, 0, none⟩)) hH7 (fun w0 hSw => ?_) ?_
  ·(unfold dm8Ao_15 oO; clear hSw; go_simp)
  simp only [dm8Ao_15, oO, Act.put, sA, sB, sC]
  refine tj 16 dm8Ao_16 (.pointer (some ⟨s, 2, none⟩)) hH7 (fun w0 hSw => ?_) ?_
  ·(unfold dm8Ao_16 oO; clear hSw; go_simp)
  simp only [dm8Ao_16, oO, Act.put, sA, sB, sC]
  refine ar [17] ?_
  refine ac dm8Ao_17 (fun K hK => ?_) AllReadyH.nil
  unfold dm8Ao_17 oN
  have HH := Hn hH7
  clear hH7
  refine wp_storeV 95 _ _ rfl s 2 P4 (nq + 2) c4 (by rfl) (by rfl) TH.out i1_LD rfl (fun wn8 hw => ?_)
  have SN := Hn (HH.out.sys (gb_setCells s [.slice P4 (nq + 2) c4] 2 _))
  have FE := Hn ((fin_ofD FIN.out hw : Dy base _ s m Kg (.slice P4 (nq + 2) c4) (vs ++ [.slice R1 x1 e1, .slice R2 x2 e2]) (QQ ++ [X, Y])))
  rw [← hw] at SN
  clear HH hw
  refine hK.out _ _ SN.out (fun hH8 => ?_)
  clear hK K SN
  have HH := Hn hH8
  have FQ := Hn (HQ.out _ O1 O2 R1 R2 P4 o1 o2 e1 e2 c4 tb HH.out FE.out FV.out)
  refine wpAnyH_done (by kernel_rfl) ?_ _
  refine NoPanic.normal ?_
  exact FQ.out
 ·unfold dm8Ao_6 oO
  have HH := Hn hH0
  clear hH0
  go_simp
  refine (C6.out _).mono ?_
  rintro e wn1 ⟨O1, o1, rfl, hl, hb⟩
  have SN := Hn (HH.out.bel hb)
  replace SYF := Hn (SYF.out.keep hb)
  have L1 := Hn (hl)
  clear HH C6 hl hb
  go_wp2_with fail
  refine hK.out _ _ SN.out (fun hH1 => ?_)
  clear hK K SN
  refine ar [4, 8] ?_
  refine ac dm8Ao_4 (fun K hK => ?_) (ac dm8Ao_8 (fun K hK => ?_) AllReadyH.nil)
  ·unfold dm8Ao_4 oO
   have HH := Hn hH1
   clear hH1
   refine wp_loadCD _ rfl s 2 nq cv Pv rfl SYF.out.c2 ?_
   simp only [Act.put, sA, sB, sC]
   have SN := HH
   clear HH
   refine hK.out _ _ SN.out (fun hH2 => ?_)
   clear hK K SN
   refine ar [8] ?_
   refine ac dm8Ao_8 (fun K hK => ?_) AllReadyH.nil
   unfold dm8Ao_8 oO
   have HH := Hn hH2
   clear hH2
   go_simp
   refine (C8.out O1 o1 _ HH.out L1.out).mono ?_
   rintro e wn3 ⟨R1, e1, rfl, hq⟩
   have SN := Hn (HH.out.bel hq.2)
   replace SYF := Hn (SYF.out.keep hq.2)
   have OU := Hn (own_monoT hq.1 (Nat.zero_le _))
   clear HH C8 hq L1
   go_wp2_with fail
   refine hK.out _ _ SN.out (fun hH3 => ?_)
   clear hK K SN
   refine ar [10] ?_
   refine ac dm8Ao_10 (fun K hK => ?_) AllReadyH.nil
   unfold dm8Ao_10 oO
   have HH := Hn hH3
   clear hH3
   go_simp
   refine (C10.out _).mono ?_
   rintro e wn4 ⟨O2, o2, rfl, hl, hb⟩
   have SN := Hn (HH.out.bel hb)
   replace SYF := Hn (SYF.out.keep hb)
   replace OU := Hn (own_keepT OU.out hb)
   have L2 := Hn (hl)
   clear HH C10 hl hb
   go_wp2_with fail
   refine hK.out _ _ SN.out (fun hH4 => ?_)
   clear hK K SN
   refine ar [12] ?_
   refine ac dm8Ao_12 (fun K hK => ?_) AllReadyH.nil
   unfold dm8Ao_12 oO
   have HH := Hn hH4
   clear hH4
   go_simp
   refine (C12.out O2 o2 _ HH.out L2.out).mono ?_
   rintro e wn5 ⟨R2, e2, rfl, hq⟩
   have SN := Hn (HH.out.bel hq.2)
   replace SYF := Hn (SYF.out.keep hq.2)
   replace OU := Hn (own_keepT OU.out hq.2)
   have OV := Hn (own_monoT hq.1 (Nat.zero_le _))
   clear HH C12 hq L2
   go_wp2_with fail
   refine hK.out _ _ SN.out (fun hH5 => ?_)
   clear hK K SN
   refine ar [13] ?_
   refine ac dm8Ao_13 (fun K hK => ?_) AllReadyH.nil
   unfold dm8Ao_13 oO
   have HH := Hn hH5
   clear hH5
   refine wp_buildL2D _ _ rfl R1 R2 x1 e1 x2 e2 rfl rfl (fun tb wn6 htb hwq => ?_)
   have SN := Hn ((by rw [hwq]; exact HH.out.bel (bl_alloc _ _) : Fy s (.slice Pv nq cv) s W wn6))
   replace SYF := Hn ((by rw [hwq]; exact SYF.out.keep (bl_alloc _ _) : Dy base wn6 s m Kg (.slice Pv nq cv) vs QQ))
   replace OU := Hn ((by rw [hwq]; exact own_keepT OU.out (bl_alloc _ _) : World.ownsRow wn6 0 116 6 (.slice R1 x1 e1) x1 (tls X)))
   replace OV := Hn ((by rw [hwq]; exact own_keepT OV.out (bl_alloc _ _) : World.ownsRow wn6 0 116 6 (.slice R2 x2 e2) x2 (tls Y)))
   have CN := Hn ((by rw [hwq, htb]; exact cells_newT _ [.slice R1 x1 e1, .slice R2 x2 e2] _ : ∀ j u, ([.slice R1 x1 e1, .slice R2 x2 e2] : List Value)[j]? = some u → World.cell? wn6 ((⟨tb, 0, none⟩ : Addr).add j) = some u))
   clear HH htb hwq
   simp only [Act.put, sA, sB, sC]
   refine hK.out _ _ SN.out (fun hH6 => ?_)
   clear hK K SN
   refine ar [14] ?_
   refine ac dm8Ao_14 (fun K hK => ?_) AllReadyH.nil
   unfold dm8Ao_14 oO
   have HH := Hn hH6
   clear hH6
   refine wp_appLDA _ _ rfl SYF.out HNQ.out HQ2.out tb 2 [.slice R1 x1 e1, .slice R2 x2 e2] rfl (by omega) rfl rfl CN.out (by simp [Value.oneCell']) (fun P4 c4 wn7 hO hG hF => ?_)
   have SN := Hn (HH.out.row hG)
   have FV := Hn (fun k hk => (hF k hk).imp id (Nat.le_trans HH.out.size))
   have FIN := Hn ((new_more2D SYF.out HNQ.out HX1.out HX2.out OU.out OV.out LX.out LY.out hO hG))
   have TH := Hn (there_row2D SYF.out.h SYF.out.row hG)
   clear HH hO hG hF CN
   simp only [Act.put, sA, sB, sC]
   refine hK.out _ _ SN.out (fun hH7 => ?_)
   clear hK K SN
   refine tj 15 dm8Ao_15 (.pointer (some ⟨s, 0, none⟩)) hH7 (fun w0 hSw => ?_) ?_
   ·(unfold dm8Ao_15 oO; clear hSw; go_simp)
   simp only [dm8Ao_15, oO, Act.put, sA, sB, sC]
   refine tj 16 dm8Ao_16 (.pointer (some ⟨s, 2, none⟩)) hH7 (fun w0 hSw => ?_) ?_
   ·(unfold dm8Ao_16 oO; clear hSw; go_simp)
   simp only [dm8Ao_16, oO, Act.put, sA, sB, sC]
   refine ar [17] ?_
   refine ac dm8Ao_17 (fun K hK => ?_) AllReadyH.nil
   unfold dm8Ao_17 oN
   have HH := Hn hH7
   clear hH7
   refine wp_storeV 95 _ _ rfl s 2 P4 (nq + 2) c4 (by rfl) (by rfl) TH.out i1_LD rfl (fun wn8 hw => ?_)
   have SN := Hn (HH.out.sys (gb_setCells s [.slice P4 (nq + 2) c4] 2 _))
   have FE := Hn ((fin_ofD FIN.out hw : Dy base _ s m Kg (.slice P4 (nq + 2) c4) (vs ++ [.slice R1 x1 e1, .slice R2 x2 e2]) (QQ ++ [X, Y])))
   rw [← hw] at SN
   clear HH hw
   refine hK.out _ _ SN.out (fun hH8 => ?_)
   clear hK K SN
   have HH := Hn hH8
   have FQ := Hn (HQ.out _ O1 O2 R1 R2 P4 o1 o2 e1 e2 c4 tb HH.out FE.out FV.out)
   refine wpAnyH_done (by kernel_rfl) ?_ _
   refine NoPanic.normal ?_
   exact FQ.out
  ·unfold dm8Ao_8 oO
   have HH := Hn hH1
   clear hH1
   go_simp
   refine (C8.out O1 o1 _ HH.out L1.out).mono ?_
   rintro e wn2 ⟨R1, e1, rfl, hq⟩
   have SN := Hn (HH.out.bel hq.2)
   replace SYF := Hn (SYF.out.keep hq.2)
   have OU := Hn (own_monoT hq.1 (Nat.zero_le _))
   clear HH C8 hq L1
   go_wp2_with fail
   refine hK.out _ _ SN.out (fun hH2 => ?_)
   clear hK K SN
   refine ar [4, 10] ?_
   refine ac dm8Ao_4 (fun K hK => ?_) (ac dm8Ao_10 (fun K hK => ?_) AllReadyH.nil)
   ·unfold dm8Ao_4 oO
    have HH := Hn hH2
    clear hH2
    refine wp_loadCD _ rfl s 2 nq cv Pv rfl SYF.out.c2 ?_
    simp only [Act.put, sA, sB, sC]
    have SN := HH
    clear HH
    refine hK.out _ _ SN.out (fun hH3 => ?_)
    clear hK K SN
    refine ar [10] ?_
    refine ac dm8Ao_10 (fun K hK => ?_) AllReadyH.nil
    unfold dm8Ao_10 oO
    have HH := Hn hH3
    clear hH3
    go_simp
    refine (C10.out _).mono ?_
    rintro e wn4 ⟨O2, o2, rfl, hl, hb⟩
    have SN := Hn (HH.out.bel hb)
    replace SYF := Hn (SYF.out.keep hb)
    replace OU := Hn (own_keepT OU.out hb)
    have L2 := Hn (hl)
    clear HH C10 hl hb
    go_wp2_with fail
    refine hK.out _ _ SN.out (fun hH4 => ?_)
    clear hK K SN
    refine ar [12] ?_
    refine ac dm8Ao_12 (fun K hK => ?_) AllReadyH.nil
    unfold dm8Ao_12 oO
    have HH := Hn hH4
    clear hH4
    go_simp
    refine (C12.out O2 o2 _ HH.out L2.out).mono ?_
    rintro e wn5 ⟨R2, e2, rfl, hq⟩
    have SN := Hn (HH.out.bel hq.2)
    replace SYF := Hn (SYF.out.keep hq.2)
    replace OU := Hn (own_keepT OU.out hq.2)
    have OV := Hn (own_monoT hq.1 (Nat.zero_le _))
    clear HH C12 hq L2
    go_wp2_with fail
    refine hK.out _ _ SN.out (fun hH5 => ?_)
    clear hK K SN
    refine ar [13] ?_
    refine ac dm8Ao_13 (fun K hK => ?_) AllReadyH.nil
    unfold dm8Ao_13 oO
    have HH := Hn hH5
    clear hH5
    refine wp_buildL2D _ _ rfl R1 R2 x1 e1 x2 e2 rfl rfl (fun tb wn6 htb hwq => ?_)
    have SN := Hn ((by rw [hwq]; exact HH.out.bel (bl_alloc _ _) : Fy s (.slice Pv nq cv) s W wn6))
    replace SYF := Hn ((by rw [hwq]; exact SYF.out.keep (bl_alloc _ _) : Dy base wn6 s m Kg (.slice Pv nq cv) vs QQ))
    replace OU := Hn ((by rw [hwq]; exact own_keepT OU.out (bl_alloc _ _) : World.ownsRow wn6 0 116 6 (.slice R1 x1 e1) x1 (tls X)))
    replace OV := Hn ((by rw [hwq]; exact own_keepT OV.out (bl_alloc _ _) : World.ownsRow wn6 0 116 6 (.slice R2 x2 e2) x2 (tls Y)))
    have CN := Hn ((by rw [hwq, htb]; exact cells_newT _ [.slice R1 x1 e1, .slice R2 x2 e2] _ : ∀ j u, ([.slice R1 x1 e1, .slice R2 x2 e2] : List Value)[j]? = some u → World.cell? wn6 ((⟨tb, 0, none⟩ : Addr).add j) = some u))
    clear HH htb hwq
    simp only [Act.put, sA, sB, sC]
    refine hK.out _ _ SN.out (fun hH6 => ?_)
    clear hK K SN
    refine ar [14] ?_
    refine ac dm8Ao_14 (fun K hK => ?_) AllReadyH.nil
    unfold dm8Ao_14 oO
    have HH := Hn hH6
    clear hH6
    refine wp_appLDA _ _ rfl SYF.out HNQ.out HQ2.out tb 2 [.slice R1 x1 e1, .slice R2 x2 e2] rfl (by omega) rfl rfl CN.out (by simp [Value.oneCell']) (fun P4 c4 wn7 hO hG hF => ?_)
    have SN := Hn (HH.out.row hG)
    have FV := Hn (fun k hk => (hF k hk).imp id (Nat.le_trans HH.out.size))
    have FIN := Hn ((new_more2D SYF.out HNQ.out HX1.out HX2.out OU.out OV.out LX.out LY.out hO hG))
    have TH := Hn (there_row2D SYF.out.h SYF.out.row hG)
    clear HH hO hG hF CN
    simp only [Act.put, sA, sB, sC]
    refine hK.out _ _ SN.out (fun hH7 => ?_)
    clear hK K SN
    refine tj 15 dm8Ao_15 (.pointer (some ⟨s, 0, none⟩)) hH7 (fun w0 hSw => ?_) ?_
    ·(unfold dm8Ao_15 oO; clear hSw; go_simp)
    simp only [dm8Ao_15, oO, Act.put, sA, sB, sC]
    refine tj 16 dm8Ao_16 (.pointer (some ⟨s, 2, none⟩)) hH7 (fun w0 hSw => ?_) ?_
    ·(unfold dm8Ao_16 oO; clear hSw; go_simp)
    simp only [dm8Ao_16, oO, Act.put, sA, sB, sC]
    refine ar [17] ?_
    refine ac dm8Ao_17 (fun K hK => ?_) AllReadyH.nil
    unfold dm8Ao_17 oN
    have HH := Hn hH7
    clear hH7
    refine wp_storeV 95 _ _ rfl s 2 P4 (nq + 2) c4 (by rfl) (by rfl) TH.out i1_LD rfl (fun wn8 hw => ?_)
    have SN := Hn (HH.out.sys (gb_setCells s [.slice P4 (nq + 2) c4] 2 _))
    have FE := Hn ((fin_ofD FIN.out hw : Dy base _ s m Kg (.slice P4 (nq + 2) c4) (vs ++ [.slice R1 x1 e1, .slice R2 x2 e2]) (QQ ++ [X, Y])))
    rw [← hw] at SN
    clear HH hw
    refine hK.out _ _ SN.out (fun hH8 => ?_)
    clear hK K SN
    have HH := Hn hH8
    have FQ := Hn (HQ.out _ O1 O2 R1 R2 P4 o1 o2 e1 e2 c4 tb HH.out FE.out FV.out)
    refine wpAnyH_done (by kernel_rfl) ?_ _
    refine NoPanic.normal ?_
    exact FQ.out
   ·unfold dm8Ao_10 oO
    have HH := Hn hH2
    clear hH2
    go_simp
    refine (C10.out _).mono ?_
    rintro e wn3 ⟨O2, o2, rfl, hl, hb⟩
    have SN := Hn (HH.out.bel hb)
    replace SYF := Hn (SYF.out.keep hb)
    replace OU := Hn (own_keepT OU.out hb)
    have L2 := Hn (hl)
    clear HH C10 hl hb
    go_wp2_with fail
    refine hK.out _ _ SN.out (fun hH3 => ?_)
    clear hK K SN
    refine ar [4, 12] ?_
    refine ac dm8Ao_4 (fun K hK => ?_) (ac dm8Ao_12 (fun K hK => ?_) AllReadyH.nil)
    ·unfold dm8Ao_4 oO
     have HH := Hn hH3
     clear hH3
     refine wp_loadCD _ rfl s 2 nq cv Pv rfl SYF.out.c2 ?_
     simp only [Act.put, sA, sB, sC]
     have SN := HH
     clear HH
     refine hK.out _ _ SN.out (fun hH4 => ?_)
     clear hK K SN
     refine ar [12] ?_
     refine ac dm8Ao_12 (fun K hK => ?_) AllReadyH.nil
     unfold dm8Ao_12 oO
     have HH := Hn hH4
     clear hH4
     go_simp
     refine (C12.out O2 o2 _ HH.out L2.out).mono ?_
     rintro e wn5 ⟨R2, e2, rfl, hq⟩
     have SN := Hn (HH.out.bel hq.2)
     replace SYF := Hn (SYF.out.keep hq.2)
     replace OU := Hn (own_keepT OU.out hq.2)
     have OV := Hn (own_monoT hq.1 (Nat.zero_le _))
     clear HH C12 hq L2
     go_wp2_with fail
     refine hK.out _ _ SN.out (fun hH5 => ?_)
     clear hK K SN
     refine ar [13] ?_
     refine ac dm8Ao_13 (fun K hK => ?_) AllReadyH.nil
     unfold dm8Ao_13 oO
     have HH := Hn hH5
     clear hH5
     refine wp_buildL2D _ _ rfl R1 R2 x1 e1 x2 e2 rfl rfl (fun tb wn6 htb hwq => ?_)
     have SN := Hn ((by rw [hwq]; exact HH.out.bel (bl_alloc _ _) : Fy s (.slice Pv nq cv) s W wn6))
     replace SYF := Hn ((by rw [hwq]; exact SYF.out.keep (bl_alloc _ _) : Dy base wn6 s m Kg (.slice Pv nq cv) vs QQ))
     replace OU := Hn ((by rw [hwq]; exact own_keepT OU.out (bl_alloc _ _) : World.ownsRow wn6 0 116 6 (.slice R1 x1 e1) x1 (tls X)))
     replace OV := Hn ((by rw [hwq]; exact own_keepT OV.out (bl_alloc _ _) : World.ownsRow wn6 0 116 6 (.slice R2 x2 e2) x2 (tls Y)))
     have CN := Hn ((by rw [hwq, htb]; exact cells_newT _ [.slice R1 x1 e1, .slice R2 x2 e2] _ : ∀ j u, ([.slice R1 x1 e1, .slice R2 x2 e2] : List Value)[j]? = some u → World.cell? wn6 ((⟨tb, 0, none⟩ : Addr).add j) = some u))
     clear HH htb hwq
     simp only [Act.put, sA, sB, sC]
     refine hK.out _ _ SN.out (fun hH6 => ?_)
     clear hK K SN
     refine ar [14] ?_
     refine ac dm8Ao_14 (fun K hK => ?_) AllReadyH.nil
     unfold dm8Ao_14 oO
     have HH := Hn hH6
     clear hH6
     refine wp_appLDA _ _ rfl SYF.out HNQ.out HQ2.out tb 2 [.slice R1 x1 e1, .slice R2 x2 e2] rfl (by omega) rfl rfl CN.out (by simp [Value.oneCell']) (fun P4 c4 wn7 hO hG hF => ?_)
     have SN := Hn (HH.out.row hG)
     have FV := Hn (fun k hk => (hF k hk).imp id (Nat.le_trans HH.out.size))
     have FIN := Hn ((new_more2D SYF.out HNQ.out HX1.out HX2.out OU.out OV.out LX.out LY.out hO hG))
     have TH := Hn (there_row2D SYF.out.h SYF.out.row hG)
     clear HH hO hG hF CN
     simp only [Act.put, sA, sB, sC]
     refine hK.out _ _ SN.out (fun hH7 => ?_)
     clear hK K SN
     refine tj 15 dm8Ao_15 (.pointer (some ⟨s, 0, none⟩)) hH7 (fun w0 hSw => ?_) ?_
     ·(unfold dm8Ao_15 oO; clear hSw; go_simp)
     simp only [dm8Ao_15, oO, Act.put, sA, sB, sC]
     refine tj 16 dm8Ao_16 (.pointer (some ⟨s, 2, none⟩)) hH7 (fun w0 hSw => ?_) ?_
     ·(unfold dm8Ao_16 oO; clear hSw; go_simp)
     simp only [dm8Ao_16, oO, Act.put, sA, sB, sC]
     refine ar [17] ?_
     refine ac dm8Ao_17 (fun K hK => ?_) AllReadyH.nil
     unfold dm8Ao_17 oN
     have HH := Hn hH7
     clear hH7
     refine wp_storeV 95 _ _ rfl s 2 P4 (nq + 2) c4 (by rfl) (by rfl) TH.out i1_LD rfl (fun wn8 hw => ?_)
     have SN := Hn (HH.out.sys (gb_setCells s [.slice P4 (nq + 2) c4] 2 _))
     have FE := Hn ((fin_ofD FIN.out hw : Dy base _ s m Kg (.slice P4 (nq + 2) c4) (vs ++ [.slice R1 x1 e1, .slice R2 x2 e2]) (QQ ++ [X, Y])))
     rw [← hw] at SN
     clear HH hw
     refine hK.out _ _ SN.out (fun hH8 => ?_)
     clear hK K SN
     have HH := Hn hH8
     have FQ := Hn (HQ.out _ O1 O2 R1 R2 P4 o1 o2 e1 e2 c4 tb HH.out FE.out FV.out)
     refine wpAnyH_done (by kernel_rfl) ?_ _
     refine NoPanic.normal ?_
     exact FQ.out
    ·unfold dm8Ao_12 oO
     have HH := Hn hH3
     clear hH3
     go_simp
     refine (C12.out O2 o2 _ HH.out L2.out).mono ?_
     rintro e wn4 ⟨R2, e2, rfl, hq⟩
     have SN := Hn (HH.out.bel hq.2)
     replace SYF := Hn (SYF.out.keep hq.2)
     replace OU := Hn (own_keepT OU.out hq.2)
     have OV := Hn (own_monoT hq.1 (Nat.zero_le _))
     clear HH C12 hq L2
     go_wp2_with fail
     refine hK.out _ _ SN.out (fun hH4 => ?_)
     clear hK K SN
     refine ar [4, 13] ?_
     refine ac dm8Ao_4 (fun K hK => ?_) (ac dm8Ao_13 (fun K hK => ?_) AllReadyH.nil)
     ·unfold dm8Ao_4 oO
      have HH := Hn hH4
      clear hH4
      refine wp_loadCD _ rfl s 2 nq cv Pv rfl SYF.out.c2 ?_
      simp only [Act.put, sA, sB, sC]
      have SN := HH
      clear HH
      refine hK.out _ _ SN.out (fun hH5 => ?_)
      clear hK K SN
      refine ar [13] ?_
      refine ac dm8Ao_13 (fun K hK => ?_) AllReadyH.nil
      unfold dm8Ao_13 oO
      have HH := Hn hH5
      clear hH5
      refine wp_buildL2D _ _ rfl R1 R2 x1 e1 x2 e2 rfl rfl (fun tb wn6 htb hwq => ?_)
      have SN := Hn ((by rw [hwq]; exact HH.out.bel (bl_alloc _ _) : Fy s (.slice Pv nq cv) s W wn6))
      replace SYF := Hn ((by rw [hwq]; exact SYF.out.keep (bl_alloc _ _) : Dy base wn6 s m Kg (.slice Pv nq cv) vs QQ))
      replace OU := Hn ((by rw [hwq]; exact own_keepT OU.out (bl_alloc _ _) : World.ownsRow wn6 0 116 6 (.slice R1 x1 e1) x1 (tls X)))
      replace OV := Hn ((by rw [hwq]; exact own_keepT OV.out (bl_alloc _ _) : World.ownsRow wn6 0 116 6 (.slice R2 x2 e2) x2 (tls Y)))
      have CN := Hn ((by rw [hwq, htb]; exact cells_newT _ [.slice R1 x1 e1, .slice R2 x2 e2] _ : ∀ j u, ([.slice R1 x1 e1, .slice R2 x2 e2] : List Value)[j]? = some u → World.cell? wn6 ((⟨tb, 0, none⟩ : Addr).add j) = some u))
      clear HH htb hwq
      simp only [Act.put, sA, sB, sC]
      refine hK.out _ _ SN.out (fun hH6 => ?_)
      clear hK K SN
      refine ar [14] ?_
      refine ac dm8Ao_14 (fun K hK => ?_) AllReadyH.nil
      unfold dm8Ao_14 oO
      have HH := Hn hH6
      clear hH6
      refine wp_appLDA _ _ rfl SYF.out HNQ.out HQ2.out tb 2 [.slice R1 x1 e1, .slice R2 x2 e2] rfl (by omega) rfl rfl CN.out (by simp [Value.oneCell']) (fun P4 c4 wn7 hO hG hF => ?_)
      have SN := Hn (HH.out.row hG)
      have FV := Hn (fun k hk => (hF k hk).imp id (Nat.le_trans HH.out.size))
      have FIN := Hn ((new_more2D SYF.out HNQ.out HX1.out HX2.out OU.out OV.out LX.out LY.out hO hG))
      have TH := Hn (there_row2D SYF.out.h SYF.out.row hG)
      clear HH hO hG hF CN
      simp only [Act.put, sA, sB, sC]
      refine hK.out _ _ SN.out (fun hH7 => ?_)
      clear hK K SN
      refine tj 15 dm8Ao_15 (.pointer (some ⟨s, 0, none⟩)) hH7 (fun w0 hSw => ?_) ?_
      ·(unfold dm8Ao_15 oO; clear hSw; go_simp)
      simp only [dm8Ao_15, oO, Act.put, sA, sB, sC]
      refine tj 16 dm8Ao_16 (.pointer (some ⟨s, 2, none⟩)) hH7 (fun w0 hSw => ?_) ?_
      ·(unfold dm8Ao_16 oO; clear hSw; go_simp)
      simp only [dm8Ao_16, oO, Act.put, sA, sB, sC]
      refine ar [17] ?_
      refine ac dm8Ao_17 (fun K hK => ?_) AllReadyH.nil
      unfold dm8Ao_17 oN
      have HH := Hn hH7
      clear hH7
      refine wp_storeV 95 _ _ rfl s 2 P4 (nq + 2) c4 (by rfl) (by rfl) TH.out i1_LD rfl (fun wn8 hw => ?_)
      have SN := Hn (HH.out.sys (gb_setCells s [.slice P4 (nq + 2) c4] 2 _))
      have FE := Hn ((fin_ofD FIN.out hw : Dy base _ s m Kg (.slice P4 (nq + 2) c4) (vs ++ [.slice R1 x1 e1, .slice R2 x2 e2]) (QQ ++ [X, Y])))
      rw [← hw] at SN
      clear HH hw
      refine hK.out _ _ SN.out (fun hH8 => ?_)
      clear hK K SN
      have HH := Hn hH8
      have FQ := Hn (HQ.out _ O1 O2 R1 R2 P4 o1 o2 e1 e2 c4 tb HH.out FE.out FV.out)
      refine wpAnyH_done (by kernel_rfl) ?_ _
      refine NoPanic.normal ?_
      exact FQ.out
     ·unfold dm8Ao_13 oO
      have HH := Hn hH4
      clear hH4
      refine wp_buildL2D _ _ rfl R1 R2 x1 e1 x2 e2 rfl rfl (fun tb wn5 htb hwq => ?_)
      have SN := Hn ((by rw [hwq]; exact HH.out.bel (bl_alloc _ _) : Fy s (.slice Pv nq cv) s W wn5))
      replace SYF := Hn ((by rw [hwq]; exact SYF.out.keep (bl_alloc _ _) : Dy base wn5 s m Kg (.slice Pv nq cv) vs QQ))
      replace OU := Hn ((by rw [hwq]; exact own_keepT OU.out (bl_alloc _ _) : World.ownsRow wn5 0 116 6 (.slice R1 x1 e1) x1 (tls X)))
      replace OV := Hn ((by rw [hwq]; exact own_keepT OV.out (bl_alloc _ _) : World.ownsRow wn5 0 116 6 (.slice R2 x2 e2) x2 (tls Y)))
      have CN := Hn ((by rw [hwq, htb]; exact cells_newT _ [.slice R1 x1 e1, .slice R2 x2 e2] _ : ∀ j u, ([.slice R1 x1 e1, .slice R2 x2 e2] : List Value)[j]? = some u → World.cell? wn5 ((⟨tb, 0, none⟩ : Addr).add j) = some u))
      clear HH htb hwq
      simp only [Act.put, sA, sB, sC]
      refine hK.out _ _ SN.out (fun hH5 => ?_)
      clear hK K SN
      refine ar [4] ?_
      refine ac dm8Ao_4 (fun K hK => ?_) AllReadyH.nil
      unfold dm8Ao_4 oO
      have HH := Hn hH5
      clear hH5
      refine wp_loadCD _ rfl s 2 nq cv Pv rfl SYF.out.c2 ?_
      simp only [Act.put, sA, sB, sC]
      have SN := HH
      clear HH
      refine hK.out _ _ SN.out (fun hH6 => ?_)
      clear hK K SN
      refine ar [14] ?_
      refine ac dm8Ao_14 (fun K hK => ?_) AllReadyH.nil
      unfold dm8Ao_14 oO
      have HH := Hn hH6
      clear hH6
      refine wp_appLDA _ _ rfl SYF.out HNQ.out HQ2.out tb 2 [.slice R1 x1 e1, .slice R2 x2 e2] rfl (by omega) rfl rfl CN.out (by simp [Value.oneCell']) (fun P4 c4 wn7 hO hG hF => ?_)
      have SN := Hn (HH.out.row hG)
      have FV := Hn (fun k hk => (hF k hk).imp id (Nat.le_trans HH.out.size))
      have FIN := Hn ((new_more2D SYF.out HNQ.out HX1.out HX2.out OU.out OV.out LX.out LY.out hO hG))
      have TH := Hn (there_row2D SYF.out.h SYF.out.row hG)
      clear HH hO hG hF CN
      simp only [Act.put, sA, sB, sC]
      refine hK.out _ _ SN.out (fun hH7 => ?_)
      clear hK K SN
      refine tj 15 dm8Ao_15 (.pointer (some ⟨s, 0, none⟩)) hH7 (fun w0 hSw => ?_) ?_
      ·(unfold dm8Ao_15 oO; clear hSw; go_simp)
      simp only [dm8Ao_15, oO, Act.put, sA, sB, sC]
      refine tj 16 dm8Ao_16 (.pointer (some ⟨s, 2, none⟩)) hH7 (fun w0 hSw => ?_) ?_
      ·(unfold dm8Ao_16 oO; clear hSw; go_simp)
      simp only [dm8Ao_16, oO, Act.put, sA, sB, sC]
      refine ar [17] ?_
      refine ac dm8Ao_17 (fun K hK => ?_) AllReadyH.nil
      unfold dm8Ao_17 oN
      have HH := Hn hH7
      clear hH7
      refine wp_storeV 95 _ _ rfl s 2 P4 (nq + 2) c4 (by rfl) (by rfl) TH.out i1_LD rfl (fun wn8 hw => ?_)
      have SN := Hn (HH.out.sys (gb_setCells s [.slice P4 (nq + 2) c4] 2 _))
      have FE := Hn ((fin_ofD FIN.out hw : Dy base _ s m Kg (.slice P4 (nq + 2) c4) (vs ++ [.slice R1 x1 e1, .slice R2 x2 e2]) (QQ ++ [X, Y])))
      rw [← hw] at SN
      clear HH hw
      refine hK.out _ _ SN.out (fun hH8 => ?_)
      clear hK K SN
      have HH := Hn hH8
      have FQ := Hn (HQ.out _ O1 O2 R1 R2 P4 o1 o2 e1 e2 c4 tb HH.out FE.out FV.out)
      refine wpAnyH_done (by kernel_rfl) ?_ _
      refine NoPanic.normal ?_
      exact FQ.out
def MqD (base : Nat) (w : World) (s m Kg : Nat) (v : Value) (vs : List Value) (Q : List (List Tm)) (X1 X2 : List Tm) (w' : World) : Prop := ∃ v' u1 u2, Dy base w' s m (Kg + 1) v' (vs ++ [u1, u2]) (Q ++ [X1, X2]) ∧ Fz s v w w' ∧ ∀ k, v'.ownBlock = some k → v.ownBlock = some k ∨ w.heap.size ≤ k
def RqDA (base : Nat) (w : World) (s m Kg : Nat) (v : Value) (vs : List Value) (Q : List (List Tm)) (X : List Tm) (w' : World) : Prop := ∃ v' u, Dy base w' s m Kg v' (vs ++ [u]) (Q ++ [X]) ∧ Fz s v w w' ∧ ∀ k, v'.ownBlock = some k → v.ownBlock = some k ∨ w.heap.size ≤ k
theorem dRequire_okA {base : Nat} {w : World} {s m Kg : Nat} {v : Value} {vs : List Value} {Q : List (List Tm)} (h : Dy base w s m Kg v vs Q) (P : Option Addr) (c : Nat) (Y : List Tm) (hn : Y.length ≤ 2932031007400) (hL : Lt w P Y.length (ft Y)) (hw : nm m Kg (lf Sm.L Y).length (ft (lf Sm.L Y)) = true) (hq : Q.length < 4096) :
  Calls Tryz.prog 19 #[.pointer (some ⟨s, 0, none⟩), .slice P Y.length c] w fun e w' => e = .returned (.int .i64 0) ∧ RqDA base w s m Kg v vs Q (lf Sm.L Y) w' := by
 have C0 := Hn (Known_any h P c Y hn hL)
 rw [hw] at C0
 have C1 := Hn (fun y (hy : Below w.heap.size w y) => dLeast_any P c Y y hn (hL.keep hy))
 have LX := Hn (Cm.lf_ls L0 Y)
 generalize Y.length = ny at *
 generalize lf Sm.L Y = X at *
 have HS := Hn h
 obtain ⟨Pv, cv, hv, hlc, hpv⟩ := h.shape
 have HQ := Hn hq
 clear hn hL hw h hlc hpv hq
 go_enter Tryz.func19, Tryz.ntmps19
 go_upto_region 4 with (go_at_call 55; refine C0.out.mono ?_; rintro e w1 ⟨rfl, hb⟩; have B1 := Hn hb; clear hb)
 clear C0
 have C2 := Hn (C1.out w1 B1.out)
 clear C1
 go_upto_region 5 with (go_at_call 58; refine C2.out.mono ?_; rintro e w2 ⟨v2, rfl, hd⟩; have D2 := Hn hd; have B2 := Hn (bl_trans B1.out hd.2); clear hd)
 clear C2
 obtain ⟨P1, c1, e1, _, _⟩ := own_shT D2.out.1
 subst e1
 have s2 := HS.out.keep B2.out
 have k2 := s2.c2
 have z2 := s2.fz 2
 subst hv
 have l9 : ¬ (4096 : Int) ≤ (Q.length : Int) := by have := HQ.out; omega
 have O2 := Hn s2.row
 have HI := Hn llinfoD
 have HZ0 : Hid ((Tryz.prog.info? 72).get!.zero = some (.slice none 0 0)) := Hn (by kernel_rfl)
 have HZ1 : Hid ((Tryz.prog.info? 72).get!.size = 1) := Hn (by kernel_rfl)
 have HZ2 : Hid ((Tryz.prog.info? 72).get!.bytes = 24) := Hn (by kernel_rfl)
 have T1 : Hid (Tryz.prog.underlying 95 = some (.slice 72)) := Hn (by kernel_rfl)
 have BS : Hid (base ≤ w2.heap.size) := Hn (by have := s2.lt; have := s2.bs; omega)
 have UO := Hn (own_monoT D2.out.1 B1.out.size)
 have s2h := Hn s2.h
 clear s2
 generalize hnq : Q.length = nq at *
 have HNQ := Hn hnq
 generalize hxl : X.length = xl at *
 have HXL := Hn hxl
 clear hnq hxl
 go_upto_region 7 with fail
 go_wp2_with (first | (at_builtin; have x1 := own_keepT O2.out (bl_alloc w2 (.cells #[.slice P1 xl c1] 72)); have x2 := cells_newT w2 [.slice P1 xl c1] 72; have x3 : ∀ u ∈ ([.slice P1 xl c1] : List Value), u.oneCell' = true := (by simp [Value.oneCell']); have x4 : nq + 1 ≤ maxLen := (by have := HQ.out; unfold maxLen; omega); have x5 : (nq + 1) * 24 ≤ 140737488355328 := (by have := HQ.out; omega); have x6 : base ≤ (w2.alloc (.cells #[.slice P1 xl c1] 72)).heap.size := (by have := BS.out; simp; omega); refine wpList_append_own_at _ rfl _ _ 95 rfl base 72 _ _ 1 24 T1.out HI.out HZ0.out HZ1.out HZ2.out rfl (by decide) _ nq vs rfl x1 ⟨w2.heap.size, 0, none⟩ 1 1 [.slice P1 xl c1] rfl rfl x2 x3 x4 x5 x6 ?_; intro v4 w4 ho4 hg4 _ hf4; obtain ⟨P4, c4, e4⟩ := own_sh1 ho4; subst e4; have V4 := Hn (v4_of B2.out hf4); clear hf4; have O4 := Hn ho4; have G4 := Hn hg4; have k4 : w4.cell? ⟨s, 2, none⟩ = some (.slice Pv nq cv) := cell_row2D s2h.out O2.out hg4; have z4 : w4.frozen? ⟨s, 2, none⟩ = false := fz_row2D s2h.out O2.out hg4; clear ho4 hg4 x1 x2 x3 x4 x5 x6))
 refine bodyPost_ret (v := .int .i64 0) (by simp [results, Tryz.results19, go_sem]) rfl ⟨rfl, ?_⟩
 have UO2 : (w2.alloc (.cells #[.slice P1 xl c1] 72)).ownsRow 0 116 6 (.slice P1 X.length c1) X.length (tls X) := by rw [HXL.out]; exact own_monoT (own_keepT UO.out (bl_alloc _ _)) (Nat.zero_le _)
 rw [HXL.out] at UO2
 rw [HNQ.out]
 have hh := rq_moreD HS.out (bl_trans B2.out (bl_alloc _ _)) UO2 LX.out HNQ.out HXL.out O4.out G4.out
 exact ⟨.slice P4 (nq + 1) c4, _, hh.1, hh.2, V4.out⟩
def N3 (a b c i : Nat) : Prop := i ≠ a ∧ i ≠ b ∧ i ≠ c
structure K3 (a b c : Nat) (w w' : World) : Prop where
 os : w'.os = w.os
 tape : w'.tape = w.tape
 output : w'.output = w.output
 size : w.heap.size ≤ w'.heap.size
 block : ∀ i, i < w.heap.size → N3 a b c i → w'.heap[i]? = w.heap[i]?
section
variable {a b c : Nat} {w w' w2 : World}
theorem K3.of (h : Below w.heap.size w w') : K3 a b c w w' := ⟨h.os, h.tape, h.output, h.size, fun i hi _ => h.block i hi⟩
theorem K3.trans (h : K3 a b c w w') (k : K3 a b c w' w2) : K3 a b c w w2 := ⟨k.os.trans h.os, k.tape.trans h.tape, k.output.trans h.output, Nat.le_trans h.size k.size, fun i hi hn => (k.block i (Nat.lt_of_lt_of_le hi h.size) hn).trans (h.block i hi hn)⟩
theorem K3.bl (h : K3 a b c w w') (k : Below w'.heap.size w' w2) : K3 a b c w w2 := h.trans (K3.of k)
theorem K3.gr (h : K3 a b c w w') {r : Nat} (k : w'.grownBy w2 (some r)) (hr : r = a ∨ r = b ∨ r = c) : K3 a b c w w2 := h.trans ⟨k.os, k.tape, k.output, k.size, fun i hi hn => k.block i hi (fun e => by
 have := Option.some.inj e
 obtain ⟨h1, h2, h3⟩ := hn
 omega)⟩
theorem K3.cell (h : K3 a b c w w') {i o : Nat} {v : Value} (hc : w.cell? ⟨i, o, none⟩ = some v) (hn : N3 a b c i) : w'.cell? ⟨i, o, none⟩ = some v := by
 rw [World.cell?_of_block (h.block i (World.block_lt_of_cell? w _ hc) hn)]; exact hc
end
theorem i2R : (Tryz.prog.info? 67).map (·.size) = some 2 := by kernel_rfl
theorem there_setM {w : World} {b n : Nat} (h : w.there b 0 n) (c : Nat) (vs : List Value) : (w.setCells c 0 vs).there b 0 n := fun j hj => by
 obtain ⟨h1, h2⟩ := h j hj
 have key : ∀ (vs : List Value) (o : Nat) (w : World), ((w.cell? ⟨b, 0 + j, none⟩).isSome = true ∧ w.frozen? ⟨b, 0 + j, none⟩ = false) → (((w.setCells c o vs).cell? ⟨b, 0 + j, none⟩).isSome = true ∧ (w.setCells c o vs).frozen? ⟨b, 0 + j, none⟩ = false) := by
  intro vs
  induction vs with
  | nil => intro o w h; exact h
  | cons u us ih =>
   intro o w h
   refine ih (o + 1) _ ⟨?_, by rw [World.frozen?_setCell]; exact h.2⟩
   obtain ⟨x, hx⟩ := Option.isSome_iff_exists.1 h.1
   obtain ⟨v', hv⟩ := cell?_setCell_some (p := ⟨c, o, none⟩) (x := u) hx
   rw [hv]
   rfl
 exact key vs 0 w ⟨h1, h2⟩
def dm9o_0 : Oper := oO 71 (Op.load 67 (Operand.tmp 12)) 67 pEbd1 #[]
def dm9o_1 : Oper := oO 72 (Op.load 67 (Operand.tmp 13)) 67 pEbd1 #[{ on := 4, ground := Ground.gcOnly Departure.lateStores }]
def dm9o_2 : Oper := oO 73 (Op.load 67 (Operand.tmp 14)) 67 pEbd1 #[{ on := 5, ground := Ground.gcOnly Departure.lateStores }]
def dm9o_3 : Oper := oO 74 (Op.move (Operand.tmp 15)) 45 pEbd1 #[{ on := 6, ground := Ground.gcOnly Departure.lateStores }]
def dm9o_4 : Oper := oN (Op.store 67 (Operand.tmp 6) (Operand.tmp 71)) pEbd1 #[DD 0, PH 0, { on := 1, ground := Ground.textOnly Departure.lateStores }, { on := 2, ground := Ground.textOnly Departure.lateStores }, { on := 3, ground := Ground.textOnly Departure.lateStores }]
def dm9o_5 : Oper := oN (Op.store 67 (Operand.tmp 7) (Operand.tmp 72)) pEbd1 #[DD 1, CH 4, PH 0, PH 1, { on := 2, ground := Ground.textOnly Departure.lateStores }, { on := 3, ground := Ground.textOnly Departure.lateStores }, PH 4]
def dm9o_6 : Oper := oN (Op.store 67 (Operand.tmp 8) (Operand.tmp 73)) pEbd1 #[DD 2, CH 5, PH 0, PH 1, PH 2, { on := 3, ground := Ground.textOnly Departure.lateStores }, PH 4, PH 5]
def dm9o_7 : Oper := oO 9 (Op.assign (Operand.tmp 74)) 45 pEbd1 #[DD 3, CH 6, PH 0, PH 1, PH 2, PH 3, PH 4, PH 5, PH 6]
def dm9o : Array Oper := #[dm9o_0, dm9o_1, dm9o_2, dm9o_3, dm9o_4, dm9o_5, dm9o_6, dm9o_7]
theorem dm9 (Q : Exit → Act → World → Prop) (t6 t7 t8 B1 B2 B3 : Nat) (p0 q0 p1 q1 p2 q2 : Int) (E : Value) (u0 u1 u2 u3 u4 u5 u9 aa ab af ag ah ai aj ak al am an ao ap aq au av aw ax ay az aA aB aC aD aE aF aG aH aI aJ aK aL aM aN aO aP aQ aR aS aT aU aV aW aX aY aZ a2 a3 a4 a5 a6 a7 a8 a9 ba bb bc bd be bg bh : Value) (W : World)
  (na : N3 t6 t7 t8 B1) (nb : N3 t6 t7 t8 B2) (nc : N3 t6 t7 t8 B3) (h6 : W.there t6 0 2) (h7 : W.there t7 0 2) (h8 : W.there t8 0 2)
  (a0 : W.cell? ⟨B1, 0, none⟩ = some (.int .i64 p0)) (a1 : W.cell? ⟨B1, 1, none⟩ = some (.int .i64 q0)) (b0 : W.cell? ⟨B2, 0, none⟩ = some (.int .i64 p1)) (b1 : W.cell? ⟨B2, 1, none⟩ = some (.int .i64 q1)) (c0 : W.cell? ⟨B3, 0, none⟩ = some (.int .i64 p2)) (c1 : W.cell? ⟨B3, 1, none⟩ = some (.int .i64 q2))
  (HQ : Hid (∀ (wz : World), (∃ wv, (∃ wx, (∃ wy, Below W.heap.size W wy ∧ wx = wy.setCells t6 0 [.int .i64 p0, .int .i64 q0]) ∧ wv = wx.setCells t7 0 [.int .i64 p1, .int .i64 q1]) ∧ wz = wv.setCells t8 0 [.int .i64 p2, .int .i64 q2]) → K3 t6 t7 t8 W wz → Q .normal ⟨#[u0, u1, u2, u3, u4, u5, .pointer (some ⟨t6, 0, none⟩), .pointer (some ⟨t7, 0, none⟩), .pointer (some ⟨t8, 0, none⟩), E, aa, ab, .pointer (some ⟨B1, 0, none⟩), .pointer (some ⟨B2, 0, none⟩), .pointer (some ⟨B3, 0, none⟩), E, af, ag, ah, ai, aj, ak, al, am, an, ao, ap, aq, au, av, aw, ax, ay, az, aA, aB, aC, aD, aE, aF, aG, aH, aI, aJ, aK, aL, aM, aN, aO, aP, aQ, aR, aS, aT, aU, aV, aW, aX, aY, aZ, a2, a3, a4, a5, a6, a7, a8, a9, ba, bb, bc, .agg #[.int .i64 p0, .int .i64 q0], .agg #[.int .i64 p1, .int .i64 q1], .agg #[.int .i64 p2, .int .i64 q2], E], []⟩ wz)) : (Code.region 9 dm9o true).wp Tryz.prog Q ⟨#[u0, u1, u2, u3, u4, u5, .pointer (some ⟨t6, 0, none⟩), .pointer (some ⟨t7, 0, none⟩), .pointer (some ⟨t8, 0, none⟩), u9, aa, ab, .pointer (some ⟨B1, 0, none⟩), .pointer (some ⟨B2, 0, none⟩), .pointer (some ⟨B3, 0, none⟩), E, af, ag, ah, ai, aj, ak, al, am, an, ao, ap, aq, au, av, aw, ax, ay, az, aA, aB, aC, aD, aE, aF, aG, aH, aI, aJ, aK, aL, aM, aN, aO, aP, aQ, aR, aS, aT, aU, aV, aW, aX, aY, aZ, a2, a3, a4, a5, a6, a7, a8, a9, ba, bb, bc, bd, be, bg, bh], []⟩ W := by
 have BB := Hn (bl_drew W)
 have TH6 := Hn (there_bl h6 (bl_drew W))
 have TH7 := Hn (there_bl h7 (bl_drew W))
 have TH8 := Hn (there_bl h8 (bl_drew W))
 clear h6 h7 h8
 unfold dm9o
 refine wp_region_noPanic ?_
 refine wp_region_held_drew (S := fun x => K3 t6 t7 t8 W x) (by kernel_rfl) (K3.of (bl_drew W)) (fun hH0 => ?_)
 refine tj 0 dm9o_0 (.agg #[.int .i64 p0, .int .i64 q0]) hH0 (fun w0 hSw => ?_) ?_
 ·(unfold dm9o_0 oO; have hS : K3 t6 t7 t8 W w0 := hSw; have a0 := hS.cell a0 na; have a1 := hS.cell a1 na; clear hS hSw; go_simp)
 simp only [dm9o_0, oO, Act.put, sA, sB, sC]
 refine tj 1 dm9o_1 (.agg #[.int .i64 p1, .int .i64 q1]) hH0 (fun w0 hSw => ?_) ?_
 ·(unfold dm9o_1 oO; have hS : K3 t6 t7 t8 W w0 := hSw; have a0 := hS.cell b0 nb; have a1 := hS.cell b1 nb; clear hS hSw; go_simp)
 simp only [dm9o_1, oO, Act.put, sA, sB, sC]
 refine tj 2 dm9o_2 (.agg #[.int .i64 p2, .int .i64 q2]) hH0 (fun w0 hSw => ?_) ?_
 ·(unfold dm9o_2 oO; have hS : K3 t6 t7 t8 W w0 := hSw; have a0 := hS.cell c0 nc; have a1 := hS.cell c1 nc; clear hS hSw; go_simp)
 simp only [dm9o_2, oO, Act.put, sA, sB, sC]
 refine tj 3 dm9o_3 (E) hH0 (fun w0 hSw => ?_) ?_
 ·(unfold dm9o_3 oO; clear hSw; go_simp)
 simp only [dm9o_3, oO, Act.put, sA, sB, sC]
 refine ar [4] ?_
 refine ac dm9o_4 (fun K hK => ?_) AllReadyH.nil
 unfold dm9o_4 oN
 have HH := Hn hH0
 clear hH0
 refine wp_storeE 67 _ _ rfl t6 0 ([.int .i64 p0, .int .i64 q0]) (by rfl) (by rfl) TH6.out i2R (one2 _ _) rfl (fun wn1 hw => ?_)
 have SN := Hn (HH.out.gr (gb_setCells t6 [.int .i64 p0, .int .i64 q0] 0 _) (by omega))
 replace TH7 := Hn (there_setM TH7.out t6 [.int .i64 p0, .int .i64 q0])
 replace TH8 := Hn (there_setM TH8.out t6 [.int .i64 p0, .int .i64 q0])
 have F1 := Hn ((⟨_, BB.out, hw⟩ : ∃ wy, Below W.heap.size W wy ∧ _ = wy.setCells t6 0 [.int .i64 p0, .int .i64 q0]))
 rw [← hw] at SN TH7 TH8
 clear HH hw
 refine hK.out _ _ SN.out (fun hH1 => ?_)
 clear hK K SN
 refine ar [5] ?_
 refine ac dm9o_5 (fun K hK => ?_) AllReadyH.nil
 unfold dm9o_5 oN
 have HH := Hn hH1
 clear hH1
 refine wp_storeE 67 _ _ rfl t7 0 ([.int .i64 p1, .int .i64 q1]) (by rfl) (by rfl) TH7.out i2R (one2 _ _) rfl (fun wn2 hw => ?_)
 have SN := Hn (HH.out.gr (gb_setCells t7 [.int .i64 p1, .int .i64 q1] 0 _) (by omega))
 replace TH8 := Hn (there_setM TH8.out t7 [.int .i64 p1, .int .i64 q1])
 have F2 := Hn ((⟨_, F1.out, hw⟩ : ∃ wy, (∃ wx, Below W.heap.size W wx ∧ wy = wx.setCells t6 0 [.int .i64 p0, .int .i64 q0]) ∧ _ = wy.setCells t7 0 [.int .i64 p1, .int .i64 q1]))
 rw [← hw] at SN TH8
 clear HH hw
 refine hK.out _ _ SN.out (fun hH2 => ?_)
 clear hK K SN
 refine ar [6] ?_
 refine ac dm9o_6 (fun K hK => ?_) AllReadyH.nil
 unfold dm9o_6 oN
 have HH := Hn hH2
 clear hH2
 refine wp_storeE 67 _ _ rfl t8 0 ([.int .i64 p2, .int .i64 q2]) (by rfl) (by rfl) TH8.out i2R (one2 _ _) rfl (fun wn3 hw => ?_)
 have SN := Hn (HH.out.gr (gb_setCells t8 [.int .i64 p2, .int .i64 q2] 0 _) (by omega))
 have F3 := Hn ((⟨_, F2.out, hw⟩ : ∃ wy, (∃ wv, (∃ wx, Below W.heap.size W wx ∧ wv = wx.setCells t6 0 [.int .i64 p0, .int .i64 q0]) ∧ wy = wv.setCells t7 0 [.int .i64 p1, .int .i64 q1]) ∧ _ = wy.setCells t8 0 [.int .i64 p2, .int .i64 q2]))
 rw [← hw] at SN
 clear HH hw
 refine hK.out _ _ SN.out (fun hH3 => ?_)
 clear hK K SN
 refine tj 7 dm9o_7 (E) hH3 (fun w0 hSw => ?_) ?_
 ·(unfold dm9o_7 oO; clear hSw; go_simp)
 simp only [dm9o_7, oO, Act.put, sA, sB, sC]
 have HH := Hn hH3
 have FQ := Hn (HQ.out _ F3.out HH.out)
 refine wpAnyH_done (by kernel_rfl) ?_ _
 refine NoPanic.normal ?_
 exact FQ.out
def T3 (a : Nat) (x : World) : Prop := x.heap[a]? = some (.cells #[.int .i64 0, .int .i64 0] 67 (0, 0)) ∧ x.heap[a + 1]? = some (.cells #[.int .i64 0, .int .i64 0] 67 (0, 0)) ∧ x.heap[a + 1 + 1]? = some (.cells #[.int .i64 0, .int .i64 0] 67 (0, 0))
theorem T3.keep {a : Nat} {x y : World} (h : T3 a x) (hb : Below x.heap.size x y) : T3 a y := ⟨(hb.block _ (Array.getElem?_eq_some_iff.1 h.1).1).trans h.1, (hb.block _ (Array.getElem?_eq_some_iff.1 h.2.1).1).trans h.2.1, (hb.block _ (Array.getElem?_eq_some_iff.1 h.2.2).1).trans h.2.2⟩
theorem T3.fy {a s : Nat} {v : Value} {x y : World} (h : T3 a x) (hf : Fy s v s x y) (hs : s < a) (hv : ∀ k, v.ownBlock = some k → k < a) : T3 a y :=
 ⟨(hf.block _ (Array.getElem?_eq_some_iff.1 h.1).1 (by omega) (fun e => by have := hv _ e; omega) (by omega)).trans h.1, (hf.block _ (Array.getElem?_eq_some_iff.1 h.2.1).1 (by omega) (fun e => by have := hv _ e; omega) (by omega)).trans h.2.1, (hf.block _ (Array.getElem?_eq_some_iff.1 h.2.2).1 (by omega) (fun e => by have := hv _ e; omega) (by omega)).trans h.2.2⟩
theorem T3.gr {a s : Nat} {x y : World} (h : T3 a x) (hf : x.grownBy y (some s)) (hs : s < a) : T3 a y :=
 ⟨(hf.block _ (Array.getElem?_eq_some_iff.1 h.1).1 (fun e => by have := Option.some.inj e; omega)).trans h.1, (hf.block _ (Array.getElem?_eq_some_iff.1 h.2.1).1 (fun e => by have := Option.some.inj e; omega)).trans h.2.1, (hf.block _ (Array.getElem?_eq_some_iff.1 h.2.2).1 (fun e => by have := Option.some.inj e; omega)).trans h.2.2⟩
theorem th_of {a : Nat} {x : World} (h : x.heap[a]? = some (.cells #[.int .i64 0, .int .i64 0] 67 (0, 0))) : x.there a 0 2 := fun j hj => by
 have hc := cell_of_row x a (0 + j) _ 67 (0, 0) h
 refine ⟨?_, ?_⟩
 ·rw [hc]
  have : j = 0 ∨ j = 1 := by omega
  rcases this with rfl | rfl <;> rfl
 ·unfold World.frozen?
  rw [h]
  simp
theorem T3.new (w : World) : T3 w.heap.size ((((w).alloc (.cells #[.int .i64 0, .int .i64 0] 67)).alloc (.cells #[.int .i64 0, .int .i64 0] 67)).alloc (.cells #[.int .i64 0, .int .i64 0] 67)) := by
 refine ⟨?_, ?_, ?_⟩ <;> simp only [World.alloc, Array.getElem?_push, Array.size_push] <;> (repeat first | rw [if_pos trivial] | rw [if_pos rfl] | rw [if_neg (by omega)])
theorem set3 {W wz : World} {a : Nat} {p0 q0 p1 q1 p2 q2 : Int} (h : T3 a W) (hz : ∃ wv, (∃ wx, (∃ wy, Below W.heap.size W wy ∧ wx = wy.setCells a 0 [.int .i64 p0, .int .i64 q0]) ∧ wv = wx.setCells (a + 1) 0 [.int .i64 p1, .int .i64 q1]) ∧ wz = wv.setCells (a + 1 + 1) 0 [.int .i64 p2, .int .i64 q2]) :
  (wz.cell? ⟨a, 0, none⟩ = some (.int .i64 p0) ∧ wz.cell? ⟨a, 1, none⟩ = some (.int .i64 q0)) ∧ (wz.cell? ⟨a + 1, 0, none⟩ = some (.int .i64 p1) ∧ wz.cell? ⟨a + 1, 1, none⟩ = some (.int .i64 q1)) ∧ (wz.cell? ⟨a + 1 + 1, 0, none⟩ = some (.int .i64 p2) ∧ wz.cell? ⟨a + 1 + 1, 1, none⟩ = some (.int .i64 q2)) := by
 obtain ⟨wv, ⟨wx, ⟨wy, hb, rfl⟩, rfl⟩, rfl⟩ := hz
 have k := h.keep hb
 have t6 := th_of k.1
 have t7 := there_setM (th_of k.2.1) a [.int .i64 p0, .int .i64 q0]
 have t8 := there_setM (there_setM (th_of k.2.2) a [.int .i64 p0, .int .i64 q0]) (a + 1) [.int .i64 p1, .int .i64 q1]
 refine ⟨⟨?_, ?_⟩, ⟨?_, ?_⟩, ⟨?_, ?_⟩⟩
 ·rw [World.cell?_setCells_out _ _ _ _ _ (fun e => by simp at e; omega), World.cell?_setCells_out _ _ _ _ _ (fun e => by simp at e)]
  exact (World.cell?_setCells_in a [.int .i64 p0, .int .i64 q0] 0 _ (fun j hj => (t6 j hj).1) 0 (by simp)).trans rfl
 ·rw [World.cell?_setCells_out _ _ _ _ _ (fun e => by simp at e; omega), World.cell?_setCells_out _ _ _ _ _ (fun e => by simp at e)]
  exact (World.cell?_setCells_in a [.int .i64 p0, .int .i64 q0] 0 _ (fun j hj => (t6 j hj).1) 1 (by simp)).trans rfl
 ·rw [World.cell?_setCells_out _ _ _ _ _ (fun e => by simp at e)]
  exact (World.cell?_setCells_in (a + 1) [.int .i64 p1, .int .i64 q1] 0 _ (fun j hj => (t7 j hj).1) 0 (by simp)).trans rfl
 ·rw [World.cell?_setCells_out _ _ _ _ _ (fun e => by simp at e)]
  exact (World.cell?_setCells_in (a + 1) [.int .i64 p1, .int .i64 q1] 0 _ (fun j hj => (t7 j hj).1) 1 (by simp)).trans rfl
 ·exact (World.cell?_setCells_in (a + 1 + 1) [.int .i64 p2, .int .i64 q2] 0 _ (fun j hj => (t8 j hj).1) 0 (by simp)).trans rfl
 ·exact (World.cell?_setCells_in (a + 1 + 1) [.int .i64 p2, .int .i64 q2] 0 _ (fun j hj => (t8 j hj).1) 1 (by simp)).trans rfl
theorem own_k3 {a : Nat} {x y : World} {b1 sz : Nat} {e : TypeId} {u : Value} {n : Nat} {xs : List Value} (h : T3 a x) (hk : K3 a (a + 1) (a + 1 + 1) x y) (ho : x.ownsRow b1 e sz u n xs) (he : e ≠ 67) : y.ownsRow b1 e sz u n xs := ⟨ho.1, by
 rcases ho.2 with h0 | ⟨g, c, cur, h1, h2, h3, h4⟩
 ·exact .inl h0
 ·refine .inr ⟨g, c, cur, h1, h2, (hk.block g (Array.getElem?_eq_some_iff.1 h3).1 ⟨fun e' => ?_, fun e' => ?_, fun e' => ?_⟩).trans h3, h4⟩
  ·subst e'; have := h.1.symm.trans h3; simp only [Option.some.injEq, Obj.cells.injEq] at this; exact he this.2.1.symm
  ·subst e'; have := h.2.1.symm.trans h3; simp only [Option.some.injEq, Obj.cells.injEq] at this; exact he this.2.1.symm
  ·subst e'; have := h.2.2.symm.trans h3; simp only [Option.some.injEq, Obj.cells.injEq] at this; exact he this.2.1.symm⟩
theorem Dy.k3 {base : Nat} {w : World} {s m Kg : Nat} {v : Value} {vs : List Value} {Q : List (List Tm)} {a : Nat} {y : World} (h : Dy base w s m Kg v vs Q) (t : T3 a w) (hk : K3 a (a + 1) (a + 1 + 1) w y) (hs : s < a) : Dy base y s m Kg v vs Q :=
 ⟨(hk.block s h.lt ⟨by omega, by omega, by omega⟩).trans h.h, own_k3 t hk h.row (by decide), fun i X hX => by obtain ⟨u, h1, h2⟩ := h.ls i X hX; exact ⟨u, h1, own_k3 t hk h2 (by decide)⟩, h.bs, h.sm⟩
theorem dMultiply_okA {base : Nat} {w : World} {s m Kg : Nat} {v : Value} {vs : List Value} {Q : List (List Tm)} (h : Dy base w s m Kg v vs Q) (Pa Pb : Option Addr) (ca cb : Nat) (A B : List Tm) (hna : A.length ≤ 1048576) (hnb : B.length ≤ 1048576) (ha : w.ownsRow 0 116 6 (.slice Pa A.length ca) A.length (tls A)) (hb : w.ownsRow 0 116 6 (.slice Pb B.length cb) B.length (tls B)) (hwa : nm m Kg (lf Sm.L A).length (ft (lf Sm.L A)) = true) (hwb : nm m Kg (lf Sm.L B).length (ft (lf Sm.L B)) = true) (hq : Q.length ≤ 4094) (hK : Kg < 1024) :
  Calls Tryz.prog 17 #[.pointer (some ⟨s, 0, none⟩), .slice Pa A.length ca, .slice Pb B.length cb] w fun e w' => e = .returned (tup 2 Kg 3 Kg 4 Kg 0) ∧ MqD base w s m Kg v vs Q (lf Sm.L ([((2, (Kg : Int)), 1)] ++ lf Sm.L (sc (-1) A))) (lf Sm.L ([((3, (Kg : Int)), 1)] ++ lf Sm.L (sc (-1) B))) w' := by
 have BA := Hn (bl_alloc3 w (.cells #[.int .i64 0, .int .i64 0] 67) (.cells #[.int .i64 0, .int .i64 0] 67) (.cells #[.int .i64 0, .int .i64 0] 67))
 have T0 := Hn (T3.new w)
 have C0 := Hn (fun y (hy : Below w.heap.size w y) => Known_any (h.keep hy) Pa ca A (by omega) (own_lts (own_keepT ha hy)))
 have C1 := Hn (fun y (hy : Below w.heap.size w y) => Known_any (h.keep hy) Pb cb B (by omega) (own_lts (own_keepT hb hy)))
 rw [hwa] at C0
 rw [hwb] at C1
 obtain ⟨Pv, cv, hv, hlc, hpv⟩ := h.shape
 have HV := Hn (fun k hk => (h.vb k hk).2)
 have HLT := Hn h.lt
 subst hv
 have LA := Hn (And.intro hna ha)
 have LB := Hn (And.intro hnb hb)
 have HS := Hn h
 generalize hea : A.length = na at *
 generalize heb : B.length = nb at *
 generalize hnq : Q.length = nq at *
 have EA := Hn hea
 have EB := Hn heb
 have HNQ := Hn hnq
 have HQ := Hn hq
 clear h ha hb hwa hwb hna hnb hea heb hnq hlc hpv hq
 go_enter Tryz.func17, Tryz.ntmps17
 go_upto_region 1 with fail
 generalize ((((w).alloc (.cells #[.int .i64 0, .int .i64 0] 67)).alloc (.cells #[.int .i64 0, .int .i64 0] 67)).alloc (.cells #[.int .i64 0, .int .i64 0] 67)) = w0 at *
 replace C0 := Hn (C0.out w0 BA.out)
 go_upto_region 2 with (go_at_call 55; refine C0.out.mono ?_; rintro e w1 ⟨rfl, hbb⟩; have B1 := Hn (bl_trans BA.out hbb); have T1 := Hn (T0.out.keep hbb); clear hbb)
 replace C1 := Hn (C1.out w1 B1.out)
 clear C0 T0 BA
 go_upto_region 3 with (go_at_call 55; refine C1.out.mono ?_; rintro e w2 ⟨rfl, hbb⟩; have B2 := Hn (bl_trans B1.out hbb); have T2 := Hn (T1.out.keep hbb); clear hbb)
 clear C1 T1 B1
 have SY2 := Hn (HS.out.keep B2.out)
 have k1 := SY2.out.c1
 have k2 := SY2.out.c2
 have l8 : ¬ (1024 : Int) ≤ (Kg : Int) := by omega
 have l9 : ¬ (4094 : Int) < (nq : Int) := by have := HQ.out; omega
 go_upto_region 7 with fail
 clear k1 k2
 have C3 := dGate_ok SY2.out hK
 simp only [tup] at C3
 replace C3 := Hn C3
 go_upto_region 8 with (go_at_call 16; refine C3.out.mono ?_; rintro e w3 ⟨rfl, hsy, hgg⟩; have SY3 := Hn hsy; have G3 := Hn hgg; have T4 := Hn (T2.out.gr hgg HLT.out); clear hsy hgg)
 clear C3 T2
 have BN := bl_alloc3 w3 (.cells #[.int .i64 2, .int .i64 (Kg : Int)] 67) (.cells #[.int .i64 3, .int .i64 (Kg : Int)] 67) (.cells #[.int .i64 4, .int .i64 (Kg : Int)] 67)
 have a00 : (((w3.alloc (.cells #[.int .i64 2, .int .i64 (Kg : Int)] 67)).alloc (.cells #[.int .i64 3, .int .i64 (Kg : Int)] 67)).alloc (.cells #[.int .i64 4, .int .i64 (Kg : Int)] 67)).cell? ⟨w3.heap.size, 0, none⟩ = some (.int .i64 2) := by go_simp
 have a01 : (((w3.alloc (.cells #[.int .i64 2, .int .i64 (Kg : Int)] 67)).alloc (.cells #[.int .i64 3, .int .i64 (Kg : Int)] 67)).alloc (.cells #[.int .i64 4, .int .i64 (Kg : Int)] 67)).cell? ⟨w3.heap.size, 1, none⟩ = some (.int .i64 (Kg : Int)) := by go_simp
 have a10 : (((w3.alloc (.cells #[.int .i64 2, .int .i64 (Kg : Int)] 67)).alloc (.cells #[.int .i64 3, .int .i64 (Kg : Int)] 67)).alloc (.cells #[.int .i64 4, .int .i64 (Kg : Int)] 67)).cell? ⟨w3.heap.size + 1, 0, none⟩ = some (.int .i64 3) := by go_simp
 have a11 : (((w3.alloc (.cells #[.int .i64 2, .int .i64 (Kg : Int)] 67)).alloc (.cells #[.int .i64 3, .int .i64 (Kg : Int)] 67)).alloc (.cells #[.int .i64 4, .int .i64 (Kg : Int)] 67)).cell? ⟨w3.heap.size + 1, 1, none⟩ = some (.int .i64 (Kg : Int)) := by go_simp
 have a20 : (((w3.alloc (.cells #[.int .i64 2, .int .i64 (Kg : Int)] 67)).alloc (.cells #[.int .i64 3, .int .i64 (Kg : Int)] 67)).alloc (.cells #[.int .i64 4, .int .i64 (Kg : Int)] 67)).cell? ⟨w3.heap.size + 1 + 1, 0, none⟩ = some (.int .i64 4) := by go_simp
 have a21 : (((w3.alloc (.cells #[.int .i64 2, .int .i64 (Kg : Int)] 67)).alloc (.cells #[.int .i64 3, .int .i64 (Kg : Int)] 67)).alloc (.cells #[.int .i64 4, .int .i64 (Kg : Int)] 67)).cell? ⟨w3.heap.size + 1 + 1, 1, none⟩ = some (.int .i64 (Kg : Int)) := by go_simp
 generalize (((w3.alloc (.cells #[.int .i64 2, .int .i64 (Kg : Int)] 67)).alloc (.cells #[.int .i64 3, .int .i64 (Kg : Int)] 67)).alloc (.cells #[.int .i64 4, .int .i64 (Kg : Int)] 67)) = w4 at *
 have SY4 := Hn (SY3.out.keep BN)
 have T5 := Hn (T4.out.keep BN)
 have Z3 : w.heap.size ≤ w3.heap.size := Nat.le_trans B2.out.size G3.out.size
 have ns := HLT.out
 have nv : ∀ k, w3.heap.size ≤ k → (Value.slice Pv nq cv).ownBlock ≠ some k := fun k hk e => by have := HV.out k e; omega
 have FZ4 : Hid (Fz s (.slice Pv nq cv) w w4) := Hn ⟨BN.os.trans (G3.out.os.trans B2.out.os), BN.tape.trans (G3.out.tape.trans B2.out.tape), BN.output.trans (G3.out.output.trans B2.out.output), Nat.le_trans Z3 BN.size, fun i hi h1 h2 => by
  rw [BN.block i (Nat.lt_of_lt_of_le hi Z3), G3.out.block i (Nat.lt_of_lt_of_le hi B2.out.size) (fun e => h1 (Option.some.inj e))]
  exact B2.out.block i hi⟩
 have OA := Hn (own_fzK FZ4.out HS.out.h HS.out.row LA.out.2 (by decide) (by decide))
 have OB := Hn (own_fzK FZ4.out HS.out.h HS.out.row LB.out.2 (by decide) (by decide))
 have RA : ∀ y, Fy s (.slice Pv nq cv) s w4 y → Lt y Pa A.length (ft A) := fun y hy => own_lts (by rw [EA.out]; exact own_fzK (Fz.mk hy.os hy.tape hy.output hy.size (fun i hi h1 h2 => hy.block i hi h1 h2 h1)) SY4.out.h SY4.out.row OA.out (by decide) (by decide))
 have RB : ∀ y, Fy s (.slice Pv nq cv) s w4 y → Lt y Pb B.length (ft B) := fun y hy => own_lts (by rw [EB.out]; exact own_fzK (Fz.mk hy.os hy.tape hy.output hy.size (fun i hi h1 h2 => hy.block i hi h1 h2 h1)) SY4.out.h SY4.out.row OB.out (by decide) (by decide))
 refine dm8A _ base s m (Kg + 1) nq cv _ _ w3.heap.size (w3.heap.size + 1) na ca nb cb Pv Pa Pb 2 (Kg : Int) 3 (Kg : Int) vs Q (lf Sm.L ([((2, (Kg : Int)), 1)] ++ lf Sm.L (sc (-1) A))) (lf Sm.L ([((3, (Kg : Int)), 1)] ++ lf Sm.L (sc (-1) B))) _ _ _ _ _ _ _ _ _ _ _ _ _ _ _ _ _ _ _ _ _ _ _ _ _ _ _ _ _ _ _ _ _ _ _ _ _ _ _ _ _ _ _ _ _ _ _ _ _ _ _ _ _ _ _ _ _ _ _ _ _ _ _ _ _ _ _ _ _ _ w4 SY4.out HNQ (Hn (by have := HQ.out; omega)) (Hn rfl) (Hn rfl) (Hn (Cm.lf_ls L0 _)) (Hn (Cm.lf_ls L0 _)) (by omega) (nv _ (Nat.le_refl _)) (by omega) (nv _ (by omega)) a00 a01 a10 a11 (Hn (fun y => dOf_sl (2, (Kg : Int)) y)) (Hn (fun P c y hy h1 => by have C := dSub_sl (2, (Kg : Int)) P Pa c ca A y (by rw [EA.out]; exact LA.out.1) h1 (RA y hy); rw [EA.out] at C; exact C)) (Hn (fun y => dOf_sl (3, (Kg : Int)) y)) (Hn (fun P c y hy h1 => by have C := dSub_sl (3, (Kg : Int)) P Pb c cb B y (by rw [EB.out]; exact LB.out.1) h1 (RB y hy); rw [EB.out] at C; exact C)) (Hn ?_)
 intro wz O1 O2 R1 R2 P4 o1 o2 e1 e2 c4 tb hf hsy hfv
 have HFV := Hn (fun k hk => (hfv k hk).imp id (Nat.le_trans FZ4.out.size))
 clear hfv
 have T6 := Hn (T5.out.fy hf HLT.out HV.out)
 have b00 := hf.cl a00 (by omega) (nv _ (Nat.le_refl _)) (by omega)
 have b01 := hf.cl a01 (by omega) (nv _ (Nat.le_refl _)) (by omega)
 have b10 := hf.cl a10 (by omega) (nv _ (by omega)) (by omega)
 have b11 := hf.cl a11 (by omega) (nv _ (by omega)) (by omega)
 have b20 := hf.cl a20 (by omega) (nv _ (by omega)) (by omega)
 have b21 := hf.cl a21 (by omega) (nv _ (by omega)) (by omega)
 have z3 : w.heap.size + 1 + 1 < w3.heap.size := (Array.getElem?_eq_some_iff.1 T4.out.2.2).1
 have FZ5 : Hid (Fz s (.slice Pv nq cv) w wz) := Hn ⟨hf.os.trans FZ4.out.os, hf.tape.trans FZ4.out.tape, hf.output.trans FZ4.out.output, Nat.le_trans FZ4.out.size hf.size, fun i hi h1 h2 => (hf.block i (Nat.lt_of_lt_of_le hi FZ4.out.size) h1 h2 h1).trans (FZ4.out.block i hi h1 h2)⟩
 have SY6 := Hn hsy
 clear hsy hf RA RB OA OB a00 a01 a10 a11 a20 a21 SY4 SY3 SY2 T5 T4 FZ4 BN G3 B2 nv
 go_upto_region 9 with fail
 refine dm9 _ w.heap.size (w.heap.size + 1) (w.heap.size + 1 + 1) w3.heap.size (w3.heap.size + 1) (w3.heap.size + 1 + 1) 2 (Kg : Int) 3 (Kg : Int) 4 (Kg : Int) (.int .i64 0) _ _ _ _ _ _ _ _ _ _ _ _ _ _ _ _ _ _ _ _ _ _ _ _ _ _ _ _ _ _ _ _ _ _ _ _ _ _ _ _ _ _ _ _ _ _ _ _ _ _ _ _ _ _ _ _ _ _ _ _ _ _ _ _ _ _ _ _ wz ⟨by omega, by omega, by omega⟩ ⟨by omega, by omega, by omega⟩ ⟨by omega, by omega, by omega⟩ (th_of T6.out.1) (th_of T6.out.2.1) (th_of T6.out.2.2) b00 b01 b10 b11 b20 b21 (Hn ?_)
 intro wy h3 hk
 obtain ⟨⟨d00, d01⟩, ⟨d10, d11⟩, d20, d21⟩ := set3 T6.out h3
 have SY7 := Hn (SY6.out.k3 T6.out hk HLT.out)
 have FZ7 : Hid (Fz s (.slice Pv nq cv) w wy) := Hn ⟨hk.os.trans FZ5.out.os, hk.tape.trans FZ5.out.tape, hk.output.trans FZ5.out.output, Nat.le_trans FZ5.out.size hk.size, fun i hi h1 h2 => (hk.block i (Nat.lt_of_lt_of_le hi FZ5.out.size) ⟨by omega, by omega, by omega⟩).trans (FZ5.out.block i hi h1 h2)⟩
 clear h3 hk b00 b01 b10 b11 b20 b21 SY6 FZ5 T6
 go_wp2_with fail
 refine bodyPost_ret (v := tup 2 Kg 3 Kg 4 Kg 0) (by simp [results, Tryz.results17, go_sem, d00, d01, d10, d11, d20, d21, tup]) rfl ⟨rfl, _, _, _, SY7.out, FZ7.out, HFV.out⟩
end Ci
end Go.Proofs.YtghcfcglakbkeaaGreatDoor
