import Derived.Test.YtgijodenblpbgaaDoorRln
namespace Go.Proofs.YtgijodenblpbgaaDoor
open Go.RowKit
set_option maxRecDepth 100000 in
set_option maxHeartbeats 16000000 in
theorem rleast_any (d : List Int) (w : World) (ld : d.length = 20) (hd : ∀ z ∈ d, 0 ≤ z ∧ z ≤ 2305843009213693952) (hD : dv (numF d) 20 = 0) (hP : Pm w) :
    Calls Tryd.prog 43 #[fv d] w fun e w' => e = .returned (fv (digs (numF d % pF))) ∧ Below w.heap.size w w' := by
  have RS := numF_rsn d (fun j => d.getD j 0) 0 (fun j _ => by rw [Nat.zero_add])
  have L0 := hidden (L2.start w d 59 29 ld)
  have GB : Hid (∀ j, 0 ≤ (fun j => d.getD j 0) j ∧ (fun j => d.getD j 0) j ≤ 2305843009213693952) := hidden (fun j => by
    by_cases hj : j < d.length
    · exact hd _ (by simp [List.getD_eq_getElem?_getD, hj])
    · simp [List.getD_eq_getElem?_getD, hj])
  rw [ld] at RS
  generalize (fun j => d.getD j 0) = g at RS L0 GB
  have FM := hidden (fold_mod (numF d) hD)
  have HP := hidden hP
  generalize numF d = D at *
  have H0 : Hid ((0 : Int) = dv D 0 - rsn g (20 - 0) 0) := hidden (by show (0 : Int) = D - rsn g 20 0; omega)
  clear hD hP RS hd ld
  unfold fv
  go_enter Tryd.func43, Tryd.ntmps43
  go_wp2_with fail
  go_loopw [3, 4] (fun cv i w' => ∃ (k : Nat) (c : Int), k ≤ 20 ∧ cv = .int .i64 c ∧ i = .int .i64 k ∧ 0 ≤ c ∧ c ≤ 68719476736 ∧ Hid (c = dv D k - rsn g (20 - k) k) ∧ Hid (L2 w (fun j => if j < k then dig D j else g j) w')) (fun _ i _ => 20 - (intOf i).toNat)
  case atStart => exact ⟨0, 0, by omega, rfl, rfl, by omega, by omega, H0, hidden (L0.out.congr (fun j _ => by rw [if_neg (by omega)]))⟩
  case round =>
    obtain ⟨k, c, hk, rfl, rfl, hc1, hc2, hE, hM⟩ := hrel
    clear L0 H0
    by_cases hlt : k < 20
    · have e1 := hE.out
      obtain ⟨m, hm⟩ : ∃ m, 20 - k = m + 1 := ⟨19 - k, by omega⟩
      rw [hm, rsn] at e1
      obtain ⟨s1, s2⟩ := col_step _ _ _ _ e1
      have gb := GB.out k
      have a0 := hM.out.a.c k hlt
      have f0 := hM.out.a.fr k hlt
      rw [if_neg (by omega)] at a0
      have hA := i64_and26 (c + g k)
      have NX := hidden ((hM.out.put k hlt ((c + g k) % 67108864)).congr (e := fun j => if j < k + 1 then dig D j else g j) (fun j _ => by
        by_cases hjk : j = k
        · subst hjk; rw [if_pos rfl, if_pos (by omega), s1]; rfl
        · rw [if_neg hjk]
          by_cases hl : j < k
          · rw [if_pos hl, if_pos (by omega)]
          · rw [if_neg hl, if_neg (by omega)]))
      have NE : Hid ((c + g k) / 67108864 = dv D (k + 1) - rsn g (20 - (k + 1)) (k + 1)) := hidden (by rw [s2, show 20 - (k + 1) = m by omega]; rfl)
      clear e1 s1 s2 hE hM hm
      generalize g k = x at *
      have k0 : (0 : Int) ≤ (k : Int) := by omega
      have k1 : (k : Int) < 20 := by omega
      have hw1 : IntKind.i64.wrap (c + x) = c + x := IntWalk.i64_in _ (by omega)
      have hb1 : 0 ≤ (c + x) / 67108864 ∧ (c + x) / 67108864 ≤ 68719476736 := by omega
      go_wp2_with fail
      go_roundw
      case rel => exact ⟨k + 1, _, by omega, rfl, by go_num, hb1.1, hb1.2, NE, NX⟩
      case measure => simp [intOf]; omega
    · have hk20 : k = 20 := by omega
      subst hk20
      have LD := hidden (hM.out.congr (e := dig D) (fun j hj => by rw [if_pos hj]))
      clear hM hE hc1 hc2 hlt hk GB
      generalize wr = ws at *
      go_upto_region 8 with fail
      generalize ((20 : Nat) : Int) = z20
      go_cut [5] (fun ov wx => ∃ O : Nat, ov = .pointer (some ⟨O, 0, none⟩) ∧ L3 w O (dig D) (fun _ => 0) wx)
      case first =>
        have NL : Hid (L3 w ws.heap.size (dig D) (fun _ => 0) (ws.alloc (.cells #[.int .i64 0, .int .i64 0, .int .i64 0, .int .i64 0, .int .i64 0, .int .i64 0, .int .i64 0, .int .i64 0, .int .i64 0, .int .i64 0] 29))) := hidden ⟨LD.out.keep (bl_alloc _ _), Ri.zero10 ws _, LD.out.r.lt⟩
        go_wp2_with fail
        go_meet
        exact ⟨_, rfl, NL.out⟩
      case rest =>
      obtain ⟨O, rfl, l3⟩ := hcut
      clear LD
      have L0 := hidden (l3.congr (z := fun j => if j < 0 then dig D j + 608 * dig D (j + 10) else 0) (fun j _ => by rw [if_neg (by omega)]))
      clear l3
      go_wp2_with fail
      go_loopw [6] (fun i w' => ∃ k : Nat, k ≤ 10 ∧ i = .int .i64 k ∧ Hid (L3 w O (dig D) (fun j => if j < k then dig D j + 608 * dig D (j + 10) else 0) w')) (fun i _ => 10 - (intOf i).toNat)
      case atStart => exact ⟨0, by omega, rfl, L0⟩
      case round =>
        clear L0
        obtain ⟨k, hk, rfl, hM⟩ := hrel
        by_cases hlt : k < 10
        · have hd := hM.out.keep (drew_bl wr)
          have a0 := hd.l.a.c k (by omega)
          have a1 := hd.l.a.c (k + 10) (by omega)
          have o0 := hd.o.c k hlt
          have of := hd.o.fr k hlt
          have b0 := dig_in D k
          have b1 := dig_in D (k + 10)
          rw [if_neg (by omega)] at o0
          have NX := hidden ((hd.put k hlt (dig D k + 608 * dig D (k + 10))).congr (z := fun j => if j < k + 1 then dig D j + 608 * dig D (j + 10) else 0) (fun j _ => by
            by_cases hjk : j = k
            · subst hjk; rw [if_pos rfl, if_pos (by omega)]
            · rw [if_neg hjk]
              by_cases hl : j < k
              · rw [if_pos hl, if_pos (by omega)]
              · rw [if_neg hl, if_neg (by omega)]))
          clear hM hd
          generalize dig D k = x at *
          generalize dig D (k + 10) = y at *
          have k0 : (0 : Int) ≤ (k : Int) := by omega
          have k1 : (k : Int) < 10 := by omega
          have k2 : IntKind.i64.wrap ((k : Int) + 10) = (k : Int) + 10 := IntWalk.i64_in _ (by omega)
          have k3 : (0 : Int) ≤ (k : Int) + 10 := by omega
          have k4 : (k : Int) + 10 < 20 := by omega
          have k5 : ((k : Int) + 10).toNat = k + 10 := by omega
          have w1 : IntKind.i64.wrap (608 * y) = 608 * y := IntWalk.i64_in _ (by omega)
          have w2 : IntKind.i64.wrap (x + 608 * y) = x + 608 * y := IntWalk.i64_in _ (by omega)
          clear b0 b1
          go_upto_region 12 with fail
          go_region_with fail
          all_goals
            clear a0 a1 o0 of w1 w2 k2 k3 k4 k5
            go_wp2_with fail
            go_roundw
            case rel => exact ⟨k + 1, by omega, by go_num, NX⟩
            case measure => simp [intOf]; omega
        · have hk10 : k = 10 := by omega
          subst hk10
          have LD := hidden (hM.out.congr (z := fun j => dig D j + 608 * dig D (j + 10)) (fun j hj => by rw [if_pos hj]))
          have RD := hidden (Rd.start D FM.out)
          generalize (fun j => dig D j + 608 * dig D (j + 10)) = y at LD RD
          obtain ⟨g0, hg0⟩ : ∃ n, (rsn y 10 0).toNat + 1 = n := ⟨_, rfl⟩
          rw [hg0] at RD
          generalize rsn y 10 0 = X at RD
          clear hM hlt hk FM hg0
          generalize wr = wt at *
          go_upto_region 13 with fail
          generalize ((10 : Nat) : Int) = z10
          go_wp2_with fail
          go_loopg [3, 7] g0 (fun gh cv av w' => ∃ (X c : Int) (ag : Bool) (y : Nat → Int), cv = .int .i64 c ∧ av = .bool ag ∧ Hid (Rd D gh c ag y X) ∧ Hid (L3 w O (dig D) y w'))
          case atStart => exact ⟨X, 0, true, y, rfl, rfl, RD, LD⟩
          case round =>
            clear RD LD
            obtain ⟨X, c, ag, y, rfl, rfl, RD, hM⟩ := hrel
            cases ag with
            | true =>
              have x0 := RD.out.X0
              have c0 := RD.out.c0
              have c1 := RD.out.c1
              have y0 := RD.out.y0 0
              have o0 := hM.out.o.c 0 (by omega)
              have f0 := hM.out.o.fr 0 (by omega)
              have hg : gk = X.toNat + 1 := RD.out.gh
              have NX := hidden (Rd.next D X x0 RD.out.md RD.out.xb)
              have p10 := dv_pos x0 10
              have p10b : dv X 10 ≤ 4096 := by have := RD.out.xb; rw [show dv X 10 = dv X 9 / 67108864 from rfl]; omega
              have hS : X = rsn (fun j => if j = 0 then y 0 + c else y j) 10 0 := by
                rw [RD.out.hx]
                simp only [rsn]
                simp
                omega
              have NB : Hid (∀ j, 0 ≤ (fun j => if j = 0 then y 0 + c else y j) j ∧ (fun j => if j = 0 then y 0 + c else y j) j ≤ 137438953472) := hidden (fun j => by
                have := RD.out.y0 j
                have := RD.out.y0 0
                dsimp only
                split <;> omega)
              have N0 := hidden (hM.out.put 0 (by omega) (y 0 + c))
              have w1 : IntKind.i64.wrap (y 0 + c) = y 0 + c := IntWalk.i64_in _ (by omega)
              generalize (fun j => if j = 0 then y 0 + c else y j) = v at hS NB N0
              have H0 : Hid ((0 : Int) = dv X 0 - rsn v (10 - 0) 0) := hidden (by show (0 : Int) = X - rsn v 10 0; omega)
              clear hM RD hS
              generalize y 0 = y00 at *
              go_wp2_with fail
              go_loopw [3, 8] (fun cv i w' => ∃ (k : Nat) (c : Int), k ≤ 10 ∧ cv = .int .i64 c ∧ i = .int .i64 k ∧ 0 ≤ c ∧ c ≤ 68719476736 ∧ Hid (c = dv X k - rsn v (10 - k) k) ∧ Hid (L3 w O (dig D) (fun j => if j < k then dig X j else v j) w')) (fun _ i _ => 10 - (intOf i).toNat)
              case atStart => exact ⟨0, 0, by omega, rfl, rfl, by omega, by omega, H0, hidden (N0.out.congr (fun j _ => by rw [if_neg (by omega)]))⟩
              case round =>
                clear N0 H0 o0 f0 w1 c0 c1 y0
                obtain ⟨k, c, hk, rfl, rfl, hc1, hc2, hE, hM⟩ := hrel
                by_cases hlt : k < 10
                · have e1 := hE.out
                  obtain ⟨m, hm⟩ : ∃ m, 10 - k = m + 1 := ⟨9 - k, by omega⟩
                  rw [hm, rsn] at e1
                  obtain ⟨s1, s2⟩ := col_step _ _ _ _ e1
                  have gb := NB.out k
                  have a0 := hM.out.o.c k hlt
                  have f0 := hM.out.o.fr k hlt
                  rw [if_neg (by omega)] at a0
                  have hA := i64_and26 (c + v k)
                  have NL := hidden ((hM.out.put k hlt ((c + v k) % 67108864)).congr (z := fun j => if j < k + 1 then dig X j else v j) (fun j _ => by
                    by_cases hjk : j = k
                    · subst hjk; rw [if_pos rfl, if_pos (by omega), s1]; rfl
                    · rw [if_neg hjk]
                      by_cases hl : j < k
                      · rw [if_pos hl, if_pos (by omega)]
                      · rw [if_neg hl, if_neg (by omega)]))
                  have NE : Hid ((c + v k) / 67108864 = dv X (k + 1) - rsn v (10 - (k + 1)) (k + 1)) := hidden (by rw [s2, show 10 - (k + 1) = m by omega]; rfl)
                  clear e1 s1 s2 hE hM hm p10 p10b hg
                  generalize v k = x at *
                  have k0 : (0 : Int) ≤ (k : Int) := by omega
                  have k1 : (k : Int) < 10 := by omega
                  have hw1 : IntKind.i64.wrap (c + x) = c + x := IntWalk.i64_in _ (by omega)
                  have hb1 : 0 ≤ (c + x) / 67108864 ∧ (c + x) / 67108864 ≤ 68719476736 := by omega
                  go_wp2_with fail
                  go_roundw
                  case rel => exact ⟨k + 1, _, by omega, rfl, by go_num, hb1.1, hb1.2, NE, NL⟩
                  case measure => simp [intOf]; omega
                · have hk10 : k = 10 := by omega
                  subst hk10
                  have LD := hidden (hM.out.congr (z := dig X) (fun j hj => by rw [if_pos hj]))
                  have hc : c = dv X 10 := by have := hE.out; rw [show 10 - 10 = 0 from rfl, rsn] at this; omega
                  clear hE hM hc1 hc2
                  subst hc
                  have o9 := LD.out.o.c 9 (by omega)
                  have f9 := LD.out.o.fr 9 (by omega)
                  have d9 := dig_in X 9
                  have LN := hidden ((LD.out.put 9 (by omega) (dig X 9 % 2097152)).congr (z := rest255 X) (fun j _ => rfl))
                  have t1 : (dig X 9).tdiv 2097152 = dig X 9 / 2097152 := Int.tdiv_eq_ediv_of_nonneg d9.1
                  have t2 : (dig X 9).tmod 2097152 = dig X 9 % 2097152 := Int.tmod_eq_emod_of_nonneg d9.1
                  obtain ⟨gh', X', nx, hlt'⟩ := NX.out
                  have NX' := hidden nx
                  clear NX nx NB
                  generalize hz : dv X 10 = z at *
                  generalize hu : dig X 9 = u at *
                  have w1 : IntKind.i64.wrap (608 * z) = 608 * z := IntWalk.i64_in _ (by omega)
                  have w2 : IntKind.i64.wrap (u / 2097152) = u / 2097152 := IntWalk.i64_in _ (by omega)
                  have w3 : IntKind.i64.wrap (19 * (u / 2097152)) = 19 * (u / 2097152) := IntWalk.i64_in _ (by omega)
                  have w4 : IntKind.i64.wrap (608 * z + 19 * (u / 2097152)) = 608 * z + 19 * (u / 2097152) := IntWalk.i64_in _ (by omega)
                  have w5 : IntKind.i64.wrap (u % 2097152) = u % 2097152 := IntWalk.i64_in _ (by omega)
                  clear LD hz hu p10 p10b x0
                  go_upto_region 24 with fail
                  generalize ((10 : Nat) : Int) = y10
                  go_wp2_with fail
                  go_roundg gh'
                  case measure => omega
                  case rel => exact ⟨X', _, _, _, rfl, rfl, NX', LN⟩
            | false =>
              obtain ⟨hx, hy⟩ := RD.out.en rfl
              have x0 := RD.out.X0
              have md := RD.out.md
              have hL := hM.out.congr (z := dig X) hy
              have RO : Hid (wr.rangeAt O 0 ((digs X).map fun z => Value.int .i64 z)) := hidden (by rw [← vs_digs]; exact hL.o.range)
              have TO := hidden hL.o.there
              have TR := hidden hL.l.r.there
              have BL := hidden hL.l.bel
              have PR := hidden (HP.out.keep hL.l.bel)
              have NE := hL.ne
              have LB := hidden (fun w => below_any (digs X) prF w (digs_len X) rfl (digs_in X) (by decide))
              have LM := hidden (fun w => minus_any (digs X) prF w (digs_len X) rfl (digs_in X) (by decide))
              rw [numF_digs x0 hx, numF_prF] at LB LM
              have hlX : ((digs X).map fun z => Value.int .i64 z).length = 10 := by simp [digs]
              have hu : Tryd.prog.underlying 29 = some (.array 10 2) := by kernel_rfl
              have hi10 : (Tryd.prog.info? 29).map (·.size) = some 10 := by kernel_rfl
              have ho : ∀ Y, ((digs Y).map fun z => Value.int .i64 z).toArray.all (·.oneCell') = true := fun Y => all_oneCell_toArray (fun v hv => by
                obtain ⟨z, _, rfl⟩ := List.mem_map.1 hv
                rfl)
              have hlY : ∀ Y, ((digs Y).map fun z => Value.int .i64 z).length = 10 := fun Y => by simp [digs]
              have hlP : (prF.map fun z => Value.int .i64 z).length = 10 := rfl
              unfold fv at LB LM
              have HU := hidden hu
              have RP := hidden PR.out.r
              have HIX : Hid ((Tryd.prog.info? 29).map (·.size) = some ((digs X).map fun z => Value.int .i64 z).length) := hidden (by rw [hlX]; exact hi10)
              have HIP : Hid ((Tryd.prog.info? 29).map (·.size) = some (prF.map fun z => Value.int .i64 z).length) := hidden (by rw [hlP]; exact hi10)
              have RR := hidden hL.l.r
              have RI := hidden hL.o
              clear hM RD hL hy TO TR
              by_cases hlt : X < pF
              · have hE := end_lt x0 md hlt
                have HCS : Hid (((digs (D % pF)).map fun z => Value.int .i64 z) = (digs X).map fun z => Value.int .i64 z) := hidden (by rw [hE])
                have HO := hidden (ho X)
                have HI2 : Hid ((Tryd.prog.info? 29).map (·.size) = some ((digs X).map fun z => Value.int .i64 z).toArray.size) := hidden (by simpa using HIX.out)
                rw [decide_eq_true hlt] at LB
                have LBH := hidden LB.out
                have hlen := hidden hlX
                clear LM hx x0 md hlt hE ho hlY hi10 hu hlP hlX LB
                generalize ((digs X).map fun z => Value.int .i64 z) = cs at *
                generalize (prF.map fun z => Value.int .i64 z) = ps at *
                go_upto_region 27 with fail
                go_cut [9] (fun v wx => v = .bool true ∧ Below wr.heap.size wr wx)
                case first =>
                  go_wp2_with (first | refine wpList_load_mid rfl 29 _ rfl O 0 (by rfl) cs _ RO.out HU.out rfl HIX.out ?_ | refine wpList_load_mid rfl 29 _ rfl 1 0 (by rfl) ps _ RP.out HU.out rfl HIP.out ?_)
                  refine (LBH.out _).mono ?_
                  rintro e w1 ⟨rfl, hb⟩
                  go_wp2_with fail
                  go_meet
                  exact ⟨rfl, hb⟩
                case rest =>
                obtain ⟨rfl, hb⟩ := hcut
                have RO2 : Hid (wc.rangeAt O 0 cs) := hidden (fun j v hv => by have := RO.out j v hv; rw [hb.cell (p := ⟨O, 0 + j, none⟩) (World.block_lt_of_cell? wr _ this)]; exact this)
                have TR2 : Hid (wc.there (w.heap.size + 1) 0 cs.toArray.size) := hidden (by have := (RR.out.keep hb).there; simpa [hlen.out] using this)
                have BL2 := hidden (below_setCellsR (w.heap.size + 1) cs 0 (bl_trans BL.out hb) (by omega))
                have RDH := hidden (run_loadVar_mid (P := Tryd.prog) (wc.setCells (w.heap.size + 1) 0 cs) (w.heap.size + 1) 0 29 cs _ (World.rangeAt_setCells_same wc (w.heap.size + 1) 0 cs (by simpa using TR2.out)) HU.out rfl HIX.out)
                clear hb RO RR RI LBH
                go_wp2_with (first | refine wpList_load_mid rfl 29 _ rfl O 0 (by rfl) cs _ RO2.out HU.out rfl HIX.out ?_ | refine wpList_store_mid rfl 29 _ _ rfl (w.heap.size + 1) 0 cs.toArray (by rfl) (by rfl) TR2.out HI2.out HO.out ?_)
                have RD := RDH.out
                refine bodyPost_ret (v := .agg cs.toArray) (results_cellR Tryd.results43 _ _ _ _ _ (by rfl) RD) rfl ⟨by rw [HCS.out], BL2.out⟩
              · have hE := end_ge md hlt hx
                have HCS : Hid (((digs (D % pF)).map fun z => Value.int .i64 z) = (digs (X - pF)).map fun z => Value.int .i64 z) := hidden (by rw [hE])
                have HO := hidden (ho (X - pF))
                have HIY : Hid ((Tryd.prog.info? 29).map (·.size) = some ((digs (X - pF)).map fun z => Value.int .i64 z).length) := hidden (by rw [hlY]; exact hi10)
                have HI2 : Hid ((Tryd.prog.info? 29).map (·.size) = some ((digs (X - pF)).map fun z => Value.int .i64 z).toArray.size) := hidden (by simpa using HIY.out)
                rw [decide_eq_false hlt] at LB
                have LBH := hidden LB.out
                have LMH := hidden LM.out
                have hlen := hidden (hlY (X - pF))
                clear hx x0 md hlt hE ho hlY hi10 hu hlP hlX LB LM
                generalize ((digs X).map fun z => Value.int .i64 z) = cs at *
                generalize ((digs (X - pF)).map fun z => Value.int .i64 z) = ds at *
                generalize (prF.map fun z => Value.int .i64 z) = ps at *
                go_upto_region 27 with fail
                go_cut [9] (fun v wx => v = .bool false ∧ Below wr.heap.size wr wx)
                case first =>
                  go_wp2_with (first | refine wpList_load_mid rfl 29 _ rfl O 0 (by rfl) cs _ RO.out HU.out rfl HIX.out ?_ | refine wpList_load_mid rfl 29 _ rfl 1 0 (by rfl) ps _ RP.out HU.out rfl HIP.out ?_)
                  refine (LBH.out _).mono ?_
                  rintro e w1 ⟨rfl, hb⟩
                  go_wp2_with fail
                  go_meet
                  exact ⟨rfl, hb⟩
                case rest =>
                obtain ⟨rfl, hb⟩ := hcut
                have RO2 : Hid (wc.rangeAt O 0 cs) := hidden (fun j v hv => by have := RO.out j v hv; rw [hb.cell (p := ⟨O, 0 + j, none⟩) (World.block_lt_of_cell? wr _ this)]; exact this)
                have RP2 : Hid (wc.rangeAt 1 0 ps) := hidden (fun j v hv => by have := RP.out j v hv; rw [hb.cell (p := ⟨1, 0 + j, none⟩) (World.block_lt_of_cell? wr _ this)]; exact this)
                have RR2 := hidden (RR.out.keep hb)
                have RI2 := hidden (RI.out.keep hb)
                have BL2 := hidden (bl_trans BL.out hb)
                clear hb RO RR RI LBH RP BL
                go_wp2_with (first | refine wpList_load_mid rfl 29 _ rfl O 0 (by rfl) cs _ RO2.out HU.out rfl HIX.out ?_ | refine wpList_load_mid rfl 29 _ rfl 1 0 (by rfl) ps _ RP2.out HU.out rfl HIP.out ?_)
                refine (LMH.out _).mono ?_
                rintro e w1 ⟨rfl, hb⟩
                have TO3 : Hid (w1.there O 0 ds.toArray.size) := hidden (by have := (RI2.out.keep hb).there; simpa [hlen.out] using this)
                have TR3 := hidden (RR2.out.keep hb)
                have BL3 := hidden (below_setCellsR O ds 0 (bl_trans BL2.out hb) (by omega))
                have RO3 := hidden (World.rangeAt_setCells_same w1 O 0 ds (by simpa using TO3.out))
                have TR4 : Hid ((w1.setCells O 0 ds).there (w.heap.size + 1) 0 ds.toArray.size) := hidden (by
                  have h := TR3.out.there
                  intro j hj
                  have hj' : j < 10 := by simpa [hlen.out] using hj
                  obtain ⟨h1, h2⟩ := h j hj'
                  exact ⟨World.isSome_setCells O ds 0 w1 _ h1, by rw [World.frozen?_setCells]; exact h2⟩)
                have RDH := hidden (run_loadVar_mid (P := Tryd.prog) ((w1.setCells O 0 ds).setCells (w.heap.size + 1) 0 ds) (w.heap.size + 1) 0 29 ds _ (World.rangeAt_setCells_same _ (w.heap.size + 1) 0 ds (by simpa using TR4.out)) HU.out rfl HIY.out)
                have BL4 := hidden (below_setCellsR (w.heap.size + 1) ds 0 BL3.out (by omega))
                clear hb RO2 RR2 RI2 LMH RP2 BL2 TR3
                go_wp2_with (first | refine wpList_store_mid rfl 29 _ _ rfl O 0 ds.toArray (by rfl) (by rfl) TO3.out HI2.out HO.out ?_ | refine wpList_load_mid rfl 29 _ rfl O 0 (by rfl) ds _ RO3.out HU.out rfl HIY.out ?_ | refine wpList_store_mid rfl 29 _ _ rfl (w.heap.size + 1) 0 ds.toArray (by rfl) (by rfl) TR4.out HI2.out HO.out ?_)
                have RD := RDH.out
                refine bodyPost_ret (v := .agg ds.toArray) (results_cellR Tryd.results43 _ _ _ _ _ (by rfl) RD) rfl ⟨by rw [HCS.out], BL4.out⟩
end Go.Proofs.YtgijodenblpbgaaDoor
