import Derived.Test.YtglalahmcckjaaaDoorScm
import Derived.Test.YtglalahmcckjaaaDoorSli
namespace Go.Proofs.YtglalahmcckjaaaDoor
open Go.RowKit

theorem eq20 (cs : Array Value) (f : Nat → Int) (h : ∀ i, i < 20 → cs[i]? = some (.int .i64 (f i))) (w : World) :
    (Op.equalIn 10000 45 (.agg cs) (.agg cs)).run Tryd.prog w = .ok true w := by
  have hi : Tryd.prog.info? 2 = some (Tryd.prog.info? 2).get! := by kernel_rfl
  have hc : Tryd.prog.cellsOf 2 = 1 := by kernel_rfl
  rw [run_equalIn_array w 9999 _ _ (by kernel_rfl : Tryd.prog.underlying 45 = some (.array 20 2)) hi, hc]
  rw [eqItems_ints w (k := .i64) 9998 (by kernel_rfl) (by kernel_rfl) _ _ f f]
  · simp
  · intro i hi
    have : i < 20 := List.mem_range.1 hi
    have e := h i this
    simp [e]
theorem and16c (u : Int) (h0 : 0 ≤ u) (h1 : u ≤ 18446744073709551615) : bits .and .u64 u 65535 = u % 65536 := by
  rw [u64_and u 65535 h0 (by omega) (by omega) (by omega)]
  have : u.toNat &&& (65535 : Int).toNat = u.toNat % 65536 := Nat.and_two_pow_sub_one_eq_mod u.toNat 16
  rw [this]; omega
theorem colV_lit (S : Int) : (colV S).toArray = #[.int .i64 (col S 0), .int .i64 (col S 1), .int .i64 (col S 2), .int .i64 (col S 3), .int .i64 (col S 4), .int .i64 (col S 5), .int .i64 (col S 6), .int .i64 (col S 7), .int .i64 (col S 8), .int .i64 (col S 9), .int .i64 (col S 10), .int .i64 (col S 11), .int .i64 (col S 12), .int .i64 (col S 13), .int .i64 (col S 14), .int .i64 (col S 15), .int .i64 (col S 16), .int .i64 (col S 17), .int .i64 (col S 18), .int .i64 (col S 19)] := rfl
theorem addr_addS (g j : Nat) : (⟨g, 0, none⟩ : Addr).add j = ⟨g, j, none⟩ := by unfold Addr.add; split <;> simp_all
theorem Rwi.cols (w : World) (S : Int) (t : TypeId) : Rwi (w.alloc (.cells (colV S).toArray t)) w.heap.size 20 (col S) := by
  refine ⟨fun j hj => ?_, fun j hj => by go_simp, by simp⟩
  have h := cells_new w (colV S) t j (.int .i64 (col S j)) (by simp [colV, hj])
  rw [addr_addS] at h
  exact h
theorem columns_lit (p n cp m : Nat) (f : Nat → Int) (S : Int) (w : World) (hn : n ≤ 254) (hw : ∀ j, j < n → m * j ≤ 253) (hf : ∀ j, j < n → -1048576 ≤ f j ∧ f j ≤ 1048576) (hS : sw f m n = S) (h0 : 0 ≤ S) (h1 : S < 2 ^ 253) (hR : Rwi w p n f) :
    Calls Tryd.prog 27 #[.slice (some ⟨p, 0, none⟩) n cp, .int .i64 m] w fun e w' => e = .returned (.tuple #[.agg (colV S).toArray, .bool true]) ∧ Below w.heap.size w w' := by
  refine (columns_any p n cp m f w hn hw hf hR).mono fun e w' q => ?_
  obtain ⟨S', e1, e2, e3⟩ := q
  rw [hS] at e1
  subst e1
  rw [show decide (S' / 2 ^ 320 = 0) = true from decide_eq_true (Int.ediv_eq_zero_of_lt h0 (by have := pow_le 253 320 (by omega); omega))] at e2
  exact ⟨e2, e3⟩
theorem wpList_load_midW {P : Program} {ops : Array Oper} {rest : List Oper} {op : Oper} {a : Act} {w : World} {Q : Exit → Act → World → Prop} (hw : Region.wanted op (yielded ops a.tmps) = true) (ty : TypeId) (x : Operand) (ho : op.op = .load ty x)
    (b o : Nat) (hx : a.eval x = .pointer (some ⟨b, o, none⟩)) (cs : List Value) (d : TypeDesc) (hc : w.rangeAt b o cs)
    (hu : P.underlying ty = some d) (hd : d.isRow = true) (hi : (P.info? ty).map (·.size) = some cs.length)
    (h : wpList P ops Q rest (a.put op.dst (.agg cs.toArray)) w) : wpList P ops Q (op :: rest) a w := by
  simp only [wpList, hw, if_true]
  exact Or.inl (wp_load_mid ty x ho b o hx cs d hc hu hd hi h)
theorem Rwi.range {w : World} {b : Nat} {S : Int} (h : Rwi w b 20 (col S)) : w.rangeAt b 0 (colV S) := fun j v hv => by
  have hj : j < 20 := by
    obtain ⟨h1, _⟩ := List.getElem?_eq_some_iff.1 hv
    simpa [colV] using h1
  rw [Nat.zero_add, h.c j hj]
  simp [colV, hj] at hv
  rw [← hv]
theorem stored20 (w2 : World) (cs : List Value) (hl : cs.length = 20) (t : TypeId) : Below w2.heap.size w2 ((w2.alloc (.cells #[.int .i64 0, .int .i64 0, .int .i64 0, .int .i64 0, .int .i64 0, .int .i64 0, .int .i64 0, .int .i64 0, .int .i64 0, .int .i64 0, .int .i64 0, .int .i64 0, .int .i64 0, .int .i64 0, .int .i64 0, .int .i64 0, .int .i64 0, .int .i64 0, .int .i64 0, .int .i64 0] t)).setCells w2.heap.size 0 cs) ∧ ((w2.alloc (.cells #[.int .i64 0, .int .i64 0, .int .i64 0, .int .i64 0, .int .i64 0, .int .i64 0, .int .i64 0, .int .i64 0, .int .i64 0, .int .i64 0, .int .i64 0, .int .i64 0, .int .i64 0, .int .i64 0, .int .i64 0, .int .i64 0, .int .i64 0, .int .i64 0, .int .i64 0, .int .i64 0] t)).setCells w2.heap.size 0 cs).rangeAt w2.heap.size 0 cs ∧ (w2.alloc (.cells #[.int .i64 0, .int .i64 0, .int .i64 0, .int .i64 0, .int .i64 0, .int .i64 0, .int .i64 0, .int .i64 0, .int .i64 0, .int .i64 0, .int .i64 0, .int .i64 0, .int .i64 0, .int .i64 0, .int .i64 0, .int .i64 0, .int .i64 0, .int .i64 0, .int .i64 0, .int .i64 0] t)).there w2.heap.size 0 cs.toArray.size := by
  have hth : (w2.alloc (.cells #[.int .i64 0, .int .i64 0, .int .i64 0, .int .i64 0, .int .i64 0, .int .i64 0, .int .i64 0, .int .i64 0, .int .i64 0, .int .i64 0, .int .i64 0, .int .i64 0, .int .i64 0, .int .i64 0, .int .i64 0, .int .i64 0, .int .i64 0, .int .i64 0, .int .i64 0, .int .i64 0] t)).there w2.heap.size 0 20 := there_new w2 _ t
  exact ⟨below_setCells w2.heap.size cs 0 (bl_alloc w2 _) (Nat.le_refl _), World.rangeAt_setCells_same _ _ _ _ (by rw [hl]; exact hth), by simpa [hl] using hth⟩
theorem col_win (N : Int) (k : Nat) : col N k = win N (16 * k) 16 := rfl
theorem col_limb (X : E4) (hX : X.ok) (k : Nat) (hk : k < 16) : X.get (k / 4) / 2 ^ (16 * (k % 4)) % 65536 = col X.n k := by
  rw [col_win]
  have e1 : 16 * k / 64 = k / 4 := by omega
  have e2 : 16 * k % 64 = 16 * (k % 4) := by omega
  by_cases h : k / 4 + 1 < 4
  · rw [win_low X hX (16 * k) 16 (by omega) (by omega), e1, e2, p2mul 16 (64 - 16 * (k % 4)) (by omega), ← Int.mul_assoc, Int.mul_comm _ (2 ^ (64 - 16 * (k % 4) - 16)), ← Int.mul_assoc]
    rw [show (2 : Int) ^ 16 = 65536 from rfl, Int.add_mul_emod_self_right]
  · rw [win_top X hX (16 * k) 16 (by omega), e2, show k / 4 = 3 by omega]
    rfl
theorem col_high (N : Int) (h0 : 0 ≤ N) (h : N < 2 ^ 253) (k : Nat) (hk : 16 ≤ k) : col N k = 0 := by
  unfold col
  have := pow_le 253 (16 * k) (by omega)
  rw [Int.ediv_eq_zero_of_lt h0 (by omega)]
  rfl

set_option maxRecDepth 100000 in
set_option maxHeartbeats 32000000 in
theorem spelled_any (a : E4) (i : Int) (w : World) (hT : Tb w) (ha : a.ok) : Calls Tryd.prog 7 #[a.v, .int .i64 i] w fun e w' => e = .returned (.bool true) ∧ Below w.heap.size w w' := by
  obtain ⟨X, hX⟩ : ∃ t : E4, lst a.n = t := ⟨_, rfl⟩
  have hXo : X.ok := by rw [← hX]; exact lst_ok _
  have hN := lst_253 a.n
  rw [hX] at hN
  obtain ⟨m, hm⟩ : ∃ m : Nat, (m : Int) = 2 + i % 128 % 7 := ⟨(2 + i % 128 % 7).toNat, by omega⟩
  have hm2 : 2 ≤ m := by omega
  have hm8 : m ≤ 8 := by omega
  obtain ⟨q, hq⟩ : ∃ q, 253 / m = q := ⟨_, rfl⟩
  have hqm : m * q ≤ 253 := by rw [← hq]; exact Nat.mul_div_le 253 m
  have q253 : q ≤ 253 := by rw [← hq]; exact Nat.div_le_self _ _
  have dv : (253 : Int).tdiv (m : Int) = (q : Int) := by
    rw [Int.tdiv_eq_ediv_of_nonneg (by omega), ← hq]; rfl
  have al := hidden (fun w T => alive_any w T)
  have le := hidden (fun w T => fix (Least_any a w T ha) hX)
  have dgx := hidden (fun w T => Digits_in a m w T ha (by omega) (by omega))
  have nfx := hidden (fun w T => Naf_in a m w T ha hm2 hm8)
  rw [hX, hq] at dgx
  rw [hX] at nfx
  have ds := dg_all X.n hN.1 hN.2 m (by omega)
  rw [hq] at ds
  have p7 := pow12 (m - 1) (by omega)
  have CD := hidden (fun p cp w h => columns_lit p (q + 1) cp m (dg X.n m) X.n w (by omega) (fun j hj => Nat.le_trans (Nat.mul_le_mul_left m (show j ≤ q by omega)) hqm) (fun j _ => by have := dg_range X.n m j (by omega); omega) ds hN.1 hN.2 h)
  have CN := hidden (fun p cp w h => columns_lit p 254 cp 1 (nf X.n m 254 0 0) X.n w (by omega) (fun j hj => by omega) (fun j _ => by have := nf_digit X.n m hm2 254 0 0 (Or.inl rfl) j; omega) (nf_all X.n hN.1 hN.2 m hm2) hN.1 hN.2 h)
  have DR := hidden (fun j => dg_range X.n m j (by omega))
  have ND := hidden (nf_digit X.n m hm2 254 0 0 (Or.inl rfl))
  have NG := hidden (nf_gap X.n m (by omega) 254 0 0)
  have CL := hidden (fun k hk => col_limb X hXo k hk)
  have CH := hidden (fun k hk => col_high X.n hN.1 hN.2 k hk)
  have HN := hidden hN
  have HXO := hidden hXo
  have a127 := i64_and127 i
  have tm7 : (i % 128).tmod 7 = i % 128 % 7 := by rw [Int.tmod_eq_emod_of_nonneg (by omega)]
  have wm0 : IntKind.i64.wrap (2 + i % 128 % 7) = (m : Int) := by rw [← hm]; exact IntWalk.i64_in _ (by omega)
  have HT := hidden hT
  have S0 := hidden (St.start w a 24)
  have mm0 : (2 : Int) ≤ (m : Int) := by omega
  have mm1 : (m : Int) ≤ 8 := by omega
  have q0 : (0 : Int) ≤ (q : Int) := by omega
  have q1 : (q : Int) ≤ 253 := by omega
  have wq1 : IntKind.i64.wrap ((q : Int) + 1) = (q : Int) + 1 := IntWalk.i64_in _ (by omega)
  have mz : ¬ (m : Int) = 0 := by omega
  have wm1 : IntKind.i64.wrap ((m : Int) - 1) = (m : Int) - 1 := IntWalk.i64_in _ (by omega)
  have wm2 : ((m : Int) - 1).toNat = m - 1 := by omega
  have wm3 : (0 : Int) ≤ (m : Int) - 1 := by omega
  have wmn : IntKind.i64.wrap (-(m : Int)) = -(m : Int) := IntWalk.i64_in _ (by omega)
  obtain ⟨H, hH⟩ : ∃ H, (2 : Int) ^ (m - 1) = H := ⟨_, rfl⟩
  rw [hH] at DR ND p7
  have pH := p2pos (m - 1)
  rw [hH] at pH
  have wH : IntKind.i64.wrap (2 ^ (m - 1)) = H := by rw [hH]; exact IntWalk.i64_in _ (by omega)
  have wHn : IntKind.i64.wrap (-H) = -H := IntWalk.i64_in _ (by omega)
  clear hX hXo hN hm hT ha hq hqm ds hH
  have R20 := hidden (fun (w : World) (b : Nat) (h : Rwi w b 20 (col X.n)) => h.range)
  have hl20 : (colV X.n).length = 20 := by simp [colV]
  have ho20 : (colV X.n).toArray.all (·.oneCell') = true := all_oneCell_toArray (fun v hv => by
    obtain ⟨z, _, rfl⟩ := List.mem_map.1 hv
    rfl)
  have qq := hidden (fun w => eq20 (colV X.n).toArray (col X.n) (fun i hi => by simp [colV, hi]) w)
  generalize colV X.n = cs at *
  have hi20 : (Tryd.prog.info? 45).map (·.size) = some cs.length := by rw [hl20]; kernel_rfl
  have hi21 : (Tryd.prog.info? 45).map (·.size) = some cs.toArray.size := by simpa using hi20
  have hu20 : Tryd.prog.underlying 45 = some (.array 20 2) := by kernel_rfl
  have HL := hidden hl20
  have HO := hidden ho20
  have HI := hidden hi20
  have HI2 := hidden hi21
  have HU := hidden hu20
  clear hl20 ho20 hi20 hi21 hu20
  have W253 := hidden dv
  have HQ := hidden wq1
  clear dv wq1
  simp only [E4.v] at le dgx nfx ⊢
  go_enter Tryd.func7, Tryd.ntmps7
  go_upto_region 1 with fail
  generalize (w.alloc (.cells #[.int .u64 a.x0, .int .u64 a.x1, .int .u64 a.x2, .int .u64 a.x3] 24)) = wB at S0 ⊢
  go_wp2_with fail
  refine (al.out _ (S0.out.tb HT.out)).mono ?_
  rintro e w1 ⟨rfl, hb1⟩
  have S1 := hidden (S0.out.keep hb1)
  clear hb1 S0 al
  go_upto_region 3 with fail
  go_cut [5] (fun vx wx => vx = .int .i64 m ∧ wx = w1)
  case first =>
    go_wp2_with fail
    go_meet
    exact ⟨rfl, rfl⟩
  case rest =>
  obtain ⟨rfl, rfl⟩ := hcut
  clear a127 tm7 wm0
  go_upto_region 4 with fail
  go_cut [6] (fun vx wx => ∃ ps : Nat, vx = .pointer (some ⟨ps, 0, none⟩) ∧ w.heap.size < ps ∧ St w [(ps, a)] [] wx)
  case first =>
    have x0 := (S1.out.live (w.heap.size, a) (by simp)).c0
    have x1 := (S1.out.live (w.heap.size, a) (by simp)).c1
    have x2 := (S1.out.live (w.heap.size, a) (by simp)).c2
    have x3 := (S1.out.live (w.heap.size, a) (by simp)).c3
    have hl := (S1.out.live (w.heap.size, a) (by simp)).lt
    have s2 := hidden ((S1.out.new a 25).sub (M := [(wc.heap.size, a)]) (by simp))
    go_wp2_with fail
    go_meet
    exact ⟨_, rfl, hl, s2.out⟩
  case rest =>
  obtain ⟨ps, rfl, hps, s1⟩ := hcut
  clear S1
  have S1 := hidden s1
  clear s1
  go_upto_region 5 with fail
  go_cut [7] (fun vx wx => ∃ pl : Nat, vx = .pointer (some ⟨pl, 0, none⟩) ∧ ps < pl ∧ St w [(pl, X), (ps, a)] [] wx)
  case first =>
    have x0 := (S1.out.live (ps, a) (by simp)).c0
    have x1 := (S1.out.live (ps, a) (by simp)).c1
    have x2 := (S1.out.live (ps, a) (by simp)).c2
    have x3 := (S1.out.live (ps, a) (by simp)).c3
    have TB := hidden (S1.out.tb HT.out)
    go_wp2_with fail
    refine (le.out _ TB.out).mono ?_
    rintro e w2 ⟨rfl, hb2⟩
    have s1 := S1.out.keep hb2
    have hl := (s1.live (ps, a) (by simp)).lt
    have s2 := hidden (s1.new X 25)
    clear hb2 s1 x0 x1 x2 x3
    go_wp2_with fail
    go_meet
    exact ⟨_, rfl, hl, s2.out⟩
  case rest =>
  obtain ⟨pl, rfl, hpl, s1⟩ := hcut
  clear S1 le
  have S1 := hidden s1
  clear s1
  go_upto_region 6 with fail
  go_cut [8] (fun vx wx => ∃ pw : Nat, vx = .pointer (some ⟨pw, 0, none⟩) ∧ pl < pw ∧ St w [(pl, X), (ps, a)] [] wx ∧ Rwi wx pw 20 (fun _ => 0))
  case first =>
    as_aux_lemma =>
      have hl := (S1.out.live (pl, X) (by simp)).lt
      have s2 := hidden (S1.out.keep (bl_alloc _ (.cells #[.int .i64 0, .int .i64 0, .int .i64 0, .int .i64 0, .int .i64 0, .int .i64 0, .int .i64 0, .int .i64 0, .int .i64 0, .int .i64 0, .int .i64 0, .int .i64 0, .int .i64 0, .int .i64 0, .int .i64 0, .int .i64 0, .int .i64 0, .int .i64 0, .int .i64 0, .int .i64 0] 45)))
      have eZ : (#[.int .i64 0, .int .i64 0, .int .i64 0, .int .i64 0, .int .i64 0, .int .i64 0, .int .i64 0, .int .i64 0, .int .i64 0, .int .i64 0, .int .i64 0, .int .i64 0, .int .i64 0, .int .i64 0, .int .i64 0, .int .i64 0, .int .i64 0, .int .i64 0, .int .i64 0, .int .i64 0] : Array Value) = madeCells #[.int .i64 0] 20 := by
        apply Array.ext'
        rw [toList_madeCells_one]
        rfl
      have r2 : Hid (Rwi (wc.alloc (.cells #[.int .i64 0, .int .i64 0, .int .i64 0, .int .i64 0, .int .i64 0, .int .i64 0, .int .i64 0, .int .i64 0, .int .i64 0, .int .i64 0, .int .i64 0, .int .i64 0, .int .i64 0, .int .i64 0, .int .i64 0, .int .i64 0, .int .i64 0, .int .i64 0, .int .i64 0, .int .i64 0] 45)) wc.heap.size 20 (fun _ => 0)) := hidden (by rw [eZ]; exact Rwi.made wc 20 _)
      clear eZ
      go_wp2_with fail
      go_meet
      exact ⟨_, rfl, hl, s2.out, r2.out⟩
  case rest =>
  obtain ⟨pw, rfl, hpw, s1, r1⟩ := hcut
  clear S1
  have S1 := hidden s1
  have R1 := hidden r1
  clear s1 r1
  go_wp2_with fail
  go_loopw [9] (fun iv w' => ∃ k : Nat, k ≤ 16 ∧ iv = .int .i64 k ∧ Hid (St w [(pl, X), (ps, a)] [] w') ∧ Hid (Rwi w' pw 20 (fun j => if j < k then col X.n j else 0))) (fun i _ => 16 - (intOf i).toNat)
  case atStart => exact ⟨0, by omega, rfl, S1, hidden (R1.out.congr (fun j _ => by rw [if_neg (by omega)]))⟩
  case round =>
    clear S1 R1
    obtain ⟨k, hk, rfl, hst, hrw⟩ := hrel
    by_cases hk16 : k < 16
    · have kk0 : (0 : Int) ≤ (k : Int) := by omega
      have kk1 : (k : Int) < 16 := by omega
      have kk2 : (k : Int) < 20 := by omega
      obtain ⟨q, hq⟩ : ∃ q, k / 4 = q := ⟨_, rfl⟩
      obtain ⟨r, hr⟩ : ∃ r, k % 4 = r := ⟨_, rfl⟩
      have q4 : q < 4 := by omega
      have r4 : r < 4 := by omega
      have cl := CL.out k hk16
      rw [hq, hr] at cl
      have dq : (k : Int).tdiv 4 = (q : Int) := by rw [Int.tdiv_eq_ediv_of_nonneg kk0]; omega
      have dr : (k : Int).tmod 4 = (r : Int) := by rw [Int.tmod_eq_emod_of_nonneg kk0]; omega
      have q0 : (0 : Int) ≤ (q : Int) := by omega
      have q1 : (q : Int) < 4 := by omega
      have r0 : (0 : Int) ≤ (r : Int) := by omega
      have r1 : (r : Int) < 4 := by omega
      have wq : IntKind.i64.wrap (q : Int) = (q : Int) := IntWalk.i64_in _ (by omega)
      have wr1 : IntKind.i64.wrap (r : Int) = (r : Int) := IntWalk.i64_in _ (by omega)
      have w16 : IntKind.i64.wrap (16 * (r : Int)) = 16 * (r : Int) := IntWalk.i64_in _ (by omega)
      have n16 : (16 * (r : Int)).toNat = 16 * r := by omega
      have g16 : (0 : Int) ≤ 16 * (r : Int) := by omega
      have xw := E4.get_wd HXO.out q
      obtain ⟨y0, y1⟩ := shr_bd (X.get q) (16 * r) xw
      have A1 := and16c _ y0 y1
      rw [cl] at A1
      have cx : wr.cell? ⟨pl, q, none⟩ = some (.int .u64 (X.get q)) := (hst.out.live (pl, X) (by simp)).get q q4
      have cw := hrw.out.c k (by omega)
      have fw := hrw.out.fr k (by omega)
      have vb : 0 ≤ col X.n k ∧ col X.n k < 65536 := by unfold col; omega
      have cv : IntKind.i64.wrap (col X.n k) = col X.n k := IntWalk.i64_in _ (by omega)
      have NR := hidden ((hrw.out.at k (by omega) (col X.n k)).congr (g := fun j => if j < k + 1 then col X.n j else 0) (fun j _ => by
        by_cases hj : j = k
        · subst hj
          rw [if_pos rfl, if_pos (by omega)]
        · rw [if_neg hj]
          by_cases hlt : j < k
          · rw [if_pos hlt, if_pos (by omega)]
          · rw [if_neg hlt, if_neg (by omega)]))
      have NS2 : Hid (St w [(pl, X), (ps, a)] [] (wr.setCell ⟨pw, k, none⟩ (.int .i64 (col X.n k)))) := hidden (hst.out.asideI (b := pw) (by simp; omega) (by omega) k _)
      rw [if_neg (by omega)] at cw
      generalize col X.n k = v at *
      generalize X.get q = x at *
      clear hst hrw hq hr cl xw vb
      go_wp2_with fail
      go_roundw
      case rel => exact ⟨k + 1, by omega, by go_num, NS2, NR⟩
      case measure => simp [intOf]; omega
    · have hkk : k = 16 := by omega
      subst hkk
      rw [show ((16 : Nat) : Int) = 16 from rfl]
      have S2 := hst
      have R2 := hidden (hrw.out.congr (g := col X.n) (fun j _ => by
        by_cases hj : j < 16
        · rw [if_pos hj]
        · rw [if_neg hj, CH.out j (by omega)]))
      clear hst hrw CL CH
      go_upto_region 11 with fail
      go_cut [10, 11] (fun vx ve wx => ∃ bd : Nat, vx = .slice (some ⟨bd, 0, none⟩) (q + 1) (q + 1) ∧ ve = .int .i64 0 ∧ St w [(pl, X), (ps, a)] [] wx ∧ Rwi wx pw 20 (col X.n) ∧ Rwi wx bd (q + 1) (dg X.n m))
      case first =>
        have x0 := (S2.out.live (ps, a) (by simp)).c0
        have x1 := (S2.out.live (ps, a) (by simp)).c1
        have x2 := (S2.out.live (ps, a) (by simp)).c2
        have x3 := (S2.out.live (ps, a) (by simp)).c3
        have TB := hidden (S2.out.tb HT.out)
        go_wp2_with fail
        refine (dgx.out _ TB.out).mono ?_
        rintro e w2 ⟨bd, rfl, hbd, rd, hb⟩
        have S3 := hidden (S2.out.keep hb)
        have R3 := hidden (R2.out.keep hb)
        have RD := hidden rd
        clear hb rd x0 x1 x2 x3 hbd
        go_wp2_with fail
        go_meet
        exact ⟨bd, rfl, rfl, S3.out, R3.out, RD.out⟩
      case rest =>
      obtain ⟨bd, rfl, rfl, s3, r3, rd⟩ := hcut
      clear S2 R2 dgx
      have S2 := hidden s3
      have R2 := hidden r3
      have RD := hidden rd
      clear s3 r3 rd
      go_upto_region 12 with fail
      go_cut [12, 13] (fun vx ve wx => ∃ bn : Nat, vx = .slice (some ⟨bn, 0, none⟩) 254 254 ∧ ve = .int .i64 0 ∧ St w [(pl, X), (ps, a)] [] wx ∧ Rwi wx pw 20 (col X.n) ∧ Rwi wx bd (q + 1) (dg X.n m) ∧ Rwi wx bn 254 (nf X.n m 254 0 0))
      case first =>
        have x0 := (S2.out.live (ps, a) (by simp)).c0
        have x1 := (S2.out.live (ps, a) (by simp)).c1
        have x2 := (S2.out.live (ps, a) (by simp)).c2
        have x3 := (S2.out.live (ps, a) (by simp)).c3
        have TB := hidden (S2.out.tb HT.out)
        go_wp2_with fail
        refine (nfx.out _ TB.out).mono ?_
        rintro e w2 ⟨bn, rfl, hbn, rn, hb⟩
        have S3 := hidden (S2.out.keep hb)
        have R3 := hidden (R2.out.keep hb)
        have R4 := hidden (RD.out.keep hb)
        have RN := hidden rn
        clear hb rn x0 x1 x2 x3 hbn
        go_wp2_with fail
        go_meet
        exact ⟨bn, rfl, rfl, S3.out, R3.out, R4.out, RN.out⟩
      case rest =>
      obtain ⟨bn, rfl, rfl, s3, r3, rd, rn⟩ := hcut
      have B2 := hidden s3.bel
      clear S2 R2 RD nfx
      have R2 := hidden r3
      have RD := hidden rd
      have RN := hidden rn
      clear s3 r3 rd rn
      have dv := W253.out
      have wq1 := HQ.out
      have RW := hidden (R20.out _ _ R2.out)
      clear R2 R20
      go_upto_region 15 with fail
      clear dv wq1
      go_cut [14, 15] (fun vx ve wx => ∃ p1 : Nat, vx = .pointer (some ⟨p1, 0, none⟩) ∧ ve = .bool true ∧ Below w.heap.size w wx ∧ wx.rangeAt pw 0 cs ∧ Rwi wx bd (q + 1) (dg X.n m) ∧ Rwi wx bn 254 (nf X.n m 254 0 0) ∧ wx.rangeAt p1 0 cs)
      case first =>
        as_aux_lemma =>
          go_wp2_with fail
          refine (CD.out bd _ _ RD.out).mono ?_
          rintro e w2 ⟨rfl, hb⟩
          obtain ⟨t1, t2, t3⟩ := stored20 w2 cs HL.out 45
          have T2 := hidden t2
          have HTH := hidden t3
          have R3 := hidden (range_keep (range_keep RW.out hb) t1)
          have R4 := hidden ((RD.out.keep hb).keep t1)
          have R5 := hidden ((RN.out.keep hb).keep t1)
          have B3 := hidden (bl_trans (bl_trans B2.out hb) t1)
          clear hb t1 t2 t3
          go_wp2_with (refine wpList_store_mid rfl 45 _ _ rfl w2.heap.size 0 cs.toArray (by rfl) (by rfl) HTH.out HI2.out HO.out ?_)
          go_meet
          exact ⟨_, rfl, rfl, B3.out, R3.out, R4.out, R5.out, T2.out⟩
      case rest =>
      obtain ⟨p1, rfl, rfl, b3, r3, rd, rn, r1⟩ := hcut
      clear B2 RW RD RN CD
      have B2 := hidden b3
      have RW := hidden r3
      have RD := hidden rd
      have RN := hidden rn
      have RS := hidden r1
      clear b3 r3 rd rn r1
      go_upto_region 16 with fail
      go_cut [16, 17] (fun vx ve wx => ∃ p2 : Nat, vx = .pointer (some ⟨p2, 0, none⟩) ∧ ve = .bool true ∧ Below w.heap.size w wx ∧ wx.rangeAt pw 0 cs ∧ Rwi wx bd (q + 1) (dg X.n m) ∧ Rwi wx bn 254 (nf X.n m 254 0 0) ∧ wx.rangeAt p1 0 cs ∧ wx.rangeAt p2 0 cs)
      case first =>
        as_aux_lemma =>
          go_wp2_with fail
          refine (CN.out bn _ _ RN.out).mono ?_
          rintro e w2 ⟨rfl, hb⟩
          obtain ⟨t1, t2, t3⟩ := stored20 w2 cs HL.out 45
          have T2 := hidden t2
          have HTH := hidden t3
          have R3 := hidden (range_keep (range_keep RW.out hb) t1)
          have R4 := hidden ((RD.out.keep hb).keep t1)
          have R5 := hidden ((RN.out.keep hb).keep t1)
          have R7 := hidden (range_keep (range_keep RS.out hb) t1)
          have B3 := hidden (bl_trans (bl_trans B2.out hb) t1)
          clear hb t1 t2 t3
          go_wp2_with (refine wpList_store_mid rfl 45 _ _ rfl w2.heap.size 0 cs.toArray (by rfl) (by rfl) HTH.out HI2.out HO.out ?_)
          go_meet
          exact ⟨_, rfl, rfl, B3.out, R3.out, R4.out, R5.out, R7.out, T2.out⟩
      case rest =>
      obtain ⟨p2, rfl, rfl, b3, r3, rd, rn, r1, r2⟩ := hcut
      clear B2 RW RD RN RS CN
      have B2 := hidden b3
      have RD := hidden rd
      have RN := hidden rn
      have L0 := hidden r3
      have L1 := hidden r1
      have L2 := hidden r2
      have qe := qq.out
      clear b3 r3 rd rn r1 r2 qq HL HO HI2
      go_upto_region 17 with fail
      go_cut [104] (fun vx wx => vx = .bool false ∧ wx = wc)
      case first =>
        as_aux_lemma =>
          go_wp2_with (first | refine wpList_load_midW rfl 45 _ rfl p1 0 (by rfl) cs _ L1.out HU.out rfl HI.out ?_ | refine wpList_load_midW rfl 45 _ rfl pw 0 (by rfl) cs _ L0.out HU.out rfl HI.out ?_ | refine wpList_load_midW rfl 45 _ rfl p2 0 (by rfl) cs _ L2.out HU.out rfl HI.out ?_)
          go_meet
          exact ⟨rfl, rfl⟩
      case rest =>
      obtain ⟨rfl, rfl⟩ := hcut
      clear L0 L1 L2 qe HU HI
      go_wp2_with fail
      go_loopw [20] (fun iv w' => ∃ k : Nat, k ≤ q + 1 ∧ iv = .int .i64 k ∧ Hid (Rwi w' bd (q + 1) (dg X.n m)) ∧ Hid (Rwi w' bn 254 (nf X.n m 254 0 0)) ∧ Hid (Below w.heap.size w w')) (fun i _ => q + 1 - (intOf i).toNat)
      case atStart => exact ⟨0, by omega, rfl, RD, RN, B2⟩
      case round =>
        clear RD RN B2
        obtain ⟨k, hk, rfl, RD, RN, B2⟩ := hrel
        by_cases hkq : k < q + 1
        · have kk0 : (0 : Int) ≤ (k : Int) := by omega
          have kk1 : (k : Int) < (q : Int) + 1 := by omega
          have cd := RD.out.c k hkq
          have dr := DR.out k
          generalize dg X.n m k = y at *
          have g1 : ¬ y ≤ -H := by omega
          have g2 : ¬ H < y := by omega
          clear dr
          go_wp2_with fail
          go_roundw
          case rel => exact ⟨k + 1, by omega, by go_num, RD, RN, B2⟩
          case measure => simp [intOf]; omega
        · have hkk : k = q + 1 := by omega
          subst hkk
          have lq : ¬ ((q + 1 : Nat) : Int) < (q : Int) + 1 := by omega
          clear RD DR
          go_wp2_with fail
          clear lq
          go_loopw [19, 21] (fun lv iv w' => ∃ (k : Nat) (la : Int), k ≤ 254 ∧ lv = .int .i64 la ∧ iv = .int .i64 k ∧ (-8 ≤ la ∧ la ≤ 254) ∧ Hid (∀ y : Nat, k ≤ y → nf X.n m 254 0 0 y ≠ 0 → la + (m : Int) ≤ (y : Int)) ∧ Hid (Rwi w' bn 254 (nf X.n m 254 0 0)) ∧ Hid (Below w.heap.size w w')) (fun _ i _ => 254 - (intOf i).toNat)
          case atStart => exact ⟨0, -(m : Int), by omega, rfl, rfl, by omega, hidden (fun y _ _ => by omega), RN, B2⟩
          case round =>
            clear RN B2
            obtain ⟨k, la, hk, rfl, rfl, hla, hgp, RN, B2⟩ := hrel
            by_cases hk254 : k < 254
            · have kk0 : (0 : Int) ≤ (k : Int) := by omega
              have kk1 : (k : Int) < 254 := by omega
              have cn := RN.out.c k hk254
              have nd := ND.out k
              have gp := hgp.out k (Nat.le_refl _)
              have GN := hidden (fun (y : Nat) (h1 : k + 1 ≤ y) (h2 : nf X.n m 254 0 0 k ≠ 0) (h3 : nf X.n m 254 0 0 y ≠ 0) => (show (k : Int) + (m : Int) ≤ (y : Int) by have := NG.out k y (by omega) h2 h3; omega))
              have GO : Hid (∀ y : Nat, k + 1 ≤ y → nf X.n m 254 0 0 y ≠ 0 → la + (m : Int) ≤ (y : Int)) := hidden (fun y h1 h2 => hgp.out y (by omega) h2)
              obtain ⟨y, hy⟩ : ∃ y, nf X.n m 254 0 0 k = y := ⟨_, rfl⟩
              rw [hy] at cn nd gp GN
              by_cases h0 : y = 0
              · subst h0
                clear nd gp hy hgp
                go_wp2_with fail
                go_roundw
                case rel => exact ⟨k + 1, la, by omega, rfl, by go_num, hla, GO, RN, B2⟩
                case measure => simp [intOf]; omega
              · have gp2 := gp h0
                have nd2 : y % 2 = 1 ∧ -H < y ∧ y < H := by
                  rcases nd with h | h
                  · exact absurd h h0
                  · exact h
                have G2 : Hid (∀ z : Nat, k + 1 ≤ z → nf X.n m 254 0 0 z ≠ 0 → (k : Int) + (m : Int) ≤ (z : Int)) := hidden (fun z h1 h2 => GN.out z h1 h0 h2)
                have t2 : ¬ y.tmod 2 = 0 := fun h => by
                  have := Int.dvd_of_tmod_eq_zero h
                  omega
                have t3 : (y.tmod 2 == 0) = false := by simp [t2]
                have g0 : (y == 0) = false := by simp [h0]
                have g1 : ¬ y ≤ -H := by omega
                have g2 : ¬ H ≤ y := by omega
                have w1 : IntKind.i64.wrap ((k : Int) - la) = (k : Int) - la := IntWalk.i64_in _ (by omega)
                have g3 : ¬ (k : Int) - la < (m : Int) := by omega
                clear nd gp hy hgp nd2 gp2 GN GO
                go_wp2_with fail
                go_roundw
                case rel => exact ⟨k + 1, (k : Int), by omega, rfl, by go_num, by omega, G2, RN, B2⟩
                case measure => simp [intOf]; omega
            · have hkk : k = 254 := by omega
              subst hkk
              rw [show ((254 : Nat) : Int) = 254 from rfl]
              go_wp2_with fail
              go_ret
              exact ⟨rfl, B2.out⟩
end Go.Proofs.YtglalahmcckjaaaDoor
