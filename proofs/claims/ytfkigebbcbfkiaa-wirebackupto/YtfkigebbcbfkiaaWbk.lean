import Derived.Test.YtfkigebbcbfkiaaWz
namespace Go.Proofs.Ytfkigebbcbfkiaa
open Go.RowKit
theorem eb_next (ts : List Tg) (k : Nat) (h : k < ts.length) : eb (ts.take (k + 1)) = eb (ts.take k) ++ tb ts[k] := by
  unfold eb
  rw [List.take_add_one, List.flatMap_append]
  simp [List.getElem?_eq_getElem h]
theorem eb_take_le (ts : List Tg) (k : Nat) : (eb (ts.take k)).length ≤ (eb ts).length := by
  have : eb ts = eb (ts.take k) ++ eb (ts.drop k) := by unfold eb; rw [← List.flatMap_append, List.take_append_drop]
  rw [this, List.length_append]
  omega
theorem tmod_both (a b : Int) (hb : 0 < b) : -b < a.tmod b ∧ a.tmod b < b := by
  by_cases h : 0 ≤ a
  · rw [Int.tmod_eq_emod_of_nonneg h]
    have h1 := Int.emod_nonneg a (Int.ne_of_gt hb)
    have h2 := Int.emod_lt_of_pos a hb
    omega
  · have e : a.tmod b = -((-a).tmod b) := by rw [Int.neg_tmod, Int.neg_neg]
    rw [e, Int.tmod_eq_emod_of_nonneg (by omega : 0 ≤ -a)]
    have h1 := Int.emod_nonneg (-a) (Int.ne_of_gt hb)
    have h2 := Int.emod_lt_of_pos (-a) hb
    omega
theorem tmod_lo (a b : Int) (hb : 0 < b) : -b < a.tmod b := (tmod_both a b hb).1
theorem tmod_hi (a b : Int) (hb : 0 < b) : a.tmod b < b := (tmod_both a b hb).2
/-- append of bytes at an operation that a guard lets through -/
theorem wpList_app_byG {w : World} {ops : Array Oper} {rest : List Oper} {o : Oper} {a : Act} {Q : Exit → Act → World → Prop} (hw : Region.wanted o (yielded ops a.tmps) = true) (sl x : Operand)
    (ho : o.op = .call { callee := .builtin .append, args := #[sl, x], argTypes := #[22, 22] })
    (base : Nat) (v : Value) (xs bs : List UInt8) (P : Option Addr) (c : Nat) (hs : a.eval sl = v) (hx : a.eval x = .slice P bs.length c) (hown : w.ownsRow base 5 1 v xs.length (cb xs)) (hB : By w P c bs) (hl : xs.length + bs.length ≤ 2 ^ 47) (hbase : base ≤ w.heap.size)
    (h : ∀ v' w', w'.ownsRow base 5 1 v' (xs ++ bs).length (cb (xs ++ bs)) → w.grownBy w' v.ownBlock → wpList Try.prog ops Q rest (a.put o.dst v') w') : wpList Try.prog ops Q (o :: rest) a w := by
  unfold wpList
  rw [if_pos hw]
  refine Or.inl ?_
  obtain ⟨v', w', hr, h2, h3⟩ := run_app_by w base o.type v xs bs P c hown hB hl hbase
  unfold Oper.wp execOp
  simp only [ho, resolve, invoke, builtin, Sem.run_bind, Sem.run_pure, Result.andThen_ok, List.map_toArray, List.map_cons, List.map_nil, hs, hx, hr]
  exact h v' w' h2 h3
set_option maxRecDepth 100000 in
set_option maxHeartbeats 16000000 in
theorem back_any (PT : Option Addr) (cT : Nat) (ts : List Tg) (a : Int) (w : World) (hT : Tl w PT ts) (hn : ts.length ≤ 2 ^ 39) (he : (eb ts).length ≤ 2 ^ 39) (hok : ∀ k (h : k < ts.length), Tok ts[k]) (ha : -9223372036854775808 ≤ a ∧ a ≤ 9223372036854775807) :
    Calls Try.prog 5 #[.slice PT ts.length cT, .int .i64 a] w fun e w' => e = .returned (.bool true) ∧ Below w.heap.size w w' := by
  have HT := hidden hT
  have HN := hidden hn
  have HE := hidden he
  have HK := hidden hok
  have HKm : Hid (∀ t ∈ ts, Tok t) := hidden (fun t ht => by
    obtain ⟨k, hk, rfl⟩ := List.getElem_of_mem ht
    exact hok k hk)
  have HA := hidden ha
  have L := hidden (live_any w)
  clear hT hn he hok ha
  go_enter Try.func5, Try.ntmps5
  go_upto_region 5 with (first | (go_at_call 19; refine L.out.mono ?_; rintro e w1 ⟨rfl, hb⟩; have HB := hidden hb; clear L hb))
  go_loopw [5, 6] (fun bv kv w' => ∃ k : Nat, k ≤ ts.length ∧ kv = .int .i64 (k : Int) ∧ Hid (w'.ownsRow w.heap.size 5 1 bv (eb (ts.take k)).length (cb (eb (ts.take k)))) ∧ Hid (Below w.heap.size w w')) (fun _ k _ => ts.length - (intOf k).toNat)
  case atStart => exact ⟨0, by omega, rfl, hidden (World.ownsRow_nil _ _ _ _), HB⟩
  case round =>
    clear HB
    obtain ⟨k, hk, rfl, HO, HB⟩ := hrel
    by_cases hkn : k < ts.length
    · obtain ⟨bT, oT, rfl, hc⟩ := HT.out.lie (by omega)
      have x0 := cell_keep (hc k hkn).1 HB.out
      have x1 := cell_keep (hc k hkn).2.1 HB.out
      have x2 := cell_keep (hc k hkn).2.2 HB.out
      have HY := hidden ((HT.out.each k hkn).keep HB.out)
      have HOK := hidden (HK.out k hkn)
      have k0 : (0 : Int) ≤ (k : Int) := by omega
      have k1 : (k : Int) < (ts.length : Int) := by omega
      have w9 : IntKind.i64.wrap ((k : Int) + 1) = (k : Int) + 1 := IntWalk.i64_in _ (by have := HN.out; omega)
      have HX := hidden (eb_next ts k hkn)
      have HXl : Hid ((eb (ts.take k) ++ tb ts[k]).length ≤ 2 ^ 39) := hidden (by rw [← HX.out]; exact Nat.le_trans (eb_take_le ts _) HE.out)
      generalize ts[k] = t at *
      generalize eb (ts.take k) = Z at HO HX HXl
      obtain ⟨PZ, cZ, rfl, hyz⟩ := own_by HO.out
      by_cases htx : t.tx = true
      · have htb : tb t = vn t.B.length ++ t.B := by unfold tb; rw [if_pos htx]
        rw [htb] at HX HXl
        rw [htx] at x0
        have AB := hidden (appBytes_any PZ t.P cZ t.c Z t.B wr hyz HY.out (by have := HXl.out; simp only [List.length_append] at this; omega))
        rw [← HX.out] at AB
        clear hyz htb hc
        go_wp2_with (first | (go_at_call 10; refine AB.out.mono ?_; rintro e w3 ⟨v3, rfl, ho, hb⟩; have HO3 := hidden (own_less ho HB.out.size); replace HB := hidden (bl_trans HB.out hb); clear AB ho hb))
        go_roundw
        case rel => exact ⟨k + 1, by omega, by go_num, HO3, HB⟩
        case measure => simp [intOf]; omega
      · have htf : t.tx = false := by simpa using htx
        have htb : tb t = vn t.n := by unfold tb; rw [if_neg htx]
        rw [htb] at HX HXl
        rw [htf] at x0
        have AB := hidden (appNum_any PZ cZ Z t.n wr hyz (by have := HXl.out; simp only [List.length_append] at this; omega) HOK.out.1)
        rw [← HX.out] at AB
        clear hyz htb hc
        go_wp2_with (first | (go_at_call 9; refine AB.out.mono ?_; rintro e w3 ⟨v3, rfl, ho, hb⟩; have HO3 := hidden (own_less ho HB.out.size); replace HB := hidden (bl_trans HB.out hb); clear AB ho hb))
        go_roundw
        case rel => exact ⟨k + 1, by omega, by go_num, HO3, HB⟩
        case measure => simp [intOf]; omega
    · obtain rfl : k = ts.length := by omega
      have lq : ¬ (ts.length : Int) < (ts.length : Int) := by omega
      rw [List.take_length] at HO
      have G0 := hidden (Gd.all [] ts HKm.out)
      rw [List.append_nil] at G0
      have G1 := hidden (Gd.all [0] ts HKm.out)
      have G2 := hidden (fun k h => Gd.cut ts k HKm.out h)
      generalize eb ts = Z at HO HE G0 G1 G2
      obtain ⟨PZ, cZ, rfl, hyz⟩ := own_by HO.out
      have hcz : Z.length ≤ cZ := by obtain ⟨P2, c2, h2, h3⟩ := own_shape HO.out; simp only [Value.slice.injEq] at h2; omega
      have R0 := hidden (reads_any PT cT ts PZ cZ Z (en [] 0) 0 wr (HT.out.keep HB.out) hyz (by have := HE.out; omega) (by have := HN.out; omega) HK.out G0.out)
      have N0 := hidden (fun w' => World.ownsRow_nil w' w'.heap.size 5 1)
      obtain ⟨Z1, hZ1⟩ : ∃ Z1 : List UInt8, Z1 = Z ++ [0] := ⟨_, rfl⟩
      rw [← hZ1] at G1
      have HZ1 := hidden hZ1
      have HZ1l : Hid (Z1.length ≤ 2 ^ 40) := hidden (by rw [hZ1]; have := HE.out; simp only [List.length_append, List.length_cons, List.length_nil]; omega)
      clear hZ1
      have HYZ := hidden hyz
      have HCZ := hidden hcz
      clear HO hyz hcz G0
      go_upto_region 12 with (first | (go_at_call 20; refine R0.out.mono ?_; rintro e w3 ⟨rfl, hb⟩; have HB3 := hidden hb; clear R0 hb) | (at_builtin; refine wpList_app_byG (by rfl) _ _ rfl w3.heap.size _ [] Z PZ cZ rfl rfl (N0.out w3) (HYZ.out.keep HB3.out) (by have := HE.out; simp only [List.length_nil]; omega) (Nat.le_refl _) ?_; intro v4 w4 ho hg; have HO4 := hidden ho; have HB4 := hidden (below_grown hg (Nat.le_refl _) (fun k hk => ((N0.out w3).lt k hk).1)); clear N0 ho hg; rw [List.nil_append] at HO4; have HY4 := hidden (by_list w4 [0] 1)) | (at_builtin; refine wpList_app_byG (by rfl) _ _ rfl w3.heap.size _ Z [0] (some ⟨w4.heap.size, 0, none⟩) 1 rfl rfl (own_stay HO4.out (bl_alloc w4 _)) HY4.out (by have := HE.out; simp only [List.length_cons, List.length_nil]; omega) (Nat.le_trans HB4.out.size (bl_alloc w4 _).size) ?_; intro v5 w5 ho hg; have HB5 := hidden (below_trans (bl_trans HB4.out (bl_alloc w4 _)) (below_grown hg (Nat.le_trans HB4.out.size (bl_alloc w4 _).size) (fun k hk => (HO4.out.lt k hk).1))); rw [← HZ1.out] at ho; obtain ⟨P5, c5, rfl, hy5⟩ := own_by ho; replace HB := hidden (bl_trans HB.out (bl_trans HB3.out HB5.out)); have R1 := hidden (reads_any PT cT ts P5 c5 Z1 (en [0] 0) 101 w5 (HT.out.keep HB.out) hy5 HZ1l.out (by have := HN.out; omega) HK.out G1.out); replace HYZ := hidden (HYZ.out.keep (bl_trans HB3.out HB5.out)); clear ho hg hy5 HO4 HY4 HB4 HB5 HB3) | (go_at_call 20; refine R1.out.mono ?_; rintro e w6 ⟨rfl, hb⟩; replace HB := hidden (bl_trans HB.out hb); replace HYZ := hidden (HYZ.out.keep hb); clear R1 hb))
      by_cases hz : Z = []
      · subst hz
        go_wp2_with fail
        refine bodyPost_ret (v := .bool true) (by simp [results, Try.results5, go_sem]) rfl ⟨rfl, HB.out⟩
      · have hz1 : 0 < Z.length := List.length_pos_iff.2 hz
        have hz2 : ¬ (Z.length : Int) = 0 := by omega
        go_upto_region 15 with fail
        obtain ⟨m, hm, hm1, hm2⟩ : ∃ m : Int, a.tmod (Z.length : Int) = m ∧ -(Z.length : Int) < m ∧ m < (Z.length : Int) := ⟨_, rfl, tmod_lo a _ (by omega), tmod_hi a _ (by omega)⟩
        rw [hm]
        have RA := hidden (fun k (hk : k < Z.length) => reads_any PT cT ts PZ cZ (Z.take k) 100 100 w6 (HT.out.keep HB.out) (HYZ.out.front' k) (by have := HE.out; rw [List.length_take]; omega) (by have := HN.out; omega) HK.out (G2.out k hk))
        clear hm hz hz2 G1 G2
        by_cases hneg : m < 0
        · obtain ⟨j, hj⟩ : ∃ j : Nat, m + (Z.length : Int) = (j : Int) := ⟨(m + (Z.length : Int)).toNat, by omega⟩
          have wj : wrap64 (j : Int) = (j : Int) := by unfold wrap64; have := HE.out; omega
          have wj2 : IntKind.i64.wrap (j : Int) = (j : Int) := IntWalk.i64_in _ (by have := HE.out; omega)
          have RB := RA.out j (by omega)
          rw [List.length_take, Nat.min_eq_left (by omega)] at RB
          have RC := hidden RB
          have j0 : (0 : Int) ≤ (j : Int) := by omega
          have j1 : (j : Int) ≤ (cZ : Int) := by have := HCZ.out; omega
          clear RA RB
          go_wp2_with (first | (go_at_call 20; refine RC.out.mono ?_; rintro e w7 ⟨rfl, hb⟩; replace HB := hidden (bl_trans HB.out hb); clear RC hb))
          refine bodyPost_ret (v := .bool true) (by simp [results, Try.results5, go_sem]) rfl ⟨rfl, HB.out⟩
        · obtain ⟨j, rfl⟩ : ∃ j : Nat, m = (j : Int) := ⟨m.toNat, by omega⟩
          have RB := RA.out j (by omega)
          rw [List.length_take, Nat.min_eq_left (by omega)] at RB
          have RC := hidden RB
          have j0 : (0 : Int) ≤ (j : Int) := by omega
          have j1 : (j : Int) ≤ (cZ : Int) := by have := HCZ.out; omega
          clear RA RB
          go_wp2_with (first | (go_at_call 20; refine RC.out.mono ?_; rintro e w7 ⟨rfl, hb⟩; replace HB := hidden (bl_trans HB.out hb); clear RC hb))
          refine bodyPost_ret (v := .bool true) (by simp [results, Try.results5, go_sem]) rfl ⟨rfl, HB.out⟩
end Go.Proofs.Ytfkigebbcbfkiaa
