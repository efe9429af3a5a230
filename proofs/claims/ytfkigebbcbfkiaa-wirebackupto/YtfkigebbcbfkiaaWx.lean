import Derived.Test.YtfkigebbcbfkiaaWv
namespace Go.Proofs.Ytfkigebbcbfkiaa
open Go.RowKit
theorem ct_wr {bs : List UInt8} {most : Nat} (h : (ct bs most).2.2 = 0) : bs.take (ct bs most).2.1 = vn (ct bs most).1 := by
  obtain ⟨-, -, -, h1⟩ := ct_le h
  rw [h1] at h ⊢
  exact (nm_ok bs _ h).2.2.2.1
/-- what is taken is written again as what it was -/
theorem bt_wr {bs : List UInt8} {most : Nat} (h : (bt bs most).2.2 = 0) : vn (bt bs most).1.length ++ (bt bs most).1 = bs.take (bt bs most).2.1 := by
  by_cases h0 : (ct bs most).2.2 = 0
  · by_cases h1 : bs.length - (ct bs most).2.1 < (ct bs most).1
    · rw [bt_end h0 h1] at h; simp at h
    · have h2 := ct_wr h0
      rw [bt_ok h0 h1]
      dsimp only
      rw [List.length_take, List.length_drop, Nat.min_eq_left (by omega), ← h2, List.take_add]
  · rw [bt_bad h0] at h; exact absurd h h0
set_option maxRecDepth 100000 in
set_option maxHeartbeats 16000000 in
theorem one_any (P : Option Addr) (c : Nat) (bs : List UInt8) (w : World) (hB : By w P c bs) (hl : bs.length ≤ 140737488351232) (hc : bs.length ≤ c) :
    Calls Try.prog 6 #[.slice P bs.length c] w fun e w' => e = .returned (.bool true) ∧ Below w.heap.size w w' := by
  have HL := hidden hl
  have HP := hidden hB
  have HC := hidden hc
  have L := hidden (live_any w)
  clear hl hB hc
  go_enter Try.func6, Try.ntmps6
  go_upto_region 3 with (first | (go_at_call 19; refine L.out.mono ?_; rintro e w1 ⟨rfl, hb⟩; have HB := hidden hb; clear L hb))
  have NR := hidden (newReader_any (HP.out.keep HB.out) (by have := HL.out; omega))
  go_upto_region 4 with (first | (go_at_call 21; refine NR.out.mono ?_; rintro e w2 ⟨g, Qg, dg, rfl, hr, hg, hb⟩; have HRg := hidden hr; have HGg := hidden (Nat.le_trans HB.out.size hg); replace HB := hidden (bl_trans HB.out hb); clear NR hr hg hb))
  have NA : Hid (Calls Try.prog 22 #[.pointer (some ⟨g, 0, none⟩), .int .u64 18446744073709551615] w2 fun e w' => ∃ (P' : Option Addr) (c' : Nat), e = .returned (.int .u64 ((nm bs 18446744073709551615).1 : Int)) ∧ Rd w' g P' c' (bs.drop (nm bs 18446744073709551615).2.1) ((nm bs 18446744073709551615).2.2 : Int) ∧ Kp g w2 w') := hidden (Number_any 18446744073709551615 HRg.out (by have := HL.out; omega))
  have HOK := hidden (nm_ok bs 18446744073709551615)
  have HBAD := hidden (nm_fault bs 18446744073709551615)
  have HEND := hidden (nm_end bs 18446744073709551615)
  have HLESS := hidden (fun n => nm_of (bs := bs) (most := n) (x := rd 0 0 bs) rfl)
  generalize nm bs 18446744073709551615 = x at NA HOK HBAD HEND
  obtain ⟨n, s, ex⟩ := x
  dsimp only at NA HOK HBAD HEND
  go_upto_region 5 with (first | (go_at_call 22; refine NA.out.mono ?_; rintro e w3 ⟨P3, c3, rfl, hr, hk⟩; have HR3 := hidden hr; replace HB := hidden (below_trans HB.out (hk.below HGg.out HB.out.size)); clear NA hr hk HRg))
  have EA := hidden (err_any HR3.out)
  by_cases h0 : ex = 0
  · subst h0
    obtain ⟨hn, -, hs, hv, -, hrd⟩ := HOK.out rfl
    have AN := hidden (appNum_any none 0 [] n w3 (by_none _) (by simp) hn)
    rw [List.nil_append, ← hv] at AN
    have hlt : (bs.take s).length = s := by rw [List.length_take]; omega
    rw [hlt] at AN
    have LA := hidden (fun w' (h : Below w3.heap.size w3 w') => left_any (HR3.out.keep h))
    rw [List.length_drop] at LA
    have s0 : IntKind.i64.wrap ((bs.length : Int) - ((bs.length - s : Nat) : Int)) = (s : Int) := by rw [IntWalk.i64_in _ (by have := HL.out; omega)]; omega
    have s1 : (0 : Int) ≤ (s : Int) := by omega
    have s2 : (s : Int) ≤ (c : Int) := by have := HC.out; omega
    have SA := hidden (fun w' PQ cq (h1 : By w' PQ cq (bs.take s)) (h : Below w.heap.size w w') => same_any PQ P cq c (bs.take s) (bs.take s) w' h1 ((HP.out.keep h).front' s))
    rw [hlt] at SA
    have HLE := hidden (fun (h : 0 < n) => show nm bs (n - 1) = (0, 0, 102) by rw [HLESS.out, hrd]; simp; omega)
    have HNN := hidden hn
    generalize bs.length - s = ml at LA s0
    generalize bs.take s = TK at AN SA
    clear hn hs hv hrd hlt HOK HBAD HEND HLESS
    go_upto_region 8 with (first | (go_at_call 23; refine EA.out.mono ?_; rintro e wx ⟨rfl, rfl⟩; clear EA) | (go_at_call 9; refine AN.out.mono ?_; rintro e w4 ⟨v4, rfl, ho, hb⟩; obtain ⟨P4, c4, rfl, -⟩ := own_shape ho; have HO4 := hidden (own_byQ ho); have HB4 := hidden hb; replace HB := hidden (bl_trans HB.out hb); clear AN ho hb) | (go_at_call 24; refine (LA.out _ HB4.out).mono ?_; rintro e wx ⟨rfl, rfl⟩; clear LA) | (go_at_call 13; refine (SA.out _ P4 c4 HO4.out HB.out).mono ?_; rintro e wx ⟨rfl, rfl⟩; clear SA))
    clear s0 s1 s2 HO4
    replace HR3 := hidden (HR3.out.keep HB4.out)
    clear HB4
    by_cases hn0 : 0 < n
    · have n0 : (0 : Int) < (n : Int) := by omega
      have n1 : IntKind.u64.wrap ((n : Int) - 1) = ((n - 1 : Nat) : Int) := by rw [IntKind.wrap_u64]; have := HNN.out; omega
      have HLE2 := HLE.out hn0
      have NR := hidden (newReader_any (HP.out.keep HB.out) (by have := HL.out; omega))
      go_upto_region 10 with (first | (go_at_call 21; refine NR.out.mono ?_; rintro e w5 ⟨q, Qq, dq, rfl, hr, hg, hb⟩; have HRq := hidden hr; have HGq := hidden hg; have HBq := hidden hb; clear NR hr hg hb))
      have NA := hidden (Number_any (n - 1) HRq.out (by have := HL.out; omega))
      rw [HLE2] at NA
      clear HLE HLE2 HNN
      generalize n - 1 = n' at NA n1
      go_upto_region 14 with (first | (go_at_call 22; refine NA.out.mono ?_; rintro e w6 ⟨P6, c6, rfl, hr, hk⟩; have HR6 := hidden hr; rw [List.drop_zero] at HR6; have HB6 := hidden (below_trans HBq.out (hk.below HGq.out HBq.out.size)); have EQ := hidden (err_any HR6.out); have LQ := hidden (left_any HR6.out); clear NA hr hk) | (go_at_call 23; refine EQ.out.mono ?_; rintro e wx ⟨rfl, rfl⟩; clear EQ) | (go_at_call 24; refine LQ.out.mono ?_; rintro e wx ⟨rfl, rfl⟩; clear LQ))
      replace HR3 := hidden (HR3.out.keep HB6.out)
      replace HB := hidden (bl_trans HB.out HB6.out)
      clear HR6 HBq HGq HRq HB6 n0 n1
      have EA := hidden (err_any HR3.out)
      go_upto_region 22 with (first | (go_at_call 23; refine EA.out.mono ?_; rintro e wx ⟨rfl, rfl⟩; clear EA))
      have NR := hidden (newReader_any (HP.out.keep HB.out) (by have := HL.out; omega))
      go_upto_region 23 with (first | (go_at_call 21; refine NR.out.mono ?_; rintro e wt1 ⟨gt, Qgt, dgt, rfl, hr, hg, hb⟩; have HRgt := hidden hr; have HGgt := hidden (Nat.le_trans HB.out.size hg); replace HB := hidden (bl_trans HB.out hb); clear NR hr hg hb))
      have BA := hidden (Bytes_any bs.length HRgt.out (by have := HL.out; omega) (by have := HL.out; omega))
      have HBL := hidden (bt_le (bs := bs) (most := bs.length))
      have HBF := hidden (bt_fault (bs := bs) (most := bs.length))
      have HBW := hidden (bt_wr (bs := bs) (most := bs.length))
      generalize bt bs bs.length = y at BA HBL HBF HBW
      obtain ⟨Y, sy, ey⟩ := y
      dsimp only at BA HBL HBF HBW
      go_upto_region 24 with (first | (go_at_call 25; refine BA.out.mono ?_; rintro e wt2 ⟨vy, Py, cy, rfl, ho, hr, hk⟩; obtain ⟨PY, cY, rfl, hyy⟩ := own_by ho; have HYY := hidden hyy; have HRy := hidden hr; replace HB := hidden (below_trans HB.out (hk.below HGgt.out HB.out.size)); clear BA ho hr hk hyy))
      have EA := hidden (err_any HRy.out)
      by_cases h0 : ey = 0
      · subst h0
        obtain ⟨hs1, hs2⟩ := HBL.out rfl
        have hW := HBW.out rfl
        have HYl : Hid (Y.length ≤ 140737488351232) := hidden (by have := congrArg List.length hW; rw [List.length_append, List.length_take] at this; have := HL.out; omega)
        have APB := hidden (appBytes_any none PY 0 cY [] Y wt2 (by_none _) HYY.out (by have := HYl.out; simp only [List.length_nil]; omega))
        rw [List.nil_append, hW] at APB
        have LA := hidden (fun w' (h : Below wt2.heap.size wt2 w') => left_any (HRy.out.keep h))
        rw [List.length_drop] at LA
        have s0 : IntKind.i64.wrap ((bs.length : Int) - ((bs.length - sy : Nat) : Int)) = (sy : Int) := by rw [IntWalk.i64_in _ (by have := HL.out; omega)]; omega
        have s1 : (0 : Int) ≤ (sy : Int) := by omega
        have s2 : (sy : Int) ≤ (c : Int) := by have := HC.out; omega
        have hlt : (bs.take sy).length = sy := by rw [List.length_take]; omega
        rw [hlt] at APB
        have SA := hidden (fun w' PQ cq (h1 : By w' PQ cq (bs.take sy)) (h : Below w.heap.size w w') => same_any PQ P cq c (bs.take sy) (bs.take sy) w' h1 ((HP.out.keep h).front' sy))
        rw [hlt] at SA
        generalize bs.length - sy = ml at LA s0
        generalize bs.take sy = TK at APB SA
        clear hs1 hs2 hW hlt HBL HBF HBW
        go_wp2_with (first | (go_at_call 23; refine EA.out.mono ?_; rintro e wx ⟨rfl, rfl⟩; clear EA) | (go_at_call 10; refine APB.out.mono ?_; rintro e wt4 ⟨v4, rfl, ho, hb⟩; obtain ⟨P4, c4, rfl, -⟩ := own_shape ho; have HO4 := hidden (own_byQ ho); have HB4 := hidden hb; replace HB := hidden (bl_trans HB.out hb); clear APB ho hb) | (go_at_call 24; refine (LA.out _ HB4.out).mono ?_; rintro e wx ⟨rfl, rfl⟩; clear LA) | (go_at_call 13; refine (SA.out _ P4 c4 HO4.out HB.out).mono ?_; rintro e wx ⟨rfl, rfl⟩; clear SA))
        refine bodyPost_ret (v := .bool true) (by simp [results, Try.results6, go_sem]) rfl ⟨rfl, HB.out⟩
      · have h1 : ((ey : Int) == 0) = false := by simpa using h0
        obtain ⟨rfl, rfl⟩ := HBF.out h0
        have LA := hidden (left_any HRy.out)
        rw [List.drop_zero] at LA
        clear h0 HBL HBF HBW
        go_wp2_with (first | (go_at_call 23; refine EA.out.mono ?_; rintro e wx ⟨rfl, rfl⟩; clear EA) | (go_at_call 24; refine LA.out.mono ?_; rintro e wx ⟨rfl, rfl⟩; clear LA))
        refine bodyPost_ret (v := .bool true) (by simp [results, Try.results6, go_sem]) rfl ⟨rfl, HB.out⟩
    · obtain rfl : n = 0 := by omega
      clear HLE HNN
      have EA := hidden (err_any HR3.out)
      go_upto_region 22 with (first | (go_at_call 23; refine EA.out.mono ?_; rintro e wx ⟨rfl, rfl⟩; clear EA))
      have NR := hidden (newReader_any (HP.out.keep HB.out) (by have := HL.out; omega))
      go_upto_region 23 with (first | (go_at_call 21; refine NR.out.mono ?_; rintro e wt1 ⟨gt, Qgt, dgt, rfl, hr, hg, hb⟩; have HRgt := hidden hr; have HGgt := hidden (Nat.le_trans HB.out.size hg); replace HB := hidden (bl_trans HB.out hb); clear NR hr hg hb))
      have BA := hidden (Bytes_any bs.length HRgt.out (by have := HL.out; omega) (by have := HL.out; omega))
      have HBL := hidden (bt_le (bs := bs) (most := bs.length))
      have HBF := hidden (bt_fault (bs := bs) (most := bs.length))
      have HBW := hidden (bt_wr (bs := bs) (most := bs.length))
      generalize bt bs bs.length = y at BA HBL HBF HBW
      obtain ⟨Y, sy, ey⟩ := y
      dsimp only at BA HBL HBF HBW
      go_upto_region 24 with (first | (go_at_call 25; refine BA.out.mono ?_; rintro e wt2 ⟨vy, Py, cy, rfl, ho, hr, hk⟩; obtain ⟨PY, cY, rfl, hyy⟩ := own_by ho; have HYY := hidden hyy; have HRy := hidden hr; replace HB := hidden (below_trans HB.out (hk.below HGgt.out HB.out.size)); clear BA ho hr hk hyy))
      have EA := hidden (err_any HRy.out)
      by_cases h0 : ey = 0
      · subst h0
        obtain ⟨hs1, hs2⟩ := HBL.out rfl
        have hW := HBW.out rfl
        have HYl : Hid (Y.length ≤ 140737488351232) := hidden (by have := congrArg List.length hW; rw [List.length_append, List.length_take] at this; have := HL.out; omega)
        have APB := hidden (appBytes_any none PY 0 cY [] Y wt2 (by_none _) HYY.out (by have := HYl.out; simp only [List.length_nil]; omega))
        rw [List.nil_append, hW] at APB
        have LA := hidden (fun w' (h : Below wt2.heap.size wt2 w') => left_any (HRy.out.keep h))
        rw [List.length_drop] at LA
        have s0 : IntKind.i64.wrap ((bs.length : Int) - ((bs.length - sy : Nat) : Int)) = (sy : Int) := by rw [IntWalk.i64_in _ (by have := HL.out; omega)]; omega
        have s1 : (0 : Int) ≤ (sy : Int) := by omega
        have s2 : (sy : Int) ≤ (c : Int) := by have := HC.out; omega
        have hlt : (bs.take sy).length = sy := by rw [List.length_take]; omega
        rw [hlt] at APB
        have SA := hidden (fun w' PQ cq (h1 : By w' PQ cq (bs.take sy)) (h : Below w.heap.size w w') => same_any PQ P cq c (bs.take sy) (bs.take sy) w' h1 ((HP.out.keep h).front' sy))
        rw [hlt] at SA
        generalize bs.length - sy = ml at LA s0
        generalize bs.take sy = TK at APB SA
        clear hs1 hs2 hW hlt HBL HBF HBW
        go_wp2_with (first | (go_at_call 23; refine EA.out.mono ?_; rintro e wx ⟨rfl, rfl⟩; clear EA) | (go_at_call 10; refine APB.out.mono ?_; rintro e wt4 ⟨v4, rfl, ho, hb⟩; obtain ⟨P4, c4, rfl, -⟩ := own_shape ho; have HO4 := hidden (own_byQ ho); have HB4 := hidden hb; replace HB := hidden (bl_trans HB.out hb); clear APB ho hb) | (go_at_call 24; refine (LA.out _ HB4.out).mono ?_; rintro e wx ⟨rfl, rfl⟩; clear LA) | (go_at_call 13; refine (SA.out _ P4 c4 HO4.out HB.out).mono ?_; rintro e wx ⟨rfl, rfl⟩; clear SA))
        refine bodyPost_ret (v := .bool true) (by simp [results, Try.results6, go_sem]) rfl ⟨rfl, HB.out⟩
      · have h1 : ((ey : Int) == 0) = false := by simpa using h0
        obtain ⟨rfl, rfl⟩ := HBF.out h0
        have LA := hidden (left_any HRy.out)
        rw [List.drop_zero] at LA
        clear h0 HBL HBF HBW
        go_wp2_with (first | (go_at_call 23; refine EA.out.mono ?_; rintro e wx ⟨rfl, rfl⟩; clear EA) | (go_at_call 24; refine LA.out.mono ?_; rintro e wx ⟨rfl, rfl⟩; clear LA))
        refine bodyPost_ret (v := .bool true) (by simp [results, Try.results6, go_sem]) rfl ⟨rfl, HB.out⟩
  · obtain ⟨rfl, rfl, he⟩ := HBAD.out h0
    have LA := hidden (left_any HR3.out)
    rw [List.drop_zero] at LA
    rcases he with rfl | rfl
    · obtain ⟨h128, h9⟩ := HEND.out rfl
      have H128 := hidden (fun k (hk : k < bs.length) => show 128 ≤ (bs.getD k 0).toNat from h128 _ (by rw [List.getD_eq_getElem?_getD, List.getElem?_eq_getElem hk]; exact List.getElem_mem hk))
      have H9 : Hid (bs.length ≤ 9) := hidden h9
      clear h0 h128 h9 HOK HBAD HEND HLESS
      go_upto_region 16 with (first | (go_at_call 23; refine EA.out.mono ?_; rintro e wx ⟨rfl, rfl⟩) | (go_at_call 24; refine LA.out.mono ?_; rintro e wx ⟨rfl, rfl⟩; clear LA))
      clear EA HR3
      go_loopw [6] (fun kv w' => ∃ k : Nat, k ≤ bs.length ∧ kv = .int .i64 (k : Int) ∧ Hid (Below w.heap.size w w')) (fun k _ => bs.length - (intOf k).toNat)
      case atStart => exact ⟨0, by omega, rfl, HB⟩
      case round =>
        clear HB
        obtain ⟨k, hk, rfl, HB⟩ := hrel
        by_cases hkn : k < bs.length
        · obtain ⟨b, o, rfl⟩ := HP.out.none' (by omega)
          have x0 := (HP.out.keep HB.out).at k hkn
          have y0 := H128.out k hkn
          generalize (bs.getD k 0).toNat = y at x0 y0
          have k0 : (0 : Int) ≤ (k : Int) := by omega
          have k1 : (k : Int) < (bs.length : Int) := by omega
          have k2 : ¬ (y : Int) < 128 := by omega
          have w9 : IntKind.i64.wrap ((k : Int) + 1) = (k : Int) + 1 := IntWalk.i64_in _ (by have := HL.out; omega)
          clear H128 H9 y0
          go_wp2_with fail
          go_roundw
          case rel => exact ⟨k + 1, by omega, by go_num, HB⟩
          case measure => simp [intOf]; omega
        · obtain rfl : k = bs.length := by omega
          have lq : ¬ (bs.length : Int) < (bs.length : Int) := by omega
          have l9 : ¬ (9 : Int) < (bs.length : Int) := by have := H9.out; omega
          clear hkn hk H128 H9
          go_upto_region 22 with fail
          clear lq l9
          have NR := hidden (newReader_any (HP.out.keep HB.out) (by have := HL.out; omega))
          go_upto_region 23 with (first | (go_at_call 21; refine NR.out.mono ?_; rintro e wt1 ⟨gt, Qgt, dgt, rfl, hr, hg, hb⟩; have HRgt := hidden hr; have HGgt := hidden (Nat.le_trans HB.out.size hg); replace HB := hidden (bl_trans HB.out hb); clear NR hr hg hb))
          have BA := hidden (Bytes_any bs.length HRgt.out (by have := HL.out; omega) (by have := HL.out; omega))
          have HBL := hidden (bt_le (bs := bs) (most := bs.length))
          have HBF := hidden (bt_fault (bs := bs) (most := bs.length))
          have HBW := hidden (bt_wr (bs := bs) (most := bs.length))
          generalize bt bs bs.length = y at BA HBL HBF HBW
          obtain ⟨Y, sy, ey⟩ := y
          dsimp only at BA HBL HBF HBW
          go_upto_region 24 with (first | (go_at_call 25; refine BA.out.mono ?_; rintro e wt2 ⟨vy, Py, cy, rfl, ho, hr, hk⟩; obtain ⟨PY, cY, rfl, hyy⟩ := own_by ho; have HYY := hidden hyy; have HRy := hidden hr; replace HB := hidden (below_trans HB.out (hk.below HGgt.out HB.out.size)); clear BA ho hr hk hyy))
          have EA := hidden (err_any HRy.out)
          by_cases h0 : ey = 0
          · subst h0
            obtain ⟨hs1, hs2⟩ := HBL.out rfl
            have hW := HBW.out rfl
            have HYl : Hid (Y.length ≤ 140737488351232) := hidden (by have := congrArg List.length hW; rw [List.length_append, List.length_take] at this; have := HL.out; omega)
            have APB := hidden (appBytes_any none PY 0 cY [] Y wt2 (by_none _) HYY.out (by have := HYl.out; simp only [List.length_nil]; omega))
            rw [List.nil_append, hW] at APB
            have LA := hidden (fun w' (h : Below wt2.heap.size wt2 w') => left_any (HRy.out.keep h))
            rw [List.length_drop] at LA
            have s0 : IntKind.i64.wrap ((bs.length : Int) - ((bs.length - sy : Nat) : Int)) = (sy : Int) := by rw [IntWalk.i64_in _ (by have := HL.out; omega)]; omega
            have s1 : (0 : Int) ≤ (sy : Int) := by omega
            have s2 : (sy : Int) ≤ (c : Int) := by have := HC.out; omega
            have hlt : (bs.take sy).length = sy := by rw [List.length_take]; omega
            rw [hlt] at APB
            have SA := hidden (fun w' PQ cq (h1 : By w' PQ cq (bs.take sy)) (h : Below w.heap.size w w') => same_any PQ P cq c (bs.take sy) (bs.take sy) w' h1 ((HP.out.keep h).front' sy))
            rw [hlt] at SA
            generalize bs.length - sy = ml at LA s0
            generalize bs.take sy = TK at APB SA
            clear hs1 hs2 hW hlt HBL HBF HBW
            go_wp2_with (first | (go_at_call 23; refine EA.out.mono ?_; rintro e wx ⟨rfl, rfl⟩; clear EA) | (go_at_call 10; refine APB.out.mono ?_; rintro e wt4 ⟨v4, rfl, ho, hb⟩; obtain ⟨P4, c4, rfl, -⟩ := own_shape ho; have HO4 := hidden (own_byQ ho); have HB4 := hidden hb; replace HB := hidden (bl_trans HB.out hb); clear APB ho hb) | (go_at_call 24; refine (LA.out _ HB4.out).mono ?_; rintro e wx ⟨rfl, rfl⟩; clear LA) | (go_at_call 13; refine (SA.out _ P4 c4 HO4.out HB.out).mono ?_; rintro e wx ⟨rfl, rfl⟩; clear SA))
            refine bodyPost_ret (v := .bool true) (by simp [results, Try.results6, go_sem]) rfl ⟨rfl, HB.out⟩
          · have h1 : ((ey : Int) == 0) = false := by simpa using h0
            obtain ⟨rfl, rfl⟩ := HBF.out h0
            have LA := hidden (left_any HRy.out)
            rw [List.drop_zero] at LA
            clear h0 HBL HBF HBW
            go_wp2_with (first | (go_at_call 23; refine EA.out.mono ?_; rintro e wx ⟨rfl, rfl⟩; clear EA) | (go_at_call 24; refine LA.out.mono ?_; rintro e wx ⟨rfl, rfl⟩; clear LA))
            refine bodyPost_ret (v := .bool true) (by simp [results, Try.results6, go_sem]) rfl ⟨rfl, HB.out⟩
    · clear h0 HOK HBAD HEND HLESS
      go_upto_region 22 with (first | (go_at_call 23; refine EA.out.mono ?_; rintro e wx ⟨rfl, rfl⟩) | (go_at_call 24; refine LA.out.mono ?_; rintro e wx ⟨rfl, rfl⟩; clear LA))
      clear EA HR3
      have NR := hidden (newReader_any (HP.out.keep HB.out) (by have := HL.out; omega))
      go_upto_region 23 with (first | (go_at_call 21; refine NR.out.mono ?_; rintro e wt1 ⟨gt, Qgt, dgt, rfl, hr, hg, hb⟩; have HRgt := hidden hr; have HGgt := hidden (Nat.le_trans HB.out.size hg); replace HB := hidden (bl_trans HB.out hb); clear NR hr hg hb))
      have BA := hidden (Bytes_any bs.length HRgt.out (by have := HL.out; omega) (by have := HL.out; omega))
      have HBL := hidden (bt_le (bs := bs) (most := bs.length))
      have HBF := hidden (bt_fault (bs := bs) (most := bs.length))
      have HBW := hidden (bt_wr (bs := bs) (most := bs.length))
      generalize bt bs bs.length = y at BA HBL HBF HBW
      obtain ⟨Y, sy, ey⟩ := y
      dsimp only at BA HBL HBF HBW
      go_upto_region 24 with (first | (go_at_call 25; refine BA.out.mono ?_; rintro e wt2 ⟨vy, Py, cy, rfl, ho, hr, hk⟩; obtain ⟨PY, cY, rfl, hyy⟩ := own_by ho; have HYY := hidden hyy; have HRy := hidden hr; replace HB := hidden (below_trans HB.out (hk.below HGgt.out HB.out.size)); clear BA ho hr hk hyy))
      have EA := hidden (err_any HRy.out)
      by_cases h0 : ey = 0
      · subst h0
        obtain ⟨hs1, hs2⟩ := HBL.out rfl
        have hW := HBW.out rfl
        have HYl : Hid (Y.length ≤ 140737488351232) := hidden (by have := congrArg List.length hW; rw [List.length_append, List.length_take] at this; have := HL.out; omega)
        have APB := hidden (appBytes_any none PY 0 cY [] Y wt2 (by_none _) HYY.out (by have := HYl.out; simp only [List.length_nil]; omega))
        rw [List.nil_append, hW] at APB
        have LA := hidden (fun w' (h : Below wt2.heap.size wt2 w') => left_any (HRy.out.keep h))
        rw [List.length_drop] at LA
        have s0 : IntKind.i64.wrap ((bs.length : Int) - ((bs.length - sy : Nat) : Int)) = (sy : Int) := by rw [IntWalk.i64_in _ (by have := HL.out; omega)]; omega
        have s1 : (0 : Int) ≤ (sy : Int) := by omega
        have s2 : (sy : Int) ≤ (c : Int) := by have := HC.out; omega
        have hlt : (bs.take sy).length = sy := by rw [List.length_take]; omega
        rw [hlt] at APB
        have SA := hidden (fun w' PQ cq (h1 : By w' PQ cq (bs.take sy)) (h : Below w.heap.size w w') => same_any PQ P cq c (bs.take sy) (bs.take sy) w' h1 ((HP.out.keep h).front' sy))
        rw [hlt] at SA
        generalize bs.length - sy = ml at LA s0
        generalize bs.take sy = TK at APB SA
        clear hs1 hs2 hW hlt HBL HBF HBW
        go_wp2_with (first | (go_at_call 23; refine EA.out.mono ?_; rintro e wx ⟨rfl, rfl⟩; clear EA) | (go_at_call 10; refine APB.out.mono ?_; rintro e wt4 ⟨v4, rfl, ho, hb⟩; obtain ⟨P4, c4, rfl, -⟩ := own_shape ho; have HO4 := hidden (own_byQ ho); have HB4 := hidden hb; replace HB := hidden (bl_trans HB.out hb); clear APB ho hb) | (go_at_call 24; refine (LA.out _ HB4.out).mono ?_; rintro e wx ⟨rfl, rfl⟩; clear LA) | (go_at_call 13; refine (SA.out _ P4 c4 HO4.out HB.out).mono ?_; rintro e wx ⟨rfl, rfl⟩; clear SA))
        refine bodyPost_ret (v := .bool true) (by simp [results, Try.results6, go_sem]) rfl ⟨rfl, HB.out⟩
      · have h1 : ((ey : Int) == 0) = false := by simpa using h0
        obtain ⟨rfl, rfl⟩ := HBF.out h0
        have LA := hidden (left_any HRy.out)
        rw [List.drop_zero] at LA
        clear h0 HBL HBF HBW
        go_wp2_with (first | (go_at_call 23; refine EA.out.mono ?_; rintro e wx ⟨rfl, rfl⟩; clear EA) | (go_at_call 24; refine LA.out.mono ?_; rintro e wx ⟨rfl, rfl⟩; clear LA))
        refine bodyPost_ret (v := .bool true) (by simp [results, Try.results6, go_sem]) rfl ⟨rfl, HB.out⟩
end Go.Proofs.Ytfkigebbcbfkiaa
