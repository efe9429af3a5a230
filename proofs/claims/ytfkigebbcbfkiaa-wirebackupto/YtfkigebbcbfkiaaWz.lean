import Derived.Test.YtfkigebbcbfkiaaWy
namespace Go.Proofs.Ytfkigebbcbfkiaa
open Go.RowKit
/-- things that lie somewhere -/
structure Tl (w : World) (P : Option Addr) (ts : List Tg) : Prop where
  lie : 0 < ts.length → ∃ b o, P = some ⟨b, o, none⟩ ∧ ∀ k (h : k < ts.length), w.cell? ⟨b, o + k * 3, none⟩ = some (.bool ts[k].tx) ∧ w.cell? ⟨b, o + k * 3 + 1, none⟩ = some (.int .u64 (ts[k].n : Int)) ∧ w.cell? ⟨b, o + k * 3 + 2, none⟩ = some (.slice ts[k].P ts[k].B.length ts[k].c)
  each : ∀ k (h : k < ts.length), By w ts[k].P ts[k].c ts[k].B
theorem Tl.keep {w w' : World} {P : Option Addr} {ts : List Tg} (h : Tl w P ts) (hb : Below w.heap.size w w') : Tl w' P ts :=
  ⟨fun h0 => by
    obtain ⟨b, o, h1, h2⟩ := h.lie h0
    exact ⟨b, o, h1, fun k hk => ⟨cell_keep (h2 k hk).1 hb, cell_keep (h2 k hk).2.1 hb, cell_keep (h2 k hk).2.2 hb⟩⟩, fun k hk => (h.each k hk).keep hb⟩
set_option maxRecDepth 100000 in
set_option maxHeartbeats 8000000 in
theorem reads_any (PT : Option Addr) (cT : Nat) (ts : List Tg) (P : Option Addr) (c : Nat) (bs : List UInt8) (res want : Int) (w : World) (hT : Tl w PT ts) (hB : By w P c bs) (hl : bs.length ≤ 2 ^ 40) (hn : ts.length ≤ 2 ^ 40) (hok : ∀ k (h : k < ts.length), Tok ts[k]) (hG : Gd res ts bs 0) :
    Calls Try.prog 20 #[.slice PT ts.length cT, .slice P bs.length c, .int .i64 want] w fun e w' => e = .returned (.bool (res == want)) ∧ Below w.heap.size w w' := by
  have HT := hidden hT
  have HN := hidden hn
  have HK := hidden hok
  have HG := hidden hG
  have HL := hidden hl
  have NR := hidden (newReader_any hB (by omega))
  clear hT hB hl hn hok hG
  go_enter Try.func20, Try.ntmps20
  go_upto_region 3 with (first | (go_at_call 21; refine NR.out.mono ?_; rintro e w1 ⟨g, Q, d, rfl, hr, hg, hb⟩; have HR := hidden hr; have HGg := hidden hg; have HB := hidden hb; clear NR hr hg hb))
  go_loopw [8] (fun kv w' => ∃ (k : Nat) (P' : Option Addr) (c' : Nat) (r : List UInt8) (e : Int), k ≤ ts.length ∧ kv = .int .i64 (k : Int) ∧ Hid (Rd w' g P' c' r e) ∧ Hid (r.length ≤ bs.length) ∧ Hid (Gd res (ts.drop k) r e) ∧ Hid (Below w.heap.size w w')) (fun k _ => ts.length - (intOf k).toNat)
  case atStart => exact ⟨0, Q, d, bs, 0, by omega, rfl, HR, hidden (Nat.le_refl _), by rw [List.drop_zero]; exact HG, HB⟩
  case round =>
    clear HR HG HB
    obtain ⟨k, P', c', r, e, hk, rfl, HR, HRL, HG, HB⟩ := hrel
    by_cases hkn : k < ts.length
    · have hdr : ts.drop k = ts[k] :: ts.drop (k + 1) := List.drop_eq_getElem_cons hkn
      rw [hdr] at HG
      obtain ⟨bT, oT, rfl, hc⟩ := HT.out.lie (by omega)
      have x0 := cell_keep (hc k hkn).1 HB.out
      have x1 := cell_keep (hc k hkn).2.1 HB.out
      have x2 := cell_keep (hc k hkn).2.2 HB.out
      have HY := hidden ((HT.out.each k hkn).keep HB.out)
      have HYw := hidden (HT.out.each k hkn)
      have HOK := hidden (HK.out k hkn)
      have k0 : (0 : Int) ≤ (k : Int) := by omega
      have k1 : (k : Int) < (ts.length : Int) := by omega
      have w9 : IntKind.i64.wrap ((k : Int) + 1) = (k : Int) + 1 := IntWalk.i64_in _ (by have := HN.out; omega)
      generalize ts[k] = t at *
      clear hdr hc
      go_upto_region 6 with fail
      have HX : Hid ((wr.alloc (.cells #[.bool t.tx, .int .u64 (t.n : Int), .slice t.P t.B.length t.c] 38)).heap[wr.heap.size]? = some (.cells #[.bool t.tx, .int .u64 (t.n : Int), .slice t.P t.B.length t.c] 38 (0, 0))) := hidden (heap_alloc_new wr _)
      have HGX : Hid (g < wr.heap.size) := hidden HR.out.glt
      replace HR := hidden (HR.out.keep (bl_alloc wr (.cells #[.bool t.tx, .int .u64 (t.n : Int), .slice t.P t.B.length t.c] 38)))
      replace HB := hidden (bl_trans HB.out (bl_alloc wr (.cells #[.bool t.tx, .int .u64 (t.n : Int), .slice t.P t.B.length t.c] 38)))
      have HSX : Hid (wr.heap.size < (wr.alloc (.cells #[.bool t.tx, .int .u64 (t.n : Int), .slice t.P t.B.length t.c] 38)).heap.size) := hidden (by simp)
      generalize wr.alloc (.cells #[.bool t.tx, .int .u64 (t.n : Int), .slice t.P t.B.length t.c] 38) = wa at *
      have HGB : Hid (w.heap.size ≤ g) := HGg
      clear x0 x1 x2 HY
      have y0 := cell_of_row wa wr.heap.size 0 _ _ (0, 0) HX.out
      have y1 := cell_of_row wa wr.heap.size 1 _ _ (0, 0) HX.out
      have y2 := cell_of_row wa wr.heap.size 2 _ _ (0, 0) HX.out
      generalize hxx : wr.heap.size = X at *
      simp only [List.getElem?_toArray, List.getElem?_cons_zero, List.getElem?_cons_succ] at y0 y1 y2
      by_cases htx : t.tx = true
      · rw [htx] at y0 HX
        by_cases he : e = 0
        · subst he
          obtain ⟨hg1, hg2⟩ := HG.out.text htx
          have HG1 := hidden hg1
          have HG2 := hidden hg2
          have BA := hidden (Bytes_any t.B.length HR.out (by have := HL.out; have := HRL.out; omega) (by have := HOK.out.2; omega))
          have HBF := hidden (bt_fault (bs := r) (most := t.B.length))
          generalize bt r t.B.length = y at BA HG1 HG2 HBF
          obtain ⟨Y, sy, ey⟩ := y
          dsimp only at BA HG1 HG2 HBF
          clear hg1 hg2 HG
          go_upto_region 8 with (first | (go_at_call 25; refine BA.out.mono ?_; rintro e w3 ⟨v3, P3, c3, rfl, ho, hr, hkp⟩; obtain ⟨PY, cY, rfl, hyy⟩ := own_by ho; have HYY := hidden hyy; have HR3 := hidden hr; have HX3 := hidden ((hkp.block X HSX.out (fun e => by have := HGX.out; omega)).trans HX.out); replace HB := hidden (below_trans HB.out (hkp.below HGB.out HB.out.size)); clear BA ho hr hkp hyy))
          clear y0 y1 y2
          have y2 := cell_of_row w3 X 2 _ _ (0, 0) HX3.out
          simp only [List.getElem?_toArray, List.getElem?_cons_zero, List.getElem?_cons_succ] at y2
          have EA := hidden (err_any HR3.out)
          have HRL2 : Hid ((r.drop sy).length ≤ bs.length) := hidden (by have := HRL.out; rw [List.length_drop]; omega)
          by_cases h0 : ey = 0
          · subst h0
            obtain rfl := HG1.out rfl
            have SA := hidden (same_any PY t.P cY t.c t.B t.B w3 HYY.out (HYw.out.keep HB.out))
            clear HBF HG1
            go_wp2_with (first | (go_at_call 23; refine EA.out.mono ?_; rintro e wx ⟨rfl, rfl⟩; clear EA) | (go_at_call 13; refine SA.out.mono ?_; rintro e wx ⟨rfl, rfl⟩; clear SA))
            go_roundw
            case rel => exact ⟨k + 1, P3, c3, _, _, by omega, by go_num, HR3, HRL2, HG2, HB⟩
            case measure => simp [intOf]; omega
          · have h1 : ((ey : Int) == 0) = false := by simpa using h0
            clear HBF HG1 h0
            go_wp2_with (first | (go_at_call 23; refine EA.out.mono ?_; rintro e wx ⟨rfl, rfl⟩; clear EA))
            go_roundw
            case rel => exact ⟨k + 1, P3, c3, _, _, by omega, by go_num, HR3, HRL2, HG2, HB⟩
            case measure => simp [intOf]; omega
        · have HG2 := hidden (HG.out.skip he)
          have BA := hidden (Bytes_no t.B.length HR.out he)
          have h1 : (e == 0) = false := by simpa using he
          clear HG he
          go_upto_region 8 with (first | (go_at_call 25; refine BA.out.mono ?_; rintro e w3 ⟨rfl, hb⟩; replace HR := hidden (HR.out.keep hb); replace HB := hidden (bl_trans HB.out hb); clear BA hb))
          clear y0 y1 y2
          have EA := hidden (err_any HR.out)
          go_wp2_with (first | (go_at_call 23; refine EA.out.mono ?_; rintro e wx ⟨rfl, rfl⟩; clear EA))
          go_roundw
          case rel => exact ⟨k + 1, P', c', _, _, by omega, by go_num, HR, HRL, HG2, HB⟩
          case measure => simp [intOf]; omega
      · have htf : t.tx = false := by simpa using htx
        rw [htf] at y0 HX
        by_cases he : e = 0
        · subst he
          obtain ⟨hg1, hg2⟩ := HG.out.numb htf
          have HG1 := hidden hg1
          have HG2 := hidden hg2
          have BA := hidden (Number_any t.n HR.out (by have := HL.out; have := HRL.out; omega))
          generalize nm r t.n = y at BA HG1 HG2
          obtain ⟨ny, sy, ey⟩ := y
          dsimp only at BA HG1 HG2
          clear hg1 hg2 HG
          go_upto_region 11 with (first | (go_at_call 22; refine BA.out.mono ?_; rintro e w3 ⟨P3, c3, rfl, hr, hkp⟩; have HR3 := hidden hr; have HX3 := hidden ((hkp.block X HSX.out (fun e => by have := HGX.out; omega)).trans HX.out); replace HB := hidden (below_trans HB.out (hkp.below HGB.out HB.out.size)); clear BA hr hkp))
          clear y0 y1 y2
          have y1 := cell_of_row w3 X 1 _ _ (0, 0) HX3.out
          simp only [List.getElem?_toArray, List.getElem?_cons_zero, List.getElem?_cons_succ] at y1
          have EA := hidden (err_any HR3.out)
          have HRL2 : Hid ((r.drop sy).length ≤ bs.length) := hidden (by have := HRL.out; rw [List.length_drop]; omega)
          by_cases h0 : ey = 0
          · subst h0
            obtain rfl := HG1.out rfl
            clear HG1
            go_wp2_with (first | (go_at_call 23; refine EA.out.mono ?_; rintro e wx ⟨rfl, rfl⟩; clear EA))
            go_roundw
            case rel => exact ⟨k + 1, P3, c3, _, _, by omega, by go_num, HR3, HRL2, HG2, HB⟩
            case measure => simp [intOf]; omega
          · have h1 : ((ey : Int) == 0) = false := by simpa using h0
            clear HG1 h0
            go_wp2_with (first | (go_at_call 23; refine EA.out.mono ?_; rintro e wx ⟨rfl, rfl⟩; clear EA))
            go_roundw
            case rel => exact ⟨k + 1, P3, c3, _, _, by omega, by go_num, HR3, HRL2, HG2, HB⟩
            case measure => simp [intOf]; omega
        · have HG2 := hidden (HG.out.skip he)
          have BA := hidden (Number_no t.n HR.out he)
          have h1 : (e == 0) = false := by simpa using he
          clear HG he
          go_upto_region 11 with (first | (go_at_call 22; refine BA.out.mono ?_; rintro e w3 ⟨rfl, hb⟩; replace HR := hidden (HR.out.keep hb); replace HB := hidden (bl_trans HB.out hb); clear BA hb))
          clear y0 y1 y2
          have EA := hidden (err_any HR.out)
          go_wp2_with (first | (go_at_call 23; refine EA.out.mono ?_; rintro e wx ⟨rfl, rfl⟩; clear EA))
          go_roundw
          case rel => exact ⟨k + 1, P', c', _, _, by omega, by go_num, HR, HRL, HG2, HB⟩
          case measure => simp [intOf]; omega
    · obtain rfl : k = ts.length := by omega
      have lq : ¬ (ts.length : Int) < (ts.length : Int) := by omega
      rw [List.drop_length] at HG
      have hen : en r e = res := HG.out
      have EN := hidden (end_any HR.out)
      rw [hen] at EN
      clear HG hen
      go_wp2_with (first | (go_at_call 29; refine EN.out.mono ?_; rintro e w4 ⟨rfl, -, hkp⟩; replace HB := hidden (below_trans HB.out (hkp.below HGg.out HB.out.size)); clear EN hkp))
      refine bodyPost_ret (v := .bool (res == want)) (by simp [results, Try.results20, go_sem]) rfl ⟨rfl, HB.out⟩
end Go.Proofs.Ytfkigebbcbfkiaa
