import Derived.Test.YtlijigolfggcfaaDoorHz5
namespace Go.Proofs.YtlijigolfggcfaaDoor
open Go.RowKit
set_option linter.unusedVariables false
theorem QX.keep {B : Nat} {w w' : World} {b f q : E4} {gG gH : Nat → E4} {x : List Value} {e : Int} {F M : Nat} (h : QX B w b f q gG gH x e F M) (hb : Below w.heap.size w w') : QX B w' b f q gG gH x e F M :=
  ⟨h.len, h.one, h.no, fun he => by obtain ⟨P1, P2, c1, c2, h1, h2, h3⟩ := h.yes he; exact ⟨P1, P2, c1, c2, h1, own_keepL h2 hb, own_keepL h3 hb⟩⟩
theorem QY.keep {B : Nat} {w w' : World} {b f q : E4} {gG gH : Nat → E4} {x : List Value} {e : Int} {F M : Nat} (h : QY B w b f q gG gH x e F M) (hb : Below w.heap.size w w') : QY B w' b f q gG gH x e F M :=
  ⟨h.len, h.one, h.no, fun he => by obtain ⟨P1, P2, c1, c2, h1, h2, h3⟩ := h.yes he; exact ⟨P1, P2, c1, c2, h1, own_keepL h2 hb, own_keepL h3 hb⟩⟩
set_option maxRecDepth 100000 in
set_option maxHeartbeats 32000000 in
theorem parts_any (b f q : E4) (PG PH : Option Addr) (LG cG LH cH : Nat) (gG gH : Nat → E4) (fr n : Int) (w : World) (hT : Tb w) (ob : b.ok) (of : f.ok) (oq : q.ok) (hG : LG ≤ 1048576) (hH : LH ≤ 1048576) (mG : Lm w PG LG gG) (mH : Lm w PH LH gH) (oG : ∀ k, k < LG → (gG k).ok) (oH : ∀ k, k < LH → (gH k).ok) (hfr : -9223372036854775808 ≤ fr ∧ fr ≤ 9223372036854775807) (hn : -9223372036854775808 ≤ n ∧ n ≤ 9223372036854775807) :
    Calls Tryd.prog 3 #[.agg (gs14 b f q (.slice PG LG cG) (.slice PH LH cH)).toArray, .int .i64 fr, .int .i64 n] w fun e w' => e = .returned (.bool true) ∧ Below w.heap.size w w' := by
  obtain ⟨ec, F, M, hFM, CX, CY⟩ := part_both b f q LG LH gG gH fr n hG hH hfr hn
  have HFM := hidden hFM
  have HCX := hidden CX
  have HCY := hidden CY
  have HG := hidden hG
  have HH := hidden hH
  have HmG := hidden mG
  have HmH := hidden mH
  have HoG := hidden oG
  have HoH := hidden oH
  have Hob := hidden ob
  have Hof := hidden of
  have Hoq := hidden oq
  have HT := hidden hT
  obtain ⟨cs, hcs⟩ : ∃ l, l = gs14 b f q (.slice PG LG cG) (.slice PH LH cH) := ⟨_, rfl⟩
  have C1 := hidden (fun w' (hb : Below w.heap.size w w') => line_any b f q PG PH LG cG LH cH gG gH w' hG hH (mG.keep hb) (mH.keep hb))
  have C2 := hidden (fun w' (hb : Below w.heap.size w w') => ref_any b f q PG PH LG cG LH cH gG gH w' ob of oq hG hH (mG.keep hb) (mH.keep hb) oG oH)
  rw [← hcs] at C1 C2 ⊢
  have HCS := hidden hcs
  have K3 := hidden (Bx1.new w cs 27)
  have B0 := hidden (bl_alloc w (.cells cs.toArray 27))
  have L3 : Hid (w.heap.size < (w.alloc (.cells cs.toArray 27)).heap.size) := hidden (by simp)
  have U27 : Hid (Tryd.prog.underlying 27 = _) := hidden Tryd.underlying27
  have U32 : Hid (Tryd.prog.underlying 32 = _) := hidden Tryd.underlying32
  have U47 : Hid (Tryd.prog.underlying 47 = _) := hidden Tryd.underlying47
  have I27 : Hid ((Tryd.prog.info? 27).map (·.size) = some cs.length) := hidden (by rw [hcs]; exact info14g)
  have hz14 := zv14
  have hz81 := zv81
  clear hFM CX CY hG hH mG mH oG oH ob of oq hT hcs hfr hn
  generalize hW0 : w.alloc (.cells cs.toArray 27) = W0 at K3 B0 L3
  go_enter Tryd.func3, Tryd.ntmps3
  go_upto_region 2 with (first | refine wpList_loadG (by rfl) 27 _ rfl w.heap.size 0 (by rfl) cs _ K3.out.r U27.out rfl I27.out ?_ | (go_at_call 4; refine (C1.out _ B0.out).mono ?_; rintro e w1 ⟨g, h, cg, ch, rfl, hcg, hch, rg, rh, hb⟩; obtain ⟨p14, hp14⟩ : ∃ l, l = gs14 b f q (.slice (some ⟨g, 0, none⟩) LG cg) (.slice (some ⟨h, 0, none⟩) LH ch) := ⟨_, rfl⟩; rw [← hp14]; have hpl : p14.length = zs14.length := (by rw [hp14]; rfl); have HP14 := hidden hp14; have I14 : Hid ((Tryd.prog.info? 32).map (·.size) = some p14.toArray.size) := hidden (by rw [hp14]; exact info14); have I14l : Hid ((Tryd.prog.info? 32).map (·.size) = some p14.length) := hidden (by rw [hp14]; exact info14); have O14 : Hid (p14.toArray.all (·.oneCell') = true) := hidden (by rw [hp14]; exact gs14_one _ _ _ _ _ _ _ _ _); have TH : Hid ((w1.alloc (.cells zs14.toArray 32)).there w1.heap.size 0 p14.toArray.size) := hidden (by have e : p14.toArray.size = zs14.length := (by rw [List.size_toArray]; exact hpl); rw [e]; exact (Bx1.new w1 zs14 32).t); have MB := hidden ((Bx1.new w1 zs14 32).set (ds := p14) hpl); have BB := hidden (below_setCellsM (w0 := w1) w1.heap.size p14 0 (bl_alloc w1 (.cells zs14.toArray 32)) (Nat.le_refl _)); have SB : Hid (w1.heap.size < ((w1.alloc (.cells zs14.toArray 32)).setCells w1.heap.size 0 p14).heap.size) := hidden (by rw [size_setCellsM]; simp); have HCG := hidden hcg; have HCH := hidden hch; have RG := hidden (rg.keep BB.out); have RH := hidden (rh.keep BB.out); have BH := hidden hb; clear hcg hch rg rh hb C1 hp14 hpl) | (refine wpList_store_mid rfl 32 _ _ rfl w1.heap.size 0 p14.toArray (by rfl) (by rfl) TH.out I14.out O14.out ?_; rw [List.toList_toArray]))
  have M7 := MB
  have T7 := SB
  have BW := hidden (bl_trans B0.out (bl_trans BH.out BB.out))
  replace K3 := hidden (K3.out.keep (bl_trans BH.out BB.out) L3.out)
  replace L3 := hidden (Nat.lt_of_lt_of_le L3.out (bl_trans BH.out BB.out).size)
  generalize (w1.alloc (.cells zs14.toArray 32)).setCells w1.heap.size 0 p14 = W1 at M7 T7 BW K3 L3 RG RH ⊢
  generalize w1.heap.size = T7n at M7 T7 ⊢
  clear MB SB BB BH TH O14 I14 hW0 B0
  go_upto_region 3 with (first | refine wpList_loadG (by rfl) 27 _ rfl w.heap.size 0 (by rfl) cs _ K3.out.r U27.out rfl I27.out ?_ | (go_at_call 5; refine (C2.out _ BW.out).mono ?_; rintro e w2 ⟨Gv, Hv, rfl, og, oh, hb⟩; obtain ⟨QG, dG, rfl⟩ := own_shapeP8 og; obtain ⟨QH, dH, rfl⟩ := own_shapeP8 oh; obtain ⟨r81, hr81⟩ : ∃ l, l = hdl (lst b.n) (lst f.n) (lst q.n) ++ [Value.slice QG LG dG, Value.slice QH LH dH] := ⟨_, rfl⟩; rw [← hr81]; have hrl : r81.length = zs.length := (by rw [hr81]; rfl); have HR81 := hidden hr81; have I81 : Hid ((Tryd.prog.info? 47).map (·.size) = some r81.toArray.size) := hidden (by rw [hr81]; exact sinfo81); have I81l : Hid ((Tryd.prog.info? 47).map (·.size) = some r81.length) := hidden (by rw [hr81]; exact sinfo81); have O81 : Hid (r81.toArray.all (·.oneCell') = true) := hidden (by rw [hr81]; exact hdl_oneW _ _ _ _ _ _ _ _ _); have TH : Hid ((w2.alloc (.cells zs.toArray 47)).there w2.heap.size 0 r81.toArray.size) := hidden (by have e : r81.toArray.size = zs.length := (by rw [List.size_toArray]; exact hrl); rw [e]; exact (Bx1.new w2 zs 47).t); have MB := hidden ((Bx1.new w2 zs 47).set (ds := r81) hrl); have BB := hidden (below_setCellsM (w0 := w2) w2.heap.size r81 0 (bl_alloc w2 (.cells zs.toArray 47)) (Nat.le_refl _)); have SB : Hid (w2.heap.size < ((w2.alloc (.cells zs.toArray 47)).setCells w2.heap.size 0 r81).heap.size) := hidden (by rw [size_setCellsM]; simp); have OGE := hidden (own_keepL og BB.out); have OHE := hidden (own_keepL oh BB.out); have BH := hidden hb; clear og oh hb C2 hr81 hrl) | (refine wpList_store_mid rfl 47 _ _ rfl w2.heap.size 0 r81.toArray (by rfl) (by rfl) TH.out I81.out O81.out ?_; rw [List.toList_toArray]))
  have M10 := MB
  have T10 := SB
  replace K3 := hidden (K3.out.keep (bl_trans BH.out BB.out) L3.out)
  replace L3 := hidden (Nat.lt_of_lt_of_le L3.out (bl_trans BH.out BB.out).size)
  replace M7 := hidden (M7.out.keep (bl_trans BH.out BB.out) T7.out)
  replace T7 := hidden (Nat.lt_of_lt_of_le T7.out (bl_trans BH.out BB.out).size)
  replace RG := hidden (RG.out.keep (bl_trans BH.out BB.out))
  replace RH := hidden (RH.out.keep (bl_trans BH.out BB.out))
  replace BW := hidden (bl_trans BW.out (bl_trans BH.out BB.out))
  generalize (w2.alloc (.cells zs.toArray 47)).setCells w2.heap.size 0 r81 = W2 at M10 T10 M7 T7 BW K3 L3 RG RH OGE OHE ⊢
  generalize w2.heap.size = T10n at M10 T10 ⊢
  clear MB SB BB BH TH O81 I81
  have CP := hidden (HCX.out W2 g h cg ch HCG.out HCH.out (rl_92 RG.out) (rl_92 RH.out))
  rw [← HP14.out] at CP
  go_upto_region 4 with (first | refine wpList_loadG (by rfl) 32 _ rfl T7n 0 (by rfl) p14 _ M7.out.r U32.out rfl I14l.out ?_ | (go_at_call 6; refine CP.out.mono ?_; rintro e w3 ⟨x14, rfl, hx, hb⟩; have hxl : x14.length = zs14.length := hx.len; have I14x : Hid ((Tryd.prog.info? 32).map (·.size) = some x14.toArray.size) := hidden (by rw [List.size_toArray, hx.len]; exact info14); have I14y : Hid ((Tryd.prog.info? 32).map (·.size) = some x14.length) := hidden (by rw [hx.len]; exact info14); have O14x := hidden hx.one; have TH : Hid ((w3.alloc (.cells zs14.toArray 32)).there w3.heap.size 0 x14.toArray.size) := hidden (by have e : x14.toArray.size = zs14.length := (by rw [List.size_toArray]; exact hxl); rw [e]; exact (Bx1.new w3 zs14 32).t); have MB := hidden ((Bx1.new w3 zs14 32).set (ds := x14) hxl); have BB := hidden (below_setCellsM (w0 := w3) w3.heap.size x14 0 (bl_alloc w3 (.cells zs14.toArray 32)) (Nat.le_refl _)); have SB : Hid (w3.heap.size < ((w3.alloc (.cells zs14.toArray 32)).setCells w3.heap.size 0 x14).heap.size) := hidden (by rw [size_setCellsM]; simp); have HX := hidden (hx.keep BB.out); have BH := hidden hb; clear hx hb CP hxl) | (refine wpList_store_mid rfl 32 _ _ rfl w3.heap.size 0 x14.toArray (by rfl) (by rfl) TH.out I14x.out O14x.out ?_; rw [List.toList_toArray]))
  have M11 := MB
  have T11 := SB
  replace K3 := hidden (K3.out.keep (bl_trans BH.out BB.out) L3.out)
  replace L3 := hidden (Nat.lt_of_lt_of_le L3.out (bl_trans BH.out BB.out).size)
  replace M7 := hidden (M7.out.keep (bl_trans BH.out BB.out) T7.out)
  replace T7 := hidden (Nat.lt_of_lt_of_le T7.out (bl_trans BH.out BB.out).size)
  replace M10 := hidden (M10.out.keep (bl_trans BH.out BB.out) T10.out)
  replace T10 := hidden (Nat.lt_of_lt_of_le T10.out (bl_trans BH.out BB.out).size)
  replace RG := hidden (RG.out.keep (bl_trans BH.out BB.out))
  replace RH := hidden (RH.out.keep (bl_trans BH.out BB.out))
  replace OGE := hidden (own_keepL OGE.out (bl_trans BH.out BB.out))
  replace OHE := hidden (own_keepL OHE.out (bl_trans BH.out BB.out))
  replace BW := hidden (bl_trans BW.out (bl_trans BH.out BB.out))
  generalize (w3.alloc (.cells zs14.toArray 32)).setCells w3.heap.size 0 x14 = W3 at M11 T11 M10 T10 M7 T7 BW K3 L3 RG RH OGE OHE HX ⊢
  generalize w3.heap.size = T11n at M11 T11 ⊢
  clear MB SB BB BH TH O14x I14x
  have CQ := hidden (HCY.out W3 QG QH _ dG dH OGE.out OHE.out)
  rw [← HR81.out] at CQ
  go_upto_region 5 with (first | refine wpList_loadG (by rfl) 47 _ rfl T10n 0 (by rfl) r81 _ M10.out.r U47.out rfl I81l.out ?_ | (go_at_call 7; refine CQ.out.mono ?_; rintro e w4 ⟨y81, rfl, hy, hb⟩; have hyl : y81.length = zs.length := hy.len; have I81x : Hid ((Tryd.prog.info? 47).map (·.size) = some y81.toArray.size) := hidden (by rw [List.size_toArray, hy.len]; exact sinfo81); have I81y : Hid ((Tryd.prog.info? 47).map (·.size) = some y81.length) := hidden (by rw [hy.len]; exact sinfo81); have O81x := hidden hy.one; have TH : Hid ((w4.alloc (.cells zs.toArray 47)).there w4.heap.size 0 y81.toArray.size) := hidden (by have e : y81.toArray.size = zs.length := (by rw [List.size_toArray]; exact hyl); rw [e]; exact (Bx1.new w4 zs 47).t); have MB := hidden ((Bx1.new w4 zs 47).set (ds := y81) hyl); have BB := hidden (below_setCellsM (w0 := w4) w4.heap.size y81 0 (bl_alloc w4 (.cells zs.toArray 47)) (Nat.le_refl _)); have SB : Hid (w4.heap.size < ((w4.alloc (.cells zs.toArray 47)).setCells w4.heap.size 0 y81).heap.size) := hidden (by rw [size_setCellsM]; simp); have HY := hidden (hy.keep BB.out); have BH := hidden hb; clear hy hb CQ hyl) | (refine wpList_store_mid rfl 47 _ _ rfl w4.heap.size 0 y81.toArray (by rfl) (by rfl) TH.out I81x.out O81x.out ?_; rw [List.toList_toArray]))
  have M13 := MB
  have T13 := SB
  replace K3 := hidden (K3.out.keep (bl_trans BH.out BB.out) L3.out)
  replace L3 := hidden (Nat.lt_of_lt_of_le L3.out (bl_trans BH.out BB.out).size)
  replace M7 := hidden (M7.out.keep (bl_trans BH.out BB.out) T7.out)
  replace T7 := hidden (Nat.lt_of_lt_of_le T7.out (bl_trans BH.out BB.out).size)
  replace M10 := hidden (M10.out.keep (bl_trans BH.out BB.out) T10.out)
  replace T10 := hidden (Nat.lt_of_lt_of_le T10.out (bl_trans BH.out BB.out).size)
  replace M11 := hidden (M11.out.keep (bl_trans BH.out BB.out) T11.out)
  replace RG := hidden (RG.out.keep (bl_trans BH.out BB.out))
  replace RH := hidden (RH.out.keep (bl_trans BH.out BB.out))
  replace OGE := hidden (own_keepL OGE.out (bl_trans BH.out BB.out))
  replace OHE := hidden (own_keepL OHE.out (bl_trans BH.out BB.out))
  replace HX := hidden (HX.out.keep (bl_trans BH.out BB.out))
  replace BW := hidden (bl_trans BW.out (bl_trans BH.out BB.out))
  generalize (w4.alloc (.cells zs.toArray 47)).setCells w4.heap.size 0 y81 = W4 at M13 T13 M11 M10 T10 M7 T7 BW K3 L3 RG RH OGE OHE HX HY ⊢
  generalize w4.heap.size = T13n at M13 T13 ⊢
  clear MB SB BB BH TH O81x I81x
  clear HCX HCY
  have EQ0 : ∀ (w : World), (Op.equalIn 10000 24 (.agg #[.int .u64 0, .int .u64 0, .int .u64 0, .int .u64 0]) (.agg #[.int .u64 0, .int .u64 0, .int .u64 0, .int .u64 0])).run Tryd.prog w = .ok true w := fun w => eq4s ⟨0, 0, 0, 0⟩ ⟨0, 0, 0, 0⟩ w
  by_cases hec : ec = 0
  · subst hec
    obtain ⟨P1, P2, c1, c2, hx, o1, o2⟩ := HX.out.yes rfl
    obtain ⟨R1, R2, d1, d2, hy, s1, s2⟩ := HY.out.yes rfl
    obtain ⟨hm1, hm2⟩ := HFM.out rfl
    have SL := hidden (lines_same b f q P1 P2 R1 R2 M c1 M c2 d1 d2 _ _ (fun k => gG (F + k)) (fun k => gH (F + k)) W4 (HT.out.keep BW.out) Hob.out Hof.out Hoq.out (by have := HG.out; omega) (by have := HG.out; omega) (fun k hk => HoG.out _ (by omega)) (fun k hk => HoH.out _ (by omega)) o1 o2 s1 s2)
    rw [← hx, ← hy] at SL
    clear hx hy o1 o2 s1 s2 hm1 hm2 HX HY HFM
    refine rg5 _ T11n T13n x14 y81 _ _ _ _ _ _ _ _ _ _ _ _ _ _ _ _ _ _ _ _ _ _ _ _ _ _ _ _ _ _ _ _ _ _ _ _ _ _ _ _ _ _ _ _ _ _ _ _ _ _ _ _ _ _ _ _ _ _ _ _ _ _ _ _ _ _ _ _ _ _ _ _ _ _ _ _ _ _ _ _ _ _ _ _ _ _ _ _ _ _ _ _ _ _ _ _ _ _ _ _ _ _ _ _ _ W4 M11.out.r M13.out.r I14y I81y SL (hidden (fun z0 z1 z2 z3 z4 z5 z6 z7 z8 z9 z10 z11 z12 z13 z14 z15 z16 z17 z18 z19 z20 z21 z22 z23 z24 z25 z26 z27 z28 z29 z30 z31 z32 w5 hb => ?_))
    have BH := hidden hb
    clear hb SL M11 M13
    go_upto_region 7 with fail
    replace M7 := hidden (M7.out.keep BH.out T7.out)
    replace M10 := hidden (M10.out.keep BH.out T10.out)
    replace T10 := hidden (Nat.lt_of_lt_of_le T10.out BH.out.size)
    replace K3 := hidden (K3.out.keep BH.out L3.out)
    replace L3 := hidden (Nat.lt_of_lt_of_le L3.out BH.out.size)
    replace RG := hidden (RG.out.keep BH.out)
    replace RH := hidden (RH.out.keep BH.out)
    replace OGE := hidden (own_keepL OGE.out BH.out)
    replace OHE := hidden (own_keepL OHE.out BH.out)
    replace BW := hidden (bl_trans BW.out BH.out)
    clear BH EQ0
    obtain ⟨N, hN⟩ : ∃ N, N = 3 + LG + LH := ⟨_, rfl⟩
    have HN0 : Hid (N = 3 + LG + LH ∧ N ≤ 2097160) := hidden ⟨hN, by have := HG.out; have := HH.out; omega⟩
    have CA := hidden (all_any b f q g h cg ch LG LH gG gH w5 HG.out HH.out (rl_92 RG.out) (rl_92 RH.out))
    rw [← HP14.out, svs_join, svs_join, ← hN] at CA
    have CB := hidden (fun w' (hb : Below w5.heap.size w5 w') => rall_any (lst b.n) (lst f.n) (lst q.n) _ _ _ LG LH (lf gG) (lf gH) w' HG.out HH.out (own_keepL OGE.out hb) (own_keepL OHE.out hb))
    rw [← HR81.out, evs_3, evs_join, evs_join, ← hN] at CB
    have HFO : Hid (∀ k, k < N → (fj (3 + LG) (fj 3 (f3 b f q) gG) gH k).ok) := hidden (fun k hk => by rw [hN] at hk; unfold fj; split; (· split; (· rename_i h3; match k, h3 with | 0, _ => exact Hob.out | 1, _ => exact Hof.out | 2, _ => exact Hoq.out); (· exact HoG.out _ (by omega))); (· exact HoH.out _ (by omega)))
    generalize fj (3 + LG) (fj 3 (f3 b f q) gG) gH = fA at CA CB HFO
    clear hN
    go_upto_region 8 with (first | refine wpList_loadG (by rfl) 32 _ rfl T7n 0 (by rfl) p14 _ M7.out.r U32.out rfl I14l.out ?_ | (go_at_call 9; refine CA.out.mono ?_; rintro e w6 ⟨v6, rfl, ho, hb⟩; obtain ⟨P6, c6, rfl⟩ := own_shapeP8 ho; have OA := hidden ho; have B6 := hidden hb; clear CA ho hb))
    replace M10 := hidden (M10.out.keep B6.out T10.out)
    go_upto_region 9 with (first | refine wpList_loadG (by rfl) 47 _ rfl T10n 0 (by rfl) r81 _ M10.out.r U47.out rfl I81l.out ?_ | (go_at_call 10; refine (CB.out _ B6.out).mono ?_; rintro e w7 ⟨v7, rfl, ho, hb⟩; obtain ⟨P7, c7, rfl⟩ := own_shapeP8 ho; have OB := hidden ho; have B7 := hidden hb; clear CB ho hb))
    replace OA := hidden (own_keepL OA.out B7.out)
    replace BW := hidden (bl_trans BW.out (bl_trans B6.out B7.out))
    replace K3 := hidden (K3.out.keep (bl_trans B6.out B7.out) L3.out)
    replace L3 := hidden (Nat.lt_of_lt_of_le L3.out (bl_trans B6.out B7.out).size)
    replace RG := hidden (RG.out.keep (bl_trans B6.out B7.out))
    replace RH := hidden (RH.out.keep (bl_trans B6.out B7.out))
    clear M7 M10 B6 B7 OGE OHE
    go_upto_region 12 with fail
    have BL := hidden (Below.refl w7.heap.size w7)
    go_loopw [17] (fun kv w' => ∃ k : Nat, k ≤ N ∧ kv = .int .i64 (k : Int) ∧ Hid (Below w7.heap.size w7 w')) (fun k _ => N - (intOf k).toNat)
    case atStart => exact ⟨0, by omega, rfl, BL⟩
    case round =>
      clear BL
      obtain ⟨k, hk, rfl, BL⟩ := hrel
      by_cases hkn : k < N
      · obtain ⟨ga, gb, e1, e2, hs⟩ := s14_of hkn (own_keepL OA.out BL.out) (own_keepL OB.out BL.out)
        subst e1
        subst e2
        have HS := hidden hs
        have CL : Hid (∀ x : World, Below wr.heap.size wr x → Calls Tryd.prog 11 #[.agg #[.int .u64 (fA k).x0, .int .u64 (fA k).x1, .int .u64 (fA k).x2, .int .u64 (fA k).x3], .agg (el (lf fA k)).toArray] x fun e w' => e = .returned (.bool true) ∧ Below x.heap.size x w') := hidden (fun x hb => isLine_any (fA k) x (HT.out.keep (bl_trans BW.out (bl_trans BL.out hb))) (HFO.out k hkn))
        have k0 : (0 : Int) ≤ (k : Int) := by omega
        have k1 : (k : Int) < (N : Int) := by omega
        have w9 : IntKind.i64.wrap ((k : Int) + 1) = (k : Int) + 1 := IntWalk.i64_in _ (by have := HN0.out.2; omega)
        clear hs
        go_upto_region 14 with fail
        refine sl14 _ ga c6 gb c7 N k (fA k) (lf fA k) _ _ _ _ _ _ _ _ _ _ _ _ _ _ _ _ _ _ _ _ _ _ _ _ _ _ _ _ _ _ _ _ _ _ _ _ _ _ _ _ _ _ _ _ _ _ _ _ _ _ _ _ _ _ _ _ _ _ _ _ _ _ _ _ _ _ _ _ _ _ _ _ _ _ _ _ _ _ _ _ _ _ _ _ _ _ _ _ _ _ _ _ _ _ _ _ _ _ _ _ _ _ _ _ _ _ wr hkn HS.out CL (hidden (fun wz hbz => ?_))
        have BZ := hidden (bl_trans BL.out hbz)
        clear hbz HS CL
        go_wp2_with fail
        go_roundw
        case rel => exact ⟨k + 1, by omega, by go_num, BZ⟩
        case measure => simp [intOf]; omega
      · have lq : ¬ (k : Int) < (N : Int) := by omega
        have K3r := hidden (K3.out.keep BL.out L3.out)
        have x12 : wr.cell? ⟨w.heap.size, 12, none⟩ = some (.slice PG LG cG) := K3r.out.c (by rw [HCS.out]; rfl)
        have ST0 := hidden (stay_any PG LG cG g cg gG wr HG.out (HmG.out.keep (bl_trans BW.out BL.out)) (RG.out.keep BL.out))
        have ST1 := hidden (fun w' (hb : Below wr.heap.size wr w') => stay_any PH LH cH h ch gH w' HH.out (HmH.out.keep (bl_trans BW.out (bl_trans BL.out hb))) (RH.out.keep (bl_trans BL.out hb)))
        go_wp2_with (first | (go_at_call 12; refine ST0.out.mono ?_; rintro e w8 ⟨rfl, hb⟩; have B8 := hidden hb; have x13 : w8.cell? ⟨w.heap.size, 13, none⟩ = some (.slice PH LH cH) := cell_keep (K3r.out.c (by rw [HCS.out]; rfl)) hb; clear ST0 hb x12) | (go_at_call 12; refine (ST1.out _ B8.out).mono ?_; rintro e w9 ⟨rfl, hb⟩; have B9 := hidden (bl_trans B8.out hb); clear ST1 hb))
        refine bodyPost_ret (v := .bool true) (by simp [results, Tryd.results3, go_sem]) rfl ⟨rfl, bl_trans BW.out (bl_trans BL.out B9.out)⟩
  · have hx := HX.out.no hec
    have n0 : (ec == 0) = false := by simpa using hec
    have n1 : (ec != 0) = true := by simpa using hec
    subst hx
    have z0 : W4.cell? ⟨T11n, 0, none⟩ = some (.int .u64 0) := M11.out.c rfl
    have z1 : W4.cell? ⟨T11n, 1, none⟩ = some (.int .u64 0) := M11.out.c rfl
    have z2 : W4.cell? ⟨T11n, 2, none⟩ = some (.int .u64 0) := M11.out.c rfl
    have z3 : W4.cell? ⟨T11n, 3, none⟩ = some (.int .u64 0) := M11.out.c rfl
    have z12 : W4.cell? ⟨T11n, 12, none⟩ = some (.slice none 0 0) := M11.out.c rfl
    have z13 : W4.cell? ⟨T11n, 13, none⟩ = some (.slice none 0 0) := M11.out.c rfl
    clear HX HY HFM hec
    go_upto_region 7 with fail
    clear z0 z1 z2 z3 z12 z13 n0 n1 EQ0 M11 M13
    obtain ⟨N, hN⟩ : ∃ N, N = 3 + LG + LH := ⟨_, rfl⟩
    have HN0 : Hid (N = 3 + LG + LH ∧ N ≤ 2097160) := hidden ⟨hN, by have := HG.out; have := HH.out; omega⟩
    have CA := hidden (all_any b f q g h cg ch LG LH gG gH W4 HG.out HH.out (rl_92 RG.out) (rl_92 RH.out))
    rw [← HP14.out, svs_join, svs_join, ← hN] at CA
    have CB := hidden (fun w' (hb : Below W4.heap.size W4 w') => rall_any (lst b.n) (lst f.n) (lst q.n) _ _ _ LG LH (lf gG) (lf gH) w' HG.out HH.out (own_keepL OGE.out hb) (own_keepL OHE.out hb))
    rw [← HR81.out, evs_3, evs_join, evs_join, ← hN] at CB
    have HFO : Hid (∀ k, k < N → (fj (3 + LG) (fj 3 (f3 b f q) gG) gH k).ok) := hidden (fun k hk => by rw [hN] at hk; unfold fj; split; (· split; (· rename_i h3; match k, h3 with | 0, _ => exact Hob.out | 1, _ => exact Hof.out | 2, _ => exact Hoq.out); (· exact HoG.out _ (by omega))); (· exact HoH.out _ (by omega)))
    generalize fj (3 + LG) (fj 3 (f3 b f q) gG) gH = fA at CA CB HFO
    clear hN
    go_upto_region 8 with (first | refine wpList_loadG (by rfl) 32 _ rfl T7n 0 (by rfl) p14 _ M7.out.r U32.out rfl I14l.out ?_ | (go_at_call 9; refine CA.out.mono ?_; rintro e w6 ⟨v6, rfl, ho, hb⟩; obtain ⟨P6, c6, rfl⟩ := own_shapeP8 ho; have OA := hidden ho; have B6 := hidden hb; clear CA ho hb))
    replace M10 := hidden (M10.out.keep B6.out T10.out)
    go_upto_region 9 with (first | refine wpList_loadG (by rfl) 47 _ rfl T10n 0 (by rfl) r81 _ M10.out.r U47.out rfl I81l.out ?_ | (go_at_call 10; refine (CB.out _ B6.out).mono ?_; rintro e w7 ⟨v7, rfl, ho, hb⟩; obtain ⟨P7, c7, rfl⟩ := own_shapeP8 ho; have OB := hidden ho; have B7 := hidden hb; clear CB ho hb))
    replace OA := hidden (own_keepL OA.out B7.out)
    replace BW := hidden (bl_trans BW.out (bl_trans B6.out B7.out))
    replace K3 := hidden (K3.out.keep (bl_trans B6.out B7.out) L3.out)
    replace L3 := hidden (Nat.lt_of_lt_of_le L3.out (bl_trans B6.out B7.out).size)
    replace RG := hidden (RG.out.keep (bl_trans B6.out B7.out))
    replace RH := hidden (RH.out.keep (bl_trans B6.out B7.out))
    clear M7 M10 B6 B7 OGE OHE
    go_upto_region 12 with fail
    have BL := hidden (Below.refl w7.heap.size w7)
    go_loopw [17] (fun kv w' => ∃ k : Nat, k ≤ N ∧ kv = .int .i64 (k : Int) ∧ Hid (Below w7.heap.size w7 w')) (fun k _ => N - (intOf k).toNat)
    case atStart => exact ⟨0, by omega, rfl, BL⟩
    case round =>
      clear BL
      obtain ⟨k, hk, rfl, BL⟩ := hrel
      by_cases hkn : k < N
      · obtain ⟨ga, gb, e1, e2, hs⟩ := s14_of hkn (own_keepL OA.out BL.out) (own_keepL OB.out BL.out)
        subst e1
        subst e2
        have HS := hidden hs
        have CL : Hid (∀ x : World, Below wr.heap.size wr x → Calls Tryd.prog 11 #[.agg #[.int .u64 (fA k).x0, .int .u64 (fA k).x1, .int .u64 (fA k).x2, .int .u64 (fA k).x3], .agg (el (lf fA k)).toArray] x fun e w' => e = .returned (.bool true) ∧ Below x.heap.size x w') := hidden (fun x hb => isLine_any (fA k) x (HT.out.keep (bl_trans BW.out (bl_trans BL.out hb))) (HFO.out k hkn))
        have k0 : (0 : Int) ≤ (k : Int) := by omega
        have k1 : (k : Int) < (N : Int) := by omega
        have w9 : IntKind.i64.wrap ((k : Int) + 1) = (k : Int) + 1 := IntWalk.i64_in _ (by have := HN0.out.2; omega)
        clear hs
        go_upto_region 14 with fail
        refine sl14 _ ga c6 gb c7 N k (fA k) (lf fA k) _ _ _ _ _ _ _ _ _ _ _ _ _ _ _ _ _ _ _ _ _ _ _ _ _ _ _ _ _ _ _ _ _ _ _ _ _ _ _ _ _ _ _ _ _ _ _ _ _ _ _ _ _ _ _ _ _ _ _ _ _ _ _ _ _ _ _ _ _ _ _ _ _ _ _ _ _ _ _ _ _ _ _ _ _ _ _ _ _ _ _ _ _ _ _ _ _ _ _ _ _ _ _ _ _ _ wr hkn HS.out CL (hidden (fun wz hbz => ?_))
        have BZ := hidden (bl_trans BL.out hbz)
        clear hbz HS CL
        go_wp2_with fail
        go_roundw
        case rel => exact ⟨k + 1, by omega, by go_num, BZ⟩
        case measure => simp [intOf]; omega
      · have lq : ¬ (k : Int) < (N : Int) := by omega
        have K3r := hidden (K3.out.keep BL.out L3.out)
        have x12 : wr.cell? ⟨w.heap.size, 12, none⟩ = some (.slice PG LG cG) := K3r.out.c (by rw [HCS.out]; rfl)
        have ST0 := hidden (stay_any PG LG cG g cg gG wr HG.out (HmG.out.keep (bl_trans BW.out BL.out)) (RG.out.keep BL.out))
        have ST1 := hidden (fun w' (hb : Below wr.heap.size wr w') => stay_any PH LH cH h ch gH w' HH.out (HmH.out.keep (bl_trans BW.out (bl_trans BL.out hb))) (RH.out.keep (bl_trans BL.out hb)))
        go_wp2_with (first | (go_at_call 12; refine ST0.out.mono ?_; rintro e w8 ⟨rfl, hb⟩; have B8 := hidden hb; have x13 : w8.cell? ⟨w.heap.size, 13, none⟩ = some (.slice PH LH cH) := cell_keep (K3r.out.c (by rw [HCS.out]; rfl)) hb; clear ST0 hb x12) | (go_at_call 12; refine (ST1.out _ B8.out).mono ?_; rintro e w9 ⟨rfl, hb⟩; have B9 := hidden (bl_trans B8.out hb); clear ST1 hb))
        refine bodyPost_ret (v := .bool true) (by simp [results, Tryd.results3, go_sem]) rfl ⟨rfl, bl_trans BW.out (bl_trans BL.out B9.out)⟩
end Go.Proofs.YtlijigolfggcfaaDoor
