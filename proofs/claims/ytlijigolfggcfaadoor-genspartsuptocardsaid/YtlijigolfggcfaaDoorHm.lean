import Derived.Test.YtlijigolfggcfaaDoorHl
import Derived.Laws.Small
namespace Go.Proofs.YtlijigolfggcfaaDoor
open Go.RowKit
set_option linter.unusedVariables false
set_option maxRecDepth 100000 in
set_option maxHeartbeats 8000000 in
theorem part_short (b f q : E4) (g h cg ch LG LH : Nat) (fr n : Int) (w : World) (hG : LG ≤ 1048576) (hH : LH ≤ 1048576) (hfr : 0 ≤ fr ∧ fr ≤ 9223372036854775807) (hn0 : 0 ≤ n) (hs : min (LG : Int) (LH : Int) - fr < n) :
    Calls Tryd.prog 6 #[.agg (gs14 b f q (.slice (some ⟨g, 0, none⟩) LG cg) (.slice (some ⟨h, 0, none⟩) LH ch)).toArray, .int .i64 fr, .int .i64 n] w fun e w' => e = .returned (.tuple #[.agg zs14.toArray, .int .i64 2]) ∧ Below w.heap.size w w' := by
  obtain ⟨cs, hcs⟩ : ∃ l, l = (gs14 b f q (.slice (some ⟨g, 0, none⟩) LG cg) (.slice (some ⟨h, 0, none⟩) LH ch)) := ⟨_, rfl⟩
  rw [← hcs]
  obtain ⟨M1, M2⟩ := part_start w cs
  have hzv := zv14
  have B0 := bl_alloc2 w (.cells cs.toArray 32) (.cells zs14.toArray 32)
  have SZ : ((w.alloc (.cells cs.toArray 32)).alloc (.cells zs14.toArray 32)).heap.size = w.heap.size + 1 + 1 := by simp
  generalize hW : (w.alloc (.cells cs.toArray 32)).alloc (.cells zs14.toArray 32) = W at M1 M2 B0 SZ
  have e12 := M1.c (j := 12) (v := .slice (some ⟨g, 0, none⟩) LG cg) (by rw [hcs]; rfl)
  have e13 := M1.c (j := 13) (v := .slice (some ⟨h, 0, none⟩) LH ch) (by rw [hcs]; rfl)
  have I4 : Hid ((Tryd.prog.info? 32).map (·.size) = some zs14.toArray.size) := hidden info14
  have OZ : Hid (zs14.toArray.all (·.oneCell') = true) := hidden (gs14_one _ _ _ none none 0 0 0 0)
  have TH := hidden (show W.there (w.heap.size + 1) 0 zs14.toArray.size from M2.t)
  have MS := M2.set (ds := zs14) rfl
  have LD := hidden (run_loadVar_mid (P := Tryd.prog) _ (w.heap.size + 1) 0 32 zs14 _ MS.r Tryd.underlying32 rfl info14)
  have BL := hidden (below_setCellsM (w0 := w) (w.heap.size + 1) zs14 0 B0 (Nat.le_succ _))
  have f0 : ¬ fr < 0 := by omega
  have n0 : ¬ n < 0 := by omega
  rcases Nat.lt_or_ge LH LG with hlt | hlt
  · have c1 : (LH : Int) < (LG : Int) := by omega
    have w1 : IntKind.i64.wrap ((LH : Int) - fr) = (LH : Int) - fr := IntWalk.i64_in _ (by omega)
    have n1 : n > (LH : Int) - fr := by omega
    have n2 : (LH : Int) - fr < n := by omega
    clear hcs M1 M2 MS B0 SZ
    go_enter Tryd.func6, Tryd.ntmps6
    go_wp2_with (first | refine wpList_buildC rfl 32 _ rfl zs14.toArray (by kernel_rfl) ?_ | refine wpList_store_mid rfl 32 _ _ rfl (w.heap.size + 1) 0 zs14.toArray (by rfl) (by rfl) TH.out I4.out OZ.out ?_)
    refine bodyPost_ret (v := .tuple #[.agg zs14.toArray, .int .i64 2]) (results_tupM Tryd.results6 _ _ _ _ _ _ (by rfl) (by rfl) LD.out) rfl ⟨rfl, BL.out⟩
  · have c1 : ¬ (LH : Int) < (LG : Int) := by omega
    have w1 : IntKind.i64.wrap ((LG : Int) - fr) = (LG : Int) - fr := IntWalk.i64_in _ (by omega)
    have n1 : n > (LG : Int) - fr := by omega
    have n2 : (LG : Int) - fr < n := by omega
    clear hcs M1 M2 MS B0 SZ
    go_enter Tryd.func6, Tryd.ntmps6
    go_wp2_with (first | refine wpList_buildC rfl 32 _ rfl zs14.toArray (by kernel_rfl) ?_ | refine wpList_store_mid rfl 32 _ _ rfl (w.heap.size + 1) 0 zs14.toArray (by rfl) (by rfl) TH.out I4.out OZ.out ?_)
    refine bodyPost_ret (v := .tuple #[.agg zs14.toArray, .int .i64 2]) (results_tupM Tryd.results6 _ _ _ _ _ _ (by rfl) (by rfl) LD.out) rfl ⟨rfl, BL.out⟩
theorem rl_drop {w : World} {b L F M : Nat} {f : Nat → E4} (h : Rl w b 0 L f) (hm : F + M ≤ L) : Rl w b (F * 4) M (fun k => f (F + k)) :=
  ⟨fun k hk => by have := h.c0 (F + k) (by omega); rwa [show 0 + (F + k) * 4 = F * 4 + k * 4 by omega] at this, fun k hk => by have := h.c1 (F + k) (by omega); rwa [show 0 + (F + k) * 4 + 1 = F * 4 + k * 4 + 1 by omega] at this, fun k hk => by have := h.c2 (F + k) (by omega); rwa [show 0 + (F + k) * 4 + 2 = F * 4 + k * 4 + 2 by omega] at this, fun k hk => by have := h.c3 (F + k) (by omega); rwa [show 0 + (F + k) * 4 + 3 = F * 4 + k * 4 + 3 by omega] at this⟩
theorem own_shapeP9 {w : World} {base n s : Nat} {e : TypeId} {v : Value} {xs : List Value} (h : w.ownsRow base e s v n xs) : ∃ (P : Option Addr) (c : Nat), v = .slice P n c := by
  rcases h.2 with ⟨rfl, rfl⟩ | ⟨g, cap, cur, rfl, _⟩
  · exact ⟨none, 0, rfl⟩
  · exact ⟨_, _, rfl⟩
set_option maxRecDepth 100000 in
set_option maxHeartbeats 8000000 in
theorem part_in (b f q : E4) (g h cg ch LG LH F M : Nat) (fG fH : Nat → E4) (w : World) (hG : LG ≤ 1048576) (hH : LH ≤ 1048576) (hcg : LG + 2 ≤ cg) (hch : LH + 2 ≤ ch) (hFG : F + M ≤ LG) (hFH : F + M ≤ LH) (r1 : Rl w g 0 LG fG) (r2 : Rl w h 0 LH fH) :
    Calls Tryd.prog 6 #[.agg (gs14 b f q (.slice (some ⟨g, 0, none⟩) LG cg) (.slice (some ⟨h, 0, none⟩) LH ch)).toArray, .int .i64 (F : Int), .int .i64 (M : Int)] w fun e w' => ∃ v1 v2 : Value, e = .returned (.tuple #[.agg (gs14 b f q v1 v2).toArray, .int .i64 0]) ∧ w'.ownsRow w.heap.size 29 4 v1 M (svs M (fun k => fG (F + k))) ∧ w'.ownsRow w.heap.size 29 4 v2 M (svs M (fun k => fH (F + k))) ∧ Below w.heap.size w w' := by
  obtain ⟨cs, hcs⟩ : ∃ l, l = (gs14 b f q (.slice (some ⟨g, 0, none⟩) LG cg) (.slice (some ⟨h, 0, none⟩) LH ch)) := ⟨_, rfl⟩
  rw [← hcs]
  obtain ⟨M1, M2⟩ := part_start w cs
  have hzv := zv14
  have B0 := bl_alloc2 w (.cells cs.toArray 32) (.cells zs14.toArray 32)
  have SZ : ((w.alloc (.cells cs.toArray 32)).alloc (.cells zs14.toArray 32)).heap.size = w.heap.size + 1 + 1 := by simp
  generalize hW : (w.alloc (.cells cs.toArray 32)).alloc (.cells zs14.toArray 32) = W at M1 M2 B0 SZ
  have e12 := M1.c (j := 12) (v := .slice (some ⟨g, 0, none⟩) LG cg) (by rw [hcs]; rfl)
  have e13 := M1.c (j := 13) (v := .slice (some ⟨h, 0, none⟩) LH ch) (by rw [hcs]; rfl)
  have f0 : ¬ (F : Int) < 0 := by omega
  have n0 : ¬ (M : Int) < 0 := by omega
  have w1 : IntKind.i64.wrap ((LH : Int) - (F : Int)) = (LH : Int) - (F : Int) := IntWalk.i64_in _ (by omega)
  have w1' : IntKind.i64.wrap ((LG : Int) - (F : Int)) = (LG : Int) - (F : Int) := IntWalk.i64_in _ (by omega)
  have n1 : ¬ ((M : Int) > (LH : Int) - (F : Int)) := by omega
  have n1' : ¬ ((M : Int) > (LG : Int) - (F : Int)) := by omega
  have w2 : IntKind.i64.wrap ((F : Int) + (M : Int)) = (F : Int) + (M : Int) := IntWalk.i64_in _ (by omega)
  have a1 : (0 : Int) ≤ (F : Int) := by omega
  have a2 : (F : Int) ≤ (F : Int) + (M : Int) := by omega
  have a3 : (F : Int) + (M : Int) ≤ (cg : Int) := by omega
  have a4 : (F : Int) + (M : Int) ≤ (ch : Int) := by omega
  have a5 : (0 : Int) ≤ (M : Int) := by omega
  have q1 : ¬ cg = F := by omega
  have q2 : ¬ ch = F := by omega
  have q3 : ¬ (cg - F = 0) := by omega
  have q4 : ¬ (ch - F = 0) := by omega
  have R1 : Hid (Rl w g (F * 4) M (fun k => fG (F + k))) := hidden (rl_drop r1 hFG)
  have R2 : Hid (Rl w h (F * 4) M (fun k => fH (F + k))) := hidden (rl_drop r2 hFH)
  have HC : Hid (cs[12]? = some (.slice (some ⟨g, 0, none⟩) LG cg) ∧ cs[13]? = some (.slice (some ⟨h, 0, none⟩) LH ch) ∧ 12 < cs.length ∧ 13 < cs.length ∧ ∀ {x y : Value}, (cs.set 12 x).set 13 y = gs14 b f q x y) := hidden (by rw [hcs]; exact ⟨rfl, rfl, by rw [gs14_len]; omega, by rw [gs14_len]; omega, rfl⟩)
  have LT1 : Hid (w.heap.size < W.heap.size) := hidden (by omega)
  have LT2 : Hid (w.heap.size + 1 < W.heap.size) := hidden (by omega)
  replace M1 := hidden M1
  replace M2 := hidden M2
  replace B0 := hidden B0
  have C1 := hidden (lclone_any g (F * 4) M (cg - F) (fun k => fG (F + k)) W (by omega) (R1.out.keep B0.out))
  have C2 := hidden (fun (x : World) (hb : Below w.heap.size w x) => lclone_any h (F * 4) M (ch - F) (fun k => fH (F + k)) x (by omega) (R2.out.keep hb))
  have I4 := hidden info14
  have US : Hid (Tryd.prog.underlying 32 = _) := hidden Tryd.underlying32
  clear hcs r1 r2 SZ
  go_enter Tryd.func6, Tryd.ntmps6
  rcases Nat.lt_or_ge LH LG with hlt | hlt
  · have c0 : (LH : Int) < (LG : Int) := by omega
    go_wp2_with (first | (go_at_call 15; refine (C1.out).mono ?_; rintro e wa ⟨v1, rfl, o1, ha⟩; obtain ⟨P1, c1, rfl⟩ := own_shapeP9 o1; have N1 := M1.out.keep ha LT1.out; have k12 := N1.c (j := 12) (v := .slice (some ⟨g, 0, none⟩) LG cg) HC.out.1; have f12 := N1.f (j := 12) HC.out.2.2.1; have S1 := hidden (N1.setCell 12 (.slice P1 M c1) HC.out.2.2.1); have k13 : (wa.setCell ⟨w.heap.size, 12, none⟩ (.slice P1 M c1)).cell? ⟨w.heap.size, 13, none⟩ = some (.slice (some ⟨h, 0, none⟩) LH ch) := (setC_neG _ _ _ _ _ (by omega)).trans (N1.c HC.out.2.1); have O1 := hidden (ownsRow_setCell_below o1 (a := ⟨w.heap.size, 12, none⟩) LT1.out (.slice P1 M c1)); have Z1 := hidden ((M2.out.keep ha LT2.out).far (d := w.heap.size) 12 (.slice P1 M c1) (by omega)); have BA : Hid (Below W.heap.size W wa) := hidden ha; have BB := hidden (show Below w.heap.size w (wa.setCell ⟨w.heap.size, 12, none⟩ (.slice P1 M c1)) from (bl_trans B0.out ha).setCell (Nat.le_refl _) _); have SW := hidden (show W.heap.size ≤ wa.heap.size from ha.size); clear o1 ha N1 C1) | (go_at_call 15; refine (C2.out _ BB.out).mono ?_; rintro e wb ⟨v2, rfl, o2, hb⟩; obtain ⟨P2, c2, rfl⟩ := own_shapeP9 o2; have SS : (wa.setCell ⟨w.heap.size, 12, none⟩ (.slice P1 M c1)).heap.size = wa.heap.size := (by simp); have N2 := S1.out.keep hb (by rw [SS]; exact Nat.lt_of_lt_of_le LT1.out SW.out); have j13 := N2.c (j := 13) (v := .slice (some ⟨h, 0, none⟩) LH ch) (by rw [List.getElem?_set_ne (by omega)]; exact HC.out.2.1); have f13 := N2.f (j := 13) (by simpa using HC.out.2.2.2.1); have S2 := N2.setCell 13 (.slice P2 M c2) (by simpa using HC.out.2.2.2.1); rw [HC.out.2.2.2.2] at S2; have RG := hidden (show (wb.setCell ⟨w.heap.size, 13, none⟩ (.slice P2 M c2)).rangeAt w.heap.size 0 (gs14 b f q (.slice P1 M c1) (.slice P2 M c2)) from S2.r); have Z2 := (Z1.out.keep hb (by rw [SS]; exact Nat.lt_of_lt_of_le LT2.out SW.out)).far (d := w.heap.size) 13 (.slice P2 M c2) (by omega); have TH := hidden (show (wb.setCell ⟨w.heap.size, 13, none⟩ (.slice P2 M c2)).there (w.heap.size + 1) 0 (gs14 b f q (.slice P1 M c1) (.slice P2 M c2)).toArray.size from Z2.t); have MS := Z2.set (ds := (gs14 b f q (.slice P1 M c1) (.slice P2 M c2))) rfl; have LD := hidden (run_loadVar_mid (P := Tryd.prog) _ (w.heap.size + 1) 0 32 (gs14 b f q (.slice P1 M c1) (.slice P2 M c2)) _ MS.r Tryd.underlying32 rfl info14); have BL := hidden (below_setCellsM (w0 := w) (w.heap.size + 1) (gs14 b f q (.slice P1 M c1) (.slice P2 M c2)) 0 (show Below w.heap.size w (wb.setCell ⟨w.heap.size, 13, none⟩ (.slice P2 M c2)) from (below_trans BB.out (below_less hb (by rw [SS]; exact Nat.le_trans B0.out.size SW.out))).setCell (Nat.le_refl _) _) (Nat.le_succ _)); have W1 := hidden (own_less (own_setCells (ownsRow_setCell_below (own_keepL O1.out hb) (a := ⟨w.heap.size, 13, none⟩) LT1.out (.slice P2 M c2)) LT2.out (gs14 b f q (.slice P1 M c1) (.slice P2 M c2))) B0.out.size); have W2 := hidden (own_less (own_setCells (ownsRow_setCell_below (own_less o2 (by rw [SS]; exact SW.out)) (a := ⟨w.heap.size, 13, none⟩) LT1.out (.slice P2 M c2)) LT2.out (gs14 b f q (.slice P1 M c1) (.slice P2 M c2))) B0.out.size); have O4 := hidden (gs14_one b f q P1 P2 M c1 M c2); clear o2 hb N2 S2 Z2 MS) | refine wpList_load_mid rfl 32 _ rfl w.heap.size 0 (by rfl) (gs14 b f q (.slice P1 M c1) (.slice P2 M c2)) _ RG.out US.out rfl I4.out ?_ | refine wpList_store_mid rfl 32 _ _ rfl (w.heap.size + 1) 0 (gs14 b f q (.slice P1 M c1) (.slice P2 M c2)).toArray (by rfl) (by rfl) TH.out I4.out O4.out ?_)
    refine bodyPost_ret (v := .tuple #[.agg (gs14 b f q (.slice P1 M c1) (.slice P2 M c2)).toArray, .int .i64 0]) (results_tupM Tryd.results6 _ _ _ _ _ _ (by rfl) (by rfl) LD.out) rfl ⟨_, _, rfl, W1.out, W2.out, BL.out⟩
  · have c0 : ¬ (LH : Int) < (LG : Int) := by omega
    go_wp2_with (first | (go_at_call 15; refine (C1.out).mono ?_; rintro e wa ⟨v1, rfl, o1, ha⟩; obtain ⟨P1, c1, rfl⟩ := own_shapeP9 o1; have N1 := M1.out.keep ha LT1.out; have k12 := N1.c (j := 12) (v := .slice (some ⟨g, 0, none⟩) LG cg) HC.out.1; have f12 := N1.f (j := 12) HC.out.2.2.1; have S1 := hidden (N1.setCell 12 (.slice P1 M c1) HC.out.2.2.1); have k13 : (wa.setCell ⟨w.heap.size, 12, none⟩ (.slice P1 M c1)).cell? ⟨w.heap.size, 13, none⟩ = some (.slice (some ⟨h, 0, none⟩) LH ch) := (setC_neG _ _ _ _ _ (by omega)).trans (N1.c HC.out.2.1); have O1 := hidden (ownsRow_setCell_below o1 (a := ⟨w.heap.size, 12, none⟩) LT1.out (.slice P1 M c1)); have Z1 := hidden ((M2.out.keep ha LT2.out).far (d := w.heap.size) 12 (.slice P1 M c1) (by omega)); have BA : Hid (Below W.heap.size W wa) := hidden ha; have BB := hidden (show Below w.heap.size w (wa.setCell ⟨w.heap.size, 12, none⟩ (.slice P1 M c1)) from (bl_trans B0.out ha).setCell (Nat.le_refl _) _); have SW := hidden (show W.heap.size ≤ wa.heap.size from ha.size); clear o1 ha N1 C1) | (go_at_call 15; refine (C2.out _ BB.out).mono ?_; rintro e wb ⟨v2, rfl, o2, hb⟩; obtain ⟨P2, c2, rfl⟩ := own_shapeP9 o2; have SS : (wa.setCell ⟨w.heap.size, 12, none⟩ (.slice P1 M c1)).heap.size = wa.heap.size := (by simp); have N2 := S1.out.keep hb (by rw [SS]; exact Nat.lt_of_lt_of_le LT1.out SW.out); have j13 := N2.c (j := 13) (v := .slice (some ⟨h, 0, none⟩) LH ch) (by rw [List.getElem?_set_ne (by omega)]; exact HC.out.2.1); have f13 := N2.f (j := 13) (by simpa using HC.out.2.2.2.1); have S2 := N2.setCell 13 (.slice P2 M c2) (by simpa using HC.out.2.2.2.1); rw [HC.out.2.2.2.2] at S2; have RG := hidden (show (wb.setCell ⟨w.heap.size, 13, none⟩ (.slice P2 M c2)).rangeAt w.heap.size 0 (gs14 b f q (.slice P1 M c1) (.slice P2 M c2)) from S2.r); have Z2 := (Z1.out.keep hb (by rw [SS]; exact Nat.lt_of_lt_of_le LT2.out SW.out)).far (d := w.heap.size) 13 (.slice P2 M c2) (by omega); have TH := hidden (show (wb.setCell ⟨w.heap.size, 13, none⟩ (.slice P2 M c2)).there (w.heap.size + 1) 0 (gs14 b f q (.slice P1 M c1) (.slice P2 M c2)).toArray.size from Z2.t); have MS := Z2.set (ds := (gs14 b f q (.slice P1 M c1) (.slice P2 M c2))) rfl; have LD := hidden (run_loadVar_mid (P := Tryd.prog) _ (w.heap.size + 1) 0 32 (gs14 b f q (.slice P1 M c1) (.slice P2 M c2)) _ MS.r Tryd.underlying32 rfl info14); have BL := hidden (below_setCellsM (w0 := w) (w.heap.size + 1) (gs14 b f q (.slice P1 M c1) (.slice P2 M c2)) 0 (show Below w.heap.size w (wb.setCell ⟨w.heap.size, 13, none⟩ (.slice P2 M c2)) from (below_trans BB.out (below_less hb (by rw [SS]; exact Nat.le_trans B0.out.size SW.out))).setCell (Nat.le_refl _) _) (Nat.le_succ _)); have W1 := hidden (own_less (own_setCells (ownsRow_setCell_below (own_keepL O1.out hb) (a := ⟨w.heap.size, 13, none⟩) LT1.out (.slice P2 M c2)) LT2.out (gs14 b f q (.slice P1 M c1) (.slice P2 M c2))) B0.out.size); have W2 := hidden (own_less (own_setCells (ownsRow_setCell_below (own_less o2 (by rw [SS]; exact SW.out)) (a := ⟨w.heap.size, 13, none⟩) LT1.out (.slice P2 M c2)) LT2.out (gs14 b f q (.slice P1 M c1) (.slice P2 M c2))) B0.out.size); have O4 := hidden (gs14_one b f q P1 P2 M c1 M c2); clear o2 hb N2 S2 Z2 MS) | refine wpList_load_mid rfl 32 _ rfl w.heap.size 0 (by rfl) (gs14 b f q (.slice P1 M c1) (.slice P2 M c2)) _ RG.out US.out rfl I4.out ?_ | refine wpList_store_mid rfl 32 _ _ rfl (w.heap.size + 1) 0 (gs14 b f q (.slice P1 M c1) (.slice P2 M c2)).toArray (by rfl) (by rfl) TH.out I4.out O4.out ?_)
    refine bodyPost_ret (v := .tuple #[.agg (gs14 b f q (.slice P1 M c1) (.slice P2 M c2)).toArray, .int .i64 0]) (results_tupM Tryd.results6 _ _ _ _ _ _ (by rfl) (by rfl) LD.out) rfl ⟨_, _, rfl, W1.out, W2.out, BL.out⟩
end Go.Proofs.YtlijigolfggcfaaDoor
