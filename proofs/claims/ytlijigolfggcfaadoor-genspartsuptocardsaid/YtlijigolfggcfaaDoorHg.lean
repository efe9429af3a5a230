import Derived.Test.YtlijigolfggcfaaDoorHf
namespace Go.Proofs.YtlijigolfggcfaaDoor
open Go.RowKit
set_option linter.unusedVariables false
set_option maxRecDepth 100000 in
set_option maxHeartbeats 8000000 in
theorem ref_any (b f q : E4) (PG PH : Option Addr) (LG cG LH cH : Nat) (gG gH : Nat → E4) (w : World) (ob : b.ok) (of : f.ok) (oq : q.ok) (hG : LG ≤ 1048576) (hH : LH ≤ 1048576) (mG : Lm w PG LG gG) (mH : Lm w PH LH gH) (oG : ∀ k, k < LG → (gG k).ok) (oH : ∀ k, k < LH → (gH k).ok) :
    Calls Tryd.prog 5 #[.agg (gs14 b f q (.slice PG LG cG) (.slice PH LH cH)).toArray, .int .i64 2] w fun e w' => ∃ Gv Hv : Value, e = .returned (.agg (hdl (lst b.n) (lst f.n) (lst q.n) ++ [Gv, Hv]).toArray)
      ∧ w'.ownsRow w.heap.size 44 26 Gv LG (evs LG (lf gG)) ∧ w'.ownsRow w.heap.size 44 26 Hv LH (evs LH (lf gH)) ∧ Below w.heap.size w w' := by
  have hzv := zv81
  have HG := hidden hG
  have HH := hidden hH
  have OG := hidden oG
  have OH := hidden oH
  have nn0 : (0 : Int) ≤ (LG : Int) := by omega
  have nn1 : (0 : Int) ≤ (LH : Int) := by omega
  obtain ⟨cs, hcs⟩ : ∃ l, l = gs14 b f q (.slice PG LG cG) (.slice PH LH cH) := ⟨_, rfl⟩
  have B0 := hidden (bl_alloc2 w (.cells cs.toArray 27) (.cells zs.toArray 47))
  have M1 := hidden ((Bx1.new w cs 27).keep (bl_alloc _ (.cells zs.toArray 47)) (show w.heap.size < (w.alloc (.cells cs.toArray 27)).heap.size by simp))
  have MZ := hidden (Bx1.new (w.alloc (.cells cs.toArray 27)) zs 47)
  have LT := hidden (show w.heap.size + 1 < ((w.alloc (.cells cs.toArray 27)).alloc (.cells zs.toArray 47)).heap.size by simp)
  simp only [World.size_alloc] at MZ
  rw [← hcs]
  generalize hW : (w.alloc (.cells cs.toArray 27)).alloc (.cells zs.toArray 47) = W at B0 M1 MZ LT
  have E12 : Hid (W.cell? ⟨w.heap.size, 12, none⟩ = some (.slice PG LG cG)) := hidden (by have := M1.out.r 12 (.slice PG LG cG) (by rw [hcs]; rfl); simpa using this)
  have E13 : Hid (W.cell? ⟨w.heap.size, 13, none⟩ = some (.slice PH LH cH)) := hidden (by have := M1.out.r 13 (.slice PH LH cH) (by rw [hcs]; rfl); simpa using this)
  have MG := hidden (mG.keep B0.out)
  have MH := hidden (mH.keep B0.out)
  have HC := hidden hcs
  have I8 := hidden sinfo81
  have OB := hidden (And.intro ob (And.intro of oq))
  clear hG hH mG mH hcs oG oH ob of oq
  go_enter Tryd.func5, Tryd.ntmps5
  go_upto_region 1 with fail
  clear hW
  refine rg1_any _ w.heap.size b f q (lf gG) (lf gH) _ _ _ _ _ _ _ _ _ _ _ _ _ _ _ _ _ _ _ _ _ _ _ _ _ _ _ _ _ _ _ _ _ _ _ _ _ _ _ _ _ _ _ _ _ _ _ _ _ _ _ _ _ _ _ _ _ _ _ W (hidden ?_) OB.out.1 OB.out.2.1 OB.out.2.2 (.slice PG LG cG) (.slice PH LH cH) (by rw [← HC.out]; exact M1.out.r) (Nat.lt_of_succ_lt LT.out)
  intro s wz SE BZ
  replace SE := hidden SE
  replace BZ := hidden BZ
  go_wp2_with fail
  go_loopw [6] (fun kv w' => ∃ (k : Nat) (Gv : Value), k ≤ LG ∧ kv = .int .i64 (k : Int) ∧ Hid (Se W.heap.size w' s (lst b.n) (lst f.n) (lst q.n) (lf gG) (lf gH) k 0 Gv (.slice none 0 0)) ∧ Hid (Below W.heap.size W w')) (fun k _ => LG - (intOf k).toNat)
  case atStart => exact ⟨0, _, by omega, rfl, SE, BZ⟩
  case round =>
    clear SE BZ
    obtain ⟨k, Gv, hk, rfl, hR, hB⟩ := hrel
    have e12 := cell_keep E12.out hB.out
    by_cases hkn : k < LG
    · have k0 : (0 : Int) ≤ (k : Int) := by omega
      have k1 : (k : Int) < (LG : Int) := by omega
      have w9 : IntKind.i64.wrap ((k : Int) + 1) = (k : Int) + 1 := IntWalk.i64_in _ (by have := HG.out; omega)
      go_upto_region 5 with fail
      obtain ⟨sb, so, h1, h2⟩ := MG.out
      obtain rfl := h1 (by omega)
      refine rf5_any _ k 0 s w.heap.size sb so LG cG (lst b.n) (lst f.n) (lst q.n) gG gH _ _ _ _ _ _ _ _ _ _ _ _ _ _ _ _ _ _ _ _ _ _ _ _ _ _ _ _ _ _ _ _ _ _ _ _ _ _ _ _ _ _ _ _ _ _ _ _ _ _ _ _ _ _ _ _ _ Gv (.slice none 0 0) W (hidden ?_) (by have := HG.out; omega) hkn (OG.out k hkn) E12.out (h2 (by omega)) wr hB.out hR.out
      intro eb Gw wv R2 B2
      replace R2 := hidden R2
      replace B2 := hidden B2
      clear hR hB h1 h2 e12
      go_wp2_with fail
      go_roundw
      case rel => exact ⟨k + 1, Gw, by omega, by go_num, R2, B2⟩
      case measure => simp [intOf]; omega
    · obtain rfl : k = LG := by omega
      have lq : ¬ (k : Int) < (k : Int) := by omega
      go_wp2_with fail
      clear e12
      go_loopw [7] (fun kv w' => ∃ (j : Nat) (Hv : Value), j ≤ LH ∧ kv = .int .i64 (j : Int) ∧ Hid (Se W.heap.size w' s (lst b.n) (lst f.n) (lst q.n) (lf gG) (lf gH) k j Gv Hv) ∧ Hid (Below W.heap.size W w')) (fun k _ => LH - (intOf k).toNat)
      case atStart => exact ⟨0, _, by omega, rfl, hR, hB⟩
      case round =>
        clear hR hB
        obtain ⟨j, Hv, hj, rfl, hR, hB⟩ := hrel
        have e13 := cell_keep E13.out hB.out
        by_cases hjn : j < LH
        · have k0 : (0 : Int) ≤ (j : Int) := by omega
          have k1 : (j : Int) < (LH : Int) := by omega
          have w9 : IntKind.i64.wrap ((j : Int) + 1) = (j : Int) + 1 := IntWalk.i64_in _ (by have := HH.out; omega)
          go_upto_region 9 with fail
          obtain ⟨sb, so, h1, h2⟩ := MH.out
          obtain rfl := h1 (by omega)
          refine rf9_any _ j k s w.heap.size sb so LH cH (lst b.n) (lst f.n) (lst q.n) gG gH _ _ _ _ _ _ _ _ _ _ _ _ _ _ _ _ _ _ _ _ _ _ _ _ _ _ _ _ _ _ _ _ _ _ _ _ _ _ _ _ _ _ _ _ _ _ _ _ _ _ _ _ _ _ _ _ _ Gv Hv W (hidden ?_) (by have := HH.out; omega) hjn (OH.out j hjn) E13.out (h2 (by omega)) wr hB.out hR.out
          intro eb Hw wv R2 B2
          replace R2 := hidden R2
          replace B2 := hidden B2
          clear hR hB h1 h2 e13
          go_wp2_with fail
          go_roundw
          case rel => exact ⟨j + 1, Hw, by omega, by go_num, R2, B2⟩
          case measure => simp [intOf]; omega
        · obtain rfl : j = LH := by omega
          have lq2 : ¬ (j : Int) < (j : Int) := by omega
          have hr := hR.out
          have O4 := hidden (hdl_one (lst b.n) (lst f.n) (lst q.n) (own_one hr.g) (own_one hr.h))
          have RG2 := hidden (range_ps hr.ps)
          have MZ2 := MZ.out.keep hB.out LT.out
          have TH := hidden (show wr.there (w.heap.size + 1) 0 (hdl (lst b.n) (lst f.n) (lst q.n) ++ [Gv, Hv]).toArray.size from MZ2.t)
          have MS := MZ2.set (ds := (hdl (lst b.n) (lst f.n) (lst q.n) ++ [Gv, Hv])) rfl
          have LD := hidden (run_loadVar_mid (P := Tryd.prog) _ (w.heap.size + 1) 0 47 (hdl (lst b.n) (lst f.n) (lst q.n) ++ [Gv, Hv]) _ MS.r Tryd.underlying47 rfl sinfo81)
          have BL := hidden (below_setCellsM (w0 := w) (w.heap.size + 1) (hdl (lst b.n) (lst f.n) (lst q.n) ++ [Gv, Hv]) 0 (bl_trans B0.out hB.out) (Nat.le_succ _))
          have QG := hidden (own_less (own_setCells hr.g LT.out (hdl (lst b.n) (lst f.n) (lst q.n) ++ [Gv, Hv])) B0.out.size)
          have QH := hidden (own_less (own_setCells hr.h LT.out (hdl (lst b.n) (lst f.n) (lst q.n) ++ [Gv, Hv])) B0.out.size)
          have US : Hid (Tryd.prog.underlying 47 = _) := hidden Tryd.underlying47
          clear hr MS MZ2 hR
          go_wp2_with (first | refine wpList_load_mid rfl 47 _ rfl s 0 (by rfl) (hdl (lst b.n) (lst f.n) (lst q.n) ++ [Gv, Hv]) _ RG2.out US.out rfl I8.out ?_ | refine wpList_store_mid rfl 47 _ _ rfl (w.heap.size + 1) 0 (hdl (lst b.n) (lst f.n) (lst q.n) ++ [Gv, Hv]).toArray (by rfl) (by rfl) TH.out I8.out O4.out ?_)
          refine bodyPost_ret (v := .agg (hdl (lst b.n) (lst f.n) (lst q.n) ++ [Gv, Hv]).toArray) (results_cellM Tryd.results5 _ _ _ _ _ (by rfl) LD.out) rfl ⟨Gv, Hv, rfl, QG.out, QH.out, BL.out⟩
end Go.Proofs.YtlijigolfggcfaaDoor
