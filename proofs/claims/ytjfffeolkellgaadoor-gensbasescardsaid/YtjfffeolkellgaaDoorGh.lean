import Derived.Test.YtjfffeolkellgaaDoorGg
namespace Go.Proofs.YtjfffeolkellgaaDoor
open Go.RowKit
set_option maxRecDepth 100000 in
set_option maxHeartbeats 8000000 in
theorem runit_any (p : Nat) (w : World) (hp : p ≤ 200) :
    Calls Tryd.prog 21 #[.int .i64 (p : Int)] w fun e w' => ∃ L : Value, e = .returned (.agg (fe L).toArray) ∧ w'.ownsRow w.heap.size 39 4 L (p + 1) (svs (p + 1) (uf p)) ∧ Below w.heap.size w w' := by
  have nn0 : (0 : Int) ≤ (p : Int) := by omega
  have w1 : IntKind.i64.wrap ((p : Int) + 1) = (p : Int) + 1 := IntWalk.i64_in _ (by omega)
  obtain ⟨i0, hi, hz0, hz1, hz2⟩ := info_parts rinfoG
  have hmk := fun w => run_make (P := Tryd.prog) w 40 39 i0 (.agg #[.int .u64 0, .int .u64 0, .int .u64 0, .int .u64 0]) (by kernel_rfl) hi hz0 .i64 .i64 ((p : Int) + 1) ((p : Int) + 1) (by omega) (Int.le_refl _) (by rw [hz2]; omega) (by omega)
  have tn : ((p : Int) + 1).toNat = p + 1 := by omega
  simp only [tn, hz1, Value.cells] at hmk
  clear tn
  have C1 := hidden rint1_any
  have lt1 : (p : Int) < (p : Int) + 1 := by omega
  have HP := hidden hp
  clear hi hz0 hz1 hz2 hp
  have MM := hidden (Bx1.new w ze 42)
  have hB0 := hidden (bl_alloc w (.cells ze.toArray 42))
  have LT := hidden (show w.heap.size < (w.alloc (.cells ze.toArray 42)).heap.size by simp)
  have SZ := hidden (show (w.alloc (.cells ze.toArray 42)).heap.size = w.heap.size + 1 by simp)
  obtain ⟨z26, hz26⟩ : ∃ z, z = ze := ⟨_, rfl⟩
  have zl : Hid (z26.length = 26) := hidden (by rw [hz26]; rfl)
  generalize hW : w.alloc (.cells ze.toArray 42) = W at MM hB0 LT SZ
  rw [← hz26] at MM
  unfold ze at hW
  clear hz26
  have R0 := hidden (Rm.made W (p + 1) 39)
  have B1 := hidden (bl_alloc W (.cells (madeCells #[.int .u64 0, .int .u64 0, .int .u64 0, .int .u64 0] ((p + 1) * 4)) 39))
  go_enter Tryd.func21, Tryd.ntmps21
  go_wp2_with (first | (go_at_call 28; refine (C1.out _).mono ?_; rintro e wa ⟨rfl, ha⟩; clear hW; have RM := R0.out.keep ha; have b0 := RM.r.c0 p (by omega); have b1 := RM.r.c1 p (by omega); have b2 := RM.r.c2 p (by omega); have b3 := RM.r.c3 p (by omega); have f0 := RM.fr (p * 4) (by omega); have f1 := RM.fr (p * 4 + 1) (by omega); have f2 := RM.fr (p * 4 + 2) (by omega); have f3 := RM.fr (p * 4 + 3) (by omega); rw [Nat.zero_add] at b0 b1 b2 b3; have RN := hidden (RM.set p (by omega) ⟨1, 0, 0, 0⟩); have BA := bl_trans B1.out ha; have BN := hidden (setS_bel (o := p * 4) (x := ⟨1, 0, 0, 0⟩) BA (Nat.le_refl _)); clear ha hmk RM BA; unfold setS at RN BN) | (go_at_call 29; refine (freeOf_any W.heap.size 0 p (p + 1) (uf p) _ HP.out RN.out.r (if_pos rfl)).mono ?_; rintro e wb ⟨L, rfl, hL, hb⟩; have BB := bl_trans BN.out hb; have MB := MM.out.keep BB LT.out; obtain ⟨gg, cp, rfl, hcp, hgb, hgl⟩ := own_shapeG hL (by omega); have GB := hidden (Nat.lt_of_lt_of_le LT.out (Nat.le_trans BN.out.size hgb)); have OO := hidden (own_less (own_setCells (own_less hL BN.out.size) LT.out (fe (.slice (some ⟨gg, 0, none⟩) (p + 1) cp))) (Nat.le_of_lt LT.out)); have BL := hidden (below_setCellsM (w0 := w) w.heap.size (fe (.slice (some ⟨gg, 0, none⟩) (p + 1) cp)) 0 (bl_trans hB0.out BB) (Nat.le_refl _)); have TH := hidden (show wb.there w.heap.size 0 (fe (.slice (some ⟨gg, 0, none⟩) (p + 1) cp)).toArray.size by have := MB.t; rw [zl.out] at this; exact this); have MS := MB.set (ds := fe (.slice (some ⟨gg, 0, none⟩) (p + 1) cp)) (by rw [zl.out]; rfl); have LD := hidden (run_loadVar_mid (P := Tryd.prog) _ w.heap.size 0 42 (fe (.slice (some ⟨gg, 0, none⟩) (p + 1) cp)) _ MS.r Tryd.underlying42 rfl einfoG); have I2 : Hid ((Tryd.prog.info? 42).map (·.size) = some (fe (.slice (some ⟨gg, 0, none⟩) (p + 1) cp)).toArray.size) := hidden einfoG; have O2 := hidden (fe_one (some ⟨gg, 0, none⟩) (p + 1) cp); clear MS MB BB hb hL b0 b1 b2 b3 f0 f1 f2 f3) | refine wpList_store_mid rfl 42 _ _ rfl w.heap.size 0 (fe (.slice (some ⟨gg, 0, none⟩) (p + 1) cp)).toArray (by rfl) (by rfl) TH.out I2.out O2.out ?_)
  refine bodyPost_ret (v := .agg (fe (.slice (some ⟨gg, 0, none⟩) (p + 1) cp)).toArray) (results_cellM Tryd.results21 _ _ _ _ _ (by rfl) LD.out) rfl ⟨_, rfl, OO.out, BL.out⟩
end Go.Proofs.YtjfffeolkellgaaDoor
