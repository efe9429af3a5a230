import Derived.Test.YtlijigolfggcfaaDoorHc
namespace Go.Proofs.YtlijigolfggcfaaDoor
open Go.RowKit
theorem zv14 (w : World) : (zeroValue 32).run Tryd.prog w = .ok (.agg zs14.toArray) w := by kernel_rfl
theorem own_keepL {w1 w2 : World} {base s n : Nat} {e : TypeId} {v : Value} {xs : List Value} (h : w1.ownsRow base e s v n xs) (hb : Below w1.heap.size w1 w2) : w2.ownsRow base e s v n xs :=
  h.kept (row := none) ⟨hb.os, hb.tape, hb.output, hb.size, fun k hk _ => hb.block k hk⟩ (none_or _)
theorem results_threeM {fn : Func} {p q r : Tmp} {ty : TypeId} (h : fn.results = #[.cell p ty, .tmp q, .tmp r]) (tmps : Array Value) (P : Program) (w : World) (a : Addr) (v x y : Value) (ha : tmps.getD p undef = .pointer (some a)) (hx : tmps.getD q undef = x) (hy : tmps.getD r undef = y) (hl : (loadVar ty a).run P w = .ok v w) :
    (results fn tmps).run P w = .ok (.tuple #[v, x, y]) w := by
  have ha' : tmps[p]?.getD undef = .pointer (some a) := by simpa using ha
  have hx' : tmps[q]?.getD undef = x := by simpa using hx
  have hy' : tmps[r]?.getD undef = y := by simpa using hy
  simp only [results, h]
  simp [Result.andThen, ha', hx', hy', asAddr, hl]
set_option maxRecDepth 100000 in
set_option maxHeartbeats 8000000 in
theorem line_any (b f q : E4) (PG PH : Option Addr) (LG cG LH cH : Nat) (gG gH : Nat → E4) (w : World) (hG : LG ≤ 1048576) (hH : LH ≤ 1048576) (mG : Lm w PG LG gG) (mH : Lm w PH LH gH) :
    Calls Tryd.prog 4 #[.agg (gs14 b f q (.slice PG LG cG) (.slice PH LH cH)).toArray] w fun e w' => ∃ g h cg ch : Nat, e = .returned (.tuple #[.agg (gs14 b f q (.slice (some ⟨g, 0, none⟩) LG cg) (.slice (some ⟨h, 0, none⟩) LH ch)).toArray, .slice (some ⟨g, 0, none⟩) (LG + 2) cg, .slice (some ⟨h, 0, none⟩) (LH + 2) ch])
      ∧ LG + 2 ≤ cg ∧ LH + 2 ≤ ch ∧ Rl w' g 0 (LG + 2) (g92 gG LG) ∧ Rl w' h 0 (LH + 2) (g92 gH LH) ∧ Below w.heap.size w w' := by
  have C1 := hidden (fun w' (hb : Below w.heap.size w w') => lines_any PG LG cG gG w' hG (mG.keep hb))
  have C2 := hidden (fun w' (hb : Below w.heap.size w w') => lines_any PH LH cH gH w' hH (mH.keep hb))
  have hzv := zv14
  obtain ⟨cs, hcs⟩ : ∃ l, l = gs14 b f q (.slice PG LG cG) (.slice PH LH cH) := ⟨_, rfl⟩
  have B0 := hidden (bl_alloc2 w (.cells cs.toArray 27) (.cells zs14.toArray 32))
  have M1 := hidden ((Bx1.new w cs 27).keep (bl_alloc _ (.cells zs14.toArray 32)) (show w.heap.size < (w.alloc (.cells cs.toArray 27)).heap.size by simp))
  have M2 := hidden (Bx1.new (w.alloc (.cells cs.toArray 27)) zs14 32)
  have SZ := hidden (show w.heap.size + 1 < ((w.alloc (.cells cs.toArray 27)).alloc (.cells zs14.toArray 32)).heap.size by simp)
  simp only [World.size_alloc] at M2
  rw [← hcs]
  generalize hW : (w.alloc (.cells cs.toArray 27)).alloc (.cells zs14.toArray 32) = W at B0 M1 M2 SZ
  have e12 : W.cell? ⟨w.heap.size, 12, none⟩ = some (.slice PG LG cG) := by have := M1.out.r 12 (.slice PG LG cG) (by rw [hcs]; rfl); simpa using this
  have HC := hidden hcs
  clear hG hH mG mH hcs
  go_enter Tryd.func4, Tryd.ntmps4
  go_upto_region 3 with (first
    | (go_at_call 13; refine (C1.out _ B0.out).mono ?_; rintro e w1 ⟨v1, rfl, o1, hb1⟩; obtain ⟨g, cg, rfl, hcg, _, _⟩ := own_shapeG o1 (by omega); have O1 := hidden o1; have HB1 := hidden hb1; have e13 : w1.cell? ⟨w.heap.size, 13, none⟩ = some (.slice PH LH cH) := cell_keep (by have := M1.out.r 13 (.slice PH LH cH) (by rw [HC.out]; rfl); simpa using this) hb1; clear o1 hb1 C1)
    | (go_at_call 13; refine (C2.out _ (bl_trans B0.out HB1.out)).mono ?_; rintro e w2 ⟨v2, rfl, o2, hb2⟩; obtain ⟨h, ch, rfl, hch, _, _⟩ := own_shapeG o2 (by omega); have O2 := hidden o2; have HB2 := hidden hb2; clear o2 hb2 C2))
  have BW := bl_trans HB1.out HB2.out
  have K1 := M1.out.keep BW (Nat.lt_of_succ_lt SZ.out)
  have K2 := M2.out.keep BW SZ.out
  have r1 : w2.rangeAt w.heap.size 0 (gs14 b f q (.slice PG LG cG) (.slice PH LH cH)) := by rw [← HC.out]; exact K1.r
  refine gl3 _ w.heap.size (w.heap.size + 1) g h cg ch LG cG LH cH PG PH b f q _ _ _ _ _ _ _ _ _ _ _ _ _ _ _ _ _ _ _ _ _ _ _ _ _ _ _ _ _ _ _ w2 (by omega) (by omega) (by omega) r1 K2.t (hidden ?_)
  have MS := (show Bx1 w2.drew (w.heap.size + 1) zs14 from K2.keep (drew_blW w2) (Nat.lt_of_lt_of_le SZ.out BW.size)).set (ds := gs14 b f q (.slice (some ⟨g, 0, none⟩) LG cg) (.slice (some ⟨h, 0, none⟩) LH ch)) rfl
  have LD := hidden (run_loadVar_mid (P := Tryd.prog) _ (w.heap.size + 1) 0 32 (gs14 b f q (.slice (some ⟨g, 0, none⟩) LG cg) (.slice (some ⟨h, 0, none⟩) LH ch)) _ MS.r Tryd.underlying32 rfl info14)
  have BL := hidden (below_setCellsM (w0 := w) (w.heap.size + 1) (gs14 b f q (.slice (some ⟨g, 0, none⟩) LG cg) (.slice (some ⟨h, 0, none⟩) LH ch)) 0 (bl_trans B0.out (bl_trans BW (drew_blW w2))) (Nat.le_succ _))
  have A1 := hidden (own_rl (own_setCells (own_keepL (own_keepL O1.out HB2.out) (drew_blW w2)) SZ.out (gs14 b f q (.slice (some ⟨g, 0, none⟩) LG cg) (.slice (some ⟨h, 0, none⟩) LH ch))))
  have A2 := hidden (own_rl (own_setCells (own_keepL O2.out (drew_blW w2)) (Nat.lt_of_lt_of_le SZ.out HB1.out.size) (gs14 b f q (.slice (some ⟨g, 0, none⟩) LG cg) (.slice (some ⟨h, 0, none⟩) LH ch))))
  clear MS K1 K2 BW r1 M1 M2
  go_wp2_with fail
  refine bodyPost_ret (v := .tuple #[.agg (gs14 b f q (.slice (some ⟨g, 0, none⟩) LG cg) (.slice (some ⟨h, 0, none⟩) LH ch)).toArray, .slice (some ⟨g, 0, none⟩) (LG + 2) cg, .slice (some ⟨h, 0, none⟩) (LH + 2) ch]) (results_threeM Tryd.results4 _ _ _ _ _ _ _ (by rfl) (by rfl) (by rfl) LD.out) rfl ⟨g, h, cg, ch, rfl, hcg, hch, A1.out, A2.out, BL.out⟩
end Go.Proofs.YtlijigolfggcfaaDoor
