import Derived.Test.YtlijigolfggcfaaDoorGf
namespace Go.Proofs.YtlijigolfggcfaaDoor
open Go.RowKit
set_option maxRecDepth 100000 in
set_option maxHeartbeats 4000000 in
theorem rzero1 (w : World) : Calls Tryd.prog 25 #[.agg #[.int .u64 1, .int .u64 0, .int .u64 0, .int .u64 0]] w fun e w' => e = .returned (.bool false) ∧ Below w.heap.size w w' := by
  have hq := fun w => eq4r ⟨1, 0, 0, 0⟩ ⟨0, 0, 0, 0⟩ w
  simp only [E4.v] at hq
  have hs : E4.same ⟨1, 0, 0, 0⟩ ⟨0, 0, 0, 0⟩ = false := rfl
  rw [hs] at hq
  go_enter Tryd.func25, Tryd.ntmps25
  go_wp2_with fail
  refine bodyPost_ret (v := .bool false) (by simp [results, Tryd.results25, go_sem]) rfl ⟨rfl, bl_alloc w _⟩
theorem svs_cell4 (a : E4) : ∀ u ∈ [Value.int .u64 a.x0, .int .u64 a.x1, .int .u64 a.x2, .int .u64 a.x3], u.oneCell' = true := by simp [Value.oneCell']
theorem range_keepB {w w' : World} {b m : Nat} {cs : List Value} (h : w.rangeAt b 0 cs) (hb : Below m w w') (hm : b < m) : w'.rangeAt b 0 cs := fun j v hv => (hb.cell (p := ⟨b, 0 + j, none⟩) hm).trans (h j v hv)
theorem there_keepB {w w' : World} {b n m : Nat} (h : w.there b 0 n) (hb : Below m w w') (hm : b < m) : w'.there b 0 n := fun j hj => by
  obtain ⟨h1, h2⟩ := h j hj
  exact ⟨by rw [hb.cell (p := ⟨b, 0 + j, none⟩) hm]; exact h1, by rw [hb.frozen (p := ⟨b, 0 + j, none⟩) hm]; exact h2⟩
/-- a block of its own, that may be written -/
structure Bx1 (w : World) (b : Nat) (cs : List Value) : Prop where
  r : w.rangeAt b 0 cs
  t : w.there b 0 cs.length
theorem Bx1.keep {w w' : World} {b m : Nat} {cs : List Value} (h : Bx1 w b cs) (hb : Below m w w') (hm : b < m) : Bx1 w' b cs := ⟨range_keepB h.r hb hm, there_keepB h.t hb hm⟩
theorem Bx1.new (w : World) (cs : List Value) (t : TypeId) : Bx1 (w.alloc (.cells cs.toArray t)) w.heap.size cs := ⟨range_newM w cs t, there_newM w cs t⟩
theorem Bx1.set {w : World} {b : Nat} {cs ds : List Value} (h : Bx1 w b cs) (hl : ds.length = cs.length) : Bx1 (w.setCells b 0 ds) b ds := by
  have ht : w.there b 0 ds.length := by rw [hl]; exact h.t
  exact ⟨World.rangeAt_setCells_same w b 0 ds ht, there_setM ht _ _⟩
theorem own_less {w : World} {B C s n : Nat} {e : TypeId} {v : Value} {xs : List Value} (h : w.ownsRow B e s v n xs) (hc : C ≤ B) : w.ownsRow C e s v n xs := by
  refine ⟨h.1, ?_⟩
  rcases h.2 with h0 | ⟨g, cap, cur, h1, hB, h3⟩
  · exact .inl h0
  · exact .inr ⟨g, cap, cur, h1, Nat.le_trans hc hB, h3⟩
theorem own_shapeG {w : World} {base n s : Nat} {e : TypeId} {v : Value} {xs : List Value} (h : w.ownsRow base e s v n xs) (hn : 0 < n) : ∃ g c : Nat, v = .slice (some ⟨g, 0, none⟩) n c ∧ n ≤ c ∧ base ≤ g ∧ g < w.heap.size := by
  have hl := h.lt
  rcases h.2 with ⟨_, h0⟩ | ⟨g, cap, cur, rfl, hB, _, hnc, _⟩
  · omega
  · exact ⟨g, cap, rfl, hnc, hB, (hl g rfl).2⟩
theorem own_setCells {w : World} {base n s b : Nat} {e : TypeId} {v : Value} {xs : List Value} (h : w.ownsRow base e s v n xs) (hb : b < base) (ds : List Value) : (w.setCells b 0 ds).ownsRow base e s v n xs := by
  suffices H : ∀ (ds : List Value) (o : Nat) (w : World), w.ownsRow base e s v n xs → (w.setCells b o ds).ownsRow base e s v n xs from H ds 0 w h
  intro ds
  induction ds with
  | nil => intro o w h; exact h
  | cons d ds ih =>
    intro o w h
    rw [World.setCells]
    exact ih (o + 1) _ (ownsRow_setCell_below h (a := ⟨b, o, none⟩) hb d)
set_option maxRecDepth 100000 in
set_option maxHeartbeats 8000000 in
theorem freeOf_any (sb so p cap : Nat) (g : Nat → E4) (w : World) (hp : p ≤ 200) (hr : Rl w sb so (p + 1) g) (hg : g p = ⟨1, 0, 0, 0⟩) :
    Calls Tryd.prog 20 #[.slice (some ⟨sb, so, none⟩) (p + 1) cap] w fun e w' => ∃ L : Value, e = .returned (.agg (fe L).toArray) ∧ w'.ownsRow w.heap.size 41 4 L (p + 1) (svs (p + 1) g) ∧ Below w.heap.size w w' := by
  have HR := hidden hr
  have HP := hidden hp
  have HG := hidden hg
  have Z1 := hidden rzero1
  have nn0 : (0 : Int) < (p : Int) + 1 := by omega
  have nn1 : (p : Int) + 1 > 0 := by omega
  have w1 : IntKind.i64.wrap ((p : Int) + 1 - 1) = (p : Int) := by rw [IntWalk.i64_in _ (by omega)]; omega
  have w2 : IntKind.i64.wrap (p : Int) = (p : Int) := IntWalk.i64_in _ (by omega)
  have p0 : (0 : Int) ≤ (p : Int) := by omega
  have p1 : (p : Int) < (p : Int) + 1 := by omega
  have MM := hidden (Bx1.new w ze 44)
  have hB0 := hidden (bl_alloc w (.cells ze.toArray 44))
  have x0 := (hr.keep hB0.out).c0 p (by omega); have x1 := (hr.keep hB0.out).c1 p (by omega); have x2 := (hr.keep hB0.out).c2 p (by omega); have x3 := (hr.keep hB0.out).c3 p (by omega)
  rw [hg] at x0 x1 x2 x3
  obtain ⟨i0, hi, hz0, hz1, hz2⟩ := info_parts rinfoG
  have HI := hidden hi
  have HZ0 := hidden hz0
  have HZ1 := hidden hz1
  have HZ2 := hidden hz2
  have HU : Hid (Tryd.prog.underlying 42 = some (.slice 41)) := hidden (by kernel_rfl)
  clear hr hg hp hi hz0 hz1 hz2
  obtain ⟨z26, hz26⟩ : ∃ z, z = ze := ⟨_, rfl⟩
  have zl : Hid (z26.length = 26) := hidden (by rw [hz26]; rfl)
  have LT := hidden (show w.heap.size < (w.alloc (.cells ze.toArray 44)).heap.size by simp)
  generalize hW : w.alloc (.cells ze.toArray 44) = W at x0 x1 x2 x3 MM hB0 LT
  rw [← hz26] at MM
  unfold ze at hW
  clear hz26
  go_enter Tryd.func20, Tryd.ntmps20
  go_wp2_with fail
  clear hW
  go_loopw [3] (fun nv w' => w' = W ∧ nv = .int .i64 ((p : Int) + 1)) (fun _ _ => 0)
  case atStart => exact ⟨rfl, rfl⟩
  case round =>
    obtain ⟨rfl, rfl⟩ := hrel
    go_wp2_with (first | (go_at_call 25; refine (Z1.out _).mono ?_; rintro e wa ⟨rfl, ha⟩; have MA := hidden (MM.out.keep ha LT.out); have BA := hidden (bl_trans hB0.out ha); have LA := hidden (Nat.lt_of_lt_of_le LT.out ha.size); clear ha MM hB0 LT x0 x1 x2 x3))
    go_loopw [4, 5] (fun cv kv w' => ∃ k : Nat, k ≤ p + 1 ∧ kv = .int .i64 (k : Int) ∧ Hid (w'.ownsRow (w.heap.size + 1) 41 4 cv k (svs k g)) ∧ Hid (Bx1 w' w.heap.size z26) ∧ Hid (Below w.heap.size w w') ∧ Hid (w.heap.size < w'.heap.size)) (fun _ k _ => p + 1 - (intOf k).toNat)
    case atStart => exact ⟨0, by omega, rfl, hidden (World.ownsRow_nil _ _ _ _), MA, BA, LA⟩
    case round =>
      clear MA BA LA
      obtain ⟨k, hk, rfl, hO, hM, hB, hL⟩ := hrel
      by_cases hkn : k < p + 1
      · have k0 : (0 : Int) ≤ (k : Int) := by omega
        have k1 : (k : Int) < (p : Int) + 1 := by omega
        have w9 : IntKind.i64.wrap ((k : Int) + 1) = (k : Int) + 1 := IntWalk.i64_in _ (by have := HP.out; omega)
        have rx := HR.out.keep hB.out
        have x0 := rx.c0 k hkn; have x1 := rx.c1 k hkn; have x2 := rx.c2 k hkn; have x3 := rx.c3 k hkn
        have NX := svs_succ k g
        generalize g k = a at x0 x1 x2 x3 NX
        clear rx
        go_wp2_with (first | (at_builtin; refine wpList_append_own_at _ rfl _ _ 42 rfl (w.heap.size + 1) 41 i0 (.agg #[.int .u64 0, .int .u64 0, .int .u64 0, .int .u64 0]) 4 32 HU.out HI.out HZ0.out HZ1.out HZ2.out rfl (by decide) _ k (svs k g) rfl (hO.out.alloc (.cells #[.int .u64 a.x0, .int .u64 a.x1, .int .u64 a.x2, .int .u64 a.x3] 41)) ⟨wr.heap.size, 0, none⟩ 1 1 [.int .u64 a.x0, .int .u64 a.x1, .int .u64 a.x2, .int .u64 a.x3] rfl rfl (cells_new wr [.int .u64 a.x0, .int .u64 a.x1, .int .u64 a.x2, .int .u64 a.x3] 41) (svs_cell4 a) (by have := HP.out; unfold maxLen; omega) (by have := HP.out; omega) (by have := hL.out; simp; omega) ?_; intro v4 w4 how4 hgr4 hnil4 hat4; have HO4 := hidden how4; have GB := below_grown (base := w.heap.size + 1) hgr4 (by have := hL.out; simp; omega) (fun k hk => ((hO.out.alloc (.cells #[.int .u64 a.x0, .int .u64 a.x1, .int .u64 a.x2, .int .u64 a.x3] 41)).lt k hk).1); have M4 := hidden ((hM.out.keep (bl_alloc wr (.cells #[.int .u64 a.x0, .int .u64 a.x1, .int .u64 a.x2, .int .u64 a.x3] 41)) hL.out).keep GB (Nat.lt_succ_self _)); have B4 := hidden (below_trans (bl_trans hB.out (bl_alloc wr (.cells #[.int .u64 a.x0, .int .u64 a.x1, .int .u64 a.x2, .int .u64 a.x3] 41))) (below_less GB (Nat.le_succ _))); have L4 := hidden (show w.heap.size < w4.heap.size from Nat.lt_of_lt_of_le (Nat.lt_of_lt_of_le hL.out (by simp)) GB.size); clear how4 hgr4 hnil4 hat4 GB))
        go_roundw
        case rel => exact ⟨k + 1, by omega, by go_num, hidden (by rw [NX]; exact HO4.out), M4, B4, L4⟩
        case measure => simp [intOf]; omega
      · obtain rfl : k = p + 1 := by omega
        obtain ⟨gg, cp, rfl, hcp, hgb, hgl⟩ := own_shapeG hO.out (by omega)
        have TH := hidden (show wr.there w.heap.size 0 (fe (.slice (some ⟨gg, 0, none⟩) (p + 1) cp)).toArray.size by have := hM.out.t; rw [zl.out] at this; exact this)
        have MS := hM.out.set (ds := fe (.slice (some ⟨gg, 0, none⟩) (p + 1) cp)) (by rw [zl.out]; rfl)
        have LD := hidden (run_loadVar_mid (P := Tryd.prog) _ w.heap.size 0 44 (fe (.slice (some ⟨gg, 0, none⟩) (p + 1) cp)) _ MS.r Tryd.underlying44 rfl einfoG)
        have OO := hidden (own_less (own_setCells hO.out (Nat.lt_succ_self _) (fe (.slice (some ⟨gg, 0, none⟩) (p + 1) cp))) (Nat.le_succ _))
        have BL := hidden (below_setCellsM (w0 := w) w.heap.size (fe (.slice (some ⟨gg, 0, none⟩) (p + 1) cp)) 0 hB.out (Nat.le_refl _))
        have I2 : Hid ((Tryd.prog.info? 44).map (·.size) = some (fe (.slice (some ⟨gg, 0, none⟩) (p + 1) cp)).toArray.size) := hidden einfoG
        have O2 := hidden (fe_one (some ⟨gg, 0, none⟩) (p + 1) cp)
        clear MS hO hM hB hL
        go_wp2_with (first | refine wpList_buildC rfl 44 _ rfl (fe (.slice (some ⟨gg, 0, none⟩) (p + 1) cp)).toArray (by kernel_rfl) ?_ | refine wpList_store_mid rfl 44 _ _ rfl w.heap.size 0 (fe (.slice (some ⟨gg, 0, none⟩) (p + 1) cp)).toArray (by rfl) (by rfl) TH.out I2.out O2.out ?_)
        refine bodyPost_ret (v := .agg (fe (.slice (some ⟨gg, 0, none⟩) (p + 1) cp)).toArray) (results_cellM Tryd.results20 _ _ _ _ _ (by rfl) LD.out) rfl ⟨_, rfl, OO.out, BL.out⟩
end Go.Proofs.YtlijigolfggcfaaDoor
