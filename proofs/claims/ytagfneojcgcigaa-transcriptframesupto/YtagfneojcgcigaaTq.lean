import Derived.Test.YtagfneojcgcigaaTp
namespace Go.Proofs.Ytagfneojcgcigaa
open Go.RowKit
theorem Hd.pt {w : World} {base : Nat} {vF : Value} {gH k M cH : Nat} {x : Value} {n : Nat → Nat} {r : Nat → List UInt8} {f cp : Nat → Nat} {ps : List (List UInt8)} (h : Hd w base vF (.slice (some ⟨gH, 0, none⟩) M cH) k k k [x] n r f cp) (hM : M = k + 1) (hk : ps.length = k) (hn : ∀ i, i < k → (ps.getD i []).length = n i) (hr : ∀ i, i < k → r i = ps.getD i [] ++ mk8) : Pt w (some ⟨gH, 0, none⟩) ps (fun i => some ⟨f i, 0, none⟩) cp := by
  subst hM
  refine ⟨fun _ => ⟨gH, 0, rfl, fun i hi => ?_⟩, fun i hi => ?_⟩
  · have h9 := h.head
    rw [Nat.zero_add, World.ownsRow.cellAt (n := k + 1) h9 i (by omega), List.getElem?_append_left (by rw [shd_len]; omega), shd_at _ _ _ _ _ (by omega), hn i (by omega)]
  · have h9 := own_by' (h.row i (by omega))
    rw [hr i (by omega)] at h9
    exact h9.less _ ⟨mk8, rfl⟩
theorem xr_parts (ps : List (List UInt8)) : (ps.map xr).length = ps.length ∧ (∀ i, i < ps.length → (ps.map xr).getD i [] = xr (ps.getD i [])) ∧ ((ps.map xr).map fun p => 8 + p.length).sum = (ps.map fun p => 8 + p.length).sum := by
  refine ⟨List.length_map _, fun i hi => by simp [List.getElem?_eq_getElem hi], ?_⟩
  rw [List.map_map]
  congr 1
  refine List.map_congr_left fun p _ => ?_
  simp [xr_len]
/-- "another" and "part" -/
def anoL : List UInt8 := [97, 110, 111, 116, 104, 101, 114]
def parL : List UInt8 := [112, 97, 114, 116]
/-- the bytes behind -/
def tl (i : Nat) : List UInt8 := (List.range i).map fun k => UInt8.ofNat (100 + k)
theorem tl_len (i : Nat) : (tl i).length = i := by simp [tl]
theorem tl_succ (i : Nat) : tl (i + 1) = tl i ++ [UInt8.ofNat (100 + i)] := by simp [tl, List.range_succ]
theorem tl_at (xs : List UInt8) (n i k : Nat) (hx : xs.length = n) (hi : i < k) : (xs ++ tl k).getD (n + i) 0 = UInt8.ofNat (100 + i) := by
  rw [List.getD_eq_getElem?_getD, List.getElem?_append_right (by omega), show n + i - xs.length = i by omega]
  simp [tl, List.getElem?_range hi]
theorem tl_byte (i : Nat) (h : i < 64) : ((UInt8.ofNat (100 + i)).toNat : Int) = 100 + (i : Int) := by
  rw [UInt8.toNat_ofNat']
  omega
theorem info8 : (Try.prog.info? 5).map (fun i => (i.zero, i.size, i.bytes)) = some (some (.int .u8 0), 1, 1) := by kernel_rfl
theorem own_turn {w : World} {base g n c : Nat} {bs : List UInt8} (h : w.ownsRow base 5 1 (.slice (some ⟨g, 0, none⟩) n c) n (cb bs)) (j : Nat) (b : UInt8) : (w.setCell ⟨g, j, none⟩ (.int .u8 (b.toNat : Int))).ownsRow base 5 1 (.slice (some ⟨g, 0, none⟩) n c) n (cb (bs.set j b)) := by
  have := (h.stored j (.int .u8 (b.toNat : Int))).1
  rw [cb_set] at this
  exact this
theorem own_else {w : World} {base n : Nat} {e : TypeId} {v : Value} {xs : List Value} (h : w.ownsRow base e 1 v n xs) {g : Nat} (hg : v.ownBlock ≠ some g) (j : Nat) (u : Value) : (w.setCell ⟨g, j, none⟩ u).ownsRow base e 1 v n xs :=
  own_blk h (fun k hk => set_ne w g j k u (fun e => hg (e ▸ hk)))
theorem own_at {w : World} {base g n c : Nat} {bs : List UInt8} (h : w.ownsRow base 5 1 (.slice (some ⟨g, 0, none⟩) n c) n (cb bs)) (hl : bs.length = n) (j : Nat) (hj : j < n) : w.cell? ⟨g, j, none⟩ = some (.int .u8 ((bs.getD j 0).toNat : Int)) := by
  rw [h.cellAt j (by omega), cb_at bs j (by omega)]
  simp [List.getElem?_eq_getElem (show j < bs.length by omega)]
theorem frame_n (l : List UInt8) (ps : List (List UInt8)) (n : Nat) (hn : n = ps.length) (P : Option Addr) (cap : Nat) (q : Nat → Option Addr) (c : Nat → Nat) (w : World) (hP : Pt w P ps q c) (hs : frl l ps ≤ 2 ^ 40) :
    Calls Try.prog 5 #[.string (sb l), .slice P n cap] w fun e w' => ∃ v, e = .returned v ∧ w'.ownsRow w.heap.size 5 1 v (fr l ps).length (cb (fr l ps)) ∧ Below w.heap.size w w' := by
  subst hn
  exact frame_any l ps P cap q c w hP hs
theorem rframe_n (l : List UInt8) (ps : List (List UInt8)) (n : Nat) (hn : n = ps.length) (P : Option Addr) (cap : Nat) (q : Nat → Option Addr) (c : Nat → Nat) (w : World) (hP : Pt w P ps q c) (hs : frl l ps ≤ 2 ^ 40) :
    Calls Try.prog 8 #[.string (sb l), .slice P n cap] w fun e w' => ∃ v, e = .returned v ∧ w'.ownsRow w.heap.size 5 1 v (fr l ps).length (cb (fr l ps)) ∧ Below w.heap.size w w' := by
  subst hn
  exact rframe_any l ps P cap q c w hP hs
theorem pt_one (w : World) (p : List UInt8) (m : Nat × Nat) (c : Nat) : Pt ((w.alloc (.cells (cb p).toArray 5 m)).alloc (.cells #[.slice (some ⟨w.heap.size, 0, none⟩) p.length c] 23)) (some ⟨(w.alloc (.cells (cb p).toArray 5 m)).heap.size, 0, none⟩) [p] (fun _ => some ⟨w.heap.size, 0, none⟩) (fun _ => c) := by
  refine ⟨fun _ => ⟨_, 0, rfl, fun i hi => ?_⟩, fun i hi => ?_⟩
  · obtain rfl : i = 0 := by simpa using hi
    have := cells_new (w.alloc (.cells (cb p).toArray 5 m)) [.slice (some ⟨w.heap.size, 0, none⟩) p.length c] 23 0 _ rfl
    rw [Addr.add_lit] at this
    exact this
  · obtain rfl : i = 0 := by simpa using hi
    refine By.keep (w := w.alloc (.cells (cb p).toArray 5 m)) ⟨fun h => (by cases h), fun a ha => ?_⟩ (bl_alloc _ _)
    obtain rfl := Option.some.inj ha
    exact mark_new w (cb p) _ _
set_option maxRecDepth 100000 in
set_option maxHeartbeats 32000000 in
theorem frames_any (l : List UInt8) (ps : List (List UInt8)) (P : Option Addr) (cap : Nat) (q : Nat → Option Addr) (c : Nat → Nat) (w : World) (hP : Pt w P ps q c) (hs : frl l ps ≤ 2 ^ 40) :
    Calls Try.prog 4 #[.string (sb l), .slice P ps.length cap] w fun e w' => e = .returned (.bool true) ∧ Below w.heap.size w w' := by
  have HP := hidden hP
  have HS := hidden hs
  have HS0 : Hid (frl [] ps ≤ 2 ^ 40) := hidden (by unfold frl at hs ⊢; simp only [List.length_nil]; omega)
  have HSX : Hid (frl l (ps.map xr) ≤ 2 ^ 40) := hidden (by unfold frl at hs ⊢; rw [(xr_parts ps).2.2]; exact hs)
  clear hP hs
  go_enter Try.func4, Try.ntmps4
  go_upto_region 2 with (first | (go_at_call 7; refine (hand_any ps P cap q c w HP.out HS0.out).mono ?_; rintro e w1 ⟨vF, vH, fm, cm, f, cp, rfl, hH, hM, hfm, hB⟩; obtain ⟨PF, cF, rfl⟩ := own_shape hH.full; obtain ⟨gH, cH, rfl, hcH⟩ := own_some hH.head (Nat.succ_pos _); have HH := hidden hH; have HM := hidden hM; have HB := hidden hB; have HCH : Hid (ps.length + 1 ≤ cH) := hidden hcH; clear hH hM hfm hB hcH))
  have HX : Hid (B2 (w1.alloc (.cells #[.slice PF ps.length cF, .slice (some ⟨gH, 0, none⟩) (ps.length + 1) cH] 27)) w1.heap.size 27 (.slice PF ps.length cF) (.slice (some ⟨gH, 0, none⟩) (ps.length + 1) cH)) := hidden (heap_alloc_new w1 _)
  replace HB := hidden (bl_trans HB.out (bl_alloc w1 (.cells #[.slice PF ps.length cF, .slice (some ⟨gH, 0, none⟩) (ps.length + 1) cH] 27)))
  have HLF := hidden (fun j hj => (HH.out.full.lt j hj).2)
  have HLH := hidden (fun j hj => (HH.out.head.lt j hj).2)
  have HFT : Hid (∀ t, t < ps.length → w.heap.size ≤ f t ∧ f t < w1.heap.size) := hidden (fun t ht => (HH.out.row t ht).lt (f t) rfl)
  replace HH := hidden (HH.out.stay (bl_alloc w1 (.cells #[.slice PF ps.length cF, .slice (some ⟨gH, 0, none⟩) (ps.length + 1) cH] 27)))
  replace HM := hidden (HM.out.keep (bl_alloc w1 (.cells #[.slice PF ps.length cF, .slice (some ⟨gH, 0, none⟩) (ps.length + 1) cH] 27)))
  generalize w1.alloc (.cells #[.slice PF ps.length cF, .slice (some ⟨gH, 0, none⟩) (ps.length + 1) cH] 27) = w2 at HX HB HH HM ⊢
  obtain ⟨N, hN⟩ : ∃ N, w1.heap.size = N := ⟨_, rfl⟩
  rw [hN] at HX HFT HLF HLH
  rw [hN]
  clear hN
  have HWN : Hid (w.heap.size ≤ w2.heap.size) := hidden HB.out.size
  go_upto_region 3 with (first | (go_at_call 8; refine (rframe_any l ps P cap q c _ (HP.out.keep HB.out) HS.out).mono ?_; rintro e w3 ⟨v3, rfl, ho, hb⟩; have CV := own_conv ho; replace HX := hidden (HX.out.keep hb HX.out.lt); replace HH := hidden (HH.out.stay hb); replace HB := hidden (bl_trans HB.out hb); replace HM := hidden (HM.out.keep hb); clear ho hb))
  clear CV
  have y0 := HX.out.c0
  have y1 := HX.out.c1
  go_upto_region 4 with (first | (go_at_call 9; refine (given_any PF ps.length cF gH cH _ HCH.out).mono ?_; rintro e wg ⟨rfl, hb⟩; replace HX := hidden (HX.out.keep hb HX.out.lt); replace HH := hidden (HH.out.stay hb); replace HB := hidden (bl_trans HB.out hb); replace HM := hidden (HM.out.keep hb); clear hb) | (go_at_call 5; refine (frame_any l ps (some ⟨gH, 0, none⟩) cH (fun i => some ⟨f i, 0, none⟩) cp _ (HH.out.pt rfl rfl (fun _ _ => rfl) (fun _ _ => rfl)) HS.out).mono ?_; rintro e wf ⟨va, rfl, ho, hb⟩; obtain ⟨ga, ca, rfl, hca⟩ := own_some ho (by have := fr_big l ps; omega); have HGa : Hid (N < ga) := hidden (by have := (ho.lt ga rfl).1; have := HX.out.lt; omega); have HA := hidden (own_base ho (b := w.heap.size) HB.out.size); replace HX := hidden (HX.out.keep hb HX.out.lt); replace HH := hidden (HH.out.stay hb); replace HB := hidden (bl_trans HB.out hb); replace HM := hidden (HM.out.keep hb); clear ho hb))
  clear y0 y1
  obtain ⟨w6, hw6⟩ : ∃ w6, wf = w6 := ⟨_, rfl⟩
  subst hw6
  have kc : (convert 23 23 (.slice (some ⟨wf.heap.size, 0, none⟩) 4 4)).run Try.prog (wf.alloc (.cells #[.int .u8 112, .int .u8 97, .int .u8 114, .int .u8 116] 5)) = .ok (.slice (some ⟨wf.heap.size, 0, none⟩) 4 4) (wf.alloc (.cells (cb parL).toArray 5 (4, 5))) := Lib.run_convert_bytes_const (P := Try.prog) wf 23 5 _ 4 4 (by kernel_rfl) (by kernel_rfl)
  have PQ : Hid (Pt ((wf.alloc (.cells (cb parL).toArray 5 (4, 5))).alloc (.cells #[.slice (some ⟨wf.heap.size, 0, none⟩) 4 4] 23)) (some ⟨(wf.alloc (.cells (cb parL).toArray 5 (4, 5))).heap.size, 0, none⟩) [parL] (fun _ => some ⟨wf.heap.size, 0, none⟩) (fun _ => 4)) := hidden (pt_one wf parL (4, 5) 4)
  have BQ : Hid (Below wf.heap.size wf ((wf.alloc (.cells (cb parL).toArray 5 (4, 5))).alloc (.cells #[.slice (some ⟨wf.heap.size, 0, none⟩) 4 4] 23))) := hidden (bl_trans (bl_alloc wf _) (bl_alloc _ _))
  obtain ⟨wp1, hwp1⟩ : ∃ wp, wp = (wf.alloc (.cells (cb parL).toArray 5 (4, 5))) := ⟨_, rfl⟩
  rw [← hwp1] at kc PQ BQ
  clear hwp1
  go_upto_region 5 with (first | (go_at_call 5; refine (frame_any anoL [parL] _ 1 _ _ _ PQ.out (by decide)).mono ?_; rintro e w7 ⟨vo, rfl, ho, hb⟩; obtain ⟨go, co, rfl, hco⟩ := own_some ho (by have := fr_big anoL [parL]; omega); have HGo : Hid (ga < go) := hidden (by have := (HA.out.lt ga rfl).2; have := (ho.lt go rfl).1; have := BQ.out.size; omega); have HO := hidden (own_base ho (b := w.heap.size) (Nat.le_trans HB.out.size BQ.out.size)); replace HX := hidden (HX.out.keep (bl_trans BQ.out hb) HX.out.lt); replace HH := hidden (HH.out.stay (bl_trans BQ.out hb)); replace HB := hidden (bl_trans HB.out (bl_trans BQ.out hb)); replace HA := hidden (own_stay HA.out (bl_trans BQ.out hb)); replace HM := hidden (HM.out.keep (bl_trans BQ.out hb)); clear ho hb))
  clear kc PQ BQ
  have y0 := HX.out.c0
  have y1 := HX.out.c1
  go_upto_region 6 with (first | (go_at_call 9; refine (given_any PF ps.length cF gH cH _ HCH.out).mono ?_; rintro e wg ⟨rfl, hb⟩; replace HX := hidden (HX.out.keep hb HX.out.lt); replace HH := hidden (HH.out.stay hb); replace HB := hidden (bl_trans HB.out hb); replace HA := hidden (own_stay HA.out hb); replace HO := hidden (own_stay HO.out hb); replace HM := hidden (HM.out.keep hb); clear hb) | (go_at_call 5; refine (frame_any l ps (some ⟨gH, 0, none⟩) cH (fun i => some ⟨f i, 0, none⟩) cp _ (HH.out.pt rfl rfl (fun _ _ => rfl) (fun _ _ => rfl)) HS.out).mono ?_; rintro e wf ⟨vb, rfl, ho, hb⟩; obtain ⟨gb, c_b, rfl, hcb⟩ := own_some ho (by have := fr_big l ps; omega); have HGb : Hid (go < gb) := hidden (by have := (HA.out.lt ga rfl).2; have := (HO.out.lt go rfl).2; have := (ho.lt gb rfl).1; have := HX.out.lt; omega); have HE := hidden (own_base ho (b := w.heap.size) HB.out.size); replace HX := hidden (HX.out.keep hb HX.out.lt); replace HH := hidden (HH.out.stay hb); replace HB := hidden (bl_trans HB.out hb); replace HA := hidden (own_stay HA.out hb); replace HO := hidden (own_stay HO.out hb); replace HM := hidden (HM.out.keep hb); clear ho hb))
  clear y0 y1
  have y0 := HX.out.c0
  have y1 := HX.out.c1
  go_upto_region 8 with (first | (go_at_call 10; refine (left_any ps P cap q c _ (HP.out.keep HB.out) HS0.out w.heap.size PF cF gH cH fm cm f cp HH.out HM.out).mono ?_; rintro e w8 ⟨rfl, hb⟩; replace HX := hidden (HX.out.keep hb HX.out.lt); replace HH := hidden (HH.out.stay hb); replace HB := hidden (bl_trans HB.out hb); replace HA := hidden (own_stay HA.out hb); replace HO := hidden (own_stay HO.out hb); replace HE := hidden (own_stay HE.out hb); clear hb))
  clear y0 y1 HM
  have y0 := HX.out.c0
  have y1 := HX.out.c1
  go_upto_region 9 with (first | (go_at_call 11; refine (turned_any ps _ HS0.out w.heap.size HB.out.size PF cF gH cH _ f cp HH.out).mono ?_; rintro e w9 ⟨PO, cO, QO, CO, rfl, hpt, hh, hbt⟩; have HPT := hidden hpt; replace HH := hidden hh; replace HX := hidden (HX.out.blk (hbt.block N HX.out.lt (fun ⟨t, ht, e⟩ => by have := (HFT.out t ht).2; omega))); replace HA := hidden (own_blk HA.out (fun g hg => by have hg2 := Option.some.inj hg; subst hg2; exact hbt.block ga (HA.out.lt ga rfl).2 (fun ⟨t, ht, e⟩ => by have := (HFT.out t ht).2; have := HGa.out; have := HGo.out; have := HGb.out; omega))); replace HO := hidden (own_blk HO.out (fun g hg => by have hg2 := Option.some.inj hg; subst hg2; exact hbt.block go (HO.out.lt go rfl).2 (fun ⟨t, ht, e⟩ => by have := (HFT.out t ht).2; have := HGa.out; have := HGo.out; have := HGb.out; omega))); replace HE := hidden (own_blk HE.out (fun g hg => by have hg2 := Option.some.inj hg; subst hg2; exact hbt.block gb (HE.out.lt gb rfl).2 (fun ⟨t, ht, e⟩ => by have := (HFT.out t ht).2; have := HGa.out; have := HGo.out; have := HGb.out; omega))); replace HB := hidden (below_trans HB.out (hbt.below HB.out.size (fun k ⟨t, ht, e⟩ => by have := (HFT.out t ht).1; omega))); clear hpt hh hbt))
  clear y0 y1
  have y0 := HX.out.c0
  have y1 := HX.out.c1
  go_upto_region 10 with (first | (go_at_call 9; refine (given_any PF ps.length cF gH cH _ HCH.out).mono ?_; rintro e wg ⟨rfl, hb⟩; replace HX := hidden (HX.out.keep hb HX.out.lt); replace HH := hidden (HH.out.stay hb); replace HB := hidden (bl_trans HB.out hb); replace HA := hidden (own_stay HA.out hb); replace HO := hidden (own_stay HO.out hb); replace HE := hidden (own_stay HE.out hb); replace HPT := hidden (HPT.out.keep hb); clear hb) | (go_at_call 5; refine (frame_n l (ps.map xr) ps.length (List.length_map _).symm (some ⟨gH, 0, none⟩) cH (fun i => some ⟨f i, 0, none⟩) cp _ (HH.out.pt rfl (List.length_map _) (fun i hi => by rw [(xr_parts ps).2.1 i hi, xr_len]) (fun i hi => by rw [(xr_parts ps).2.1 i hi])) HSX.out).mono ?_; rintro e wf ⟨vd, rfl, ho, hb⟩; obtain ⟨gd, cd, rfl, hcd⟩ := own_some ho (by have := fr_big l (ps.map xr); omega); have HGd : Hid (gb < gd) := hidden (by have := (HA.out.lt ga rfl).2; have := (HO.out.lt go rfl).2; have := (HE.out.lt gb rfl).2; have := (ho.lt gd rfl).1; have := HX.out.lt; omega); have HD := hidden (own_base ho (b := w.heap.size) HB.out.size); replace HX := hidden (HX.out.keep hb HX.out.lt); replace HH := hidden (HH.out.stay hb); replace HB := hidden (bl_trans HB.out hb); replace HA := hidden (own_stay HA.out hb); replace HO := hidden (own_stay HO.out hb); replace HE := hidden (own_stay HE.out hb); replace HPT := hidden (HPT.out.keep hb); clear ho hb))
  clear y0 y1
  have kc : (convert 23 23 (.slice (some ⟨wf.heap.size, 0, none⟩) 4 4)).run Try.prog (wf.alloc (.cells #[.int .u8 112, .int .u8 97, .int .u8 114, .int .u8 116] 5)) = .ok (.slice (some ⟨wf.heap.size, 0, none⟩) 4 4) (wf.alloc (.cells (cb parL).toArray 5 (4, 5))) := Lib.run_convert_bytes_const (P := Try.prog) wf 23 5 _ 4 4 (by kernel_rfl) (by kernel_rfl)
  have PQ : Hid (Pt ((wf.alloc (.cells (cb parL).toArray 5 (4, 5))).alloc (.cells #[.slice (some ⟨wf.heap.size, 0, none⟩) 4 4] 23)) (some ⟨(wf.alloc (.cells (cb parL).toArray 5 (4, 5))).heap.size, 0, none⟩) [parL] (fun _ => some ⟨wf.heap.size, 0, none⟩) (fun _ => 4)) := hidden (pt_one wf parL (4, 5) 4)
  have BQ : Hid (Below wf.heap.size wf ((wf.alloc (.cells (cb parL).toArray 5 (4, 5))).alloc (.cells #[.slice (some ⟨wf.heap.size, 0, none⟩) 4 4] 23))) := hidden (bl_trans (bl_alloc wf _) (bl_alloc _ _))
  obtain ⟨wp2, hwp2⟩ : ∃ wp, wp = (wf.alloc (.cells (cb parL).toArray 5 (4, 5))) := ⟨_, rfl⟩
  rw [← hwp2] at kc PQ BQ
  clear hwp2
  go_upto_region 11 with (first | (go_at_call 8; refine (rframe_any anoL [parL] _ 1 _ _ _ PQ.out (by decide)).mono ?_; rintro e w10 ⟨vr, rfl, ho, hb⟩; have CR := own_conv ho; replace HX := hidden (HX.out.keep (bl_trans BQ.out hb) HX.out.lt); replace HH := hidden (HH.out.stay (bl_trans BQ.out hb)); replace HB := hidden (bl_trans HB.out (bl_trans BQ.out hb)); replace HA := hidden (own_stay HA.out (bl_trans BQ.out hb)); replace HO := hidden (own_stay HO.out (bl_trans BQ.out hb)); replace HE := hidden (own_stay HE.out (bl_trans BQ.out hb)); replace HD := hidden (own_stay HD.out (bl_trans BQ.out hb)); replace HPT := hidden (HPT.out.keep (bl_trans BQ.out hb)); clear ho hb))
  clear kc PQ BQ CR
  go_upto_region 12 with (first | (go_at_call 8; refine (rframe_n l (ps.map xr) ps.length (List.length_map _).symm PO cO QO CO _ HPT.out HSX.out).mono ?_; rintro e w11 ⟨vr, rfl, ho, hb⟩; have CR := own_conv ho; replace HX := hidden (HX.out.keep hb HX.out.lt); replace HH := hidden (HH.out.stay hb); replace HB := hidden (bl_trans HB.out hb); replace HA := hidden (own_stay HA.out hb); replace HO := hidden (own_stay HO.out hb); replace HE := hidden (own_stay HE.out hb); replace HD := hidden (own_stay HD.out hb); clear ho hb))
  clear CR HPT HH HX HLF HLH HFT HCH HWN
  have HX0 := hidden (fr_big l ps)
  have HXL : Hid ((fr l ps).length ≤ 2 ^ 40) := hidden (by rw [fr_len]; exact HS.out)
  have HYL : Hid ((fr anoL [parL]).length ≤ 2 ^ 40) := hidden (by rw [fr_len]; decide)
  have HNab : Hid (ga ≠ go ∧ ga ≠ gb ∧ ga ≠ gd ∧ go ≠ gb ∧ go ≠ gd ∧ gb ≠ gd) := hidden (by have := HGo.out; have := HGb.out; have := HGd.out; omega)
  clear HGa HGo HGb HGd
  generalize fr l ps = X at HA HE HX0 HXL ⊢
  generalize fr anoL [parL] = Y at HO HYL ⊢
  generalize fr l (ps.map xr) = Z at HD ⊢
  have CA := own_conv HA.out
  have CO' := own_conv HO.out
  have CE := own_conv HE.out
  have CD := own_conv HD.out
  have e1 := sb_list X
  have e2 := sb_list Y
  have e3 := sb_list Z
  go_upto_region 14 with fail
  clear CA CO' CE CD e1 e2 e3
  go_wp2_with fail
  obtain ⟨i8, hi8, hz0, hz1, hz2⟩ := info_parts info8
  have HI8 := hidden hi8
  have HZ0 := hidden hz0
  have HZ1 := hidden hz1
  have HZ2 := hidden hz2
  have HU8 : Hid (Try.prog.underlying 23 = some (.slice 5)) := hidden (by kernel_rfl)
  clear hi8 hz0 hz1 hz2
  go_loopw [14] (fun iv w' => ∃ (i : Nat) (xs : List UInt8), i ≤ X.length ∧ iv = .int .i64 i ∧ Hid (xs.length = X.length) ∧ Hid (w'.ownsRow w.heap.size 5 1 (.slice (some ⟨ga, 0, none⟩) X.length ca) X.length (cb xs)) ∧ Hid (w'.ownsRow w.heap.size 5 1 (.slice (some ⟨go, 0, none⟩) Y.length co) Y.length (cb Y)) ∧ Hid (w'.ownsRow w.heap.size 5 1 (.slice (some ⟨gb, 0, none⟩) X.length c_b) X.length (cb X)) ∧ Hid (w'.ownsRow w.heap.size 5 1 (.slice (some ⟨gd, 0, none⟩) Z.length cd) Z.length (cb Z)) ∧ Hid (Below w.heap.size w w')) (fun i _ => X.length - (intOf i).toNat)
  case atStart => exact ⟨0, X, by omega, rfl, hidden rfl, HA, HO, HE, HD, HB⟩
  case round =>
    clear HA HO HE HD HB
    obtain ⟨i, xs, hi, rfl, HL, HA, HO, HE, HD, HB⟩ := hrel
    by_cases hin : i < X.length
    · have x0 := own_at HA.out HL.out i hin
      have f0 := HA.out.frozenAt i
      have ii0 : (0 : Int) ≤ (i : Int) := by omega
      have ii1 : (i : Int) < (X.length : Int) := by omega
      have w9 : IntKind.i64.wrap ((i : Int) + 1) = (i : Int) + 1 := IntWalk.i64_in _ (by have := HXL.out; omega)
      have hx : bits .xor .u8 ((xs.getD i 0).toNat : Int) 90 = ((xs.getD i 0 ^^^ 90).toNat : Int) := bits_xor8 (xs.getD i 0) 90
      have NA := hidden (own_turn HA.out i (xs.getD i 0 ^^^ 90))
      have NL : Hid ((xs.set i (xs.getD i 0 ^^^ 90)).length = X.length) := hidden (by rw [List.length_set]; exact HL.out)
      have NHO := hidden (own_else HO.out (g := ga) (fun e => HNab.out.1 (Option.some.inj e).symm) i (.int .u8 ((xs.getD i 0 ^^^ 90).toNat : Int)))
      have NHE := hidden (own_else HE.out (g := ga) (fun e => HNab.out.2.1 (Option.some.inj e).symm) i (.int .u8 ((xs.getD i 0 ^^^ 90).toNat : Int)))
      have NHD := hidden (own_else HD.out (g := ga) (fun e => HNab.out.2.2.1 (Option.some.inj e).symm) i (.int .u8 ((xs.getD i 0 ^^^ 90).toNat : Int)))
      have NHB : Hid (Below w.heap.size w (wr.setCell ⟨ga, i, none⟩ (.int .u8 ((xs.getD i 0 ^^^ 90).toNat : Int)))) := hidden (HB.out.setCell (HA.out.lt ga rfl).1 _)
      generalize ((xs.getD i 0 ^^^ 90).toNat : Int) = y at hx NA NHB NHO NHE NHD
      generalize ((xs.getD i 0).toNat : Int) = b at hx x0
      go_wp2_with fail
      go_roundw
      case rel => exact ⟨i + 1, _, by omega, by go_num, NL, NA, NHO, NHE, NHD, NHB⟩
      case measure => simp [intOf]; omega
    · obtain rfl : i = X.length := by omega
      have lq : ¬ (X.length : Int) < (X.length : Int) := by omega
      have HG0 : Hid (wr.ownsRow w.heap.size 5 1 (.slice (some ⟨ga, 0, none⟩) X.length ca) (xs ++ tl 0).length (cb (xs ++ tl 0))) := hidden (by rw [List.length_append, tl_len, HL.out, show tl 0 = [] from rfl, List.append_nil]; exact HA.out)
      clear HA
      go_wp2_with fail
      go_loopw [15, 16] (fun gv iv w' => ∃ i : Nat, i ≤ 64 ∧ iv = .int .i64 i ∧ Hid (w'.ownsRow w.heap.size 5 1 gv (xs ++ tl i).length (cb (xs ++ tl i))) ∧ Hid (gv.ownBlock ≠ some go ∧ gv.ownBlock ≠ some gb ∧ gv.ownBlock ≠ some gd) ∧ Hid (w'.ownsRow w.heap.size 5 1 (.slice (some ⟨go, 0, none⟩) Y.length co) Y.length (cb Y)) ∧ Hid (w'.ownsRow w.heap.size 5 1 (.slice (some ⟨gb, 0, none⟩) X.length c_b) X.length (cb X)) ∧ Hid (w'.ownsRow w.heap.size 5 1 (.slice (some ⟨gd, 0, none⟩) Z.length cd) Z.length (cb Z)) ∧ Hid (Below w.heap.size w w')) (fun _ i _ => 64 - (intOf i).toNat)
      case atStart => exact ⟨0, by omega, rfl, HG0, hidden ⟨fun e => HNab.out.1 (Option.some.inj e), fun e => HNab.out.2.1 (Option.some.inj e), fun e => HNab.out.2.2.1 (Option.some.inj e)⟩, HO, HE, HD, HB⟩
      case round =>
        clear HG0 HO HE HD HB lq
        rename World => wv
        obtain ⟨i, hi, rfl, HG, HNG, HO, HE, HD, HB⟩ := hrel
        by_cases hin : i < 64
        · have ii1 : (i : Int) < 64 := by omega
          have w8 : IntKind.i64.wrap (100 + (i : Int)) = 100 + (i : Int) := IntWalk.i64_in _ (by omega)
          have w9 : IntKind.i64.wrap ((i : Int) + 1) = (i : Int) + 1 := IntWalk.i64_in _ (by omega)
          have HT := hidden (tl_succ i)
          have HT2 : Hid (cb [UInt8.ofNat (100 + i)] = [.int .u8 (100 + (i : Int))]) := hidden (by simp only [cb, List.map_cons, List.map_nil, tl_byte i hin])
          have HTL : Hid ((xs ++ tl i).length ≤ 2 ^ 41) := hidden (by rw [List.length_append, tl_len, HL.out]; have := HXL.out; omega)
          go_wp2_with (first | (at_builtin; refine wpList_append_own_at _ rfl _ _ 23 rfl w.heap.size 5 i8 (.int .u8 0) 1 1 HU8.out HI8.out HZ0.out HZ1.out HZ2.out rfl (by decide) u15 _ _ rfl (HG.out.alloc _) ⟨wv.heap.size, 0, none⟩ 1 1 [.int .u8 (100 + (i : Int))] rfl rfl (cells_new wv _ _) (by simp [Value.oneCell']) (by have := HTL.out; unfold maxLen; omega) (by have := HTL.out; omega) (by have := HB.out.size; simp; omega) ?_; intro v4 w4 how4 hgr4 hnil4 hat4; have NG := hidden how4; have NHO := hidden (own_blk HO.out (fun k hk => by have hk2 := Option.some.inj hk; subst hk2; exact grown_blk hgr4 (HO.out.lt go rfl).2 (fun e => HNG.out.1 e.symm))); have MHO : v4.ownBlock ≠ some go := (fun e => by rcases hat4 with h | h; (exact HNG.out.1 (h.symm.trans e)); (have h2 := Option.some.inj (h.symm.trans e); have h3 := (HO.out.lt go rfl).2; simp at h2; omega)); have NHE := hidden (own_blk HE.out (fun k hk => by have hk2 := Option.some.inj hk; subst hk2; exact grown_blk hgr4 (HE.out.lt gb rfl).2 (fun e => HNG.out.2.1 e.symm))); have MHE : v4.ownBlock ≠ some gb := (fun e => by rcases hat4 with h | h; (exact HNG.out.2.1 (h.symm.trans e)); (have h2 := Option.some.inj (h.symm.trans e); have h3 := (HE.out.lt gb rfl).2; simp at h2; omega)); have NHD := hidden (own_blk HD.out (fun k hk => by have hk2 := Option.some.inj hk; subst hk2; exact grown_blk hgr4 (HD.out.lt gd rfl).2 (fun e => HNG.out.2.2 e.symm))); have MHD : v4.ownBlock ≠ some gd := (fun e => by rcases hat4 with h | h; (exact HNG.out.2.2 (h.symm.trans e)); (have h2 := Option.some.inj (h.symm.trans e); have h3 := (HD.out.lt gd rfl).2; simp at h2; omega)); have NHB := hidden (below_trans HB.out (below_trans ((bl_alloc wv _).mono HB.out.size) (below_grown (base := w.heap.size) hgr4 (by have := HB.out.size; simp; omega) (fun j hj => (HG.out.lt j hj).1)))); clear how4 hgr4 hnil4 hat4))
          go_roundw
          case rel => exact ⟨i + 1, by omega, by go_num, hidden (by rw [HT.out, ← List.append_assoc, List.length_append, cb_app, HT2.out]; exact NG.out), hidden ⟨MHO, MHE, MHD⟩, NHO, NHE, NHD, NHB⟩
          case measure => simp [intOf]; omega
        · obtain rfl : i = 64 := by omega
          have hgl : (xs ++ tl 64).length = X.length + 64 := by rw [List.length_append, tl_len, HL.out]
          have HGL := hidden hgl
          rw [hgl] at HG
          clear hgl
          obtain ⟨gg, cg, rfl, hcg⟩ := own_some HG.out (by omega)
          go_wp2_with fail
          go_loopw [17] (fun iv w' => ∃ (i : Nat) (ys : List UInt8), i ≤ Y.length ∧ iv = .int .i64 i ∧ Hid (ys.length = Y.length) ∧ Hid (w'.ownsRow w.heap.size 5 1 (.slice (some ⟨gg, 0, none⟩) (X.length + 64) cg) (X.length + 64) (cb (xs ++ tl 64))) ∧ Hid (w'.ownsRow w.heap.size 5 1 (.slice (some ⟨go, 0, none⟩) Y.length co) Y.length (cb ys)) ∧ Hid (w'.ownsRow w.heap.size 5 1 (.slice (some ⟨gb, 0, none⟩) X.length c_b) X.length (cb X)) ∧ Hid (w'.ownsRow w.heap.size 5 1 (.slice (some ⟨gd, 0, none⟩) Z.length cd) Z.length (cb Z)) ∧ Hid (Below w.heap.size w w')) (fun i _ => Y.length - (intOf i).toNat)
          case atStart => exact ⟨0, Y, by omega, rfl, hidden rfl, HG, HO, HE, HD, HB⟩
          case round =>
            clear HG HO HE HD HB
            rename World => wr
            obtain ⟨i, ys, hi, rfl, HLY, HG, HO, HE, HD, HB⟩ := hrel
            by_cases hin : i < Y.length
            · have x0 := own_at HO.out HLY.out i hin
              have f0 := HO.out.frozenAt i
              have ii0 : (0 : Int) ≤ (i : Int) := by omega
              have ii1 : (i : Int) < (Y.length : Int) := by omega
              have w9 : IntKind.i64.wrap ((i : Int) + 1) = (i : Int) + 1 := IntWalk.i64_in _ (by have := HYL.out; omega)
              have hx : bits .xor .u8 ((ys.getD i 0).toNat : Int) 105 = ((ys.getD i 0 ^^^ 105).toNat : Int) := bits_xor8 (ys.getD i 0) 105
              have NA := hidden (own_turn HO.out i (ys.getD i 0 ^^^ 105))
              have NL : Hid ((ys.set i (ys.getD i 0 ^^^ 105)).length = Y.length) := hidden (by rw [List.length_set]; exact HLY.out)
              have NHG := hidden (own_else HG.out (g := go) (fun e => HNG.out.1 e) i (.int .u8 ((ys.getD i 0 ^^^ 105).toNat : Int)))
              have NHE := hidden (own_else HE.out (g := go) (fun e => HNab.out.2.2.2.1 (Option.some.inj e).symm) i (.int .u8 ((ys.getD i 0 ^^^ 105).toNat : Int)))
              have NHD := hidden (own_else HD.out (g := go) (fun e => HNab.out.2.2.2.2.1 (Option.some.inj e).symm) i (.int .u8 ((ys.getD i 0 ^^^ 105).toNat : Int)))
              have NHB : Hid (Below w.heap.size w (wr.setCell ⟨go, i, none⟩ (.int .u8 ((ys.getD i 0 ^^^ 105).toNat : Int)))) := hidden (HB.out.setCell (HO.out.lt go rfl).1 _)
              generalize ((ys.getD i 0 ^^^ 105).toNat : Int) = y at hx NA NHB NHG NHE NHD
              generalize ((ys.getD i 0).toNat : Int) = b at hx x0
              go_wp2_with fail
              go_roundw
              case rel => exact ⟨i + 1, _, by omega, by go_num, NL, NHG, NA, NHE, NHD, NHB⟩
              case measure => simp [intOf]; omega
            · obtain rfl : i = Y.length := by omega
              have lq : ¬ (Y.length : Int) < (Y.length : Int) := by omega
              clear HO
              go_wp2_with fail
              clear lq
              go_loopw [18] (fun iv w' => ∃ i : Nat, i ≤ 64 ∧ iv = .int .i64 i ∧ Hid (w'.ownsRow w.heap.size 5 1 (.slice (some ⟨gg, 0, none⟩) (X.length + 64) cg) (X.length + 64) (cb (xs ++ tl 64))) ∧ Hid (w'.ownsRow w.heap.size 5 1 (.slice (some ⟨gb, 0, none⟩) X.length c_b) X.length (cb X)) ∧ Hid (w'.ownsRow w.heap.size 5 1 (.slice (some ⟨gd, 0, none⟩) Z.length cd) Z.length (cb Z)) ∧ Hid (Below w.heap.size w w')) (fun i _ => 64 - (intOf i).toNat)
              case atStart => exact ⟨0, by omega, rfl, HG, HE, HD, HB⟩
              case round =>
                clear HG HE HD HB
                rename World => wr
                obtain ⟨i, hi, rfl, HG, HE, HD, HB⟩ := hrel
                by_cases hin : i < 64
                · have x0 := own_at HG.out HGL.out (X.length + i) (by omega)
                  rw [tl_at xs X.length i 64 HL.out hin, tl_byte i hin] at x0
                  have ii1 : (i : Int) < 64 := by omega
                  have w7 : IntKind.i64.wrap ((X.length : Int) + (i : Int)) = ((X.length + i : Nat) : Int) := by rw [IntWalk.i64_in _ (by have := HXL.out; omega)]; omega
                  have w8 : IntKind.i64.wrap (100 + (i : Int)) = 100 + (i : Int) := IntWalk.i64_in _ (by omega)
                  have w9 : IntKind.i64.wrap ((i : Int) + 1) = (i : Int) + 1 := IntWalk.i64_in _ (by omega)
                  have j0 : (0 : Int) ≤ ((X.length + i : Nat) : Int) := by omega
                  have j1 : ((X.length + i : Nat) : Int) < ((X.length + 64 : Nat) : Int) := by omega
                  generalize X.length + i = j at x0 w7 j0 j1
                  go_wp2_with fail
                  go_roundw
                  case rel => exact ⟨i + 1, by omega, by go_num, HG, HE, HD, HB⟩
                  case measure => simp [intOf]; omega
                · obtain rfl : i = 64 := by omega
                  have CE := own_conv HE.out
                  have CD := own_conv HD.out
                  have e1 := sb_list X
                  have e3 := sb_list Z
                  go_wp2_with fail
                  refine bodyPost_ret (v := .bool true) (by simp [results, Try.results4, go_sem]) rfl ⟨rfl, HB.out⟩
end Go.Proofs.Ytagfneojcgcigaa
