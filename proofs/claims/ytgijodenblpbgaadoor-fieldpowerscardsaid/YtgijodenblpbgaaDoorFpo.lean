import Derived.Test.YtgijodenblpbgaaDoorRin
import Derived.Test.YtgijodenblpbgaaDoorInv
namespace Go.Proofs.YtgijodenblpbgaaDoor
open Go.RowKit
theorem pow_emodF (n : Int) : ∀ k : Nat, (n % pF) ^ k % pF = n ^ k % pF
  | 0 => by rw [Int.pow_zero, Int.pow_zero]
  | k + 1 => by rw [Int.pow_succ, Int.pow_succ, Int.mul_emod, pow_emodF n k, Int.emod_emod, ← Int.mul_emod]
theorem range_newF (w : World) (cs : List Value) (t : TypeId) : (w.alloc (.cells cs.toArray t)).rangeAt w.heap.size 0 cs := fun j v hv => by
  rw [Nat.zero_add, World.cell?_alloc_mark]
  simpa using hv
theorem eI_eq : 57896044618658097711785492504343953926634992332820282019728792003956564819947 = eI := by decide +kernel
/-- what lies where in FieldPowers -/
structure VW (w0 : World) (a : E5) (bs : List Value) (L : List (Nat × Int)) (w : World) : Prop where
  a : Ru w w0.heap.size 5 (lmf a)
  b : w.rangeAt (w0.heap.size + 1) 0 bs
  f : FR w0 L w
  o : On w
theorem VW.keep {w0 : World} {a : E5} {bs : List Value} {L : List (Nat × Int)} {w w' : World} (h : VW w0 a bs L w) (hb : Below w.heap.size w w') : VW w0 a bs L w' := ⟨h.a.keep hb, range_keep h.b hb, h.f.keep hb, h.o.keep hb⟩
theorem VW.new {w0 : World} {a : E5} {bs : List Value} {L : List (Nat × Int)} {w : World} (h : VW w0 a bs L w) (hbl : w0.heap.size + 1 < w.heap.size) (N : Int) (t : TypeId) : VW w0 a bs ((w.heap.size, N) :: L) ((w.alloc (.cells #[.int .i64 0, .int .i64 0, .int .i64 0, .int .i64 0, .int .i64 0, .int .i64 0, .int .i64 0, .int .i64 0, .int .i64 0, .int .i64 0] t)).setCells w.heap.size 0 (dg N)) := by
  have k := h.keep (bl_alloc w (.cells #[.int .i64 0, .int .i64 0, .int .i64 0, .int .i64 0, .int .i64 0, .int .i64 0, .int .i64 0, .int .i64 0, .int .i64 0, .int .i64 0] t))
  have hg := h.f.g
  have hne : ∀ (j d : Nat), d ≠ w.heap.size → ((w.alloc (.cells #[.int .i64 0, .int .i64 0, .int .i64 0, .int .i64 0, .int .i64 0, .int .i64 0, .int .i64 0, .int .i64 0, .int .i64 0, .int .i64 0] t)).setCells w.heap.size 0 (dg N)).cell? ⟨d, j, none⟩ = (w.alloc (.cells #[.int .i64 0, .int .i64 0, .int .i64 0, .int .i64 0, .int .i64 0, .int .i64 0, .int .i64 0, .int .i64 0, .int .i64 0, .int .i64 0] t)).cell? ⟨d, j, none⟩ := fun j d hd => World.cell?_setCells_out w.heap.size (dg N) 0 _ ⟨d, j, none⟩ (fun e _ => absurd e hd)
  refine ⟨⟨fun j hj => (hne _ _ (by omega)).trans (k.a.c j hj), fun j hj => by rw [World.frozen?_setCells]; exact k.a.fr j hj, by rw [size_setCells]; exact k.a.lt⟩, World.rangeAt_setCells_apart k.b _ _ _ (Or.inl (by omega)), (h.f.new2 N t).1, ⟨World.rangeAt_setCells_apart k.o.r _ _ _ (Or.inl ?_)⟩⟩
  have : 2 < w.heap.size := World.block_lt_of_cell? w ⟨2, 0 + 0, none⟩ (h.o.r 0 _ rfl)
  omega
set_option maxRecDepth 100000 in
set_option maxHeartbeats 32000000 in
theorem powers_any (a : E5) (zs : List Int) (w : World) (hP : Pm w) (hO : On w) (ha : a.ok) (hl : zs.length = 32) (hz : ∀ z ∈ zs, 0 ≤ z ∧ z ≤ 255) : Calls Tryd.prog 7 #[a.v, bv zs] w fun e w' => e = .returned (.bool true) ∧ Below w.heap.size w w' := by
  have xm := mod_in a.n
  have OA : Hid (∀ w, Pm w → Calls Tryd.prog 9 #[a.v] w fun e w' => e = .returned (.agg (dg (a.n % pF)).toArray) ∧ Below w.heap.size w w') := hidden (fun w P => of_any a w ha P)
  have PW := hidden (fun w => fixF (Power_any a zs w ha hl hz))
  have IV := hidden (fun w => fixF (Invert_any a w ha))
  have RP := hidden (fun w P O => rPower_any (a.n % pF) zs w xm hl hz P O)
  have RI := hidden (fun w P => rInvert_any (a.n % pF) w xm P)
  rw [eI_eq] at IV
  rw [pow_emodF] at RP RI
  have IA : Hid (∀ w, Calls Tryd.prog 13 #[(lst (a.n ^ num zs % pF)).v, .agg (dg (a.n ^ num zs % pF)).toArray] w fun e w' => e = .returned (.bool true) ∧ Below w.heap.size w w') := hidden (fun w => is_any _ w (mod_in _).1 (mod_in _).2)
  have IB : Hid (∀ w, Calls Tryd.prog 13 #[(lst (a.n ^ eI % pF)).v, .agg (dg (a.n ^ eI % pF)).toArray] w fun e w' => e = .returned (.bool true) ∧ Below w.heap.size w w') := hidden (fun w => is_any _ w (mod_in _).1 (mod_in _).2)
  have h1 := Ru.new5 w a 24
  have f2 := ((FR.start w hP).keep (bl_alloc w (.cells #[.int .u64 a.x0, .int .u64 a.x1, .int .u64 a.x2, .int .u64 a.x3, .int .u64 a.x4] 24))).keep (bl_alloc _ (.cells (zs.map fun z => Value.int .u8 z).toArray 26))
  have r2 : ((w.alloc (.cells #[.int .u64 a.x0, .int .u64 a.x1, .int .u64 a.x2, .int .u64 a.x3, .int .u64 a.x4] 24)).alloc (.cells (zs.map fun z => Value.int .u8 z).toArray 26)).rangeAt (w.heap.size + 1) 0 (zs.map fun z => Value.int .u8 z) := fun j v hv => by
    have h := range_newF (w.alloc (.cells #[.int .u64 a.x0, .int .u64 a.x1, .int .u64 a.x2, .int .u64 a.x3, .int .u64 a.x4] 24)) (zs.map fun z => Value.int .u8 z) 26
    rw [World.size_alloc] at h
    exact h j v hv
  have bl := bl_alloc2 w (.cells #[.int .u64 a.x0, .int .u64 a.x1, .int .u64 a.x2, .int .u64 a.x3, .int .u64 a.x4] 24) (.cells (zs.map fun z => Value.int .u8 z).toArray 26)
  have S0 := hidden (⟨h1.keep (bl_alloc _ _), r2, f2, hO.keep bl⟩ : VW w a (zs.map fun z => Value.int .u8 z) [] _)
  have sz : Hid (w.heap.size + 1 < ((w.alloc (.cells #[.int .u64 a.x0, .int .u64 a.x1, .int .u64 a.x2, .int .u64 a.x3, .int .u64 a.x4] 24)).alloc (.cells (zs.map fun z => Value.int .u8 z).toArray 26)).heap.size) := hidden (by simp)
  have D := hidden dgs
  have UB : Hid (Tryd.prog.underlying 26 = some (.array 32 5)) := hidden (by kernel_rfl)
  have IBs : Hid ((Tryd.prog.info? 26).map (·.size) = some (zs.map fun z => Value.int .u8 z).length) := hidden (by rw [List.length_map, hl]; kernel_rfl)
  unfold bv at PW RP ⊢
  clear h1 f2 r2 bl hP hO xm ha hl hz
  generalize (zs.map fun z => Value.int .u8 z) = bs at *
  generalize a.n ^ num zs % pF = N1 at *
  generalize a.n ^ eI % pF = N2 at *
  generalize a.n % pF = X at *
  generalize lst N1 = l1 at *
  generalize lst N2 = l2 at *
  simp only [E5.v] at OA PW IV IA IB ⊢
  go_enter Tryd.func7, Tryd.ntmps7
  go_upto_region 1 with fail
  generalize ((w.alloc (.cells #[.int .u64 a.x0, .int .u64 a.x1, .int .u64 a.x2, .int .u64 a.x3, .int .u64 a.x4] 24)).alloc (.cells bs.toArray 26)) = wB at S0 sz ⊢
  go_cut [5] (fun v wx => ∃ O : Nat, v = .pointer (some ⟨O, 0, none⟩) ∧ VW w a bs [(O, X)] wx)
  case first =>
    have d0 := S0.out.a.c 0 (by omega)
    have d1 := S0.out.a.c 1 (by omega)
    have d2 := S0.out.a.c 2 (by omega)
    have d3 := S0.out.a.c 3 (by omega)
    have d4 := S0.out.a.c 4 (by omega)
    simp only [lmf] at d0 d1 d2 d3 d4
    go_wp2_with fail
    refine (OA.out _ S0.out.f.p).mono ?_
    rintro e w1 ⟨rfl, hb⟩
    have k1 := S0.out.keep hb
    have hs := sz.out
    have hs2 := hb.size
    have N3 := hidden (k1.new (by omega) X 29)
    have TH := hidden (k1.f.new2 X 29).2
    have I2 := hidden (D.out.i2 X)
    have OE := hidden (D.out.o X)
    clear k1 hb hs hs2 d0 d1 d2 d3 d4 S0 OA
    generalize dg X = ds at N3 TH I2 OE ⊢
    go_wp2_with (first | refine wpList_store_mid rfl 29 _ _ rfl w1.heap.size 0 ds.toArray (by rfl) (by rfl) TH.out I2.out OE.out ?_)
    go_meet
    exact ⟨_, rfl, N3.out⟩
  case rest =>
  obtain ⟨O, rfl, v1⟩ := hcut
  have V1 := hidden v1
  clear v1 S0 OA
  go_upto_region 2 with fail
  have OW := hidden (V1.out.keep (drew_bl wc))
  refine wp_region_held_drew (S := VW w a bs [(O, X)]) (by kernel_rfl) OW.out (fun hHeld => ?_)
  generalize wc.drew = wd at OW hHeld ⊢
  clear V1 OW
  refine wpAnyH_take (i := 0) (oi := _) (v := ?_) rfl (by kernel_rfl) (by kernel_rfl) (by kernel_rfl) (fun _ _ _ h => h) (Or.inl ⟨by rfl, ?_⟩) hHeld ?_
  rotate_left 1
  · (intro w0 hSw; have d0 := hSw.a.c 0 (by omega); have d1 := hSw.a.c 1 (by omega); have d2 := hSw.a.c 2 (by omega); have d3 := hSw.a.c 3 (by omega); have d4 := hSw.a.c 4 (by omega); simp only [lmf] at d0 d1 d2 d3 d4; clear hSw; go_simp; try with_reducible rfl)
  refine wpAnyH_take (i := 1) (oi := _) (v := _) rfl (by kernel_rfl) (by kernel_rfl) (by kernel_rfl) (fun _ _ _ h => h) (yieldsIf_load_mid (by rfl) _ _ rfl _ _ rfl _ _ (fun _ h => h.b) UB.out rfl IBs.out) hHeld ?_
  refine wpAnyH_take (i := 3) (oi := _) (v := _) rfl (by kernel_rfl) (by kernel_rfl) (by kernel_rfl) (fun _ _ _ h => h) (yieldsIf_load_mid (by rfl) _ _ rfl _ _ rfl _ _ (fun _ h => h.f.ra O X (by simp)) D.out.u rfl (D.out.i X)) hHeld ?_
  refine wpAnyH_take (i := 4) (oi := _) (v := _) rfl (by kernel_rfl) (by kernel_rfl) (by kernel_rfl) (fun _ _ _ h => h) (yieldsIf_load_mid (by rfl) _ _ rfl _ _ rfl _ _ (fun _ h => h.b) UB.out rfl IBs.out) hHeld ?_
  refine wpAnyH_ready (rs := [2]) (by kernel_rfl) (by simp) ?_
  refine AllReadyH.cons (o := _) rfl (fun K hK => ?_) AllReadyH.nil
  go_simp
  refine (PW.out _).mono ?_
  rintro e w1 ⟨rfl, hb1⟩
  have k1 := hidden (hHeld.keep hb1)
  go_wp2_with fail
  refine hK.out _ _ k1.out (fun hHeld2 => ?_)
  clear hK K hHeld hb1
  have hHeld := hHeld2
  clear hHeld2
  refine wpAnyH_ready (rs := [5]) (by kernel_rfl) (by simp) ?_
  refine AllReadyH.cons (o := _) rfl (fun K hK => ?_) AllReadyH.nil
  go_simp
  refine (RP.out _ hHeld.f.p hHeld.o).mono ?_
  rintro e w2 ⟨rfl, hb2⟩
  have k2 := hidden (hHeld.keep hb2)
  go_wp2_with fail
  refine hK.out _ _ k2.out (fun hHeld2 => ?_)
  clear hK K hHeld hb2
  have hHeld := hHeld2
  clear hHeld2
  refine wpAnyH_ready (rs := [6]) (by kernel_rfl) (by simp) ?_
  refine AllReadyH.cons (o := _) rfl (fun K hK => ?_) AllReadyH.nil
  go_simp
  refine (IA.out _).mono ?_
  rintro e w3 ⟨rfl, hb3⟩
  have k3 := hidden (hHeld.keep hb3)
  go_wp2_with fail
  refine hK.out _ _ k3.out (fun hHeld2 => ?_)
  clear hK K hHeld hb3
  have hHeld := hHeld2
  clear hHeld2
  refine wpAnyH_take (i := 7) (oi := _) (v := ?_) rfl (by kernel_rfl) (by kernel_rfl) (by kernel_rfl) (fun _ _ _ h => h) (Or.inl ⟨by rfl, ?_⟩) hHeld ?_
  rotate_left 1
  · (intro w0 hSw; clear hSw; go_simp; try with_reducible rfl)
  refine wpAnyH_take (i := 8) (oi := _) (v := ?_) rfl (by kernel_rfl) (by kernel_rfl) (by kernel_rfl) (fun _ _ _ h => h) (Or.inl ⟨by rfl, ?_⟩) hHeld ?_
  rotate_left 1
  · (intro w0 hSw; have d0 := hSw.a.c 0 (by omega); have d1 := hSw.a.c 1 (by omega); have d2 := hSw.a.c 2 (by omega); have d3 := hSw.a.c 3 (by omega); have d4 := hSw.a.c 4 (by omega); simp only [lmf] at d0 d1 d2 d3 d4; clear hSw; go_simp; try with_reducible rfl)
  refine wpAnyH_take (i := 10) (oi := _) (v := _) rfl (by kernel_rfl) (by kernel_rfl) (by kernel_rfl) (fun _ _ _ h => h) (yieldsIf_load_mid (by rfl) _ _ rfl _ _ rfl _ _ (fun _ h => h.f.ra O X (by simp)) D.out.u rfl (D.out.i X)) hHeld ?_
  refine wpAnyH_ready (rs := [9]) (by kernel_rfl) (by simp) ?_
  refine AllReadyH.cons (o := _) rfl (fun K hK => ?_) AllReadyH.nil
  go_simp
  refine (IV.out _).mono ?_
  rintro e w4 ⟨rfl, hb4⟩
  have k4 := hidden (hHeld.keep hb4)
  go_wp2_with fail
  refine hK.out _ _ k4.out (fun hHeld2 => ?_)
  clear hK K hHeld hb4
  have hHeld := hHeld2
  clear hHeld2
  refine wpAnyH_ready (rs := [11]) (by kernel_rfl) (by simp) ?_
  refine AllReadyH.cons (o := _) rfl (fun K hK => ?_) AllReadyH.nil
  go_simp
  refine (RI.out _ hHeld.f.p).mono ?_
  rintro e w5 ⟨rfl, hb5⟩
  have k5 := hidden (hHeld.keep hb5)
  go_wp2_with fail
  refine hK.out _ _ k5.out (fun hHeld2 => ?_)
  clear hK K hHeld hb5
  have hHeld := hHeld2
  clear hHeld2
  refine wpAnyH_ready (rs := [12]) (by kernel_rfl) (by simp) ?_
  refine AllReadyH.cons (o := _) rfl (fun K hK => ?_) AllReadyH.nil
  go_simp
  refine (IB.out _).mono ?_
  rintro e w6 ⟨rfl, hb6⟩
  have k6 := hidden (hHeld.keep hb6)
  go_wp2_with fail
  refine hK.out _ _ k6.out (fun hHeld2 => ?_)
  clear hK K hHeld hb6
  have hHeld := hHeld2
  clear hHeld2
  refine wpAnyH_take (i := 13) (oi := _) (v := ?_) rfl (by kernel_rfl) (by kernel_rfl) (by kernel_rfl) (fun _ _ _ h => h) (Or.inl ⟨by rfl, ?_⟩) hHeld ?_
  rotate_left 1
  · (intro w0 hSw; clear hSw; go_simp; try with_reducible rfl)
  refine wpAnyH_take (i := 14) (oi := _) (v := ?_) rfl (by kernel_rfl) (by kernel_rfl) (by kernel_rfl) (fun _ _ _ h => h) (Or.inl ⟨by rfl, ?_⟩) hHeld ?_
  rotate_left 1
  · (intro w0 hSw; clear hSw; go_simp; try with_reducible rfl)
  refine wpAnyH_done (by kernel_rfl) ?_ _
  have BB := hidden hHeld.f.bel
  clear hHeld
  go_wp2_with fail
  go_ret
  exact ⟨rfl, BB.out⟩
end Go.Proofs.YtgijodenblpbgaaDoor
