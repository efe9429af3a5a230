import Derived.Test.YtgijodenblpbgaaDoorRen
import Derived.Test.YtgijodenblpbgaaDoorDec
namespace Go.Proofs.YtgijodenblpbgaaDoor
open Go.RowKit
theorem results_cell_tmp {fn : Func} {p q : Tmp} {ty : TypeId} (h : fn.results = #[.cell p ty, .tmp q]) (tmps : Array Value) (P : Program) (w : World) (a : Addr) (v u : Value) (ha : tmps.getD p undef = .pointer (some a)) (hl : (loadVar ty a).run P w = .ok v w) (hu : tmps.getD q undef = u) :
    (results fn tmps).run P w = .ok (.tuple #[v, u]) w := by
  have e : (results fn tmps).run P w = ((asAddr (tmps.getD p undef)).run P w).andThen fun a w1 => ((loadVar ty a).run P w1).andThen fun x w2 => .ok (.tuple #[x, tmps.getD q undef]) w2 := by
    simp only [results, h]
    simp [Sem.run_bind, Result.andThen]
  rw [e, ha, hu]
  simp [asAddr, hl, Result.andThen]
/-- bytes that lie there, and rows of ten digits -/
structure BF (w0 : World) (zs : List Int) (L : List (Nat × Int)) (w : World) : Prop where
  b : R8 w w0.heap.size 32 (fun j => zs.getD j 0)
  f : FR w0 L w
  n : ∀ p ∈ L, p.1 ≠ w0.heap.size
theorem BF.keep {w0 : World} {zs : List Int} {L : List (Nat × Int)} {w w' : World} (h : BF w0 zs L w) (hb : Below w.heap.size w w') : BF w0 zs L w' := ⟨h.b.keep hb, h.f.keep hb, h.n⟩
theorem BF.byt {w0 : World} {zs : List Int} {L : List (Nat × Int)} {w : World} (h : BF w0 zs L w) (hl : zs.length = 32) : Byt w w0.heap.size zs := ⟨hl, fun j hj => h.b.c j hj⟩
theorem BF.set {w0 : World} {zs : List Int} {L M : List (Nat × Int)} {w : World} (h : BF w0 zs L w) {c : Nat} {o : Int} (N : Int) (hc : (c, o) ∈ L) (hs : ∀ p ∈ M, p ∈ L ∧ c ≠ p.1) : BF w0 zs ((c, N) :: M) (w.setCells c 0 (dg N)) := by
  have hn := h.n _ hc
  simp only at hn
  refine ⟨⟨fun j hj => (World.cell?_setCells_out c (dg N) 0 w ⟨w0.heap.size, j, none⟩ (fun e _ => absurd e.symm hn)).trans (h.b.c j hj), fun j hj => by rw [World.frozen?_setCells]; exact h.b.fr j hj, by rw [size_setCells]; exact h.b.lt⟩, h.f.set N hc hs, fun p hp => ?_⟩
  rcases List.mem_cons.1 hp with rfl | hp
  · exact hn
  · exact h.n p (hs p hp).1
theorem BF.new {w0 : World} {zs : List Int} {L : List (Nat × Int)} {w : World} (h : BF w0 zs L w) (t : TypeId) : BF w0 zs ((w.heap.size, 0) :: L) (w.alloc (.cells #[.int .i64 0, .int .i64 0, .int .i64 0, .int .i64 0, .int .i64 0, .int .i64 0, .int .i64 0, .int .i64 0, .int .i64 0, .int .i64 0] t)) := by
  refine ⟨h.b.keep (bl_alloc _ _), h.f.zero t, fun p hp => ?_⟩
  rcases List.mem_cons.1 hp with rfl | hp
  · have := h.b.lt; show w.heap.size ≠ w0.heap.size; omega
  · exact h.n p hp
theorem BF.sub {w0 : World} {zs : List Int} {L M : List (Nat × Int)} {w : World} (h : BF w0 zs L w) (hs : ∀ p ∈ M, p ∈ L) : BF w0 zs M w := ⟨h.b, h.f.sub hs, fun p hp => h.n p (hs p hp)⟩
theorem R8.list {w : World} {b : Nat} {zs : List Int} (h : R8 w b 32 (fun j => zs.getD j 0)) (hl : zs.length = 32) : w.rangeAt b 0 (vb zs) := fun j v hv => by
  have hj : j < 32 := by
    have := (List.getElem?_eq_some_iff.1 hv).1
    simpa [vb, hl] using this
  simp [vb, hl, hj] at hv
  rw [Nat.zero_add, h.c j hj, List.getD_eq_getElem?_getD, List.getElem?_eq_getElem (by omega)]
  simpa using hv
theorem BF.start (w : World) (zs : List Int) (t t2 : TypeId) (hl : zs.length = 32) (hP : Pm w) : BF w zs [(w.heap.size + 1, 0)] ((w.alloc (.cells (vb zs).toArray t)).alloc (.cells #[.int .i64 0, .int .i64 0, .int .i64 0, .int .i64 0, .int .i64 0, .int .i64 0, .int .i64 0, .int .i64 0, .int .i64 0, .int .i64 0] t2)) := by
  have r1 := R8.new w zs t
  rw [hl] at r1
  have b0 : BF w zs [] (w.alloc (.cells (vb zs).toArray t)) := ⟨r1, (FR.start w hP).keep (bl_alloc _ _), fun p hp => (by cases hp)⟩
  have b1 := b0.new t2
  simp only [World.size_alloc] at b1
  exact b1
set_option maxRecDepth 100000 in
set_option maxHeartbeats 16000000 in
theorem rDecode_any (zs : List Int) (w : World) (hl : zs.length = 32) (hz : ∀ z ∈ zs, 0 ≤ z ∧ z ≤ 255) (hP : Pm w) (B : Bool) (hB : decide (bytes ((num zs : Int) % pF) = zs) = B) :
    Calls Tryd.prog 12 #[.agg (vb zs).toArray] w fun e w' => e = .returned (.tuple #[.agg (dg (cond B ((num zs : Int) % pF) 0)).toArray, .int .i64 (cond B 0 3)]) ∧ Below w.heap.size w w' := by
  have B0 := hidden (BF.start w zs 26 29 hl hP)
  have NU := hidden (fun (w' : World) (b : BF w zs [(w.heap.size + 1, 0)] w') => rNumber_any w.heap.size zs w' (b.byt hl) hz b.f.p)
  obtain ⟨N, hN⟩ : ∃ N, (num zs : Int) % pF = N := ⟨_, rfl⟩
  have hm := mod_in (num zs : Int)
  rw [hN] at NU hB hm ⊢
  have EN := hidden (fun w => rEncode_any N w hm.1 (by have := hm.2; unfold pF at this; omega))
  have EQ := fun w => eq32 (bytes N) zs w (bytes_len N) hl
  rw [hB] at EQ
  have EE : Hid (∀ w, (Op.equalIn 10000 26 (.agg (vb (bytes N)).toArray) (.agg (vb zs).toArray)).run Tryd.prog w = .ok B w) := hidden EQ
  have VZ := v8 zs hl
  have UB := hidden VZ.u
  have IB := hidden VZ.i
  have RB : Hid (∀ w', BF w zs [(w.heap.size + 1, 0)] w' → w'.rangeAt w.heap.size 0 (vb zs)) := hidden (fun _ h => h.b.list hl)
  have D := hidden dgs
  clear hN hm EQ VZ hB hP hz hl
  go_enter Tryd.func12, Tryd.ntmps12
  go_upto_region 1 with fail
  generalize ((w.alloc (.cells (vb zs).toArray 26)).alloc (.cells #[.int .i64 0, .int .i64 0, .int .i64 0, .int .i64 0, .int .i64 0, .int .i64 0, .int .i64 0, .int .i64 0, .int .i64 0, .int .i64 0] 29)) = wB at B0 ⊢
  go_cut [4] (fun v wx => ∃ G : Nat, v = .pointer (some ⟨G, 0, none⟩) ∧ w.heap.size + 1 < G ∧ BF w zs [(G, N), (w.heap.size + 1, 0)] wx)
  case first =>
    go_wp2_with fail
    refine (NU.out _ B0.out).mono ?_
    rintro e w1 ⟨rfl, hb⟩
    have k1 := B0.out.keep hb
    have l1 : w.heap.size + 1 < w1.heap.size := k1.f.lt (w.heap.size + 1, 0) (by simp)
    have z1 := k1.new 29
    have TH := hidden (z1.f.th w1.heap.size 0 N (by simp))
    have N1 := hidden (z1.set (c := w1.heap.size) (o := 0) N (M := [(w.heap.size + 1, 0)]) (by simp) (by simp; omega))
    have I2 := hidden (D.out.i2 N)
    have ON := hidden (D.out.o N)
    clear k1 z1 hb B0 NU
    generalize dg N = ds at TH N1 I2 ON ⊢
    go_wp2_with (first | refine wpList_store_mid rfl 29 _ _ rfl w1.heap.size 0 ds.toArray (by rfl) (by rfl) TH.out I2.out ON.out ?_)
    go_meet
    exact ⟨_, rfl, l1, N1.out⟩
  case rest =>
  obtain ⟨G, rfl, hG, f1⟩ := hcut
  clear B0 NU
  have FF := hidden f1
  clear f1
  go_upto_region 2 with fail
  go_cut [10] (fun v wx => v = .bool (!B) ∧ BF w zs [(G, N), (w.heap.size + 1, 0)] wx)
  case first =>
    have OW := hidden (FF.out.keep (drew_bl wc))
    refine wp_region_held_drew (S := BF w zs [(G, N), (w.heap.size + 1, 0)]) (by kernel_rfl) OW.out (fun hHeld => ?_)
    generalize wc.drew = wd at OW hHeld ⊢
    refine wpAnyH_take (i := 0) (oi := _) (v := _) rfl (by kernel_rfl) (by kernel_rfl) (by kernel_rfl) (fun _ _ _ h => h) (yieldsIf_load_mid (by rfl) _ _ rfl _ _ rfl _ _ (fun _ h => h.f.ra G N (by simp)) D.out.u rfl (D.out.i N)) hHeld ?_
    refine wpAnyH_take (i := 2) (oi := _) (v := _) rfl (by kernel_rfl) (by kernel_rfl) (by kernel_rfl) (fun _ _ _ h => h) (yieldsIf_load_mid (by rfl) _ _ rfl _ _ rfl _ _ (fun _ h => RB.out _ (h.sub (by simp))) UB.out rfl IB.out) hHeld ?_
    refine wpAnyH_ready (rs := [1]) (by kernel_rfl) (by simp) ?_
    refine AllReadyH.cons (o := _) rfl (fun K hK => ?_) AllReadyH.nil
    go_simp
    refine (EN.out _).mono ?_
    rintro e w1 ⟨rfl, hb1⟩
    have k1 := hidden (hHeld.keep hb1)
    go_wp2_with fail
    refine hK.out _ _ k1.out (fun hHeld2 => ?_)
    clear hK K hHeld hb1
    have hHeld := hHeld2
    clear hHeld2
    have EQ := EE.out
    refine wpAnyH_take (i := 3) (oi := _) (v := ?_) rfl (by kernel_rfl) (by kernel_rfl) (by kernel_rfl) (fun _ _ _ h => h) (Or.inl ⟨by rfl, ?_⟩) hHeld ?_
    rotate_left 1
    · (intro w0 hSw; clear hSw; go_simp; try with_reducible rfl)
    clear EQ
    refine wpAnyH_done (by kernel_rfl) ?_ _
    have BB := hidden hHeld
    clear hHeld
    go_wp2_with fail
    go_meet
    exact ⟨rfl, BB.out⟩
  case rest =>
  obtain ⟨rfl, f1⟩ := hcut
  clear FF EN EE
  have FF := hidden f1
  clear f1
  cases B with
  | true =>
    have TH := hidden (FF.out.f.th (w.heap.size + 1) 0 N (by simp))
    have RN := hidden (FF.out.f.ra G N (by simp))
    have RDH := hidden (dg_load wc (w.heap.size + 1) N TH.out)
    have BL := hidden (below_setCellsR (w.heap.size + 1) (dg N) 0 FF.out.f.bel (by omega))
    have I1 := hidden (D.out.i N)
    have I2 := hidden (D.out.i2 N)
    have O1 := hidden (D.out.o N)
    have EE : Hid (dg (cond true N 0) = dg N) := hidden rfl
    clear FF
    generalize dg N = ds at TH RN RDH BL I1 I2 O1 EE ⊢
    go_wp2_with (first | refine wpList_load_mid rfl 29 _ rfl G 0 (by rfl) ds _ RN.out D.out.u rfl I1.out ?_ | refine wpList_store_mid rfl 29 _ _ rfl (w.heap.size + 1) 0 ds.toArray (by rfl) (by rfl) TH.out I2.out O1.out ?_)
    have RD := RDH.out
    refine bodyPost_ret (v := .tuple #[.agg ds.toArray, .int .i64 0]) (results_cell_tmp Tryd.results12 _ _ _ _ _ _ (by rfl) RD (by rfl)) rfl ⟨by rw [EE.out]; rfl, BL.out⟩
  | false =>
    have TH := hidden (FF.out.f.th (w.heap.size + 1) 0 0 (by simp))
    have RDH := hidden (dg_load wc (w.heap.size + 1) 0 TH.out)
    have BL := hidden (below_setCellsR (w.heap.size + 1) (dg 0) 0 FF.out.f.bel (by omega))
    have I2 := hidden (D.out.i2 0)
    have O1 := hidden (D.out.o 0)
    have EE : Hid (dg (cond false N 0) = dg 0) := hidden rfl
    clear FF
    have HZL : Hid (∃ zl : List Value, dg 0 = zl) := hidden ⟨_, rfl⟩
    obtain ⟨zl, hzl⟩ := HZL.out
    have HZ := hidden hzl
    rw [hzl] at TH RDH BL I2 O1 EE
    clear hzl HZL
    go_wp2_with (first | refine wpList_store_mid rfl 29 _ _ rfl (w.heap.size + 1) 0 zl.toArray (by rfl) (by rw [← HZ.out]; rfl) TH.out I2.out O1.out ?_)
    have RD := RDH.out
    refine bodyPost_ret (v := .tuple #[.agg zl.toArray, .int .i64 3]) (results_cell_tmp Tryd.results12 _ _ _ _ _ _ (by rfl) RD (by rfl)) rfl ⟨by rw [EE.out]; rfl, BL.out⟩
/-- the highest bit struck -/
def strike (zs : List Int) : List Int := zs.set 31 (zs.getD 31 0 % 128)
theorem num_set : ∀ (zs : List Int) (k : Nat) (v : Int), k < zs.length → (∀ z ∈ zs, 0 ≤ z) → 0 ≤ v → (num (zs.set k v) : Int) = num zs + (v - zs.getD k 0) * 256 ^ k
  | [], _, _, h, _, _ => by simp at h
  | z :: zs, 0, v, _, hz, hv => by
    have := hz z (by simp)
    simp only [List.set_cons_zero, num, List.getD_cons_zero, Int.pow_zero]
    omega
  | z :: zs, k + 1, v, h, hz, hv => by
    have ih := num_set zs k v (by simpa using h) (fun y hy => hz y (by simp [hy])) hv
    simp only [List.set_cons_succ, num, List.getD_cons_succ, Int.pow_succ]
    rw [Int.natCast_add, Int.natCast_add, Int.natCast_mul, Int.natCast_mul, ih]
    grind
theorem num_strike (zs : List Int) (hl : zs.length = 32) (hz : ∀ z ∈ zs, 0 ≤ z ∧ z ≤ 255) : (num (strike zs) : Int) = ((num zs % 57896044618658097711785492504343953926634992332820282019728792003956564819968 : Nat) : Int) := by
  have h := num_set zs 31 (zs.getD 31 0 % 128) (by omega) (fun z h => (hz z h).1) (by omega)
  have hx := num_get zs 31 hz
  have nl := num_lt zs hz
  rw [hl] at nl
  unfold strike
  rw [h, hx]
  have e1 : (256 : Nat) ^ 31 = 452312848583266388373324160190187140051835877600158453279131187530910662656 := by decide +kernel
  have e2 : (256 : Int) ^ 31 = 452312848583266388373324160190187140051835877600158453279131187530910662656 := by decide +kernel
  have e3 : (256 : Nat) ^ 32 = 115792089237316195423570985008687907853269984665640564039457584007913129639936 := by decide +kernel
  rw [e1, e2]
  rw [e3] at nl
  omega
end Go.Proofs.YtgijodenblpbgaaDoor
