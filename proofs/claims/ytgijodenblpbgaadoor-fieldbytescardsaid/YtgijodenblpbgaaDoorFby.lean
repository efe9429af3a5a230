import Derived.Test.YtgijodenblpbgaaDoorRre
namespace Go.Proofs.YtgijodenblpbgaaDoor
open Go.RowKit
theorem range_newB (w : World) (cs : List Value) (t : TypeId) : (w.alloc (.cells cs.toArray t)).rangeAt w.heap.size 0 cs := fun j v hv => by
  rw [Nat.zero_add, World.cell?_alloc_mark]
  simpa using hv
theorem lst_zero : lst 0 = zero5 := rfl
theorem wpList_load_midW {P : Program} {ops : Array Oper} {rest : List Oper} {op : Oper} {a : Act} {w : World} {Q : Exit → Act → World → Prop} (hw : Region.wanted op (yielded ops a.tmps) = true) (ty : TypeId) (x : Operand) (ho : op.op = .load ty x)
    (b o : Nat) (hx : a.eval x = .pointer (some ⟨b, o, none⟩)) (cs : List Value) (d : TypeDesc) (hc : w.rangeAt b o cs)
    (hu : P.underlying ty = some d) (hd : d.isRow = true) (hi : (P.info? ty).map (·.size) = some cs.length)
    (h : wpList P ops Q rest (a.put op.dst (.agg cs.toArray)) w) : wpList P ops Q (op :: rest) a w := by
  simp only [wpList, hw, if_true]
  exact Or.inl (wp_load_mid ty x ho b o hx cs d hc hu hd hi h)
set_option maxRecDepth 100000 in
set_option maxHeartbeats 32000000 in
theorem bytes_any (a : E5) (zs : List Int) (w : World) (hP : Pm w) (ha : a.ok) (hl : zs.length = 32) (hz : ∀ z ∈ zs, 0 ≤ z ∧ z ≤ 255) : Calls Tryd.prog 3 #[a.v, bv zs] w fun e w' => e = .returned (.bool true) ∧ Below w.heap.size w w' := by
  have xm := mod_in a.n
  have OA : Hid (∀ w, Pm w → Calls Tryd.prog 9 #[a.v] w fun e w' => e = .returned (.agg (dg (a.n % pF)).toArray) ∧ Below w.heap.size w w') := hidden (fun w P => of_any a w ha P)
  have EN : Hid (∀ w, Calls Tryd.prog 8 #[a.v] w fun e w' => e = .returned (.agg (vb (bytes (a.n % pF))).toArray) ∧ Below w.heap.size w w') := hidden (fun w => Encode_any a w ha)
  have RE := hidden (fun w => rEncode_any (a.n % pF) w xm.1 (Int.lt_trans xm.2 (by decide)))
  have E1 : Hid (∀ w, (Op.equalIn 10000 26 (.agg (vb (bytes (a.n % pF))).toArray) (.agg (vb (bytes (a.n % pF))).toArray)).run Tryd.prog w = .ok true w) := hidden (fun w => (eq32 (bytes (a.n % pF)) (bytes (a.n % pF)) w (bytes_len _) (bytes_len _)).trans (by simp))
  obtain ⟨cs1, cs2⟩ := canon_same zs
  obtain ⟨B, hB⟩ : ∃ B, decide (bytes ((num zs : Int) % pF) = zs) = B := ⟨_, rfl⟩
  have hB1 : decide (bytes (((num zs % 57896044618658097711785492504343953926634992332820282019728792003956564819968 : Nat) : Int) % Fm.P) = zs) = B := by rw [← hB]; exact decide_eq_decide.2 cs1
  have DE := fun w => Decode_any zs w hl hz ((num zs % 57896044618658097711785492504343953926634992332820282019728792003956564819968 : Nat) : Int) rfl B hB1
  have RD := hidden (fun w P => rDecode_any zs w hl hz P B hB)
  obtain ⟨M, hM⟩ : ∃ M : Int, ((num zs % 57896044618658097711785492504343953926634992332820282019728792003956564819968 : Nat) : Int) = M := ⟨_, rfl⟩
  have hx : (cond B (lst M) zero5) = lst (cond B ((num zs : Int) % pF) 0) := by
    cases B with
    | false => exact lst_zero.symm
    | true =>
      obtain ⟨c1, c2⟩ := cs2 (of_decide_eq_true hB)
      show lst M = lst ((num zs : Int) % pF)
      rw [← hM, c1, c2]
  have km : 0 ≤ cond B ((num zs : Int) % pF) 0 ∧ cond B ((num zs : Int) % pF) 0 < pF := by
    cases B with
    | false => exact ⟨Int.le_refl _, show (0 : Int) < pF by decide⟩
    | true => exact mod_in _
  rw [hM, hx] at DE
  have DEH := hidden DE
  obtain ⟨K, hK⟩ : ∃ K, cond B ((num zs : Int) % pF) 0 = K := ⟨_, rfl⟩
  obtain ⟨er, her⟩ : ∃ er : Int, cond B 0 3 = er := ⟨_, rfl⟩
  have IS1 : Hid (∀ w, Calls Tryd.prog 13 #[(lst K).v, .agg (dg K).toArray] w fun e w' => e = .returned (.bool true) ∧ Below w.heap.size w w') := hidden (fun w => is_any K w (hK ▸ km).1 (hK ▸ km).2)
  rw [hK, her] at DEH RD
  have RU := hidden (fun w => fixF (Reduce_any zs w hl hz))
  have RR := hidden (fun w P => rReduce_any zs w hl hz P)
  rw [hM] at RU RR
  have IS2 : Hid (∀ w, Calls Tryd.prog 13 #[(lst (M % pF)).v, .agg (dg (M % pF)).toArray] w fun e w' => e = .returned (.bool true) ∧ Below w.heap.size w w') := hidden (fun w => is_any _ w (mod_in _).1 (mod_in _).2)
  have h1 := Ru.new5 w a 24
  have f2 := ((FR.start w hP).keep (bl_alloc w (.cells #[.int .u64 a.x0, .int .u64 a.x1, .int .u64 a.x2, .int .u64 a.x3, .int .u64 a.x4] 24))).keep (bl_alloc _ (.cells (vb zs).toArray 26))
  have r2 := range_newB (w.alloc (.cells #[.int .u64 a.x0, .int .u64 a.x1, .int .u64 a.x2, .int .u64 a.x3, .int .u64 a.x4] 24)) (vb zs) 26
  rw [World.size_alloc] at r2
  have S0 := hidden (⟨h1.keep (bl_alloc _ _), r2, f2, fun p hp => (by cases hp)⟩ : YW w a (vb zs) [] _)
  have sz : Hid (w.heap.size + 1 < ((w.alloc (.cells #[.int .u64 a.x0, .int .u64 a.x1, .int .u64 a.x2, .int .u64 a.x3, .int .u64 a.x4] 24)).alloc (.cells (vb zs).toArray 26)).heap.size) := hidden (by simp)
  have D := hidden dgs
  have VZ := v8 zs hl
  have UB := hidden VZ.u
  have IB := hidden VZ.i
  have ebv : bv zs = .agg (vb zs).toArray := rfl
  rw [ebv] at DEH RU
  rw [ebv]
  clear ebv VZ h1 f2 r2 hP xm ha hl hz cs1 cs2 hB hB1 DE hx km hK her hM
  generalize vb (bytes (a.n % pF)) = ys at *
  generalize vb zs = bs at *
  generalize a.n % pF = X at *
  generalize M % pF = N2 at *
  generalize lst N2 = l2 at *
  generalize lst K = xk at *
  simp only [E5.v] at OA EN DEH RU IS1 IS2 ⊢
  go_enter Tryd.func3, Tryd.ntmps3
  go_upto_region 1 with fail
  generalize ((w.alloc (.cells #[.int .u64 a.x0, .int .u64 a.x1, .int .u64 a.x2, .int .u64 a.x3, .int .u64 a.x4] 24)).alloc (.cells bs.toArray 26)) = wB at S0 sz ⊢
  go_cut [14] (fun v wx => v = .bool false ∧ YW w a bs [] wx ∧ w.heap.size + 1 < wx.heap.size)
  case first =>
    have OW := hidden (S0.out.keep (drew_bl wB))
    have s1 : w.heap.size + 1 < wB.drew.heap.size := by have := sz.out; simpa using this
    refine wp_region_held_drew (S := fun w' => YW w a bs [] w' ∧ w.heap.size + 1 < w'.heap.size) (by kernel_rfl) ⟨OW.out, s1⟩ (fun hHeld => ?_)
    generalize wB.drew = wd at OW hHeld s1 ⊢
    refine wpAnyH_take (i := 0) (oi := _) (v := ?_) rfl (by kernel_rfl) (by kernel_rfl) (by kernel_rfl) (fun _ _ _ h => h) (Or.inl ⟨by rfl, ?_⟩) hHeld ?_
    rotate_left 1
    · (intro w0 hSw; have d0 := hSw.1.a.c 0 (by omega); have d1 := hSw.1.a.c 1 (by omega); have d2 := hSw.1.a.c 2 (by omega); have d3 := hSw.1.a.c 3 (by omega); have d4 := hSw.1.a.c 4 (by omega); simp only [lmf] at d0 d1 d2 d3 d4; clear hSw; go_simp; try with_reducible rfl)
    refine wpAnyH_take (i := 2) (oi := _) (v := ?_) rfl (by kernel_rfl) (by kernel_rfl) (by kernel_rfl) (fun _ _ _ h => h) (Or.inl ⟨by rfl, ?_⟩) hHeld ?_
    rotate_left 1
    · (intro w0 hSw; have d0 := hSw.1.a.c 0 (by omega); have d1 := hSw.1.a.c 1 (by omega); have d2 := hSw.1.a.c 2 (by omega); have d3 := hSw.1.a.c 3 (by omega); have d4 := hSw.1.a.c 4 (by omega); simp only [lmf] at d0 d1 d2 d3 d4; clear hSw; go_simp; try with_reducible rfl)
    refine wpAnyH_ready (rs := [1]) (by kernel_rfl) (by simp) ?_
    refine AllReadyH.cons (o := _) rfl (fun K' hK => ?_) AllReadyH.nil
    go_simp
    refine (EN.out _).mono ?_
    rintro e w1 ⟨rfl, hb1⟩
    have k1 := hidden (⟨hHeld.1.keep hb1, Nat.lt_of_lt_of_le hHeld.2 hb1.size⟩ : YW w a bs [] w1 ∧ w.heap.size + 1 < w1.heap.size)
    go_wp2_with fail
    refine hK.out _ _ k1.out (fun hHeld2 => ?_)
    clear hK K' hHeld hb1
    have hHeld := hHeld2
    clear hHeld2
    refine wpAnyH_ready (rs := [3]) (by kernel_rfl) (by simp) ?_
    refine AllReadyH.cons (o := _) rfl (fun K' hK => ?_) AllReadyH.nil
    go_simp
    refine (OA.out _ hHeld.1.f.p).mono ?_
    rintro e w2 ⟨rfl, hb2⟩
    have k2 := hidden (⟨hHeld.1.keep hb2, Nat.lt_of_lt_of_le hHeld.2 hb2.size⟩ : YW w a bs [] w2 ∧ w.heap.size + 1 < w2.heap.size)
    go_wp2_with fail
    refine hK.out _ _ k2.out (fun hHeld2 => ?_)
    clear hK K' hHeld hb2
    have hHeld := hHeld2
    clear hHeld2
    refine wpAnyH_ready (rs := [4]) (by kernel_rfl) (by simp) ?_
    refine AllReadyH.cons (o := _) rfl (fun K' hK => ?_) AllReadyH.nil
    go_simp
    refine (RE.out _).mono ?_
    rintro e w3 ⟨rfl, hb3⟩
    have k3 := hidden (⟨hHeld.1.keep hb3, Nat.lt_of_lt_of_le hHeld.2 hb3.size⟩ : YW w a bs [] w3 ∧ w.heap.size + 1 < w3.heap.size)
    go_wp2_with fail
    refine hK.out _ _ k3.out (fun hHeld2 => ?_)
    clear hK K' hHeld hb3
    have hHeld := hHeld2
    clear hHeld2
    have EQ := E1.out
    refine wpAnyH_take (i := 5) (oi := _) (v := ?_) rfl (by kernel_rfl) (by kernel_rfl) (by kernel_rfl) (fun _ _ _ h => h) (Or.inl ⟨by rfl, ?_⟩) hHeld ?_
    rotate_left 1
    · (intro w0 hSw; clear hSw; go_simp; try with_reducible rfl)
    clear EQ
    refine wpAnyH_done (by kernel_rfl) ?_ _
    have BB := hidden hHeld
    clear hHeld OW s1 k1 k2 k3
    go_wp2_with fail
    go_meet
    exact ⟨rfl, BB.out⟩
  case rest =>
  obtain ⟨rfl, y1, s1⟩ := hcut
  clear S0 sz EN OA RE E1
  have Y1 := hidden y1
  have SZ := hidden s1
  clear y1 s1
  go_upto_region 3 with fail
  go_cut [5, 6] (fun v ev wx => ∃ P : Nat, v = .pointer (some ⟨P, 0, none⟩) ∧ ev = .int .i64 er ∧ YX w a bs [] P xk wx ∧ w.heap.size + 1 < wx.heap.size)
  case first =>
    have RB := hidden Y1.out.b
    go_wp2_with (first | refine wpList_load_mid rfl 26 _ rfl (w.heap.size + 1) 0 (by rfl) bs _ RB.out UB.out rfl IB.out ?_)
    refine (DEH.out _).mono ?_
    rintro e w1 ⟨rfl, hb⟩
    have hs := Nat.lt_of_lt_of_le SZ.out hb.size
    have NX := hidden (⟨(Y1.out.keep hb).keep (bl_alloc _ _), Ru.new5 w1 xk 24, hs⟩ : YX w a bs [] w1.heap.size xk (w1.alloc (.cells #[.int .u64 xk.x0, .int .u64 xk.x1, .int .u64 xk.x2, .int .u64 xk.x3, .int .u64 xk.x4] 24)))
    have S2 := hidden hs
    clear hb hs RB Y1 SZ
    go_wp2_with fail
    go_meet
    exact ⟨_, rfl, rfl, NX.out, by have := S2.out; simp; omega⟩
  case rest =>
  obtain ⟨P, rfl, rfl, y1, s1⟩ := hcut
  clear Y1 SZ DEH
  have Y1 := hidden y1
  have SZ := hidden s1
  clear y1 s1
  go_upto_region 4 with fail
  go_cut [7, 8] (fun v ev wx => ∃ G : Nat, v = .pointer (some ⟨G, 0, none⟩) ∧ ev = .int .i64 er ∧ YX w a bs [(G, K)] P xk wx)
  case first =>
    have RB := hidden Y1.out.y.b
    go_wp2_with (first | refine wpList_load_mid rfl 26 _ rfl (w.heap.size + 1) 0 (by rfl) bs _ RB.out UB.out rfl IB.out ?_)
    refine (RD.out _ Y1.out.y.f.p).mono ?_
    rintro e w1 ⟨rfl, hb⟩
    have hs := Nat.lt_of_lt_of_le SZ.out hb.size
    have k1 := Y1.out.keep hb
    have NX := hidden (k1.row hs K 29)
    have TH := hidden ((k1.y.f.zero 29).th w1.heap.size 0 K (by simp))
    have I2 := hidden (D.out.i2 K)
    have O1 := hidden (D.out.o K)
    clear hb hs RB Y1 SZ k1
    generalize dg K = ds at NX TH I2 O1 ⊢
    go_wp2_with (first | refine wpList_store_mid rfl 29 _ _ rfl w1.heap.size 0 ds.toArray (by rfl) (by rfl) TH.out I2.out O1.out ?_)
    go_meet
    exact ⟨_, rfl, rfl, NX.out⟩
  case rest =>
  obtain ⟨G, rfl, rfl, y1⟩ := hcut
  clear Y1 SZ RD
  have Y1 := hidden y1
  clear y1
  go_upto_region 5 with fail
  go_cut [33] (fun v wx => v = .bool false ∧ YX w a bs [(G, K)] P xk wx)
  case first =>
    have d0 := Y1.out.x.c 0 (by omega)
    have d1 := Y1.out.x.c 1 (by omega)
    have d2 := Y1.out.x.c 2 (by omega)
    have d3 := Y1.out.x.c 3 (by omega)
    have d4 := Y1.out.x.c 4 (by omega)
    simp only [lmf] at d0 d1 d2 d3 d4
    have RG := hidden (Y1.out.y.f.ra G K (by simp))
    go_wp2_with (first | refine wpList_load_midW rfl 29 _ rfl G 0 (by rfl) (dg K) _ RG.out D.out.u rfl (D.out.i K) ?_)
    refine (IS1.out _).mono ?_
    rintro e w1 ⟨rfl, hb⟩
    have NX := hidden (Y1.out.keep hb)
    clear hb RG d0 d1 d2 d3 d4 Y1
    go_wp2_with fail
    go_meet
    exact ⟨rfl, NX.out⟩
  case rest =>
  obtain ⟨rfl, y1⟩ := hcut
  clear Y1 IS1
  have Y1 := hidden y1
  clear y1
  go_upto_region 7 with fail
  have OW := hidden (Y1.out.keep (drew_bl wc))
  refine wp_region_held_drew (S := YX w a bs [(G, K)] P xk) (by kernel_rfl) OW.out (fun hHeld => ?_)
  generalize wc.drew = wd at OW hHeld ⊢
  clear Y1 OW
  refine wpAnyH_take (i := 0) (oi := _) (v := _) rfl (by kernel_rfl) (by kernel_rfl) (by kernel_rfl) (fun _ _ _ h => h) (yieldsIf_load_mid (by rfl) _ _ rfl _ _ rfl _ _ (fun _ h => h.y.b) UB.out rfl IB.out) hHeld ?_
  refine wpAnyH_take (i := 2) (oi := _) (v := _) rfl (by kernel_rfl) (by kernel_rfl) (by kernel_rfl) (fun _ _ _ h => h) (yieldsIf_load_mid (by rfl) _ _ rfl _ _ rfl _ _ (fun _ h => h.y.b) UB.out rfl IB.out) hHeld ?_
  refine wpAnyH_ready (rs := [1]) (by kernel_rfl) (by simp) ?_
  refine AllReadyH.cons (o := _) rfl (fun K' hK => ?_) AllReadyH.nil
  go_simp
  refine (RU.out _).mono ?_
  rintro e w4 ⟨rfl, hb4⟩
  have k4 := hidden (hHeld.keep hb4)
  go_wp2_with fail
  refine hK.out _ _ k4.out (fun hHeld2 => ?_)
  clear hK K' hHeld hb4
  have hHeld := hHeld2
  clear hHeld2
  refine wpAnyH_ready (rs := [3]) (by kernel_rfl) (by simp) ?_
  refine AllReadyH.cons (o := _) rfl (fun K' hK => ?_) AllReadyH.nil
  go_simp
  refine (RR.out _ hHeld.y.f.p).mono ?_
  rintro e w5 ⟨rfl, hb5⟩
  have k5 := hidden (hHeld.keep hb5)
  go_wp2_with fail
  refine hK.out _ _ k5.out (fun hHeld2 => ?_)
  clear hK K' hHeld hb5
  have hHeld := hHeld2
  clear hHeld2
  refine wpAnyH_ready (rs := [4]) (by kernel_rfl) (by simp) ?_
  refine AllReadyH.cons (o := _) rfl (fun K' hK => ?_) AllReadyH.nil
  go_simp
  refine (IS2.out _).mono ?_
  rintro e w6 ⟨rfl, hb6⟩
  have k6 := hidden (hHeld.keep hb6)
  go_wp2_with fail
  refine hK.out _ _ k6.out (fun hHeld2 => ?_)
  clear hK K' hHeld hb6
  have hHeld := hHeld2
  clear hHeld2
  refine wpAnyH_take (i := 5) (oi := _) (v := ?_) rfl (by kernel_rfl) (by kernel_rfl) (by kernel_rfl) (fun _ _ _ h => h) (Or.inl ⟨by rfl, ?_⟩) hHeld ?_
  rotate_left 1
  · (intro w0 hSw; clear hSw; go_simp; try with_reducible rfl)
  refine wpAnyH_done (by kernel_rfl) ?_ _
  have BB := hidden hHeld.y.f.bel
  clear hHeld
  go_wp2_with fail
  go_ret
  exact ⟨rfl, BB.out⟩
end Go.Proofs.YtgijodenblpbgaaDoor
