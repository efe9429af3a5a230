import Derived.Test.YtgijodenblpbgaaDoorRmu
import Derived.Test.YtgijodenblpbgaaDoorFxy
import Derived.Test.YtgijodenblpbgaaDoorPow
namespace Go.Proofs.YtgijodenblpbgaaDoor
open Go.RowKit
/-- the digits as values -/
def dg (N : Int) : List Value := (digs N).map fun z => Value.int .i64 z
theorem dg_len (N : Int) : (dg N).length = 10 := by simp [dg, digs]
theorem dg_one (N : Int) : ∀ v ∈ dg N, v.oneCell' = true := fun v hv => by
  obtain ⟨z, _, rfl⟩ := List.mem_map.1 hv
  rfl
structure DG : Prop where
  u : Tryd.prog.underlying 29 = some (.array 10 2)
  i : ∀ N, (Tryd.prog.info? 29).map (·.size) = some (dg N).length
  i2 : ∀ N, (Tryd.prog.info? 29).map (·.size) = some (dg N).toArray.size
  o : ∀ N, (dg N).toArray.all (·.oneCell') = true
theorem dgs : DG := ⟨(f10 0).u, fun N => (f10 N).i, fun N => (f10 N).i2, fun N => (f10 N).o⟩
/-- rows of ten digits that lie there -/
structure FR (w0 : World) (L : List (Nat × Int)) (w : World) : Prop where
  r : ∀ p ∈ L, w.rangeAt p.1 0 (dg p.2) ∧ w.there p.1 0 10 ∧ w0.heap.size ≤ p.1
  p : Pm w
  g : 1 < w0.heap.size
  bel : Below w0.heap.size w0 w
theorem FR.keep {w0 : World} {L : List (Nat × Int)} {w w' : World} (h : FR w0 L w) (hb : Below w.heap.size w w') : FR w0 L w' :=
  ⟨fun p hp => ⟨range_keep (h.r p hp).1 hb, there_keepF (h.r p hp).2.1 hb, (h.r p hp).2.2⟩, h.p.keep hb, h.g, bl_trans h.bel hb⟩
theorem FR.lt {w0 : World} {L : List (Nat × Int)} {w : World} (h : FR w0 L w) (p : Nat × Int) (hp : p ∈ L) : p.1 < w.heap.size := by
  obtain ⟨u, hu⟩ := Option.isSome_iff_exists.1 ((h.r p hp).2.1 0 (by omega)).1
  exact World.block_lt_of_cell? w _ hu
theorem FR.sub {w0 : World} {L M : List (Nat × Int)} {w : World} (h : FR w0 L w) (hs : ∀ p ∈ M, p ∈ L) : FR w0 M w := ⟨fun p hp => h.r p (hs p hp), h.p, h.g, h.bel⟩
theorem Pm.lt1 {w : World} (h : Pm w) : 1 < w.heap.size := World.block_lt_of_cell? w ⟨1, 0 + 0, none⟩ (h.r 0 _ rfl)
theorem FR.start (w : World) (h : Pm w) : FR w [] w := ⟨fun p hp => (by cases hp), h, h.lt1, Below.refl _ _⟩
theorem FR.row {w0 : World} {L : List (Nat × Int)} {w : World} (h : FR w0 L w) (N : Int) (t : TypeId) : FR w0 ((w.heap.size, N) :: L) (w.alloc (.cells (dg N).toArray t)) := by
  have k := h.keep (bl_alloc w (.cells (dg N).toArray t))
  refine ⟨fun p hp => ?_, k.p, k.g, k.bel⟩
  rcases List.mem_cons.1 hp with rfl | hp
  · have z := digs_row w N t
    exact ⟨by have := z.range; rw [vs_digs] at this; exact this, z.there, h.bel.size⟩
  · exact k.r p hp
theorem FR.zero {w0 : World} {L : List (Nat × Int)} {w : World} (h : FR w0 L w) (t : TypeId) : FR w0 ((w.heap.size, 0) :: L) (w.alloc (.cells #[.int .i64 0, .int .i64 0, .int .i64 0, .int .i64 0, .int .i64 0, .int .i64 0, .int .i64 0, .int .i64 0, .int .i64 0, .int .i64 0] t)) := by
  have e : (dg 0).toArray = #[.int .i64 0, .int .i64 0, .int .i64 0, .int .i64 0, .int .i64 0, .int .i64 0, .int .i64 0, .int .i64 0, .int .i64 0, .int .i64 0] := rfl
  rw [← e]
  exact h.row 0 t
theorem FR.set {w0 : World} {L M : List (Nat × Int)} {w : World} (h : FR w0 L w) {c : Nat} {o : Int} (N : Int) (hc : (c, o) ∈ L) (hs : ∀ p ∈ M, p ∈ L ∧ c ≠ p.1) : FR w0 ((c, N) :: M) (w.setCells c 0 (dg N)) := by
  have hg := (h.r _ hc).2.2
  have ht := (h.r _ hc).2.1
  have := h.g
  simp only at hg ht
  refine ⟨fun p hp => ?_, h.p.set _ (by omega) _, h.g, below_setCellsR c (dg N) 0 h.bel (by omega)⟩
  rcases List.mem_cons.1 hp with rfl | hp
  · exact ⟨World.rangeAt_setCells_same w c 0 (dg N) (by rw [dg_len]; exact ht), there_set ht _ _, hg⟩
  · obtain ⟨h1, h2⟩ := hs p hp
    exact ⟨World.rangeAt_setCells_apart (h.r p h1).1 _ _ _ (Or.inl (fun e => h2 e.symm)), there_set (h.r p h1).2.1 _ _, (h.r p h1).2.2⟩
theorem FR.th {w0 : World} {L : List (Nat × Int)} {w : World} (h : FR w0 L w) (c : Nat) (o N : Int) (hc : (c, o) ∈ L) : w.there c 0 (dg N).toArray.size := by
  have := (h.r _ hc).2.1
  simpa [dg_len] using this
theorem FR.ra {w0 : World} {L : List (Nat × Int)} {w : World} (h : FR w0 L w) (c : Nat) (o : Int) (hc : (c, o) ∈ L) : w.rangeAt c 0 (dg o) := (h.r _ hc).1
theorem dg_load (w : World) (c : Nat) (N : Int) (h : w.there c 0 (dg N).toArray.size) : (loadVar 29 ⟨c, 0, none⟩).run Tryd.prog (w.setCells c 0 (dg N)) = .ok (.agg (dg N).toArray) (w.setCells c 0 (dg N)) :=
  run_loadVar_mid (P := Tryd.prog) (w.setCells c 0 (dg N)) c 0 29 (dg N) _ (World.rangeAt_setCells_same w c 0 (dg N) (by simpa using h)) dgs.u rfl (dgs.i N)
theorem mul_dg (X Y : Int) (w : World) (x : 0 ≤ X ∧ X < pF) (y : 0 ≤ Y ∧ Y < pF) (hP : Pm w) :
    Calls Tryd.prog 23 #[.agg (dg X).toArray, .agg (dg Y).toArray] w fun e w' => e = .returned (.agg (dg ((X * Y) % pF)).toArray) ∧ Below w.heap.size w w' := rMul_any X Y w x.1 x.2 y.1 y.2 hP
theorem mod_in (N : Int) : 0 ≤ N % pF ∧ N % pF < pF := ⟨Int.emod_nonneg _ (by decide), Int.emod_lt_of_pos _ (by decide)⟩
theorem pow_mul (X : Int) (s t : Nat) : (X ^ s % pF) * (X ^ t % pF) % pF = X ^ (s + t) % pF := by rw [← Int.mul_emod, ← Int.pow_add]
/-- the row of One -/
structure On (w : World) : Prop where
  r : w.rangeAt 2 0 (dg 1)
theorem On.keep {w w' : World} (h : On w) (hb : Below w.heap.size w w') : On w' := ⟨range_keep h.r hb⟩
theorem Byt.set {w : World} {b : Nat} {zs : List Int} (h : Byt w b zs) (c : Nat) (hne : c ≠ b) (vs : List Value) : Byt (w.setCells c 0 vs) b zs := ⟨h.1, fun j hj => (World.cell?_setCells_out c vs 0 w ⟨b, j, none⟩ (fun e _ => absurd e.symm hne)).trans (h.2 j hj)⟩
set_option maxRecDepth 100000 in
set_option maxHeartbeats 16000000 in
theorem rPower_any (X : Int) (zs : List Int) (w : World) (hx : 0 ≤ X ∧ X < pF) (hl : zs.length = 32) (hz : ∀ z ∈ zs, 0 ≤ z ∧ z ≤ 255) (hP : Pm w) (hO : On w) :
    Calls Tryd.prog 33 #[.agg (dg X).toArray, bv zs] w fun e w' => e = .returned (.agg (dg (X ^ num zs % pF)).toArray) ∧ Below w.heap.size w w' := by
  have HX := hidden hx
  have HL := hidden hl
  have HZ := hidden hz
  have D := hidden dgs
  have F2 := ((FR.start w hP).row X 29).keep (bl_alloc _ (.cells (zs.map fun z => Value.int .u8 z).toArray 26))
  have F3 := F2.zero 29
  simp only [World.size_alloc] at F3
  have bl := bl_alloc3 w (.cells (dg X).toArray 29) (.cells (zs.map fun z => Value.int .u8 z).toArray 26) (.cells #[.int .i64 0, .int .i64 0, .int .i64 0, .int .i64 0, .int .i64 0, .int .i64 0, .int .i64 0, .int .i64 0, .int .i64 0, .int .i64 0] 29)
  have b2 := Byt.new (w.alloc (.cells (dg X).toArray 29)) zs 26 hl
  simp only [World.size_alloc] at b2
  have B3 := hidden (b2.keep (bl_alloc _ (.cells #[.int .i64 0, .int .i64 0, .int .i64 0, .int .i64 0, .int .i64 0, .int .i64 0, .int .i64 0, .int .i64 0, .int .i64 0, .int .i64 0] 29)))
  have O3 := hidden (hO.keep bl)
  have FF := hidden F3
  have h256 : num zs / 2 ^ 256 = 0 := Nat.div_eq_of_lt (Nat.lt_of_lt_of_le (num_lt zs hz) (by rw [hl]; decide))
  have H256 := hidden h256
  clear F2 F3 bl b2 hP hO hx hl hz h256
  unfold bv
  go_enter Tryd.func33, Tryd.ntmps33
  go_upto_region 1 with fail
  generalize (((w.alloc (.cells (dg X).toArray 29)).alloc (.cells (zs.map fun z => Value.int .u8 z).toArray 26)).alloc (.cells #[.int .i64 0, .int .i64 0, .int .i64 0, .int .i64 0, .int .i64 0, .int .i64 0, .int .i64 0, .int .i64 0, .int .i64 0, .int .i64 0] 29)) = wB at FF B3 O3 ⊢
  go_cut [5] (fun v wx => ∃ O : Nat, v = .pointer (some ⟨O, 0, none⟩) ∧ w.heap.size + 1 + 1 < O ∧ FR w [(O, 1), (w.heap.size + 1 + 1, 0), (w.heap.size, X)] wx ∧ Byt wx (w.heap.size + 1) zs)
  case first =>
    have N1 := FF.out.zero 29
    have l0 := FF.out.lt (w.heap.size + 1 + 1, 0) (by simp)
    have TH := hidden (N1.th wB.heap.size 0 1 (by simp))
    have N2 := hidden (N1.set (c := wB.heap.size) (o := 0) 1 (M := [(w.heap.size + 1 + 1, 0), (w.heap.size, X)]) (by simp) (by simp at l0 ⊢; omega))
    have Y2 := hidden ((B3.out.keep (bl_alloc wB (.cells #[.int .i64 0, .int .i64 0, .int .i64 0, .int .i64 0, .int .i64 0, .int .i64 0, .int .i64 0, .int .i64 0, .int .i64 0, .int .i64 0] 29))).set wB.heap.size (by simp at l0; omega) (dg 1))
    have RO := hidden O3.out.r
    have l1 : w.heap.size + 1 + 1 < wB.heap.size := l0
    clear N1 l0
    go_wp2_with (first | refine wpList_load_mid rfl 29 _ rfl 2 0 (by rfl) (dg 1) _ RO.out D.out.u rfl (D.out.i 1) ?_ | refine wpList_store_mid rfl 29 _ _ rfl wB.heap.size 0 (dg 1).toArray (by rfl) (by rfl) TH.out (D.out.i2 1) (D.out.o 1) ?_)
    go_meet
    exact ⟨_, rfl, l1, N2.out, Y2.out⟩
  case rest =>
  obtain ⟨O, rfl, hO, f1, y1⟩ := hcut
  have F1 := hidden f1
  have Y1 := hidden y1
  clear f1 y1 FF B3 O3
  go_wp2_with fail
  go_loopw [6] (fun i w' => ∃ k : Nat, k ≤ 256 ∧ i = .int .i64 ((k : Int) - 1) ∧ Hid (FR w [(O, X ^ (num zs / 2 ^ k) % pF), (w.heap.size + 1 + 1, 0), (w.heap.size, X)] w') ∧ Hid (Byt w' (w.heap.size + 1) zs)) (fun i _ => (intOf i + 1).toNat)
  case atStart => exact ⟨256, by omega, rfl, hidden (by rw [H256.out, show X ^ 0 % pF = 1 by rw [Int.pow_zero]; rfl]; exact F1.out), Y1⟩
  case round =>
    clear F1 Y1
    obtain ⟨k, hk, rfl, hF, hY⟩ := hrel
    by_cases hk0 : 0 < k
    · obtain ⟨m, rfl⟩ : ∃ m, k = m + 1 := ⟨k - 1, by omega⟩
      have e0 : ((m + 1 : Nat) : Int) - 1 = (m : Int) := by omega
      rw [e0]
      have m0 : (0 : Int) ≤ (m : Int) := by omega
      have m1 : (m : Int) ≤ 255 := by omega
      have QQ := hidden (fun w P => mul_dg (X ^ (num zs / 2 ^ (m + 1)) % pF) (X ^ (num zs / 2 ^ (m + 1)) % pF) w (mod_in _) (mod_in _) P)
      rw [pow_mul] at QQ
      have hstep : ∀ b : Nat, num zs / 2 ^ m % 2 = b → num zs / 2 ^ m = num zs / 2 ^ (m + 1) + num zs / 2 ^ (m + 1) + b := by
        intro b hb
        have e1 : num zs / 2 ^ (m + 1) = num zs / 2 ^ m / 2 := by rw [Nat.pow_succ, Nat.div_div_eq_div_mul]
        rw [e1]; omega
      have HS := hidden hstep
      have MX := hidden (fun w P => mul_dg (X ^ (num zs / 2 ^ (m + 1) + num zs / 2 ^ (m + 1)) % pF) X w (mod_in _) HX.out P)
      rw [show X ^ (num zs / 2 ^ (m + 1) + num zs / 2 ^ (m + 1)) % pF * X % pF = X ^ (num zs / 2 ^ (m + 1) + num zs / 2 ^ (m + 1) + 1) % pF by rw [Int.pow_succ, Int.mul_emod, Int.emod_emod, ← Int.mul_emod]] at MX
      have HBIT := hidden (num_bit zs m HZ.out)
      have hxb : 0 ≤ zs.getD (m / 8) 0 ∧ zs.getD (m / 8) 0 ≤ 255 := by
        have hl := HL.out
        rw [List.getD_eq_getElem?_getD, List.getElem?_eq_getElem (by omega)]
        exact HZ.out _ (List.getElem_mem _)
      obtain ⟨Q, hQ⟩ : ∃ Q, X ^ (num zs / 2 ^ (m + 1)) % pF = Q := ⟨_, rfl⟩
      obtain ⟨S, hS⟩ : ∃ S, X ^ (num zs / 2 ^ (m + 1) + num zs / 2 ^ (m + 1)) % pF = S := ⟨_, rfl⟩
      obtain ⟨T, hT⟩ : ∃ T, X ^ (num zs / 2 ^ (m + 1) + num zs / 2 ^ (m + 1) + 1) % pF = T := ⟨_, rfl⟩
      rw [hQ, hS] at QQ
      rw [hS, hT] at MX
      rw [hQ] at hF
      have E0 : Hid (num zs / 2 ^ m % 2 = 0 → X ^ (num zs / 2 ^ m) % pF = S) := hidden (fun h => by rw [HS.out 0 h, Nat.add_zero, hS])
      have E1 : Hid (num zs / 2 ^ m % 2 = 1 → X ^ (num zs / 2 ^ m) % pF = T) := hidden (fun h => by rw [HS.out 1 h, hT])
      clear hQ hS hT hstep HS e0
      have RQ := hidden (hF.out.ra O Q (by simp))
      generalize wr = ws at *
      go_wp2_with (first | refine wpList_load_mid rfl 29 _ rfl O 0 (by rfl) (dg Q) _ RQ.out D.out.u rfl (D.out.i Q) ?_)
      refine (QQ.out _ hF.out.p).mono ?_
      rintro e w1 ⟨rfl, hb1⟩
      have k1 := hF.out.keep hb1
      have TH := hidden (k1.th O Q S (by simp))
      have F2 := hidden (k1.set (c := O) (o := Q) S (M := [(w.heap.size + 1 + 1, 0), (w.heap.size, X)]) (by simp) (by simp; omega))
      have Y2 := hidden ((hY.out.keep hb1).set O (by omega) (dg S))
      clear k1 hb1 hF hY RQ QQ
      go_upto_region 6 with (first | refine wpList_store_mid rfl 29 _ _ rfl O 0 (dg S).toArray (by rfl) (by rfl) TH.out (D.out.i2 S) (D.out.o S) ?_)
      simp only [Act.put]
      generalize w1.setCells O 0 (dg S) = w2 at F2 Y2 ⊢
      have hx := Y2.out.2 (m / 8) (by omega)
      obtain ⟨q, hq⟩ : ∃ q, m / 8 = q := ⟨_, rfl⟩
      obtain ⟨r, hr⟩ : ∃ r, m % 8 = r := ⟨_, rfl⟩
      rw [hq] at hx hxb HBIT
      rw [hr] at HBIT
      generalize zs.getD q 0 = x at *
      have t1 : (m : Int).tdiv 8 = (q : Int) := by rw [Int.tdiv_eq_ediv_of_nonneg (by omega)]; omega
      have t2 : (m : Int).tmod 8 = (r : Int) := by rw [Int.tmod_eq_emod_of_nonneg (by omega)]; omega
      have q0 : (0 : Int) ≤ (q : Int) := by omega
      have q1 : (q : Int) < 32 := by omega
      have r0 : (0 : Int) ≤ (r : Int) := by omega
      have r1 : (r : Int) < 64 := by omega
      have hr8 : min r 8 = r := by omega
      have wq : IntKind.i64.wrap (q : Int) = (q : Int) := IntWalk.i64_in _ (by omega)
      have wr' : IntKind.i64.wrap (r : Int) = (r : Int) := IntWalk.i64_in _ (by omega)
      have AB := and1_u8 (x / 2 ^ r) (Int.ediv_nonneg hxb.1 (Int.le_of_lt (Int.pow_pos (by decide)))) (Int.le_trans (Int.ediv_le_self _ hxb.1) hxb.2)
      have eX : (num zs / 2 ^ m % 2 = 1) ↔ (x / 2 ^ r % 2 = 1) := by
        rw [HBIT.out]
        obtain ⟨X', rfl⟩ := Int.eq_ofNat_of_zero_le hxb.1
        have : (X' : Int) / 2 ^ r % 2 = ((X' / 2 ^ r % 2 : Nat) : Int) := by simp
        rw [this, Int.toNat_natCast]; omega
      have w9 : IntKind.i64.wrap ((m : Int) - 1) = (m : Int) - 1 := IntWalk.i64_in _ (by omega)
      have HXB := hidden hxb
      clear hq hr hxb HBIT TH
      go_cut [23] (fun vx wx => vx = .bool (decide (x / 2 ^ r % 2 = 1)) ∧ wx = w2)
      case first =>
        go_wp2_with fail
        go_meet
        exact ⟨rfl, rfl⟩
      case rest =>
      obtain ⟨rfl, rfl⟩ := hcut
      clear hx t1 t2 q0 q1 r0 r1 wq wr' AB hr8
      by_cases hbit : x / 2 ^ r % 2 = 1
      · rw [decide_eq_true hbit]
        have E2 := hidden (E1.out (eX.2 hbit))
        clear E0 E1 eX hbit
        have RS := hidden (F2.out.ra O S (by simp))
        have RX := hidden (F2.out.ra w.heap.size X (by simp))
        go_wp2_with (first | refine wpList_load_mid rfl 29 _ rfl O 0 (by rfl) (dg S) _ RS.out D.out.u rfl (D.out.i S) ?_ | refine wpList_load_mid rfl 29 _ rfl w.heap.size 0 (by rfl) (dg X) _ RX.out D.out.u rfl (D.out.i X) ?_)
        refine (MX.out _ F2.out.p).mono ?_
        rintro e w3 ⟨rfl, hb3⟩
        have k3 := F2.out.keep hb3
        have TH := hidden (k3.th O S T (by simp))
        have F3 := hidden (k3.set (c := O) (o := S) T (M := [(w.heap.size + 1 + 1, 0), (w.heap.size, X)]) (by simp) (by simp; omega))
        have Y3 := hidden ((Y2.out.keep hb3).set O (by omega) (dg T))
        have I2 := hidden (D.out.i2 T)
        have OT := hidden (D.out.o T)
        clear k3 hb3 F2 Y2 RS RX MX
        generalize dg T = ds at TH F3 Y3 I2 OT ⊢
        go_wp2_with (first | refine wpList_store_mid rfl 29 _ _ rfl O 0 ds.toArray (by rfl) (by rfl) TH.out I2.out OT.out ?_)
        go_roundw
        case rel => exact ⟨m, by omega, by go_num, by rw [E2.out]; exact F3, Y3⟩
        case measure => simp [intOf]
      · rw [decide_eq_false hbit]
        have E2 := hidden (E0.out (by have h9 : ¬ (num zs / 2 ^ m % 2 = 1) := fun h => hbit (eX.1 h); exact Or.resolve_right (Nat.mod_two_eq_zero_or_one _) h9))
        clear E0 E1 eX hbit MX
        go_wp2_with fail
        go_roundw
        case rel => exact ⟨m, by omega, by go_num, by rw [E2.out]; exact F2, Y2⟩
        case measure => simp [intOf]
    · have hk0 : k = 0 := by omega
      subst hk0
      have e0 : ((0 : Nat) : Int) - 1 = -1 := rfl
      rw [e0]
      rw [Nat.pow_zero, Nat.div_one] at hF
      obtain ⟨T, hT⟩ : ∃ T, X ^ num zs % pF = T := ⟨_, rfl⟩
      have HT := hidden hT
      rw [hT] at hF
      clear hT e0
      have RT := hidden (hF.out.ra O T (by simp))
      have TH := hidden (hF.out.th (w.heap.size + 1 + 1) 0 T (by simp))
      have RDH := hidden (dg_load wr (w.heap.size + 1 + 1) T TH.out)
      have BL4 := hidden (below_setCellsR (w.heap.size + 1 + 1) (dg T) 0 hF.out.bel (by omega))
      clear hF hY
      go_wp2_with (first | refine wpList_load_mid rfl 29 _ rfl O 0 (by rfl) (dg T) _ RT.out D.out.u rfl (D.out.i T) ?_ | refine wpList_store_mid rfl 29 _ _ rfl (w.heap.size + 1 + 1) 0 (dg T).toArray (by rfl) (by rfl) TH.out (D.out.i2 T) (D.out.o T) ?_)
      have RD := RDH.out
      refine bodyPost_ret (v := .agg (dg T).toArray) (results_cellR Tryd.results33 _ _ _ _ _ (by rfl) RD) rfl ⟨by rw [HT.out], BL4.out⟩
end Go.Proofs.YtgijodenblpbgaaDoor
