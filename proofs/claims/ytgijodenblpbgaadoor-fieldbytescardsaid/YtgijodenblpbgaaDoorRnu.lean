import Derived.Test.YtgijodenblpbgaaDoorRpo
import Derived.Test.YtgijodenblpbgaaDoorRof
namespace Go.Proofs.YtgijodenblpbgaaDoor
open Go.RowKit
/-- what lies where in Number -/
structure NW (w0 : World) (Bb : Nat) (zs : List Int) (g : Nat → Int) (w : World) : Prop where
  b : Byt w Bb zs
  r : Ri w w0.heap.size 10 (fun _ => 0)
  o : Ri w (w0.heap.size + 1) 20 g
  lt : Bb < w0.heap.size
  bel : Below w0.heap.size w0 w
theorem NW.keep {w0 : World} {Bb : Nat} {zs : List Int} {g : Nat → Int} {w w' : World} (h : NW w0 Bb zs g w) (hb : Below w.heap.size w w') : NW w0 Bb zs g w' := ⟨h.b.keep hb, h.r.keep hb, h.o.keep hb, h.lt, bl_trans h.bel hb⟩
theorem NW.put {w0 : World} {Bb : Nat} {zs : List Int} {g : Nat → Int} {w : World} (h : NW w0 Bb zs g w) (k : Nat) (hk : k < 20) (v : Int) : NW w0 Bb zs (fun j => if j = k then v else g j) (w.setCell ⟨w0.heap.size + 1, k, none⟩ (.int .i64 v)) := by
  have := h.lt
  exact ⟨⟨h.b.1, fun j hj => (World.cell?_setCell_far w _ _ _ (by show w0.heap.size + 1 ≠ Bb; omega)).trans (h.b.2 j hj)⟩, h.r.far (by omega) _ _, h.o.at k hk v, h.lt, h.bel.setCell (by show w0.heap.size ≤ w0.heap.size + 1; omega) _⟩
/-- the state of the rounds -/
structure Nv (N : Int) (m : Nat) (g : Nat → Int) : Prop where
  e : rsn g 20 0 = N % 2 ^ m
  b : ∀ j, 0 ≤ g j ∧ g j ≤ 33554432 * (m : Int)
theorem Nv.skip {N : Int} (hN : 0 ≤ N) {m : Nat} {g : Nat → Int} (h : Nv N m g) (hz : N / 2 ^ m % 2 = 0) : Nv N (m + 1) g := by
  refine ⟨?_, fun j => ?_⟩
  · rw [h.e, mod_bit _ hN, hz, Int.mul_zero, Int.add_zero]
  · have := h.b j
    omega
theorem Nv.take {N : Int} (hN : 0 ≤ N) {m : Nat} {g : Nat → Int} (hm : m < 512) (h : Nv N m g) (hz : N / 2 ^ m % 2 = 1) :
    Nv N (m + 1) (fun j => if j = m / 26 then g (m / 26) + 2 ^ (m % 26) else g j) := by
  refine ⟨?_, fun j => ?_⟩
  · rw [rsn_put g _ 20 0 _ (by omega) (by omega), h.e, mod_bit _ hN, hz, Int.mul_one, Nat.sub_zero, show ∀ x y : Int, x + y - x = y by intros; omega, pow26, Nat.div_add_mod]
  · have h1 := h.b j
    have h2 := h.b (m / 26)
    have h3 := pow_26 (m % 26) (by omega)
    split <;> omega
set_option maxRecDepth 100000 in
set_option maxHeartbeats 16000000 in
theorem rNumber_any (Bb : Nat) (zs : List Int) (w : World) (hb : Byt w Bb zs) (hz : ∀ z ∈ zs, 0 ≤ z ∧ z ≤ 255) (hP : Pm w) :
    Calls Tryd.prog 38 #[.slice (some ⟨Bb, 0, none⟩) 32 32] w fun e w' => e = .returned (.agg (dg ((num zs : Int) % pF)).toArray) ∧ Below w.heap.size w w' := by
  have HZ := hidden hz
  have HP := hidden hP
  have hl := hb.1
  have nlt := num_lt zs hz
  rw [hl] at nlt
  obtain ⟨N, hN⟩ : ∃ N : Int, (num zs : Int) = N := ⟨_, rfl⟩
  have N0 : 0 ≤ N := by omega
  have N1 : N < 115792089237316195423570985008687907853269984665640564039457584007913129639936 := by rw [← hN]; have : (256 : Nat) ^ 32 = 115792089237316195423570985008687907853269984665640564039457584007913129639936 := by decide +kernel
                                                                                                     omega
  have HBIT : Hid (∀ m, (N / 2 ^ m % 2 = 1) ↔ ((zs.getD (m / 8) 0) / 2 ^ (m % 8) % 2 = 1)) := hidden (fun m => by
    have h := num_bit zs m hz
    have h0 : 0 ≤ zs.getD (m / 8) 0 := by
      by_cases hm : m / 8 < zs.length
      · exact (hz _ (by simp [List.getD_eq_getElem?_getD, hm])).1
      · simp [List.getD_eq_getElem?_getD, hm]
    obtain ⟨y, hy⟩ := Int.eq_ofNat_of_zero_le h0
    rw [hy, Int.toNat_natCast] at h
    have e1 : N / 2 ^ m % 2 = ((num zs / 2 ^ m % 2 : Nat) : Int) := by rw [← hN]; simp
    have e2 : zs.getD (m / 8) 0 / 2 ^ (m % 8) % 2 = ((y / 2 ^ (m % 8) % 2 : Nat) : Int) := by rw [hy]; simp
    rw [e1, e2, h])
  have XB : Hid (∀ m, m < 32 → 0 ≤ zs.getD m 0 ∧ zs.getD m 0 ≤ 255) := hidden (fun m hm => hz _ (by simp [List.getD_eq_getElem?_getD, hl, hm]))
  have n1 := Ri.zero10 w 29
  have n2 := Ri.zero20 (w.alloc (.cells #[.int .i64 0, .int .i64 0, .int .i64 0, .int .i64 0, .int .i64 0, .int .i64 0, .int .i64 0, .int .i64 0, .int .i64 0, .int .i64 0] 29)) 59
  simp only [World.size_alloc] at n2
  have NW0 := hidden (⟨(hb.keep (bl_alloc _ _)).keep (bl_alloc _ _), n1.keep (bl_alloc _ _), n2, hb.lt, bl_alloc2 _ _ _⟩ : NW w Bb zs (fun _ => 0) _)
  have HN0 := hidden N0
  have HD : Hid (dv N 20 = 0) := hidden (ofx_top N0 (Int.lt_trans N1 (by decide +kernel)))
  have HM : Hid (N % 2 ^ 256 = N) := hidden (Int.emod_eq_of_lt N0 (by rw [show (2 : Int) ^ 256 = 115792089237316195423570985008687907853269984665640564039457584007913129639936 by decide +kernel]; exact N1))
  have HNN := hidden hN
  clear n1 n2 hb hz hP hl nlt hN N0 N1
  go_enter Tryd.func38, Tryd.ntmps38
  go_wp2_with fail
  go_loopw [4] (fun mv w' => ∃ (m : Nat) (g : Nat → Int), m ≤ 256 ∧ mv = .int .i64 m ∧ Hid (Nv N m g) ∧ Hid (NW w Bb zs g w')) (fun m _ => 256 - (intOf m).toNat)
  case atStart => exact ⟨0, _, by omega, rfl, hidden ⟨by simp [rsn, Int.emod_one], fun j => by omega⟩, NW0⟩
  case round =>
    clear NW0
    obtain ⟨m, g, hm, rfl, hv, hM⟩ := hrel
    by_cases hm6 : m < 256
    · have m0 : (0 : Int) ≤ (m : Int) := by omega
      have m1 : (m : Int) < 256 := by omega
      obtain ⟨q, hq⟩ : ∃ q, m / 8 = q := ⟨_, rfl⟩
      obtain ⟨r, hr⟩ : ∃ r, m % 8 = r := ⟨_, rfl⟩
      have hx := hM.out.b.2 q (by omega)
      have xb := XB.out q (by omega)
      have HB := HBIT.out m
      rw [hq, hr] at HB
      have t1 : (m : Int).tdiv 8 = (q : Int) := by rw [Int.tdiv_eq_ediv_of_nonneg (by omega)]; omega
      have t2 : (m : Int).tmod 8 = (r : Int) := by rw [Int.tmod_eq_emod_of_nonneg (by omega)]; omega
      have q0 : (0 : Int) ≤ (q : Int) := by omega
      have q1 : (q : Int) < 32 := by omega
      have r0 : (0 : Int) ≤ (r : Int) := by omega
      have r1 : (r : Int) < 64 := by omega
      have hr8 : min r 8 = r := by omega
      have wq : IntKind.i64.wrap (q : Int) = (q : Int) := IntWalk.i64_in _ (by omega)
      have wr' : IntKind.i64.wrap (r : Int) = (r : Int) := IntWalk.i64_in _ (by omega)
      generalize zs.getD q 0 = x at *
      have AB := and1_u8 (x / 2 ^ r) (Int.ediv_nonneg xb.1 (Int.le_of_lt (Int.pow_pos (by decide)))) (Int.le_trans (Int.ediv_le_self _ xb.1) xb.2)
      by_cases hz : N / 2 ^ m % 2 = 1
      · rw [decide_eq_true (HB.1 hz)] at AB
        have NV := hidden (hv.out.take HN0.out (by omega) hz)
        obtain ⟨p, hp⟩ : ∃ p, m / 26 = p := ⟨_, rfl⟩
        obtain ⟨s, hs⟩ : ∃ s, m % 26 = s := ⟨_, rfl⟩
        rw [hp, hs] at NV
        have hd := hM.out.keep (drew_bl wr)
        have o0 := hd.o.c p (by omega)
        have f0 := hd.o.fr p (by omega)
        have gb := hv.out.b p
        have pb := pow_26 s (by omega)
        have NM := hidden (hd.put p (by omega) (g p + 2 ^ s))
        have t3 : (m : Int).tdiv 26 = (p : Int) := by rw [Int.tdiv_eq_ediv_of_nonneg (by omega)]; omega
        have t4 : (m : Int).tmod 26 = (s : Int) := by rw [Int.tmod_eq_emod_of_nonneg (by omega)]; omega
        have p0 : (0 : Int) ≤ (p : Int) := by omega
        have p1 : (p : Int) < 20 := by omega
        have s0 : (0 : Int) ≤ (s : Int) := by omega
        have s1 : (s : Int) < 64 := by omega
        have wp : IntKind.i64.wrap (p : Int) = (p : Int) := IntWalk.i64_in _ (by omega)
        have ws : IntKind.i64.wrap (s : Int) = (s : Int) := IntWalk.i64_in _ (by omega)
        generalize g p = z at *
        have w3 : IntKind.i64.wrap (2 ^ s) = 2 ^ s := IntWalk.i64_in _ (by omega)
        have w4 : IntKind.i64.wrap (z + 2 ^ s) = z + 2 ^ s := IntWalk.i64_in _ (by omega)
        clear hM hv hq hr hd xb gb pb hz HB hp hs
        go_upto_region 6 with fail
        go_region_with fail
        all_goals
          clear o0 f0 w3 w4 t1 t2 t3 t4 q0 q1 r0 r1 p0 p1 s0 s1 wp ws wq wr' AB hx hr8
          go_wp2_with fail
          go_roundw
          case rel => exact ⟨m + 1, _, by omega, by go_num, NV, NM⟩
          case measure => simp [intOf]; omega
      · rw [decide_eq_false (fun h => hz (HB.2 h))] at AB
        have hz0 : N / 2 ^ m % 2 = 0 := by omega
        have NV := hidden (hv.out.skip HN0.out hz0)
        clear hv hz hz0 HB hq hr xb
        go_wp2_with fail
        go_roundw
        case rel => exact ⟨m + 1, _, by omega, by go_num, NV, hM⟩
        case measure => simp [intOf]; omega
    · have hm6 : m = 256 := by omega
      subst hm6
      have hE : numF (ls 20 g) = N := by rw [ls_num, hv.out.e]; exact HM.out
      have LE := hidden (fun w P => rleast_any (ls 20 g) w (ls_len 20 _) (fun z hz => by
        obtain ⟨k, _, rfl⟩ := List.mem_map.1 hz
        have := hv.out.b k
        omega) (by rw [hE]; exact HD.out) P)
      rw [hE] at LE
      unfold fv at LE
      rw [ls_vs] at LE
      have RO := hidden hM.out.o.range
      have RR := hidden hM.out.r
      have BL := hidden hM.out.bel
      have PP := hidden (HP.out.keep hM.out.bel)
      have hlv : (vs 20 g).length = 20 := by simp [vs]
      have HU20 : Hid (Tryd.prog.underlying 59 = some (.array 20 2)) := hidden (by kernel_rfl)
      have HI20 : Hid ((Tryd.prog.info? 59).map (·.size) = some (vs 20 g).length) := hidden (by rw [hlv]; kernel_rfl)
      have FF := hidden (f10 (N % pF))
      have hi2 := hidden FF.out.i2
      have hi1 := hidden FF.out.i
      have hu1 := hidden FF.out.u
      have ho1 := hidden FF.out.o
      have hl1 := hidden FF.out.l
      have HDS : Hid (dg ((num zs : Int) % pF) = (digs (N % pF)).map fun z => Value.int .i64 z) := hidden (by rw [HNN.out]; rfl)
      clear hE hM hlv FF HD hv HM
      generalize ((digs (N % pF)).map fun z => Value.int .i64 z) = ds at *
      generalize vs 20 g = cs at *
      go_wp2_with (first | refine wpList_load_mid rfl 59 _ rfl (w.heap.size + 1) 0 (by rfl) cs _ RO.out HU20.out rfl HI20.out ?_)
      refine (LE.out _ PP.out).mono ?_
      rintro e w1 ⟨rfl, hb⟩
      have TR : Hid (w1.there w.heap.size 0 ds.toArray.size) := hidden (by have := (RR.out.keep hb).there; simpa [hl1.out] using this)
      have RDH := hidden (run_loadVar_mid (P := Tryd.prog) (w1.setCells w.heap.size 0 ds) w.heap.size 0 29 ds _ (World.rangeAt_setCells_same w1 w.heap.size 0 ds (by simpa using TR.out)) hu1.out rfl hi1.out)
      have BL4 := hidden (below_setCellsR w.heap.size ds 0 (bl_trans BL.out hb) (by omega))
      clear hb RO RR BL PP LE
      go_wp2_with (first | refine wpList_store_mid rfl 29 _ _ rfl w.heap.size 0 ds.toArray (by rfl) (by rfl) TR.out hi2.out ho1.out ?_)
      have RD := RDH.out
      refine bodyPost_ret (v := .agg ds.toArray) (results_cellR Tryd.results38 _ _ _ _ _ (by rfl) RD) rfl ⟨by rw [HDS.out], BL4.out⟩
end Go.Proofs.YtgijodenblpbgaaDoor
