import Derived.Test.YtgijodenblpbgaaDoorRsu
namespace Go.Proofs.YtgijodenblpbgaaDoor
open Go.RowKit
/-- the state of the rounds of Mul -/
structure Mv (X Y : Int) (i j : Nat) (d : Nat → Int) : Prop where
  e : rsn d 20 0 = rsn (dig X) i 0 * rsn (dig Y) 10 0 + dig X i * 67108864 ^ i * rsn (dig Y) j 0
  b : ∀ k, 0 ≤ d k ∧ d k ≤ 4503599627370496 * (10 * (i : Int) + j)
theorem rsn_succ (f : Nat → Int) (n : Nat) : rsn f (n + 1) 0 = rsn f n 0 + 67108864 ^ n * f n := by
  rw [rsn_split f n 1 0, Nat.zero_add]
  simp [rsn]
theorem Mv.step {X Y : Int} {i j : Nat} {d : Nat → Int} (h : Mv X Y i j d) (hi : i < 10) (hj : j < 10) :
    Mv X Y i (j + 1) (fun k => if k = i + j then d (i + j) + dig X i * dig Y j else d k) := by
  have x := dig_in X i
  have y := dig_in Y j
  have m0 : 0 ≤ dig X i * dig Y j := Int.mul_nonneg x.1 y.1
  have m1 : dig X i * dig Y j ≤ 4503599627370496 := by
    have := Int.mul_le_mul (show dig X i ≤ 67108864 by omega) (show dig Y j ≤ 67108864 by omega) y.1 (by decide)
    omega
  refine ⟨?_, fun k => ?_⟩
  · rw [rsn_put d _ 20 0 _ (by omega) (by omega), h.e, rsn_succ (dig Y) j, Nat.sub_zero, Int.pow_add]
    generalize (67108864 : Int) ^ i = P
    generalize (67108864 : Int) ^ j = Q
    generalize rsn (dig X) i 0 = A
    generalize rsn (dig Y) j 0 = B
    generalize rsn (dig Y) 10 0 = C
    generalize dig X i = x
    generalize dig Y j = y
    generalize d (i + j) = z
    grind
  · have h1 := h.b k
    have h2 := h.b (i + j)
    split <;> omega
theorem Mv.next {X Y : Int} {i : Nat} {d : Nat → Int} (h : Mv X Y i 10 d) : Mv X Y (i + 1) 0 d := by
  refine ⟨?_, fun k => ?_⟩
  · rw [h.e, rsn_succ (dig X) i, show rsn (dig Y) 0 0 = 0 from rfl]
    generalize (67108864 : Int) ^ i = P
    generalize (67108864 : Int) ^ (i + 1) = Q
    generalize rsn (dig X) i 0 = A
    generalize rsn (dig Y) 10 0 = C
    generalize dig X i = x
    grind
  · have := h.b k
    omega
set_option maxRecDepth 100000 in
set_option maxHeartbeats 16000000 in
theorem rMul_any (X Y : Int) (w : World) (x0 : 0 ≤ X) (x1 : X < pF) (y0 : 0 ≤ Y) (y1 : Y < pF) (hP : Pm w) :
    Calls Tryd.prog 23 #[fv (digs X), fv (digs Y)] w fun e w' => e = .returned (fv (digs ((X * Y) % pF))) ∧ Below w.heap.size w w' := by
  have HP := hidden hP
  have A0 := hidden (AW.start w X Y 29 29 29 59)
  have HX := hidden (rsn_digs x0 (by unfold pF at x1; omega))
  have HY := hidden (rsn_digs y0 (by unfold pF at y1; omega))
  have HD : Hid (dv (X * Y) 20 = 0) := hidden (rsn_top (Int.mul_nonneg x0 y0) (by
    have : X * Y ≤ pF * pF := Int.mul_le_mul (by omega) (by omega) y0 (by decide)
    exact Int.lt_of_le_of_lt this (by decide +kernel)))
  clear hP x0 x1 y0 y1
  unfold fv
  generalize hcx : ((digs X).map fun z => Value.int .i64 z) = cx at A0 ⊢
  generalize hcy : ((digs Y).map fun z => Value.int .i64 z) = cy at A0 ⊢
  clear hcx hcy
  go_enter Tryd.func23, Tryd.ntmps23
  go_wp2_with fail
  go_loopw [6] (fun iv w' => ∃ (i : Nat) (d : Nat → Int), i ≤ 10 ∧ iv = .int .i64 i ∧ Hid (Mv X Y i 0 d) ∧ Hid (AW w X Y (w.heap.size + 1 + 1 + 1) d w')) (fun i _ => 10 - (intOf i).toNat)
  case atStart => exact ⟨0, _, by omega, rfl, hidden ⟨by simp [rsn], fun k => by omega⟩, A0⟩
  case round =>
    clear A0
    obtain ⟨i, d, hi, rfl, hv, hM⟩ := hrel
    by_cases hi10 : i < 10
    · have i0 : (0 : Int) ≤ (i : Int) := by omega
      have i1 : (i : Int) < 10 := by omega
      go_wp2_with fail
      go_loopw [7] (fun jv w' => ∃ (j : Nat) (d : Nat → Int), j ≤ 10 ∧ jv = .int .i64 j ∧ Hid (Mv X Y i j d) ∧ Hid (AW w X Y (w.heap.size + 1 + 1 + 1) d w')) (fun j _ => 10 - (intOf j).toNat)
      case atStart => exact ⟨0, d, by omega, rfl, hv, hM⟩
      case round =>
        clear hv hM
        obtain ⟨j, d, hj, rfl, hv, hM⟩ := hrel
        by_cases hj10 : j < 10
        · have j0 : (0 : Int) ≤ (j : Int) := by omega
          have j1 : (j : Int) < 10 := by omega
          have NV := hidden (hv.out.step hi10 hj10)
          have hd := hM.out.keep (drew_bl wr)
          have a0 := hd.a.c i hi10
          have b0 := hd.b.c j hj10
          have o0 := hd.o.c (i + j) (by omega)
          have f0 := hd.o.fr (i + j) (by omega)
          have db := hv.out.b (i + j)
          have x := dig_in X i
          have y := dig_in Y j
          have m0 : 0 ≤ dig X i * dig Y j := Int.mul_nonneg x.1 y.1
          have m1 : dig X i * dig Y j ≤ 4503599627370496 := by
            have := Int.mul_le_mul (show dig X i ≤ 67108864 by omega) (show dig Y j ≤ 67108864 by omega) y.1 (by decide)
            omega
          have NM := hidden (hd.put (i + j) (by omega) (d (i + j) + dig X i * dig Y j))
          have w1 : IntKind.i64.wrap ((i : Int) + (j : Int)) = (i : Int) + (j : Int) := IntWalk.i64_in _ (by omega)
          have q0 : (0 : Int) ≤ (i : Int) + (j : Int) := by omega
          have q1 : (i : Int) + (j : Int) < 20 := by omega
          have q2 : ((i : Int) + (j : Int)).toNat = i + j := by omega
          generalize d (i + j) = z at *
          generalize dig X i = p at *
          generalize dig Y j = q at *
          have w2 : IntKind.i64.wrap (p * q) = p * q := IntWalk.i64_in _ (by omega)
          have w3 : IntKind.i64.wrap (z + p * q) = z + p * q := IntWalk.i64_in _ (by omega)
          clear hM hv hd x y m0 m1 db
          go_upto_region 8 with fail
          go_region_with fail
          all_goals
            clear a0 b0 o0 f0 w1 w2 w3 q0 q1 q2
            go_wp2_with fail
            go_roundw
            case rel => exact ⟨j + 1, _, by omega, by go_num, NV, NM⟩
            case measure => simp [intOf]; omega
        · have hj10 : j = 10 := by omega
          subst hj10
          have NV := hidden hv.out.next
          clear hv
          go_wp2_with fail
          go_roundw
          case rel => exact ⟨i + 1, _, by omega, by go_num, NV, hM⟩
          case measure => simp [intOf]; omega
    · have hi10 : i = 10 := by omega
      subst hi10
      have hE : numF (ls 20 d) = X * Y := by
        rw [ls_num, hv.out.e, HX.out, HY.out, show rsn (dig Y) 0 0 = 0 from rfl]
        omega
      have LE := hidden (fun w P => rleast_any (ls 20 d) w (ls_len 20 _) (fun z hz => by
        obtain ⟨k, _, rfl⟩ := List.mem_map.1 hz
        have := hv.out.b k
        omega) (by rw [hE]; exact HD.out) P)
      rw [hE] at LE
      unfold fv at LE
      rw [ls_vs] at LE
      have RO := hidden hM.out.o.range
      have RR := hidden hM.out.r
      have BL := hidden hM.out.bel
      have PP := hidden (HP.out.keep hM.out.bel)
      have hlv : (vs 20 d).length = 20 := by simp [vs]
      have HU20 : Hid (Tryd.prog.underlying 59 = some (.array 20 2)) := hidden (by kernel_rfl)
      have HI20 : Hid ((Tryd.prog.info? 59).map (·.size) = some (vs 20 d).length) := hidden (by rw [hlv]; kernel_rfl)
      have FF := hidden (f10 ((X * Y) % pF))
      have hi2 := hidden FF.out.i2
      have hi1 := hidden FF.out.i
      have hu1 := hidden FF.out.u
      have ho1 := hidden FF.out.o
      have hl1 := hidden FF.out.l
      clear hE hM hlv FF HX HY HD hv
      generalize hds : ((digs ((X * Y) % pF)).map fun z => Value.int .i64 z) = ds at *
      have HDS := hidden hds
      clear hds
      generalize vs 20 d = cs at *
      go_wp2_with (first | refine wpList_load_mid rfl 59 _ rfl (w.heap.size + 1 + 1 + 1) 0 (by rfl) cs _ RO.out HU20.out rfl HI20.out ?_)
      refine (LE.out _ PP.out).mono ?_
      rintro e w1 ⟨rfl, hb⟩
      have TR : Hid (w1.there (w.heap.size + 1 + 1) 0 ds.toArray.size) := hidden (by have := (RR.out.keep hb).there; simpa [hl1.out] using this)
      have RDH := hidden (run_loadVar_mid (P := Tryd.prog) (w1.setCells (w.heap.size + 1 + 1) 0 ds) (w.heap.size + 1 + 1) 0 29 ds _ (World.rangeAt_setCells_same w1 (w.heap.size + 1 + 1) 0 ds (by simpa using TR.out)) hu1.out rfl hi1.out)
      have BL4 := hidden (below_setCellsR (w.heap.size + 1 + 1) ds 0 (bl_trans BL.out hb) (by omega))
      clear hb RO RR BL PP LE
      go_wp2_with (first | refine wpList_store_mid rfl 29 _ _ rfl (w.heap.size + 1 + 1) 0 ds.toArray (by rfl) (by rfl) TR.out hi2.out ho1.out ?_)
      have RD := RDH.out
      refine bodyPost_ret (v := .agg ds.toArray) (results_cellR Tryd.results23 _ _ _ _ _ (by rfl) RD) rfl ⟨by rw [HDS.out], BL4.out⟩
end Go.Proofs.YtgijodenblpbgaaDoor
