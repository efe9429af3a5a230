import Derived.Test.YtgijodenblpbgaaDoorRom
namespace Go.Proofs.YtgijodenblpbgaaDoor
open Go.RowKit
/-- what lies where in Of -/
structure OW (w0 : World) (a : E5) (R O : Nat) (g : Nat → Int) (w : World) : Prop where
  a : Ru w w0.heap.size 5 (lmf a)
  r : Ri w R 10 (fun _ => 0)
  o : Ri w O 20 g
  n1 : R = w0.heap.size + 1
  n2 : R < O
  bel : Below w0.heap.size w0 w
theorem OW.keep {w0 : World} {a : E5} {R O : Nat} {g : Nat → Int} {w w' : World} (h : OW w0 a R O g w) (hb : Below w.heap.size w w') : OW w0 a R O g w' := ⟨h.a.keep hb, h.r.keep hb, h.o.keep hb, h.n1, h.n2, bl_trans h.bel hb⟩
theorem OW.put {w0 : World} {a : E5} {R O : Nat} {g : Nat → Int} {w : World} (h : OW w0 a R O g w) (k : Nat) (hk : k < 20) (v : Int) : OW w0 a R O (fun j => if j = k then v else g j) (w.setCell ⟨O, k, none⟩ (.int .i64 v)) := by
  have := h.n1
  have := h.n2
  exact ⟨h.a.far (by omega) _ _, h.r.far (by omega) _ _, h.o.at k hk v, h.n1, h.n2, h.bel.setCell (by show w0.heap.size ≤ O; omega) _⟩
/-- the state of the rounds -/
structure Ov (a : E5) (i b : Nat) (g : Nat → Int) : Prop where
  e : rsn g 20 0 = sl (lmf a) i + (lmf a i % 2 ^ b) * 2 ^ (51 * i)
  b : ∀ j, 0 ≤ g j ∧ g j ≤ 33554432 * (64 * (i : Int) + b)
theorem Ov.skip {a : E5} (ha : a.ok) {i b : Nat} {g : Nat → Int} (h : Ov a i b g) (hz : lmf a i / 2 ^ b % 2 = 0) : Ov a i (b + 1) g := by
  refine ⟨?_, fun j => ?_⟩
  · rw [h.e, mod_bit _ (lmf_wd ha i).1, hz, Int.mul_zero, Int.add_zero]
  · have := h.b j
    omega
theorem Ov.take {a : E5} (ha : a.ok) {i b : Nat} {g : Nat → Int} (hi : i < 5) (hb : b < 64) (h : Ov a i b g) (hz : lmf a i / 2 ^ b % 2 = 1) :
    Ov a i (b + 1) (fun j => if j = (51 * i + b) / 26 then g ((51 * i + b) / 26) + 2 ^ ((51 * i + b) % 26) else g j) := by
  refine ⟨?_, fun j => ?_⟩
  · rw [rsn_put g _ 20 0 _ (by omega) (by omega), h.e, mod_bit _ (lmf_wd ha i).1, hz, Int.mul_one, Nat.sub_zero, show ∀ x y : Int, x + y - x = y by intros; omega, pow26, Nat.div_add_mod, Int.add_mul, ← Int.pow_add, show b + 51 * i = 51 * i + b by omega]
    omega
  · have h1 := h.b j
    have h2 := h.b ((51 * i + b) / 26)
    have h3 := pow_26 ((51 * i + b) % 26) (by omega)
    split <;> omega
theorem Ov.next {a : E5} (ha : a.ok) {i : Nat} {g : Nat → Int} (h : Ov a i 64 g) : Ov a (i + 1) 0 g := by
  refine ⟨?_, fun j => ?_⟩
  · have := lmf_wd ha i
    rw [h.e, sl, Int.emod_eq_of_lt this.1 (by omega), Int.pow_zero, Int.emod_one, Int.zero_mul, Int.add_zero]
  · have := h.b j
    omega
theorem ofx_top {D : Int} (h0 : 0 ≤ D) (h : D < 67108864 ^ 20) : dv D 20 = 0 := by rw [dv_eq]; exact Int.ediv_eq_zero_of_lt h0 h
/-- a row as a list -/
def ls (n : Nat) (g : Nat → Int) : List Int := (List.range n).map g
theorem ls_len (n : Nat) (g : Nat → Int) : (ls n g).length = n := by simp [ls]
theorem ls_vs (n : Nat) (g : Nat → Int) : (ls n g).map (fun z => Value.int .i64 z) = vs n g := by simp [ls, vs]
theorem ls_num (n : Nat) (g : Nat → Int) : numF (ls n g) = rsn g n 0 := by
  have := numF_rsn (ls n g) g 0 (fun j hj => by rw [ls_len] at hj; rw [Nat.zero_add]; simp [ls, List.getD_eq_getElem?_getD, hj])
  rwa [ls_len] at this
theorem n_bd {a : E5} (ha : a.ok) : 0 ≤ a.n ∧ a.n < 67108864 ^ 20 := by
  obtain ⟨h0, h1, h2, h3, h4⟩ := ha
  unfold Fm.Wd at *
  unfold E5.n Fm.V
  rw [show (67108864 : Int) ^ 20 = 3432398830065304857490950399540696608634717650071652704697231729592771591698828026061279820330727277488648155695740429018560993999858321906287014145557528576 by decide +kernel]
  omega
set_option maxRecDepth 100000 in
set_option maxHeartbeats 16000000 in
theorem rOf_any (a : E5) (w : World) (ha : a.ok) (hP : Pm w) :
    Calls Tryd.prog 37 #[a.v] w fun e w' => e = .returned (fv (digs (a.n % pF))) ∧ Below w.heap.size w w' := by
  have HA := hidden ha
  have HP := hidden hP
  have R1 := hidden (Ru.new5 w a 23)
  clear ha hP
  simp only [E5.v]
  go_enter Tryd.func37, Tryd.ntmps37
  go_upto_region 1 with fail
  go_cut [3] (fun ov wx => ∃ O : Nat, ov = .pointer (some ⟨O, 0, none⟩) ∧ OW w a (w.heap.size + 1) O (fun _ => 0) wx)
  case first =>
    have R2 := Ri.zero10 (w.alloc (.cells #[.int .u64 a.x0, .int .u64 a.x1, .int .u64 a.x2, .int .u64 a.x3, .int .u64 a.x4] 23)) 29
    rw [World.size_alloc] at R2
    have R3 := Ri.zero20 ((w.alloc (.cells #[.int .u64 a.x0, .int .u64 a.x1, .int .u64 a.x2, .int .u64 a.x3, .int .u64 a.x4] 23)).alloc (.cells #[.int .i64 0, .int .i64 0, .int .i64 0, .int .i64 0, .int .i64 0, .int .i64 0, .int .i64 0, .int .i64 0, .int .i64 0, .int .i64 0] 29)) 59
    simp only [World.size_alloc] at R3
    have NW := hidden (⟨(R1.out.keep (bl_alloc _ _)).keep (bl_alloc _ _), R2.keep (bl_alloc _ _), R3, rfl, by omega, bl_alloc3 _ _ _ _⟩ : OW w a (w.heap.size + 1) (w.heap.size + 1 + 1) (fun _ => 0) _)
    clear R2 R3
    go_wp2_with fail
    go_meet
    exact ⟨_, rfl, NW.out⟩
  case rest =>
  obtain ⟨O, rfl, nw⟩ := hcut
  have NW := hidden nw
  clear nw R1
  go_wp2_with fail
  go_loopw [4] (fun iv w' => ∃ (i : Nat) (g : Nat → Int), i ≤ 5 ∧ iv = .int .i64 i ∧ Hid (Ov a i 0 g) ∧ Hid (OW w a (w.heap.size + 1) O g w')) (fun i _ => 5 - (intOf i).toNat)
  case atStart => exact ⟨0, _, by omega, rfl, hidden ⟨by simp [rsn, sl, Int.emod_one], fun j => by omega⟩, NW⟩
  case round =>
    clear NW
    obtain ⟨i, g, hi, rfl, hv, hM⟩ := hrel
    by_cases hi5 : i < 5
    · have i0 : (0 : Int) ≤ (i : Int) := by omega
      have i1 : (i : Int) < 5 := by omega
      go_wp2_with fail
      go_loopw [5] (fun bv w' => ∃ (b : Nat) (g : Nat → Int), b ≤ 64 ∧ bv = .int .i64 b ∧ Hid (Ov a i b g) ∧ Hid (OW w a (w.heap.size + 1) O g w')) (fun b _ => 64 - (intOf b).toNat)
      case atStart => exact ⟨0, g, by omega, rfl, hv, hM⟩
      case round =>
        clear hv hM
        obtain ⟨b, g, hb, rfl, hv, hM⟩ := hrel
        by_cases hb64 : b < 64
        · have b0 : (0 : Int) ≤ (b : Int) := by omega
          have b1 : (b : Int) < 64 := by omega
          have xw := lmf_wd HA.out i
          have sw := shr_in (lmf a i) b xw.1
          have A1 := and1u (lmf a i / 2 ^ b) sw.1 (by omega)
          have c0 := hM.out.a.c i hi5
          by_cases hz : lmf a i / 2 ^ b % 2 = 1
          · rw [hz] at A1
            have NV := hidden (hv.out.take HA.out hi5 hb64 hz)
            obtain ⟨q, hq⟩ : ∃ q, (51 * i + b) / 26 = q := ⟨_, rfl⟩
            obtain ⟨r, hr⟩ : ∃ r, (51 * i + b) % 26 = r := ⟨_, rfl⟩
            rw [hq, hr] at NV
            have hq20 : q < 20 := by omega
            have r26 : r < 26 := by omega
            have hd := hM.out.keep (drew_bl wr)
            have o0 := hd.o.c q hq20
            have f0 := hd.o.fr q hq20
            have gb := hv.out.b q
            have pb := pow_26 r r26
            have NM := hidden (hd.put q hq20 (g q + 2 ^ r))
            have w1 : IntKind.i64.wrap (51 * (i : Int)) = 51 * (i : Int) := IntWalk.i64_in _ (by omega)
            have w2 : IntKind.i64.wrap (51 * (i : Int) + (b : Int)) = 51 * (i : Int) + (b : Int) := IntWalk.i64_in _ (by omega)
            have t1 : (51 * (i : Int) + (b : Int)).tdiv 26 = (q : Int) := by rw [Int.tdiv_eq_ediv_of_nonneg (by omega)]; omega
            have t2 : (51 * (i : Int) + (b : Int)).tmod 26 = (r : Int) := by rw [Int.tmod_eq_emod_of_nonneg (by omega)]; omega
            have q0 : (0 : Int) ≤ (q : Int) := by omega
            have q1 : (q : Int) < 20 := by omega
            have r0 : (0 : Int) ≤ (r : Int) := by omega
            have r1 : (r : Int) < 64 := by omega
            have wq : IntKind.i64.wrap (q : Int) = (q : Int) := IntWalk.i64_in _ (by omega)
            have wr' : IntKind.i64.wrap (r : Int) = (r : Int) := IntWalk.i64_in _ (by omega)
            generalize g q = z at *
            generalize lmf a i = x at *
            have w3 : IntKind.i64.wrap (2 ^ r) = 2 ^ r := IntWalk.i64_in _ (by omega)
            have w4 : IntKind.i64.wrap (z + 2 ^ r) = z + 2 ^ r := IntWalk.i64_in _ (by omega)
            clear hM hv hq hr hd xw sw gb pb hz
            go_upto_region 10 with fail
            go_region_with fail
            all_goals
              clear o0 f0 w1 w2 w3 w4 t1 t2 q0 q1 r0 r1
              go_wp2_with fail
              go_roundw
              case rel => exact ⟨b + 1, _, by omega, by go_num, NV, NM⟩
              case measure => simp [intOf]; omega
          · have hz0 : lmf a i / 2 ^ b % 2 = 0 := by omega
            rw [hz0] at A1
            have NV := hidden (hv.out.skip HA.out hz0)
            generalize lmf a i = x at *
            clear hv xw sw hz hz0
            go_wp2_with fail
            go_roundw
            case rel => exact ⟨b + 1, _, by omega, by go_num, NV, hM⟩
            case measure => simp [intOf]; omega
        · have hb64 : b = 64 := by omega
          subst hb64
          have NV := hidden (hv.out.next HA.out)
          clear hv
          go_wp2_with fail
          go_roundw
          case rel => exact ⟨i + 1, _, by omega, by go_num, NV, hM⟩
          case measure => simp [intOf]; omega
    · have hi5 : i = 5 := by omega
      subst hi5
      have hE : numF (ls 20 g) = a.n := by
        rw [ls_num, hv.out.e, ← sl_V]
        simp [Int.emod_one]
      have nb := n_bd HA.out
      have LE := hidden (fun w P => rleast_any (ls 20 g) w (ls_len 20 g) (fun z hz => by
        obtain ⟨j, _, rfl⟩ := List.mem_map.1 hz
        have := hv.out.b j
        omega) (by rw [hE]; exact ofx_top nb.1 nb.2) P)
      rw [hE] at LE
      unfold fv at LE
      rw [ls_vs] at LE
      have RO := hidden hM.out.o.range
      have RR := hidden hM.out.r
      have BL := hidden hM.out.bel
      have hlv : (vs 20 g).length = 20 := by simp [vs]
      have hlY : ((digs (a.n % pF)).map fun z => Value.int .i64 z).length = 10 := by simp [digs]
      have HU20 : Hid (Tryd.prog.underlying 59 = some (.array 20 2)) := hidden (by kernel_rfl)
      have HI20 : Hid ((Tryd.prog.info? 59).map (·.size) = some (vs 20 g).length) := hidden (by rw [hlv]; kernel_rfl)
      have HU : Hid (Tryd.prog.underlying 29 = some (.array 10 2)) := hidden (by kernel_rfl)
      have HIY : Hid ((Tryd.prog.info? 29).map (·.size) = some ((digs (a.n % pF)).map fun z => Value.int .i64 z).length) := hidden (by rw [hlY]; kernel_rfl)
      have HI2 : Hid ((Tryd.prog.info? 29).map (·.size) = some ((digs (a.n % pF)).map fun z => Value.int .i64 z).toArray.size) := hidden (by simpa using HIY.out)
      have HO : Hid (((digs (a.n % pF)).map fun z => Value.int .i64 z).toArray.all (·.oneCell') = true) := hidden (all_oneCell_toArray (fun v hv => by
        obtain ⟨z, _, rfl⟩ := List.mem_map.1 hv
        rfl))
      have PP := hidden (HP.out.keep hM.out.bel)
      have hlen := hidden hlY
      have HCS : Hid (fv (digs (a.n % pF)) = .agg ((digs (a.n % pF)).map fun z => Value.int .i64 z).toArray) := hidden rfl
      clear hE nb hv hM hlv hlY
      generalize ((digs (a.n % pF)).map fun z => Value.int .i64 z) = ds at *
      generalize vs 20 g = cs at *
      go_wp2_with (first | refine wpList_load_mid rfl 59 _ rfl O 0 (by rfl) cs _ RO.out HU20.out rfl HI20.out ?_)
      refine (LE.out _ PP.out).mono ?_
      rintro e w1 ⟨rfl, hb⟩
      have TR : Hid (w1.there (w.heap.size + 1) 0 ds.toArray.size) := hidden (by have := (RR.out.keep hb).there; simpa [hlen.out] using this)
      have RDH := hidden (run_loadVar_mid (P := Tryd.prog) (w1.setCells (w.heap.size + 1) 0 ds) (w.heap.size + 1) 0 29 ds _ (World.rangeAt_setCells_same w1 (w.heap.size + 1) 0 ds (by simpa using TR.out)) HU.out rfl HIY.out)
      have BL4 := hidden (below_setCellsR (w.heap.size + 1) ds 0 (bl_trans BL.out hb) (by omega))
      clear hb RO RR BL PP LE
      go_wp2_with (first | refine wpList_store_mid rfl 29 _ _ rfl (w.heap.size + 1) 0 ds.toArray (by rfl) (by rfl) TR.out HI2.out HO.out ?_)
      have RD := RDH.out
      refine bodyPost_ret (v := .agg ds.toArray) (results_cellR Tryd.results37 _ _ _ _ _ (by rfl) RD) rfl ⟨by rw [HCS.out], BL4.out⟩
end Go.Proofs.YtgijodenblpbgaaDoor
