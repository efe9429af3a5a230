import Derived.Test.YtgijodenblpbgaaDoorPow
import Derived.Test.YtgijodenblpbgaaDoorEnc2
namespace Go.Proofs.YtgijodenblpbgaaDoor
open Go.RowKit

theorem num_get : ∀ (zs : List Int) (k : Nat), (∀ z ∈ zs, 0 ≤ z ∧ z ≤ 255) → zs.getD k 0 = ((num zs / 256 ^ k % 256 : Nat) : Int)
  | [], k, _ => by simp [num]
  | z :: zs, 0, h => by
    have hz := h z (by simp)
    simp only [List.getD_cons_zero, num, Nat.pow_zero, Nat.div_one]
    omega
  | z :: zs, k + 1, h => by
    have hz := h z (by simp)
    rw [List.getD_cons_succ, num_get zs k (fun y hy => h y (by simp [hy])), num, Nat.pow_succ, Nat.mul_comm (256 ^ k), ← Nat.div_div_eq_div_mul]
    have e3 : (z.toNat + 256 * num zs) / 256 = num zs := by omega
    rw [e3]

theorem word_step (M k : Nat) (hk : k < 8) : bits .or .u64 ((M % 256 ^ k : Nat) : Int) (((M / 256 ^ k % 256 : Nat) : Int) * 2 ^ (8 * k)) = ((M % 256 ^ (k + 1) : Nat) : Int) ∧ 0 ≤ ((M / 256 ^ k % 256 : Nat) : Int) * 2 ^ (8 * k) ∧ ((M / 256 ^ k % 256 : Nat) : Int) * 2 ^ (8 * k) ≤ 18446744073709551615 := by
  have hb : M / 256 ^ k % 256 < 256 := by omega
  have hp : (2 : Int) ^ (8 * k) = ((256 ^ k : Nat) : Int) := by
    rw [show (256 : Nat) = 2 ^ 8 from rfl, ← Nat.pow_mul]; simp
  have h64 : (M / 256 ^ k % 256) * 256 ^ k ≤ 255 * 256 ^ 7 := Nat.mul_le_mul (by omega) (Nat.pow_le_pow_right (by omega) (by omega))
  have hup : ((M / 256 ^ k % 256 : Nat) : Int) * 2 ^ (8 * k) ≤ 18374686479671623680 := by
    rw [hp, ← Int.natCast_mul]
    have : 255 * 256 ^ 7 = 18374686479671623680 := by decide
    omega
  have hlo : 0 ≤ ((M / 256 ^ k % 256 : Nat) : Int) * 2 ^ (8 * k) := Int.mul_nonneg (by omega) (Int.le_of_lt (Int.pow_pos (by decide)))
  refine ⟨?_, hlo, by omega⟩
  have hl : ((M % 256 ^ k : Nat) : Int) < 2 ^ (8 * k) := by
    rw [hp]
    have := Nat.mod_lt M (Nat.pow_pos (n := k) (by decide : 0 < 256))
    omega
  rw [or_parts (8 * k) _ _ (by omega) hl (by omega) (by omega) (by omega), hp, Nat.pow_succ, Nat.mod_mul, ← Int.natCast_mul, ← Int.natCast_add, Nat.mul_comm]

set_option maxRecDepth 100000 in
set_option maxHeartbeats 1000000 in
theorem word_any (zs : List Int) (at_ : Nat) (w : World) (lz : zs.length = 32) (hz : ∀ z ∈ zs, 0 ≤ z ∧ z ≤ 255) (ha : at_ ≤ 24) :
    Calls Tryd.prog 40 #[bv zs, .int .i64 at_] w fun e w' => e = .returned (.int .u64 ((num zs / 256 ^ at_ % 256 ^ 8 : Nat) : Int)) ∧ Below w.heap.size w w' := by
  have GZ := hidden (fun k => num_get zs k hz)
  have Y0 := hidden (Byt.new w zs 26 lz)
  have hM : ∀ k, num zs / 256 ^ (at_ + k) % 256 = num zs / 256 ^ at_ / 256 ^ k % 256 := fun k => by rw [Nat.pow_add, Nat.div_div_eq_div_mul]
  have HM := hidden hM
  clear hM lz hz
  unfold bv
  go_enter Tryd.func40, Tryd.ntmps40
  go_wp2_with fail
  go_loopw [5, 7] (fun c i w' => ∃ k : Nat, k ≤ 8 ∧ c = .int .u64 ((num zs / 256 ^ at_ % 256 ^ k : Nat) : Int) ∧ i = .int .i64 k ∧ Byt w' w.heap.size zs ∧ Below w.heap.size w w') (fun _ i _ => 8 - (intOf i).toNat)
  case atStart => exact ⟨0, by omega, by simp [Nat.mod_one], rfl, Y0.out, bl_alloc _ _⟩
  case round =>
    obtain ⟨k, hk, rfl, rfl, hY, hB⟩ := hrel
    clear Y0
    by_cases hlt : k < 8
    · have hx := hY.2 (at_ + k) (by omega)
      rw [GZ.out, HM.out] at hx
      obtain ⟨st, lo, hi⟩ := word_step (num zs / 256 ^ at_) k hlt
      have ST := hidden st
      clear st
      have YH := hidden hY
      have BH := hidden hB
      clear hY hB
      generalize num zs / 256 ^ at_ = M at *
      have hb : M / 256 ^ k % 256 < 256 := by omega
      have hwr : IntKind.u64.wrap (((M / 256 ^ k % 256 : Nat) : Int) * 2 ^ (8 * k)) = ((M / 256 ^ k % 256 : Nat) : Int) * 2 ^ (8 * k) := IntWalk.u64_in _ ⟨lo, hi⟩
      generalize M / 256 ^ k % 256 = X at *
      go_wp2_with fail
      have eM : ((M : Int) % 256 ^ k) = ((M % 256 ^ k : Nat) : Int) := by simp
      refine ⟨⟨k + 1, by omega, by rw [eM, ST.out], by go_num, YH.out, BH.out⟩, by simp [intOf]; omega⟩
    · have hk8 : k = 8 := by omega
      subst hk8
      have BH := hidden hB
      clear hY hB GZ HM
      generalize hMM : num zs / 256 ^ at_ % 256 ^ 8 = M at *
      have HMM := hidden hMM
      clear hMM
      go_wp2_with fail
      go_ret
      exact ⟨by rw [HMM.out]; rfl, BH.out⟩

theorem word_lit (zs : List Int) (at_ : Nat) (m : Int) (hm : m = at_) (w : World) (lz : zs.length = 32) (hz : ∀ z ∈ zs, 0 ≤ z ∧ z ≤ 255) (ha : at_ ≤ 24) :
    Calls Tryd.prog 40 #[bv zs, .int .i64 m] w fun e w' => e = .returned (.int .u64 ((num zs / 256 ^ at_ % 256 ^ 8 : Nat) : Int)) ∧ Below w.heap.size w w' := by
  subst hm; exact word_any zs at_ w lz hz ha

theorem limbs_math (N : Nat) :
    let n := N % 57896044618658097711785492504343953926634992332820282019728792003956564819968
    (N / 256 ^ 0 % 256 ^ 8) % 2251799813685248 = n % 2251799813685248 ∧
    (N / 256 ^ 6 % 256 ^ 8) / 8 % 2251799813685248 = n / 2251799813685248 % 2251799813685248 ∧
    (N / 256 ^ 12 % 256 ^ 8) / 64 % 2251799813685248 = n / 5070602400912917605986812821504 % 2251799813685248 ∧
    (N / 256 ^ 19 % 256 ^ 8) / 2 % 2251799813685248 = n / 11417981541647679048466287755595961091061972992 % 2251799813685248 ∧
    (N / 256 ^ 24 % 256 ^ 8) / 4096 % 2251799813685248 = n / 25711008708143844408671393477458601640355247900524685364822016 % 2251799813685248 := by
  simp only [show 256 ^ 0 = 1 from rfl, show 256 ^ 8 = 18446744073709551616 from rfl, show 256 ^ 6 = 281474976710656 from rfl, show 256 ^ 12 = 79228162514264337593543950336 from rfl, show 256 ^ 19 = 5708990770823839524233143877797980545530986496 from rfl, show 256 ^ 24 = 6277101735386680763835789423207666416102355444464034512896 from rfl]
  refine ⟨?_, ?_, ?_, ?_, ?_⟩ <;> omega

/-- what lies where in Reduce -/
structure RW (w0 : World) (cs : List Value) (R : Nat) (w : World) : Prop where
  rg : w.rangeAt w0.heap.size 0 cs
  bl : ∃ r : E5, Blc w R r
  wr : Wrt w R
  bel : Below w0.heap.size w0 w
theorem range_keepW {w1 w2 : World} {b o : Nat} {cs : List Value} (h : w1.rangeAt b o cs) (hb : Below w1.heap.size w1 w2) : w2.rangeAt b o cs := fun j v hv => cell_keep (h j v hv) hb
theorem RW.keep {w0 : World} {cs : List Value} {R : Nat} {w1 w2 : World} (h : RW w0 cs R w1) (hb : Below w1.heap.size w1 w2) : RW w0 cs R w2 := by
  obtain ⟨r, hr⟩ := h.bl
  exact ⟨range_keepW h.rg hb, ⟨r, hr.keep hb⟩, h.wr.keep hr.lt hb, bl_trans h.bel hb⟩
theorem range_new (w : World) (zs : List Int) (t : TypeId) : (w.alloc (.cells (zs.map fun z => Value.int .u8 z).toArray t)).rangeAt w.heap.size 0 (zs.map fun z => Value.int .u8 z) := fun j v hv => by
  rw [Nat.zero_add, World.cell?_alloc_mark]
  simpa using hv
theorem RW.put {w0 : World} {cs : List Value} {R : Nat} {w : World} (h : RW w0 cs R w) (s : E5) (hR : w0.heap.size < R) : RW w0 cs R (set5 w R s) := by
  obtain ⟨r, hr⟩ := h.bl
  exact ⟨fun j v hv => (set5_cell_far w R s _ (by show R ≠ w0.heap.size; omega)).trans (h.rg j v hv), ⟨s, hr.set s⟩, h.wr.set, set5_below _ _ _ h.bel (by omega)⟩

set_option maxRecDepth 100000 in
set_option maxHeartbeats 4000000 in
theorem Reduce_any (zs : List Int) (w : World) (lz : zs.length = 32) (hz : ∀ z ∈ zs, 0 ≤ z ∧ z ≤ 255) :
    Calls Tryd.prog 14 #[bv zs] w fun e w' => ∃ r : E5, e = .returned r.v ∧ r.is ((num zs % 57896044618658097711785492504343953926634992332820282019728792003956564819968 : Nat) : Int) ∧ Below w.heap.size w w' := by
  obtain ⟨m0, m1, m2, m3, m4⟩ := limbs_math (num zs)
  have c0 := hidden (fun w => word_lit zs 0 0 rfl w lz hz (by omega))
  have c1 := hidden (fun w => word_lit zs 6 6 rfl w lz hz (by omega))
  have c2 := hidden (fun w => word_lit zs 12 12 rfl w lz hz (by omega))
  have c3 := hidden (fun w => word_lit zs 19 19 rfl w lz hz (by omega))
  have c4 := hidden (fun w => word_lit zs 24 24 rfl w lz hz (by omega))
  have hn : num zs % 57896044618658097711785492504343953926634992332820282019728792003956564819968 < 57896044618658097711785492504343953926634992332820282019728792003956564819968 := Nat.mod_lt _ (by decide)
  have hi : (Tryd.prog.info? 26).map (·.size) = some (zs.map fun z => Value.int .u8 z).length := by rw [List.length_map, lz]; kernel_rfl
  have hu : Tryd.prog.underlying 26 = some (.array 32 5) := by kernel_rfl
  have b0 : num zs / 256 ^ 0 % 256 ^ 8 < 18446744073709551616 := Nat.mod_lt _ (by decide)
  have b1 : num zs / 256 ^ 6 % 256 ^ 8 < 18446744073709551616 := Nat.mod_lt _ (by decide)
  have b2 : num zs / 256 ^ 12 % 256 ^ 8 < 18446744073709551616 := Nat.mod_lt _ (by decide)
  have b3 : num zs / 256 ^ 19 % 256 ^ 8 < 18446744073709551616 := Nat.mod_lt _ (by decide)
  have b4 : num zs / 256 ^ 24 % 256 ^ 8 < 18446744073709551616 := Nat.mod_lt _ (by decide)
  generalize num zs % 57896044618658097711785492504343953926634992332820282019728792003956564819968 = n at *
  generalize num zs / 256 ^ 0 % 256 ^ 8 = W0 at *
  generalize num zs / 256 ^ 6 % 256 ^ 8 = W1 at *
  generalize num zs / 256 ^ 12 % 256 ^ 8 = W2 at *
  generalize num zs / 256 ^ 19 % 256 ^ 8 = W3 at *
  generalize num zs / 256 ^ 24 % 256 ^ 8 = W4 at *
  have k0 : bits .and .u64 ((W0 : Int)) 2251799813685247 = Fm.lim 0 (n : Int) := by
    rw [mask51 _ (by omega) (by omega)]
    simp only [Fm.lim]; omega
  have k1 : bits .and .u64 ((W1 : Int) / 8) 2251799813685247 = Fm.lim 1 (n : Int) := by
    rw [mask51 _ (by omega) (by omega)]
    simp only [Fm.lim]; omega
  have k2 : bits .and .u64 ((W2 : Int) / 64) 2251799813685247 = Fm.lim 2 (n : Int) := by
    rw [mask51 _ (by omega) (by omega)]
    simp only [Fm.lim]; omega
  have k3 : bits .and .u64 ((W3 : Int) / 2) 2251799813685247 = Fm.lim 3 (n : Int) := by
    rw [mask51 _ (by omega) (by omega)]
    simp only [Fm.lim]; omega
  have k4 : bits .and .u64 ((W4 : Int) / 4096) 2251799813685247 = Fm.lim 4 (n : Int) := by
    rw [mask51 _ (by omega) (by omega)]
    simp only [Fm.lim]; omega
  have LE : Hid (∀ w : World, Calls Tryd.prog 36 #[(⟨Fm.lim 0 (n : Int), Fm.lim 1 (n : Int), Fm.lim 2 (n : Int), Fm.lim 3 (n : Int), Fm.lim 4 (n : Int)⟩ : E5).v] w fun e w' => ∃ r : E5, e = .returned r.v ∧ r.is (n : Int) ∧ Below w.heap.size w w') := hidden (fun w => by
    have hV : (⟨Fm.lim 0 (n : Int), Fm.lim 1 (n : Int), Fm.lim 2 (n : Int), Fm.lim 3 (n : Int), Fm.lim 4 (n : Int)⟩ : E5).n = n := Fm.V_lim (n : Int) (by omega) (by omega)
    have := Least_any ⟨Fm.lim 0 (n : Int), Fm.lim 1 (n : Int), Fm.lim 2 (n : Int), Fm.lim 3 (n : Int), Fm.lim 4 (n : Int)⟩ w ⟨lim_wd 0 _, lim_wd 1 _, lim_wd 2 _, lim_wd 3 _, lim_wd 4 _⟩
    rw [hV] at this
    exact this)
  clear m0 m1 m2 m3 m4 b0 b1 b2 b3 b4 hn
  generalize Fm.lim 0 (n : Int) = x0 at *
  generalize Fm.lim 1 (n : Int) = x1 at *
  generalize Fm.lim 2 (n : Int) = x2 at *
  generalize Fm.lim 3 (n : Int) = x3 at *
  generalize Fm.lim 4 (n : Int) = x4 at *
  simp only [E5.v, bv] at c0 c1 c2 c3 c4 LE ⊢
  have HU := hidden hu
  have HI := hidden hi
  have RN := hidden (range_new w zs 26)
  clear hu hi lz hz
  generalize (zs.map fun z => Value.int .u8 z) = cs at *
  go_enter Tryd.func14, Tryd.ntmps14
  go_upto_region 1 with fail
  have R0 := hidden (show RW w cs (w.heap.size + 1) ((w.alloc (.cells cs.toArray 26)).alloc (.cells #[.int .u64 0, .int .u64 0, .int .u64 0, .int .u64 0, .int .u64 0] 24)) from ⟨World.rangeAt_alloc RN.out _, ⟨zero5, Blc.new1 _ _ _⟩, Wrt.new1 _ _ _, bl_alloc2 _ _ _⟩)
  refine wp_region_noPanic ?_
  refine wp_region_held_drew (S := fun w' => RW w cs (w.heap.size + 1) w') (by kernel_rfl) (R0.out.keep ((Below.refl _ _).drew)) (fun hHeld => ?_)
  refine wpAnyH_take (i := 0) (oi := { dst := some 3, op := Op.load 26 (Operand.tmp 1), type := 26, pos := "bytes.go:17", after := #[], guard := none }) rfl (by kernel_rfl) (by kernel_rfl) (by kernel_rfl) (fun _ _ _ h => h) (yieldsIf_load_mid (by rfl) _ _ rfl _ _ rfl _ _ (fun w0 hw => hw.rg) HU.out rfl HI.out) hHeld ?_
  simp only [Act.put, List.setIfInBounds_toArray, List.set_cons_zero, List.set_cons_succ]
  refine wpAnyH_take (i := 3) (oi := { dst := some 6, op := Op.load 26 (Operand.tmp 1), type := 26, pos := "bytes.go:17", after := #[], guard := none }) rfl (by kernel_rfl) (by kernel_rfl) (by kernel_rfl) (fun _ _ _ h => h) (yieldsIf_load_mid (by rfl) _ _ rfl _ _ rfl _ _ (fun w0 hw => hw.rg) HU.out rfl HI.out) hHeld ?_
  simp only [Act.put, List.setIfInBounds_toArray, List.set_cons_zero, List.set_cons_succ]
  refine wpAnyH_take (i := 7) (oi := { dst := some 10, op := Op.load 26 (Operand.tmp 1), type := 26, pos := "bytes.go:17", after := #[], guard := none }) rfl (by kernel_rfl) (by kernel_rfl) (by kernel_rfl) (fun _ _ _ h => h) (yieldsIf_load_mid (by rfl) _ _ rfl _ _ rfl _ _ (fun w0 hw => hw.rg) HU.out rfl HI.out) hHeld ?_
  simp only [Act.put, List.setIfInBounds_toArray, List.set_cons_zero, List.set_cons_succ]
  refine wpAnyH_take (i := 11) (oi := { dst := some 14, op := Op.load 26 (Operand.tmp 1), type := 26, pos := "bytes.go:17", after := #[], guard := none }) rfl (by kernel_rfl) (by kernel_rfl) (by kernel_rfl) (fun _ _ _ h => h) (yieldsIf_load_mid (by rfl) _ _ rfl _ _ rfl _ _ (fun w0 hw => hw.rg) HU.out rfl HI.out) hHeld ?_
  simp only [Act.put, List.setIfInBounds_toArray, List.set_cons_zero, List.set_cons_succ]
  refine wpAnyH_take (i := 15) (oi := { dst := some 18, op := Op.load 26 (Operand.tmp 1), type := 26, pos := "bytes.go:17", after := #[], guard := none }) rfl (by kernel_rfl) (by kernel_rfl) (by kernel_rfl) (fun _ _ _ h => h) (yieldsIf_load_mid (by rfl) _ _ rfl _ _ rfl _ _ (fun w0 hw => hw.rg) HU.out rfl HI.out) hHeld ?_
  simp only [Act.put, List.setIfInBounds_toArray, List.set_cons_zero, List.set_cons_succ]
  refine wpAnyH_ready (rs := [1]) (by kernel_rfl) (by simp) ?_
  refine AllReadyH.cons (o := { dst := some 4, op := Op.call { callee := Callee.value (Operand.func 40), args := #[Operand.tmp 3, Operand.const (Value.int IntKind.i64 0)], argTypes := #[26, 3] }, type := 22, pos := "bytes.go:18", after := #[{ on := 0, ground := Ground.data }], guard := none }) rfl (fun K hK => ?_) AllReadyH.nil
  go_simp
  refine (c0.out _).mono ?_
  rintro e wn ⟨rfl, hb⟩
  have hk := hidden (hHeld.keep hb)
  go_wp2_with fail
  refine hK.out _ _ hk.out (fun hHeld2 => ?_)
  clear hK K hHeld
  have hHeld := hHeld2
  clear hHeld2
  refine wpAnyH_take (i := 2) (oi := { dst := some 5, op := Op.binOp BinOp.and 22 (Operand.tmp 4) (Operand.const (Value.int IntKind.u64 2251799813685247)) 22, type := 22, pos := "bytes.go:17", after := #[{ on := 1, ground := Ground.data }], guard := none }) (v := ?_) rfl (by kernel_rfl) (by kernel_rfl) (by kernel_rfl) (fun _ _ _ h => h) (Or.inl ⟨by rfl, ?_⟩) hHeld ?_
  rotate_left 1
  · (intro w0 hSw; (try dsimp only at hSw); go_simp; try with_reducible rfl)
  simp only [Act.put, List.setIfInBounds_toArray, List.set_cons_zero, List.set_cons_succ]
  refine wpAnyH_ready (rs := [4]) (by kernel_rfl) (by simp) ?_
  refine AllReadyH.cons (o := { dst := some 7, op := Op.call { callee := Callee.value (Operand.func 40), args := #[Operand.tmp 6, Operand.const (Value.int IntKind.i64 6)], argTypes := #[26, 3] }, type := 22, pos := "bytes.go:19", after := #[{ on := 3, ground := Ground.data }, { on := 1, ground := Ground.chain }], guard := none }) rfl (fun K hK => ?_) AllReadyH.nil
  go_simp
  refine (c1.out _).mono ?_
  rintro e wn ⟨rfl, hb⟩
  have hk := hidden (hHeld.keep hb)
  go_wp2_with fail
  refine hK.out _ _ hk.out (fun hHeld2 => ?_)
  clear hK K hHeld
  have hHeld := hHeld2
  clear hHeld2
  refine wpAnyH_take (i := 5) (oi := { dst := some 8, op := Op.binOp BinOp.shr 22 (Operand.tmp 7) (Operand.const (Value.int IntKind.u64 3)) 49, type := 22, pos := "bytes.go:17", after := #[{ on := 4, ground := Ground.data }], guard := none }) (v := ?_) rfl (by kernel_rfl) (by kernel_rfl) (by kernel_rfl) (fun _ _ _ h => h) (Or.inl ⟨by rfl, ?_⟩) hHeld ?_
  rotate_left 1
  · (intro w0 hSw; (try dsimp only at hSw); go_simp; try with_reducible rfl)
  simp only [Act.put, List.setIfInBounds_toArray, List.set_cons_zero, List.set_cons_succ]
  refine wpAnyH_take (i := 6) (oi := { dst := some 9, op := Op.binOp BinOp.and 22 (Operand.tmp 8) (Operand.const (Value.int IntKind.u64 2251799813685247)) 22, type := 22, pos := "bytes.go:17", after := #[{ on := 5, ground := Ground.data }], guard := none }) (v := ?_) rfl (by kernel_rfl) (by kernel_rfl) (by kernel_rfl) (fun _ _ _ h => h) (Or.inl ⟨by rfl, ?_⟩) hHeld ?_
  rotate_left 1
  · (intro w0 hSw; (try dsimp only at hSw); go_simp; try with_reducible rfl)
  simp only [Act.put, List.setIfInBounds_toArray, List.set_cons_zero, List.set_cons_succ]
  refine wpAnyH_ready (rs := [8]) (by kernel_rfl) (by simp) ?_
  refine AllReadyH.cons (o := { dst := some 11, op := Op.call { callee := Callee.value (Operand.func 40), args := #[Operand.tmp 10, Operand.const (Value.int IntKind.i64 12)], argTypes := #[26, 3] }, type := 22, pos := "bytes.go:20", after := #[{ on := 7, ground := Ground.data }, { on := 4, ground := Ground.chain }], guard := none }) rfl (fun K hK => ?_) AllReadyH.nil
  go_simp
  refine (c2.out _).mono ?_
  rintro e wn ⟨rfl, hb⟩
  have hk := hidden (hHeld.keep hb)
  go_wp2_with fail
  refine hK.out _ _ hk.out (fun hHeld2 => ?_)
  clear hK K hHeld
  have hHeld := hHeld2
  clear hHeld2
  refine wpAnyH_take (i := 9) (oi := { dst := some 12, op := Op.binOp BinOp.shr 22 (Operand.tmp 11) (Operand.const (Value.int IntKind.u64 6)) 49, type := 22, pos := "bytes.go:17", after := #[{ on := 8, ground := Ground.data }], guard := none }) (v := ?_) rfl (by kernel_rfl) (by kernel_rfl) (by kernel_rfl) (fun _ _ _ h => h) (Or.inl ⟨by rfl, ?_⟩) hHeld ?_
  rotate_left 1
  · (intro w0 hSw; (try dsimp only at hSw); go_simp; try with_reducible rfl)
  simp only [Act.put, List.setIfInBounds_toArray, List.set_cons_zero, List.set_cons_succ]
  refine wpAnyH_take (i := 10) (oi := { dst := some 13, op := Op.binOp BinOp.and 22 (Operand.tmp 12) (Operand.const (Value.int IntKind.u64 2251799813685247)) 22, type := 22, pos := "bytes.go:17", after := #[{ on := 9, ground := Ground.data }], guard := none }) (v := ?_) rfl (by kernel_rfl) (by kernel_rfl) (by kernel_rfl) (fun _ _ _ h => h) (Or.inl ⟨by rfl, ?_⟩) hHeld ?_
  rotate_left 1
  · (intro w0 hSw; (try dsimp only at hSw); go_simp; try with_reducible rfl)
  simp only [Act.put, List.setIfInBounds_toArray, List.set_cons_zero, List.set_cons_succ]
  refine wpAnyH_ready (rs := [12]) (by kernel_rfl) (by simp) ?_
  refine AllReadyH.cons (o := { dst := some 15, op := Op.call { callee := Callee.value (Operand.func 40), args := #[Operand.tmp 14, Operand.const (Value.int IntKind.i64 19)], argTypes := #[26, 3] }, type := 22, pos := "bytes.go:21", after := #[{ on := 11, ground := Ground.data }, { on := 8, ground := Ground.chain }], guard := none }) rfl (fun K hK => ?_) AllReadyH.nil
  go_simp
  refine (c3.out _).mono ?_
  rintro e wn ⟨rfl, hb⟩
  have hk := hidden (hHeld.keep hb)
  go_wp2_with fail
  refine hK.out _ _ hk.out (fun hHeld2 => ?_)
  clear hK K hHeld
  have hHeld := hHeld2
  clear hHeld2
  refine wpAnyH_take (i := 13) (oi := { dst := some 16, op := Op.binOp BinOp.shr 22 (Operand.tmp 15) (Operand.const (Value.int IntKind.u64 1)) 49, type := 22, pos := "bytes.go:17", after := #[{ on := 12, ground := Ground.data }], guard := none }) (v := ?_) rfl (by kernel_rfl) (by kernel_rfl) (by kernel_rfl) (fun _ _ _ h => h) (Or.inl ⟨by rfl, ?_⟩) hHeld ?_
  rotate_left 1
  · (intro w0 hSw; (try dsimp only at hSw); go_simp; try with_reducible rfl)
  simp only [Act.put, List.setIfInBounds_toArray, List.set_cons_zero, List.set_cons_succ]
  refine wpAnyH_take (i := 14) (oi := { dst := some 17, op := Op.binOp BinOp.and 22 (Operand.tmp 16) (Operand.const (Value.int IntKind.u64 2251799813685247)) 22, type := 22, pos := "bytes.go:17", after := #[{ on := 13, ground := Ground.data }], guard := none }) (v := ?_) rfl (by kernel_rfl) (by kernel_rfl) (by kernel_rfl) (fun _ _ _ h => h) (Or.inl ⟨by rfl, ?_⟩) hHeld ?_
  rotate_left 1
  · (intro w0 hSw; (try dsimp only at hSw); go_simp; try with_reducible rfl)
  simp only [Act.put, List.setIfInBounds_toArray, List.set_cons_zero, List.set_cons_succ]
  refine wpAnyH_ready (rs := [16]) (by kernel_rfl) (by simp) ?_
  refine AllReadyH.cons (o := { dst := some 19, op := Op.call { callee := Callee.value (Operand.func 40), args := #[Operand.tmp 18, Operand.const (Value.int IntKind.i64 24)], argTypes := #[26, 3] }, type := 22, pos := "bytes.go:22", after := #[{ on := 15, ground := Ground.data }, { on := 12, ground := Ground.chain }], guard := none }) rfl (fun K hK => ?_) AllReadyH.nil
  go_simp
  refine (c4.out _).mono ?_
  rintro e wn ⟨rfl, hb⟩
  have hk := hidden (hHeld.keep hb)
  go_wp2_with fail
  refine hK.out _ _ hk.out (fun hHeld2 => ?_)
  clear hK K hHeld
  have hHeld := hHeld2
  clear hHeld2
  refine wpAnyH_take (i := 17) (oi := { dst := some 20, op := Op.binOp BinOp.shr 22 (Operand.tmp 19) (Operand.const (Value.int IntKind.u64 12)) 49, type := 22, pos := "bytes.go:17", after := #[{ on := 16, ground := Ground.data }], guard := none }) (v := ?_) rfl (by kernel_rfl) (by kernel_rfl) (by kernel_rfl) (fun _ _ _ h => h) (Or.inl ⟨by rfl, ?_⟩) hHeld ?_
  rotate_left 1
  · (intro w0 hSw; (try dsimp only at hSw); go_simp; try with_reducible rfl)
  simp only [Act.put, List.setIfInBounds_toArray, List.set_cons_zero, List.set_cons_succ]
  refine wpAnyH_take (i := 18) (oi := { dst := some 21, op := Op.binOp BinOp.and 22 (Operand.tmp 20) (Operand.const (Value.int IntKind.u64 2251799813685247)) 22, type := 22, pos := "bytes.go:17", after := #[{ on := 17, ground := Ground.data }], guard := none }) (v := ?_) rfl (by kernel_rfl) (by kernel_rfl) (by kernel_rfl) (fun _ _ _ h => h) (Or.inl ⟨by rfl, ?_⟩) hHeld ?_
  rotate_left 1
  · (intro w0 hSw; (try dsimp only at hSw); go_simp; try with_reducible rfl)
  simp only [Act.put, List.setIfInBounds_toArray, List.set_cons_zero, List.set_cons_succ]
  refine wpAnyH_take (i := 19) (oi := { dst := some 22, op := Op.build 24 #[(0, Operand.tmp 5), (1, Operand.tmp 9), (2, Operand.tmp 13), (3, Operand.tmp 17), (4, Operand.tmp 21)], type := 24, pos := "bytes.go:17", after := #[{ on := 2, ground := Ground.data }, { on := 6, ground := Ground.data }, { on := 10, ground := Ground.data }, { on := 14, ground := Ground.data }, { on := 18, ground := Ground.data }], guard := none }) (v := ?_) rfl (by kernel_rfl) (by kernel_rfl) (by kernel_rfl) (fun _ _ _ h => h) (Or.inl ⟨by rfl, ?_⟩) hHeld ?_
  rotate_left 1
  · (intro w0 hSw; (try dsimp only at hSw); go_simp; try with_reducible rfl)
  simp only [Act.put, List.setIfInBounds_toArray, List.set_cons_zero, List.set_cons_succ]
  refine wpAnyH_ready (rs := [20]) (by kernel_rfl) (by simp) ?_
  refine AllReadyH.cons (o := { dst := some 23, op := Op.call { callee := Callee.value (Operand.func 36), args := #[Operand.tmp 22], argTypes := #[24] }, type := 24, pos := "bytes.go:23", after := #[{ on := 19, ground := Ground.data }, { on := 16, ground := Ground.chain }], guard := none }) rfl (fun K hK => ?_) AllReadyH.nil
  go_simp
  refine (LE.out _).mono ?_
  rintro e wn ⟨t, rfl, ht, hb⟩
  have hk := hidden (hHeld.keep hb)
  go_wp2_with fail
  refine hK.out _ _ hk.out (fun hHeld2 => ?_)
  clear hK K hHeld
  have hHeld := hHeld2
  clear hHeld2
  obtain ⟨r0, hr0⟩ := hk.out.bl
  obtain ⟨q0, q1, q2, q3, q4⟩ := hr0
  obtain ⟨f0, f1, f2, f3, f4⟩ := hk.out.wr
  have PUT := hk.out.put t (by omega)
  simp only [set5] at PUT
  replace PUT := hidden PUT
  refine wpAnyH_ready (rs := [21]) (by kernel_rfl) (by simp) ?_
  refine AllReadyH.cons (o := { dst := none, op := Op.store 24 (Operand.tmp 2) (Operand.tmp 23), type := 0, pos := "bytes.go:17", after := #[{ on := 20, ground := Ground.data }, { on := 20, ground := Ground.chain }, { on := 0, ground := Ground.phase }, { on := 1, ground := Ground.phase }, { on := 2, ground := Ground.phase }, { on := 3, ground := Ground.phase }, { on := 4, ground := Ground.phase }, { on := 5, ground := Ground.phase }, { on := 6, ground := Ground.phase }, { on := 7, ground := Ground.phase }, { on := 8, ground := Ground.phase }, { on := 9, ground := Ground.phase }, { on := 10, ground := Ground.phase }, { on := 11, ground := Ground.phase }, { on := 12, ground := Ground.phase }, { on := 13, ground := Ground.phase }, { on := 14, ground := Ground.phase }, { on := 15, ground := Ground.phase }, { on := 16, ground := Ground.phase }, { on := 17, ground := Ground.phase }, { on := 18, ground := Ground.phase }, { on := 19, ground := Ground.phase }, { on := 20, ground := Ground.phase }], guard := none }) rfl (fun K hK => ?_) AllReadyH.nil
  go_simp
  refine hK.out _ _ PUT.out (fun hHeld2 => ?_)
  clear hK K
  refine wpAnyH_done (by kernel_rfl) ?_ _
  refine NoPanic.normal ?_
  go_wp2_with fail
  refine bodyPost_ret (v := .agg #[.int .u64 t.x0, .int .u64 t.x1, .int .u64 t.x2, .int .u64 t.x3, .int .u64 t.x4]) (by simp [results, Tryd.results14, go_sem, q0, q1, q2, q3, q4]) rfl ⟨t, rfl, ht, PUT.out.bel⟩
end Go.Proofs.YtgijodenblpbgaaDoor
