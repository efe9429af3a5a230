import Derived.Test.YtalalgppdhpfiabCmath
namespace Go.Proofs.Ytalalgppdhpfiab
open Go.RowKit

/-- elements that lie there, and the bytes c -/
structure CW (w0 : World) (L : List (Nat × E5)) (cs : List Value) (w : World) : Prop where
  st : St w0 L [] w
  rg : w.rangeAt (w0.heap.size + 1 + 1) 0 cs
theorem CW.keep {w0 : World} {L : List (Nat × E5)} {cs : List Value} {w1 w2 : World} (h : CW w0 L cs w1) (hb : Below w1.heap.size w1 w2) : CW w0 L cs w2 := ⟨h.st.keep hb, range_keep h.rg hb⟩
theorem CW.drew {w0 : World} {L : List (Nat × E5)} {cs : List Value} {w1 : World} (h : CW w0 L cs w1) : CW w0 L cs w1.drew := h.keep ((Below.refl _ _).drew)
theorem CW.new {w0 : World} {L : List (Nat × E5)} {cs : List Value} {w1 : World} (h : CW w0 L cs w1) (r : E5) (t : TypeId) :
    CW w0 ((w1.heap.size, r) :: L) cs (w1.alloc (.cells #[.int .u64 r.x0, .int .u64 r.x1, .int .u64 r.x2, .int .u64 r.x3, .int .u64 r.x4] t)) := ⟨h.st.new r t, range_keep h.rg (bl_alloc _ _)⟩
theorem cell_of {w : World} {b j : Nat} {cs : List Value} {v : Value} (h : w.rangeAt b 0 cs) (hv : cs[j]? = some v) : w.cell? ⟨b, j, none⟩ = some v := by
  have := h j v hv
  rwa [Nat.zero_add] at this

/-- while the halves are written -/
structure LW (w0 : World) (N : Int) (C Zb Lb Hb : Nat) (Z : E5) (k : Nat) (w : World) : Prop where
  z : Blc w Zb Z
  c : ∀ j, j < 32 → w.cell? ⟨C, j, none⟩ = some (.int .u8 (byt N j))
  lo : ∀ j, j < 32 → w.cell? ⟨Lb, j, none⟩ = some (.int .u8 (if j < k then byt N j else 0))
  hi : ∀ j, j < 32 → w.cell? ⟨Hb, j, none⟩ = some (.int .u8 (if j < k then byt N (16 + j) else 0))
  fl : ∀ j, j < 32 → w.frozen? ⟨Lb, j, none⟩ = false
  fh : ∀ j, j < 32 → w.frozen? ⟨Hb, j, none⟩ = false
  bel : Below w0.heap.size w0 w
theorem zeros32 (w : World) (t : TypeId) : (∀ j, j < 32 → (w.alloc (.cells #[.int .u8 0, .int .u8 0, .int .u8 0, .int .u8 0, .int .u8 0, .int .u8 0, .int .u8 0, .int .u8 0, .int .u8 0, .int .u8 0, .int .u8 0, .int .u8 0, .int .u8 0, .int .u8 0, .int .u8 0, .int .u8 0, .int .u8 0, .int .u8 0, .int .u8 0, .int .u8 0, .int .u8 0, .int .u8 0, .int .u8 0, .int .u8 0, .int .u8 0, .int .u8 0, .int .u8 0, .int .u8 0, .int .u8 0, .int .u8 0, .int .u8 0, .int .u8 0] t)).cell? ⟨w.heap.size, j, none⟩ = some (.int .u8 0)) ∧ (∀ j, j < 32 → (w.alloc (.cells #[.int .u8 0, .int .u8 0, .int .u8 0, .int .u8 0, .int .u8 0, .int .u8 0, .int .u8 0, .int .u8 0, .int .u8 0, .int .u8 0, .int .u8 0, .int .u8 0, .int .u8 0, .int .u8 0, .int .u8 0, .int .u8 0, .int .u8 0, .int .u8 0, .int .u8 0, .int .u8 0, .int .u8 0, .int .u8 0, .int .u8 0, .int .u8 0, .int .u8 0, .int .u8 0, .int .u8 0, .int .u8 0, .int .u8 0, .int .u8 0, .int .u8 0, .int .u8 0] t)).frozen? ⟨w.heap.size, j, none⟩ = false) := by
  refine ⟨fun j hj => ?_, fun j hj => by go_simp⟩
  rw [World.cell?_alloc_mark]
  have eZ : (#[.int .u8 0, .int .u8 0, .int .u8 0, .int .u8 0, .int .u8 0, .int .u8 0, .int .u8 0, .int .u8 0, .int .u8 0, .int .u8 0, .int .u8 0, .int .u8 0, .int .u8 0, .int .u8 0, .int .u8 0, .int .u8 0, .int .u8 0, .int .u8 0, .int .u8 0, .int .u8 0, .int .u8 0, .int .u8 0, .int .u8 0, .int .u8 0, .int .u8 0, .int .u8 0, .int .u8 0, .int .u8 0, .int .u8 0, .int .u8 0, .int .u8 0, .int .u8 0] : Array Value) = Array.replicate 32 (.int .u8 0) := rfl
  rw [eZ]
  simp [hj]
theorem LW.start {w0 w : World} {N : Int} {C Zb : Nat} {Z : E5} (t : TypeId) (hz : Blc w Zb Z) (hc : ∀ j, j < 32 → w.cell? ⟨C, j, none⟩ = some (.int .u8 (byt N j))) (hb : Below w0.heap.size w0 w) :
    LW w0 N C Zb w.heap.size (w.heap.size + 1) Z 0 ((w.alloc (.cells #[.int .u8 0, .int .u8 0, .int .u8 0, .int .u8 0, .int .u8 0, .int .u8 0, .int .u8 0, .int .u8 0, .int .u8 0, .int .u8 0, .int .u8 0, .int .u8 0, .int .u8 0, .int .u8 0, .int .u8 0, .int .u8 0, .int .u8 0, .int .u8 0, .int .u8 0, .int .u8 0, .int .u8 0, .int .u8 0, .int .u8 0, .int .u8 0, .int .u8 0, .int .u8 0, .int .u8 0, .int .u8 0, .int .u8 0, .int .u8 0, .int .u8 0, .int .u8 0] t)).alloc (.cells #[.int .u8 0, .int .u8 0, .int .u8 0, .int .u8 0, .int .u8 0, .int .u8 0, .int .u8 0, .int .u8 0, .int .u8 0, .int .u8 0, .int .u8 0, .int .u8 0, .int .u8 0, .int .u8 0, .int .u8 0, .int .u8 0, .int .u8 0, .int .u8 0, .int .u8 0, .int .u8 0, .int .u8 0, .int .u8 0, .int .u8 0, .int .u8 0, .int .u8 0, .int .u8 0, .int .u8 0, .int .u8 0, .int .u8 0, .int .u8 0, .int .u8 0, .int .u8 0] t)) := by
  obtain ⟨c1, f1⟩ := zeros32 w t
  obtain ⟨c2, f2⟩ := zeros32 (w.alloc (.cells #[.int .u8 0, .int .u8 0, .int .u8 0, .int .u8 0, .int .u8 0, .int .u8 0, .int .u8 0, .int .u8 0, .int .u8 0, .int .u8 0, .int .u8 0, .int .u8 0, .int .u8 0, .int .u8 0, .int .u8 0, .int .u8 0, .int .u8 0, .int .u8 0, .int .u8 0, .int .u8 0, .int .u8 0, .int .u8 0, .int .u8 0, .int .u8 0, .int .u8 0, .int .u8 0, .int .u8 0, .int .u8 0, .int .u8 0, .int .u8 0, .int .u8 0, .int .u8 0] t)) t
  have hl := World.block_lt_of_cell? _ ⟨w.heap.size, 0, none⟩ (c1 0 (by omega))
  rw [World.size_alloc] at c2 f2
  refine ⟨hz.keep (bl_alloc2 _ _ _), fun j hj => cell_keep (hc j hj) (bl_alloc2 _ _ _), fun j hj => ?_, fun j hj => ?_, fun j hj => ?_, f2, bl_trans hb (bl_alloc2 _ _ _)⟩
  · rw [if_neg (by omega)]; exact cell_keep (c1 j hj) (bl_alloc _ _)
  · rw [if_neg (by omega)]; exact c2 j hj
  · rw [(bl_alloc _ _).frozen (p := ⟨w.heap.size, j, none⟩) hl]; exact f1 j hj
theorem CW.sub {w0 : World} {L M : List (Nat × E5)} {cs : List Value} {w1 : World} (h : CW w0 L cs w1) (hs : ∀ p ∈ M, p ∈ L) : CW w0 M cs w1 := ⟨h.st.sub hs, h.rg⟩
theorem set_if {w : World} {b k : Nat} {f : Nat → Int} (h : ∀ j, j < 32 → w.cell? ⟨b, j, none⟩ = some (.int .u8 (if j < k then f j else 0))) (hk : k < 32) :
    ∀ j, j < 32 → (w.setCell ⟨b, k, none⟩ (.int .u8 (f k))).cell? ⟨b, j, none⟩ = some (.int .u8 (if j < k + 1 then f j else 0)) := fun j hj => by
  by_cases hjk : j = k
  · subst hjk
    have hb := h j hj
    rw [if_pos (by omega)]
    go_simp
  · rw [World.cell?_setCell_other w _ _ _ (by intro e; exact hjk (congrArg Addr.off e).symm), h j hj]
    by_cases hlt : j < k
    · rw [if_pos hlt, if_pos (by omega)]
    · rw [if_neg hlt, if_neg (by omega)]
theorem LW.step {w0 : World} {N : Int} {C Zb Lb Hb : Nat} {Z : E5} {k : Nat} {w : World} (h : LW w0 N C Zb Lb Hb Z k w) (hk : k < 16) (h1 : C < Lb) (h2 : Zb < Lb) (h3 : Lb < Hb) (h0 : w0.heap.size ≤ Lb) :
    LW w0 N C Zb Lb Hb Z (k + 1) ((w.setCell ⟨Lb, k, none⟩ (.int .u8 (byt N k))).setCell ⟨Hb, k, none⟩ (.int .u8 (byt N (16 + k)))) := by
  refine ⟨(h.z.away (by show Lb ≠ Zb; omega)).away (by show Hb ≠ Zb; omega), fun j hj => ?_, fun j hj => ?_, ?_, fun j hj => ?_, fun j hj => ?_, (h.bel.setCell h0 _).setCell (by show _ ≤ Hb; omega) _⟩
  · rw [World.cell?_setCell_far _ _ _ _ (by show Hb ≠ C; omega), World.cell?_setCell_far _ _ _ _ (by show Lb ≠ C; omega)]; exact h.c j hj
  · rw [World.cell?_setCell_far _ _ _ _ (by show Hb ≠ Lb; omega)]; exact set_if h.lo (by omega) j hj
  · refine set_if (f := fun j => byt N (16 + j)) (fun j hj => ?_) (by omega)
    rw [World.cell?_setCell_far _ _ _ _ (by show Lb ≠ Hb; omega)]; exact h.hi j hj
  · have := h.fl j hj; go_simp
  · have := h.fh j hj; go_simp

/-- the halves are there -/
structure TW (w0 : World) (Zb Lb Hb : Nat) (Z : E5) (los his : List Value) (w : World) : Prop where
  z : Blc w Zb Z
  lo : w.rangeAt Lb 0 los
  hi : w.rangeAt Hb 0 his
  bel : Below w0.heap.size w0 w
theorem TW.keep {w0 : World} {Zb Lb Hb : Nat} {Z : E5} {los his : List Value} {w1 w2 : World} (h : TW w0 Zb Lb Hb Z los his w1) (hb : Below w1.heap.size w1 w2) : TW w0 Zb Lb Hb Z los his w2 := ⟨h.z.keep hb, range_keep h.lo hb, range_keep h.hi hb, bl_trans h.bel hb⟩
structure UW (w0 : World) (Zb Lb Hb Sb : Nat) (Z : E5) (los his : List Value) (w : World) : Prop where
  t : TW w0 Zb Lb Hb Z los his w
  s : Blc w Sb sh5
theorem UW.keep {w0 : World} {Zb Lb Hb Sb : Nat} {Z : E5} {los his : List Value} {w1 w2 : World} (h : UW w0 Zb Lb Hb Sb Z los his w1) (hb : Below w1.heap.size w1 w2) : UW w0 Zb Lb Hb Sb Z los his w2 := ⟨h.t.keep hb, h.s.keep hb⟩
theorem and127 (x : Int) (h0 : 0 ≤ x) (h1 : x ≤ 255) : bits .and .u8 x 127 = x % 128 := by
  rw [u8_and _ _ h0 (by omega) (by omega) (by omega)]
  have e1 : x.toNat &&& (127 : Int).toNat = x.toNat % 128 := Nat.and_two_pow_sub_one_eq_mod _ 7
  rw [e1]; omega
theorem LW.done {w0 : World} {N C Zb Lb Hb : Nat} {Z : E5} {w : World} (h : LW w0 (N : Int) C Zb Lb Hb Z 16 w) (h2 : Zb < Lb) (h3 : Lb < Hb) (h0 : w0.heap.size ≤ Lb) :
    TW w0 Zb Lb Hb Z ((bytes ((N % 340282366920938463463374607431768211456 : Nat) : Int)).map fun z => Value.int .u8 z) ((bytes ((N / 340282366920938463463374607431768211456 % 170141183460469231731687303715884105728 : Nat) : Int)).map fun z => Value.int .u8 z) (w.setCell ⟨Hb, 15, none⟩ (.int .u8 (byt N 31 % 128))) := by
  refine ⟨h.z.away (by show Hb ≠ Zb; omega), fun j v hv => ?_, fun j v hv => ?_, h.bel.setCell (by show _ ≤ Hb; omega) _⟩
  · obtain ⟨hj, rfl⟩ := bytesV _ j v hv
    rw [Nat.zero_add, World.cell?_setCell_far _ _ _ _ (by show Hb ≠ Lb; omega), h.lo j hj, lo_byt]
  · obtain ⟨hj, rfl⟩ := bytesV _ j v hv
    rw [Nat.zero_add, hi_byt]
    by_cases hjk : j = 15
    · subst hjk
      have hb := h.hi 15 (by omega)
      rw [if_pos (by omega), if_pos rfl]
      go_simp
    · rw [World.cell?_setCell_other w _ _ _ (by intro e; exact hjk (congrArg Addr.off e).symm), h.hi j hj]
      by_cases hlt : j < 16
      · rw [if_pos hlt, if_pos hlt, if_neg hjk]
      · rw [if_neg hlt, if_neg hlt]


set_option maxRecDepth 100000 in
set_option maxHeartbeats 64000000 in
theorem cod_ok (a b : E5) (zs : List Int) (w : World) (ha : a.ok) (hb : b.ok) (lz : zs.length = 32) (hz : ∀ z ∈ zs, 0 ≤ z ∧ z ≤ 255) (hB : decide (bytes (((num zs % 57896044618658097711785492504343953926634992332820282019728792003956564819968 : Nat) : Int) % Fm.P) = zs) = true) :
    Calls Try.prog 3 #[a.v, b.v, bv zs] w fun e w' => e = .returned (.bool true) ∧ Below w.heap.size w w' := by
  obtain ⟨M, hM⟩ : ∃ M : Int, M = ((num zs % 57896044618658097711785492504343953926634992332820282019728792003956564819968 : Nat) : Int) := ⟨_, rfl⟩
  rw [← hM] at hB
  obtain ⟨LA, hLA⟩ : ∃ t : E5, t = lst a.n := ⟨_, rfl⟩
  obtain ⟨LB, hLB⟩ : ∃ t : E5, t = lst b.n := ⟨_, rfl⟩
  obtain ⟨Z, hZ⟩ : ∃ t : E5, t = lst M := ⟨_, rfl⟩
  obtain ⟨s, hs⟩ : ∃ s : Bool, s = decide (a.n % Fm.P = b.n % Fm.P) := ⟨_, rfl⟩
  have lv := hidden live_any
  have e_a := hidden (fun w => Encode_any a w ha)
  have e_b := hidden (fun w => Encode_any b w hb)
  have d_a : Hid (∀ w : World, Calls Try.prog 6 #[bv (bytes (a.n % Fm.P))] w fun e w' => e = .returned (.tuple #[LA.v, .int .i64 0]) ∧ Below w.heap.size w w') := hidden (fun w => by
    have := Decode_any (bytes (a.n % Fm.P)) w (bytes_len _) (bytes_bd _) (a.n % Fm.P) (dec_M _) true (by rw [emod_emod_P]; simp)
    rw [show lst (a.n % Fm.P) = LA from by rw [hLA]; exact lst_congr (emod_emod_P _)] at this
    exact this)
  have l_a := hidden (fun w => fix (Least_any a w ha) hLA.symm)
  have l_b := hidden (fun w => fix (Least_any b w hb) hLB.symm)
  have s_ab := hidden (fun w => Same_any a b w ha hb)
  rw [← hs] at s_ab
  have qAB := fun w => (eq32 (bytes (a.n % Fm.P)) (bytes (b.n % Fm.P)) w (bytes_len _) (bytes_len _)).trans (by rw [bytes_same, ← hs] : _ = Result.ok s w)
  have qLL := fun w => (eq5 LA LB w).trans (by rw [hLA, hLB, lst_same, ← hs] : _ = Result.ok s w)
  have qA := fun w => (eq5 LA LA w).trans (by rw [E5.same_self] : _ = Result.ok true w)
  have qZ := fun w => (eq5 Z Z w).trans (by rw [E5.same_self] : _ = Result.ok true w)
  have d_c := hidden (fun w => Decode_any zs w lz hz M hM true hB)
  rw [← hZ] at d_c
  have r_c := hidden (fun w => fix (Reduce_any zs w lz hz) (by rw [← hM, ← hZ] : _ = Z))
  have e_z : Hid (∀ w : World, Calls Try.prog 7 #[Z.v] w fun e w' => e = .returned (.agg ((bytes (M % Fm.P)).map fun z => Value.int .u8 z).toArray) ∧ Below w.heap.size w w') := hidden (fun w => by
    have := Encode_any Z w (by rw [hZ]; exact lst_ok _)
    rw [show Z.n % Fm.P = M % Fm.P from by rw [hZ, lst_n, emod_emod_P]] at this
    exact this)
  have qC := fun w => (eq32 (bytes (M % Fm.P)) zs w (bytes_len _) lz).trans (by rw [hB] : _ = Result.ok true w)
  obtain ⟨N, hN⟩ : ∃ N : Nat, N = num zs := ⟨_, rfl⟩
  obtain ⟨LO, hLO⟩ : ∃ t : E5, t = lst ((N % 340282366920938463463374607431768211456 : Nat) : Int) := ⟨_, rfl⟩
  obtain ⟨HI, hHI⟩ : ∃ t : E5, t = lst ((N / 340282366920938463463374607431768211456 % 170141183460469231731687303715884105728 : Nat) : Int) := ⟨_, rfl⟩
  obtain ⟨MU, hMU⟩ : ∃ t : E5, t = lst (HI.n * sh5.n) := ⟨_, rfl⟩
  have r_lo := hidden (fun w => fix (Reduce_any (bytes ((N % 340282366920938463463374607431768211456 : Nat) : Int)) w (bytes_len _) (bytes_bd _)) (by rw [num_lo, ← hLO] : _ = LO))
  have r_hi := hidden (fun w => fix (Reduce_any (bytes ((N / 340282366920938463463374607431768211456 % 170141183460469231731687303715884105728 : Nat) : Int)) w (bytes_len _) (bytes_bd _)) (by rw [num_hi, ← hHI] : _ = HI))
  have m_h := hidden (fun w => fix (Mul_any HI sh5 w (by rw [hHI]; exact lst_ok _) sh5ok) hMU.symm)
  have a_d := hidden (fun w => fix (Add_any LO MU w (by rw [hLO]; exact lst_ok _) (by rw [hMU]; exact lst_ok _)) (by rw [hLO, hMU, hHI, sum_halves, hN, ← hM, ← hZ] : _ = Z))
  have ZC := fun j hj => zs_cell zs lz hz j hj
  rw [← hN] at ZC
  have hi : (Try.prog.info? 26).map (·.size) = some (zs.map fun z => Value.int .u8 z).length := by rw [List.length_map, lz]; kernel_rfl
  have hil : (Try.prog.info? 26).map (·.size) = some ((bytes ((N % 340282366920938463463374607431768211456 : Nat) : Int)).map fun z => Value.int .u8 z).length := by rw [List.length_map, bytes_len]; kernel_rfl
  have hih : (Try.prog.info? 26).map (·.size) = some ((bytes ((N / 340282366920938463463374607431768211456 % 170141183460469231731687303715884105728 : Nat) : Int)).map fun z => Value.int .u8 z).length := by rw [List.length_map, bytes_len]; kernel_rfl
  have DONE := hidden (fun (w0 : World) (C Zb Lb Hb : Nat) (w : World) (h : LW w0 (N : Int) C Zb Lb Hb Z 16 w) => h.done)
  have hu : Try.prog.underlying 26 = some (.array 32 5) := by kernel_rfl
  clear hM hLA hLB hZ hs hLO hHI hMU hB ha hb lz
  have RN := hidden (range_new ((w.alloc (.cells #[.int .u64 a.x0, .int .u64 a.x1, .int .u64 a.x2, .int .u64 a.x3, .int .u64 a.x4] 24)).alloc (.cells #[.int .u64 b.x0, .int .u64 b.x1, .int .u64 b.x2, .int .u64 b.x3, .int .u64 b.x4] 24)) zs 26)
  simp only [World.size_alloc] at RN
  clear hz hN
  simp only [E5.v, bv, sh5, cond] at *
  generalize ((bytes (a.n % Fm.P)).map fun z => Value.int .u8 z) = dA at *
  generalize ((bytes (b.n % Fm.P)).map fun z => Value.int .u8 z) = dB at *
  generalize ((bytes (M % Fm.P)).map fun z => Value.int .u8 z) = dM at *
  generalize ((bytes ((N % 340282366920938463463374607431768211456 : Nat) : Int)).map fun z => Value.int .u8 z) = los at *
  generalize ((bytes ((N / 340282366920938463463374607431768211456 % 170141183460469231731687303715884105728 : Nat) : Int)).map fun z => Value.int .u8 z) = his at *
  generalize (zs.map fun z => Value.int .u8 z) = cs at *
  have HU := hidden hu; have HI_ := hidden hi; have HIL := hidden hil; have HIH := hidden hih; have ZCH := hidden ZC
  clear hu hi hil hih ZC
  go_enter Try.func3, Try.ntmps3
  go_wp2_with fail
  refine (lv.out _).mono ?_
  rintro e w1 ⟨rfl, hb1⟩
  have s0 := ((St.start w a 24).new b 24).keep (bl_alloc _ (.cells cs.toArray 26))
  simp only [World.size_alloc] at s0
  have s1 : CW w [(w.heap.size + 1, b), (w.heap.size, a)] cs w1 := CW.keep ⟨s0, RN.out⟩ hb1
  clear s0
  clear hb1 RN
  have a0 := (s1.st.live (w.heap.size, a) (by simp)).c0
  have a1 := (s1.st.live (w.heap.size, a) (by simp)).c1
  have a2 := (s1.st.live (w.heap.size, a) (by simp)).c2
  have a3 := (s1.st.live (w.heap.size, a) (by simp)).c3
  have a4 := (s1.st.live (w.heap.size, a) (by simp)).c4
  replace s1 := hidden s1
  go_wp2_with fail
  refine (e_a.out _).mono ?_
  rintro e w2 ⟨rfl, hb2⟩
  have s2 := hidden (s1.out.keep hb2)
  clear s1 hb2 a0 a1 a2 a3 a4
  go_wp2_with fail
  refine (d_a.out _).mono ?_
  rintro e w3 ⟨rfl, hb3⟩
  have s3 : CW w [(w3.heap.size, LA), (w.heap.size + 1, b), (w.heap.size, a)] cs (w3.alloc (.cells #[.int .u64 LA.x0, .int .u64 LA.x1, .int .u64 LA.x2, .int .u64 LA.x3, .int .u64 LA.x4] 24)) := (s2.out.keep hb3).new LA 24
  clear s2 hb3
  replace s3 := hidden s3
  go_wp2_with fail
  have K4 : Hid (∀ w' : World, CW w [(w3.heap.size, LA), (w.heap.size + 1, b), (w.heap.size, a)] cs w' → (fun w' => CW w [(w3.heap.size, LA), (w.heap.size + 1, b), (w.heap.size, a)] cs w' ∧ w'.cell? ⟨w3.heap.size, 0, none⟩ = some (.int .u64 LA.x0) ∧ w'.cell? ⟨w3.heap.size, 1, none⟩ = some (.int .u64 LA.x1) ∧ w'.cell? ⟨w3.heap.size, 2, none⟩ = some (.int .u64 LA.x2) ∧ w'.cell? ⟨w3.heap.size, 3, none⟩ = some (.int .u64 LA.x3) ∧ w'.cell? ⟨w3.heap.size, 4, none⟩ = some (.int .u64 LA.x4) ∧ w'.cell? ⟨w.heap.size + 1, 0, none⟩ = some (.int .u64 b.x0) ∧ w'.cell? ⟨w.heap.size + 1, 1, none⟩ = some (.int .u64 b.x1) ∧ w'.cell? ⟨w.heap.size + 1, 2, none⟩ = some (.int .u64 b.x2) ∧ w'.cell? ⟨w.heap.size + 1, 3, none⟩ = some (.int .u64 b.x3) ∧ w'.cell? ⟨w.heap.size + 1, 4, none⟩ = some (.int .u64 b.x4) ∧ w'.cell? ⟨w.heap.size, 0, none⟩ = some (.int .u64 a.x0) ∧ w'.cell? ⟨w.heap.size, 1, none⟩ = some (.int .u64 a.x1) ∧ w'.cell? ⟨w.heap.size, 2, none⟩ = some (.int .u64 a.x2) ∧ w'.cell? ⟨w.heap.size, 3, none⟩ = some (.int .u64 a.x3) ∧ w'.cell? ⟨w.heap.size, 4, none⟩ = some (.int .u64 a.x4)) w') := hidden (fun w' h => ⟨h, (h.st.live (w3.heap.size, LA) (by simp)).c0, (h.st.live (w3.heap.size, LA) (by simp)).c1, (h.st.live (w3.heap.size, LA) (by simp)).c2, (h.st.live (w3.heap.size, LA) (by simp)).c3, (h.st.live (w3.heap.size, LA) (by simp)).c4, (h.st.live (w.heap.size + 1, b) (by simp)).c0, (h.st.live (w.heap.size + 1, b) (by simp)).c1, (h.st.live (w.heap.size + 1, b) (by simp)).c2, (h.st.live (w.heap.size + 1, b) (by simp)).c3, (h.st.live (w.heap.size + 1, b) (by simp)).c4, (h.st.live (w.heap.size, a) (by simp)).c0, (h.st.live (w.heap.size, a) (by simp)).c1, (h.st.live (w.heap.size, a) (by simp)).c2, (h.st.live (w.heap.size, a) (by simp)).c3, (h.st.live (w.heap.size, a) (by simp)).c4⟩)
  have K0 : Hid ((fun w' => CW w [(w3.heap.size, LA), (w.heap.size + 1, b), (w.heap.size, a)] cs w' ∧ w'.cell? ⟨w3.heap.size, 0, none⟩ = some (.int .u64 LA.x0) ∧ w'.cell? ⟨w3.heap.size, 1, none⟩ = some (.int .u64 LA.x1) ∧ w'.cell? ⟨w3.heap.size, 2, none⟩ = some (.int .u64 LA.x2) ∧ w'.cell? ⟨w3.heap.size, 3, none⟩ = some (.int .u64 LA.x3) ∧ w'.cell? ⟨w3.heap.size, 4, none⟩ = some (.int .u64 LA.x4) ∧ w'.cell? ⟨w.heap.size + 1, 0, none⟩ = some (.int .u64 b.x0) ∧ w'.cell? ⟨w.heap.size + 1, 1, none⟩ = some (.int .u64 b.x1) ∧ w'.cell? ⟨w.heap.size + 1, 2, none⟩ = some (.int .u64 b.x2) ∧ w'.cell? ⟨w.heap.size + 1, 3, none⟩ = some (.int .u64 b.x3) ∧ w'.cell? ⟨w.heap.size + 1, 4, none⟩ = some (.int .u64 b.x4) ∧ w'.cell? ⟨w.heap.size, 0, none⟩ = some (.int .u64 a.x0) ∧ w'.cell? ⟨w.heap.size, 1, none⟩ = some (.int .u64 a.x1) ∧ w'.cell? ⟨w.heap.size, 2, none⟩ = some (.int .u64 a.x2) ∧ w'.cell? ⟨w.heap.size, 3, none⟩ = some (.int .u64 a.x3) ∧ w'.cell? ⟨w.heap.size, 4, none⟩ = some (.int .u64 a.x4)) _) := hidden (K4.out _ (s3.out).drew)
  go_region_held3 (fun w' => CW w [(w3.heap.size, LA), (w.heap.size + 1, b), (w.heap.size, a)] cs w' ∧ w'.cell? ⟨w3.heap.size, 0, none⟩ = some (.int .u64 LA.x0) ∧ w'.cell? ⟨w3.heap.size, 1, none⟩ = some (.int .u64 LA.x1) ∧ w'.cell? ⟨w3.heap.size, 2, none⟩ = some (.int .u64 LA.x2) ∧ w'.cell? ⟨w3.heap.size, 3, none⟩ = some (.int .u64 LA.x3) ∧ w'.cell? ⟨w3.heap.size, 4, none⟩ = some (.int .u64 LA.x4) ∧ w'.cell? ⟨w.heap.size + 1, 0, none⟩ = some (.int .u64 b.x0) ∧ w'.cell? ⟨w.heap.size + 1, 1, none⟩ = some (.int .u64 b.x1) ∧ w'.cell? ⟨w.heap.size + 1, 2, none⟩ = some (.int .u64 b.x2) ∧ w'.cell? ⟨w.heap.size + 1, 3, none⟩ = some (.int .u64 b.x3) ∧ w'.cell? ⟨w.heap.size + 1, 4, none⟩ = some (.int .u64 b.x4) ∧ w'.cell? ⟨w.heap.size, 0, none⟩ = some (.int .u64 a.x0) ∧ w'.cell? ⟨w.heap.size, 1, none⟩ = some (.int .u64 a.x1) ∧ w'.cell? ⟨w.heap.size, 2, none⟩ = some (.int .u64 a.x2) ∧ w'.cell? ⟨w.heap.size, 3, none⟩ = some (.int .u64 a.x3) ∧ w'.cell? ⟨w.heap.size, 4, none⟩ = some (.int .u64 a.x4)) (first | with_reducible exact K0.out | with_reducible exact hk.out)
    (first | (go_at_call 8; with_reducible refine (l_a.out _).mono ?_; rintro e wn ⟨rfl, hb⟩; have hH := (show (fun w' => CW w [(w3.heap.size, LA), (w.heap.size + 1, b), (w.heap.size, a)] cs w' ∧ w'.cell? ⟨w3.heap.size, 0, none⟩ = some (.int .u64 LA.x0) ∧ w'.cell? ⟨w3.heap.size, 1, none⟩ = some (.int .u64 LA.x1) ∧ w'.cell? ⟨w3.heap.size, 2, none⟩ = some (.int .u64 LA.x2) ∧ w'.cell? ⟨w3.heap.size, 3, none⟩ = some (.int .u64 LA.x3) ∧ w'.cell? ⟨w3.heap.size, 4, none⟩ = some (.int .u64 LA.x4) ∧ w'.cell? ⟨w.heap.size + 1, 0, none⟩ = some (.int .u64 b.x0) ∧ w'.cell? ⟨w.heap.size + 1, 1, none⟩ = some (.int .u64 b.x1) ∧ w'.cell? ⟨w.heap.size + 1, 2, none⟩ = some (.int .u64 b.x2) ∧ w'.cell? ⟨w.heap.size + 1, 3, none⟩ = some (.int .u64 b.x3) ∧ w'.cell? ⟨w.heap.size + 1, 4, none⟩ = some (.int .u64 b.x4) ∧ w'.cell? ⟨w.heap.size, 0, none⟩ = some (.int .u64 a.x0) ∧ w'.cell? ⟨w.heap.size, 1, none⟩ = some (.int .u64 a.x1) ∧ w'.cell? ⟨w.heap.size, 2, none⟩ = some (.int .u64 a.x2) ∧ w'.cell? ⟨w.heap.size, 3, none⟩ = some (.int .u64 a.x3) ∧ w'.cell? ⟨w.heap.size, 4, none⟩ = some (.int .u64 a.x4)) _ from by assumption); have hk := hidden (K4.out _ (hH.1.keep hb))) | (go_at_call 8; with_reducible refine (l_b.out _).mono ?_; rintro e wn ⟨rfl, hb⟩; have hH := (show (fun w' => CW w [(w3.heap.size, LA), (w.heap.size + 1, b), (w.heap.size, a)] cs w' ∧ w'.cell? ⟨w3.heap.size, 0, none⟩ = some (.int .u64 LA.x0) ∧ w'.cell? ⟨w3.heap.size, 1, none⟩ = some (.int .u64 LA.x1) ∧ w'.cell? ⟨w3.heap.size, 2, none⟩ = some (.int .u64 LA.x2) ∧ w'.cell? ⟨w3.heap.size, 3, none⟩ = some (.int .u64 LA.x3) ∧ w'.cell? ⟨w3.heap.size, 4, none⟩ = some (.int .u64 LA.x4) ∧ w'.cell? ⟨w.heap.size + 1, 0, none⟩ = some (.int .u64 b.x0) ∧ w'.cell? ⟨w.heap.size + 1, 1, none⟩ = some (.int .u64 b.x1) ∧ w'.cell? ⟨w.heap.size + 1, 2, none⟩ = some (.int .u64 b.x2) ∧ w'.cell? ⟨w.heap.size + 1, 3, none⟩ = some (.int .u64 b.x3) ∧ w'.cell? ⟨w.heap.size + 1, 4, none⟩ = some (.int .u64 b.x4) ∧ w'.cell? ⟨w.heap.size, 0, none⟩ = some (.int .u64 a.x0) ∧ w'.cell? ⟨w.heap.size, 1, none⟩ = some (.int .u64 a.x1) ∧ w'.cell? ⟨w.heap.size, 2, none⟩ = some (.int .u64 a.x2) ∧ w'.cell? ⟨w.heap.size, 3, none⟩ = some (.int .u64 a.x3) ∧ w'.cell? ⟨w.heap.size, 4, none⟩ = some (.int .u64 a.x4)) _ from by assumption); have hk := hidden (K4.out _ (hH.1.keep hb))) | (go_at_call 9; with_reducible refine (s_ab.out _).mono ?_; rintro e wn ⟨rfl, hb⟩; have hH := (show (fun w' => CW w [(w3.heap.size, LA), (w.heap.size + 1, b), (w.heap.size, a)] cs w' ∧ w'.cell? ⟨w3.heap.size, 0, none⟩ = some (.int .u64 LA.x0) ∧ w'.cell? ⟨w3.heap.size, 1, none⟩ = some (.int .u64 LA.x1) ∧ w'.cell? ⟨w3.heap.size, 2, none⟩ = some (.int .u64 LA.x2) ∧ w'.cell? ⟨w3.heap.size, 3, none⟩ = some (.int .u64 LA.x3) ∧ w'.cell? ⟨w3.heap.size, 4, none⟩ = some (.int .u64 LA.x4) ∧ w'.cell? ⟨w.heap.size + 1, 0, none⟩ = some (.int .u64 b.x0) ∧ w'.cell? ⟨w.heap.size + 1, 1, none⟩ = some (.int .u64 b.x1) ∧ w'.cell? ⟨w.heap.size + 1, 2, none⟩ = some (.int .u64 b.x2) ∧ w'.cell? ⟨w.heap.size + 1, 3, none⟩ = some (.int .u64 b.x3) ∧ w'.cell? ⟨w.heap.size + 1, 4, none⟩ = some (.int .u64 b.x4) ∧ w'.cell? ⟨w.heap.size, 0, none⟩ = some (.int .u64 a.x0) ∧ w'.cell? ⟨w.heap.size, 1, none⟩ = some (.int .u64 a.x1) ∧ w'.cell? ⟨w.heap.size, 2, none⟩ = some (.int .u64 a.x2) ∧ w'.cell? ⟨w.heap.size, 3, none⟩ = some (.int .u64 a.x3) ∧ w'.cell? ⟨w.heap.size, 4, none⟩ = some (.int .u64 a.x4)) _ from by assumption); have hk := hidden (K4.out _ (hH.1.keep hb))) | (go_at_call 7; with_reducible refine (e_a.out _).mono ?_; rintro e wn ⟨rfl, hb⟩; have hH := (show (fun w' => CW w [(w3.heap.size, LA), (w.heap.size + 1, b), (w.heap.size, a)] cs w' ∧ w'.cell? ⟨w3.heap.size, 0, none⟩ = some (.int .u64 LA.x0) ∧ w'.cell? ⟨w3.heap.size, 1, none⟩ = some (.int .u64 LA.x1) ∧ w'.cell? ⟨w3.heap.size, 2, none⟩ = some (.int .u64 LA.x2) ∧ w'.cell? ⟨w3.heap.size, 3, none⟩ = some (.int .u64 LA.x3) ∧ w'.cell? ⟨w3.heap.size, 4, none⟩ = some (.int .u64 LA.x4) ∧ w'.cell? ⟨w.heap.size + 1, 0, none⟩ = some (.int .u64 b.x0) ∧ w'.cell? ⟨w.heap.size + 1, 1, none⟩ = some (.int .u64 b.x1) ∧ w'.cell? ⟨w.heap.size + 1, 2, none⟩ = some (.int .u64 b.x2) ∧ w'.cell? ⟨w.heap.size + 1, 3, none⟩ = some (.int .u64 b.x3) ∧ w'.cell? ⟨w.heap.size + 1, 4, none⟩ = some (.int .u64 b.x4) ∧ w'.cell? ⟨w.heap.size, 0, none⟩ = some (.int .u64 a.x0) ∧ w'.cell? ⟨w.heap.size, 1, none⟩ = some (.int .u64 a.x1) ∧ w'.cell? ⟨w.heap.size, 2, none⟩ = some (.int .u64 a.x2) ∧ w'.cell? ⟨w.heap.size, 3, none⟩ = some (.int .u64 a.x3) ∧ w'.cell? ⟨w.heap.size, 4, none⟩ = some (.int .u64 a.x4)) _ from by assumption); have hk := hidden (K4.out _ (hH.1.keep hb))) | (go_at_call 7; with_reducible refine (e_b.out _).mono ?_; rintro e wn ⟨rfl, hb⟩; have hH := (show (fun w' => CW w [(w3.heap.size, LA), (w.heap.size + 1, b), (w.heap.size, a)] cs w' ∧ w'.cell? ⟨w3.heap.size, 0, none⟩ = some (.int .u64 LA.x0) ∧ w'.cell? ⟨w3.heap.size, 1, none⟩ = some (.int .u64 LA.x1) ∧ w'.cell? ⟨w3.heap.size, 2, none⟩ = some (.int .u64 LA.x2) ∧ w'.cell? ⟨w3.heap.size, 3, none⟩ = some (.int .u64 LA.x3) ∧ w'.cell? ⟨w3.heap.size, 4, none⟩ = some (.int .u64 LA.x4) ∧ w'.cell? ⟨w.heap.size + 1, 0, none⟩ = some (.int .u64 b.x0) ∧ w'.cell? ⟨w.heap.size + 1, 1, none⟩ = some (.int .u64 b.x1) ∧ w'.cell? ⟨w.heap.size + 1, 2, none⟩ = some (.int .u64 b.x2) ∧ w'.cell? ⟨w.heap.size + 1, 3, none⟩ = some (.int .u64 b.x3) ∧ w'.cell? ⟨w.heap.size + 1, 4, none⟩ = some (.int .u64 b.x4) ∧ w'.cell? ⟨w.heap.size, 0, none⟩ = some (.int .u64 a.x0) ∧ w'.cell? ⟨w.heap.size, 1, none⟩ = some (.int .u64 a.x1) ∧ w'.cell? ⟨w.heap.size, 2, none⟩ = some (.int .u64 a.x2) ∧ w'.cell? ⟨w.heap.size, 3, none⟩ = some (.int .u64 a.x3) ∧ w'.cell? ⟨w.heap.size, 4, none⟩ = some (.int .u64 a.x4)) _ from by assumption); have hk := hidden (K4.out _ (hH.1.keep hb))))
  have s4 := hidden hk.out.1
  clear hk K4 K0 s3 l_a l_b s_ab e_a e_b d_a qAB qLL qA lv
  go_wp2_with (refine wpList_load_mid rfl 26 _ rfl (w.heap.size + 1 + 1) 0 (by rfl) cs _ s4.out.rg HU.out rfl HI_.out ?_)
  refine (d_c.out _).mono ?_
  rintro e w5 ⟨rfl, hb5⟩
  have s5 : CW w [(w5.heap.size, Z), (w3.heap.size, LA), (w.heap.size + 1, b), (w.heap.size, a)] cs (w5.alloc (.cells #[.int .u64 Z.x0, .int .u64 Z.x1, .int .u64 Z.x2, .int .u64 Z.x3, .int .u64 Z.x4] 24)) := (s4.out.keep hb5).new Z 24
  clear s4 hb5 d_c
  replace s5 := hidden s5
  go_wp2_with (refine wpList_load_mid rfl 26 _ rfl (w.heap.size + 1 + 1) 0 (by rfl) cs _ s5.out.rg HU.out rfl HI_.out ?_)
  refine (r_c.out _).mono ?_
  rintro e w6 ⟨rfl, hb6⟩
  have s6 : CW w [(w6.heap.size, Z), (w5.heap.size, Z)] cs (w6.alloc (.cells #[.int .u64 Z.x0, .int .u64 Z.x1, .int .u64 Z.x2, .int .u64 Z.x3, .int .u64 Z.x4] 24)) := CW.sub ((s5.out.keep hb6).new Z 24) (by simp)
  clear s5 hb6 r_c
  replace s6 := hidden s6
  go_wp2_with fail
  have K9 : Hid (∀ w' : World, CW w [(w6.heap.size, Z), (w5.heap.size, Z)] cs w' → (fun w' => CW w [(w6.heap.size, Z), (w5.heap.size, Z)] cs w' ∧ w'.cell? ⟨w6.heap.size, 0, none⟩ = some (.int .u64 Z.x0) ∧ w'.cell? ⟨w6.heap.size, 1, none⟩ = some (.int .u64 Z.x1) ∧ w'.cell? ⟨w6.heap.size, 2, none⟩ = some (.int .u64 Z.x2) ∧ w'.cell? ⟨w6.heap.size, 3, none⟩ = some (.int .u64 Z.x3) ∧ w'.cell? ⟨w6.heap.size, 4, none⟩ = some (.int .u64 Z.x4) ∧ w'.cell? ⟨w5.heap.size, 0, none⟩ = some (.int .u64 Z.x0) ∧ w'.cell? ⟨w5.heap.size, 1, none⟩ = some (.int .u64 Z.x1) ∧ w'.cell? ⟨w5.heap.size, 2, none⟩ = some (.int .u64 Z.x2) ∧ w'.cell? ⟨w5.heap.size, 3, none⟩ = some (.int .u64 Z.x3) ∧ w'.cell? ⟨w5.heap.size, 4, none⟩ = some (.int .u64 Z.x4)) w') := hidden (fun w' h => ⟨h, (h.st.live (w6.heap.size, Z) (by simp)).c0, (h.st.live (w6.heap.size, Z) (by simp)).c1, (h.st.live (w6.heap.size, Z) (by simp)).c2, (h.st.live (w6.heap.size, Z) (by simp)).c3, (h.st.live (w6.heap.size, Z) (by simp)).c4, (h.st.live (w5.heap.size, Z) (by simp)).c0, (h.st.live (w5.heap.size, Z) (by simp)).c1, (h.st.live (w5.heap.size, Z) (by simp)).c2, (h.st.live (w5.heap.size, Z) (by simp)).c3, (h.st.live (w5.heap.size, Z) (by simp)).c4⟩)
  have K0 : Hid ((fun w' => CW w [(w6.heap.size, Z), (w5.heap.size, Z)] cs w' ∧ w'.cell? ⟨w6.heap.size, 0, none⟩ = some (.int .u64 Z.x0) ∧ w'.cell? ⟨w6.heap.size, 1, none⟩ = some (.int .u64 Z.x1) ∧ w'.cell? ⟨w6.heap.size, 2, none⟩ = some (.int .u64 Z.x2) ∧ w'.cell? ⟨w6.heap.size, 3, none⟩ = some (.int .u64 Z.x3) ∧ w'.cell? ⟨w6.heap.size, 4, none⟩ = some (.int .u64 Z.x4) ∧ w'.cell? ⟨w5.heap.size, 0, none⟩ = some (.int .u64 Z.x0) ∧ w'.cell? ⟨w5.heap.size, 1, none⟩ = some (.int .u64 Z.x1) ∧ w'.cell? ⟨w5.heap.size, 2, none⟩ = some (.int .u64 Z.x2) ∧ w'.cell? ⟨w5.heap.size, 3, none⟩ = some (.int .u64 Z.x3) ∧ w'.cell? ⟨w5.heap.size, 4, none⟩ = some (.int .u64 Z.x4)) _) := hidden (K9.out _ (s6.out).drew)
  refine wp_region_noPanic ?_
  refine wp_region_held_drew (S := fun w' => CW w [(w6.heap.size, Z), (w5.heap.size, Z)] cs w' ∧ w'.cell? ⟨w6.heap.size, 0, none⟩ = some (.int .u64 Z.x0) ∧ w'.cell? ⟨w6.heap.size, 1, none⟩ = some (.int .u64 Z.x1) ∧ w'.cell? ⟨w6.heap.size, 2, none⟩ = some (.int .u64 Z.x2) ∧ w'.cell? ⟨w6.heap.size, 3, none⟩ = some (.int .u64 Z.x3) ∧ w'.cell? ⟨w6.heap.size, 4, none⟩ = some (.int .u64 Z.x4) ∧ w'.cell? ⟨w5.heap.size, 0, none⟩ = some (.int .u64 Z.x0) ∧ w'.cell? ⟨w5.heap.size, 1, none⟩ = some (.int .u64 Z.x1) ∧ w'.cell? ⟨w5.heap.size, 2, none⟩ = some (.int .u64 Z.x2) ∧ w'.cell? ⟨w5.heap.size, 3, none⟩ = some (.int .u64 Z.x3) ∧ w'.cell? ⟨w5.heap.size, 4, none⟩ = some (.int .u64 Z.x4)) (by kernel_rfl) K0.out (fun hHeld => ?_)
  refine wpAnyH_take (i := 0) (oi := { dst := some 63, op := Op.load 24 (Operand.tmp 9), type := 24, pos := "outright.go:64", after := #[], guard := none }) (v := ?_) rfl (by kernel_rfl) (by kernel_rfl) (by kernel_rfl) (fun _ _ _ h => h) (Or.inl ⟨by rfl, ?_⟩) hHeld ?_
  rotate_left 1
  · (intro w0 hSw; (try dsimp only at hSw); go_simp; try with_reducible rfl)
  simp only [Act.put, List.setIfInBounds_toArray, List.set_cons_zero, List.set_cons_succ]
  refine wpAnyH_take (i := 2) (oi := { dst := some 65, op := Op.load 26 (Operand.tmp 5), type := 26, pos := "outright.go:64", after := #[], guard := none }) rfl (by kernel_rfl) (by kernel_rfl) (by kernel_rfl) (fun _ _ _ h => h) (yieldsIf_load_mid (by rfl) _ _ rfl _ _ rfl _ _ (fun w0 hw => hw.1.rg) HU.out rfl HI_.out) hHeld ?_
  simp only [Act.put, List.setIfInBounds_toArray, List.set_cons_zero, List.set_cons_succ]
  refine wpAnyH_ready (rs := [1]) (by kernel_rfl) (by simp) ?_
  refine AllReadyH.cons (o := { dst := some 64, op := Op.call { callee := Callee.value (Operand.func 7), args := #[Operand.tmp 63], argTypes := #[24] }, type := 26, pos := "outright.go:64", after := #[{ on := 0, ground := Ground.data }], guard := none }) rfl (fun K hK => ?_) AllReadyH.nil
  go_simp
  refine (e_z.out _).mono ?_
  rintro e wn ⟨rfl, hb⟩
  have hk := hidden (K9.out _ (hHeld.1.keep hb))
  go_wp2_with fail
  refine hK.out _ _ hk.out (fun hHeld2 => ?_)
  clear hK K hHeld hb hk
  have hHeld := hHeld2
  clear hHeld2
  refine wpAnyH_take (i := 3) (oi := { dst := some 66, op := Op.binOp BinOp.neq 26 (Operand.tmp 64) (Operand.tmp 65) 26, type := 4, pos := "outright.go:64", after := #[{ on := 1, ground := Ground.data }, { on := 2, ground := Ground.data }], guard := none }) (v := ?_) rfl (by kernel_rfl) (by kernel_rfl) (by kernel_rfl) (fun _ _ _ h => h) (Or.inl ⟨by rfl, ?_⟩) hHeld ?_
  rotate_left 1
  · (intro w0 hSw; (try dsimp only at hSw); go_simp; try with_reducible rfl)
  simp only [Act.put, List.setIfInBounds_toArray, List.set_cons_zero, List.set_cons_succ]
  refine wpAnyH_take (i := 4) (oi := { dst := some 67, op := Op.move (Operand.tmp 66), type := 4, pos := "outright.go:64", after := #[{ on := 3, ground := Ground.data }, { on := 1, ground := Ground.chain }], guard := none }) (v := ?_) rfl (by kernel_rfl) (by kernel_rfl) (by kernel_rfl) (fun _ _ _ h => h) (Or.inl ⟨by rfl, ?_⟩) hHeld ?_
  rotate_left 1
  · (intro w0 hSw; (try dsimp only at hSw); go_simp; try with_reducible rfl)
  simp only [Act.put, List.setIfInBounds_toArray, List.set_cons_zero, List.set_cons_succ]
  refine wpAnyH_take (i := 5) (oi := { dst := some 68, op := Op.load 24 (Operand.tmp 9), type := 24, pos := "outright.go:64", after := #[{ on := 4, ground := Ground.guard }], guard := some (4, false) }) (v := ?_) rfl (by kernel_rfl) (by kernel_rfl) (by kernel_rfl) (fun _ _ _ h => h) (Or.inl ⟨by rfl, ?_⟩) hHeld ?_
  rotate_left 1
  · (intro w0 hSw; (try dsimp only at hSw); go_simp; try with_reducible rfl)
  simp only [Act.put, List.setIfInBounds_toArray, List.set_cons_zero, List.set_cons_succ]
  refine wpAnyH_take (i := 6) (oi := { dst := some 69, op := Op.load 24 (Operand.tmp 11), type := 24, pos := "outright.go:64", after := #[{ on := 4, ground := Ground.guard }], guard := some (4, false) }) (v := ?_) rfl (by kernel_rfl) (by kernel_rfl) (by kernel_rfl) (fun _ _ _ h => h) (Or.inl ⟨by rfl, ?_⟩) hHeld ?_
  rotate_left 1
  · (intro w0 hSw; (try dsimp only at hSw); go_simp; try with_reducible rfl)
  simp only [Act.put, List.setIfInBounds_toArray, List.set_cons_zero, List.set_cons_succ]
  refine wpAnyH_take (i := 7) (oi := { dst := some 70, op := Op.binOp BinOp.neq 24 (Operand.tmp 68) (Operand.tmp 69) 24, type := 4, pos := "outright.go:64", after := #[{ on := 5, ground := Ground.data }, { on := 6, ground := Ground.data }, { on := 4, ground := Ground.guard }], guard := some (4, false) }) (v := ?_) rfl (by kernel_rfl) (by kernel_rfl) (by kernel_rfl) (fun _ _ _ h => h) (Or.inl ⟨by rfl, ?_⟩) hHeld ?_
  rotate_left 1
  · (intro w0 hSw; (try dsimp only at hSw); go_simp; try with_reducible rfl)
  simp only [Act.put, List.setIfInBounds_toArray, List.set_cons_zero, List.set_cons_succ]
  refine wpAnyH_take (i := 8) (oi := { dst := some 71, op := Op.pick (Operand.tmp 67) (Operand.const (Value.bool true)) (Operand.tmp 70), type := 4, pos := "outright.go:64", after := #[{ on := 4, ground := Ground.data }, { on := 7, ground := Ground.data }], guard := none }) (v := ?_) rfl (by kernel_rfl) (by kernel_rfl) (by kernel_rfl) (fun _ _ _ h => h) (Or.inl ⟨by rfl, ?_⟩) hHeld ?_
  rotate_left 1
  · (intro w0 hSw; (try dsimp only at hSw); go_simp; try with_reducible rfl)
  simp only [Act.put, List.setIfInBounds_toArray, List.set_cons_zero, List.set_cons_succ]
  refine wpAnyH_done (by kernel_rfl) ?_ _
  refine NoPanic.normal ?_
  have s7 := hidden (hHeld.1.sub (M := [(w6.heap.size, Z)]) (by simp))
  clear hHeld K9 K0 s6 e_z qC
  have hz7 := (s7.out.st.live (w6.heap.size, Z) (by simp)).lt
  have hc7 := World.block_lt_of_cell? wn ⟨w.heap.size + 1 + 1, 0, none⟩ (cell_of s7.out.rg (ZCH.out 0 (by omega)))
  have E0 := hidden (LW.start (w0 := w) (N := (N : Int)) (C := w.heap.size + 1 + 1) 26 (s7.out.st.live (w6.heap.size, Z) (by simp)) (fun j hj => cell_of s7.out.rg (ZCH.out j hj)) s7.out.st.bel)
  have hw7 := s7.out.st.bel.size
  dsimp only at hc7 hz7
  clear s7 ZCH
  go_wp2_with fail
  go_loopw [14] (fun i w' => ∃ k : Nat, k ≤ 16 ∧ i = .int .i64 k ∧ LW w (N : Int) (w.heap.size + 1 + 1) w6.heap.size wn.heap.size (wn.heap.size + 1) Z k w') (fun i _ => 16 - (intOf i).toNat)
  case atStart => exact ⟨0, by omega, rfl, E0.out⟩
  case round =>
    obtain ⟨k, hk, rfl, hE⟩ := hrel
    clear E0
    by_cases hlt : k < 16
    · have g1 := hE.c k (by omega)
      have g2 := hE.c (16 + k) (by omega)
      have g3 := hE.lo k (by omega)
      have g4 := hE.hi k (by omega)
      have g5 := hE.fl k (by omega)
      have g6 := hE.fh k (by omega)
      have NEXT := hidden (hE.step hlt (by omega) (by omega) (by omega) (by omega))
      clear hE
      generalize byt (N : Int) k = xk at *
      generalize byt (N : Int) (16 + k) = xh at *
      rw [if_neg (by omega)] at g3 g4
      go_wp2_with fail
      refine ⟨⟨k + 1, by omega, by go_num, NEXT.out⟩, by simp [intOf]; omega⟩
    · have hk16 : k = 16 := by omega
      subst hk16
      have g4 := hE.hi 15 (by omega)
      have g6 := hE.fh 15 (by omega)
      rw [if_pos (by omega)] at g4
      simp only [Nat.reduceAdd] at g4
      have k127 := and127 (byt (N : Int) 31) (byt_bd _ _).1 (byt_bd _ _).2
      have T0 := DONE.out _ _ _ _ _ _ hE (by omega) (by omega) (by omega)
      clear hE DONE
      generalize byt (N : Int) 31 % 128 = y31 at *
      generalize byt (N : Int) 31 = x31 at *
      have U0 : UW w w6.heap.size wn.heap.size (wn.heap.size + 1) wr.heap.size Z los his ((wr.setCell ⟨wn.heap.size + 1, 15, none⟩ (.int .u8 y31)).alloc (.cells #[.int .u64 0, .int .u64 0, .int .u64 67108864, .int .u64 0, .int .u64 0] 24)) := by
        have := Blc.new (wr.setCell ⟨wn.heap.size + 1, 15, none⟩ (.int .u8 y31)) sh5 24
        simp only [World.size_setCell, sh5] at this
        exact ⟨T0.keep (bl_alloc _ _), this⟩
      replace U0 := hidden U0
      clear T0
      go_wp2_with fail
      refine wp_region_noPanic ?_
      refine wp_region_held_drew (S := fun w' => UW w w6.heap.size wn.heap.size (wn.heap.size + 1) wr.heap.size Z los his w') (by kernel_rfl) (U0.out.keep ((Below.refl _ _).drew)) (fun hHeld => ?_)
      refine wpAnyH_take (i := 0) (oi := { dst := some 110, op := Op.load 24 (Operand.tmp 11), type := 24, pos := "outright.go:77", after := #[], guard := none }) (v := ?_) rfl (by kernel_rfl) (by kernel_rfl) (by kernel_rfl) (fun _ _ _ h => h) (Or.inl ⟨by rfl, ?_⟩) hHeld ?_
      rotate_left 1
      · (intro w0 hSw; obtain ⟨p0, p1, p2, p3, p4⟩ := hSw.t.z; clear hSw; go_simp; try with_reducible rfl)
      simp only [Act.put, List.setIfInBounds_toArray, List.set_cons_zero, List.set_cons_succ]
      refine wpAnyH_take (i := 1) (oi := { dst := some 111, op := Op.load 26 (Operand.tmp 12), type := 26, pos := "outright.go:77", after := #[], guard := none }) rfl (by kernel_rfl) (by kernel_rfl) (by kernel_rfl) (fun _ _ _ h => h) (yieldsIf_load_mid (by rfl) _ _ rfl _ _ rfl _ _ (fun w0 hw => hw.t.lo) HU.out rfl HIL.out) hHeld ?_
      simp only [Act.put, List.setIfInBounds_toArray, List.set_cons_zero, List.set_cons_succ]
      refine wpAnyH_take (i := 3) (oi := { dst := some 113, op := Op.load 26 (Operand.tmp 13), type := 26, pos := "outright.go:77", after := #[], guard := none }) rfl (by kernel_rfl) (by kernel_rfl) (by kernel_rfl) (fun _ _ _ h => h) (yieldsIf_load_mid (by rfl) _ _ rfl _ _ rfl _ _ (fun w0 hw => hw.t.hi) HU.out rfl HIH.out) hHeld ?_
      simp only [Act.put, List.setIfInBounds_toArray, List.set_cons_zero, List.set_cons_succ]
      refine wpAnyH_take (i := 5) (oi := { dst := some 115, op := Op.load 24 (Operand.tmp 15), type := 24, pos := "outright.go:77", after := #[], guard := none }) (v := ?_) rfl (by kernel_rfl) (by kernel_rfl) (by kernel_rfl) (fun _ _ _ h => h) (Or.inl ⟨by rfl, ?_⟩) hHeld ?_
      rotate_left 1
      · (intro w0 hSw; obtain ⟨p0, p1, p2, p3, p4⟩ := hSw.s; simp only [sh5] at p0 p1 p2 p3 p4; clear hSw; go_simp; try with_reducible rfl)
      simp only [Act.put, List.setIfInBounds_toArray, List.set_cons_zero, List.set_cons_succ]
      refine wpAnyH_ready (rs := [2]) (by kernel_rfl) (by simp) ?_
      refine AllReadyH.cons (o := { dst := some 112, op := Op.call { callee := Callee.value (Operand.func 10), args := #[Operand.tmp 111], argTypes := #[26] }, type := 24, pos := "outright.go:77", after := #[{ on := 1, ground := Ground.data }], guard := none }) rfl (fun K hK => ?_) AllReadyH.nil
      go_simp
      refine (r_lo.out _).mono ?_
      rintro e wn2 ⟨rfl, hb⟩
      have hk := hidden (hHeld.keep hb)
      go_wp2_with fail
      refine hK.out _ _ hk.out (fun hHeld2 => ?_)
      clear hK K hHeld hb
      have hHeld := hHeld2
      clear hHeld2
      clear hk
      refine wpAnyH_ready (rs := [4]) (by kernel_rfl) (by simp) ?_
      refine AllReadyH.cons (o := { dst := some 114, op := Op.call { callee := Callee.value (Operand.func 10), args := #[Operand.tmp 113], argTypes := #[26] }, type := 24, pos := "outright.go:77", after := #[{ on := 3, ground := Ground.data }, { on := 2, ground := Ground.chain }], guard := none }) rfl (fun K hK => ?_) AllReadyH.nil
      go_simp
      refine (r_hi.out _).mono ?_
      rintro e wn2 ⟨rfl, hb⟩
      have hk := hidden (hHeld.keep hb)
      go_wp2_with fail
      refine hK.out _ _ hk.out (fun hHeld2 => ?_)
      clear hK K hHeld hb
      have hHeld := hHeld2
      clear hHeld2
      clear hk
      refine wpAnyH_ready (rs := [6]) (by kernel_rfl) (by simp) ?_
      refine AllReadyH.cons (o := { dst := some 116, op := Op.call { callee := Callee.value (Operand.func 12), args := #[Operand.tmp 114, Operand.tmp 115], argTypes := #[24, 24] }, type := 24, pos := "outright.go:77", after := #[{ on := 4, ground := Ground.data }, { on := 5, ground := Ground.data }, { on := 4, ground := Ground.chain }], guard := none }) rfl (fun K hK => ?_) AllReadyH.nil
      go_simp
      refine (m_h.out _).mono ?_
      rintro e wn2 ⟨rfl, hb⟩
      have hk := hidden (hHeld.keep hb)
      go_wp2_with fail
      refine hK.out _ _ hk.out (fun hHeld2 => ?_)
      clear hK K hHeld hb
      have hHeld := hHeld2
      clear hHeld2
      clear hk
      refine wpAnyH_ready (rs := [7]) (by kernel_rfl) (by simp) ?_
      refine AllReadyH.cons (o := { dst := some 117, op := Op.call { callee := Callee.value (Operand.func 11), args := #[Operand.tmp 112, Operand.tmp 116], argTypes := #[24, 24] }, type := 24, pos := "outright.go:77", after := #[{ on := 2, ground := Ground.data }, { on := 6, ground := Ground.data }, { on := 6, ground := Ground.chain }], guard := none }) rfl (fun K hK => ?_) AllReadyH.nil
      go_simp
      refine (a_d.out _).mono ?_
      rintro e wn2 ⟨rfl, hb⟩
      have hk := hidden (hHeld.keep hb)
      go_wp2_with fail
      refine hK.out _ _ hk.out (fun hHeld2 => ?_)
      clear hK K hHeld hb
      have hHeld := hHeld2
      clear hHeld2
      refine wpAnyH_take (i := 8) (oi := { dst := some 118, op := Op.binOp BinOp.eql 24 (Operand.tmp 110) (Operand.tmp 117) 24, type := 4, pos := "outright.go:77", after := #[{ on := 0, ground := Ground.data }, { on := 7, ground := Ground.data }], guard := none }) (v := ?_) rfl (by kernel_rfl) (by kernel_rfl) (by kernel_rfl) (fun _ _ _ h => h) (Or.inl ⟨by rfl, ?_⟩) hHeld ?_
      rotate_left 1
      · (intro w0 hSw; clear hSw; go_simp; try with_reducible rfl)
      simp only [Act.put, List.setIfInBounds_toArray, List.set_cons_zero, List.set_cons_succ]
      refine wpAnyH_take (i := 9) (oi := { dst := some 6, op := Op.assign (Operand.tmp 118), type := 4, pos := "outright.go:77", after := #[{ on := 8, ground := Ground.data }, { on := 7, ground := Ground.chain }, { on := 0, ground := Ground.phase }, { on := 1, ground := Ground.phase }, { on := 2, ground := Ground.phase }, { on := 3, ground := Ground.phase }, { on := 4, ground := Ground.phase }, { on := 5, ground := Ground.phase }, { on := 6, ground := Ground.phase }, { on := 7, ground := Ground.phase }, { on := 8, ground := Ground.phase }], guard := none }) (v := ?_) rfl (by kernel_rfl) (by kernel_rfl) (by kernel_rfl) (fun _ _ _ h => h) (Or.inl ⟨by rfl, ?_⟩) hHeld ?_
      rotate_left 1
      · (intro w0 hSw; clear hSw; go_simp; try with_reducible rfl)
      simp only [Act.put, List.setIfInBounds_toArray, List.set_cons_zero, List.set_cons_succ]
      refine wpAnyH_done (by kernel_rfl) ?_ _
      refine NoPanic.normal ?_
      go_wp2_with fail
      go_ret
      exact ⟨rfl, hk.out.t.bel⟩

set_option maxRecDepth 100000 in
set_option maxHeartbeats 64000000 in
theorem cod_lo (a b : E5) (zs : List Int) (w : World) (ha : a.ok) (hb : b.ok) (lz : zs.length = 32) (hz : ∀ z ∈ zs, 0 ≤ z ∧ z ≤ 255) (hB : decide (bytes (((num zs % 57896044618658097711785492504343953926634992332820282019728792003956564819968 : Nat) : Int) % Fm.P) = zs) = false) (h31 : byt ((num zs : Nat) : Int) 31 < 128) :
    Calls Try.prog 3 #[a.v, b.v, bv zs] w fun e w' => e = .returned (.bool true) ∧ Below w.heap.size w w' := by
  obtain ⟨M, hM⟩ : ∃ M : Int, M = ((num zs % 57896044618658097711785492504343953926634992332820282019728792003956564819968 : Nat) : Int) := ⟨_, rfl⟩
  rw [← hM] at hB
  obtain ⟨LA, hLA⟩ : ∃ t : E5, t = lst a.n := ⟨_, rfl⟩
  obtain ⟨LB, hLB⟩ : ∃ t : E5, t = lst b.n := ⟨_, rfl⟩
  obtain ⟨Z, hZ⟩ : ∃ t : E5, t = lst M := ⟨_, rfl⟩
  obtain ⟨s, hs⟩ : ∃ s : Bool, s = decide (a.n % Fm.P = b.n % Fm.P) := ⟨_, rfl⟩
  have lv := hidden live_any
  have e_a := hidden (fun w => Encode_any a w ha)
  have e_b := hidden (fun w => Encode_any b w hb)
  have d_a : Hid (∀ w : World, Calls Try.prog 6 #[bv (bytes (a.n % Fm.P))] w fun e w' => e = .returned (.tuple #[LA.v, .int .i64 0]) ∧ Below w.heap.size w w') := hidden (fun w => by
    have := Decode_any (bytes (a.n % Fm.P)) w (bytes_len _) (bytes_bd _) (a.n % Fm.P) (dec_M _) true (by rw [emod_emod_P]; simp)
    rw [show lst (a.n % Fm.P) = LA from by rw [hLA]; exact lst_congr (emod_emod_P _)] at this
    exact this)
  have l_a := hidden (fun w => fix (Least_any a w ha) hLA.symm)
  have l_b := hidden (fun w => fix (Least_any b w hb) hLB.symm)
  have s_ab := hidden (fun w => Same_any a b w ha hb)
  rw [← hs] at s_ab
  have qAB := fun w => (eq32 (bytes (a.n % Fm.P)) (bytes (b.n % Fm.P)) w (bytes_len _) (bytes_len _)).trans (by rw [bytes_same, ← hs] : _ = Result.ok s w)
  have qLL := fun w => (eq5 LA LB w).trans (by rw [hLA, hLB, lst_same, ← hs] : _ = Result.ok s w)
  have qA := fun w => (eq5 LA LA w).trans (by rw [E5.same_self] : _ = Result.ok true w)
  have qZ := fun w => (eq5 Z Z w).trans (by rw [E5.same_self] : _ = Result.ok true w)
  have d_c := hidden (fun w => Decode_any zs w lz hz M hM false hB)
  rw [← hZ] at d_c
  have r_c := hidden (fun w => fix (Reduce_any zs w lz hz) (by rw [← hM, ← hZ] : _ = Z))
  have e_z : Hid (∀ w : World, Calls Try.prog 7 #[Z.v] w fun e w' => e = .returned (.agg ((bytes (M % Fm.P)).map fun z => Value.int .u8 z).toArray) ∧ Below w.heap.size w w') := hidden (fun w => by
    have := Encode_any Z w (by rw [hZ]; exact lst_ok _)
    rw [show Z.n % Fm.P = M % Fm.P from by rw [hZ, lst_n, emod_emod_P]] at this
    exact this)
  have qC := fun w => (eq32 (bytes (M % Fm.P)) zs w (bytes_len _) lz).trans (by rw [hB] : _ = Result.ok false w)
  have q00 := fun w => (eq5 zero5 zero5 w).trans (by rw [E5.same_self] : _ = Result.ok true w)
  obtain ⟨N, hN⟩ : ∃ N : Nat, N = num zs := ⟨_, rfl⟩
  obtain ⟨LO, hLO⟩ : ∃ t : E5, t = lst ((N % 340282366920938463463374607431768211456 : Nat) : Int) := ⟨_, rfl⟩
  obtain ⟨HI, hHI⟩ : ∃ t : E5, t = lst ((N / 340282366920938463463374607431768211456 % 170141183460469231731687303715884105728 : Nat) : Int) := ⟨_, rfl⟩
  obtain ⟨MU, hMU⟩ : ∃ t : E5, t = lst (HI.n * sh5.n) := ⟨_, rfl⟩
  have r_lo := hidden (fun w => fix (Reduce_any (bytes ((N % 340282366920938463463374607431768211456 : Nat) : Int)) w (bytes_len _) (bytes_bd _)) (by rw [num_lo, ← hLO] : _ = LO))
  have r_hi := hidden (fun w => fix (Reduce_any (bytes ((N / 340282366920938463463374607431768211456 % 170141183460469231731687303715884105728 : Nat) : Int)) w (bytes_len _) (bytes_bd _)) (by rw [num_hi, ← hHI] : _ = HI))
  have m_h := hidden (fun w => fix (Mul_any HI sh5 w (by rw [hHI]; exact lst_ok _) sh5ok) hMU.symm)
  have a_d := hidden (fun w => fix (Add_any LO MU w (by rw [hLO]; exact lst_ok _) (by rw [hMU]; exact lst_ok _)) (by rw [hLO, hMU, hHI, sum_halves, hN, ← hM, ← hZ] : _ = Z))
  have ZC := fun j hj => zs_cell zs lz hz j hj
  rw [← hN] at ZC
  have hi : (Try.prog.info? 26).map (·.size) = some (zs.map fun z => Value.int .u8 z).length := by rw [List.length_map, lz]; kernel_rfl
  have hil : (Try.prog.info? 26).map (·.size) = some ((bytes ((N % 340282366920938463463374607431768211456 : Nat) : Int)).map fun z => Value.int .u8 z).length := by rw [List.length_map, bytes_len]; kernel_rfl
  have hih : (Try.prog.info? 26).map (·.size) = some ((bytes ((N / 340282366920938463463374607431768211456 % 170141183460469231731687303715884105728 : Nat) : Int)).map fun z => Value.int .u8 z).length := by rw [List.length_map, bytes_len]; kernel_rfl
  have DONE := hidden (fun (w0 : World) (C Zb Lb Hb : Nat) (w : World) (h : LW w0 (N : Int) C Zb Lb Hb Z 16 w) => h.done)
  rw [← hN] at h31
  have hu : Try.prog.underlying 26 = some (.array 32 5) := by kernel_rfl
  clear hM hLA hLB hZ hs hLO hHI hMU hB ha hb lz
  have RN := hidden (range_new ((w.alloc (.cells #[.int .u64 a.x0, .int .u64 a.x1, .int .u64 a.x2, .int .u64 a.x3, .int .u64 a.x4] 24)).alloc (.cells #[.int .u64 b.x0, .int .u64 b.x1, .int .u64 b.x2, .int .u64 b.x3, .int .u64 b.x4] 24)) zs 26)
  simp only [World.size_alloc] at RN
  clear hz hN
  simp only [E5.v, bv, sh5, zero5, cond] at *
  generalize ((bytes (a.n % Fm.P)).map fun z => Value.int .u8 z) = dA at *
  generalize ((bytes (b.n % Fm.P)).map fun z => Value.int .u8 z) = dB at *
  generalize ((bytes (M % Fm.P)).map fun z => Value.int .u8 z) = dM at *
  generalize ((bytes ((N % 340282366920938463463374607431768211456 : Nat) : Int)).map fun z => Value.int .u8 z) = los at *
  generalize ((bytes ((N / 340282366920938463463374607431768211456 % 170141183460469231731687303715884105728 : Nat) : Int)).map fun z => Value.int .u8 z) = his at *
  generalize (zs.map fun z => Value.int .u8 z) = cs at *
  have HU := hidden hu; have HI_ := hidden hi; have HIL := hidden hil; have HIH := hidden hih; have ZCH := hidden ZC
  clear hu hi hil hih ZC
  go_enter Try.func3, Try.ntmps3
  go_wp2_with fail
  refine (lv.out _).mono ?_
  rintro e w1 ⟨rfl, hb1⟩
  have s0 := ((St.start w a 24).new b 24).keep (bl_alloc _ (.cells cs.toArray 26))
  simp only [World.size_alloc] at s0
  have s1 : CW w [(w.heap.size + 1, b), (w.heap.size, a)] cs w1 := CW.keep ⟨s0, RN.out⟩ hb1
  clear s0
  clear hb1 RN
  have a0 := (s1.st.live (w.heap.size, a) (by simp)).c0
  have a1 := (s1.st.live (w.heap.size, a) (by simp)).c1
  have a2 := (s1.st.live (w.heap.size, a) (by simp)).c2
  have a3 := (s1.st.live (w.heap.size, a) (by simp)).c3
  have a4 := (s1.st.live (w.heap.size, a) (by simp)).c4
  replace s1 := hidden s1
  go_wp2_with fail
  refine (e_a.out _).mono ?_
  rintro e w2 ⟨rfl, hb2⟩
  have s2 := hidden (s1.out.keep hb2)
  clear s1 hb2 a0 a1 a2 a3 a4
  go_wp2_with fail
  refine (d_a.out _).mono ?_
  rintro e w3 ⟨rfl, hb3⟩
  have s3 : CW w [(w3.heap.size, LA), (w.heap.size + 1, b), (w.heap.size, a)] cs (w3.alloc (.cells #[.int .u64 LA.x0, .int .u64 LA.x1, .int .u64 LA.x2, .int .u64 LA.x3, .int .u64 LA.x4] 24)) := (s2.out.keep hb3).new LA 24
  clear s2 hb3
  replace s3 := hidden s3
  go_wp2_with fail
  have K4 : Hid (∀ w' : World, CW w [(w3.heap.size, LA), (w.heap.size + 1, b), (w.heap.size, a)] cs w' → (fun w' => CW w [(w3.heap.size, LA), (w.heap.size + 1, b), (w.heap.size, a)] cs w' ∧ w'.cell? ⟨w3.heap.size, 0, none⟩ = some (.int .u64 LA.x0) ∧ w'.cell? ⟨w3.heap.size, 1, none⟩ = some (.int .u64 LA.x1) ∧ w'.cell? ⟨w3.heap.size, 2, none⟩ = some (.int .u64 LA.x2) ∧ w'.cell? ⟨w3.heap.size, 3, none⟩ = some (.int .u64 LA.x3) ∧ w'.cell? ⟨w3.heap.size, 4, none⟩ = some (.int .u64 LA.x4) ∧ w'.cell? ⟨w.heap.size + 1, 0, none⟩ = some (.int .u64 b.x0) ∧ w'.cell? ⟨w.heap.size + 1, 1, none⟩ = some (.int .u64 b.x1) ∧ w'.cell? ⟨w.heap.size + 1, 2, none⟩ = some (.int .u64 b.x2) ∧ w'.cell? ⟨w.heap.size + 1, 3, none⟩ = some (.int .u64 b.x3) ∧ w'.cell? ⟨w.heap.size + 1, 4, none⟩ = some (.int .u64 b.x4) ∧ w'.cell? ⟨w.heap.size, 0, none⟩ = some (.int .u64 a.x0) ∧ w'.cell? ⟨w.heap.size, 1, none⟩ = some (.int .u64 a.x1) ∧ w'.cell? ⟨w.heap.size, 2, none⟩ = some (.int .u64 a.x2) ∧ w'.cell? ⟨w.heap.size, 3, none⟩ = some (.int .u64 a.x3) ∧ w'.cell? ⟨w.heap.size, 4, none⟩ = some (.int .u64 a.x4)) w') := hidden (fun w' h => ⟨h, (h.st.live (w3.heap.size, LA) (by simp)).c0, (h.st.live (w3.heap.size, LA) (by simp)).c1, (h.st.live (w3.heap.size, LA) (by simp)).c2, (h.st.live (w3.heap.size, LA) (by simp)).c3, (h.st.live (w3.heap.size, LA) (by simp)).c4, (h.st.live (w.heap.size + 1, b) (by simp)).c0, (h.st.live (w.heap.size + 1, b) (by simp)).c1, (h.st.live (w.heap.size + 1, b) (by simp)).c2, (h.st.live (w.heap.size + 1, b) (by simp)).c3, (h.st.live (w.heap.size + 1, b) (by simp)).c4, (h.st.live (w.heap.size, a) (by simp)).c0, (h.st.live (w.heap.size, a) (by simp)).c1, (h.st.live (w.heap.size, a) (by simp)).c2, (h.st.live (w.heap.size, a) (by simp)).c3, (h.st.live (w.heap.size, a) (by simp)).c4⟩)
  have K0 : Hid ((fun w' => CW w [(w3.heap.size, LA), (w.heap.size + 1, b), (w.heap.size, a)] cs w' ∧ w'.cell? ⟨w3.heap.size, 0, none⟩ = some (.int .u64 LA.x0) ∧ w'.cell? ⟨w3.heap.size, 1, none⟩ = some (.int .u64 LA.x1) ∧ w'.cell? ⟨w3.heap.size, 2, none⟩ = some (.int .u64 LA.x2) ∧ w'.cell? ⟨w3.heap.size, 3, none⟩ = some (.int .u64 LA.x3) ∧ w'.cell? ⟨w3.heap.size, 4, none⟩ = some (.int .u64 LA.x4) ∧ w'.cell? ⟨w.heap.size + 1, 0, none⟩ = some (.int .u64 b.x0) ∧ w'.cell? ⟨w.heap.size + 1, 1, none⟩ = some (.int .u64 b.x1) ∧ w'.cell? ⟨w.heap.size + 1, 2, none⟩ = some (.int .u64 b.x2) ∧ w'.cell? ⟨w.heap.size + 1, 3, none⟩ = some (.int .u64 b.x3) ∧ w'.cell? ⟨w.heap.size + 1, 4, none⟩ = some (.int .u64 b.x4) ∧ w'.cell? ⟨w.heap.size, 0, none⟩ = some (.int .u64 a.x0) ∧ w'.cell? ⟨w.heap.size, 1, none⟩ = some (.int .u64 a.x1) ∧ w'.cell? ⟨w.heap.size, 2, none⟩ = some (.int .u64 a.x2) ∧ w'.cell? ⟨w.heap.size, 3, none⟩ = some (.int .u64 a.x3) ∧ w'.cell? ⟨w.heap.size, 4, none⟩ = some (.int .u64 a.x4)) _) := hidden (K4.out _ (s3.out).drew)
  go_region_held3 (fun w' => CW w [(w3.heap.size, LA), (w.heap.size + 1, b), (w.heap.size, a)] cs w' ∧ w'.cell? ⟨w3.heap.size, 0, none⟩ = some (.int .u64 LA.x0) ∧ w'.cell? ⟨w3.heap.size, 1, none⟩ = some (.int .u64 LA.x1) ∧ w'.cell? ⟨w3.heap.size, 2, none⟩ = some (.int .u64 LA.x2) ∧ w'.cell? ⟨w3.heap.size, 3, none⟩ = some (.int .u64 LA.x3) ∧ w'.cell? ⟨w3.heap.size, 4, none⟩ = some (.int .u64 LA.x4) ∧ w'.cell? ⟨w.heap.size + 1, 0, none⟩ = some (.int .u64 b.x0) ∧ w'.cell? ⟨w.heap.size + 1, 1, none⟩ = some (.int .u64 b.x1) ∧ w'.cell? ⟨w.heap.size + 1, 2, none⟩ = some (.int .u64 b.x2) ∧ w'.cell? ⟨w.heap.size + 1, 3, none⟩ = some (.int .u64 b.x3) ∧ w'.cell? ⟨w.heap.size + 1, 4, none⟩ = some (.int .u64 b.x4) ∧ w'.cell? ⟨w.heap.size, 0, none⟩ = some (.int .u64 a.x0) ∧ w'.cell? ⟨w.heap.size, 1, none⟩ = some (.int .u64 a.x1) ∧ w'.cell? ⟨w.heap.size, 2, none⟩ = some (.int .u64 a.x2) ∧ w'.cell? ⟨w.heap.size, 3, none⟩ = some (.int .u64 a.x3) ∧ w'.cell? ⟨w.heap.size, 4, none⟩ = some (.int .u64 a.x4)) (first | with_reducible exact K0.out | with_reducible exact hk.out)
    (first | (go_at_call 8; with_reducible refine (l_a.out _).mono ?_; rintro e wn ⟨rfl, hb⟩; have hH := (show (fun w' => CW w [(w3.heap.size, LA), (w.heap.size + 1, b), (w.heap.size, a)] cs w' ∧ w'.cell? ⟨w3.heap.size, 0, none⟩ = some (.int .u64 LA.x0) ∧ w'.cell? ⟨w3.heap.size, 1, none⟩ = some (.int .u64 LA.x1) ∧ w'.cell? ⟨w3.heap.size, 2, none⟩ = some (.int .u64 LA.x2) ∧ w'.cell? ⟨w3.heap.size, 3, none⟩ = some (.int .u64 LA.x3) ∧ w'.cell? ⟨w3.heap.size, 4, none⟩ = some (.int .u64 LA.x4) ∧ w'.cell? ⟨w.heap.size + 1, 0, none⟩ = some (.int .u64 b.x0) ∧ w'.cell? ⟨w.heap.size + 1, 1, none⟩ = some (.int .u64 b.x1) ∧ w'.cell? ⟨w.heap.size + 1, 2, none⟩ = some (.int .u64 b.x2) ∧ w'.cell? ⟨w.heap.size + 1, 3, none⟩ = some (.int .u64 b.x3) ∧ w'.cell? ⟨w.heap.size + 1, 4, none⟩ = some (.int .u64 b.x4) ∧ w'.cell? ⟨w.heap.size, 0, none⟩ = some (.int .u64 a.x0) ∧ w'.cell? ⟨w.heap.size, 1, none⟩ = some (.int .u64 a.x1) ∧ w'.cell? ⟨w.heap.size, 2, none⟩ = some (.int .u64 a.x2) ∧ w'.cell? ⟨w.heap.size, 3, none⟩ = some (.int .u64 a.x3) ∧ w'.cell? ⟨w.heap.size, 4, none⟩ = some (.int .u64 a.x4)) _ from by assumption); have hk := hidden (K4.out _ (hH.1.keep hb))) | (go_at_call 8; with_reducible refine (l_b.out _).mono ?_; rintro e wn ⟨rfl, hb⟩; have hH := (show (fun w' => CW w [(w3.heap.size, LA), (w.heap.size + 1, b), (w.heap.size, a)] cs w' ∧ w'.cell? ⟨w3.heap.size, 0, none⟩ = some (.int .u64 LA.x0) ∧ w'.cell? ⟨w3.heap.size, 1, none⟩ = some (.int .u64 LA.x1) ∧ w'.cell? ⟨w3.heap.size, 2, none⟩ = some (.int .u64 LA.x2) ∧ w'.cell? ⟨w3.heap.size, 3, none⟩ = some (.int .u64 LA.x3) ∧ w'.cell? ⟨w3.heap.size, 4, none⟩ = some (.int .u64 LA.x4) ∧ w'.cell? ⟨w.heap.size + 1, 0, none⟩ = some (.int .u64 b.x0) ∧ w'.cell? ⟨w.heap.size + 1, 1, none⟩ = some (.int .u64 b.x1) ∧ w'.cell? ⟨w.heap.size + 1, 2, none⟩ = some (.int .u64 b.x2) ∧ w'.cell? ⟨w.heap.size + 1, 3, none⟩ = some (.int .u64 b.x3) ∧ w'.cell? ⟨w.heap.size + 1, 4, none⟩ = some (.int .u64 b.x4) ∧ w'.cell? ⟨w.heap.size, 0, none⟩ = some (.int .u64 a.x0) ∧ w'.cell? ⟨w.heap.size, 1, none⟩ = some (.int .u64 a.x1) ∧ w'.cell? ⟨w.heap.size, 2, none⟩ = some (.int .u64 a.x2) ∧ w'.cell? ⟨w.heap.size, 3, none⟩ = some (.int .u64 a.x3) ∧ w'.cell? ⟨w.heap.size, 4, none⟩ = some (.int .u64 a.x4)) _ from by assumption); have hk := hidden (K4.out _ (hH.1.keep hb))) | (go_at_call 9; with_reducible refine (s_ab.out _).mono ?_; rintro e wn ⟨rfl, hb⟩; have hH := (show (fun w' => CW w [(w3.heap.size, LA), (w.heap.size + 1, b), (w.heap.size, a)] cs w' ∧ w'.cell? ⟨w3.heap.size, 0, none⟩ = some (.int .u64 LA.x0) ∧ w'.cell? ⟨w3.heap.size, 1, none⟩ = some (.int .u64 LA.x1) ∧ w'.cell? ⟨w3.heap.size, 2, none⟩ = some (.int .u64 LA.x2) ∧ w'.cell? ⟨w3.heap.size, 3, none⟩ = some (.int .u64 LA.x3) ∧ w'.cell? ⟨w3.heap.size, 4, none⟩ = some (.int .u64 LA.x4) ∧ w'.cell? ⟨w.heap.size + 1, 0, none⟩ = some (.int .u64 b.x0) ∧ w'.cell? ⟨w.heap.size + 1, 1, none⟩ = some (.int .u64 b.x1) ∧ w'.cell? ⟨w.heap.size + 1, 2, none⟩ = some (.int .u64 b.x2) ∧ w'.cell? ⟨w.heap.size + 1, 3, none⟩ = some (.int .u64 b.x3) ∧ w'.cell? ⟨w.heap.size + 1, 4, none⟩ = some (.int .u64 b.x4) ∧ w'.cell? ⟨w.heap.size, 0, none⟩ = some (.int .u64 a.x0) ∧ w'.cell? ⟨w.heap.size, 1, none⟩ = some (.int .u64 a.x1) ∧ w'.cell? ⟨w.heap.size, 2, none⟩ = some (.int .u64 a.x2) ∧ w'.cell? ⟨w.heap.size, 3, none⟩ = some (.int .u64 a.x3) ∧ w'.cell? ⟨w.heap.size, 4, none⟩ = some (.int .u64 a.x4)) _ from by assumption); have hk := hidden (K4.out _ (hH.1.keep hb))) | (go_at_call 7; with_reducible refine (e_a.out _).mono ?_; rintro e wn ⟨rfl, hb⟩; have hH := (show (fun w' => CW w [(w3.heap.size, LA), (w.heap.size + 1, b), (w.heap.size, a)] cs w' ∧ w'.cell? ⟨w3.heap.size, 0, none⟩ = some (.int .u64 LA.x0) ∧ w'.cell? ⟨w3.heap.size, 1, none⟩ = some (.int .u64 LA.x1) ∧ w'.cell? ⟨w3.heap.size, 2, none⟩ = some (.int .u64 LA.x2) ∧ w'.cell? ⟨w3.heap.size, 3, none⟩ = some (.int .u64 LA.x3) ∧ w'.cell? ⟨w3.heap.size, 4, none⟩ = some (.int .u64 LA.x4) ∧ w'.cell? ⟨w.heap.size + 1, 0, none⟩ = some (.int .u64 b.x0) ∧ w'.cell? ⟨w.heap.size + 1, 1, none⟩ = some (.int .u64 b.x1) ∧ w'.cell? ⟨w.heap.size + 1, 2, none⟩ = some (.int .u64 b.x2) ∧ w'.cell? ⟨w.heap.size + 1, 3, none⟩ = some (.int .u64 b.x3) ∧ w'.cell? ⟨w.heap.size + 1, 4, none⟩ = some (.int .u64 b.x4) ∧ w'.cell? ⟨w.heap.size, 0, none⟩ = some (.int .u64 a.x0) ∧ w'.cell? ⟨w.heap.size, 1, none⟩ = some (.int .u64 a.x1) ∧ w'.cell? ⟨w.heap.size, 2, none⟩ = some (.int .u64 a.x2) ∧ w'.cell? ⟨w.heap.size, 3, none⟩ = some (.int .u64 a.x3) ∧ w'.cell? ⟨w.heap.size, 4, none⟩ = some (.int .u64 a.x4)) _ from by assumption); have hk := hidden (K4.out _ (hH.1.keep hb))) | (go_at_call 7; with_reducible refine (e_b.out _).mono ?_; rintro e wn ⟨rfl, hb⟩; have hH := (show (fun w' => CW w [(w3.heap.size, LA), (w.heap.size + 1, b), (w.heap.size, a)] cs w' ∧ w'.cell? ⟨w3.heap.size, 0, none⟩ = some (.int .u64 LA.x0) ∧ w'.cell? ⟨w3.heap.size, 1, none⟩ = some (.int .u64 LA.x1) ∧ w'.cell? ⟨w3.heap.size, 2, none⟩ = some (.int .u64 LA.x2) ∧ w'.cell? ⟨w3.heap.size, 3, none⟩ = some (.int .u64 LA.x3) ∧ w'.cell? ⟨w3.heap.size, 4, none⟩ = some (.int .u64 LA.x4) ∧ w'.cell? ⟨w.heap.size + 1, 0, none⟩ = some (.int .u64 b.x0) ∧ w'.cell? ⟨w.heap.size + 1, 1, none⟩ = some (.int .u64 b.x1) ∧ w'.cell? ⟨w.heap.size + 1, 2, none⟩ = some (.int .u64 b.x2) ∧ w'.cell? ⟨w.heap.size + 1, 3, none⟩ = some (.int .u64 b.x3) ∧ w'.cell? ⟨w.heap.size + 1, 4, none⟩ = some (.int .u64 b.x4) ∧ w'.cell? ⟨w.heap.size, 0, none⟩ = some (.int .u64 a.x0) ∧ w'.cell? ⟨w.heap.size, 1, none⟩ = some (.int .u64 a.x1) ∧ w'.cell? ⟨w.heap.size, 2, none⟩ = some (.int .u64 a.x2) ∧ w'.cell? ⟨w.heap.size, 3, none⟩ = some (.int .u64 a.x3) ∧ w'.cell? ⟨w.heap.size, 4, none⟩ = some (.int .u64 a.x4)) _ from by assumption); have hk := hidden (K4.out _ (hH.1.keep hb))))
  have s4 := hidden hk.out.1
  clear hk K4 K0 s3 l_a l_b s_ab e_a e_b d_a qAB qLL qA lv
  go_wp2_with (refine wpList_load_mid rfl 26 _ rfl (w.heap.size + 1 + 1) 0 (by rfl) cs _ s4.out.rg HU.out rfl HI_.out ?_)
  refine (d_c.out _).mono ?_
  rintro e w5 ⟨rfl, hb5⟩
  have s5 : CW w [(w5.heap.size, zero5), (w3.heap.size, LA), (w.heap.size + 1, b), (w.heap.size, a)] cs (w5.alloc (.cells #[.int .u64 0, .int .u64 0, .int .u64 0, .int .u64 0, .int .u64 0] 24)) := (s4.out.keep hb5).new zero5 24
  clear s4 hb5 d_c
  replace s5 := hidden s5
  go_wp2_with (refine wpList_load_mid rfl 26 _ rfl (w.heap.size + 1 + 1) 0 (by rfl) cs _ s5.out.rg HU.out rfl HI_.out ?_)
  refine (r_c.out _).mono ?_
  rintro e w6 ⟨rfl, hb6⟩
  have s6 : CW w [(w6.heap.size, Z), (w5.heap.size, zero5)] cs (w6.alloc (.cells #[.int .u64 Z.x0, .int .u64 Z.x1, .int .u64 Z.x2, .int .u64 Z.x3, .int .u64 Z.x4] 24)) := CW.sub ((s5.out.keep hb6).new Z 24) (by simp)
  clear s5 hb6 r_c
  replace s6 := hidden s6
  go_wp2_with fail
  have Z31 := hidden (ZCH.out 31 (by omega))
  generalize hx31 : byt (N : Int) 31 = x31 at h31 Z31
  have hx32 := hidden hx31
  clear hx31
  have K9 : Hid (∀ w' : World, CW w [(w6.heap.size, Z), (w5.heap.size, zero5)] cs w' → (fun w' => CW w [(w6.heap.size, Z), (w5.heap.size, zero5)] cs w' ∧ w'.cell? ⟨w6.heap.size, 0, none⟩ = some (.int .u64 Z.x0) ∧ w'.cell? ⟨w6.heap.size, 1, none⟩ = some (.int .u64 Z.x1) ∧ w'.cell? ⟨w6.heap.size, 2, none⟩ = some (.int .u64 Z.x2) ∧ w'.cell? ⟨w6.heap.size, 3, none⟩ = some (.int .u64 Z.x3) ∧ w'.cell? ⟨w6.heap.size, 4, none⟩ = some (.int .u64 Z.x4) ∧ w'.cell? ⟨w5.heap.size, 0, none⟩ = some (.int .u64 0) ∧ w'.cell? ⟨w5.heap.size, 1, none⟩ = some (.int .u64 0) ∧ w'.cell? ⟨w5.heap.size, 2, none⟩ = some (.int .u64 0) ∧ w'.cell? ⟨w5.heap.size, 3, none⟩ = some (.int .u64 0) ∧ w'.cell? ⟨w5.heap.size, 4, none⟩ = some (.int .u64 0) ∧ w'.cell? ⟨w.heap.size + 1 + 1, 31, none⟩ = some (.int .u8 x31)) w') := hidden (fun w' h => ⟨h, (h.st.live (w6.heap.size, Z) (by simp)).c0, (h.st.live (w6.heap.size, Z) (by simp)).c1, (h.st.live (w6.heap.size, Z) (by simp)).c2, (h.st.live (w6.heap.size, Z) (by simp)).c3, (h.st.live (w6.heap.size, Z) (by simp)).c4, (h.st.live (w5.heap.size, zero5) (by simp)).c0, (h.st.live (w5.heap.size, zero5) (by simp)).c1, (h.st.live (w5.heap.size, zero5) (by simp)).c2, (h.st.live (w5.heap.size, zero5) (by simp)).c3, (h.st.live (w5.heap.size, zero5) (by simp)).c4, cell_of h.rg Z31.out⟩)
  have K0 : Hid ((fun w' => CW w [(w6.heap.size, Z), (w5.heap.size, zero5)] cs w' ∧ w'.cell? ⟨w6.heap.size, 0, none⟩ = some (.int .u64 Z.x0) ∧ w'.cell? ⟨w6.heap.size, 1, none⟩ = some (.int .u64 Z.x1) ∧ w'.cell? ⟨w6.heap.size, 2, none⟩ = some (.int .u64 Z.x2) ∧ w'.cell? ⟨w6.heap.size, 3, none⟩ = some (.int .u64 Z.x3) ∧ w'.cell? ⟨w6.heap.size, 4, none⟩ = some (.int .u64 Z.x4) ∧ w'.cell? ⟨w5.heap.size, 0, none⟩ = some (.int .u64 0) ∧ w'.cell? ⟨w5.heap.size, 1, none⟩ = some (.int .u64 0) ∧ w'.cell? ⟨w5.heap.size, 2, none⟩ = some (.int .u64 0) ∧ w'.cell? ⟨w5.heap.size, 3, none⟩ = some (.int .u64 0) ∧ w'.cell? ⟨w5.heap.size, 4, none⟩ = some (.int .u64 0) ∧ w'.cell? ⟨w.heap.size + 1 + 1, 31, none⟩ = some (.int .u8 x31)) _) := hidden (K9.out _ (s6.out).drew)
  refine wp_region_noPanic ?_
  refine wp_region_held_drew (S := fun w' => CW w [(w6.heap.size, Z), (w5.heap.size, zero5)] cs w' ∧ w'.cell? ⟨w6.heap.size, 0, none⟩ = some (.int .u64 Z.x0) ∧ w'.cell? ⟨w6.heap.size, 1, none⟩ = some (.int .u64 Z.x1) ∧ w'.cell? ⟨w6.heap.size, 2, none⟩ = some (.int .u64 Z.x2) ∧ w'.cell? ⟨w6.heap.size, 3, none⟩ = some (.int .u64 Z.x3) ∧ w'.cell? ⟨w6.heap.size, 4, none⟩ = some (.int .u64 Z.x4) ∧ w'.cell? ⟨w5.heap.size, 0, none⟩ = some (.int .u64 0) ∧ w'.cell? ⟨w5.heap.size, 1, none⟩ = some (.int .u64 0) ∧ w'.cell? ⟨w5.heap.size, 2, none⟩ = some (.int .u64 0) ∧ w'.cell? ⟨w5.heap.size, 3, none⟩ = some (.int .u64 0) ∧ w'.cell? ⟨w5.heap.size, 4, none⟩ = some (.int .u64 0) ∧ w'.cell? ⟨w.heap.size + 1 + 1, 31, none⟩ = some (.int .u8 x31)) (by kernel_rfl) K0.out (fun hHeld => ?_)
  refine wpAnyH_take (i := 0) (oi := { dst := some 72, op := Op.move (Operand.tmp 10), type := 28, pos := "outright.go:67", after := #[], guard := none }) (v := ?_) rfl (by kernel_rfl) (by kernel_rfl) (by kernel_rfl) (fun _ _ _ h => h) (Or.inl ⟨by rfl, ?_⟩) hHeld ?_
  rotate_left 1
  · (intro w0 hSw; (try dsimp only at hSw); go_simp; try with_reducible rfl)
  simp only [Act.put, List.setIfInBounds_toArray, List.set_cons_zero, List.set_cons_succ]
  refine wpAnyH_take (i := 1) (oi := { dst := some 73, op := Op.binOp BinOp.neq 28 (Operand.tmp 72) (Operand.const (Value.int IntKind.i64 3)) 28, type := 4, pos := "outright.go:67", after := #[{ on := 0, ground := Ground.data }], guard := none }) (v := ?_) rfl (by kernel_rfl) (by kernel_rfl) (by kernel_rfl) (fun _ _ _ h => h) (Or.inl ⟨by rfl, ?_⟩) hHeld ?_
  rotate_left 1
  · (intro w0 hSw; (try dsimp only at hSw); go_simp; try with_reducible rfl)
  simp only [Act.put, List.setIfInBounds_toArray, List.set_cons_zero, List.set_cons_succ]
  refine wpAnyH_take (i := 2) (oi := { dst := some 74, op := Op.move (Operand.tmp 73), type := 4, pos := "outright.go:67", after := #[{ on := 1, ground := Ground.data }], guard := none }) (v := ?_) rfl (by kernel_rfl) (by kernel_rfl) (by kernel_rfl) (fun _ _ _ h => h) (Or.inl ⟨by rfl, ?_⟩) hHeld ?_
  rotate_left 1
  · (intro w0 hSw; (try dsimp only at hSw); go_simp; try with_reducible rfl)
  simp only [Act.put, List.setIfInBounds_toArray, List.set_cons_zero, List.set_cons_succ]
  refine wpAnyH_take (i := 3) (oi := { dst := some 75, op := Op.load 24 (Operand.tmp 9), type := 24, pos := "outright.go:67", after := #[{ on := 2, ground := Ground.guard }], guard := some (2, false) }) (v := ?_) rfl (by kernel_rfl) (by kernel_rfl) (by kernel_rfl) (fun _ _ _ h => h) (Or.inl ⟨by rfl, ?_⟩) hHeld ?_
  rotate_left 1
  · (intro w0 hSw; (try dsimp only at hSw); go_simp; try with_reducible rfl)
  simp only [Act.put, List.setIfInBounds_toArray, List.set_cons_zero, List.set_cons_succ]
  refine wpAnyH_take (i := 4) (oi := { dst := some 76, op := Op.build 24 #[], type := 24, pos := "outright.go:67", after := #[{ on := 2, ground := Ground.guard }], guard := some (2, false) }) (v := ?_) rfl (by kernel_rfl) (by kernel_rfl) (by kernel_rfl) (fun _ _ _ h => h) (Or.inl ⟨by rfl, ?_⟩) hHeld ?_
  rotate_left 1
  · (intro w0 hSw; (try dsimp only at hSw); go_simp; try with_reducible rfl)
  simp only [Act.put, List.setIfInBounds_toArray, List.set_cons_zero, List.set_cons_succ]
  refine wpAnyH_take (i := 5) (oi := { dst := some 77, op := Op.binOp BinOp.neq 24 (Operand.tmp 75) (Operand.tmp 76) 24, type := 4, pos := "outright.go:67", after := #[{ on := 3, ground := Ground.data }, { on := 4, ground := Ground.data }, { on := 2, ground := Ground.guard }], guard := some (2, false) }) (v := ?_) rfl (by kernel_rfl) (by kernel_rfl) (by kernel_rfl) (fun _ _ _ h => h) (Or.inl ⟨by rfl, ?_⟩) hHeld ?_
  rotate_left 1
  · (intro w0 hSw; (try dsimp only at hSw); go_simp; try with_reducible rfl)
  simp only [Act.put, List.setIfInBounds_toArray, List.set_cons_zero, List.set_cons_succ]
  refine wpAnyH_take (i := 6) (oi := { dst := some 78, op := Op.pick (Operand.tmp 74) (Operand.const (Value.bool true)) (Operand.tmp 77), type := 4, pos := "outright.go:67", after := #[{ on := 2, ground := Ground.data }, { on := 5, ground := Ground.data }], guard := none }) (v := ?_) rfl (by kernel_rfl) (by kernel_rfl) (by kernel_rfl) (fun _ _ _ h => h) (Or.inl ⟨by rfl, ?_⟩) hHeld ?_
  rotate_left 1
  · (intro w0 hSw; (try dsimp only at hSw); go_simp; try with_reducible rfl)
  simp only [Act.put, List.setIfInBounds_toArray, List.set_cons_zero, List.set_cons_succ]
  refine wpAnyH_take (i := 7) (oi := { dst := some 79, op := Op.move (Operand.tmp 78), type := 4, pos := "outright.go:67", after := #[{ on := 6, ground := Ground.data }, { on := 2, ground := Ground.chain }], guard := none }) (v := ?_) rfl (by kernel_rfl) (by kernel_rfl) (by kernel_rfl) (fun _ _ _ h => h) (Or.inl ⟨by rfl, ?_⟩) hHeld ?_
  rotate_left 1
  · (intro w0 hSw; (try dsimp only at hSw); go_simp; try with_reducible rfl)
  simp only [Act.put, List.setIfInBounds_toArray, List.set_cons_zero, List.set_cons_succ]
  refine wpAnyH_take (i := 8) (oi := { dst := some 80, op := Op.indexAddr 26 (Operand.tmp 5) (Operand.const (Value.int IntKind.i64 31)), type := 0, pos := "outright.go:67", after := #[{ on := 7, ground := Ground.guard }], guard := some (7, false) }) (v := ?_) rfl (by kernel_rfl) (by kernel_rfl) (by kernel_rfl) (fun _ _ _ h => h) (Or.inl ⟨by rfl, ?_⟩) hHeld ?_
  rotate_left 1
  · (intro w0 hSw; (try dsimp only at hSw); go_simp; try with_reducible rfl)
  simp only [Act.put, List.setIfInBounds_toArray, List.set_cons_zero, List.set_cons_succ]
  refine wpAnyH_take (i := 9) (oi := { dst := some 81, op := Op.load 5 (Operand.tmp 80), type := 5, pos := "outright.go:67", after := #[{ on := 8, ground := Ground.data }, { on := 7, ground := Ground.guard }], guard := some (7, false) }) (v := ?_) rfl (by kernel_rfl) (by kernel_rfl) (by kernel_rfl) (fun _ _ _ h => h) (Or.inl ⟨by rfl, ?_⟩) hHeld ?_
  rotate_left 1
  · (intro w0 hSw; (try dsimp only at hSw); go_simp; try with_reducible rfl)
  simp only [Act.put, List.setIfInBounds_toArray, List.set_cons_zero, List.set_cons_succ]
  refine wpAnyH_take (i := 10) (oi := { dst := some 82, op := Op.binOp BinOp.lss 5 (Operand.tmp 81) (Operand.const (Value.int IntKind.u8 128)) 5, type := 4, pos := "outright.go:67", after := #[{ on := 9, ground := Ground.data }, { on := 7, ground := Ground.guard }], guard := some (7, false) }) (v := ?_) rfl (by kernel_rfl) (by kernel_rfl) (by kernel_rfl) (fun _ _ _ h => h) (Or.inl ⟨by rfl, ?_⟩) hHeld ?_
  rotate_left 1
  · (intro w0 hSw; (try dsimp only at hSw); go_simp; try with_reducible rfl)
  simp only [Act.put, List.setIfInBounds_toArray, List.set_cons_zero, List.set_cons_succ]
  refine wpAnyH_take (i := 11) (oi := { dst := some 83, op := Op.move (Operand.tmp 82), type := 4, pos := "outright.go:67", after := #[{ on := 10, ground := Ground.data }, { on := 7, ground := Ground.chain }, { on := 7, ground := Ground.guard }], guard := some (7, false) }) (v := ?_) rfl (by kernel_rfl) (by kernel_rfl) (by kernel_rfl) (fun _ _ _ h => h) (Or.inl ⟨by rfl, ?_⟩) hHeld ?_
  rotate_left 1
  · (intro w0 hSw; (try dsimp only at hSw); go_simp; try with_reducible rfl)
  simp only [Act.put, List.setIfInBounds_toArray, List.set_cons_zero, List.set_cons_succ]
  refine wpAnyH_take (i := 12) (oi := { dst := some 84, op := Op.load 24 (Operand.tmp 11), type := 24, pos := "outright.go:67", after := #[{ on := 11, ground := Ground.guard }], guard := some (11, true) }) (v := ?_) rfl (by kernel_rfl) (by kernel_rfl) (by kernel_rfl) (fun _ _ _ h => h) (Or.inl ⟨by rfl, ?_⟩) hHeld ?_
  rotate_left 1
  · (intro w0 hSw; (try dsimp only at hSw); go_simp; try with_reducible rfl)
  simp only [Act.put, List.setIfInBounds_toArray, List.set_cons_zero, List.set_cons_succ]
  refine wpAnyH_take (i := 14) (oi := { dst := some 86, op := Op.load 26 (Operand.tmp 5), type := 26, pos := "outright.go:67", after := #[{ on := 11, ground := Ground.guard }], guard := some (11, true) }) rfl (by kernel_rfl) (by kernel_rfl) (by kernel_rfl) (fun _ _ _ h => h) (yieldsIf_load_mid (by rfl) _ _ rfl _ _ rfl _ _ (fun w0 hw => hw.1.rg) HU.out rfl HI_.out) hHeld ?_
  simp only [Act.put, List.setIfInBounds_toArray, List.set_cons_zero, List.set_cons_succ]
  refine wpAnyH_ready (rs := [13]) (by kernel_rfl) (by simp) ?_
  refine AllReadyH.cons (o := { dst := some 85, op := Op.call { callee := Callee.value (Operand.func 7), args := #[Operand.tmp 84], argTypes := #[24] }, type := 26, pos := "outright.go:67", after := #[{ on := 12, ground := Ground.data }, { on := 11, ground := Ground.chain }, { on := 11, ground := Ground.guard }], guard := some (11, true) }) rfl (fun K hK => ?_) AllReadyH.nil
  go_simp
  refine (e_z.out _).mono ?_
  rintro e wn ⟨rfl, hb⟩
  have hk := hidden (K9.out _ (hHeld.1.keep hb))
  go_wp2_with fail
  refine hK.out _ _ hk.out (fun hHeld2 => ?_)
  clear hK K hHeld hb hk
  have hHeld := hHeld2
  clear hHeld2
  refine wpAnyH_take (i := 15) (oi := { dst := some 87, op := Op.binOp BinOp.eql 26 (Operand.tmp 85) (Operand.tmp 86) 26, type := 4, pos := "outright.go:67", after := #[{ on := 13, ground := Ground.data }, { on := 14, ground := Ground.data }, { on := 11, ground := Ground.guard }], guard := some (11, true) }) (v := ?_) rfl (by kernel_rfl) (by kernel_rfl) (by kernel_rfl) (fun _ _ _ h => h) (Or.inl ⟨by rfl, ?_⟩) hHeld ?_
  rotate_left 1
  · (intro w0 hSw; (try dsimp only at hSw); go_simp; try with_reducible rfl)
  simp only [Act.put, List.setIfInBounds_toArray, List.set_cons_zero, List.set_cons_succ]
  refine wpAnyH_take (i := 16) (oi := { dst := some 88, op := Op.pick (Operand.tmp 83) (Operand.tmp 87) (Operand.const (Value.bool false)), type := 4, pos := "outright.go:67", after := #[{ on := 11, ground := Ground.data }, { on := 15, ground := Ground.data }, { on := 7, ground := Ground.guard }], guard := some (7, false) }) (v := ?_) rfl (by kernel_rfl) (by kernel_rfl) (by kernel_rfl) (fun _ _ _ h => h) (Or.inl ⟨by rfl, ?_⟩) hHeld ?_
  rotate_left 1
  · (intro w0 hSw; (try dsimp only at hSw); go_simp; try with_reducible rfl)
  simp only [Act.put, List.setIfInBounds_toArray, List.set_cons_zero, List.set_cons_succ]
  refine wpAnyH_take (i := 17) (oi := { dst := some 89, op := Op.pick (Operand.tmp 79) (Operand.const (Value.bool true)) (Operand.tmp 88), type := 4, pos := "outright.go:67", after := #[{ on := 7, ground := Ground.data }, { on := 16, ground := Ground.data }], guard := none }) (v := ?_) rfl (by kernel_rfl) (by kernel_rfl) (by kernel_rfl) (fun _ _ _ h => h) (Or.inl ⟨by rfl, ?_⟩) hHeld ?_
  rotate_left 1
  · (intro w0 hSw; (try dsimp only at hSw); go_simp; try with_reducible rfl)
  simp only [Act.put, List.setIfInBounds_toArray, List.set_cons_zero, List.set_cons_succ]
  refine wpAnyH_done (by kernel_rfl) ?_ _
  refine NoPanic.normal ?_
  have s7 := hidden (hHeld.1.sub (M := [(w6.heap.size, Z)]) (by simp))
  clear hHeld K9 K0 s6 e_z qC q00 Z31 hx32 h31
  have hz7 := (s7.out.st.live (w6.heap.size, Z) (by simp)).lt
  have hc7 := World.block_lt_of_cell? wn ⟨w.heap.size + 1 + 1, 0, none⟩ (cell_of s7.out.rg (ZCH.out 0 (by omega)))
  have E0 := hidden (LW.start (w0 := w) (N := (N : Int)) (C := w.heap.size + 1 + 1) 26 (s7.out.st.live (w6.heap.size, Z) (by simp)) (fun j hj => cell_of s7.out.rg (ZCH.out j hj)) s7.out.st.bel)
  have hw7 := s7.out.st.bel.size
  dsimp only at hc7 hz7
  clear s7 ZCH
  go_wp2_with fail
  go_loopw [14] (fun i w' => ∃ k : Nat, k ≤ 16 ∧ i = .int .i64 k ∧ LW w (N : Int) (w.heap.size + 1 + 1) w6.heap.size wn.heap.size (wn.heap.size + 1) Z k w') (fun i _ => 16 - (intOf i).toNat)
  case atStart => exact ⟨0, by omega, rfl, E0.out⟩
  case round =>
    obtain ⟨k, hk, rfl, hE⟩ := hrel
    clear E0
    by_cases hlt : k < 16
    · have g1 := hE.c k (by omega)
      have g2 := hE.c (16 + k) (by omega)
      have g3 := hE.lo k (by omega)
      have g4 := hE.hi k (by omega)
      have g5 := hE.fl k (by omega)
      have g6 := hE.fh k (by omega)
      have NEXT := hidden (hE.step hlt (by omega) (by omega) (by omega) (by omega))
      clear hE
      generalize byt (N : Int) k = xk at *
      generalize byt (N : Int) (16 + k) = xh at *
      rw [if_neg (by omega)] at g3 g4
      go_wp2_with fail
      refine ⟨⟨k + 1, by omega, by go_num, NEXT.out⟩, by simp [intOf]; omega⟩
    · have hk16 : k = 16 := by omega
      subst hk16
      have g4 := hE.hi 15 (by omega)
      have g6 := hE.fh 15 (by omega)
      rw [if_pos (by omega)] at g4
      simp only [Nat.reduceAdd] at g4
      have k127 := and127 (byt (N : Int) 31) (byt_bd _ _).1 (byt_bd _ _).2
      have T0 := DONE.out _ _ _ _ _ _ hE (by omega) (by omega) (by omega)
      clear hE DONE
      generalize byt (N : Int) 31 % 128 = y31 at *
      generalize byt (N : Int) 31 = x31 at *
      have U0 : UW w w6.heap.size wn.heap.size (wn.heap.size + 1) wr.heap.size Z los his ((wr.setCell ⟨wn.heap.size + 1, 15, none⟩ (.int .u8 y31)).alloc (.cells #[.int .u64 0, .int .u64 0, .int .u64 67108864, .int .u64 0, .int .u64 0] 24)) := by
        have := Blc.new (wr.setCell ⟨wn.heap.size + 1, 15, none⟩ (.int .u8 y31)) sh5 24
        simp only [World.size_setCell, sh5] at this
        exact ⟨T0.keep (bl_alloc _ _), this⟩
      replace U0 := hidden U0
      clear T0
      go_wp2_with fail
      refine wp_region_noPanic ?_
      refine wp_region_held_drew (S := fun w' => UW w w6.heap.size wn.heap.size (wn.heap.size + 1) wr.heap.size Z los his w') (by kernel_rfl) (U0.out.keep ((Below.refl _ _).drew)) (fun hHeld => ?_)
      refine wpAnyH_take (i := 0) (oi := { dst := some 110, op := Op.load 24 (Operand.tmp 11), type := 24, pos := "outright.go:77", after := #[], guard := none }) (v := ?_) rfl (by kernel_rfl) (by kernel_rfl) (by kernel_rfl) (fun _ _ _ h => h) (Or.inl ⟨by rfl, ?_⟩) hHeld ?_
      rotate_left 1
      · (intro w0 hSw; obtain ⟨p0, p1, p2, p3, p4⟩ := hSw.t.z; clear hSw; go_simp; try with_reducible rfl)
      simp only [Act.put, List.setIfInBounds_toArray, List.set_cons_zero, List.set_cons_succ]
      refine wpAnyH_take (i := 1) (oi := { dst := some 111, op := Op.load 26 (Operand.tmp 12), type := 26, pos := "outright.go:77", after := #[], guard := none }) rfl (by kernel_rfl) (by kernel_rfl) (by kernel_rfl) (fun _ _ _ h => h) (yieldsIf_load_mid (by rfl) _ _ rfl _ _ rfl _ _ (fun w0 hw => hw.t.lo) HU.out rfl HIL.out) hHeld ?_
      simp only [Act.put, List.setIfInBounds_toArray, List.set_cons_zero, List.set_cons_succ]
      refine wpAnyH_take (i := 3) (oi := { dst := some 113, op := Op.load 26 (Operand.tmp 13), type := 26, pos := "outright.go:77", after := #[], guard := none }) rfl (by kernel_rfl) (by kernel_rfl) (by kernel_rfl) (fun _ _ _ h => h) (yieldsIf_load_mid (by rfl) _ _ rfl _ _ rfl _ _ (fun w0 hw => hw.t.hi) HU.out rfl HIH.out) hHeld ?_
      simp only [Act.put, List.setIfInBounds_toArray, List.set_cons_zero, List.set_cons_succ]
      refine wpAnyH_take (i := 5) (oi := { dst := some 115, op := Op.load 24 (Operand.tmp 15), type := 24, pos := "outright.go:77", after := #[], guard := none }) (v := ?_) rfl (by kernel_rfl) (by kernel_rfl) (by kernel_rfl) (fun _ _ _ h => h) (Or.inl ⟨by rfl, ?_⟩) hHeld ?_
      rotate_left 1
      · (intro w0 hSw; obtain ⟨p0, p1, p2, p3, p4⟩ := hSw.s; simp only [sh5] at p0 p1 p2 p3 p4; clear hSw; go_simp; try with_reducible rfl)
      simp only [Act.put, List.setIfInBounds_toArray, List.set_cons_zero, List.set_cons_succ]
      refine wpAnyH_ready (rs := [2]) (by kernel_rfl) (by simp) ?_
      refine AllReadyH.cons (o := { dst := some 112, op := Op.call { callee := Callee.value (Operand.func 10), args := #[Operand.tmp 111], argTypes := #[26] }, type := 24, pos := "outright.go:77", after := #[{ on := 1, ground := Ground.data }], guard := none }) rfl (fun K hK => ?_) AllReadyH.nil
      go_simp
      refine (r_lo.out _).mono ?_
      rintro e wn2 ⟨rfl, hb⟩
      have hk := hidden (hHeld.keep hb)
      go_wp2_with fail
      refine hK.out _ _ hk.out (fun hHeld2 => ?_)
      clear hK K hHeld hb
      have hHeld := hHeld2
      clear hHeld2
      clear hk
      refine wpAnyH_ready (rs := [4]) (by kernel_rfl) (by simp) ?_
      refine AllReadyH.cons (o := { dst := some 114, op := Op.call { callee := Callee.value (Operand.func 10), args := #[Operand.tmp 113], argTypes := #[26] }, type := 24, pos := "outright.go:77", after := #[{ on := 3, ground := Ground.data }, { on := 2, ground := Ground.chain }], guard := none }) rfl (fun K hK => ?_) AllReadyH.nil
      go_simp
      refine (r_hi.out _).mono ?_
      rintro e wn2 ⟨rfl, hb⟩
      have hk := hidden (hHeld.keep hb)
      go_wp2_with fail
      refine hK.out _ _ hk.out (fun hHeld2 => ?_)
      clear hK K hHeld hb
      have hHeld := hHeld2
      clear hHeld2
      clear hk
      refine wpAnyH_ready (rs := [6]) (by kernel_rfl) (by simp) ?_
      refine AllReadyH.cons (o := { dst := some 116, op := Op.call { callee := Callee.value (Operand.func 12), args := #[Operand.tmp 114, Operand.tmp 115], argTypes := #[24, 24] }, type := 24, pos := "outright.go:77", after := #[{ on := 4, ground := Ground.data }, { on := 5, ground := Ground.data }, { on := 4, ground := Ground.chain }], guard := none }) rfl (fun K hK => ?_) AllReadyH.nil
      go_simp
      refine (m_h.out _).mono ?_
      rintro e wn2 ⟨rfl, hb⟩
      have hk := hidden (hHeld.keep hb)
      go_wp2_with fail
      refine hK.out _ _ hk.out (fun hHeld2 => ?_)
      clear hK K hHeld hb
      have hHeld := hHeld2
      clear hHeld2
      clear hk
      refine wpAnyH_ready (rs := [7]) (by kernel_rfl) (by simp) ?_
      refine AllReadyH.cons (o := { dst := some 117, op := Op.call { callee := Callee.value (Operand.func 11), args := #[Operand.tmp 112, Operand.tmp 116], argTypes := #[24, 24] }, type := 24, pos := "outright.go:77", after := #[{ on := 2, ground := Ground.data }, { on := 6, ground := Ground.data }, { on := 6, ground := Ground.chain }], guard := none }) rfl (fun K hK => ?_) AllReadyH.nil
      go_simp
      refine (a_d.out _).mono ?_
      rintro e wn2 ⟨rfl, hb⟩
      have hk := hidden (hHeld.keep hb)
      go_wp2_with fail
      refine hK.out _ _ hk.out (fun hHeld2 => ?_)
      clear hK K hHeld hb
      have hHeld := hHeld2
      clear hHeld2
      refine wpAnyH_take (i := 8) (oi := { dst := some 118, op := Op.binOp BinOp.eql 24 (Operand.tmp 110) (Operand.tmp 117) 24, type := 4, pos := "outright.go:77", after := #[{ on := 0, ground := Ground.data }, { on := 7, ground := Ground.data }], guard := none }) (v := ?_) rfl (by kernel_rfl) (by kernel_rfl) (by kernel_rfl) (fun _ _ _ h => h) (Or.inl ⟨by rfl, ?_⟩) hHeld ?_
      rotate_left 1
      · (intro w0 hSw; clear hSw; go_simp; try with_reducible rfl)
      simp only [Act.put, List.setIfInBounds_toArray, List.set_cons_zero, List.set_cons_succ]
      refine wpAnyH_take (i := 9) (oi := { dst := some 6, op := Op.assign (Operand.tmp 118), type := 4, pos := "outright.go:77", after := #[{ on := 8, ground := Ground.data }, { on := 7, ground := Ground.chain }, { on := 0, ground := Ground.phase }, { on := 1, ground := Ground.phase }, { on := 2, ground := Ground.phase }, { on := 3, ground := Ground.phase }, { on := 4, ground := Ground.phase }, { on := 5, ground := Ground.phase }, { on := 6, ground := Ground.phase }, { on := 7, ground := Ground.phase }, { on := 8, ground := Ground.phase }], guard := none }) (v := ?_) rfl (by kernel_rfl) (by kernel_rfl) (by kernel_rfl) (fun _ _ _ h => h) (Or.inl ⟨by rfl, ?_⟩) hHeld ?_
      rotate_left 1
      · (intro w0 hSw; clear hSw; go_simp; try with_reducible rfl)
      simp only [Act.put, List.setIfInBounds_toArray, List.set_cons_zero, List.set_cons_succ]
      refine wpAnyH_done (by kernel_rfl) ?_ _
      refine NoPanic.normal ?_
      go_wp2_with fail
      go_ret
      exact ⟨rfl, hk.out.t.bel⟩

set_option maxRecDepth 100000 in
set_option maxHeartbeats 64000000 in
theorem cod_hi (a b : E5) (zs : List Int) (w : World) (ha : a.ok) (hb : b.ok) (lz : zs.length = 32) (hz : ∀ z ∈ zs, 0 ≤ z ∧ z ≤ 255) (hB : decide (bytes (((num zs % 57896044618658097711785492504343953926634992332820282019728792003956564819968 : Nat) : Int) % Fm.P) = zs) = false) (h31 : byt ((num zs : Nat) : Int) 31 ≥ 128) :
    Calls Try.prog 3 #[a.v, b.v, bv zs] w fun e w' => e = .returned (.bool true) ∧ Below w.heap.size w w' := by
  obtain ⟨M, hM⟩ : ∃ M : Int, M = ((num zs % 57896044618658097711785492504343953926634992332820282019728792003956564819968 : Nat) : Int) := ⟨_, rfl⟩
  rw [← hM] at hB
  obtain ⟨LA, hLA⟩ : ∃ t : E5, t = lst a.n := ⟨_, rfl⟩
  obtain ⟨LB, hLB⟩ : ∃ t : E5, t = lst b.n := ⟨_, rfl⟩
  obtain ⟨Z, hZ⟩ : ∃ t : E5, t = lst M := ⟨_, rfl⟩
  obtain ⟨s, hs⟩ : ∃ s : Bool, s = decide (a.n % Fm.P = b.n % Fm.P) := ⟨_, rfl⟩
  have lv := hidden live_any
  have e_a := hidden (fun w => Encode_any a w ha)
  have e_b := hidden (fun w => Encode_any b w hb)
  have d_a : Hid (∀ w : World, Calls Try.prog 6 #[bv (bytes (a.n % Fm.P))] w fun e w' => e = .returned (.tuple #[LA.v, .int .i64 0]) ∧ Below w.heap.size w w') := hidden (fun w => by
    have := Decode_any (bytes (a.n % Fm.P)) w (bytes_len _) (bytes_bd _) (a.n % Fm.P) (dec_M _) true (by rw [emod_emod_P]; simp)
    rw [show lst (a.n % Fm.P) = LA from by rw [hLA]; exact lst_congr (emod_emod_P _)] at this
    exact this)
  have l_a := hidden (fun w => fix (Least_any a w ha) hLA.symm)
  have l_b := hidden (fun w => fix (Least_any b w hb) hLB.symm)
  have s_ab := hidden (fun w => Same_any a b w ha hb)
  rw [← hs] at s_ab
  have qAB := fun w => (eq32 (bytes (a.n % Fm.P)) (bytes (b.n % Fm.P)) w (bytes_len _) (bytes_len _)).trans (by rw [bytes_same, ← hs] : _ = Result.ok s w)
  have qLL := fun w => (eq5 LA LB w).trans (by rw [hLA, hLB, lst_same, ← hs] : _ = Result.ok s w)
  have qA := fun w => (eq5 LA LA w).trans (by rw [E5.same_self] : _ = Result.ok true w)
  have qZ := fun w => (eq5 Z Z w).trans (by rw [E5.same_self] : _ = Result.ok true w)
  have d_c := hidden (fun w => Decode_any zs w lz hz M hM false hB)
  rw [← hZ] at d_c
  have r_c := hidden (fun w => fix (Reduce_any zs w lz hz) (by rw [← hM, ← hZ] : _ = Z))
  have e_z : Hid (∀ w : World, Calls Try.prog 7 #[Z.v] w fun e w' => e = .returned (.agg ((bytes (M % Fm.P)).map fun z => Value.int .u8 z).toArray) ∧ Below w.heap.size w w') := hidden (fun w => by
    have := Encode_any Z w (by rw [hZ]; exact lst_ok _)
    rw [show Z.n % Fm.P = M % Fm.P from by rw [hZ, lst_n, emod_emod_P]] at this
    exact this)
  have qC := fun w => (eq32 (bytes (M % Fm.P)) zs w (bytes_len _) lz).trans (by rw [hB] : _ = Result.ok false w)
  have q00 := fun w => (eq5 zero5 zero5 w).trans (by rw [E5.same_self] : _ = Result.ok true w)
  obtain ⟨N, hN⟩ : ∃ N : Nat, N = num zs := ⟨_, rfl⟩
  obtain ⟨LO, hLO⟩ : ∃ t : E5, t = lst ((N % 340282366920938463463374607431768211456 : Nat) : Int) := ⟨_, rfl⟩
  obtain ⟨HI, hHI⟩ : ∃ t : E5, t = lst ((N / 340282366920938463463374607431768211456 % 170141183460469231731687303715884105728 : Nat) : Int) := ⟨_, rfl⟩
  obtain ⟨MU, hMU⟩ : ∃ t : E5, t = lst (HI.n * sh5.n) := ⟨_, rfl⟩
  have r_lo := hidden (fun w => fix (Reduce_any (bytes ((N % 340282366920938463463374607431768211456 : Nat) : Int)) w (bytes_len _) (bytes_bd _)) (by rw [num_lo, ← hLO] : _ = LO))
  have r_hi := hidden (fun w => fix (Reduce_any (bytes ((N / 340282366920938463463374607431768211456 % 170141183460469231731687303715884105728 : Nat) : Int)) w (bytes_len _) (bytes_bd _)) (by rw [num_hi, ← hHI] : _ = HI))
  have m_h := hidden (fun w => fix (Mul_any HI sh5 w (by rw [hHI]; exact lst_ok _) sh5ok) hMU.symm)
  have a_d := hidden (fun w => fix (Add_any LO MU w (by rw [hLO]; exact lst_ok _) (by rw [hMU]; exact lst_ok _)) (by rw [hLO, hMU, hHI, sum_halves, hN, ← hM, ← hZ] : _ = Z))
  have ZC := fun j hj => zs_cell zs lz hz j hj
  rw [← hN] at ZC
  have hi : (Try.prog.info? 26).map (·.size) = some (zs.map fun z => Value.int .u8 z).length := by rw [List.length_map, lz]; kernel_rfl
  have hil : (Try.prog.info? 26).map (·.size) = some ((bytes ((N % 340282366920938463463374607431768211456 : Nat) : Int)).map fun z => Value.int .u8 z).length := by rw [List.length_map, bytes_len]; kernel_rfl
  have hih : (Try.prog.info? 26).map (·.size) = some ((bytes ((N / 340282366920938463463374607431768211456 % 170141183460469231731687303715884105728 : Nat) : Int)).map fun z => Value.int .u8 z).length := by rw [List.length_map, bytes_len]; kernel_rfl
  have DONE := hidden (fun (w0 : World) (C Zb Lb Hb : Nat) (w : World) (h : LW w0 (N : Int) C Zb Lb Hb Z 16 w) => h.done)
  rw [← hN] at h31
  have hu : Try.prog.underlying 26 = some (.array 32 5) := by kernel_rfl
  clear hM hLA hLB hZ hs hLO hHI hMU hB ha hb lz
  have RN := hidden (range_new ((w.alloc (.cells #[.int .u64 a.x0, .int .u64 a.x1, .int .u64 a.x2, .int .u64 a.x3, .int .u64 a.x4] 24)).alloc (.cells #[.int .u64 b.x0, .int .u64 b.x1, .int .u64 b.x2, .int .u64 b.x3, .int .u64 b.x4] 24)) zs 26)
  simp only [World.size_alloc] at RN
  clear hz hN
  simp only [E5.v, bv, sh5, zero5, cond] at *
  generalize ((bytes (a.n % Fm.P)).map fun z => Value.int .u8 z) = dA at *
  generalize ((bytes (b.n % Fm.P)).map fun z => Value.int .u8 z) = dB at *
  generalize ((bytes (M % Fm.P)).map fun z => Value.int .u8 z) = dM at *
  generalize ((bytes ((N % 340282366920938463463374607431768211456 : Nat) : Int)).map fun z => Value.int .u8 z) = los at *
  generalize ((bytes ((N / 340282366920938463463374607431768211456 % 170141183460469231731687303715884105728 : Nat) : Int)).map fun z => Value.int .u8 z) = his at *
  generalize (zs.map fun z => Value.int .u8 z) = cs at *
  have HU := hidden hu; have HI_ := hidden hi; have HIL := hidden hil; have HIH := hidden hih; have ZCH := hidden ZC
  clear hu hi hil hih ZC
  go_enter Try.func3, Try.ntmps3
  go_wp2_with fail
  refine (lv.out _).mono ?_
  rintro e w1 ⟨rfl, hb1⟩
  have s0 := ((St.start w a 24).new b 24).keep (bl_alloc _ (.cells cs.toArray 26))
  simp only [World.size_alloc] at s0
  have s1 : CW w [(w.heap.size + 1, b), (w.heap.size, a)] cs w1 := CW.keep ⟨s0, RN.out⟩ hb1
  clear s0
  clear hb1 RN
  have a0 := (s1.st.live (w.heap.size, a) (by simp)).c0
  have a1 := (s1.st.live (w.heap.size, a) (by simp)).c1
  have a2 := (s1.st.live (w.heap.size, a) (by simp)).c2
  have a3 := (s1.st.live (w.heap.size, a) (by simp)).c3
  have a4 := (s1.st.live (w.heap.size, a) (by simp)).c4
  replace s1 := hidden s1
  go_wp2_with fail
  refine (e_a.out _).mono ?_
  rintro e w2 ⟨rfl, hb2⟩
  have s2 := hidden (s1.out.keep hb2)
  clear s1 hb2 a0 a1 a2 a3 a4
  go_wp2_with fail
  refine (d_a.out _).mono ?_
  rintro e w3 ⟨rfl, hb3⟩
  have s3 : CW w [(w3.heap.size, LA), (w.heap.size + 1, b), (w.heap.size, a)] cs (w3.alloc (.cells #[.int .u64 LA.x0, .int .u64 LA.x1, .int .u64 LA.x2, .int .u64 LA.x3, .int .u64 LA.x4] 24)) := (s2.out.keep hb3).new LA 24
  clear s2 hb3
  replace s3 := hidden s3
  go_wp2_with fail
  have K4 : Hid (∀ w' : World, CW w [(w3.heap.size, LA), (w.heap.size + 1, b), (w.heap.size, a)] cs w' → (fun w' => CW w [(w3.heap.size, LA), (w.heap.size + 1, b), (w.heap.size, a)] cs w' ∧ w'.cell? ⟨w3.heap.size, 0, none⟩ = some (.int .u64 LA.x0) ∧ w'.cell? ⟨w3.heap.size, 1, none⟩ = some (.int .u64 LA.x1) ∧ w'.cell? ⟨w3.heap.size, 2, none⟩ = some (.int .u64 LA.x2) ∧ w'.cell? ⟨w3.heap.size, 3, none⟩ = some (.int .u64 LA.x3) ∧ w'.cell? ⟨w3.heap.size, 4, none⟩ = some (.int .u64 LA.x4) ∧ w'.cell? ⟨w.heap.size + 1, 0, none⟩ = some (.int .u64 b.x0) ∧ w'.cell? ⟨w.heap.size + 1, 1, none⟩ = some (.int .u64 b.x1) ∧ w'.cell? ⟨w.heap.size + 1, 2, none⟩ = some (.int .u64 b.x2) ∧ w'.cell? ⟨w.heap.size + 1, 3, none⟩ = some (.int .u64 b.x3) ∧ w'.cell? ⟨w.heap.size + 1, 4, none⟩ = some (.int .u64 b.x4) ∧ w'.cell? ⟨w.heap.size, 0, none⟩ = some (.int .u64 a.x0) ∧ w'.cell? ⟨w.heap.size, 1, none⟩ = some (.int .u64 a.x1) ∧ w'.cell? ⟨w.heap.size, 2, none⟩ = some (.int .u64 a.x2) ∧ w'.cell? ⟨w.heap.size, 3, none⟩ = some (.int .u64 a.x3) ∧ w'.cell? ⟨w.heap.size, 4, none⟩ = some (.int .u64 a.x4)) w') := hidden (fun w' h => ⟨h, (h.st.live (w3.heap.size, LA) (by simp)).c0, (h.st.live (w3.heap.size, LA) (by simp)).c1, (h.st.live (w3.heap.size, LA) (by simp)).c2, (h.st.live (w3.heap.size, LA) (by simp)).c3, (h.st.live (w3.heap.size, LA) (by simp)).c4, (h.st.live (w.heap.size + 1, b) (by simp)).c0, (h.st.live (w.heap.size + 1, b) (by simp)).c1, (h.st.live (w.heap.size + 1, b) (by simp)).c2, (h.st.live (w.heap.size + 1, b) (by simp)).c3, (h.st.live (w.heap.size + 1, b) (by simp)).c4, (h.st.live (w.heap.size, a) (by simp)).c0, (h.st.live (w.heap.size, a) (by simp)).c1, (h.st.live (w.heap.size, a) (by simp)).c2, (h.st.live (w.heap.size, a) (by simp)).c3, (h.st.live (w.heap.size, a) (by simp)).c4⟩)
  have K0 : Hid ((fun w' => CW w [(w3.heap.size, LA), (w.heap.size + 1, b), (w.heap.size, a)] cs w' ∧ w'.cell? ⟨w3.heap.size, 0, none⟩ = some (.int .u64 LA.x0) ∧ w'.cell? ⟨w3.heap.size, 1, none⟩ = some (.int .u64 LA.x1) ∧ w'.cell? ⟨w3.heap.size, 2, none⟩ = some (.int .u64 LA.x2) ∧ w'.cell? ⟨w3.heap.size, 3, none⟩ = some (.int .u64 LA.x3) ∧ w'.cell? ⟨w3.heap.size, 4, none⟩ = some (.int .u64 LA.x4) ∧ w'.cell? ⟨w.heap.size + 1, 0, none⟩ = some (.int .u64 b.x0) ∧ w'.cell? ⟨w.heap.size + 1, 1, none⟩ = some (.int .u64 b.x1) ∧ w'.cell? ⟨w.heap.size + 1, 2, none⟩ = some (.int .u64 b.x2) ∧ w'.cell? ⟨w.heap.size + 1, 3, none⟩ = some (.int .u64 b.x3) ∧ w'.cell? ⟨w.heap.size + 1, 4, none⟩ = some (.int .u64 b.x4) ∧ w'.cell? ⟨w.heap.size, 0, none⟩ = some (.int .u64 a.x0) ∧ w'.cell? ⟨w.heap.size, 1, none⟩ = some (.int .u64 a.x1) ∧ w'.cell? ⟨w.heap.size, 2, none⟩ = some (.int .u64 a.x2) ∧ w'.cell? ⟨w.heap.size, 3, none⟩ = some (.int .u64 a.x3) ∧ w'.cell? ⟨w.heap.size, 4, none⟩ = some (.int .u64 a.x4)) _) := hidden (K4.out _ (s3.out).drew)
  go_region_held3 (fun w' => CW w [(w3.heap.size, LA), (w.heap.size + 1, b), (w.heap.size, a)] cs w' ∧ w'.cell? ⟨w3.heap.size, 0, none⟩ = some (.int .u64 LA.x0) ∧ w'.cell? ⟨w3.heap.size, 1, none⟩ = some (.int .u64 LA.x1) ∧ w'.cell? ⟨w3.heap.size, 2, none⟩ = some (.int .u64 LA.x2) ∧ w'.cell? ⟨w3.heap.size, 3, none⟩ = some (.int .u64 LA.x3) ∧ w'.cell? ⟨w3.heap.size, 4, none⟩ = some (.int .u64 LA.x4) ∧ w'.cell? ⟨w.heap.size + 1, 0, none⟩ = some (.int .u64 b.x0) ∧ w'.cell? ⟨w.heap.size + 1, 1, none⟩ = some (.int .u64 b.x1) ∧ w'.cell? ⟨w.heap.size + 1, 2, none⟩ = some (.int .u64 b.x2) ∧ w'.cell? ⟨w.heap.size + 1, 3, none⟩ = some (.int .u64 b.x3) ∧ w'.cell? ⟨w.heap.size + 1, 4, none⟩ = some (.int .u64 b.x4) ∧ w'.cell? ⟨w.heap.size, 0, none⟩ = some (.int .u64 a.x0) ∧ w'.cell? ⟨w.heap.size, 1, none⟩ = some (.int .u64 a.x1) ∧ w'.cell? ⟨w.heap.size, 2, none⟩ = some (.int .u64 a.x2) ∧ w'.cell? ⟨w.heap.size, 3, none⟩ = some (.int .u64 a.x3) ∧ w'.cell? ⟨w.heap.size, 4, none⟩ = some (.int .u64 a.x4)) (first | with_reducible exact K0.out | with_reducible exact hk.out)
    (first | (go_at_call 8; with_reducible refine (l_a.out _).mono ?_; rintro e wn ⟨rfl, hb⟩; have hH := (show (fun w' => CW w [(w3.heap.size, LA), (w.heap.size + 1, b), (w.heap.size, a)] cs w' ∧ w'.cell? ⟨w3.heap.size, 0, none⟩ = some (.int .u64 LA.x0) ∧ w'.cell? ⟨w3.heap.size, 1, none⟩ = some (.int .u64 LA.x1) ∧ w'.cell? ⟨w3.heap.size, 2, none⟩ = some (.int .u64 LA.x2) ∧ w'.cell? ⟨w3.heap.size, 3, none⟩ = some (.int .u64 LA.x3) ∧ w'.cell? ⟨w3.heap.size, 4, none⟩ = some (.int .u64 LA.x4) ∧ w'.cell? ⟨w.heap.size + 1, 0, none⟩ = some (.int .u64 b.x0) ∧ w'.cell? ⟨w.heap.size + 1, 1, none⟩ = some (.int .u64 b.x1) ∧ w'.cell? ⟨w.heap.size + 1, 2, none⟩ = some (.int .u64 b.x2) ∧ w'.cell? ⟨w.heap.size + 1, 3, none⟩ = some (.int .u64 b.x3) ∧ w'.cell? ⟨w.heap.size + 1, 4, none⟩ = some (.int .u64 b.x4) ∧ w'.cell? ⟨w.heap.size, 0, none⟩ = some (.int .u64 a.x0) ∧ w'.cell? ⟨w.heap.size, 1, none⟩ = some (.int .u64 a.x1) ∧ w'.cell? ⟨w.heap.size, 2, none⟩ = some (.int .u64 a.x2) ∧ w'.cell? ⟨w.heap.size, 3, none⟩ = some (.int .u64 a.x3) ∧ w'.cell? ⟨w.heap.size, 4, none⟩ = some (.int .u64 a.x4)) _ from by assumption); have hk := hidden (K4.out _ (hH.1.keep hb))) | (go_at_call 8; with_reducible refine (l_b.out _).mono ?_; rintro e wn ⟨rfl, hb⟩; have hH := (show (fun w' => CW w [(w3.heap.size, LA), (w.heap.size + 1, b), (w.heap.size, a)] cs w' ∧ w'.cell? ⟨w3.heap.size, 0, none⟩ = some (.int .u64 LA.x0) ∧ w'.cell? ⟨w3.heap.size, 1, none⟩ = some (.int .u64 LA.x1) ∧ w'.cell? ⟨w3.heap.size, 2, none⟩ = some (.int .u64 LA.x2) ∧ w'.cell? ⟨w3.heap.size, 3, none⟩ = some (.int .u64 LA.x3) ∧ w'.cell? ⟨w3.heap.size, 4, none⟩ = some (.int .u64 LA.x4) ∧ w'.cell? ⟨w.heap.size + 1, 0, none⟩ = some (.int .u64 b.x0) ∧ w'.cell? ⟨w.heap.size + 1, 1, none⟩ = some (.int .u64 b.x1) ∧ w'.cell? ⟨w.heap.size + 1, 2, none⟩ = some (.int .u64 b.x2) ∧ w'.cell? ⟨w.heap.size + 1, 3, none⟩ = some (.int .u64 b.x3) ∧ w'.cell? ⟨w.heap.size + 1, 4, none⟩ = some (.int .u64 b.x4) ∧ w'.cell? ⟨w.heap.size, 0, none⟩ = some (.int .u64 a.x0) ∧ w'.cell? ⟨w.heap.size, 1, none⟩ = some (.int .u64 a.x1) ∧ w'.cell? ⟨w.heap.size, 2, none⟩ = some (.int .u64 a.x2) ∧ w'.cell? ⟨w.heap.size, 3, none⟩ = some (.int .u64 a.x3) ∧ w'.cell? ⟨w.heap.size, 4, none⟩ = some (.int .u64 a.x4)) _ from by assumption); have hk := hidden (K4.out _ (hH.1.keep hb))) | (go_at_call 9; with_reducible refine (s_ab.out _).mono ?_; rintro e wn ⟨rfl, hb⟩; have hH := (show (fun w' => CW w [(w3.heap.size, LA), (w.heap.size + 1, b), (w.heap.size, a)] cs w' ∧ w'.cell? ⟨w3.heap.size, 0, none⟩ = some (.int .u64 LA.x0) ∧ w'.cell? ⟨w3.heap.size, 1, none⟩ = some (.int .u64 LA.x1) ∧ w'.cell? ⟨w3.heap.size, 2, none⟩ = some (.int .u64 LA.x2) ∧ w'.cell? ⟨w3.heap.size, 3, none⟩ = some (.int .u64 LA.x3) ∧ w'.cell? ⟨w3.heap.size, 4, none⟩ = some (.int .u64 LA.x4) ∧ w'.cell? ⟨w.heap.size + 1, 0, none⟩ = some (.int .u64 b.x0) ∧ w'.cell? ⟨w.heap.size + 1, 1, none⟩ = some (.int .u64 b.x1) ∧ w'.cell? ⟨w.heap.size + 1, 2, none⟩ = some (.int .u64 b.x2) ∧ w'.cell? ⟨w.heap.size + 1, 3, none⟩ = some (.int .u64 b.x3) ∧ w'.cell? ⟨w.heap.size + 1, 4, none⟩ = some (.int .u64 b.x4) ∧ w'.cell? ⟨w.heap.size, 0, none⟩ = some (.int .u64 a.x0) ∧ w'.cell? ⟨w.heap.size, 1, none⟩ = some (.int .u64 a.x1) ∧ w'.cell? ⟨w.heap.size, 2, none⟩ = some (.int .u64 a.x2) ∧ w'.cell? ⟨w.heap.size, 3, none⟩ = some (.int .u64 a.x3) ∧ w'.cell? ⟨w.heap.size, 4, none⟩ = some (.int .u64 a.x4)) _ from by assumption); have hk := hidden (K4.out _ (hH.1.keep hb))) | (go_at_call 7; with_reducible refine (e_a.out _).mono ?_; rintro e wn ⟨rfl, hb⟩; have hH := (show (fun w' => CW w [(w3.heap.size, LA), (w.heap.size + 1, b), (w.heap.size, a)] cs w' ∧ w'.cell? ⟨w3.heap.size, 0, none⟩ = some (.int .u64 LA.x0) ∧ w'.cell? ⟨w3.heap.size, 1, none⟩ = some (.int .u64 LA.x1) ∧ w'.cell? ⟨w3.heap.size, 2, none⟩ = some (.int .u64 LA.x2) ∧ w'.cell? ⟨w3.heap.size, 3, none⟩ = some (.int .u64 LA.x3) ∧ w'.cell? ⟨w3.heap.size, 4, none⟩ = some (.int .u64 LA.x4) ∧ w'.cell? ⟨w.heap.size + 1, 0, none⟩ = some (.int .u64 b.x0) ∧ w'.cell? ⟨w.heap.size + 1, 1, none⟩ = some (.int .u64 b.x1) ∧ w'.cell? ⟨w.heap.size + 1, 2, none⟩ = some (.int .u64 b.x2) ∧ w'.cell? ⟨w.heap.size + 1, 3, none⟩ = some (.int .u64 b.x3) ∧ w'.cell? ⟨w.heap.size + 1, 4, none⟩ = some (.int .u64 b.x4) ∧ w'.cell? ⟨w.heap.size, 0, none⟩ = some (.int .u64 a.x0) ∧ w'.cell? ⟨w.heap.size, 1, none⟩ = some (.int .u64 a.x1) ∧ w'.cell? ⟨w.heap.size, 2, none⟩ = some (.int .u64 a.x2) ∧ w'.cell? ⟨w.heap.size, 3, none⟩ = some (.int .u64 a.x3) ∧ w'.cell? ⟨w.heap.size, 4, none⟩ = some (.int .u64 a.x4)) _ from by assumption); have hk := hidden (K4.out _ (hH.1.keep hb))) | (go_at_call 7; with_reducible refine (e_b.out _).mono ?_; rintro e wn ⟨rfl, hb⟩; have hH := (show (fun w' => CW w [(w3.heap.size, LA), (w.heap.size + 1, b), (w.heap.size, a)] cs w' ∧ w'.cell? ⟨w3.heap.size, 0, none⟩ = some (.int .u64 LA.x0) ∧ w'.cell? ⟨w3.heap.size, 1, none⟩ = some (.int .u64 LA.x1) ∧ w'.cell? ⟨w3.heap.size, 2, none⟩ = some (.int .u64 LA.x2) ∧ w'.cell? ⟨w3.heap.size, 3, none⟩ = some (.int .u64 LA.x3) ∧ w'.cell? ⟨w3.heap.size, 4, none⟩ = some (.int .u64 LA.x4) ∧ w'.cell? ⟨w.heap.size + 1, 0, none⟩ = some (.int .u64 b.x0) ∧ w'.cell? ⟨w.heap.size + 1, 1, none⟩ = some (.int .u64 b.x1) ∧ w'.cell? ⟨w.heap.size + 1, 2, none⟩ = some (.int .u64 b.x2) ∧ w'.cell? ⟨w.heap.size + 1, 3, none⟩ = some (.int .u64 b.x3) ∧ w'.cell? ⟨w.heap.size + 1, 4, none⟩ = some (.int .u64 b.x4) ∧ w'.cell? ⟨w.heap.size, 0, none⟩ = some (.int .u64 a.x0) ∧ w'.cell? ⟨w.heap.size, 1, none⟩ = some (.int .u64 a.x1) ∧ w'.cell? ⟨w.heap.size, 2, none⟩ = some (.int .u64 a.x2) ∧ w'.cell? ⟨w.heap.size, 3, none⟩ = some (.int .u64 a.x3) ∧ w'.cell? ⟨w.heap.size, 4, none⟩ = some (.int .u64 a.x4)) _ from by assumption); have hk := hidden (K4.out _ (hH.1.keep hb))))
  have s4 := hidden hk.out.1
  clear hk K4 K0 s3 l_a l_b s_ab e_a e_b d_a qAB qLL qA lv
  go_wp2_with (refine wpList_load_mid rfl 26 _ rfl (w.heap.size + 1 + 1) 0 (by rfl) cs _ s4.out.rg HU.out rfl HI_.out ?_)
  refine (d_c.out _).mono ?_
  rintro e w5 ⟨rfl, hb5⟩
  have s5 : CW w [(w5.heap.size, zero5), (w3.heap.size, LA), (w.heap.size + 1, b), (w.heap.size, a)] cs (w5.alloc (.cells #[.int .u64 0, .int .u64 0, .int .u64 0, .int .u64 0, .int .u64 0] 24)) := (s4.out.keep hb5).new zero5 24
  clear s4 hb5 d_c
  replace s5 := hidden s5
  go_wp2_with (refine wpList_load_mid rfl 26 _ rfl (w.heap.size + 1 + 1) 0 (by rfl) cs _ s5.out.rg HU.out rfl HI_.out ?_)
  refine (r_c.out _).mono ?_
  rintro e w6 ⟨rfl, hb6⟩
  have s6 : CW w [(w6.heap.size, Z), (w5.heap.size, zero5)] cs (w6.alloc (.cells #[.int .u64 Z.x0, .int .u64 Z.x1, .int .u64 Z.x2, .int .u64 Z.x3, .int .u64 Z.x4] 24)) := CW.sub ((s5.out.keep hb6).new Z 24) (by simp)
  clear s5 hb6 r_c
  replace s6 := hidden s6
  go_wp2_with fail
  have Z31 := hidden (ZCH.out 31 (by omega))
  generalize hx31 : byt (N : Int) 31 = x31 at h31 Z31
  have hx32 := hidden hx31
  clear hx31
  have K9 : Hid (∀ w' : World, CW w [(w6.heap.size, Z), (w5.heap.size, zero5)] cs w' → (fun w' => CW w [(w6.heap.size, Z), (w5.heap.size, zero5)] cs w' ∧ w'.cell? ⟨w6.heap.size, 0, none⟩ = some (.int .u64 Z.x0) ∧ w'.cell? ⟨w6.heap.size, 1, none⟩ = some (.int .u64 Z.x1) ∧ w'.cell? ⟨w6.heap.size, 2, none⟩ = some (.int .u64 Z.x2) ∧ w'.cell? ⟨w6.heap.size, 3, none⟩ = some (.int .u64 Z.x3) ∧ w'.cell? ⟨w6.heap.size, 4, none⟩ = some (.int .u64 Z.x4) ∧ w'.cell? ⟨w5.heap.size, 0, none⟩ = some (.int .u64 0) ∧ w'.cell? ⟨w5.heap.size, 1, none⟩ = some (.int .u64 0) ∧ w'.cell? ⟨w5.heap.size, 2, none⟩ = some (.int .u64 0) ∧ w'.cell? ⟨w5.heap.size, 3, none⟩ = some (.int .u64 0) ∧ w'.cell? ⟨w5.heap.size, 4, none⟩ = some (.int .u64 0) ∧ w'.cell? ⟨w.heap.size + 1 + 1, 31, none⟩ = some (.int .u8 x31)) w') := hidden (fun w' h => ⟨h, (h.st.live (w6.heap.size, Z) (by simp)).c0, (h.st.live (w6.heap.size, Z) (by simp)).c1, (h.st.live (w6.heap.size, Z) (by simp)).c2, (h.st.live (w6.heap.size, Z) (by simp)).c3, (h.st.live (w6.heap.size, Z) (by simp)).c4, (h.st.live (w5.heap.size, zero5) (by simp)).c0, (h.st.live (w5.heap.size, zero5) (by simp)).c1, (h.st.live (w5.heap.size, zero5) (by simp)).c2, (h.st.live (w5.heap.size, zero5) (by simp)).c3, (h.st.live (w5.heap.size, zero5) (by simp)).c4, cell_of h.rg Z31.out⟩)
  have hn31 : ¬ x31 < 128 := by omega
  have K0 : Hid ((fun w' => CW w [(w6.heap.size, Z), (w5.heap.size, zero5)] cs w' ∧ w'.cell? ⟨w6.heap.size, 0, none⟩ = some (.int .u64 Z.x0) ∧ w'.cell? ⟨w6.heap.size, 1, none⟩ = some (.int .u64 Z.x1) ∧ w'.cell? ⟨w6.heap.size, 2, none⟩ = some (.int .u64 Z.x2) ∧ w'.cell? ⟨w6.heap.size, 3, none⟩ = some (.int .u64 Z.x3) ∧ w'.cell? ⟨w6.heap.size, 4, none⟩ = some (.int .u64 Z.x4) ∧ w'.cell? ⟨w5.heap.size, 0, none⟩ = some (.int .u64 0) ∧ w'.cell? ⟨w5.heap.size, 1, none⟩ = some (.int .u64 0) ∧ w'.cell? ⟨w5.heap.size, 2, none⟩ = some (.int .u64 0) ∧ w'.cell? ⟨w5.heap.size, 3, none⟩ = some (.int .u64 0) ∧ w'.cell? ⟨w5.heap.size, 4, none⟩ = some (.int .u64 0) ∧ w'.cell? ⟨w.heap.size + 1 + 1, 31, none⟩ = some (.int .u8 x31)) _) := hidden (K9.out _ (s6.out).drew)
  refine wp_region_noPanic ?_
  refine wp_region_held_drew (S := fun w' => CW w [(w6.heap.size, Z), (w5.heap.size, zero5)] cs w' ∧ w'.cell? ⟨w6.heap.size, 0, none⟩ = some (.int .u64 Z.x0) ∧ w'.cell? ⟨w6.heap.size, 1, none⟩ = some (.int .u64 Z.x1) ∧ w'.cell? ⟨w6.heap.size, 2, none⟩ = some (.int .u64 Z.x2) ∧ w'.cell? ⟨w6.heap.size, 3, none⟩ = some (.int .u64 Z.x3) ∧ w'.cell? ⟨w6.heap.size, 4, none⟩ = some (.int .u64 Z.x4) ∧ w'.cell? ⟨w5.heap.size, 0, none⟩ = some (.int .u64 0) ∧ w'.cell? ⟨w5.heap.size, 1, none⟩ = some (.int .u64 0) ∧ w'.cell? ⟨w5.heap.size, 2, none⟩ = some (.int .u64 0) ∧ w'.cell? ⟨w5.heap.size, 3, none⟩ = some (.int .u64 0) ∧ w'.cell? ⟨w5.heap.size, 4, none⟩ = some (.int .u64 0) ∧ w'.cell? ⟨w.heap.size + 1 + 1, 31, none⟩ = some (.int .u8 x31)) (by kernel_rfl) K0.out (fun hHeld => ?_)
  refine wpAnyH_take (i := 0) (oi := { dst := some 72, op := Op.move (Operand.tmp 10), type := 28, pos := "outright.go:67", after := #[], guard := none }) (v := ?_) rfl (by kernel_rfl) (by kernel_rfl) (by kernel_rfl) (fun _ _ _ h => h) (Or.inl ⟨by rfl, ?_⟩) hHeld ?_
  rotate_left 1
  · (intro w0 hSw; (try dsimp only at hSw); go_simp; try with_reducible rfl)
  simp only [Act.put, List.setIfInBounds_toArray, List.set_cons_zero, List.set_cons_succ]
  refine wpAnyH_take (i := 1) (oi := { dst := some 73, op := Op.binOp BinOp.neq 28 (Operand.tmp 72) (Operand.const (Value.int IntKind.i64 3)) 28, type := 4, pos := "outright.go:67", after := #[{ on := 0, ground := Ground.data }], guard := none }) (v := ?_) rfl (by kernel_rfl) (by kernel_rfl) (by kernel_rfl) (fun _ _ _ h => h) (Or.inl ⟨by rfl, ?_⟩) hHeld ?_
  rotate_left 1
  · (intro w0 hSw; (try dsimp only at hSw); go_simp; try with_reducible rfl)
  simp only [Act.put, List.setIfInBounds_toArray, List.set_cons_zero, List.set_cons_succ]
  refine wpAnyH_take (i := 2) (oi := { dst := some 74, op := Op.move (Operand.tmp 73), type := 4, pos := "outright.go:67", after := #[{ on := 1, ground := Ground.data }], guard := none }) (v := ?_) rfl (by kernel_rfl) (by kernel_rfl) (by kernel_rfl) (fun _ _ _ h => h) (Or.inl ⟨by rfl, ?_⟩) hHeld ?_
  rotate_left 1
  · (intro w0 hSw; (try dsimp only at hSw); go_simp; try with_reducible rfl)
  simp only [Act.put, List.setIfInBounds_toArray, List.set_cons_zero, List.set_cons_succ]
  refine wpAnyH_take (i := 3) (oi := { dst := some 75, op := Op.load 24 (Operand.tmp 9), type := 24, pos := "outright.go:67", after := #[{ on := 2, ground := Ground.guard }], guard := some (2, false) }) (v := ?_) rfl (by kernel_rfl) (by kernel_rfl) (by kernel_rfl) (fun _ _ _ h => h) (Or.inl ⟨by rfl, ?_⟩) hHeld ?_
  rotate_left 1
  · (intro w0 hSw; (try dsimp only at hSw); go_simp; try with_reducible rfl)
  simp only [Act.put, List.setIfInBounds_toArray, List.set_cons_zero, List.set_cons_succ]
  refine wpAnyH_take (i := 4) (oi := { dst := some 76, op := Op.build 24 #[], type := 24, pos := "outright.go:67", after := #[{ on := 2, ground := Ground.guard }], guard := some (2, false) }) (v := ?_) rfl (by kernel_rfl) (by kernel_rfl) (by kernel_rfl) (fun _ _ _ h => h) (Or.inl ⟨by rfl, ?_⟩) hHeld ?_
  rotate_left 1
  · (intro w0 hSw; (try dsimp only at hSw); go_simp; try with_reducible rfl)
  simp only [Act.put, List.setIfInBounds_toArray, List.set_cons_zero, List.set_cons_succ]
  refine wpAnyH_take (i := 5) (oi := { dst := some 77, op := Op.binOp BinOp.neq 24 (Operand.tmp 75) (Operand.tmp 76) 24, type := 4, pos := "outright.go:67", after := #[{ on := 3, ground := Ground.data }, { on := 4, ground := Ground.data }, { on := 2, ground := Ground.guard }], guard := some (2, false) }) (v := ?_) rfl (by kernel_rfl) (by kernel_rfl) (by kernel_rfl) (fun _ _ _ h => h) (Or.inl ⟨by rfl, ?_⟩) hHeld ?_
  rotate_left 1
  · (intro w0 hSw; (try dsimp only at hSw); go_simp; try with_reducible rfl)
  simp only [Act.put, List.setIfInBounds_toArray, List.set_cons_zero, List.set_cons_succ]
  refine wpAnyH_take (i := 6) (oi := { dst := some 78, op := Op.pick (Operand.tmp 74) (Operand.const (Value.bool true)) (Operand.tmp 77), type := 4, pos := "outright.go:67", after := #[{ on := 2, ground := Ground.data }, { on := 5, ground := Ground.data }], guard := none }) (v := ?_) rfl (by kernel_rfl) (by kernel_rfl) (by kernel_rfl) (fun _ _ _ h => h) (Or.inl ⟨by rfl, ?_⟩) hHeld ?_
  rotate_left 1
  · (intro w0 hSw; (try dsimp only at hSw); go_simp; try with_reducible rfl)
  simp only [Act.put, List.setIfInBounds_toArray, List.set_cons_zero, List.set_cons_succ]
  refine wpAnyH_take (i := 7) (oi := { dst := some 79, op := Op.move (Operand.tmp 78), type := 4, pos := "outright.go:67", after := #[{ on := 6, ground := Ground.data }, { on := 2, ground := Ground.chain }], guard := none }) (v := ?_) rfl (by kernel_rfl) (by kernel_rfl) (by kernel_rfl) (fun _ _ _ h => h) (Or.inl ⟨by rfl, ?_⟩) hHeld ?_
  rotate_left 1
  · (intro w0 hSw; (try dsimp only at hSw); go_simp; try with_reducible rfl)
  simp only [Act.put, List.setIfInBounds_toArray, List.set_cons_zero, List.set_cons_succ]
  refine wpAnyH_take (i := 8) (oi := { dst := some 80, op := Op.indexAddr 26 (Operand.tmp 5) (Operand.const (Value.int IntKind.i64 31)), type := 0, pos := "outright.go:67", after := #[{ on := 7, ground := Ground.guard }], guard := some (7, false) }) (v := ?_) rfl (by kernel_rfl) (by kernel_rfl) (by kernel_rfl) (fun _ _ _ h => h) (Or.inl ⟨by rfl, ?_⟩) hHeld ?_
  rotate_left 1
  · (intro w0 hSw; (try dsimp only at hSw); go_simp; try with_reducible rfl)
  simp only [Act.put, List.setIfInBounds_toArray, List.set_cons_zero, List.set_cons_succ]
  refine wpAnyH_take (i := 9) (oi := { dst := some 81, op := Op.load 5 (Operand.tmp 80), type := 5, pos := "outright.go:67", after := #[{ on := 8, ground := Ground.data }, { on := 7, ground := Ground.guard }], guard := some (7, false) }) (v := ?_) rfl (by kernel_rfl) (by kernel_rfl) (by kernel_rfl) (fun _ _ _ h => h) (Or.inl ⟨by rfl, ?_⟩) hHeld ?_
  rotate_left 1
  · (intro w0 hSw; (try dsimp only at hSw); go_simp; try with_reducible rfl)
  simp only [Act.put, List.setIfInBounds_toArray, List.set_cons_zero, List.set_cons_succ]
  refine wpAnyH_take (i := 10) (oi := { dst := some 82, op := Op.binOp BinOp.lss 5 (Operand.tmp 81) (Operand.const (Value.int IntKind.u8 128)) 5, type := 4, pos := "outright.go:67", after := #[{ on := 9, ground := Ground.data }, { on := 7, ground := Ground.guard }], guard := some (7, false) }) (v := ?_) rfl (by kernel_rfl) (by kernel_rfl) (by kernel_rfl) (fun _ _ _ h => h) (Or.inl ⟨by rfl, ?_⟩) hHeld ?_
  rotate_left 1
  · (intro w0 hSw; (try dsimp only at hSw); go_simp; try with_reducible rfl)
  simp only [Act.put, List.setIfInBounds_toArray, List.set_cons_zero, List.set_cons_succ]
  refine wpAnyH_take (i := 11) (oi := { dst := some 83, op := Op.move (Operand.tmp 82), type := 4, pos := "outright.go:67", after := #[{ on := 10, ground := Ground.data }, { on := 7, ground := Ground.chain }, { on := 7, ground := Ground.guard }], guard := some (7, false) }) (v := ?_) rfl (by kernel_rfl) (by kernel_rfl) (by kernel_rfl) (fun _ _ _ h => h) (Or.inl ⟨by rfl, ?_⟩) hHeld ?_
  rotate_left 1
  · (intro w0 hSw; (try dsimp only at hSw); go_simp; try with_reducible rfl)
  simp only [Act.put, List.setIfInBounds_toArray, List.set_cons_zero, List.set_cons_succ]
  refine wpAnyH_take (i := 12) (oi := { dst := some 84, op := Op.load 24 (Operand.tmp 11), type := 24, pos := "outright.go:67", after := #[{ on := 11, ground := Ground.guard }], guard := some (11, true) }) (v := undef) rfl (by kernel_rfl) (by kernel_rfl) (by kernel_rfl) (fun _ _ _ h => h) (Or.inr ⟨by rfl, rfl⟩) hHeld ?_
  simp only [Act.put, List.setIfInBounds_toArray, List.set_cons_zero, List.set_cons_succ]
  refine wpAnyH_take (i := 14) (oi := { dst := some 86, op := Op.load 26 (Operand.tmp 5), type := 26, pos := "outright.go:67", after := #[{ on := 11, ground := Ground.guard }], guard := some (11, true) }) (v := undef) rfl (by kernel_rfl) (by kernel_rfl) (by kernel_rfl) (fun _ _ _ h => h) (Or.inr ⟨by rfl, rfl⟩) hHeld ?_
  simp only [Act.put, List.setIfInBounds_toArray, List.set_cons_zero, List.set_cons_succ]
  refine wpAnyH_ready (rs := [13]) (by kernel_rfl) (by simp) ?_
  refine AllReadyH.cons (o := { dst := some 85, op := Op.call { callee := Callee.value (Operand.func 7), args := #[Operand.tmp 84], argTypes := #[24] }, type := 26, pos := "outright.go:67", after := #[{ on := 12, ground := Ground.data }, { on := 11, ground := Ground.chain }, { on := 11, ground := Ground.guard }], guard := some (11, true) }) rfl (fun K hK => ?_) AllReadyH.nil
  refine Eq.mpr (if_neg (by exact fun h => Bool.false_ne_true h)) ?_
  refine hK.out _ _ hHeld (fun hHeld2 => ?_)
  clear hK K hHeld2
  simp only [Act.put, List.setIfInBounds_toArray, List.set_cons_zero, List.set_cons_succ]
  refine wpAnyH_take (i := 15) (oi := { dst := some 87, op := Op.binOp BinOp.eql 26 (Operand.tmp 85) (Operand.tmp 86) 26, type := 4, pos := "outright.go:67", after := #[{ on := 13, ground := Ground.data }, { on := 14, ground := Ground.data }, { on := 11, ground := Ground.guard }], guard := some (11, true) }) (v := undef) rfl (by kernel_rfl) (by kernel_rfl) (by kernel_rfl) (fun _ _ _ h => h) (Or.inr ⟨by rfl, rfl⟩) hHeld ?_
  simp only [Act.put, List.setIfInBounds_toArray, List.set_cons_zero, List.set_cons_succ]
  refine wpAnyH_take (i := 16) (oi := { dst := some 88, op := Op.pick (Operand.tmp 83) (Operand.tmp 87) (Operand.const (Value.bool false)), type := 4, pos := "outright.go:67", after := #[{ on := 11, ground := Ground.data }, { on := 15, ground := Ground.data }, { on := 7, ground := Ground.guard }], guard := some (7, false) }) (v := ?_) rfl (by kernel_rfl) (by kernel_rfl) (by kernel_rfl) (fun _ _ _ h => h) (Or.inl ⟨by rfl, ?_⟩) hHeld ?_
  rotate_left 1
  · (intro w0 hSw; (try dsimp only at hSw); go_simp; try with_reducible rfl)
  simp only [Act.put, List.setIfInBounds_toArray, List.set_cons_zero, List.set_cons_succ]
  refine wpAnyH_take (i := 17) (oi := { dst := some 89, op := Op.pick (Operand.tmp 79) (Operand.const (Value.bool true)) (Operand.tmp 88), type := 4, pos := "outright.go:67", after := #[{ on := 7, ground := Ground.data }, { on := 16, ground := Ground.data }], guard := none }) (v := ?_) rfl (by kernel_rfl) (by kernel_rfl) (by kernel_rfl) (fun _ _ _ h => h) (Or.inl ⟨by rfl, ?_⟩) hHeld ?_
  rotate_left 1
  · (intro w0 hSw; (try dsimp only at hSw); go_simp; try with_reducible rfl)
  simp only [Act.put, List.setIfInBounds_toArray, List.set_cons_zero, List.set_cons_succ]
  refine wpAnyH_done (by kernel_rfl) ?_ _
  refine NoPanic.normal ?_
  have s7 := hidden (hHeld.1.sub (M := [(w6.heap.size, Z)]) (by simp))
  clear hHeld K9 K0 s6 e_z qC q00 Z31 hx32 h31
  generalize World.drew (w6.alloc (.cells #[.int .u64 Z.x0, .int .u64 Z.x1, .int .u64 Z.x2, .int .u64 Z.x3, .int .u64 Z.x4] 24)) = wt at *
  have hz7 := (s7.out.st.live (w6.heap.size, Z) (by simp)).lt
  have hc7 := World.block_lt_of_cell? wt ⟨w.heap.size + 1 + 1, 0, none⟩ (cell_of s7.out.rg (ZCH.out 0 (by omega)))
  have E0 := hidden (LW.start (w0 := w) (N := (N : Int)) (C := w.heap.size + 1 + 1) 26 (s7.out.st.live (w6.heap.size, Z) (by simp)) (fun j hj => cell_of s7.out.rg (ZCH.out j hj)) s7.out.st.bel)
  have hw7 := s7.out.st.bel.size
  dsimp only at hc7 hz7
  clear s7 ZCH
  go_wp2_with fail
  go_loopw [14] (fun i w' => ∃ k : Nat, k ≤ 16 ∧ i = .int .i64 k ∧ LW w (N : Int) (w.heap.size + 1 + 1) w6.heap.size wt.heap.size (wt.heap.size + 1) Z k w') (fun i _ => 16 - (intOf i).toNat)
  case atStart => exact ⟨0, by omega, rfl, E0.out⟩
  case round =>
    obtain ⟨k, hk, rfl, hE⟩ := hrel
    clear E0
    by_cases hlt : k < 16
    · have g1 := hE.c k (by omega)
      have g2 := hE.c (16 + k) (by omega)
      have g3 := hE.lo k (by omega)
      have g4 := hE.hi k (by omega)
      have g5 := hE.fl k (by omega)
      have g6 := hE.fh k (by omega)
      have NEXT := hidden (hE.step hlt (by omega) (by omega) (by omega) (by omega))
      clear hE
      generalize byt (N : Int) k = xk at *
      generalize byt (N : Int) (16 + k) = xh at *
      rw [if_neg (by omega)] at g3 g4
      go_wp2_with fail
      refine ⟨⟨k + 1, by omega, by go_num, NEXT.out⟩, by simp [intOf]; omega⟩
    · have hk16 : k = 16 := by omega
      subst hk16
      have g4 := hE.hi 15 (by omega)
      have g6 := hE.fh 15 (by omega)
      rw [if_pos (by omega)] at g4
      simp only [Nat.reduceAdd] at g4
      have k127 := and127 (byt (N : Int) 31) (byt_bd _ _).1 (byt_bd _ _).2
      have T0 := DONE.out _ _ _ _ _ _ hE (by omega) (by omega) (by omega)
      clear hE DONE
      generalize byt (N : Int) 31 % 128 = y31 at *
      generalize byt (N : Int) 31 = x31 at *
      have U0 : UW w w6.heap.size wt.heap.size (wt.heap.size + 1) wr.heap.size Z los his ((wr.setCell ⟨wt.heap.size + 1, 15, none⟩ (.int .u8 y31)).alloc (.cells #[.int .u64 0, .int .u64 0, .int .u64 67108864, .int .u64 0, .int .u64 0] 24)) := by
        have := Blc.new (wr.setCell ⟨wt.heap.size + 1, 15, none⟩ (.int .u8 y31)) sh5 24
        simp only [World.size_setCell, sh5] at this
        exact ⟨T0.keep (bl_alloc _ _), this⟩
      replace U0 := hidden U0
      clear T0
      go_wp2_with fail
      refine wp_region_noPanic ?_
      refine wp_region_held_drew (S := fun w' => UW w w6.heap.size wt.heap.size (wt.heap.size + 1) wr.heap.size Z los his w') (by kernel_rfl) (U0.out.keep ((Below.refl _ _).drew)) (fun hHeld => ?_)
      refine wpAnyH_take (i := 0) (oi := { dst := some 110, op := Op.load 24 (Operand.tmp 11), type := 24, pos := "outright.go:77", after := #[], guard := none }) (v := ?_) rfl (by kernel_rfl) (by kernel_rfl) (by kernel_rfl) (fun _ _ _ h => h) (Or.inl ⟨by rfl, ?_⟩) hHeld ?_
      rotate_left 1
      · (intro w0 hSw; obtain ⟨p0, p1, p2, p3, p4⟩ := hSw.t.z; clear hSw; go_simp; try with_reducible rfl)
      simp only [Act.put, List.setIfInBounds_toArray, List.set_cons_zero, List.set_cons_succ]
      refine wpAnyH_take (i := 1) (oi := { dst := some 111, op := Op.load 26 (Operand.tmp 12), type := 26, pos := "outright.go:77", after := #[], guard := none }) rfl (by kernel_rfl) (by kernel_rfl) (by kernel_rfl) (fun _ _ _ h => h) (yieldsIf_load_mid (by rfl) _ _ rfl _ _ rfl _ _ (fun w0 hw => hw.t.lo) HU.out rfl HIL.out) hHeld ?_
      simp only [Act.put, List.setIfInBounds_toArray, List.set_cons_zero, List.set_cons_succ]
      refine wpAnyH_take (i := 3) (oi := { dst := some 113, op := Op.load 26 (Operand.tmp 13), type := 26, pos := "outright.go:77", after := #[], guard := none }) rfl (by kernel_rfl) (by kernel_rfl) (by kernel_rfl) (fun _ _ _ h => h) (yieldsIf_load_mid (by rfl) _ _ rfl _ _ rfl _ _ (fun w0 hw => hw.t.hi) HU.out rfl HIH.out) hHeld ?_
      simp only [Act.put, List.setIfInBounds_toArray, List.set_cons_zero, List.set_cons_succ]
      refine wpAnyH_take (i := 5) (oi := { dst := some 115, op := Op.load 24 (Operand.tmp 15), type := 24, pos := "outright.go:77", after := #[], guard := none }) (v := ?_) rfl (by kernel_rfl) (by kernel_rfl) (by kernel_rfl) (fun _ _ _ h => h) (Or.inl ⟨by rfl, ?_⟩) hHeld ?_
      rotate_left 1
      · (intro w0 hSw; obtain ⟨p0, p1, p2, p3, p4⟩ := hSw.s; simp only [sh5] at p0 p1 p2 p3 p4; clear hSw; go_simp; try with_reducible rfl)
      simp only [Act.put, List.setIfInBounds_toArray, List.set_cons_zero, List.set_cons_succ]
      refine wpAnyH_ready (rs := [2]) (by kernel_rfl) (by simp) ?_
      refine AllReadyH.cons (o := { dst := some 112, op := Op.call { callee := Callee.value (Operand.func 10), args := #[Operand.tmp 111], argTypes := #[26] }, type := 24, pos := "outright.go:77", after := #[{ on := 1, ground := Ground.data }], guard := none }) rfl (fun K hK => ?_) AllReadyH.nil
      go_simp
      refine (r_lo.out _).mono ?_
      rintro e wn2 ⟨rfl, hb⟩
      have hk := hidden (hHeld.keep hb)
      go_wp2_with fail
      refine hK.out _ _ hk.out (fun hHeld2 => ?_)
      clear hK K hHeld hb
      have hHeld := hHeld2
      clear hHeld2
      clear hk
      refine wpAnyH_ready (rs := [4]) (by kernel_rfl) (by simp) ?_
      refine AllReadyH.cons (o := { dst := some 114, op := Op.call { callee := Callee.value (Operand.func 10), args := #[Operand.tmp 113], argTypes := #[26] }, type := 24, pos := "outright.go:77", after := #[{ on := 3, ground := Ground.data }, { on := 2, ground := Ground.chain }], guard := none }) rfl (fun K hK => ?_) AllReadyH.nil
      go_simp
      refine (r_hi.out _).mono ?_
      rintro e wn2 ⟨rfl, hb⟩
      have hk := hidden (hHeld.keep hb)
      go_wp2_with fail
      refine hK.out _ _ hk.out (fun hHeld2 => ?_)
      clear hK K hHeld hb
      have hHeld := hHeld2
      clear hHeld2
      clear hk
      refine wpAnyH_ready (rs := [6]) (by kernel_rfl) (by simp) ?_
      refine AllReadyH.cons (o := { dst := some 116, op := Op.call { callee := Callee.value (Operand.func 12), args := #[Operand.tmp 114, Operand.tmp 115], argTypes := #[24, 24] }, type := 24, pos := "outright.go:77", after := #[{ on := 4, ground := Ground.data }, { on := 5, ground := Ground.data }, { on := 4, ground := Ground.chain }], guard := none }) rfl (fun K hK => ?_) AllReadyH.nil
      go_simp
      refine (m_h.out _).mono ?_
      rintro e wn2 ⟨rfl, hb⟩
      have hk := hidden (hHeld.keep hb)
      go_wp2_with fail
      refine hK.out _ _ hk.out (fun hHeld2 => ?_)
      clear hK K hHeld hb
      have hHeld := hHeld2
      clear hHeld2
      clear hk
      refine wpAnyH_ready (rs := [7]) (by kernel_rfl) (by simp) ?_
      refine AllReadyH.cons (o := { dst := some 117, op := Op.call { callee := Callee.value (Operand.func 11), args := #[Operand.tmp 112, Operand.tmp 116], argTypes := #[24, 24] }, type := 24, pos := "outright.go:77", after := #[{ on := 2, ground := Ground.data }, { on := 6, ground := Ground.data }, { on := 6, ground := Ground.chain }], guard := none }) rfl (fun K hK => ?_) AllReadyH.nil
      go_simp
      refine (a_d.out _).mono ?_
      rintro e wn2 ⟨rfl, hb⟩
      have hk := hidden (hHeld.keep hb)
      go_wp2_with fail
      refine hK.out _ _ hk.out (fun hHeld2 => ?_)
      clear hK K hHeld hb
      have hHeld := hHeld2
      clear hHeld2
      refine wpAnyH_take (i := 8) (oi := { dst := some 118, op := Op.binOp BinOp.eql 24 (Operand.tmp 110) (Operand.tmp 117) 24, type := 4, pos := "outright.go:77", after := #[{ on := 0, ground := Ground.data }, { on := 7, ground := Ground.data }], guard := none }) (v := ?_) rfl (by kernel_rfl) (by kernel_rfl) (by kernel_rfl) (fun _ _ _ h => h) (Or.inl ⟨by rfl, ?_⟩) hHeld ?_
      rotate_left 1
      · (intro w0 hSw; clear hSw; go_simp; try with_reducible rfl)
      simp only [Act.put, List.setIfInBounds_toArray, List.set_cons_zero, List.set_cons_succ]
      refine wpAnyH_take (i := 9) (oi := { dst := some 6, op := Op.assign (Operand.tmp 118), type := 4, pos := "outright.go:77", after := #[{ on := 8, ground := Ground.data }, { on := 7, ground := Ground.chain }, { on := 0, ground := Ground.phase }, { on := 1, ground := Ground.phase }, { on := 2, ground := Ground.phase }, { on := 3, ground := Ground.phase }, { on := 4, ground := Ground.phase }, { on := 5, ground := Ground.phase }, { on := 6, ground := Ground.phase }, { on := 7, ground := Ground.phase }, { on := 8, ground := Ground.phase }], guard := none }) (v := ?_) rfl (by kernel_rfl) (by kernel_rfl) (by kernel_rfl) (fun _ _ _ h => h) (Or.inl ⟨by rfl, ?_⟩) hHeld ?_
      rotate_left 1
      · (intro w0 hSw; clear hSw; go_simp; try with_reducible rfl)
      simp only [Act.put, List.setIfInBounds_toArray, List.set_cons_zero, List.set_cons_succ]
      refine wpAnyH_done (by kernel_rfl) ?_ _
      refine NoPanic.normal ?_
      go_wp2_with fail
      go_ret
      exact ⟨rfl, hk.out.t.bel⟩

theorem codec_any (a b : E5) (zs : List Int) (w : World) (ha : a.ok) (hb : b.ok) (lz : zs.length = 32) (hz : ∀ z ∈ zs, 0 ≤ z ∧ z ≤ 255) :
    Calls Try.prog 3 #[a.v, b.v, bv zs] w fun e w' => e = .returned (.bool true) ∧ Below w.heap.size w w' := by
  cases hB : decide (bytes (((num zs % 57896044618658097711785492504343953926634992332820282019728792003956564819968 : Nat) : Int) % Fm.P) = zs) with
  | true => exact cod_ok a b zs w ha hb lz hz hB
  | false =>
    by_cases h : byt ((num zs : Nat) : Int) 31 < 128
    · exact cod_lo a b zs w ha hb lz hz hB h
    · exact cod_hi a b zs w ha hb lz hz hB (by omega)
end Go.Proofs.Ytalalgppdhpfiab
