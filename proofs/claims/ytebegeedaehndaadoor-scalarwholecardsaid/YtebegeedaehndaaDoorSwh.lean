import Derived.Test.YtebegeedaehndaaDoorSli
import Derived.Test.YtebegeedaehndaaDoorSwi
namespace Go.Proofs.YtebegeedaehndaaDoor
open Go.RowKit

/-- while the halves are written -/
structure HW (w0 : World) (xs : List Int) (Lb Hb k : Nat) (w : World) : Prop where
  c : ∀ j, j < 64 → w.cell? ⟨w0.heap.size, j, none⟩ = some (.int .u8 (xs.getD j 0))
  lo : ∀ j, j < 32 → w.cell? ⟨Lb, j, none⟩ = some (.int .u8 (if j < k then xs.getD j 0 else 0))
  hi : ∀ j, j < 32 → w.cell? ⟨Hb, j, none⟩ = some (.int .u8 (if j < k then xs.getD (32 + j) 0 else 0))
  fl : ∀ j, j < 32 → w.frozen? ⟨Lb, j, none⟩ = false
  fh : ∀ j, j < 32 → w.frozen? ⟨Hb, j, none⟩ = false
  bel : Below w0.heap.size w0 w
theorem zeros32 (w : World) (t : TypeId) : (∀ j, j < 32 → (w.alloc (.cells #[.int .u8 0, .int .u8 0, .int .u8 0, .int .u8 0, .int .u8 0, .int .u8 0, .int .u8 0, .int .u8 0, .int .u8 0, .int .u8 0, .int .u8 0, .int .u8 0, .int .u8 0, .int .u8 0, .int .u8 0, .int .u8 0, .int .u8 0, .int .u8 0, .int .u8 0, .int .u8 0, .int .u8 0, .int .u8 0, .int .u8 0, .int .u8 0, .int .u8 0, .int .u8 0, .int .u8 0, .int .u8 0, .int .u8 0, .int .u8 0, .int .u8 0, .int .u8 0] t)).cell? ⟨w.heap.size, j, none⟩ = some (.int .u8 0)) ∧ ∀ j, j < 32 → (w.alloc (.cells #[.int .u8 0, .int .u8 0, .int .u8 0, .int .u8 0, .int .u8 0, .int .u8 0, .int .u8 0, .int .u8 0, .int .u8 0, .int .u8 0, .int .u8 0, .int .u8 0, .int .u8 0, .int .u8 0, .int .u8 0, .int .u8 0, .int .u8 0, .int .u8 0, .int .u8 0, .int .u8 0, .int .u8 0, .int .u8 0, .int .u8 0, .int .u8 0, .int .u8 0, .int .u8 0, .int .u8 0, .int .u8 0, .int .u8 0, .int .u8 0, .int .u8 0, .int .u8 0] t)).frozen? ⟨w.heap.size, j, none⟩ = false := by
  refine ⟨fun j hj => ?_, fun j hj => by go_simp⟩
  rw [World.cell?_alloc_mark]
  have eZ : (#[.int .u8 0, .int .u8 0, .int .u8 0, .int .u8 0, .int .u8 0, .int .u8 0, .int .u8 0, .int .u8 0, .int .u8 0, .int .u8 0, .int .u8 0, .int .u8 0, .int .u8 0, .int .u8 0, .int .u8 0, .int .u8 0, .int .u8 0, .int .u8 0, .int .u8 0, .int .u8 0, .int .u8 0, .int .u8 0, .int .u8 0, .int .u8 0, .int .u8 0, .int .u8 0, .int .u8 0, .int .u8 0, .int .u8 0, .int .u8 0, .int .u8 0, .int .u8 0] : Array Value) = Array.replicate 32 (.int .u8 0) := rfl
  rw [eZ]
  simp [hj]
theorem HW.start {w0 w : World} {xs : List Int} (t : TypeId) (hc : ∀ j, j < 64 → w.cell? ⟨w0.heap.size, j, none⟩ = some (.int .u8 (xs.getD j 0))) (hb : Below w0.heap.size w0 w) :
    HW w0 xs w.heap.size (w.heap.size + 1) 0 ((w.alloc (.cells #[.int .u8 0, .int .u8 0, .int .u8 0, .int .u8 0, .int .u8 0, .int .u8 0, .int .u8 0, .int .u8 0, .int .u8 0, .int .u8 0, .int .u8 0, .int .u8 0, .int .u8 0, .int .u8 0, .int .u8 0, .int .u8 0, .int .u8 0, .int .u8 0, .int .u8 0, .int .u8 0, .int .u8 0, .int .u8 0, .int .u8 0, .int .u8 0, .int .u8 0, .int .u8 0, .int .u8 0, .int .u8 0, .int .u8 0, .int .u8 0, .int .u8 0, .int .u8 0] t)).alloc (.cells #[.int .u8 0, .int .u8 0, .int .u8 0, .int .u8 0, .int .u8 0, .int .u8 0, .int .u8 0, .int .u8 0, .int .u8 0, .int .u8 0, .int .u8 0, .int .u8 0, .int .u8 0, .int .u8 0, .int .u8 0, .int .u8 0, .int .u8 0, .int .u8 0, .int .u8 0, .int .u8 0, .int .u8 0, .int .u8 0, .int .u8 0, .int .u8 0, .int .u8 0, .int .u8 0, .int .u8 0, .int .u8 0, .int .u8 0, .int .u8 0, .int .u8 0, .int .u8 0] t)) := by
  obtain ⟨c1, f1⟩ := zeros32 w t
  obtain ⟨c2, f2⟩ := zeros32 (w.alloc (.cells #[.int .u8 0, .int .u8 0, .int .u8 0, .int .u8 0, .int .u8 0, .int .u8 0, .int .u8 0, .int .u8 0, .int .u8 0, .int .u8 0, .int .u8 0, .int .u8 0, .int .u8 0, .int .u8 0, .int .u8 0, .int .u8 0, .int .u8 0, .int .u8 0, .int .u8 0, .int .u8 0, .int .u8 0, .int .u8 0, .int .u8 0, .int .u8 0, .int .u8 0, .int .u8 0, .int .u8 0, .int .u8 0, .int .u8 0, .int .u8 0, .int .u8 0, .int .u8 0] t)) t
  have hl := World.block_lt_of_cell? _ ⟨w.heap.size, 0, none⟩ (c1 0 (by omega))
  rw [World.size_alloc] at c2 f2
  refine ⟨fun j hj => cell_keep (hc j hj) (bl_alloc2 _ _ _), fun j hj => ?_, fun j hj => ?_, fun j hj => ?_, f2, bl_trans hb (bl_alloc2 _ _ _)⟩
  · rw [if_neg (by omega)]; exact cell_keep (c1 j hj) (bl_alloc _ _)
  · rw [if_neg (by omega)]; exact c2 j hj
  · rw [(bl_alloc _ _).frozen (p := ⟨w.heap.size, j, none⟩) hl]; exact f1 j hj
theorem set_if {w : World} {b k : Nat} {f : Nat → Int} (h : ∀ j, j < 32 → w.cell? ⟨b, j, none⟩ = some (.int .u8 (if j < k then f j else 0))) (hk : k < 32) :
    ∀ j, j < 32 → (w.setCell ⟨b, k, none⟩ (.int .u8 (f k))).cell? ⟨b, j, none⟩ = some (.int .u8 (if j < k + 1 then f j else 0)) := fun j hj => by
  by_cases hjk : j = k
  · subst hjk
    have hb := h j hj
    rw [if_pos (by omega)]
    go_simp
  · rw [World.cell?_setCell_other w _ _ _ (by intro e; exact hjk (congrArg Addr.off e).symm), h j hj]
    by_cases hlt : j < k
    · rw [if_pos hlt, if_pos (by omega)]
    · rw [if_neg hlt, if_neg (by omega)]
theorem HW.step {w0 : World} {xs : List Int} {Lb Hb k : Nat} {w : World} (h : HW w0 xs Lb Hb k w) (hk : k < 32) (h1 : w0.heap.size < Lb) (h3 : Lb < Hb) :
    HW w0 xs Lb Hb (k + 1) ((w.setCell ⟨Lb, k, none⟩ (.int .u8 (xs.getD k 0))).setCell ⟨Hb, k, none⟩ (.int .u8 (xs.getD (32 + k) 0))) := by
  refine ⟨fun j hj => ?_, fun j hj => ?_, ?_, fun j hj => ?_, fun j hj => ?_, (h.bel.setCell (by show _ ≤ Lb; omega) _).setCell (by show _ ≤ Hb; omega) _⟩
  · rw [World.cell?_setCell_far _ _ _ _ (by show Hb ≠ w0.heap.size; omega), World.cell?_setCell_far _ _ _ _ (by show Lb ≠ w0.heap.size; omega)]; exact h.c j hj
  · rw [World.cell?_setCell_far _ _ _ _ (by show Hb ≠ Lb; omega)]; exact set_if (f := fun j => xs.getD j 0) h.lo hk j hj
  · refine set_if (f := fun j => xs.getD (32 + j) 0) (fun j hj => ?_) hk
    rw [World.cell?_setCell_far _ _ _ _ (by show Lb ≠ Hb; omega)]; exact h.hi j hj
  · have := h.fl j hj; go_simp
  · have := h.fh j hj; go_simp

theorem map_get {zs : List Int} {j : Nat} {v : Value} (h : (zs.map fun z => Value.int .u8 z)[j]? = some v) : j < zs.length ∧ v = .int .u8 (zs.getD j 0) := by
  rw [List.getElem?_map] at h
  cases hj : zs[j]? with
  | none => rw [hj] at h; cases h
  | some z =>
    rw [hj] at h
    refine ⟨(List.getElem?_eq_some_iff.1 hj).1, ?_⟩
    rw [List.getD_eq_getElem?_getD, hj]
    simpa using h.symm

/-- the halves are there, and what else -/
structure XW (w0 : World) (L : List (Nat × E4)) (Lb Hb : Nat) (cs los his : List Value) (w : World) : Prop where
  st : St w0 L [] w
  r0 : w.rangeAt w0.heap.size 0 cs
  r1 : w.rangeAt Lb 0 los
  r2 : w.rangeAt Hb 0 his
theorem XW.keep {w0 : World} {L : List (Nat × E4)} {Lb Hb : Nat} {cs los his : List Value} {w1 w2 : World} (h : XW w0 L Lb Hb cs los his w1) (hb : Below w1.heap.size w1 w2) : XW w0 L Lb Hb cs los his w2 := ⟨h.st.keep hb, range_keep h.r0 hb, range_keep h.r1 hb, range_keep h.r2 hb⟩
theorem XW.drew {w0 : World} {L : List (Nat × E4)} {Lb Hb : Nat} {cs los his : List Value} {w1 : World} (h : XW w0 L Lb Hb cs los his w1) : XW w0 L Lb Hb cs los his w1.drew := h.keep ((Below.refl _ _).drew)
theorem XW.new {w0 : World} {L : List (Nat × E4)} {Lb Hb : Nat} {cs los his : List Value} {w1 : World} (h : XW w0 L Lb Hb cs los his w1) (r : E4) (t : TypeId) :
    XW w0 ((w1.heap.size, r) :: L) Lb Hb cs los his (w1.alloc (.cells #[.int .u64 r.x0, .int .u64 r.x1, .int .u64 r.x2, .int .u64 r.x3] t)) := ⟨h.st.new r t, range_keep h.r0 (bl_alloc _ _), range_keep h.r1 (bl_alloc _ _), range_keep h.r2 (bl_alloc _ _)⟩
theorem HW.done {w0 : World} {zs ys : List Int} {Lb Hb : Nat} {w : World} (h : HW w0 (zs ++ ys) Lb Hb 32 w) (lz : zs.length = 32) (ly : ys.length = 32) :
    XW w0 [] Lb Hb ((zs ++ ys).map fun z => Value.int .u8 z) (zs.map fun z => Value.int .u8 z) (ys.map fun z => Value.int .u8 z) w := by
  refine ⟨⟨fun p hp => absurd hp (by simp), fun b hb => absurd hb (by simp), h.bel⟩, fun j v hv => ?_, fun j v hv => ?_, fun j v hv => ?_⟩
  · obtain ⟨hj, rfl⟩ := map_get hv
    rw [Nat.zero_add]; exact h.c j (by simpa [lz, ly] using hj)
  · obtain ⟨hj, rfl⟩ := map_get hv
    rw [Nat.zero_add, h.lo j (by omega), if_pos (by omega), List.getD_eq_getElem?_getD, List.getD_eq_getElem?_getD, List.getElem?_append_left hj]
  · obtain ⟨hj, rfl⟩ := map_get hv
    rw [Nat.zero_add, h.hi j (by omega), if_pos (by omega), List.getD_eq_getElem?_getD, List.getD_eq_getElem?_getD, List.getElem?_append_right (by omega), lz, Nat.add_sub_cancel_left]

set_option maxRecDepth 100000 in
set_option maxHeartbeats 16000000 in
theorem whole_any (xs : List Int) (w : World) (hT : Tb w) (lx : xs.length = 64) (hx : ∀ z ∈ xs, 0 ≤ z ∧ z ≤ 255) : Calls Tryd.prog 6 #[bv xs] w fun e w' => e = .returned (.bool true) ∧ Below w.heap.size w w' := by
  obtain ⟨zs, ys, rfl, lz, ly⟩ : ∃ zs ys, xs = zs ++ ys ∧ zs.length = 32 ∧ ys.length = 32 := ⟨xs.take 32, xs.drop 32, (List.take_append_drop 32 xs).symm, by simp [lx], by simp [lx]⟩
  have hz : ∀ z ∈ zs, 0 ≤ z ∧ z ≤ 255 := fun z h => hx z (by simp [h])
  have hy : ∀ z ∈ ys, 0 ≤ z ∧ z ≤ 255 := fun z h => hx z (by simp [h])
  obtain ⟨WI, hWI⟩ : ∃ t : E4, t = lst (num zs + num ys * R) := ⟨_, rfl⟩
  obtain ⟨RL, hRL⟩ : ∃ t : E4, t = lst (num zs) := ⟨_, rfl⟩
  obtain ⟨RH, hRH⟩ : ∃ t : E4, t = lst (num ys) := ⟨_, rfl⟩
  obtain ⟨PT, hPT⟩ : ∃ t : E4, t = lst (2 ^ 255) := ⟨_, rfl⟩
  obtain ⟨TT, hTT⟩ : ∃ t : E4, t = lst R := ⟨_, rfl⟩
  obtain ⟨MT, hMT⟩ : ∃ t : E4, t = lst (num ys * R) := ⟨_, rfl⟩
  have RLok : RL.ok := by rw [hRL]; exact lst_ok _
  have RHok : RH.ok := by rw [hRH]; exact lst_ok _
  have PTok : PT.ok := by rw [hPT]; exact lst_ok _
  have TTok : TT.ok := by rw [hTT]; exact lst_ok _
  have MTok : MT.ok := by rw [hMT]; exact lst_ok _
  have lv := hidden alive_any
  have i2 := hidden (fun w => fix (Int_any 2 w (by unfold Sm.Wd; omega)) lst2)
  have p2 : Hid (∀ w, Tb w → Calls Tryd.prog 10 #[k2.v, .int .u64 255] w fun e w' => e = .returned PT.v ∧ Below w.heap.size w w') := hidden (fun w T => fix (Power_any k2 255 w T k2ok (by decide)) (by rw [hPT]; rfl))
  have wi := hidden (fun w T => fix (Wide_any zs ys w T lz hz ly hy) (by rw [hWI] : _ = WI))
  have rl := hidden (fun w T => fix (Reduce_any zs w T lz hz) (by rw [hRL] : _ = RL))
  have rh := hidden (fun w T => fix (Reduce_any ys w T ly hy) (by rw [hRH] : _ = RH))
  have at2 := hidden (fun w T => fix (Add_any PT PT w T PTok PTok) (by rw [hPT, hTT, lst_add, lst_add']; rfl : _ = TT))
  have mt := hidden (fun w T => fix (Mul_any RH TT w T RHok TTok) (by rw [hRH, hTT, hMT, lst_mul, lst_mul'] : _ = MT))
  have al := hidden (fun w T => fix (Add_any RL MT w T RLok MTok) (by rw [hRL, hMT, hWI, lst_add, lst_add'] : _ = WI))
  have qx := fun (x : E4) w => (eq4 x x w).trans (by rw [E4.same_self] : _ = Result.ok true w)
  have hi0 : (Tryd.prog.info? 42).map (·.size) = some ((zs ++ ys).map fun z => Value.int .u8 z).length := by rw [List.length_map, lx]; kernel_rfl
  have hi1 : (Tryd.prog.info? 34).map (·.size) = some (zs.map fun z => Value.int .u8 z).length := by rw [List.length_map, lz]; kernel_rfl
  have hi2 : (Tryd.prog.info? 34).map (·.size) = some (ys.map fun z => Value.int .u8 z).length := by rw [List.length_map, ly]; kernel_rfl
  have hu0 : Tryd.prog.underlying 42 = some (.array 64 5) := by kernel_rfl
  have hu1 : Tryd.prog.underlying 34 = some (.array 32 5) := by kernel_rfl
  have HH := hidden (And.intro hi0 (And.intro hi1 (And.intro hi2 (And.intro hu0 hu1))))
  have HT := hidden hT
  have hbd : ∀ j, 0 ≤ (zs ++ ys).getD j 0 ∧ (zs ++ ys).getD j 0 ≤ 255 := fun j => by
    rw [List.getD_eq_getElem?_getD]
    cases h : (zs ++ ys)[j]? with
    | none => simp
    | some z => exact hx z (List.mem_of_getElem? h)
  have HBD := hidden hbd
  have hc0 : ∀ j, j < 64 → (w.alloc (.cells ((zs ++ ys).map fun z => Value.int .u8 z).toArray 42)).cell? ⟨w.heap.size, j, none⟩ = some (.int .u8 ((zs ++ ys).getD j 0)) := fun j hj => by
    rw [World.cell?_alloc_mark, List.getD_eq_getElem?_getD]
    have hj2 : j < (zs ++ ys).length := by omega
    simp only [List.getElem?_toArray, List.getElem?_map]
    rw [List.getElem?_eq_getElem hj2]
    rfl
  have HC0 := hidden hc0
  have DONE := hidden (fun Lb Hb w' (h : HW w (zs ++ ys) Lb Hb 32 w') => h.done lz ly)
  clear hT hx hz hy hWI hRL hRH hPT hTT hMT RLok RHok PTok TTok MTok hi0 hi1 hi2 hu0 hu1 hbd hc0 lx lz ly
  simp only [E4.v, bv, k2] at i2 p2 wi rl rh at2 mt al qx ⊢
  generalize hcs : ((zs ++ ys).map fun z => Value.int .u8 z) = cs at *
  generalize hls : (zs.map fun z => Value.int .u8 z) = los at *
  generalize hhs : (ys.map fun z => Value.int .u8 z) = his at *
  clear hcs hls hhs
  generalize zs ++ ys = xs at *
  go_enter Tryd.func6, Tryd.ntmps6
  go_wp2_with fail
  refine (lv.out _ (HT.out.keep (bl_alloc _ _))).mono ?_
  rintro e w1 ⟨rfl, hb1⟩
  have c1 : ∀ j, j < 64 → w1.cell? ⟨w.heap.size, j, none⟩ = some (.int .u8 (xs.getD j 0)) := fun j hj => cell_keep (HC0.out j hj) hb1
  have hlt : w.heap.size < w1.heap.size := World.block_lt_of_cell? w1 ⟨w.heap.size, 0, none⟩ (c1 0 (by omega))
  have E0 := hidden (HW.start (w0 := w) (w := w1) (xs := xs) 34 c1 (bl_trans (bl_alloc _ _) hb1))
  clear c1 hb1 HC0 lv
  go_wp2_with fail
  go_loopw [5] (fun i w' => ∃ k : Nat, k ≤ 32 ∧ i = .int .i64 k ∧ HW w xs w1.heap.size (w1.heap.size + 1) k w') (fun i _ => 32 - (intOf i).toNat)
  case atStart => exact ⟨0, by omega, rfl, E0.out⟩
  case round =>
    obtain ⟨k, hk, rfl, hE⟩ := hrel
    clear E0
    by_cases hk32 : k < 32
    · have a0 := hE.c k (by omega)
      have a1 := hE.c (32 + k) (by omega)
      have b0 := hE.lo k hk32
      have b1 := hE.hi k hk32
      have f0 := hE.fl k hk32
      have f1 := hE.fh k hk32
      rw [if_neg (by omega)] at b0 b1
      have NX := hidden (hE.step hk32 hlt (by omega))
      have x0 := HBD.out k
      have x1 := HBD.out (32 + k)
      have kk0 : (0 : Int) ≤ (k : Int) := by omega
      have kk1 : (k : Int) < 32 := by omega
      clear hE
      generalize xs.getD k 0 = X at *
      generalize xs.getD (32 + k) 0 = Y at *
      obtain ⟨j, hj⟩ : ∃ j, 32 + k = j := ⟨_, rfl⟩
      rw [hj] at a1
      have e32 : (32 : Int) + (k : Int) = (j : Int) := by omega
      have ew : IntKind.i64.wrap ((32 : Int) + (k : Int)) = (j : Int) := (IntWalk.i64_in _ (by omega)).trans e32
      have j0 : (0 : Int) ≤ (j : Int) := by omega
      have j1 : (j : Int) < 64 := by omega
      clear hj
      go_wp2_with fail
      go_roundw
      case rel => exact ⟨k + 1, by omega, by go_num, NX.out⟩
      case measure => simp [intOf]; omega
    · have hkk : k = 32 := by omega
      subst hkk
      have S1 := hidden (DONE.out _ _ _ hE)
      clear hE DONE
      go_wp2_with fail
      refine (i2.out _).mono ?_
      rintro e w2 ⟨rfl, hb2⟩
      have S2 := hidden (S1.out.keep hb2)
      clear S1
      go_wp2_with fail
      refine (p2.out _ (S2.out.st.tb HT.out)).mono ?_
      rintro e w3 ⟨rfl, hb3⟩
      have S3 := hidden ((S2.out.keep hb3).new PT 25)
      clear S2
      go_upto_region 11 with fail

      have KS : Hid (∀ w' : World, XW w [(w3.heap.size, PT)] w1.heap.size (w1.heap.size + 1) cs los his w' → (fun w' => XW w [(w3.heap.size, PT)] w1.heap.size (w1.heap.size + 1) cs los his w' ∧ w'.cell? ⟨w3.heap.size, 0, none⟩ = some (.int .u64 PT.x0) ∧ w'.cell? ⟨w3.heap.size, 1, none⟩ = some (.int .u64 PT.x1) ∧ w'.cell? ⟨w3.heap.size, 2, none⟩ = some (.int .u64 PT.x2) ∧ w'.cell? ⟨w3.heap.size, 3, none⟩ = some (.int .u64 PT.x3) ∧ w'.rangeAt w.heap.size 0 cs ∧ w'.rangeAt w1.heap.size 0 los ∧ w'.rangeAt (w1.heap.size + 1) 0 his) w') := hidden (fun w' h => ⟨h, (h.st.live (w3.heap.size, PT) (by simp)).c0, (h.st.live (w3.heap.size, PT) (by simp)).c1, (h.st.live (w3.heap.size, PT) (by simp)).c2, (h.st.live (w3.heap.size, PT) (by simp)).c3, h.r0, h.r1, h.r2⟩)
      obtain ⟨hi0, hi1, hi2, hu0, hu1⟩ := HH.out
      have K0 : Hid ((fun w' => XW w [(w3.heap.size, PT)] w1.heap.size (w1.heap.size + 1) cs los his w' ∧ w'.cell? ⟨w3.heap.size, 0, none⟩ = some (.int .u64 PT.x0) ∧ w'.cell? ⟨w3.heap.size, 1, none⟩ = some (.int .u64 PT.x1) ∧ w'.cell? ⟨w3.heap.size, 2, none⟩ = some (.int .u64 PT.x2) ∧ w'.cell? ⟨w3.heap.size, 3, none⟩ = some (.int .u64 PT.x3) ∧ w'.rangeAt w.heap.size 0 cs ∧ w'.rangeAt w1.heap.size 0 los ∧ w'.rangeAt (w1.heap.size + 1) 0 his) _) := hidden (KS.out _ S3.out.drew)
      refine wp_region_noPanic ?_
      refine wp_region_held_drew (S := fun w' => XW w [(w3.heap.size, PT)] w1.heap.size (w1.heap.size + 1) cs los his w' ∧ w'.cell? ⟨w3.heap.size, 0, none⟩ = some (.int .u64 PT.x0) ∧ w'.cell? ⟨w3.heap.size, 1, none⟩ = some (.int .u64 PT.x1) ∧ w'.cell? ⟨w3.heap.size, 2, none⟩ = some (.int .u64 PT.x2) ∧ w'.cell? ⟨w3.heap.size, 3, none⟩ = some (.int .u64 PT.x3) ∧ w'.rangeAt w.heap.size 0 cs ∧ w'.rangeAt w1.heap.size 0 los ∧ w'.rangeAt (w1.heap.size + 1) 0 his) (by kernel_rfl) K0.out (fun hHeld => ?_)
      refine wpAnyH_take (i := 0) (oi := { dst := some 26, op := Op.load 42 (Operand.tmp 1), type := 42, pos := "outright.go:67", after := #[], guard := none }) rfl (by kernel_rfl) (by kernel_rfl) (by kernel_rfl) (fun _ _ _ h => h) (yieldsIf_load_mid (by rfl) _ _ rfl _ _ rfl _ _ (fun w0 hw => hw.1.r0) hu0 rfl hi0) hHeld ?_
      simp only [Act.put, List.setIfInBounds_toArray, List.set_cons_zero, List.set_cons_succ]
      refine wpAnyH_take (i := 2) (oi := { dst := some 28, op := Op.load 34 (Operand.tmp 3), type := 34, pos := "outright.go:67", after := #[], guard := none }) rfl (by kernel_rfl) (by kernel_rfl) (by kernel_rfl) (fun _ _ _ h => h) (yieldsIf_load_mid (by rfl) _ _ rfl _ _ rfl _ _ (fun w0 hw => hw.1.r1) hu1 rfl hi1) hHeld ?_
      simp only [Act.put, List.setIfInBounds_toArray, List.set_cons_zero, List.set_cons_succ]
      refine wpAnyH_take (i := 4) (oi := { dst := some 30, op := Op.load 34 (Operand.tmp 4), type := 34, pos := "outright.go:67", after := #[], guard := none }) rfl (by kernel_rfl) (by kernel_rfl) (by kernel_rfl) (fun _ _ _ h => h) (yieldsIf_load_mid (by rfl) _ _ rfl _ _ rfl _ _ (fun w0 hw => hw.1.r2) hu1 rfl hi2) hHeld ?_
      simp only [Act.put, List.setIfInBounds_toArray, List.set_cons_zero, List.set_cons_succ]
      refine wpAnyH_take (i := 6) (oi := { dst := some 32, op := Op.load 25 (Operand.tmp 6), type := 25, pos := "outright.go:67", after := #[], guard := none }) (v := ?_) rfl (by kernel_rfl) (by kernel_rfl) (by kernel_rfl) (fun _ _ _ h => h) (Or.inl ⟨by rfl, ?_⟩) hHeld ?_
      rotate_left 1
      · (intro w0 hSw; (try dsimp only at hSw); go_simp; try with_reducible rfl)
      simp only [Act.put, List.setIfInBounds_toArray, List.set_cons_zero, List.set_cons_succ]
      refine wpAnyH_take (i := 7) (oi := { dst := some 33, op := Op.load 25 (Operand.tmp 6), type := 25, pos := "outright.go:67", after := #[], guard := none }) (v := ?_) rfl (by kernel_rfl) (by kernel_rfl) (by kernel_rfl) (fun _ _ _ h => h) (Or.inl ⟨by rfl, ?_⟩) hHeld ?_
      rotate_left 1
      · (intro w0 hSw; (try dsimp only at hSw); go_simp; try with_reducible rfl)
      simp only [Act.put, List.setIfInBounds_toArray, List.set_cons_zero, List.set_cons_succ]
      refine wpAnyH_ready (rs := [1]) (by kernel_rfl) (by simp) ?_
      refine AllReadyH.cons (o := { dst := some 27, op := Op.call { callee := Callee.value (Operand.func 24), args := #[Operand.tmp 26], argTypes := #[42] }, type := 25, pos := "outright.go:67", after := #[{ on := 0, ground := Ground.data }], guard := none }) rfl (fun K hK => ?_) AllReadyH.nil
      go_simp
      refine (wi.out _ (hHeld.1.st.tb HT.out)).mono ?_
      rintro e wn ⟨rfl, hb⟩
      have hk := hidden (KS.out _ (hHeld.1.keep hb))
      go_wp2_with fail
      refine hK.out _ _ hk.out (fun hHeld2 => ?_)
      clear hK K hHeld
      have hHeld := hHeld2
      clear hHeld2
      refine wpAnyH_ready (rs := [3]) (by kernel_rfl) (by simp) ?_
      refine AllReadyH.cons (o := { dst := some 29, op := Op.call { callee := Callee.value (Operand.func 22), args := #[Operand.tmp 28], argTypes := #[34] }, type := 25, pos := "outright.go:67", after := #[{ on := 2, ground := Ground.data }, { on := 1, ground := Ground.chain }], guard := none }) rfl (fun K hK => ?_) AllReadyH.nil
      go_simp
      refine (rl.out _ (hHeld.1.st.tb HT.out)).mono ?_
      rintro e wn ⟨rfl, hb⟩
      have hk := hidden (KS.out _ (hHeld.1.keep hb))
      go_wp2_with fail
      refine hK.out _ _ hk.out (fun hHeld2 => ?_)
      clear hK K hHeld
      have hHeld := hHeld2
      clear hHeld2
      refine wpAnyH_ready (rs := [5]) (by kernel_rfl) (by simp) ?_
      refine AllReadyH.cons (o := { dst := some 31, op := Op.call { callee := Callee.value (Operand.func 22), args := #[Operand.tmp 30], argTypes := #[34] }, type := 25, pos := "outright.go:67", after := #[{ on := 4, ground := Ground.data }, { on := 3, ground := Ground.chain }], guard := none }) rfl (fun K hK => ?_) AllReadyH.nil
      go_simp
      refine (rh.out _ (hHeld.1.st.tb HT.out)).mono ?_
      rintro e wn ⟨rfl, hb⟩
      have hk := hidden (KS.out _ (hHeld.1.keep hb))
      go_wp2_with fail
      refine hK.out _ _ hk.out (fun hHeld2 => ?_)
      clear hK K hHeld
      have hHeld := hHeld2
      clear hHeld2
      refine wpAnyH_ready (rs := [8]) (by kernel_rfl) (by simp) ?_
      refine AllReadyH.cons (o := { dst := some 34, op := Op.call { callee := Callee.value (Operand.func 15), args := #[Operand.tmp 32, Operand.tmp 33], argTypes := #[25, 25] }, type := 25, pos := "outright.go:67", after := #[{ on := 6, ground := Ground.data }, { on := 7, ground := Ground.data }, { on := 5, ground := Ground.chain }], guard := none }) rfl (fun K hK => ?_) AllReadyH.nil
      go_simp
      refine (at2.out _ (hHeld.1.st.tb HT.out)).mono ?_
      rintro e wn ⟨rfl, hb⟩
      have hk := hidden (KS.out _ (hHeld.1.keep hb))
      go_wp2_with fail
      refine hK.out _ _ hk.out (fun hHeld2 => ?_)
      clear hK K hHeld
      have hHeld := hHeld2
      clear hHeld2
      refine wpAnyH_ready (rs := [9]) (by kernel_rfl) (by simp) ?_
      refine AllReadyH.cons (o := { dst := some 35, op := Op.call { callee := Callee.value (Operand.func 12), args := #[Operand.tmp 31, Operand.tmp 34], argTypes := #[25, 25] }, type := 25, pos := "outright.go:67", after := #[{ on := 5, ground := Ground.data }, { on := 8, ground := Ground.data }, { on := 8, ground := Ground.chain }], guard := none }) rfl (fun K hK => ?_) AllReadyH.nil
      go_simp
      refine (mt.out _ (hHeld.1.st.tb HT.out)).mono ?_
      rintro e wn ⟨rfl, hb⟩
      have hk := hidden (KS.out _ (hHeld.1.keep hb))
      go_wp2_with fail
      refine hK.out _ _ hk.out (fun hHeld2 => ?_)
      clear hK K hHeld
      have hHeld := hHeld2
      clear hHeld2
      refine wpAnyH_ready (rs := [10]) (by kernel_rfl) (by simp) ?_
      refine AllReadyH.cons (o := { dst := some 36, op := Op.call { callee := Callee.value (Operand.func 15), args := #[Operand.tmp 29, Operand.tmp 35], argTypes := #[25, 25] }, type := 25, pos := "outright.go:67", after := #[{ on := 3, ground := Ground.data }, { on := 9, ground := Ground.data }, { on := 9, ground := Ground.chain }], guard := none }) rfl (fun K hK => ?_) AllReadyH.nil
      go_simp
      refine (al.out _ (hHeld.1.st.tb HT.out)).mono ?_
      rintro e wn ⟨rfl, hb⟩
      have hk := hidden (KS.out _ (hHeld.1.keep hb))
      go_wp2_with fail
      refine hK.out _ _ hk.out (fun hHeld2 => ?_)
      clear hK K hHeld
      have hHeld := hHeld2
      clear hHeld2
      refine wpAnyH_take (i := 11) (oi := { dst := some 37, op := Op.binOp BinOp.eql 25 (Operand.tmp 27) (Operand.tmp 36) 25, type := 4, pos := "outright.go:67", after := #[{ on := 1, ground := Ground.data }, { on := 10, ground := Ground.data }], guard := none }) (v := ?_) rfl (by kernel_rfl) (by kernel_rfl) (by kernel_rfl) (fun _ _ _ h => h) (Or.inl ⟨by rfl, ?_⟩) hHeld ?_
      rotate_left 1
      · (intro w0 hSw; (try dsimp only at hSw); go_simp; try with_reducible rfl)
      simp only [Act.put, List.setIfInBounds_toArray, List.set_cons_zero, List.set_cons_succ]
      refine wpAnyH_take (i := 12) (oi := { dst := some 2, op := Op.assign (Operand.tmp 37), type := 4, pos := "outright.go:67", after := #[{ on := 11, ground := Ground.data }, { on := 10, ground := Ground.chain }, { on := 0, ground := Ground.phase }, { on := 1, ground := Ground.phase }, { on := 2, ground := Ground.phase }, { on := 3, ground := Ground.phase }, { on := 4, ground := Ground.phase }, { on := 5, ground := Ground.phase }, { on := 6, ground := Ground.phase }, { on := 7, ground := Ground.phase }, { on := 8, ground := Ground.phase }, { on := 9, ground := Ground.phase }, { on := 10, ground := Ground.phase }, { on := 11, ground := Ground.phase }], guard := none }) (v := ?_) rfl (by kernel_rfl) (by kernel_rfl) (by kernel_rfl) (fun _ _ _ h => h) (Or.inl ⟨by rfl, ?_⟩) hHeld ?_
      rotate_left 1
      · (intro w0 hSw; (try dsimp only at hSw); go_simp; try with_reducible rfl)
      simp only [Act.put, List.setIfInBounds_toArray, List.set_cons_zero, List.set_cons_succ]
      refine wpAnyH_done (by kernel_rfl) ?_ _
      refine NoPanic.normal ?_
      go_wp2_with fail
      go_ret
      exact ⟨rfl, hk.out.1.st.bel⟩
end Go.Proofs.YtebegeedaehndaaDoor
