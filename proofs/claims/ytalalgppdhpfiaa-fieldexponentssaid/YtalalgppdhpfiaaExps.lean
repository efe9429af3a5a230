import Derived.Test.YtalalgppdhpfiaaPlus2
import Derived.Test.YtalalgppdhpfiaaLaws
namespace Go.Proofs.Ytalalgppdhpfiaa
open Go.RowKit

/-- what the law was given, where it lies -/
structure XW (w0 : World) (a b : E5) (zs ys : List Int) (w : World) : Prop where
  ba : Blc w w0.heap.size a
  bb : Blc w (w0.heap.size + 1) b
  bj : w.rangeAt (w0.heap.size + 1 + 1) 0 (zs.map fun z => Value.int .u8 z)
  bk : w.rangeAt (w0.heap.size + 1 + 1 + 1) 0 (ys.map fun z => Value.int .u8 z)
  bel : Below w0.heap.size w0 w
theorem XW.keep {w0 : World} {a b : E5} {zs ys : List Int} {w1 w2 : World} (h : XW w0 a b zs ys w1) (hb : Below w1.heap.size w1 w2) : XW w0 a b zs ys w2 :=
  ⟨h.ba.keep hb, h.bb.keep hb, range_keep h.bj hb, range_keep h.bk hb, bl_trans h.bel hb⟩
theorem Blc.away {w : World} {b : Nat} {r : E5} {p : Addr} {v : Value} (h : Blc w b r) (hne : p.block ≠ b) : Blc (w.setCell p v) b r :=
  ⟨(World.cell?_setCell_far w p _ v hne).trans h.c0, (World.cell?_setCell_far w p _ v hne).trans h.c1, (World.cell?_setCell_far w p _ v hne).trans h.c2, (World.cell?_setCell_far w p _ v hne).trans h.c3, (World.cell?_setCell_far w p _ v hne).trans h.c4⟩
theorem range_away {w : World} {b o : Nat} {cs : List Value} {p : Addr} {v : Value} (h : w.rangeAt b o cs) (hne : p.block ≠ b) : (w.setCell p v).rangeAt b o cs := fun j x hx => (World.cell?_setCell_far w p _ v hne).trans (h j x hx)
theorem XW.poke {w0 : World} {a b : E5} {zs ys : List Int} {w1 : World} {p : Addr} {v : Value} (h : XW w0 a b zs ys w1) (hp : w0.heap.size + 1 + 1 + 1 < p.block) : XW w0 a b zs ys (w1.setCell p v) :=
  ⟨h.ba.away (by omega), h.bb.away (by omega), range_away h.bj (by omega), range_away h.bk (by omega), h.bel.setCell (by omega) v⟩
theorem range_new (w : World) (zs : List Int) (t : TypeId) : (w.alloc (.cells (zs.map fun z => Value.int .u8 z).toArray t)).rangeAt w.heap.size 0 (zs.map fun z => Value.int .u8 z) := fun j v hv => by
  rw [Nat.zero_add, World.cell?_alloc_mark]
  simpa using hv

/-- the bytes of the prime, its lowest byte x -/
def pl (x : Int) : List Int := (List.range 32).map fun j => if j = 0 then x else if j = 31 then 127 else 255
theorem pl_len (x : Int) : (pl x).length = 32 := by simp [pl]
theorem pl_bd (x : Int) (h : 0 ≤ x ∧ x ≤ 255) : ∀ z ∈ pl x, 0 ≤ z ∧ z ≤ 255 := by
  intro z hz
  obtain ⟨j, _, rfl⟩ := List.mem_map.1 hz
  split
  · exact h
  · split <;> omega
theorem num_p : num (pl 237) = 57896044618658097711785492504343953926634992332820282019728792003956564819949 := by decide +kernel
theorem num_p2 : num (pl 235) = 57896044618658097711785492504343953926634992332820282019728792003956564819947 := by decide +kernel

/-- p while it is made: k places are filled -/
structure FillW (w0 : World) (a b : E5) (zs ys : List Int) (Pb k : Nat) (w : World) : Prop where
  xw : XW w0 a b zs ys w
  ot : ∀ j, j < 32 → w.cell? ⟨Pb, j, none⟩ = some (.int .u8 (if j < k then 255 else 0))
  fr : ∀ j, j < 32 → w.frozen? ⟨Pb, j, none⟩ = false
theorem FillW.step {w0 : World} {a b : E5} {zs ys : List Int} {Pb k : Nat} {w : World} (h : FillW w0 a b zs ys Pb k w) (hk : k < 32) (hp : w0.heap.size + 1 + 1 + 1 < Pb) : FillW w0 a b zs ys Pb (k + 1) (w.setCell ⟨Pb, k, none⟩ (.int .u8 255)) := by
  refine ⟨h.xw.poke hp, fun j hj => ?_, fun j hj => by have := h.fr j hj; go_simp⟩
  by_cases hjk : j = k
  · subst hjk
    have hb := h.ot j hj
    rw [if_pos (by omega)]
    go_simp
  · rw [World.cell?_setCell_other w _ _ _ (by intro e; exact hjk (congrArg Addr.off e).symm), h.ot j hj]
    by_cases hlt : j < k
    · rw [if_pos hlt, if_pos (by omega)]
    · rw [if_neg hlt, if_neg (by omega)]
/-- p made -/
structure PW (w0 : World) (a b : E5) (zs ys : List Int) (Pb : Nat) (x : Int) (w : World) : Prop where
  xw : XW w0 a b zs ys w
  ot : ∀ j, j < 32 → w.cell? ⟨Pb, j, none⟩ = some (.int .u8 (if j = 0 then x else if j = 31 then 127 else 255))
  fr : ∀ j, j < 32 → w.frozen? ⟨Pb, j, none⟩ = false
theorem PW.keep {w0 : World} {a b : E5} {zs ys : List Int} {Pb : Nat} {x : Int} {w1 w2 : World} (h : PW w0 a b zs ys Pb x w1) (hb : Below w1.heap.size w1 w2) : PW w0 a b zs ys Pb x w2 :=
  ⟨h.xw.keep hb, fun j hj => cell_keep (h.ot j hj) hb, fun j hj => ((bcell hb).2 _ _ (World.block_lt_of_cell? w1 ⟨Pb, 0, none⟩ (h.ot 0 (by omega)))).trans (h.fr j hj)⟩
theorem PW.range {w0 : World} {a b : E5} {zs ys : List Int} {Pb : Nat} {x : Int} {w : World} (h : PW w0 a b zs ys Pb x w) : w.rangeAt Pb 0 ((pl x).map fun z => Value.int .u8 z) := fun j v hv => by
  have hj : j < 32 := by
    have := (List.getElem?_eq_some_iff.1 hv).1
    simpa [pl] using this
  have ev : v = .int .u8 (if j = 0 then x else if j = 31 then 127 else 255) := by
    simp [pl, hj] at hv
    exact hv.symm
  rw [ev, Nat.zero_add, h.ot j hj]
theorem FillW.done {w0 : World} {a b : E5} {zs ys : List Int} {Pb : Nat} {w : World} (h : FillW w0 a b zs ys Pb 32 w) (hp : w0.heap.size + 1 + 1 + 1 < Pb) : PW w0 a b zs ys Pb 237 ((w.setCell ⟨Pb, 0, none⟩ (.int .u8 237)).setCell ⟨Pb, 31, none⟩ (.int .u8 127)) := by
  refine ⟨(h.xw.poke hp).poke hp, fun j hj => ?_, fun j hj => by have := h.fr j hj; go_simp⟩
  have hb := h.ot j hj
  rw [if_pos hj] at hb
  by_cases h31 : j = 31
  · subst h31
    rw [if_neg (by omega), if_pos rfl]
    go_simp
  · rw [World.cell?_setCell_other _ _ _ _ (by intro e; exact h31 (congrArg Addr.off e).symm)]
    by_cases h0 : j = 0
    · subst h0
      rw [if_pos rfl]
      go_simp
    · rw [World.cell?_setCell_other _ _ _ _ (by intro e; exact h0 (congrArg Addr.off e).symm), if_neg h0, if_neg h31, hb]
theorem PW.turn {w0 : World} {a b : E5} {zs ys : List Int} {Pb : Nat} {x : Int} {w : World} (h : PW w0 a b zs ys Pb x w) (y : Int) (hp : w0.heap.size + 1 + 1 + 1 < Pb) : PW w0 a b zs ys Pb y (w.setCell ⟨Pb, 0, none⟩ (.int .u8 y)) := by
  refine ⟨h.xw.poke hp, fun j hj => ?_, fun j hj => by have := h.fr j hj; go_simp⟩
  have hb := h.ot j hj
  by_cases h0 : j = 0
  · subst h0
    rw [if_pos rfl]
    go_simp
  · rw [World.cell?_setCell_other _ _ _ _ (by intro e; exact h0 (congrArg Addr.off e).symm), if_neg h0, hb, if_neg h0]

theorem fermat_p (n : Int) : lst (n ^ 57896044618658097711785492504343953926634992332820282019728792003956564819949) = lst n := by
  by_cases h : n % Fm.P = 0
  · apply lst_congr
    have e : n ^ 57896044618658097711785492504343953926634992332820282019728792003956564819949 = n * n ^ 57896044618658097711785492504343953926634992332820282019728792003956564819948 := by
      rw [Int.mul_comm, ← Int.pow_succ]
    rw [e, Int.mul_emod, h, Int.zero_mul]; rfl
  · apply lst_congr
    have e : n ^ 57896044618658097711785492504343953926634992332820282019728792003956564819949 = n * (n * n ^ 57896044618658097711785492504343953926634992332820282019728792003956564819947) := by
      rw [Int.mul_comm n (n ^ 57896044618658097711785492504343953926634992332820282019728792003956564819947), ← Int.pow_succ, Int.mul_comm, ← Int.pow_succ]
    rw [e, Int.mul_emod, inv_mul n h, Int.mul_one, emod_emod_P]


set_option maxRecDepth 100000 in
set_option maxHeartbeats 64000000 in
theorem exps_any (a b : E5) (zs ys : List Int) (w : World) (ha : a.ok) (hb : b.ok) (lz : zs.length = 32) (hz : ∀ z ∈ zs, 0 ≤ z ∧ z ≤ 255) (ly : ys.length = 32) (hy : ∀ z ∈ ys, 0 ≤ z ∧ z ≤ 255) :
    Calls Try.prog 3 #[a.v, b.v, bv zs, bv ys] w fun e w' => e = .returned (.bool true) ∧ Below w.heap.size w w' := by
  obtain ⟨LA, hLA⟩ : ∃ t : E5, t = lst (a.n) := ⟨_, rfl⟩
  have LAok : LA.ok := by rw [hLA]; exact lst_ok _
  obtain ⟨IV, hIV⟩ : ∃ t : E5, t = lst (a.n ^ 57896044618658097711785492504343953926634992332820282019728792003956564819947) := ⟨_, rfl⟩
  have IVok : IV.ok := by rw [hIV]; exact lst_ok _
  obtain ⟨PJ, hPJ⟩ : ∃ t : E5, t = lst (a.n ^ num zs) := ⟨_, rfl⟩
  have PJok : PJ.ok := by rw [hPJ]; exact lst_ok _
  obtain ⟨PK, hPK⟩ : ∃ t : E5, t = lst (a.n ^ num ys) := ⟨_, rfl⟩
  have PKok : PK.ok := by rw [hPK]; exact lst_ok _
  obtain ⟨PS, hPS⟩ : ∃ t : E5, t = lst (a.n ^ (num zs + num ys)) := ⟨_, rfl⟩
  have PSok : PS.ok := by rw [hPS]; exact lst_ok _
  obtain ⟨M, hM⟩ : ∃ t : E5, t = lst (a.n * b.n) := ⟨_, rfl⟩
  have Mok : M.ok := by rw [hM]; exact lst_ok _
  obtain ⟨BK, hBK⟩ : ∃ t : E5, t = lst (b.n ^ num ys) := ⟨_, rfl⟩
  have BKok : BK.ok := by rw [hBK]; exact lst_ok _
  obtain ⟨MK, hMK⟩ : ∃ t : E5, t = lst ((a.n * b.n) ^ num ys) := ⟨_, rfl⟩
  have MKok : MK.ok := by rw [hMK]; exact lst_ok _
  have lv := hidden live_any
  have p_p := hidden (fun w => fix (Power_any a (pl 237) w ha (pl_len _) (pl_bd _ (by omega))) (by rw [num_p, fermat_p, hLA] : _ = LA))
  have l_a := hidden (fun w => fix (Least_any a w ha) hLA.symm)
  have p_0 := hidden (fun w => fix (Power_any a (List.replicate 32 0) w ha (by simp) (by intro z hz; rw [List.eq_of_mem_replicate hz]; omega)) (by rw [show num (List.replicate 32 0) = 0 from by decide +kernel, Int.pow_zero]; exact lst1 : _ = o1))
  have c_one := hidden (fun w => fix (One_any a w) lst1)
  have p_i := hidden (fun w => fix (Power_any a (pl 235) w ha (pl_len _) (pl_bd _ (by omega))) (by rw [num_p2, hIV] : _ = IV))
  have v_a := hidden (fun w => fixp (Invert_any a w ha) hIV.symm)
  have p_j := hidden (fun w => fix (Power_any a zs w ha lz hz) hPJ.symm)
  have p_k := hidden (fun w => fix (Power_any a ys w ha ly hy) hPK.symm)
  have m_jk := hidden (fun w => fix (Mul_any PJ PK w PJok PKok) (by rw [hPJ, hPK, lst_mul, lst_mul', ← Int.pow_add, hPS] : _ = PS))
  have m_ab := hidden (fun w => fix (Mul_any a b w ha hb) hM.symm)
  have p_M := hidden (fun w => fix (Power_any M ys w Mok ly hy) (by rw [hM, lst_pow, hMK] : _ = MK))
  have p_b := hidden (fun w => fix (Power_any b ys w hb ly hy) hBK.symm)
  have m_kb := hidden (fun w => fix (Mul_any PK BK w PKok BKok) (by rw [hPK, hBK, lst_mul, lst_mul', ← Int.mul_pow, hMK] : _ = MK))
  have pl_ := hidden (fun w => plus_law zs ys w lz hz ly hy)
  have p_s : Hid ((cy (num zs) (num ys) 32 : Int) = 0 → ∀ w, Calls Try.prog 6 #[a.v, bv (nbs (num zs + num ys))] w fun e w' => e = .returned PS.v ∧ Below w.heap.size w w') := hidden (fun hc w => fix (Power_any a (nbs (num zs + num ys)) w ha (nbs_len _) (nbs_bd _)) (by
    have h1 := sum_div (num zs) (num ys) 32
    have hA := num_lt zs hz
    have hB := num_lt ys hy
    rw [lz] at hA
    rw [ly] at hB
    rw [Nat.div_eq_of_lt hA, Nat.div_eq_of_lt hB] at h1
    have h2 : (num zs + num ys) / 256 ^ 32 = 0 := by omega
    have h3 : num zs + num ys < 256 ^ 32 := by
      rcases Nat.div_eq_zero_iff.1 h2 with h | h
      · exact absurd h (by decide)
      · exact h
    rw [num_nbs, Nat.mod_eq_of_lt h3, hPS] : _ = PS))
  have qx := fun (x : E5) w => (eq5 x x w).trans (by rw [E5.same_self] : _ = Result.ok true w)
  have q1 := fun w => (eq5 o1 o1 w).trans (by rw [E5.same_self] : _ = Result.ok true w)
  have hip : (Try.prog.info? 26).map (·.size) = some ((pl 237).map fun z => Value.int .u8 z).length := by rw [List.length_map, pl_len]; kernel_rfl
  have hiq : (Try.prog.info? 26).map (·.size) = some ((pl 235).map fun z => Value.int .u8 z).length := by rw [List.length_map, pl_len]; kernel_rfl
  have hij : (Try.prog.info? 26).map (·.size) = some (zs.map fun z => Value.int .u8 z).length := by rw [List.length_map, lz]; kernel_rfl
  have hik : (Try.prog.info? 26).map (·.size) = some (ys.map fun z => Value.int .u8 z).length := by rw [List.length_map, ly]; kernel_rfl
  have his : (Try.prog.info? 26).map (·.size) = some ((nbs (num zs + num ys)).map fun z => Value.int .u8 z).length := by rw [List.length_map, nbs_len]; kernel_rfl
  have hu : Try.prog.underlying 26 = some (.array 32 5) := by kernel_rfl
  have os : ((nbs (num zs + num ys)).map fun z => Value.int .u8 z).toArray.all (·.oneCell') = true := all_oneCell_toArray (fun v hv => by obtain ⟨z, _, rfl⟩ := List.mem_map.1 hv; rfl)
  clear hLA LAok hIV IVok hPJ PJok hPK PKok hPS PSok hM Mok hBK BKok hMK MKok ha hb lz hz ly hy
  simp only [E5.v, bv, o1] at p_p l_a p_0 c_one p_i v_a p_j p_k m_jk m_ab p_M p_b m_kb p_s pl_ qx q1 ⊢
  simp only [List.replicate, List.map] at p_0
  skip
  go_enter Try.func3, Try.ntmps3
  go_wp2_with fail
  refine (lv.out _).mono ?_
  rintro e w1 ⟨rfl, hb1⟩
  have s0 := (St.start w a 24).new b 24
  simp only [World.size_alloc] at s0
  have rj := range_new ((w.alloc (.cells #[.int .u64 a.x0, .int .u64 a.x1, .int .u64 a.x2, .int .u64 a.x3, .int .u64 a.x4] 24)).alloc (.cells #[.int .u64 b.x0, .int .u64 b.x1, .int .u64 b.x2, .int .u64 b.x3, .int .u64 b.x4] 24)) zs 26
  rw [World.size_alloc, World.size_alloc] at rj
  have rk := range_new (((w.alloc (.cells #[.int .u64 a.x0, .int .u64 a.x1, .int .u64 a.x2, .int .u64 a.x3, .int .u64 a.x4] 24)).alloc (.cells #[.int .u64 b.x0, .int .u64 b.x1, .int .u64 b.x2, .int .u64 b.x3, .int .u64 b.x4] 24)).alloc (.cells (zs.map fun z => Value.int .u8 z).toArray 26)) ys 26
  rw [World.size_alloc, World.size_alloc, World.size_alloc] at rk
  have X1 : XW w a b zs ys w1 := ⟨(((s0.live (w.heap.size, a) (by simp)).keep (bl_alloc _ _)).keep (bl_alloc _ _)).keep hb1, (((s0.live (w.heap.size + 1, b) (by simp)).keep (bl_alloc _ _)).keep (bl_alloc _ _)).keep hb1, range_keep (World.rangeAt_alloc rj _) hb1, range_keep rk hb1, bl_trans (bl_trans s0.bel (bl_alloc2 _ _ _)) hb1⟩
  have hz1 : w.heap.size + 1 + 1 + 1 < w1.heap.size := by have := hb1.size; simp at this; omega
  replace X1 := hidden X1
  clear s0 rj rk hb1
  have F0 := hidden (show FillW w a b zs ys w1.heap.size 0 (w1.alloc (.cells #[.int .u8 0, .int .u8 0, .int .u8 0, .int .u8 0, .int .u8 0, .int .u8 0, .int .u8 0, .int .u8 0, .int .u8 0, .int .u8 0, .int .u8 0, .int .u8 0, .int .u8 0, .int .u8 0, .int .u8 0, .int .u8 0, .int .u8 0, .int .u8 0, .int .u8 0, .int .u8 0, .int .u8 0, .int .u8 0, .int .u8 0, .int .u8 0, .int .u8 0, .int .u8 0, .int .u8 0, .int .u8 0, .int .u8 0, .int .u8 0, .int .u8 0, .int .u8 0] 26)) from ⟨X1.out.keep (bl_alloc _ _), fun j hj => by
    rw [World.cell?_alloc_mark, if_neg (by omega), show (#[.int .u8 0, .int .u8 0, .int .u8 0, .int .u8 0, .int .u8 0, .int .u8 0, .int .u8 0, .int .u8 0, .int .u8 0, .int .u8 0, .int .u8 0, .int .u8 0, .int .u8 0, .int .u8 0, .int .u8 0, .int .u8 0, .int .u8 0, .int .u8 0, .int .u8 0, .int .u8 0, .int .u8 0, .int .u8 0, .int .u8 0, .int .u8 0, .int .u8 0, .int .u8 0, .int .u8 0, .int .u8 0, .int .u8 0, .int .u8 0, .int .u8 0, .int .u8 0] : Array Value) = Array.replicate 32 (.int .u8 0) from rfl]
    simp [hj], fun j hj => by go_simp⟩)
  clear X1
  go_wp2_with fail
  go_loopw [10] (fun i w' => ∃ k : Nat, k ≤ 32 ∧ i = .int .i64 k ∧ FillW w a b zs ys w1.heap.size k w') (fun i _ => 32 - (intOf i).toNat)
  case atStart => exact ⟨0, by omega, rfl, F0.out⟩
  case round =>
    obtain ⟨k, hk, rfl, hF⟩ := hrel
    clear F0
    by_cases hlt : k < 32
    · have ho := hF.ot k hlt
      have hf := hF.fr k hlt
      rw [if_neg (by omega)] at ho
      have NX := hidden (hF.step hlt hz1)
      clear hF
      go_wp2_with fail
      refine ⟨⟨k + 1, by omega, by go_num, NX.out⟩, by simp [intOf]; omega⟩
    · have hk32 : k = 32 := by omega
      subst hk32
      go_upto_region 8 with fail
      go_cut [] (fun wx => PW w a b zs ys w1.heap.size 237 wx)
      case first =>
        have c0 := hF.ot 0 (by omega)
        have c31 := hF.ot 31 (by omega)
        have f0 := hF.fr 0 (by omega)
        have f31 := hF.fr 31 (by omega)
        rw [if_pos (by omega)] at c0 c31
        have PWH := hidden (hF.done hz1)
        clear hF
        go_wp2_with fail
        go_meet
        exact PWH.out
      case rest =>
      have P1 := hidden hcut
      clear hcut hF
      go_upto_region 9 with fail
      have KS : Hid (∀ w' : World, PW w a b zs ys w1.heap.size 237 w' → (fun w' => PW w a b zs ys w1.heap.size 237 w' ∧ w'.cell? ⟨w.heap.size, 0, none⟩ = some (.int .u64 a.x0) ∧ w'.cell? ⟨w.heap.size, 1, none⟩ = some (.int .u64 a.x1) ∧ w'.cell? ⟨w.heap.size, 2, none⟩ = some (.int .u64 a.x2) ∧ w'.cell? ⟨w.heap.size, 3, none⟩ = some (.int .u64 a.x3) ∧ w'.cell? ⟨w.heap.size, 4, none⟩ = some (.int .u64 a.x4) ∧ w'.rangeAt (w1.heap.size) 0 ((pl 237).map fun z => Value.int .u8 z)) w') := hidden (fun w' h => ⟨h, h.xw.ba.c0, h.xw.ba.c1, h.xw.ba.c2, h.xw.ba.c3, h.xw.ba.c4, h.range⟩)
      have K0 := hidden (KS.out _ ((P1.out).keep ((Below.refl _ _).drew)))
      go_region_held3 (fun w' => PW w a b zs ys w1.heap.size 237 w' ∧ w'.cell? ⟨w.heap.size, 0, none⟩ = some (.int .u64 a.x0) ∧ w'.cell? ⟨w.heap.size, 1, none⟩ = some (.int .u64 a.x1) ∧ w'.cell? ⟨w.heap.size, 2, none⟩ = some (.int .u64 a.x2) ∧ w'.cell? ⟨w.heap.size, 3, none⟩ = some (.int .u64 a.x3) ∧ w'.cell? ⟨w.heap.size, 4, none⟩ = some (.int .u64 a.x4) ∧ w'.rangeAt (w1.heap.size) 0 ((pl 237).map fun z => Value.int .u8 z)) (first | with_reducible exact K0.out | with_reducible exact hk.out)
        (first | (go_at_call 6; with_reducible refine (p_p.out _).mono ?_; rintro e wn ⟨rfl, hb⟩; have hH := (show (fun w' => PW w a b zs ys w1.heap.size 237 w' ∧ w'.cell? ⟨w.heap.size, 0, none⟩ = some (.int .u64 a.x0) ∧ w'.cell? ⟨w.heap.size, 1, none⟩ = some (.int .u64 a.x1) ∧ w'.cell? ⟨w.heap.size, 2, none⟩ = some (.int .u64 a.x2) ∧ w'.cell? ⟨w.heap.size, 3, none⟩ = some (.int .u64 a.x3) ∧ w'.cell? ⟨w.heap.size, 4, none⟩ = some (.int .u64 a.x4) ∧ w'.rangeAt (w1.heap.size) 0 ((pl 237).map fun z => Value.int .u8 z)) _ from by assumption); have hk := hidden (KS.out _ (hH.1.keep hb))) | (go_at_call 7; with_reducible refine (l_a.out _).mono ?_; rintro e wn ⟨rfl, hb⟩; have hH := (show (fun w' => PW w a b zs ys w1.heap.size 237 w' ∧ w'.cell? ⟨w.heap.size, 0, none⟩ = some (.int .u64 a.x0) ∧ w'.cell? ⟨w.heap.size, 1, none⟩ = some (.int .u64 a.x1) ∧ w'.cell? ⟨w.heap.size, 2, none⟩ = some (.int .u64 a.x2) ∧ w'.cell? ⟨w.heap.size, 3, none⟩ = some (.int .u64 a.x3) ∧ w'.cell? ⟨w.heap.size, 4, none⟩ = some (.int .u64 a.x4) ∧ w'.rangeAt (w1.heap.size) 0 ((pl 237).map fun z => Value.int .u8 z)) _ from by assumption); have hk := hidden (KS.out _ (hH.1.keep hb))) | (go_at_call 6; with_reducible refine (p_0.out _).mono ?_; rintro e wn ⟨rfl, hb⟩; have hH := (show (fun w' => PW w a b zs ys w1.heap.size 237 w' ∧ w'.cell? ⟨w.heap.size, 0, none⟩ = some (.int .u64 a.x0) ∧ w'.cell? ⟨w.heap.size, 1, none⟩ = some (.int .u64 a.x1) ∧ w'.cell? ⟨w.heap.size, 2, none⟩ = some (.int .u64 a.x2) ∧ w'.cell? ⟨w.heap.size, 3, none⟩ = some (.int .u64 a.x3) ∧ w'.cell? ⟨w.heap.size, 4, none⟩ = some (.int .u64 a.x4) ∧ w'.rangeAt (w1.heap.size) 0 ((pl 237).map fun z => Value.int .u8 z)) _ from by assumption); have hk := hidden (KS.out _ (hH.1.keep hb))) | (go_at_call 8; with_reducible refine (c_one.out _).mono ?_; rintro e wn ⟨rfl, hb⟩; have hH := (show (fun w' => PW w a b zs ys w1.heap.size 237 w' ∧ w'.cell? ⟨w.heap.size, 0, none⟩ = some (.int .u64 a.x0) ∧ w'.cell? ⟨w.heap.size, 1, none⟩ = some (.int .u64 a.x1) ∧ w'.cell? ⟨w.heap.size, 2, none⟩ = some (.int .u64 a.x2) ∧ w'.cell? ⟨w.heap.size, 3, none⟩ = some (.int .u64 a.x3) ∧ w'.cell? ⟨w.heap.size, 4, none⟩ = some (.int .u64 a.x4) ∧ w'.rangeAt (w1.heap.size) 0 ((pl 237).map fun z => Value.int .u8 z)) _ from by assumption); have hk := hidden (KS.out _ (hH.1.keep hb))))
      clear K0 KS P1
      have P2 := hidden hk.out.1
      have wl := hidden (World.block_lt_of_cell? wn ⟨w.heap.size, 0, none⟩ P2.out.xw.ba.c0)
      have c0 := P2.out.ot 0 (by omega)
      have f0 := P2.out.fr 0 (by omega)
      have P3 := hidden (P2.out.turn 235 hz1)
      go_upto_region 12 with fail
      clear c0 f0 P2
      have KS : Hid (∀ w' : World, PW w a b zs ys w1.heap.size 235 w' → (fun w' => PW w a b zs ys w1.heap.size 235 w' ∧ w'.cell? ⟨w.heap.size, 0, none⟩ = some (.int .u64 a.x0) ∧ w'.cell? ⟨w.heap.size, 1, none⟩ = some (.int .u64 a.x1) ∧ w'.cell? ⟨w.heap.size, 2, none⟩ = some (.int .u64 a.x2) ∧ w'.cell? ⟨w.heap.size, 3, none⟩ = some (.int .u64 a.x3) ∧ w'.cell? ⟨w.heap.size, 4, none⟩ = some (.int .u64 a.x4) ∧ w'.rangeAt (w1.heap.size) 0 ((pl 235).map fun z => Value.int .u8 z)) w') := hidden (fun w' h => ⟨h, h.xw.ba.c0, h.xw.ba.c1, h.xw.ba.c2, h.xw.ba.c3, h.xw.ba.c4, h.range⟩)
      have K0 := hidden (KS.out _ ((P3.out).keep ((Below.refl _ _).drew)))
      go_region_held3 (fun w' => PW w a b zs ys w1.heap.size 235 w' ∧ w'.cell? ⟨w.heap.size, 0, none⟩ = some (.int .u64 a.x0) ∧ w'.cell? ⟨w.heap.size, 1, none⟩ = some (.int .u64 a.x1) ∧ w'.cell? ⟨w.heap.size, 2, none⟩ = some (.int .u64 a.x2) ∧ w'.cell? ⟨w.heap.size, 3, none⟩ = some (.int .u64 a.x3) ∧ w'.cell? ⟨w.heap.size, 4, none⟩ = some (.int .u64 a.x4) ∧ w'.rangeAt (w1.heap.size) 0 ((pl 235).map fun z => Value.int .u8 z)) (first | with_reducible exact K0.out | with_reducible exact hk.out)
        (first | (go_at_call 6; with_reducible refine (p_i.out _).mono ?_; rintro e wn ⟨rfl, hb⟩; have hH := (show (fun w' => PW w a b zs ys w1.heap.size 235 w' ∧ w'.cell? ⟨w.heap.size, 0, none⟩ = some (.int .u64 a.x0) ∧ w'.cell? ⟨w.heap.size, 1, none⟩ = some (.int .u64 a.x1) ∧ w'.cell? ⟨w.heap.size, 2, none⟩ = some (.int .u64 a.x2) ∧ w'.cell? ⟨w.heap.size, 3, none⟩ = some (.int .u64 a.x3) ∧ w'.cell? ⟨w.heap.size, 4, none⟩ = some (.int .u64 a.x4) ∧ w'.rangeAt (w1.heap.size) 0 ((pl 235).map fun z => Value.int .u8 z)) _ from by assumption); have hk := hidden (KS.out _ (hH.1.keep hb))) | (go_at_call 9; with_reducible refine (v_a.out _).mono ?_; rintro e wn ⟨rfl, hb⟩; have hH := (show (fun w' => PW w a b zs ys w1.heap.size 235 w' ∧ w'.cell? ⟨w.heap.size, 0, none⟩ = some (.int .u64 a.x0) ∧ w'.cell? ⟨w.heap.size, 1, none⟩ = some (.int .u64 a.x1) ∧ w'.cell? ⟨w.heap.size, 2, none⟩ = some (.int .u64 a.x2) ∧ w'.cell? ⟨w.heap.size, 3, none⟩ = some (.int .u64 a.x3) ∧ w'.cell? ⟨w.heap.size, 4, none⟩ = some (.int .u64 a.x4) ∧ w'.rangeAt (w1.heap.size) 0 ((pl 235).map fun z => Value.int .u8 z)) _ from by assumption); have hk := hidden (KS.out _ (hH.1.keep hb))))
      clear K0 KS P3
      have P4 := hidden hk.out.1
      go_upto_region 14 with fail
      have rj := hidden P4.out.xw.bj
      have rk := hidden P4.out.xw.bk
      have HU := hidden hu
      go_wp2_with (first | refine wpList_load_mid rfl 26 _ rfl (w.heap.size + 1 + 1) 0 (by rfl) _ _ rj.out HU.out rfl hij ?_ | refine wpList_load_mid rfl 26 _ rfl (w.heap.size + 1 + 1 + 1) 0 (by rfl) _ _ rk.out HU.out rfl hik ?_)
      refine (pl_.out _).mono ?_
      rintro e w5 ⟨rfl, hb5⟩
      have P5 := hidden (P4.out.keep hb5)
      clear hb5 P4 rj rk
      have hl5 : ((nbs (num zs + num ys)).map fun z => Value.int .u8 z).length = 32 := by simp [nbs]
      have t5 : (w5.alloc (.cells #[.int .u8 0, .int .u8 0, .int .u8 0, .int .u8 0, .int .u8 0, .int .u8 0, .int .u8 0, .int .u8 0, .int .u8 0, .int .u8 0, .int .u8 0, .int .u8 0, .int .u8 0, .int .u8 0, .int .u8 0, .int .u8 0, .int .u8 0, .int .u8 0, .int .u8 0, .int .u8 0, .int .u8 0, .int .u8 0, .int .u8 0, .int .u8 0, .int .u8 0, .int .u8 0, .int .u8 0, .int .u8 0, .int .u8 0, .int .u8 0, .int .u8 0, .int .u8 0] 26)).there w5.heap.size 0 32 := there_new w5 #[.int .u8 0, .int .u8 0, .int .u8 0, .int .u8 0, .int .u8 0, .int .u8 0, .int .u8 0, .int .u8 0, .int .u8 0, .int .u8 0, .int .u8 0, .int .u8 0, .int .u8 0, .int .u8 0, .int .u8 0, .int .u8 0, .int .u8 0, .int .u8 0, .int .u8 0, .int .u8 0, .int .u8 0, .int .u8 0, .int .u8 0, .int .u8 0, .int .u8 0, .int .u8 0, .int .u8 0, .int .u8 0, .int .u8 0, .int .u8 0, .int .u8 0, .int .u8 0] 26
      have TH := hidden (show (w5.alloc (.cells #[.int .u8 0, .int .u8 0, .int .u8 0, .int .u8 0, .int .u8 0, .int .u8 0, .int .u8 0, .int .u8 0, .int .u8 0, .int .u8 0, .int .u8 0, .int .u8 0, .int .u8 0, .int .u8 0, .int .u8 0, .int .u8 0, .int .u8 0, .int .u8 0, .int .u8 0, .int .u8 0, .int .u8 0, .int .u8 0, .int .u8 0, .int .u8 0, .int .u8 0, .int .u8 0, .int .u8 0, .int .u8 0, .int .u8 0, .int .u8 0, .int .u8 0, .int .u8 0] 26)).there w5.heap.size 0 ((nbs (num zs + num ys)).map fun z => Value.int .u8 z).toArray.size from by simpa [nbs] using t5)
      have HI2 := hidden (show (Try.prog.info? 26).map (·.size) = some ((nbs (num zs + num ys)).map fun z => Value.int .u8 z).toArray.size from by rw [List.size_toArray]; exact his)
      have OS := hidden os
      have P6 := hidden (P5.out.keep (below_setCells (w0 := w5) w5.heap.size ((nbs (num zs + num ys)).map fun z => Value.int .u8 z) 0 (bl_alloc w5 (.cells #[.int .u8 0, .int .u8 0, .int .u8 0, .int .u8 0, .int .u8 0, .int .u8 0, .int .u8 0, .int .u8 0, .int .u8 0, .int .u8 0, .int .u8 0, .int .u8 0, .int .u8 0, .int .u8 0, .int .u8 0, .int .u8 0, .int .u8 0, .int .u8 0, .int .u8 0, .int .u8 0, .int .u8 0, .int .u8 0, .int .u8 0, .int .u8 0, .int .u8 0, .int .u8 0, .int .u8 0, .int .u8 0, .int .u8 0, .int .u8 0, .int .u8 0, .int .u8 0] 26)) (Nat.le_refl _)))
      have RO := hidden (World.rangeAt_setCells_same (w5.alloc (.cells #[.int .u8 0, .int .u8 0, .int .u8 0, .int .u8 0, .int .u8 0, .int .u8 0, .int .u8 0, .int .u8 0, .int .u8 0, .int .u8 0, .int .u8 0, .int .u8 0, .int .u8 0, .int .u8 0, .int .u8 0, .int .u8 0, .int .u8 0, .int .u8 0, .int .u8 0, .int .u8 0, .int .u8 0, .int .u8 0, .int .u8 0, .int .u8 0, .int .u8 0, .int .u8 0, .int .u8 0, .int .u8 0, .int .u8 0, .int .u8 0, .int .u8 0, .int .u8 0] 26)) w5.heap.size 0 ((nbs (num zs + num ys)).map fun z => Value.int .u8 z) (by rw [hl5]; exact t5))
      clear t5 hl5
      clear os P5 pl_
      go_wp2_with (first | refine wpList_store_mid rfl 26 _ _ rfl w5.heap.size 0 ((nbs (num zs + num ys)).map fun z => Value.int .u8 z).toArray (by rfl) (by rfl) TH.out HI2.out OS.out ?_)
      clear TH HI2 OS
      go_cut [12, 63] (fun v12 vx wx => (∃ bb : Bool, v12 = .bool bb) ∧ vx = .bool false ∧ PW w a b zs ys w1.heap.size 235 wx)
      case first =>
        by_cases hc : (cy (num zs) (num ys) 32 : Int) = 0
        · have hq : ((cy (num zs) (num ys) 32 : Int) == 0) = true := by simpa using hc
          have p_t := hidden (p_s.out hc)
          rw [hq]
          clear p_s hc
          have KS : Hid (∀ w' : World, PW w a b zs ys w1.heap.size 235 w' → w'.rangeAt w5.heap.size 0 ((nbs (num zs + num ys)).map fun z => Value.int .u8 z) → (fun w' => PW w a b zs ys w1.heap.size 235 w' ∧ w'.cell? ⟨w.heap.size, 0, none⟩ = some (.int .u64 a.x0) ∧ w'.cell? ⟨w.heap.size, 1, none⟩ = some (.int .u64 a.x1) ∧ w'.cell? ⟨w.heap.size, 2, none⟩ = some (.int .u64 a.x2) ∧ w'.cell? ⟨w.heap.size, 3, none⟩ = some (.int .u64 a.x3) ∧ w'.cell? ⟨w.heap.size, 4, none⟩ = some (.int .u64 a.x4) ∧ w'.rangeAt (w.heap.size + 1 + 1) 0 (zs.map fun z => Value.int .u8 z) ∧ w'.rangeAt (w.heap.size + 1 + 1 + 1) 0 (ys.map fun z => Value.int .u8 z) ∧ w'.rangeAt (w5.heap.size) 0 ((nbs (num zs + num ys)).map fun z => Value.int .u8 z)) w') := hidden (fun w' h hr => ⟨h, h.xw.ba.c0, h.xw.ba.c1, h.xw.ba.c2, h.xw.ba.c3, h.xw.ba.c4, h.xw.bj, h.xw.bk, hr⟩)
          have K0 := hidden (KS.out _ ((P6.out).keep ((Below.refl _ _).drew)) (range_keep (RO.out) ((Below.refl _ _).drew)))
          refine wp_region_noPanic ?_
          refine wp_region_held_drew (S := fun w' => PW w a b zs ys w1.heap.size 235 w' ∧ w'.cell? ⟨w.heap.size, 0, none⟩ = some (.int .u64 a.x0) ∧ w'.cell? ⟨w.heap.size, 1, none⟩ = some (.int .u64 a.x1) ∧ w'.cell? ⟨w.heap.size, 2, none⟩ = some (.int .u64 a.x2) ∧ w'.cell? ⟨w.heap.size, 3, none⟩ = some (.int .u64 a.x3) ∧ w'.cell? ⟨w.heap.size, 4, none⟩ = some (.int .u64 a.x4) ∧ w'.rangeAt (w.heap.size + 1 + 1) 0 (zs.map fun z => Value.int .u8 z) ∧ w'.rangeAt (w.heap.size + 1 + 1 + 1) 0 (ys.map fun z => Value.int .u8 z) ∧ w'.rangeAt (w5.heap.size) 0 ((nbs (num zs + num ys)).map fun z => Value.int .u8 z)) (by kernel_rfl) K0.out (fun hHeld => ?_)
          refine wpAnyH_take (i := 0) (oi := { dst := some 50, op := Op.move (Operand.tmp 12), type := 4, pos := "outright.go:154", after := #[], guard := none }) (v := ?_) rfl (by kernel_rfl) (by kernel_rfl) (by kernel_rfl) (fun _ _ _ h => h) (Or.inl ⟨by rfl, ?_⟩) hHeld ?_
          rotate_left 1
          · (intro w0 hSw; (try dsimp only at hSw); go_simp; try with_reducible rfl)
          simp only [Act.put, List.setIfInBounds_toArray, List.set_cons_zero, List.set_cons_succ]
          refine wpAnyH_take (i := 1) (oi := { dst := some 51, op := Op.move (Operand.tmp 50), type := 4, pos := "outright.go:154", after := #[{ on := 0, ground := Ground.data }], guard := none }) (v := ?_) rfl (by kernel_rfl) (by kernel_rfl) (by kernel_rfl) (fun _ _ _ h => h) (Or.inl ⟨by rfl, ?_⟩) hHeld ?_
          rotate_left 1
          · (intro w0 hSw; (try dsimp only at hSw); go_simp; try with_reducible rfl)
          simp only [Act.put, List.setIfInBounds_toArray, List.set_cons_zero, List.set_cons_succ]
          refine wpAnyH_take (i := 2) (oi := { dst := some 52, op := Op.load 24 (Operand.tmp 4), type := 24, pos := "outright.go:154", after := #[{ on := 1, ground := Ground.guard }], guard := some (1, true) }) (v := ?_) rfl (by kernel_rfl) (by kernel_rfl) (by kernel_rfl) (fun _ _ _ h => h) (Or.inl ⟨by rfl, ?_⟩) hHeld ?_
          rotate_left 1
          · (intro w0 hSw; (try dsimp only at hSw); go_simp; try with_reducible rfl)
          simp only [Act.put, List.setIfInBounds_toArray, List.set_cons_zero, List.set_cons_succ]
          refine wpAnyH_take (i := 3) (oi := { dst := some 53, op := Op.load 26 (Operand.tmp 6), type := 26, pos := "outright.go:154", after := #[{ on := 1, ground := Ground.guard }], guard := some (1, true) }) rfl (by kernel_rfl) (by kernel_rfl) (by kernel_rfl) (fun _ _ _ h => h) (yieldsIf_load_mid (by rfl) _ _ rfl _ _ rfl _ _ (fun w0 hw => hw.2.2.2.2.2.2.1) HU.out rfl hij) hHeld ?_
          simp only [Act.put, List.setIfInBounds_toArray, List.set_cons_zero, List.set_cons_succ]
          refine wpAnyH_take (i := 5) (oi := { dst := some 55, op := Op.load 24 (Operand.tmp 4), type := 24, pos := "outright.go:154", after := #[{ on := 1, ground := Ground.guard }], guard := some (1, true) }) (v := ?_) rfl (by kernel_rfl) (by kernel_rfl) (by kernel_rfl) (fun _ _ _ h => h) (Or.inl ⟨by rfl, ?_⟩) hHeld ?_
          rotate_left 1
          · (intro w0 hSw; (try dsimp only at hSw); go_simp; try with_reducible rfl)
          simp only [Act.put, List.setIfInBounds_toArray, List.set_cons_zero, List.set_cons_succ]
          refine wpAnyH_take (i := 6) (oi := { dst := some 56, op := Op.load 26 (Operand.tmp 7), type := 26, pos := "outright.go:154", after := #[{ on := 1, ground := Ground.guard }], guard := some (1, true) }) rfl (by kernel_rfl) (by kernel_rfl) (by kernel_rfl) (fun _ _ _ h => h) (yieldsIf_load_mid (by rfl) _ _ rfl _ _ rfl _ _ (fun w0 hw => hw.2.2.2.2.2.2.2.1) HU.out rfl hik) hHeld ?_
          simp only [Act.put, List.setIfInBounds_toArray, List.set_cons_zero, List.set_cons_succ]
          refine wpAnyH_take (i := 9) (oi := { dst := some 59, op := Op.load 24 (Operand.tmp 4), type := 24, pos := "outright.go:154", after := #[{ on := 1, ground := Ground.guard }], guard := some (1, true) }) (v := ?_) rfl (by kernel_rfl) (by kernel_rfl) (by kernel_rfl) (fun _ _ _ h => h) (Or.inl ⟨by rfl, ?_⟩) hHeld ?_
          rotate_left 1
          · (intro w0 hSw; (try dsimp only at hSw); go_simp; try with_reducible rfl)
          simp only [Act.put, List.setIfInBounds_toArray, List.set_cons_zero, List.set_cons_succ]
          refine wpAnyH_take (i := 10) (oi := { dst := some 60, op := Op.load 26 (Operand.tmp 11), type := 26, pos := "outright.go:154", after := #[{ on := 1, ground := Ground.guard }], guard := some (1, true) }) rfl (by kernel_rfl) (by kernel_rfl) (by kernel_rfl) (fun _ _ _ h => h) (yieldsIf_load_mid (by rfl) _ _ rfl _ _ rfl _ _ (fun w0 hw => hw.2.2.2.2.2.2.2.2) HU.out rfl his) hHeld ?_
          simp only [Act.put, List.setIfInBounds_toArray, List.set_cons_zero, List.set_cons_succ]
          refine wpAnyH_ready (rs := [4]) (by kernel_rfl) (by simp) ?_
          refine AllReadyH.cons (o := { dst := some 54, op := Op.call { callee := Callee.value (Operand.func 6), args := #[Operand.tmp 52, Operand.tmp 53], argTypes := #[24, 26] }, type := 24, pos := "outright.go:154", after := #[{ on := 2, ground := Ground.data }, { on := 3, ground := Ground.data }, { on := 1, ground := Ground.chain }, { on := 1, ground := Ground.guard }], guard := some (1, true) }) rfl (fun K hK => ?_) AllReadyH.nil
          go_simp
          refine (p_j.out _).mono ?_
          rintro e wn ⟨rfl, hb⟩
          have hk := hidden (KS.out _ (hHeld.1.keep hb) (range_keep hHeld.2.2.2.2.2.2.2.2 hb))
          go_wp2_with fail
          refine hK.out _ _ hk.out (fun hHeld2 => ?_)
          clear hK K hHeld
          have hHeld := hHeld2
          clear hHeld2
          refine wpAnyH_ready (rs := [7]) (by kernel_rfl) (by simp) ?_
          refine AllReadyH.cons (o := { dst := some 57, op := Op.call { callee := Callee.value (Operand.func 6), args := #[Operand.tmp 55, Operand.tmp 56], argTypes := #[24, 26] }, type := 24, pos := "outright.go:154", after := #[{ on := 5, ground := Ground.data }, { on := 6, ground := Ground.data }, { on := 4, ground := Ground.chain }, { on := 1, ground := Ground.guard }], guard := some (1, true) }) rfl (fun K hK => ?_) AllReadyH.nil
          go_simp
          refine (p_k.out _).mono ?_
          rintro e wn ⟨rfl, hb⟩
          have hk := hidden (KS.out _ (hHeld.1.keep hb) (range_keep hHeld.2.2.2.2.2.2.2.2 hb))
          go_wp2_with fail
          refine hK.out _ _ hk.out (fun hHeld2 => ?_)
          clear hK K hHeld
          have hHeld := hHeld2
          clear hHeld2
          refine wpAnyH_ready (rs := [8]) (by kernel_rfl) (by simp) ?_
          refine AllReadyH.cons (o := { dst := some 58, op := Op.call { callee := Callee.value (Operand.func 11), args := #[Operand.tmp 54, Operand.tmp 57], argTypes := #[24, 24] }, type := 24, pos := "outright.go:154", after := #[{ on := 4, ground := Ground.data }, { on := 7, ground := Ground.data }, { on := 7, ground := Ground.chain }, { on := 1, ground := Ground.guard }], guard := some (1, true) }) rfl (fun K hK => ?_) AllReadyH.nil
          go_simp
          refine (m_jk.out _).mono ?_
          rintro e wn ⟨rfl, hb⟩
          have hk := hidden (KS.out _ (hHeld.1.keep hb) (range_keep hHeld.2.2.2.2.2.2.2.2 hb))
          go_wp2_with fail
          refine hK.out _ _ hk.out (fun hHeld2 => ?_)
          clear hK K hHeld
          have hHeld := hHeld2
          clear hHeld2
          refine wpAnyH_ready (rs := [11]) (by kernel_rfl) (by simp) ?_
          refine AllReadyH.cons (o := { dst := some 61, op := Op.call { callee := Callee.value (Operand.func 6), args := #[Operand.tmp 59, Operand.tmp 60], argTypes := #[24, 26] }, type := 24, pos := "outright.go:154", after := #[{ on := 9, ground := Ground.data }, { on := 10, ground := Ground.data }, { on := 8, ground := Ground.chain }, { on := 1, ground := Ground.guard }], guard := some (1, true) }) rfl (fun K hK => ?_) AllReadyH.nil
          go_simp
          refine (p_t.out _).mono ?_
          rintro e wn ⟨rfl, hb⟩
          have hk := hidden (KS.out _ (hHeld.1.keep hb) (range_keep hHeld.2.2.2.2.2.2.2.2 hb))
          go_wp2_with fail
          refine hK.out _ _ hk.out (fun hHeld2 => ?_)
          clear hK K hHeld
          have hHeld := hHeld2
          clear hHeld2
          refine wpAnyH_take (i := 12) (oi := { dst := some 62, op := Op.binOp BinOp.neq 24 (Operand.tmp 58) (Operand.tmp 61) 24, type := 4, pos := "outright.go:154", after := #[{ on := 8, ground := Ground.data }, { on := 11, ground := Ground.data }, { on := 1, ground := Ground.guard }], guard := some (1, true) }) (v := ?_) rfl (by kernel_rfl) (by kernel_rfl) (by kernel_rfl) (fun _ _ _ h => h) (Or.inl ⟨by rfl, ?_⟩) hHeld ?_
          rotate_left 1
          · (intro w0 hSw; (try dsimp only at hSw); go_simp; try with_reducible rfl)
          simp only [Act.put, List.setIfInBounds_toArray, List.set_cons_zero, List.set_cons_succ]
          refine wpAnyH_take (i := 13) (oi := { dst := some 63, op := Op.pick (Operand.tmp 51) (Operand.tmp 62) (Operand.const (Value.bool false)), type := 4, pos := "outright.go:154", after := #[{ on := 1, ground := Ground.data }, { on := 12, ground := Ground.data }], guard := none }) (v := ?_) rfl (by kernel_rfl) (by kernel_rfl) (by kernel_rfl) (fun _ _ _ h => h) (Or.inl ⟨by rfl, ?_⟩) hHeld ?_
          rotate_left 1
          · (intro w0 hSw; (try dsimp only at hSw); go_simp; try with_reducible rfl)
          simp only [Act.put, List.setIfInBounds_toArray, List.set_cons_zero, List.set_cons_succ]
          refine wpAnyH_done (by kernel_rfl) ?_ _
          refine NoPanic.normal ?_
          go_wp2_with fail
          go_meet
          exact ⟨⟨_, rfl⟩, rfl, hk.out.1⟩
        · have hq : ((cy (num zs) (num ys) 32 : Int) == 0) = false := by simpa using hc
          rw [hq]
          clear p_s hc
          refine wp_region_noPanic ?_
          refine wp_region_held_drew (S := fun w' => PW w a b zs ys w1.heap.size 235 w') (by kernel_rfl) (P6.out.keep ((Below.refl _ _).drew)) (fun hHeld => ?_)
          refine wpAnyH_take (i := 0) (oi := { dst := some 50, op := Op.move (Operand.tmp 12), type := 4, pos := "outright.go:154", after := #[], guard := none }) (v := ?_) rfl (by kernel_rfl) (by kernel_rfl) (by kernel_rfl) (fun _ _ _ h => h) (Or.inl ⟨by rfl, ?_⟩) hHeld ?_
          rotate_left 1
          · (intro w0 hSw; (try dsimp only at hSw); go_simp; try with_reducible rfl)
          simp only [Act.put, List.setIfInBounds_toArray, List.set_cons_zero, List.set_cons_succ]
          refine wpAnyH_take (i := 1) (oi := { dst := some 51, op := Op.move (Operand.tmp 50), type := 4, pos := "outright.go:154", after := #[{ on := 0, ground := Ground.data }], guard := none }) (v := ?_) rfl (by kernel_rfl) (by kernel_rfl) (by kernel_rfl) (fun _ _ _ h => h) (Or.inl ⟨by rfl, ?_⟩) hHeld ?_
          rotate_left 1
          · (intro w0 hSw; (try dsimp only at hSw); go_simp; try with_reducible rfl)
          simp only [Act.put, List.setIfInBounds_toArray, List.set_cons_zero, List.set_cons_succ]
          refine wpAnyH_take (i := 2) (oi := { dst := some 52, op := Op.load 24 (Operand.tmp 4), type := 24, pos := "outright.go:154", after := #[{ on := 1, ground := Ground.guard }], guard := some (1, true) }) (v := undef) rfl (by kernel_rfl) (by kernel_rfl) (by kernel_rfl) (fun _ _ _ h => h) (Or.inr ⟨by rfl, rfl⟩) hHeld ?_
          simp only [Act.put, List.setIfInBounds_toArray, List.set_cons_zero, List.set_cons_succ]
          refine wpAnyH_take (i := 3) (oi := { dst := some 53, op := Op.load 26 (Operand.tmp 6), type := 26, pos := "outright.go:154", after := #[{ on := 1, ground := Ground.guard }], guard := some (1, true) }) (v := undef) rfl (by kernel_rfl) (by kernel_rfl) (by kernel_rfl) (fun _ _ _ h => h) (Or.inr ⟨by rfl, rfl⟩) hHeld ?_
          simp only [Act.put, List.setIfInBounds_toArray, List.set_cons_zero, List.set_cons_succ]
          refine wpAnyH_take (i := 4) (oi := { dst := some 54, op := Op.call { callee := Callee.value (Operand.func 6), args := #[Operand.tmp 52, Operand.tmp 53], argTypes := #[24, 26] }, type := 24, pos := "outright.go:154", after := #[{ on := 2, ground := Ground.data }, { on := 3, ground := Ground.data }, { on := 1, ground := Ground.chain }, { on := 1, ground := Ground.guard }], guard := some (1, true) }) (v := undef) rfl (by kernel_rfl) (by kernel_rfl) (by kernel_rfl) (fun _ _ _ h => h) (Or.inr ⟨by rfl, rfl⟩) hHeld ?_
          simp only [Act.put, List.setIfInBounds_toArray, List.set_cons_zero, List.set_cons_succ]
          refine wpAnyH_take (i := 5) (oi := { dst := some 55, op := Op.load 24 (Operand.tmp 4), type := 24, pos := "outright.go:154", after := #[{ on := 1, ground := Ground.guard }], guard := some (1, true) }) (v := undef) rfl (by kernel_rfl) (by kernel_rfl) (by kernel_rfl) (fun _ _ _ h => h) (Or.inr ⟨by rfl, rfl⟩) hHeld ?_
          simp only [Act.put, List.setIfInBounds_toArray, List.set_cons_zero, List.set_cons_succ]
          refine wpAnyH_take (i := 6) (oi := { dst := some 56, op := Op.load 26 (Operand.tmp 7), type := 26, pos := "outright.go:154", after := #[{ on := 1, ground := Ground.guard }], guard := some (1, true) }) (v := undef) rfl (by kernel_rfl) (by kernel_rfl) (by kernel_rfl) (fun _ _ _ h => h) (Or.inr ⟨by rfl, rfl⟩) hHeld ?_
          simp only [Act.put, List.setIfInBounds_toArray, List.set_cons_zero, List.set_cons_succ]
          refine wpAnyH_take (i := 7) (oi := { dst := some 57, op := Op.call { callee := Callee.value (Operand.func 6), args := #[Operand.tmp 55, Operand.tmp 56], argTypes := #[24, 26] }, type := 24, pos := "outright.go:154", after := #[{ on := 5, ground := Ground.data }, { on := 6, ground := Ground.data }, { on := 4, ground := Ground.chain }, { on := 1, ground := Ground.guard }], guard := some (1, true) }) (v := undef) rfl (by kernel_rfl) (by kernel_rfl) (by kernel_rfl) (fun _ _ _ h => h) (Or.inr ⟨by rfl, rfl⟩) hHeld ?_
          simp only [Act.put, List.setIfInBounds_toArray, List.set_cons_zero, List.set_cons_succ]
          refine wpAnyH_take (i := 8) (oi := { dst := some 58, op := Op.call { callee := Callee.value (Operand.func 11), args := #[Operand.tmp 54, Operand.tmp 57], argTypes := #[24, 24] }, type := 24, pos := "outright.go:154", after := #[{ on := 4, ground := Ground.data }, { on := 7, ground := Ground.data }, { on := 7, ground := Ground.chain }, { on := 1, ground := Ground.guard }], guard := some (1, true) }) (v := undef) rfl (by kernel_rfl) (by kernel_rfl) (by kernel_rfl) (fun _ _ _ h => h) (Or.inr ⟨by rfl, rfl⟩) hHeld ?_
          simp only [Act.put, List.setIfInBounds_toArray, List.set_cons_zero, List.set_cons_succ]
          refine wpAnyH_take (i := 9) (oi := { dst := some 59, op := Op.load 24 (Operand.tmp 4), type := 24, pos := "outright.go:154", after := #[{ on := 1, ground := Ground.guard }], guard := some (1, true) }) (v := undef) rfl (by kernel_rfl) (by kernel_rfl) (by kernel_rfl) (fun _ _ _ h => h) (Or.inr ⟨by rfl, rfl⟩) hHeld ?_
          simp only [Act.put, List.setIfInBounds_toArray, List.set_cons_zero, List.set_cons_succ]
          refine wpAnyH_take (i := 10) (oi := { dst := some 60, op := Op.load 26 (Operand.tmp 11), type := 26, pos := "outright.go:154", after := #[{ on := 1, ground := Ground.guard }], guard := some (1, true) }) (v := undef) rfl (by kernel_rfl) (by kernel_rfl) (by kernel_rfl) (fun _ _ _ h => h) (Or.inr ⟨by rfl, rfl⟩) hHeld ?_
          simp only [Act.put, List.setIfInBounds_toArray, List.set_cons_zero, List.set_cons_succ]
          refine wpAnyH_take (i := 11) (oi := { dst := some 61, op := Op.call { callee := Callee.value (Operand.func 6), args := #[Operand.tmp 59, Operand.tmp 60], argTypes := #[24, 26] }, type := 24, pos := "outright.go:154", after := #[{ on := 9, ground := Ground.data }, { on := 10, ground := Ground.data }, { on := 8, ground := Ground.chain }, { on := 1, ground := Ground.guard }], guard := some (1, true) }) (v := undef) rfl (by kernel_rfl) (by kernel_rfl) (by kernel_rfl) (fun _ _ _ h => h) (Or.inr ⟨by rfl, rfl⟩) hHeld ?_
          simp only [Act.put, List.setIfInBounds_toArray, List.set_cons_zero, List.set_cons_succ]
          refine wpAnyH_take (i := 12) (oi := { dst := some 62, op := Op.binOp BinOp.neq 24 (Operand.tmp 58) (Operand.tmp 61) 24, type := 4, pos := "outright.go:154", after := #[{ on := 8, ground := Ground.data }, { on := 11, ground := Ground.data }, { on := 1, ground := Ground.guard }], guard := some (1, true) }) (v := undef) rfl (by kernel_rfl) (by kernel_rfl) (by kernel_rfl) (fun _ _ _ h => h) (Or.inr ⟨by rfl, rfl⟩) hHeld ?_
          simp only [Act.put, List.setIfInBounds_toArray, List.set_cons_zero, List.set_cons_succ]
          refine wpAnyH_take (i := 13) (oi := { dst := some 63, op := Op.pick (Operand.tmp 51) (Operand.tmp 62) (Operand.const (Value.bool false)), type := 4, pos := "outright.go:154", after := #[{ on := 1, ground := Ground.data }, { on := 12, ground := Ground.data }], guard := none }) (v := ?_) rfl (by kernel_rfl) (by kernel_rfl) (by kernel_rfl) (fun _ _ _ h => h) (Or.inl ⟨by rfl, ?_⟩) hHeld ?_
          rotate_left 1
          · (intro w0 hSw; (try dsimp only at hSw); go_simp; try with_reducible rfl)
          simp only [Act.put, List.setIfInBounds_toArray, List.set_cons_zero, List.set_cons_succ]
          refine wpAnyH_done (by kernel_rfl) ?_ _
          refine NoPanic.normal ?_
          go_wp2_with fail
          go_meet
          exact ⟨⟨_, rfl⟩, rfl, hHeld⟩
      case rest =>
      obtain ⟨⟨bb, rfl⟩, rfl, P7⟩ := hcut
      clear P6 RO p_s
      replace P7 := hidden P7
      go_upto_region 17 with fail
      have KS : Hid (∀ w' : World, PW w a b zs ys w1.heap.size 235 w' → (fun w' => PW w a b zs ys w1.heap.size 235 w' ∧ w'.cell? ⟨w.heap.size, 0, none⟩ = some (.int .u64 a.x0) ∧ w'.cell? ⟨w.heap.size, 1, none⟩ = some (.int .u64 a.x1) ∧ w'.cell? ⟨w.heap.size, 2, none⟩ = some (.int .u64 a.x2) ∧ w'.cell? ⟨w.heap.size, 3, none⟩ = some (.int .u64 a.x3) ∧ w'.cell? ⟨w.heap.size, 4, none⟩ = some (.int .u64 a.x4) ∧ w'.cell? ⟨w.heap.size + 1, 0, none⟩ = some (.int .u64 b.x0) ∧ w'.cell? ⟨w.heap.size + 1, 1, none⟩ = some (.int .u64 b.x1) ∧ w'.cell? ⟨w.heap.size + 1, 2, none⟩ = some (.int .u64 b.x2) ∧ w'.cell? ⟨w.heap.size + 1, 3, none⟩ = some (.int .u64 b.x3) ∧ w'.cell? ⟨w.heap.size + 1, 4, none⟩ = some (.int .u64 b.x4) ∧ w'.rangeAt (w.heap.size + 1 + 1 + 1) 0 (ys.map fun z => Value.int .u8 z)) w') := hidden (fun w' h => ⟨h, h.xw.ba.c0, h.xw.ba.c1, h.xw.ba.c2, h.xw.ba.c3, h.xw.ba.c4, h.xw.bb.c0, h.xw.bb.c1, h.xw.bb.c2, h.xw.bb.c3, h.xw.bb.c4, h.xw.bk⟩)
      have K0 := hidden (KS.out _ ((P7.out).keep ((Below.refl _ _).drew)))
      refine wp_region_noPanic ?_
      refine wp_region_held_drew (S := fun w' => PW w a b zs ys w1.heap.size 235 w' ∧ w'.cell? ⟨w.heap.size, 0, none⟩ = some (.int .u64 a.x0) ∧ w'.cell? ⟨w.heap.size, 1, none⟩ = some (.int .u64 a.x1) ∧ w'.cell? ⟨w.heap.size, 2, none⟩ = some (.int .u64 a.x2) ∧ w'.cell? ⟨w.heap.size, 3, none⟩ = some (.int .u64 a.x3) ∧ w'.cell? ⟨w.heap.size, 4, none⟩ = some (.int .u64 a.x4) ∧ w'.cell? ⟨w.heap.size + 1, 0, none⟩ = some (.int .u64 b.x0) ∧ w'.cell? ⟨w.heap.size + 1, 1, none⟩ = some (.int .u64 b.x1) ∧ w'.cell? ⟨w.heap.size + 1, 2, none⟩ = some (.int .u64 b.x2) ∧ w'.cell? ⟨w.heap.size + 1, 3, none⟩ = some (.int .u64 b.x3) ∧ w'.cell? ⟨w.heap.size + 1, 4, none⟩ = some (.int .u64 b.x4) ∧ w'.rangeAt (w.heap.size + 1 + 1 + 1) 0 (ys.map fun z => Value.int .u8 z)) (by kernel_rfl) K0.out (fun hHeld => ?_)
      refine wpAnyH_take (i := 0) (oi := { dst := some 64, op := Op.load 24 (Operand.tmp 4), type := 24, pos := "outright.go:157", after := #[], guard := none }) (v := ?_) rfl (by kernel_rfl) (by kernel_rfl) (by kernel_rfl) (fun _ _ _ h => h) (Or.inl ⟨by rfl, ?_⟩) hHeld ?_
      rotate_left 1
      · (intro w0 hSw; (try dsimp only at hSw); go_simp; try with_reducible rfl)
      simp only [Act.put, List.setIfInBounds_toArray, List.set_cons_zero, List.set_cons_succ]
      refine wpAnyH_take (i := 1) (oi := { dst := some 65, op := Op.load 24 (Operand.tmp 5), type := 24, pos := "outright.go:157", after := #[], guard := none }) (v := ?_) rfl (by kernel_rfl) (by kernel_rfl) (by kernel_rfl) (fun _ _ _ h => h) (Or.inl ⟨by rfl, ?_⟩) hHeld ?_
      rotate_left 1
      · (intro w0 hSw; (try dsimp only at hSw); go_simp; try with_reducible rfl)
      simp only [Act.put, List.setIfInBounds_toArray, List.set_cons_zero, List.set_cons_succ]
      refine wpAnyH_take (i := 3) (oi := { dst := some 67, op := Op.load 26 (Operand.tmp 7), type := 26, pos := "outright.go:157", after := #[], guard := none }) rfl (by kernel_rfl) (by kernel_rfl) (by kernel_rfl) (fun _ _ _ h => h) (yieldsIf_load_mid (by rfl) _ _ rfl _ _ rfl _ _ (fun w0 hw => hw.2.2.2.2.2.2.2.2.2.2.2) HU.out rfl hik) hHeld ?_
      simp only [Act.put, List.setIfInBounds_toArray, List.set_cons_zero, List.set_cons_succ]
      refine wpAnyH_take (i := 5) (oi := { dst := some 69, op := Op.load 24 (Operand.tmp 4), type := 24, pos := "outright.go:157", after := #[], guard := none }) (v := ?_) rfl (by kernel_rfl) (by kernel_rfl) (by kernel_rfl) (fun _ _ _ h => h) (Or.inl ⟨by rfl, ?_⟩) hHeld ?_
      rotate_left 1
      · (intro w0 hSw; (try dsimp only at hSw); go_simp; try with_reducible rfl)
      simp only [Act.put, List.setIfInBounds_toArray, List.set_cons_zero, List.set_cons_succ]
      refine wpAnyH_take (i := 6) (oi := { dst := some 70, op := Op.load 26 (Operand.tmp 7), type := 26, pos := "outright.go:157", after := #[], guard := none }) rfl (by kernel_rfl) (by kernel_rfl) (by kernel_rfl) (fun _ _ _ h => h) (yieldsIf_load_mid (by rfl) _ _ rfl _ _ rfl _ _ (fun w0 hw => hw.2.2.2.2.2.2.2.2.2.2.2) HU.out rfl hik) hHeld ?_
      simp only [Act.put, List.setIfInBounds_toArray, List.set_cons_zero, List.set_cons_succ]
      refine wpAnyH_take (i := 8) (oi := { dst := some 72, op := Op.load 24 (Operand.tmp 5), type := 24, pos := "outright.go:157", after := #[], guard := none }) (v := ?_) rfl (by kernel_rfl) (by kernel_rfl) (by kernel_rfl) (fun _ _ _ h => h) (Or.inl ⟨by rfl, ?_⟩) hHeld ?_
      rotate_left 1
      · (intro w0 hSw; (try dsimp only at hSw); go_simp; try with_reducible rfl)
      simp only [Act.put, List.setIfInBounds_toArray, List.set_cons_zero, List.set_cons_succ]
      refine wpAnyH_take (i := 9) (oi := { dst := some 73, op := Op.load 26 (Operand.tmp 7), type := 26, pos := "outright.go:157", after := #[], guard := none }) rfl (by kernel_rfl) (by kernel_rfl) (by kernel_rfl) (fun _ _ _ h => h) (yieldsIf_load_mid (by rfl) _ _ rfl _ _ rfl _ _ (fun w0 hw => hw.2.2.2.2.2.2.2.2.2.2.2) HU.out rfl hik) hHeld ?_
      simp only [Act.put, List.setIfInBounds_toArray, List.set_cons_zero, List.set_cons_succ]
      refine wpAnyH_ready (rs := [2]) (by kernel_rfl) (by simp) ?_
      refine AllReadyH.cons (o := { dst := some 66, op := Op.call { callee := Callee.value (Operand.func 11), args := #[Operand.tmp 64, Operand.tmp 65], argTypes := #[24, 24] }, type := 24, pos := "outright.go:157", after := #[{ on := 0, ground := Ground.data }, { on := 1, ground := Ground.data }], guard := none }) rfl (fun K hK => ?_) AllReadyH.nil
      go_simp
      refine (m_ab.out _).mono ?_
      rintro e wn ⟨rfl, hb⟩
      have hk := hidden (KS.out _ (hHeld.1.keep hb))
      go_wp2_with fail
      refine hK.out _ _ hk.out (fun hHeld2 => ?_)
      clear hK K hHeld
      have hHeld := hHeld2
      clear hHeld2
      refine wpAnyH_ready (rs := [4]) (by kernel_rfl) (by simp) ?_
      refine AllReadyH.cons (o := { dst := some 68, op := Op.call { callee := Callee.value (Operand.func 6), args := #[Operand.tmp 66, Operand.tmp 67], argTypes := #[24, 26] }, type := 24, pos := "outright.go:157", after := #[{ on := 2, ground := Ground.data }, { on := 3, ground := Ground.data }, { on := 2, ground := Ground.chain }], guard := none }) rfl (fun K hK => ?_) AllReadyH.nil
      go_simp
      refine (p_M.out _).mono ?_
      rintro e wn ⟨rfl, hb⟩
      have hk := hidden (KS.out _ (hHeld.1.keep hb))
      go_wp2_with fail
      refine hK.out _ _ hk.out (fun hHeld2 => ?_)
      clear hK K hHeld
      have hHeld := hHeld2
      clear hHeld2
      refine wpAnyH_ready (rs := [7]) (by kernel_rfl) (by simp) ?_
      refine AllReadyH.cons (o := { dst := some 71, op := Op.call { callee := Callee.value (Operand.func 6), args := #[Operand.tmp 69, Operand.tmp 70], argTypes := #[24, 26] }, type := 24, pos := "outright.go:157", after := #[{ on := 5, ground := Ground.data }, { on := 6, ground := Ground.data }, { on := 4, ground := Ground.chain }], guard := none }) rfl (fun K hK => ?_) AllReadyH.nil
      go_simp
      refine (p_k.out _).mono ?_
      rintro e wn ⟨rfl, hb⟩
      have hk := hidden (KS.out _ (hHeld.1.keep hb))
      go_wp2_with fail
      refine hK.out _ _ hk.out (fun hHeld2 => ?_)
      clear hK K hHeld
      have hHeld := hHeld2
      clear hHeld2
      refine wpAnyH_ready (rs := [10]) (by kernel_rfl) (by simp) ?_
      refine AllReadyH.cons (o := { dst := some 74, op := Op.call { callee := Callee.value (Operand.func 6), args := #[Operand.tmp 72, Operand.tmp 73], argTypes := #[24, 26] }, type := 24, pos := "outright.go:157", after := #[{ on := 8, ground := Ground.data }, { on := 9, ground := Ground.data }, { on := 7, ground := Ground.chain }], guard := none }) rfl (fun K hK => ?_) AllReadyH.nil
      go_simp
      refine (p_b.out _).mono ?_
      rintro e wn ⟨rfl, hb⟩
      have hk := hidden (KS.out _ (hHeld.1.keep hb))
      go_wp2_with fail
      refine hK.out _ _ hk.out (fun hHeld2 => ?_)
      clear hK K hHeld
      have hHeld := hHeld2
      clear hHeld2
      refine wpAnyH_ready (rs := [11]) (by kernel_rfl) (by simp) ?_
      refine AllReadyH.cons (o := { dst := some 75, op := Op.call { callee := Callee.value (Operand.func 11), args := #[Operand.tmp 71, Operand.tmp 74], argTypes := #[24, 24] }, type := 24, pos := "outright.go:157", after := #[{ on := 7, ground := Ground.data }, { on := 10, ground := Ground.data }, { on := 10, ground := Ground.chain }], guard := none }) rfl (fun K hK => ?_) AllReadyH.nil
      go_simp
      refine (m_kb.out _).mono ?_
      rintro e wn ⟨rfl, hb⟩
      have hk := hidden (KS.out _ (hHeld.1.keep hb))
      go_wp2_with fail
      refine hK.out _ _ hk.out (fun hHeld2 => ?_)
      clear hK K hHeld
      have hHeld := hHeld2
      clear hHeld2
      refine wpAnyH_take (i := 12) (oi := { dst := some 76, op := Op.binOp BinOp.eql 24 (Operand.tmp 68) (Operand.tmp 75) 24, type := 4, pos := "outright.go:157", after := #[{ on := 4, ground := Ground.data }, { on := 11, ground := Ground.data }], guard := none }) (v := ?_) rfl (by kernel_rfl) (by kernel_rfl) (by kernel_rfl) (fun _ _ _ h => h) (Or.inl ⟨by rfl, ?_⟩) hHeld ?_
      rotate_left 1
      · (intro w0 hSw; (try dsimp only at hSw); go_simp; try with_reducible rfl)
      simp only [Act.put, List.setIfInBounds_toArray, List.set_cons_zero, List.set_cons_succ]
      refine wpAnyH_take (i := 13) (oi := { dst := some 8, op := Op.assign (Operand.tmp 76), type := 4, pos := "outright.go:157", after := #[{ on := 12, ground := Ground.data }, { on := 11, ground := Ground.chain }, { on := 0, ground := Ground.phase }, { on := 1, ground := Ground.phase }, { on := 2, ground := Ground.phase }, { on := 3, ground := Ground.phase }, { on := 4, ground := Ground.phase }, { on := 5, ground := Ground.phase }, { on := 6, ground := Ground.phase }, { on := 7, ground := Ground.phase }, { on := 8, ground := Ground.phase }, { on := 9, ground := Ground.phase }, { on := 10, ground := Ground.phase }, { on := 11, ground := Ground.phase }, { on := 12, ground := Ground.phase }], guard := none }) (v := ?_) rfl (by kernel_rfl) (by kernel_rfl) (by kernel_rfl) (fun _ _ _ h => h) (Or.inl ⟨by rfl, ?_⟩) hHeld ?_
      rotate_left 1
      · (intro w0 hSw; (try dsimp only at hSw); go_simp; try with_reducible rfl)
      simp only [Act.put, List.setIfInBounds_toArray, List.set_cons_zero, List.set_cons_succ]
      refine wpAnyH_done (by kernel_rfl) ?_ _
      refine NoPanic.normal ?_
      go_wp2_with fail
      go_ret
      exact ⟨rfl, hk.out.1.xw.bel⟩
end Go.Proofs.Ytalalgppdhpfiaa
