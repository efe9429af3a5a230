import Derived.Test.YtebegeedaehndacDoorSkw
import Derived.Test.YtebegeedaehndacDoorSke
import Derived.Test.YtebegeedaehndacDoorSwi
import Derived.Test.YtebegeedaehndacDoorSse
namespace Go.Proofs.YtebegeedaehndacDoor
open Go.RowKit

set_option maxRecDepth 100000 in
set_option maxHeartbeats 4000000 in
theorem of_any2 (a : E4) (w : World) (ha : a.ok) :
    Calls Tryd.prog 7 #[a.v] w fun e w' => e = .returned (lst a.n).v ∧ Below w.heap.size w w' := by
  have s0 := (St.start w a 24).room 32
  simp only [World.size_alloc] at s0
  have S0 := hidden s0
  obtain ⟨A, hA⟩ : ∃ t : E4, lst a.n = t := ⟨_, rfl⟩
  have CA := hidden (fun w => fix (rleast_any a w ha) hA)
  rw [hA]
  clear s0 ha hA
  simp only [E4.v] at CA ⊢
  go_enter Tryd.func7, Tryd.ntmps7
  go_upto_region 1 with fail
  generalize ((w.alloc (.cells #[.int .u64 a.x0, .int .u64 a.x1, .int .u64 a.x2, .int .u64 a.x3] 24)).alloc (.cells #[.int .u64 0, .int .u64 0, .int .u64 0, .int .u64 0] 32)) = wB at S0 ⊢
  have x0 := (S0.out.live (w.heap.size, a) (by simp)).c0
  have x1 := (S0.out.live (w.heap.size, a) (by simp)).c1
  have x2 := (S0.out.live (w.heap.size, a) (by simp)).c2
  have x3 := (S0.out.live (w.heap.size, a) (by simp)).c3
  go_wp2_with fail
  refine (CA.out _).mono ?_
  rintro e w2 ⟨rfl, hb⟩
  have S2 := hidden (S0.out.keep hb)
  clear x0 x1 x2 x3 hb S0
  have d0 := (S2.out.live (w.heap.size + 1, zero4) (by simp)).c0
  have d1 := (S2.out.live (w.heap.size + 1, zero4) (by simp)).c1
  have d2 := (S2.out.live (w.heap.size + 1, zero4) (by simp)).c2
  have d3 := (S2.out.live (w.heap.size + 1, zero4) (by simp)).c3
  obtain ⟨f0, f1, f2, f3⟩ := (S2.out.wrt (w.heap.size + 1) (by simp)).1
  go_wp2_with fail
  refine bodyPost_ret (v := .agg #[.int .u64 A.x0, .int .u64 A.x1, .int .u64 A.x2, .int .u64 A.x3]) (by simp [results, Tryd.results7, go_sem, d0, d1, d2, d3]) rfl ⟨rfl, ?_⟩
  exact set4_below _ _ _ S2.out.bel (by omega)

/-- scalars that lie there, and the two rows of bytes -/
structure KW (w0 : World) (L : List (Nat × E4)) (cs ds : List Value) (w : World) : Prop where
  st : St w0 L [] w
  rg : w.rangeAt (w0.heap.size + 1) 0 cs
  rh : w.rangeAt (w0.heap.size + 1 + 1) 0 ds
theorem KW.keep {w0 : World} {L : List (Nat × E4)} {cs ds : List Value} {w1 w2 : World} (h : KW w0 L cs ds w1) (hb : Below w1.heap.size w1 w2) : KW w0 L cs ds w2 := ⟨h.st.keep hb, range_keep h.rg hb, range_keep h.rh hb⟩
theorem KW.drew {w0 : World} {L : List (Nat × E4)} {cs ds : List Value} {w1 : World} (h : KW w0 L cs ds w1) : KW w0 L cs ds w1.drew := h.keep ((Below.refl _ _).drew)
theorem KW.new {w0 : World} {L : List (Nat × E4)} {cs ds : List Value} {w1 : World} (h : KW w0 L cs ds w1) (r : E4) (t : TypeId) :
    KW w0 ((w1.heap.size, r) :: L) cs ds (w1.alloc (.cells #[.int .u64 r.x0, .int .u64 r.x1, .int .u64 r.x2, .int .u64 r.x3] t)) := ⟨h.st.new r t, range_keep h.rg (bl_alloc _ _), range_keep h.rh (bl_alloc _ _)⟩

theorem num_app : ∀ (us vs : List Int), num (us ++ vs) = num us + 256 ^ us.length * num vs
  | [], vs => by simp [num]
  | u :: us, vs => by
    simp only [List.cons_append, num, num_app us vs, List.length_cons, Nat.pow_succ]
    rw [Nat.mul_add, ← Nat.mul_assoc, Nat.mul_comm 256 (256 ^ us.length)]
    omega

set_option maxRecDepth 100000 in
set_option maxHeartbeats 64000000 in
theorem codec_any (a : E4) (n : Int) (zs ys : List Int) (w : World) (hT : Tb w) (ha : a.ok) (hn : Sm.Wd n) (lz : zs.length = 32) (hz : ∀ z ∈ zs, 0 ≤ z ∧ z ≤ 255) (ly : ys.length = 64) (hy : ∀ z ∈ ys, 0 ≤ z ∧ z ≤ 255) : Calls Tryd.prog 3 #[a.v, .int .u64 n, bv zs, bv ys] w fun e w' => e = .returned (.bool true) ∧ Below w.heap.size w w' := by
  obtain ⟨LA, hLA⟩ : ∃ t : E4, lst a.n = t := ⟨_, rfl⟩
  obtain ⟨NE, hNE⟩ : ∃ t : E4, (⟨n, 0, 0, 0⟩ : E4) = t := ⟨_, rfl⟩
  obtain ⟨RZ, hRZ⟩ : ∃ t : E4, lst (num zs) = t := ⟨_, rfl⟩
  obtain ⟨WZ, hWZ⟩ : ∃ t : E4, lst (num ys) = t := ⟨_, rfl⟩
  obtain ⟨B, hB⟩ : ∃ B, decide ((num zs : Int) < Sm.L) = B := ⟨_, rfl⟩
  obtain ⟨D, hD⟩ : ∃ t : E4, cond B (limE (num zs)) zero4 = t := ⟨_, rfl⟩
  obtain ⟨ev, hev⟩ : ∃ t : Int, cond B 0 3 = t := ⟨_, rfl⟩
  have hyy : ys = ys.take 32 ++ ys.drop 32 := (List.take_append_drop 32 ys).symm
  have lu : (ys.take 32).length = 32 := by simp [ly]
  have lv : (ys.drop 32).length = 32 := by simp [ly]
  have hwn : lst (num (ys.take 32) + num (ys.drop 32) * R) = WZ := by
    rw [← hWZ]
    have e1 : num ys = num (ys.take 32) + 256 ^ 32 * num (ys.drop 32) := by
      have := num_app (ys.take 32) (ys.drop 32)
      rw [lu, ← hyy] at this
      exact this
    rw [e1, Int.natCast_add, Int.natCast_mul, Int.mul_comm ((256 ^ 32 : Nat) : Int)]
    rfl
  have le_a := hidden (fun w T => fix (Least_any a w T ha) hLA)
  have of_a := hidden (fun w => of_any2 a w ha)
  have in_n := hidden (fun w => fix (Int_any n w hn) ((int_is n hn).trans hNE))
  have ri_n := hidden (fun w => rInt_any n w)
  have on_a := hidden (fun w => fix (One_any a w) lst1)
  have ri_1 := hidden (fun w => rInt_any 1 w)
  have de_z := hidden (fun w T => Decode_any zs w T lz hz B hB)
  have rd_z := hidden (fun w => rDecode_any zs w lz hz B hB)
  have re_z := hidden (fun w T => fix (Reduce_any zs w T lz hz) hRZ)
  have rr_z := hidden (fun w => rReduce_any zs w lz hz)
  have wi_y := hidden (fun w T => fix (Wide_any (ys.take 32) (ys.drop 32) w T lu (fun z h => hy z (List.mem_of_mem_take h)) lv (fun z h => hy z (List.mem_of_mem_drop h))) hwn)
  have rw_y := hidden (fun w => fix (rWide_any ys w ly hy) hWZ)
  have en_a := hidden (fun w T => Encode_any a w T ha)
  have re_a := hidden (fun w => rEncode_any a.n w)
  rw [← hyy] at wi_y
  rw [hLA] at of_a re_a
  rw [hNE] at ri_n
  rw [hD, hev] at de_z rd_z
  rw [hRZ] at rr_z
  have is_L := hidden (fun w => is_any LA w)
  have is_N := hidden (fun w => is_any NE w)
  have is_1 := hidden (fun w => is_any k1 w)
  have is_D := hidden (fun w => is_any D w)
  have is_R := hidden (fun w => is_any RZ w)
  have is_W := hidden (fun w => is_any WZ w)
  have q_E : ∀ w, (Op.equalIn 10000 26 (.agg ((bytes (a.n % Sm.L)).map fun z => Value.int .u8 z).toArray) (.agg ((bytes (a.n % Sm.L)).map fun z => Value.int .u8 z).toArray)).run Tryd.prog w = .ok true w := fun w => by
    refine (eq32 _ _ w (bytes_len _) (bytes_len _)).trans ?_
    rw [decide_eq_true rfl]
  have hi : (Tryd.prog.info? 26).map (·.size) = some (zs.map fun z => Value.int .u8 z).length := by rw [List.length_map, lz]; kernel_rfl
  have hu : Tryd.prog.underlying 26 = some (.array 32 5) := by kernel_rfl
  have hi2 : (Tryd.prog.info? 28).map (·.size) = some (ys.map fun z => Value.int .u8 z).length := by rw [List.length_map, ly]; kernel_rfl
  have hu2 : Tryd.prog.underlying 28 = some (.array 64 5) := by kernel_rfl
  have HU := hidden hu
  have HI := hidden hi
  have HU2 := hidden hu2
  have HI2 := hidden hi2
  have HT := hidden hT
  have k0 : KW w [(w.heap.size + 1 + 1 + 1, a), (w.heap.size, a)] (zs.map fun z => Value.int .u8 z) (ys.map fun z => Value.int .u8 z) ((((w.alloc (.cells #[.int .u64 a.x0, .int .u64 a.x1, .int .u64 a.x2, .int .u64 a.x3] 24)).alloc (.cells (zs.map fun z => Value.int .u8 z).toArray 26)).alloc (.cells (ys.map fun z => Value.int .u8 z).toArray 28)).alloc (.cells #[.int .u64 a.x0, .int .u64 a.x1, .int .u64 a.x2, .int .u64 a.x3] 29)) := by
    have s := ((((St.start w a 24).keep (bl_alloc _ (.cells (zs.map fun z => Value.int .u8 z).toArray 26))).keep (bl_alloc _ (.cells (ys.map fun z => Value.int .u8 z).toArray 28))).new a 29)
    have r1 := range_keep (range_keep (range_new (w.alloc (.cells #[.int .u64 a.x0, .int .u64 a.x1, .int .u64 a.x2, .int .u64 a.x3] 24)) zs 26) (bl_alloc _ (.cells (ys.map fun z => Value.int .u8 z).toArray 28))) (bl_alloc _ (.cells #[.int .u64 a.x0, .int .u64 a.x1, .int .u64 a.x2, .int .u64 a.x3] 29))
    have r2 := range_keep (range_new ((w.alloc (.cells #[.int .u64 a.x0, .int .u64 a.x1, .int .u64 a.x2, .int .u64 a.x3] 24)).alloc (.cells (zs.map fun z => Value.int .u8 z).toArray 26)) ys 28) (bl_alloc _ (.cells #[.int .u64 a.x0, .int .u64 a.x1, .int .u64 a.x2, .int .u64 a.x3] 29))
    simp only [World.size_alloc] at s r1 r2
    exact ⟨s, r1, r2⟩
  have S0 := hidden k0
  clear k0 hu hi hu2 hi2 hT ha hn lz hz ly hy hLA hNE hRZ hWZ hB hD hev hyy lu lv hwn
  simp only [E4.v, bv, k1] at le_a of_a in_n ri_n on_a ri_1 de_z rd_z re_z rr_z wi_y rw_y en_a re_a is_L is_N is_1 is_D is_R is_W ⊢
  generalize ((bytes (a.n % Sm.L)).map fun z => Value.int .u8 z) = es at *
  generalize (zs.map fun z => Value.int .u8 z) = cs at *
  generalize (ys.map fun z => Value.int .u8 z) = ds at *
  go_enter Tryd.func3, Tryd.ntmps3
  go_upto_region 2 with fail
  generalize ((((w.alloc (.cells #[.int .u64 a.x0, .int .u64 a.x1, .int .u64 a.x2, .int .u64 a.x3] 24)).alloc (.cells cs.toArray 26)).alloc (.cells ds.toArray 28)).alloc (.cells #[.int .u64 a.x0, .int .u64 a.x1, .int .u64 a.x2, .int .u64 a.x3] 29)) = wB at S0 ⊢
  have KA : Hid (∀ w' : World, KW w [(w.heap.size + 1 + 1 + 1, a), (w.heap.size, a)] cs ds w' → (fun w' => KW w [(w.heap.size + 1 + 1 + 1, a), (w.heap.size, a)] cs ds w' ∧ w'.cell? ⟨w.heap.size + 1 + 1 + 1, 0, none⟩ = some (.int .u64 a.x0) ∧ w'.cell? ⟨w.heap.size + 1 + 1 + 1, 1, none⟩ = some (.int .u64 a.x1) ∧ w'.cell? ⟨w.heap.size + 1 + 1 + 1, 2, none⟩ = some (.int .u64 a.x2) ∧ w'.cell? ⟨w.heap.size + 1 + 1 + 1, 3, none⟩ = some (.int .u64 a.x3) ∧ w'.cell? ⟨w.heap.size, 0, none⟩ = some (.int .u64 a.x0) ∧ w'.cell? ⟨w.heap.size, 1, none⟩ = some (.int .u64 a.x1) ∧ w'.cell? ⟨w.heap.size, 2, none⟩ = some (.int .u64 a.x2) ∧ w'.cell? ⟨w.heap.size, 3, none⟩ = some (.int .u64 a.x3)) w') := hidden (fun w' h => ⟨h, (h.st.live (w.heap.size + 1 + 1 + 1, a) (by simp)).c0, (h.st.live (w.heap.size + 1 + 1 + 1, a) (by simp)).c1, (h.st.live (w.heap.size + 1 + 1 + 1, a) (by simp)).c2, (h.st.live (w.heap.size + 1 + 1 + 1, a) (by simp)).c3, (h.st.live (w.heap.size, a) (by simp)).c0, (h.st.live (w.heap.size, a) (by simp)).c1, (h.st.live (w.heap.size, a) (by simp)).c2, (h.st.live (w.heap.size, a) (by simp)).c3⟩)
  have KAT : Hid (∀ w' : World, KW w [(w.heap.size + 1 + 1 + 1, a), (w.heap.size, a)] cs ds w' → Tb w') := hidden (fun w' h => h.st.tb HT.out)
  have K0 : Hid ((fun w' => KW w [(w.heap.size + 1 + 1 + 1, a), (w.heap.size, a)] cs ds w' ∧ w'.cell? ⟨w.heap.size + 1 + 1 + 1, 0, none⟩ = some (.int .u64 a.x0) ∧ w'.cell? ⟨w.heap.size + 1 + 1 + 1, 1, none⟩ = some (.int .u64 a.x1) ∧ w'.cell? ⟨w.heap.size + 1 + 1 + 1, 2, none⟩ = some (.int .u64 a.x2) ∧ w'.cell? ⟨w.heap.size + 1 + 1 + 1, 3, none⟩ = some (.int .u64 a.x3) ∧ w'.cell? ⟨w.heap.size, 0, none⟩ = some (.int .u64 a.x0) ∧ w'.cell? ⟨w.heap.size, 1, none⟩ = some (.int .u64 a.x1) ∧ w'.cell? ⟨w.heap.size, 2, none⟩ = some (.int .u64 a.x2) ∧ w'.cell? ⟨w.heap.size, 3, none⟩ = some (.int .u64 a.x3)) _) := hidden (KA.out _ S0.out.drew)
  go_region_held3 (fun w' => KW w [(w.heap.size + 1 + 1 + 1, a), (w.heap.size, a)] cs ds w' ∧ w'.cell? ⟨w.heap.size + 1 + 1 + 1, 0, none⟩ = some (.int .u64 a.x0) ∧ w'.cell? ⟨w.heap.size + 1 + 1 + 1, 1, none⟩ = some (.int .u64 a.x1) ∧ w'.cell? ⟨w.heap.size + 1 + 1 + 1, 2, none⟩ = some (.int .u64 a.x2) ∧ w'.cell? ⟨w.heap.size + 1 + 1 + 1, 3, none⟩ = some (.int .u64 a.x3) ∧ w'.cell? ⟨w.heap.size, 0, none⟩ = some (.int .u64 a.x0) ∧ w'.cell? ⟨w.heap.size, 1, none⟩ = some (.int .u64 a.x1) ∧ w'.cell? ⟨w.heap.size, 2, none⟩ = some (.int .u64 a.x2) ∧ w'.cell? ⟨w.heap.size, 3, none⟩ = some (.int .u64 a.x3)) (first | with_reducible exact K0.out | with_reducible exact hk.out)
    (first | (go_at_call 6; with_reducible refine (le_a.out _ (KAT.out _ (And.left (by assumption)))).mono ?_; rintro e wn ⟨rfl, hb⟩; have hk := hidden (KA.out _ ((show KW w [(w.heap.size + 1 + 1 + 1, a), (w.heap.size, a)] cs ds _ from And.left (by assumption)).keep hb))) | (go_at_call 7; with_reducible refine (of_a.out _).mono ?_; rintro e wn ⟨rfl, hb⟩; have hk := hidden (KA.out _ ((show KW w [(w.heap.size + 1 + 1 + 1, a), (w.heap.size, a)] cs ds _ from And.left (by assumption)).keep hb))) | (go_at_call 5; with_reducible refine (is_L.out _).mono ?_; rintro e wn ⟨rfl, hb⟩; have hk := hidden (KA.out _ ((show KW w [(w.heap.size + 1 + 1 + 1, a), (w.heap.size, a)] cs ds _ from And.left (by assumption)).keep hb))) | (go_at_call 8; with_reducible refine (in_n.out _).mono ?_; rintro e wn ⟨rfl, hb⟩; have hk := hidden (KA.out _ ((show KW w [(w.heap.size + 1 + 1 + 1, a), (w.heap.size, a)] cs ds _ from And.left (by assumption)).keep hb))) | (go_at_call 9; with_reducible refine (ri_n.out _).mono ?_; rintro e wn ⟨rfl, hb⟩; have hk := hidden (KA.out _ ((show KW w [(w.heap.size + 1 + 1 + 1, a), (w.heap.size, a)] cs ds _ from And.left (by assumption)).keep hb))) | (go_at_call 5; with_reducible refine (is_N.out _).mono ?_; rintro e wn ⟨rfl, hb⟩; have hk := hidden (KA.out _ ((show KW w [(w.heap.size + 1 + 1 + 1, a), (w.heap.size, a)] cs ds _ from And.left (by assumption)).keep hb))) | (go_at_call 10; with_reducible refine (on_a.out _).mono ?_; rintro e wn ⟨rfl, hb⟩; have hk := hidden (KA.out _ ((show KW w [(w.heap.size + 1 + 1 + 1, a), (w.heap.size, a)] cs ds _ from And.left (by assumption)).keep hb))) | (go_at_call 9; with_reducible refine (ri_1.out _).mono ?_; rintro e wn ⟨rfl, hb⟩; have hk := hidden (KA.out _ ((show KW w [(w.heap.size + 1 + 1 + 1, a), (w.heap.size, a)] cs ds _ from And.left (by assumption)).keep hb))) | (go_at_call 5; with_reducible refine (is_1.out _).mono ?_; rintro e wn ⟨rfl, hb⟩; have hk := hidden (KA.out _ ((show KW w [(w.heap.size + 1 + 1 + 1, a), (w.heap.size, a)] cs ds _ from And.left (by assumption)).keep hb))))
  have S1 := hidden hk.out.1
  clear K0 hk S0 KA
  go_upto_region 4 with fail
  go_wp2_with (refine wpList_load_mid rfl 26 _ rfl (w.heap.size + 1) 0 (by rfl) cs _ S1.out.rg HU.out rfl HI.out ?_)
  refine (de_z.out _ (KAT.out _ S1.out)).mono ?_
  rintro e w4 ⟨rfl, hb4⟩
  have S2 := hidden ((S1.out.keep hb4).new D 29)
  clear hb4 S1 KAT
  go_upto_region 5 with fail
  generalize (w4.alloc (.cells #[.int .u64 D.x0, .int .u64 D.x1, .int .u64 D.x2, .int .u64 D.x3] 29)) = wD at S2 ⊢
  generalize w4.heap.size = P at S2 ⊢
  go_wp2_with (refine wpList_load_mid rfl 26 _ rfl (w.heap.size + 1) 0 (by rfl) cs _ S2.out.rg HU.out rfl HI.out ?_)
  refine (rd_z.out _).mono ?_
  rintro e w5 ⟨rfl, hb5⟩
  have S3 := hidden ((S2.out.keep hb5).new D 32)
  clear hb5 S2
  go_upto_region 6 with fail
  generalize (w5.alloc (.cells #[.int .u64 D.x0, .int .u64 D.x1, .int .u64 D.x2, .int .u64 D.x3] 32)) = wE at S3 ⊢
  generalize w5.heap.size = Q at S3 ⊢
  have x0 := (S3.out.st.live (P, D) (by simp)).c0
  have x1 := (S3.out.st.live (P, D) (by simp)).c1
  have x2 := (S3.out.st.live (P, D) (by simp)).c2
  have x3 := (S3.out.st.live (P, D) (by simp)).c3
  have y0 := (S3.out.st.live (Q, D) (by simp)).c0
  have y1 := (S3.out.st.live (Q, D) (by simp)).c1
  have y2 := (S3.out.st.live (Q, D) (by simp)).c2
  have y3 := (S3.out.st.live (Q, D) (by simp)).c3
  go_wp2_with fail
  refine (is_D.out _).mono ?_
  rintro e w6 ⟨rfl, hb6⟩
  have s4 := S3.out.keep hb6
  have S4 := hidden (show KW w [(w.heap.size + 1 + 1 + 1, a), (w.heap.size, a)] cs ds w6 from ⟨s4.st.sub (by simp), s4.rg, s4.rh⟩)
  clear s4 hb6 S3 x0 x1 x2 x3 y0 y1 y2 y3
  go_upto_region 8 with fail
  have KB : Hid (∀ w' : World, KW w [(w.heap.size + 1 + 1 + 1, a), (w.heap.size, a)] cs ds w' → (fun w' => KW w [(w.heap.size + 1 + 1 + 1, a), (w.heap.size, a)] cs ds w' ∧ w'.cell? ⟨w.heap.size + 1 + 1 + 1, 0, none⟩ = some (.int .u64 a.x0) ∧ w'.cell? ⟨w.heap.size + 1 + 1 + 1, 1, none⟩ = some (.int .u64 a.x1) ∧ w'.cell? ⟨w.heap.size + 1 + 1 + 1, 2, none⟩ = some (.int .u64 a.x2) ∧ w'.cell? ⟨w.heap.size + 1 + 1 + 1, 3, none⟩ = some (.int .u64 a.x3) ∧ w'.cell? ⟨w.heap.size, 0, none⟩ = some (.int .u64 a.x0) ∧ w'.cell? ⟨w.heap.size, 1, none⟩ = some (.int .u64 a.x1) ∧ w'.cell? ⟨w.heap.size, 2, none⟩ = some (.int .u64 a.x2) ∧ w'.cell? ⟨w.heap.size, 3, none⟩ = some (.int .u64 a.x3)) w') := hidden (fun w' h => ⟨h, (h.st.live (w.heap.size + 1 + 1 + 1, a) (by simp)).c0, (h.st.live (w.heap.size + 1 + 1 + 1, a) (by simp)).c1, (h.st.live (w.heap.size + 1 + 1 + 1, a) (by simp)).c2, (h.st.live (w.heap.size + 1 + 1 + 1, a) (by simp)).c3, (h.st.live (w.heap.size, a) (by simp)).c0, (h.st.live (w.heap.size, a) (by simp)).c1, (h.st.live (w.heap.size, a) (by simp)).c2, (h.st.live (w.heap.size, a) (by simp)).c3⟩)
  have KBT : Hid (∀ w' : World, KW w [(w.heap.size + 1 + 1 + 1, a), (w.heap.size, a)] cs ds w' → Tb w') := hidden (fun w' h => h.st.tb HT.out)
  have K0 : Hid ((fun w' => KW w [(w.heap.size + 1 + 1 + 1, a), (w.heap.size, a)] cs ds w' ∧ w'.cell? ⟨w.heap.size + 1 + 1 + 1, 0, none⟩ = some (.int .u64 a.x0) ∧ w'.cell? ⟨w.heap.size + 1 + 1 + 1, 1, none⟩ = some (.int .u64 a.x1) ∧ w'.cell? ⟨w.heap.size + 1 + 1 + 1, 2, none⟩ = some (.int .u64 a.x2) ∧ w'.cell? ⟨w.heap.size + 1 + 1 + 1, 3, none⟩ = some (.int .u64 a.x3) ∧ w'.cell? ⟨w.heap.size, 0, none⟩ = some (.int .u64 a.x0) ∧ w'.cell? ⟨w.heap.size, 1, none⟩ = some (.int .u64 a.x1) ∧ w'.cell? ⟨w.heap.size, 2, none⟩ = some (.int .u64 a.x2) ∧ w'.cell? ⟨w.heap.size, 3, none⟩ = some (.int .u64 a.x3)) _) := hidden (KB.out _ S4.out.drew)
  refine wp_region_noPanic ?_
  refine wp_region_held_drew (S := fun w' => KW w [(w.heap.size + 1 + 1 + 1, a), (w.heap.size, a)] cs ds w' ∧ w'.cell? ⟨w.heap.size + 1 + 1 + 1, 0, none⟩ = some (.int .u64 a.x0) ∧ w'.cell? ⟨w.heap.size + 1 + 1 + 1, 1, none⟩ = some (.int .u64 a.x1) ∧ w'.cell? ⟨w.heap.size + 1 + 1 + 1, 2, none⟩ = some (.int .u64 a.x2) ∧ w'.cell? ⟨w.heap.size + 1 + 1 + 1, 3, none⟩ = some (.int .u64 a.x3) ∧ w'.cell? ⟨w.heap.size, 0, none⟩ = some (.int .u64 a.x0) ∧ w'.cell? ⟨w.heap.size, 1, none⟩ = some (.int .u64 a.x1) ∧ w'.cell? ⟨w.heap.size, 2, none⟩ = some (.int .u64 a.x2) ∧ w'.cell? ⟨w.heap.size, 3, none⟩ = some (.int .u64 a.x3)) (by kernel_rfl) K0.out (fun hHeld => ?_)
  refine wpAnyH_take (i := 0) (oi := { dst := some 55, op := Op.load 26 (Operand.tmp 6), type := 26, pos := "law.go:37", after := #[], guard := none }) rfl (by kernel_rfl) (by kernel_rfl) (by kernel_rfl) (fun _ _ _ h => h) (yieldsIf_load_mid (by rfl) _ _ rfl _ _ rfl _ _ (fun w0 hw => hw.1.rg) HU.out rfl HI.out) hHeld ?_
  simp only [Act.put, List.setIfInBounds_toArray, List.set_cons_zero, List.set_cons_succ]
  refine wpAnyH_take (i := 2) (oi := { dst := some 57, op := Op.load 26 (Operand.tmp 6), type := 26, pos := "law.go:37", after := #[], guard := none }) rfl (by kernel_rfl) (by kernel_rfl) (by kernel_rfl) (fun _ _ _ h => h) (yieldsIf_load_mid (by rfl) _ _ rfl _ _ rfl _ _ (fun w0 hw => hw.1.rg) HU.out rfl HI.out) hHeld ?_
  simp only [Act.put, List.setIfInBounds_toArray, List.set_cons_zero, List.set_cons_succ]
  refine wpAnyH_ready (rs := [1]) (by kernel_rfl) (by simp) ?_
  refine AllReadyH.cons (o := { dst := some 56, op := Op.call { callee := Callee.value (Operand.func 13), args := #[Operand.tmp 55], argTypes := #[26] }, type := 29, pos := "law.go:37", after := #[{ on := 0, ground := Ground.data }], guard := none }) rfl (fun K hK => ?_) AllReadyH.nil
  go_simp
  refine (re_z.out _ (KBT.out _ hHeld.1)).mono ?_
  rintro e wn ⟨rfl, hb⟩
  have hk := hidden (KB.out _ (hHeld.1.keep hb))
  go_wp2_with fail
  refine hK.out _ _ hk.out (fun hHeld2 => ?_)
  clear hK K hHeld hk hb
  have hHeld := hHeld2
  clear hHeld2
  refine wpAnyH_ready (rs := [3]) (by kernel_rfl) (by simp) ?_
  refine AllReadyH.cons (o := { dst := some 58, op := Op.call { callee := Callee.value (Operand.func 14), args := #[Operand.tmp 57], argTypes := #[26] }, type := 32, pos := "law.go:37", after := #[{ on := 2, ground := Ground.data }, { on := 1, ground := Ground.chain }], guard := none }) rfl (fun K hK => ?_) AllReadyH.nil
  go_simp
  refine (rr_z.out _).mono ?_
  rintro e wn ⟨rfl, hb⟩
  have hk := hidden (KB.out _ (hHeld.1.keep hb))
  go_wp2_with fail
  refine hK.out _ _ hk.out (fun hHeld2 => ?_)
  clear hK K hHeld hk hb
  have hHeld := hHeld2
  clear hHeld2
  refine wpAnyH_ready (rs := [4]) (by kernel_rfl) (by simp) ?_
  refine AllReadyH.cons (o := { dst := some 59, op := Op.call { callee := Callee.value (Operand.func 5), args := #[Operand.tmp 56, Operand.tmp 58], argTypes := #[29, 32] }, type := 4, pos := "law.go:37", after := #[{ on := 1, ground := Ground.data }, { on := 3, ground := Ground.data }, { on := 3, ground := Ground.chain }], guard := none }) rfl (fun K hK => ?_) AllReadyH.nil
  go_simp
  refine (is_R.out _).mono ?_
  rintro e wn ⟨rfl, hb⟩
  have hk := hidden (KB.out _ (hHeld.1.keep hb))
  go_wp2_with fail
  refine hK.out _ _ hk.out (fun hHeld2 => ?_)
  clear hK K hHeld hk hb
  have hHeld := hHeld2
  clear hHeld2
  refine wpAnyH_take (i := 5) (oi := { dst := some 60, op := Op.move (Operand.tmp 59), type := 4, pos := "law.go:37", after := #[{ on := 4, ground := Ground.data }, { on := 4, ground := Ground.chain }], guard := none }) (v := ?_) rfl (by kernel_rfl) (by kernel_rfl) (by kernel_rfl) (fun _ _ _ h => h) (Or.inl ⟨by rfl, ?_⟩) hHeld ?_
  rotate_left 1
  · (intro w0 hSw; (try dsimp only at hSw); go_simp; try with_reducible rfl)
  simp only [Act.put, List.setIfInBounds_toArray, List.set_cons_zero, List.set_cons_succ]
  refine wpAnyH_take (i := 6) (oi := { dst := some 61, op := Op.load 28 (Operand.tmp 7), type := 28, pos := "law.go:37", after := #[{ on := 5, ground := Ground.guard }], guard := some (5, true) }) rfl (by kernel_rfl) (by kernel_rfl) (by kernel_rfl) (fun _ _ _ h => h) (yieldsIf_load_mid (by rfl) _ _ rfl _ _ rfl _ _ (fun w0 hw => hw.1.rh) HU2.out rfl HI2.out) hHeld ?_
  simp only [Act.put, List.setIfInBounds_toArray, List.set_cons_zero, List.set_cons_succ]
  refine wpAnyH_take (i := 8) (oi := { dst := some 63, op := Op.load 28 (Operand.tmp 7), type := 28, pos := "law.go:37", after := #[{ on := 5, ground := Ground.guard }], guard := some (5, true) }) rfl (by kernel_rfl) (by kernel_rfl) (by kernel_rfl) (fun _ _ _ h => h) (yieldsIf_load_mid (by rfl) _ _ rfl _ _ rfl _ _ (fun w0 hw => hw.1.rh) HU2.out rfl HI2.out) hHeld ?_
  simp only [Act.put, List.setIfInBounds_toArray, List.set_cons_zero, List.set_cons_succ]
  refine wpAnyH_ready (rs := [7]) (by kernel_rfl) (by simp) ?_
  refine AllReadyH.cons (o := { dst := some 62, op := Op.call { callee := Callee.value (Operand.func 15), args := #[Operand.tmp 61], argTypes := #[28] }, type := 29, pos := "law.go:37", after := #[{ on := 6, ground := Ground.data }, { on := 5, ground := Ground.chain }, { on := 5, ground := Ground.guard }], guard := some (5, true) }) rfl (fun K hK => ?_) AllReadyH.nil
  go_simp
  refine (wi_y.out _ (KBT.out _ hHeld.1)).mono ?_
  rintro e wn ⟨rfl, hb⟩
  have hk := hidden (KB.out _ (hHeld.1.keep hb))
  go_wp2_with fail
  refine hK.out _ _ hk.out (fun hHeld2 => ?_)
  clear hK K hHeld hk hb
  have hHeld := hHeld2
  clear hHeld2
  refine wpAnyH_ready (rs := [9]) (by kernel_rfl) (by simp) ?_
  refine AllReadyH.cons (o := { dst := some 64, op := Op.call { callee := Callee.value (Operand.func 16), args := #[Operand.tmp 63], argTypes := #[28] }, type := 32, pos := "law.go:37", after := #[{ on := 8, ground := Ground.data }, { on := 7, ground := Ground.chain }, { on := 5, ground := Ground.guard }], guard := some (5, true) }) rfl (fun K hK => ?_) AllReadyH.nil
  go_simp
  refine (rw_y.out _).mono ?_
  rintro e wn ⟨rfl, hb⟩
  have hk := hidden (KB.out _ (hHeld.1.keep hb))
  go_wp2_with fail
  refine hK.out _ _ hk.out (fun hHeld2 => ?_)
  clear hK K hHeld hk hb
  have hHeld := hHeld2
  clear hHeld2
  refine wpAnyH_ready (rs := [10]) (by kernel_rfl) (by simp) ?_
  refine AllReadyH.cons (o := { dst := some 65, op := Op.call { callee := Callee.value (Operand.func 5), args := #[Operand.tmp 62, Operand.tmp 64], argTypes := #[29, 32] }, type := 4, pos := "law.go:37", after := #[{ on := 7, ground := Ground.data }, { on := 9, ground := Ground.data }, { on := 9, ground := Ground.chain }, { on := 5, ground := Ground.guard }], guard := some (5, true) }) rfl (fun K hK => ?_) AllReadyH.nil
  go_simp
  refine (is_W.out _).mono ?_
  rintro e wn ⟨rfl, hb⟩
  have hk := hidden (KB.out _ (hHeld.1.keep hb))
  go_wp2_with fail
  refine hK.out _ _ hk.out (fun hHeld2 => ?_)
  clear hK K hHeld hk hb
  have hHeld := hHeld2
  clear hHeld2
  refine wpAnyH_take (i := 11) (oi := { dst := some 66, op := Op.pick (Operand.tmp 60) (Operand.tmp 65) (Operand.const (Value.bool false)), type := 4, pos := "law.go:37", after := #[{ on := 5, ground := Ground.data }, { on := 10, ground := Ground.data }], guard := none }) (v := ?_) rfl (by kernel_rfl) (by kernel_rfl) (by kernel_rfl) (fun _ _ _ h => h) (Or.inl ⟨by rfl, ?_⟩) hHeld ?_
  rotate_left 1
  · (intro w0 hSw; (try dsimp only at hSw); go_simp; try with_reducible rfl)
  simp only [Act.put, List.setIfInBounds_toArray, List.set_cons_zero, List.set_cons_succ]
  refine wpAnyH_take (i := 12) (oi := { dst := some 67, op := Op.move (Operand.tmp 66), type := 4, pos := "law.go:37", after := #[{ on := 11, ground := Ground.data }, { on := 10, ground := Ground.chain }], guard := none }) (v := ?_) rfl (by kernel_rfl) (by kernel_rfl) (by kernel_rfl) (fun _ _ _ h => h) (Or.inl ⟨by rfl, ?_⟩) hHeld ?_
  rotate_left 1
  · (intro w0 hSw; (try dsimp only at hSw); go_simp; try with_reducible rfl)
  simp only [Act.put, List.setIfInBounds_toArray, List.set_cons_zero, List.set_cons_succ]
  refine wpAnyH_take (i := 13) (oi := { dst := some 68, op := Op.load 29 (Operand.tmp 9), type := 29, pos := "law.go:37", after := #[{ on := 12, ground := Ground.guard }], guard := some (12, true) }) (v := ?_) rfl (by kernel_rfl) (by kernel_rfl) (by kernel_rfl) (fun _ _ _ h => h) (Or.inl ⟨by rfl, ?_⟩) hHeld ?_
  rotate_left 1
  · (intro w0 hSw; (try dsimp only at hSw); go_simp; try with_reducible rfl)
  simp only [Act.put, List.setIfInBounds_toArray, List.set_cons_zero, List.set_cons_succ]
  refine wpAnyH_take (i := 15) (oi := { dst := some 70, op := Op.load 24 (Operand.tmp 4), type := 24, pos := "law.go:37", after := #[{ on := 12, ground := Ground.guard }], guard := some (12, true) }) (v := ?_) rfl (by kernel_rfl) (by kernel_rfl) (by kernel_rfl) (fun _ _ _ h => h) (Or.inl ⟨by rfl, ?_⟩) hHeld ?_
  rotate_left 1
  · (intro w0 hSw; (try dsimp only at hSw); go_simp; try with_reducible rfl)
  simp only [Act.put, List.setIfInBounds_toArray, List.set_cons_zero, List.set_cons_succ]
  refine wpAnyH_ready (rs := [14]) (by kernel_rfl) (by simp) ?_
  refine AllReadyH.cons (o := { dst := some 69, op := Op.call { callee := Callee.value (Operand.func 17), args := #[Operand.tmp 68], argTypes := #[29] }, type := 26, pos := "law.go:37", after := #[{ on := 13, ground := Ground.data }, { on := 12, ground := Ground.chain }, { on := 12, ground := Ground.guard }], guard := some (12, true) }) rfl (fun K hK => ?_) AllReadyH.nil
  go_simp
  refine (en_a.out _ (KBT.out _ hHeld.1)).mono ?_
  rintro e wn ⟨rfl, hb⟩
  have hk := hidden (KB.out _ (hHeld.1.keep hb))
  go_wp2_with fail
  refine hK.out _ _ hk.out (fun hHeld2 => ?_)
  clear hK K hHeld hk hb
  have hHeld := hHeld2
  clear hHeld2
  refine wpAnyH_ready (rs := [16]) (by kernel_rfl) (by simp) ?_
  refine AllReadyH.cons (o := { dst := some 71, op := Op.call { callee := Callee.value (Operand.func 7), args := #[Operand.tmp 70], argTypes := #[24] }, type := 32, pos := "law.go:37", after := #[{ on := 15, ground := Ground.data }, { on := 14, ground := Ground.chain }, { on := 12, ground := Ground.guard }], guard := some (12, true) }) rfl (fun K hK => ?_) AllReadyH.nil
  go_simp
  refine (of_a.out _).mono ?_
  rintro e wn ⟨rfl, hb⟩
  have hk := hidden (KB.out _ (hHeld.1.keep hb))
  go_wp2_with fail
  refine hK.out _ _ hk.out (fun hHeld2 => ?_)
  clear hK K hHeld hk hb
  have hHeld := hHeld2
  clear hHeld2
  refine wpAnyH_ready (rs := [17]) (by kernel_rfl) (by simp) ?_
  refine AllReadyH.cons (o := { dst := some 72, op := Op.call { callee := Callee.value (Operand.func 18), args := #[Operand.tmp 71], argTypes := #[32] }, type := 26, pos := "law.go:37", after := #[{ on := 16, ground := Ground.data }, { on := 16, ground := Ground.chain }, { on := 12, ground := Ground.guard }], guard := some (12, true) }) rfl (fun K hK => ?_) AllReadyH.nil
  go_simp
  refine (re_a.out _).mono ?_
  rintro e wn ⟨rfl, hb⟩
  have hk := hidden (KB.out _ (hHeld.1.keep hb))
  go_wp2_with fail
  refine hK.out _ _ hk.out (fun hHeld2 => ?_)
  clear hK K hHeld hk hb
  have hHeld := hHeld2
  clear hHeld2
  refine wpAnyH_take (i := 18) (oi := { dst := some 73, op := Op.binOp BinOp.eql 26 (Operand.tmp 69) (Operand.tmp 72) 26, type := 4, pos := "law.go:37", after := #[{ on := 14, ground := Ground.data }, { on := 17, ground := Ground.data }, { on := 12, ground := Ground.guard }], guard := some (12, true) }) (v := ?_) rfl (by kernel_rfl) (by kernel_rfl) (by kernel_rfl) (fun _ _ _ h => h) (Or.inl ⟨by rfl, ?_⟩) hHeld ?_
  rotate_left 1
  · (intro w0 hSw; (try dsimp only at hSw); go_simp; try with_reducible rfl)
  simp only [Act.put, List.setIfInBounds_toArray, List.set_cons_zero, List.set_cons_succ]
  refine wpAnyH_take (i := 19) (oi := { dst := some 74, op := Op.pick (Operand.tmp 67) (Operand.tmp 73) (Operand.const (Value.bool false)), type := 4, pos := "law.go:37", after := #[{ on := 12, ground := Ground.data }, { on := 18, ground := Ground.data }], guard := none }) (v := ?_) rfl (by kernel_rfl) (by kernel_rfl) (by kernel_rfl) (fun _ _ _ h => h) (Or.inl ⟨by rfl, ?_⟩) hHeld ?_
  rotate_left 1
  · (intro w0 hSw; (try dsimp only at hSw); go_simp; try with_reducible rfl)
  simp only [Act.put, List.setIfInBounds_toArray, List.set_cons_zero, List.set_cons_succ]
  refine wpAnyH_take (i := 20) (oi := { dst := some 8, op := Op.assign (Operand.tmp 74), type := 4, pos := "law.go:37", after := #[{ on := 19, ground := Ground.data }, { on := 17, ground := Ground.chain }, { on := 0, ground := Ground.phase }, { on := 1, ground := Ground.phase }, { on := 2, ground := Ground.phase }, { on := 3, ground := Ground.phase }, { on := 4, ground := Ground.phase }, { on := 5, ground := Ground.phase }, { on := 6, ground := Ground.phase }, { on := 7, ground := Ground.phase }, { on := 8, ground := Ground.phase }, { on := 9, ground := Ground.phase }, { on := 10, ground := Ground.phase }, { on := 11, ground := Ground.phase }, { on := 12, ground := Ground.phase }, { on := 13, ground := Ground.phase }, { on := 14, ground := Ground.phase }, { on := 15, ground := Ground.phase }, { on := 16, ground := Ground.phase }, { on := 17, ground := Ground.phase }, { on := 18, ground := Ground.phase }, { on := 19, ground := Ground.phase }], guard := none }) (v := ?_) rfl (by kernel_rfl) (by kernel_rfl) (by kernel_rfl) (fun _ _ _ h => h) (Or.inl ⟨by rfl, ?_⟩) hHeld ?_
  rotate_left 1
  · (intro w0 hSw; (try dsimp only at hSw); go_simp; try with_reducible rfl)
  simp only [Act.put, List.setIfInBounds_toArray, List.set_cons_zero, List.set_cons_succ]
  refine wpAnyH_done (by kernel_rfl) ?_ _
  refine NoPanic.normal ?_
  go_wp2_with fail
  go_ret
  exact ⟨rfl, hHeld.1.st.bel⟩
end Go.Proofs.YtebegeedaehndacDoor
