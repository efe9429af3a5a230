import Derived.Test.YtebegeedaehndaaDoorSli
import Derived.Test.YtebegeedaehndaaDoorSde
namespace Go.Proofs.YtebegeedaehndaaDoor
open Go.RowKit

theorem num_range : ∀ (k M : Nat), num ((List.range k).map fun j => ((M / 256 ^ j % 256 : Nat) : Int)) = M % 256 ^ k
  | 0, M => by simp [num, Nat.mod_one]
  | k + 1, M => by
    have ih := num_range k (M / 256)
    rw [List.range_succ_eq_map, List.map_cons, List.map_map, num]
    have e : ((fun j : Nat => ((M / 256 ^ j % 256 : Nat) : Int)) ∘ Nat.succ) = fun j => ((M / 256 / 256 ^ j % 256 : Nat) : Int) := by
      funext j
      show ((M / 256 ^ (j + 1) % 256 : Nat) : Int) = _
      rw [Nat.pow_succ, Nat.mul_comm, ← Nat.div_div_eq_div_mul]
    rw [e, ih, Nat.pow_succ, Nat.mul_comm (256 ^ k), Nat.mod_mul]
    simp
    omega
theorem byt_nat (M j : Nat) : byt (M : Int) j = ((M / 256 ^ j % 256 : Nat) : Int) := by unfold byt; simp
theorem num_bytes (M : Nat) (h : M < 256 ^ 32) : num (bytes (M : Int)) = M := by
  have e : byt (M : Int) = fun j => ((M / 256 ^ j % 256 : Nat) : Int) := by funext j; exact byt_nat M j
  unfold bytes
  rw [e, num_range, Nat.mod_eq_of_lt h]
theorem bytes_bd (m : Int) : ∀ z ∈ bytes m, 0 ≤ z ∧ z ≤ 255 := by
  intro z hz
  obtain ⟨j, _, rfl⟩ := List.mem_map.1 hz
  exact byt_bd m j
theorem zs_byt (zs : List Int) (hz : ∀ z ∈ zs, 0 ≤ z ∧ z ≤ 255) (j : Nat) (v : Value) (h : (zs.map fun z => Value.int .u8 z)[j]? = some v) : v = .int .u8 (byt ((num zs : Nat) : Int) j) := by
  rw [List.getElem?_map] at h
  have hg := num_get zs j hz
  rw [← byt_nat] at hg
  cases hj : zs[j]? with
  | none => rw [hj] at h; cases h
  | some z =>
    rw [hj] at h
    rw [List.getD_eq_getElem?_getD, hj] at hg
    simp at hg h
    rw [← h, hg]
theorem bytes_num (zs : List Int) (lz : zs.length = 32) (hz : ∀ z ∈ zs, 0 ≤ z ∧ z ≤ 255) : bytes (num zs : Int) = zs := by
  apply List.ext_getElem?
  intro j
  by_cases hj : j < 32
  · rw [bytes_get _ _ hj, byt_nat, ← num_get zs j hz, List.getD_eq_getElem?_getD, List.getElem?_eq_getElem (by omega)]
    simp
  · rw [List.getElem?_eq_none (by rw [bytes_len]; omega), List.getElem?_eq_none (by omega)]
theorem num_bytes_L (n : Int) : ((num (bytes (n % Sm.L)) : Nat) : Int) = n % Sm.L := by
  obtain ⟨h0, h1⟩ := mod_bd n
  have h2 := mod_bd4 n
  obtain ⟨M, hM⟩ := Int.eq_ofNat_of_zero_le h0
  rw [hM] at h2 ⊢
  rw [num_bytes M (by simp only [Nat.reducePow]; omega)]
theorem bytes_eq_iff (zs : List Int) (lz : zs.length = 32) (hz : ∀ z ∈ zs, 0 ≤ z ∧ z ≤ 255) : bytes ((num zs : Int) % Sm.L) = zs ↔ (num zs : Int) < Sm.L := by
  constructor
  · intro h
    have e := num_bytes_L (num zs : Int)
    rw [h] at e
    rw [e]; exact (mod_bd _).2
  · intro h
    rw [Int.emod_eq_of_lt (by omega) h]
    exact bytes_num zs lz hz

/-- scalars that lie there, and the bytes -/
structure OW (w0 : World) (L : List (Nat × E4)) (cs : List Value) (w : World) : Prop where
  st : St w0 L [] w
  rg : w.rangeAt (w0.heap.size + 1) 0 cs
theorem OW.keep {w0 : World} {L : List (Nat × E4)} {cs : List Value} {w1 w2 : World} (h : OW w0 L cs w1) (hb : Below w1.heap.size w1 w2) : OW w0 L cs w2 := ⟨h.st.keep hb, range_keep h.rg hb⟩
theorem OW.drew {w0 : World} {L : List (Nat × E4)} {cs : List Value} {w1 : World} (h : OW w0 L cs w1) : OW w0 L cs w1.drew := h.keep ((Below.refl _ _).drew)
theorem OW.new {w0 : World} {L : List (Nat × E4)} {cs : List Value} {w1 : World} (h : OW w0 L cs w1) (r : E4) (t : TypeId) :
    OW w0 ((w1.heap.size, r) :: L) cs (w1.alloc (.cells #[.int .u64 r.x0, .int .u64 r.x1, .int .u64 r.x2, .int .u64 r.x3] t)) := ⟨h.st.new r t, range_keep h.rg (bl_alloc _ _)⟩

set_option maxRecDepth 100000 in
set_option maxHeartbeats 64000000 in
theorem onecode_any (a : E4) (zs : List Int) (w : World) (hT : Tb w) (ha : a.ok) (lz : zs.length = 32) (hz : ∀ z ∈ zs, 0 ≤ z ∧ z ≤ 255) : Calls Tryd.prog 5 #[a.v, bv zs] w fun e w' => e = .returned (.bool true) ∧ Below w.heap.size w w' := by
  obtain ⟨LA, hLA⟩ : ∃ t : E4, t = lst a.n := ⟨_, rfl⟩
  obtain ⟨RB, hRB⟩ : ∃ t : E4, t = lst (num zs) := ⟨_, rfl⟩
  have RBok : RB.ok := by rw [hRB]; exact lst_ok _
  have h256 := num_lt256 lz hz
  have ly : (bytes (a.n % Sm.L)).length = 32 := bytes_len _
  have hby := bytes_bd (a.n % Sm.L)
  have lv := hidden alive_any
  have en_s := hidden (fun w T => Encode_any a w T ha)
  have de_s : Hid (∀ w, Tb w → Calls Tryd.prog 20 #[bv (bytes (a.n % Sm.L))] w fun e w' => e = .returned (.tuple #[LA.v, .int .i64 0]) ∧ Below w.heap.size w w') := hidden (fun w T => by
    have h := Decode_any (bytes (a.n % Sm.L)) w T ly hby true (decide_eq_true (by rw [num_bytes_L]; exact (mod_bd _).2))
    rw [num_bytes_L, limE_lst _ (mod_bd _).1 (mod_bd _).2, show lst (a.n % Sm.L) = LA from by rw [hLA]; exact lst_congr (emod_emod_L _)] at h
    exact h)
  have le_s := hidden (fun w T => fix (Least_any a w T ha) (by rw [hLA] : _ = LA))
  have re_b := hidden (fun w T => fix (Reduce_any zs w T lz hz) (by rw [hRB] : _ = RB))
  have en_R := hidden (fun w T => Encode_any RB w T RBok)
  have eRn : RB.n % Sm.L = (num zs : Int) % Sm.L := by rw [hRB, lst_n, emod_emod_L]
  have q_E : ∀ B, decide ((num zs : Int) < Sm.L) = B → ∀ w, (Op.equalIn 10000 34 (.agg ((bytes (RB.n % Sm.L)).map fun z => Value.int .u8 z).toArray) (.agg (zs.map fun z => Value.int .u8 z).toArray)).run Tryd.prog w = .ok B w := fun B hB w => by
    refine (eq32 _ _ w (bytes_len _) lz).trans ?_
    rw [eRn, ← hB, decide_eq_decide.2 (bytes_eq_iff zs lz hz)]
  have q_Z : ∀ w, (Op.equalIn 10000 34 (.agg (zs.map fun z => Value.int .u8 z).toArray) (.agg (zs.map fun z => Value.int .u8 z).toArray)).run Tryd.prog w = .ok true w := fun w => by
    refine (eq32 _ _ w lz lz).trans ?_
    rw [decide_eq_true rfl]
  have de_b := fun B hB w T => Decode_any zs w T lz hz B hB
  have en_U : (num zs : Int) < Sm.L → ∀ w, Tb w → Calls Tryd.prog 21 #[(limE (num zs)).v] w fun e w' => e = .returned (.agg (zs.map fun z => Value.int .u8 z).toArray) ∧ Below w.heap.size w w' := fun h w T => by
    have k := Encode_any (limE (num zs)) w T (limE_ok _)
    rw [limE_n _ (by omega) h256, Int.emod_eq_of_lt (by omega) h, bytes_num zs lz hz] at k
    exact k
  have hUR : (num zs : Int) < Sm.L → limE (num zs) = RB := fun h => by rw [hRB]; exact limE_lst _ (by omega) h
  have hi : (Tryd.prog.info? 34).map (·.size) = some (zs.map fun z => Value.int .u8 z).length := by rw [List.length_map, lz]; kernel_rfl
  have hu : Tryd.prog.underlying 34 = some (.array 32 5) := by kernel_rfl
  have qx := fun (x : E4) w => (eq4 x x w).trans (by rw [E4.same_self] : _ = Result.ok true w)
  have q0 := fun w => (eq4 zero4 zero4 w).trans (by rw [E4.same_self] : _ = Result.ok true w)
  have HU := hidden hu
  have HI := hidden hi
  have HT := hidden hT
  have RN := hidden (range_new (w.alloc (.cells #[.int .u64 a.x0, .int .u64 a.x1, .int .u64 a.x2, .int .u64 a.x3] 24)) zs 34)
  have QE := hidden q_E
  have DEB := hidden de_b
  have ENU := hidden en_U
  have HUR := hidden hUR
  clear hT ha lz hz hLA hRB RBok ly hby eRn hu hi q_E de_b en_U hUR h256
  simp only [World.size_alloc] at RN
  generalize (num zs : Int) = N at *
  simp only [E4.v, bv, zero4] at en_s de_s le_s re_b en_R qx q0 DEB ENU ⊢
  generalize ((bytes (a.n % Sm.L)).map fun z => Value.int .u8 z) = ds at *
  generalize ((bytes (RB.n % Sm.L)).map fun z => Value.int .u8 z) = es at *
  generalize (zs.map fun z => Value.int .u8 z) = cs at *
  generalize limE N = UE at *
  go_enter Tryd.func5, Tryd.ntmps5
  go_wp2_with fail
  refine (lv.out _ (HT.out.keep (bl_alloc2 _ _ _))).mono ?_
  rintro e w1 ⟨rfl, hb1⟩
  have s1 : OW w [(w.heap.size, a)] cs w1 := ⟨((St.start w a 24).keep (bl_alloc _ _)).keep hb1, range_keep RN.out hb1⟩
  have S1 := hidden s1
  clear s1 hb1 RN lv
  go_upto_region 3 with fail
  go_cut [5] (fun vx wx => ∃ X : Nat, vx = .pointer (some ⟨X, 0, none⟩) ∧ w.heap.size < X ∧ OW w [(X, a)] cs wx)
  case first =>
    have x0 := (S1.out.st.live (w.heap.size, a) (by simp)).c0
    have x1 := (S1.out.st.live (w.heap.size, a) (by simp)).c1
    have x2 := (S1.out.st.live (w.heap.size, a) (by simp)).c2
    have x3 := (S1.out.st.live (w.heap.size, a) (by simp)).c3
    have s2 := S1.out.new a 25
    have hl := (S1.out.st.live (w.heap.size, a) (by simp)).lt
    have S2 := hidden (show OW w [(w1.heap.size, a)] cs _ from ⟨s2.st.sub (by simp), s2.rg⟩)
    clear s2
    go_wp2_with fail
    go_meet
    exact ⟨_, rfl, hl, S2.out⟩
  case rest =>
  obtain ⟨X, rfl, hX, s3⟩ := hcut
  have S3 := hidden s3
  clear s3 S1
  go_upto_region 4 with fail
  go_cut [6, 7] (fun vx vy wx => ∃ Y : Nat, vx = .pointer (some ⟨Y, 0, none⟩) ∧ vy = .int .i64 0 ∧ OW w [(Y, LA), (X, a)] cs wx)
  case first =>
    have x0 := (S3.out.st.live (X, a) (by simp)).c0
    have x1 := (S3.out.st.live (X, a) (by simp)).c1
    have x2 := (S3.out.st.live (X, a) (by simp)).c2
    have x3 := (S3.out.st.live (X, a) (by simp)).c3
    go_wp2_with fail
    refine (en_s.out _ (S3.out.st.tb HT.out)).mono ?_
    rintro e w2 ⟨rfl, hb2⟩
    have S4 := hidden (S3.out.keep hb2)
    clear x0 x1 x2 x3
    go_wp2_with fail
    refine (de_s.out _ (S4.out.st.tb HT.out)).mono ?_
    rintro e w3 ⟨rfl, hb3⟩
    have S5 := hidden ((S4.out.keep hb3).new LA 25)
    go_wp2_with fail
    go_meet
    exact ⟨_, rfl, rfl, S5.out⟩
  case rest =>
  obtain ⟨Y, rfl, rfl, s4⟩ := hcut
  have S4 := hidden s4
  clear s4 S3 en_s de_s
  have KS5 : Hid (∀ w' : World, OW w [(Y, LA), (X, a)] cs w' → (fun w' => OW w [(Y, LA), (X, a)] cs w' ∧ w'.cell? ⟨Y, 0, none⟩ = some (.int .u64 LA.x0) ∧ w'.cell? ⟨Y, 1, none⟩ = some (.int .u64 LA.x1) ∧ w'.cell? ⟨Y, 2, none⟩ = some (.int .u64 LA.x2) ∧ w'.cell? ⟨Y, 3, none⟩ = some (.int .u64 LA.x3) ∧ w'.cell? ⟨X, 0, none⟩ = some (.int .u64 a.x0) ∧ w'.cell? ⟨X, 1, none⟩ = some (.int .u64 a.x1) ∧ w'.cell? ⟨X, 2, none⟩ = some (.int .u64 a.x2) ∧ w'.cell? ⟨X, 3, none⟩ = some (.int .u64 a.x3)) w') := hidden (fun w' h => ⟨h, (h.st.live (Y, LA) (by simp)).c0, (h.st.live (Y, LA) (by simp)).c1, (h.st.live (Y, LA) (by simp)).c2, (h.st.live (Y, LA) (by simp)).c3, (h.st.live (X, a) (by simp)).c0, (h.st.live (X, a) (by simp)).c1, (h.st.live (X, a) (by simp)).c2, (h.st.live (X, a) (by simp)).c3⟩)
  go_upto_region 5 with fail
  have K0 : Hid ((fun w' => OW w [(Y, LA), (X, a)] cs w' ∧ w'.cell? ⟨Y, 0, none⟩ = some (.int .u64 LA.x0) ∧ w'.cell? ⟨Y, 1, none⟩ = some (.int .u64 LA.x1) ∧ w'.cell? ⟨Y, 2, none⟩ = some (.int .u64 LA.x2) ∧ w'.cell? ⟨Y, 3, none⟩ = some (.int .u64 LA.x3) ∧ w'.cell? ⟨X, 0, none⟩ = some (.int .u64 a.x0) ∧ w'.cell? ⟨X, 1, none⟩ = some (.int .u64 a.x1) ∧ w'.cell? ⟨X, 2, none⟩ = some (.int .u64 a.x2) ∧ w'.cell? ⟨X, 3, none⟩ = some (.int .u64 a.x3)) _) := hidden (KS5.out _ (S4.out).drew)
  go_region_held3 (fun w' => OW w [(Y, LA), (X, a)] cs w' ∧ w'.cell? ⟨Y, 0, none⟩ = some (.int .u64 LA.x0) ∧ w'.cell? ⟨Y, 1, none⟩ = some (.int .u64 LA.x1) ∧ w'.cell? ⟨Y, 2, none⟩ = some (.int .u64 LA.x2) ∧ w'.cell? ⟨Y, 3, none⟩ = some (.int .u64 LA.x3) ∧ w'.cell? ⟨X, 0, none⟩ = some (.int .u64 a.x0) ∧ w'.cell? ⟨X, 1, none⟩ = some (.int .u64 a.x1) ∧ w'.cell? ⟨X, 2, none⟩ = some (.int .u64 a.x2) ∧ w'.cell? ⟨X, 3, none⟩ = some (.int .u64 a.x3)) (first | with_reducible exact K0.out | with_reducible exact hk.out)
    (first | (go_at_call 11; with_reducible refine (le_s.out _ ((OW.st (And.left (by assumption))).tb HT.out)).mono ?_; rintro e wn ⟨rfl, hb⟩; have hk := hidden (KS5.out _ (OW.keep (show OW w [(Y, LA), (X, a)] cs _ from And.left (by assumption)) hb))))
  have S6 := hidden (show OW w [(X, a)] cs _ from ⟨hk.out.1.st.sub (by simp), hk.out.1.rg⟩)
  clear S4 hk KS5 K0 le_s
  by_cases hN : N < Sm.L
  · have de_b := DEB.out true (decide_eq_true hN)
    have q_E := QE.out true (decide_eq_true hN)
    have en_U := hidden (ENU.out hN)
    have hUR := HUR.out hN
    simp only [cond_true] at de_b
    replace de_b := hidden de_b
    clear DEB QE ENU HUR hN
    subst hUR
    go_upto_region 7 with fail
    go_cut [8, 9] (fun vx vy wx => ∃ Z : Nat, vx = .pointer (some ⟨Z, 0, none⟩) ∧ vy = .int .i64 0 ∧ OW w [(Z, UE)] cs wx)
    case first =>
      go_wp2_with (first | refine wpList_load_mid rfl 34 _ rfl (w.heap.size + 1) 0 (by rfl) cs _ S6.out.rg HU.out rfl HI.out ?_)
      refine (de_b.out _ (S6.out.st.tb HT.out)).mono ?_
      rintro e w4 ⟨rfl, hb4⟩
      have s7 := (S6.out.keep hb4).new UE 25
      have S7 := hidden (show OW w [(w4.heap.size, UE)] cs _ from ⟨s7.st.sub (by simp), s7.rg⟩)
      clear s7
      go_wp2_with fail
      go_meet
      exact ⟨_, rfl, rfl, S7.out⟩
    case rest =>
    obtain ⟨Z, rfl, rfl, s7⟩ := hcut
    have S7 := hidden s7
    clear s7 S6 de_b
    go_upto_region 8 with fail
    go_cut [10] (fun vx wx => ∃ V : Nat, vx = .pointer (some ⟨V, 0, none⟩) ∧ OW w [(V, UE), (Z, UE)] cs wx)
    case first =>
      go_wp2_with (first | refine wpList_load_mid rfl 34 _ rfl (w.heap.size + 1) 0 (by rfl) cs _ S7.out.rg HU.out rfl HI.out ?_)
      refine (re_b.out _ (S7.out.st.tb HT.out)).mono ?_
      rintro e w4 ⟨rfl, hb4⟩
      have S8 := hidden ((S7.out.keep hb4).new UE 25)
      go_wp2_with fail
      go_meet
      exact ⟨_, rfl, S8.out⟩
    case rest =>
    obtain ⟨V, rfl, s8⟩ := hcut
    have S8 := hidden s8
    clear s8 S7 re_b
    have KS9 : Hid (∀ w' : World, OW w [(V, UE), (Z, UE)] cs w' → (fun w' => OW w [(V, UE), (Z, UE)] cs w' ∧ w'.cell? ⟨V, 0, none⟩ = some (.int .u64 UE.x0) ∧ w'.cell? ⟨V, 1, none⟩ = some (.int .u64 UE.x1) ∧ w'.cell? ⟨V, 2, none⟩ = some (.int .u64 UE.x2) ∧ w'.cell? ⟨V, 3, none⟩ = some (.int .u64 UE.x3) ∧ w'.cell? ⟨Z, 0, none⟩ = some (.int .u64 UE.x0) ∧ w'.cell? ⟨Z, 1, none⟩ = some (.int .u64 UE.x1) ∧ w'.cell? ⟨Z, 2, none⟩ = some (.int .u64 UE.x2) ∧ w'.cell? ⟨Z, 3, none⟩ = some (.int .u64 UE.x3) ∧ w'.rangeAt (w.heap.size + 1) 0 cs) w') := hidden (fun w' h => ⟨h, (h.st.live (V, UE) (by simp)).c0, (h.st.live (V, UE) (by simp)).c1, (h.st.live (V, UE) (by simp)).c2, (h.st.live (V, UE) (by simp)).c3, (h.st.live (Z, UE) (by simp)).c0, (h.st.live (Z, UE) (by simp)).c1, (h.st.live (Z, UE) (by simp)).c2, (h.st.live (Z, UE) (by simp)).c3, h.rg⟩)
    have hu := HU.out
    have hi := HI.out
    go_upto_region 9 with fail
    have K0 : Hid ((fun w' => OW w [(V, UE), (Z, UE)] cs w' ∧ w'.cell? ⟨V, 0, none⟩ = some (.int .u64 UE.x0) ∧ w'.cell? ⟨V, 1, none⟩ = some (.int .u64 UE.x1) ∧ w'.cell? ⟨V, 2, none⟩ = some (.int .u64 UE.x2) ∧ w'.cell? ⟨V, 3, none⟩ = some (.int .u64 UE.x3) ∧ w'.cell? ⟨Z, 0, none⟩ = some (.int .u64 UE.x0) ∧ w'.cell? ⟨Z, 1, none⟩ = some (.int .u64 UE.x1) ∧ w'.cell? ⟨Z, 2, none⟩ = some (.int .u64 UE.x2) ∧ w'.cell? ⟨Z, 3, none⟩ = some (.int .u64 UE.x3) ∧ w'.rangeAt (w.heap.size + 1) 0 cs) _) := hidden (KS9.out _ (S8.out).drew)
    go_region_held3 (fun w' => OW w [(V, UE), (Z, UE)] cs w' ∧ w'.cell? ⟨V, 0, none⟩ = some (.int .u64 UE.x0) ∧ w'.cell? ⟨V, 1, none⟩ = some (.int .u64 UE.x1) ∧ w'.cell? ⟨V, 2, none⟩ = some (.int .u64 UE.x2) ∧ w'.cell? ⟨V, 3, none⟩ = some (.int .u64 UE.x3) ∧ w'.cell? ⟨Z, 0, none⟩ = some (.int .u64 UE.x0) ∧ w'.cell? ⟨Z, 1, none⟩ = some (.int .u64 UE.x1) ∧ w'.cell? ⟨Z, 2, none⟩ = some (.int .u64 UE.x2) ∧ w'.cell? ⟨Z, 3, none⟩ = some (.int .u64 UE.x3) ∧ w'.rangeAt (w.heap.size + 1) 0 cs) (first | with_reducible exact K0.out | with_reducible exact hk.out)
      (first | (go_at_call 21; with_reducible refine (en_R.out _ ((OW.st (And.left (by assumption))).tb HT.out)).mono ?_; rintro e wn ⟨rfl, hb⟩; have hk := hidden (KS9.out _ (OW.keep (show OW w [(V, UE), (Z, UE)] cs _ from And.left (by assumption)) hb))))
    clear K0 S8 q_E
    go_upto_region 12 with fail
    have k12 := hk
    have K0 : Hid ((fun w' => OW w [(V, UE), (Z, UE)] cs w' ∧ w'.cell? ⟨V, 0, none⟩ = some (.int .u64 UE.x0) ∧ w'.cell? ⟨V, 1, none⟩ = some (.int .u64 UE.x1) ∧ w'.cell? ⟨V, 2, none⟩ = some (.int .u64 UE.x2) ∧ w'.cell? ⟨V, 3, none⟩ = some (.int .u64 UE.x3) ∧ w'.cell? ⟨Z, 0, none⟩ = some (.int .u64 UE.x0) ∧ w'.cell? ⟨Z, 1, none⟩ = some (.int .u64 UE.x1) ∧ w'.cell? ⟨Z, 2, none⟩ = some (.int .u64 UE.x2) ∧ w'.cell? ⟨Z, 3, none⟩ = some (.int .u64 UE.x3) ∧ w'.rangeAt (w.heap.size + 1) 0 cs) _) := hidden (KS9.out _ (k12.out.1).drew)
    go_region_held3 (fun w' => OW w [(V, UE), (Z, UE)] cs w' ∧ w'.cell? ⟨V, 0, none⟩ = some (.int .u64 UE.x0) ∧ w'.cell? ⟨V, 1, none⟩ = some (.int .u64 UE.x1) ∧ w'.cell? ⟨V, 2, none⟩ = some (.int .u64 UE.x2) ∧ w'.cell? ⟨V, 3, none⟩ = some (.int .u64 UE.x3) ∧ w'.cell? ⟨Z, 0, none⟩ = some (.int .u64 UE.x0) ∧ w'.cell? ⟨Z, 1, none⟩ = some (.int .u64 UE.x1) ∧ w'.cell? ⟨Z, 2, none⟩ = some (.int .u64 UE.x2) ∧ w'.cell? ⟨Z, 3, none⟩ = some (.int .u64 UE.x3) ∧ w'.rangeAt (w.heap.size + 1) 0 cs) (first | with_reducible exact K0.out | with_reducible exact hk.out)
      (first | (go_at_call 21; with_reducible refine (en_U.out _ ((OW.st (And.left (by assumption))).tb HT.out)).mono ?_; rintro e wn ⟨rfl, hb⟩; have hk := hidden (KS9.out _ (OW.keep (show OW w [(V, UE), (Z, UE)] cs _ from And.left (by assumption)) hb))))
    go_wp2_with fail
    go_ret
    exact ⟨rfl, hk.out.1.st.bel⟩
  · have de_b := DEB.out false (decide_eq_false hN)
    have q_E := QE.out false (decide_eq_false hN)
    simp only [cond_false] at de_b
    replace de_b := hidden de_b
    clear DEB QE ENU HUR hN
    go_upto_region 7 with fail
    go_cut [8, 9] (fun vx vy wx => ∃ Z : Nat, vx = .pointer (some ⟨Z, 0, none⟩) ∧ vy = .int .i64 3 ∧ OW w [(Z, zero4)] cs wx)
    case first =>
      go_wp2_with (first | refine wpList_load_mid rfl 34 _ rfl (w.heap.size + 1) 0 (by rfl) cs _ S6.out.rg HU.out rfl HI.out ?_)
      refine (de_b.out _ (S6.out.st.tb HT.out)).mono ?_
      rintro e w4 ⟨rfl, hb4⟩
      have s7 := (S6.out.keep hb4).new zero4 25
      have S7 := hidden (show OW w [(w4.heap.size, zero4)] cs _ from ⟨s7.st.sub (by simp), s7.rg⟩)
      clear s7
      simp only [zero4] at S7
      go_wp2_with fail
      go_meet
      exact ⟨_, rfl, rfl, S7.out⟩
    case rest =>
    obtain ⟨Z, rfl, rfl, s7⟩ := hcut
    have S7 := hidden s7
    clear s7 S6 de_b
    go_upto_region 8 with fail
    go_cut [10] (fun vx wx => ∃ V : Nat, vx = .pointer (some ⟨V, 0, none⟩) ∧ OW w [(V, RB), (Z, zero4)] cs wx)
    case first =>
      go_wp2_with (first | refine wpList_load_mid rfl 34 _ rfl (w.heap.size + 1) 0 (by rfl) cs _ S7.out.rg HU.out rfl HI.out ?_)
      refine (re_b.out _ (S7.out.st.tb HT.out)).mono ?_
      rintro e w4 ⟨rfl, hb4⟩
      have S8 := hidden ((S7.out.keep hb4).new RB 25)
      go_wp2_with fail
      go_meet
      exact ⟨_, rfl, S8.out⟩
    case rest =>
    obtain ⟨V, rfl, s8⟩ := hcut
    have S8 := hidden s8
    clear s8 S7 re_b
    have KS9 : Hid (∀ w' : World, OW w [(V, RB), (Z, zero4)] cs w' → (fun w' => OW w [(V, RB), (Z, zero4)] cs w' ∧ w'.cell? ⟨V, 0, none⟩ = some (.int .u64 RB.x0) ∧ w'.cell? ⟨V, 1, none⟩ = some (.int .u64 RB.x1) ∧ w'.cell? ⟨V, 2, none⟩ = some (.int .u64 RB.x2) ∧ w'.cell? ⟨V, 3, none⟩ = some (.int .u64 RB.x3) ∧ w'.cell? ⟨Z, 0, none⟩ = some (.int .u64 0) ∧ w'.cell? ⟨Z, 1, none⟩ = some (.int .u64 0) ∧ w'.cell? ⟨Z, 2, none⟩ = some (.int .u64 0) ∧ w'.cell? ⟨Z, 3, none⟩ = some (.int .u64 0) ∧ w'.rangeAt (w.heap.size + 1) 0 cs) w') := hidden (fun w' h => ⟨h, (h.st.live (V, RB) (by simp)).c0, (h.st.live (V, RB) (by simp)).c1, (h.st.live (V, RB) (by simp)).c2, (h.st.live (V, RB) (by simp)).c3, (h.st.live (Z, zero4) (by simp)).c0, (h.st.live (Z, zero4) (by simp)).c1, (h.st.live (Z, zero4) (by simp)).c2, (h.st.live (Z, zero4) (by simp)).c3, h.rg⟩)
    have hu := HU.out
    have hi := HI.out
    go_upto_region 9 with fail
    have K0 : Hid ((fun w' => OW w [(V, RB), (Z, zero4)] cs w' ∧ w'.cell? ⟨V, 0, none⟩ = some (.int .u64 RB.x0) ∧ w'.cell? ⟨V, 1, none⟩ = some (.int .u64 RB.x1) ∧ w'.cell? ⟨V, 2, none⟩ = some (.int .u64 RB.x2) ∧ w'.cell? ⟨V, 3, none⟩ = some (.int .u64 RB.x3) ∧ w'.cell? ⟨Z, 0, none⟩ = some (.int .u64 0) ∧ w'.cell? ⟨Z, 1, none⟩ = some (.int .u64 0) ∧ w'.cell? ⟨Z, 2, none⟩ = some (.int .u64 0) ∧ w'.cell? ⟨Z, 3, none⟩ = some (.int .u64 0) ∧ w'.rangeAt (w.heap.size + 1) 0 cs) _) := hidden (KS9.out _ (S8.out).drew)
    go_region_held3 (fun w' => OW w [(V, RB), (Z, zero4)] cs w' ∧ w'.cell? ⟨V, 0, none⟩ = some (.int .u64 RB.x0) ∧ w'.cell? ⟨V, 1, none⟩ = some (.int .u64 RB.x1) ∧ w'.cell? ⟨V, 2, none⟩ = some (.int .u64 RB.x2) ∧ w'.cell? ⟨V, 3, none⟩ = some (.int .u64 RB.x3) ∧ w'.cell? ⟨Z, 0, none⟩ = some (.int .u64 0) ∧ w'.cell? ⟨Z, 1, none⟩ = some (.int .u64 0) ∧ w'.cell? ⟨Z, 2, none⟩ = some (.int .u64 0) ∧ w'.cell? ⟨Z, 3, none⟩ = some (.int .u64 0) ∧ w'.rangeAt (w.heap.size + 1) 0 cs) (first | with_reducible exact K0.out | with_reducible exact hk.out)
      (first | (go_at_call 21; with_reducible refine (en_R.out _ ((OW.st (And.left (by assumption))).tb HT.out)).mono ?_; rintro e wn ⟨rfl, hb⟩; have hk := hidden (KS9.out _ (OW.keep (show OW w [(V, RB), (Z, zero4)] cs _ from And.left (by assumption)) hb))))
    clear K0 S8 q_E
    obtain ⟨ow, -, -, -, -, z0, z1, z2, z3, -⟩ := hk.out
    have OWH := hidden ow
    clear ow hu hi
    go_wp2_with fail
    go_ret
    exact ⟨rfl, OWH.out.st.bel⟩
end Go.Proofs.YtebegeedaehndaaDoor
