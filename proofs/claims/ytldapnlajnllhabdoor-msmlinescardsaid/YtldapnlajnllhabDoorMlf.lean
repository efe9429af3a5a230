import Derived.Test.YtldapnlajnllhabDoorMef
namespace Go.Proofs.YtldapnlajnllhabDoor
open Go.RowKit
theorem by_len (m : Int) : ((bytes m).map fun z => Value.int .u8 z).length = 32 := by simp [bytes]

set_option maxRecDepth 100000 in
set_option maxHeartbeats 4000000 in
theorem lAdd_any (a b : E4) (ha : a.ok) (hb : b.ok) (w : World) (hT : Tb w) :
    Calls Tryd.prog 6 #[a.v, b.v] w fun e w' => e = .returned (lst (a.n + b.n)).v ∧ Below w.heap.size w w' := by
  have HT := hidden hT
  have RA := hidden (fun w T => fix (R := lst (a.n + b.n)) (Add_any a b w T ha hb) rfl)
  generalize lst (a.n + b.n) = z at *
  unfold E4.v at RA ⊢
  have M0 := (((Mw.start w).new [.int .u64 a.x0, .int .u64 a.x1, .int .u64 a.x2, .int .u64 a.x3] 28).new [.int .u64 b.x0, .int .u64 b.x1, .int .u64 b.x2, .int .u64 b.x3] 28).new [.int .u64 0, .int .u64 0, .int .u64 0, .int .u64 0] 28
  simp only [World.size_alloc] at M0
  have MM := hidden M0
  have I1 := hidden (l4_i z)
  have O2 := hidden (c4_one z)
  clear M0
  go_enter Tryd.func6, Tryd.ntmps6
  go_wp2_with (first | (go_at_call 22; refine (RA.out _ (HT.out.keep MM.out.bel)).mono ?_; rintro e wa ⟨rfl, ha⟩; replace MM := hidden (MM.out.keep ha); clear ha; have TH := hidden (MM.out.ther [.int .u64 z.x0, .int .u64 z.x1, .int .u64 z.x2, .int .u64 z.x3] (c := w.heap.size + 1 + 1) (o := [.int .u64 0, .int .u64 0, .int .u64 0, .int .u64 0]) (by simp) rfl); have M1 := MM.out.set (M := []) [.int .u64 z.x0, .int .u64 z.x1, .int .u64 z.x2, .int .u64 z.x3] (c := w.heap.size + 1 + 1) (o := [.int .u64 0, .int .u64 0, .int .u64 0, .int .u64 0]) (by simp) rfl (fun p hp => by cases hp); have LD := hidden (M1.var (c := w.heap.size + 1 + 1) (ds := [.int .u64 z.x0, .int .u64 z.x1, .int .u64 z.x2, .int .u64 z.x3]) (by simp) Tryd.underlying28 rfl I1.out); have BL := hidden M1.bel; clear M1) | refine wpList_store_mid rfl 28 _ _ rfl (w.heap.size + 1 + 1) 0 [.int .u64 z.x0, .int .u64 z.x1, .int .u64 z.x2, .int .u64 z.x3].toArray (by rfl) (by rfl) TH.out I1.out O2.out ?_)
  refine bodyPost_ret (v := .agg [.int .u64 z.x0, .int .u64 z.x1, .int .u64 z.x2, .int .u64 z.x3].toArray) (results_cellM Tryd.results6 _ _ _ _ _ (by rfl) LD.out) rfl ⟨rfl, BL.out⟩
set_option maxRecDepth 100000 in
set_option maxHeartbeats 4000000 in
theorem lNeg_any (a : E4) (ha : a.ok) (w : World) (hT : Tb w) :
    Calls Tryd.prog 8 #[a.v] w fun e w' => e = .returned (lst (-a.n)).v ∧ Below w.heap.size w w' := by
  have HT := hidden hT
  have RA := hidden (fun w T => fix (R := lst (-a.n)) (Neg_any a w T ha) rfl)
  generalize lst (-a.n) = z at *
  unfold E4.v at RA ⊢
  have M0 := ((Mw.start w).new [.int .u64 a.x0, .int .u64 a.x1, .int .u64 a.x2, .int .u64 a.x3] 28).new [.int .u64 0, .int .u64 0, .int .u64 0, .int .u64 0] 28
  simp only [World.size_alloc] at M0
  have MM := hidden M0
  have I1 := hidden (l4_i z)
  have O2 := hidden (c4_one z)
  clear M0
  go_enter Tryd.func8, Tryd.ntmps8
  go_wp2_with (first | (go_at_call 28; refine (RA.out _ (HT.out.keep MM.out.bel)).mono ?_; rintro e wa ⟨rfl, ha⟩; replace MM := hidden (MM.out.keep ha); clear ha; have TH := hidden (MM.out.ther [.int .u64 z.x0, .int .u64 z.x1, .int .u64 z.x2, .int .u64 z.x3] (c := w.heap.size + 1) (o := [.int .u64 0, .int .u64 0, .int .u64 0, .int .u64 0]) (by simp) rfl); have M1 := MM.out.set (M := []) [.int .u64 z.x0, .int .u64 z.x1, .int .u64 z.x2, .int .u64 z.x3] (c := w.heap.size + 1) (o := [.int .u64 0, .int .u64 0, .int .u64 0, .int .u64 0]) (by simp) rfl (fun p hp => by cases hp); have LD := hidden (M1.var (c := w.heap.size + 1) (ds := [.int .u64 z.x0, .int .u64 z.x1, .int .u64 z.x2, .int .u64 z.x3]) (by simp) Tryd.underlying28 rfl I1.out); have BL := hidden M1.bel; clear M1) | refine wpList_store_mid rfl 28 _ _ rfl (w.heap.size + 1) 0 [.int .u64 z.x0, .int .u64 z.x1, .int .u64 z.x2, .int .u64 z.x3].toArray (by rfl) (by rfl) TH.out I1.out O2.out ?_)
  refine bodyPost_ret (v := .agg [.int .u64 z.x0, .int .u64 z.x1, .int .u64 z.x2, .int .u64 z.x3].toArray) (results_cellM Tryd.results8 _ _ _ _ _ (by rfl) LD.out) rfl ⟨rfl, BL.out⟩
set_option maxRecDepth 100000 in
set_option maxHeartbeats 4000000 in
theorem lDouble_any (a : E4) (ha : a.ok) (w : World) (hT : Tb w) :
    Calls Tryd.prog 10 #[a.v] w fun e w' => e = .returned (lst (a.n + a.n)).v ∧ Below w.heap.size w w' := by
  have HT := hidden hT
  have RA := hidden (fun w T => fix (R := lst (a.n + a.n)) (Add_any a a w T ha ha) rfl)
  generalize lst (a.n + a.n) = z at *
  unfold E4.v at RA ⊢
  have M0 := ((Mw.start w).new [.int .u64 a.x0, .int .u64 a.x1, .int .u64 a.x2, .int .u64 a.x3] 28).new [.int .u64 0, .int .u64 0, .int .u64 0, .int .u64 0] 28
  simp only [World.size_alloc] at M0
  have MM := hidden M0
  have I1 := hidden (l4_i z)
  have O2 := hidden (c4_one z)
  clear M0
  go_enter Tryd.func10, Tryd.ntmps10
  go_wp2_with (first | (go_at_call 22; refine (RA.out _ (HT.out.keep MM.out.bel)).mono ?_; rintro e wa ⟨rfl, ha⟩; replace MM := hidden (MM.out.keep ha); clear ha; have TH := hidden (MM.out.ther [.int .u64 z.x0, .int .u64 z.x1, .int .u64 z.x2, .int .u64 z.x3] (c := w.heap.size + 1) (o := [.int .u64 0, .int .u64 0, .int .u64 0, .int .u64 0]) (by simp) rfl); have M1 := MM.out.set (M := []) [.int .u64 z.x0, .int .u64 z.x1, .int .u64 z.x2, .int .u64 z.x3] (c := w.heap.size + 1) (o := [.int .u64 0, .int .u64 0, .int .u64 0, .int .u64 0]) (by simp) rfl (fun p hp => by cases hp); have LD := hidden (M1.var (c := w.heap.size + 1) (ds := [.int .u64 z.x0, .int .u64 z.x1, .int .u64 z.x2, .int .u64 z.x3]) (by simp) Tryd.underlying28 rfl I1.out); have BL := hidden M1.bel; clear M1) | refine wpList_store_mid rfl 28 _ _ rfl (w.heap.size + 1) 0 [.int .u64 z.x0, .int .u64 z.x1, .int .u64 z.x2, .int .u64 z.x3].toArray (by rfl) (by rfl) TH.out I1.out O2.out ?_)
  refine bodyPost_ret (v := .agg [.int .u64 z.x0, .int .u64 z.x1, .int .u64 z.x2, .int .u64 z.x3].toArray) (results_cellM Tryd.results10 _ _ _ _ _ (by rfl) LD.out) rfl ⟨rfl, BL.out⟩
set_option maxRecDepth 100000 in
set_option maxHeartbeats 4000000 in
theorem lTimes_any (a b : E4) (ha : a.ok) (hb : b.ok) (w : World) (hT : Tb w) :
    Calls Tryd.prog 12 #[a.v, b.v] w fun e w' => e = .returned (lst (a.n * b.n)).v ∧ Below w.heap.size w w' := by
  have HT := hidden hT
  have RA := hidden (fun w T => fix (R := lst (a.n * b.n)) (Mul_any a b w T ha hb) rfl)
  generalize lst (a.n * b.n) = z at *
  unfold E4.v at RA ⊢
  have M0 := (((Mw.start w).new [.int .u64 a.x0, .int .u64 a.x1, .int .u64 a.x2, .int .u64 a.x3] 28).new [.int .u64 b.x0, .int .u64 b.x1, .int .u64 b.x2, .int .u64 b.x3] 24).new [.int .u64 0, .int .u64 0, .int .u64 0, .int .u64 0] 28
  simp only [World.size_alloc] at M0
  have MM := hidden M0
  have I1 := hidden (l4_i z)
  have O2 := hidden (c4_one z)
  clear M0
  go_enter Tryd.func12, Tryd.ntmps12
  go_wp2_with (first | (go_at_call 31; refine (RA.out _ (HT.out.keep MM.out.bel)).mono ?_; rintro e wa ⟨rfl, ha⟩; replace MM := hidden (MM.out.keep ha); clear ha; have TH := hidden (MM.out.ther [.int .u64 z.x0, .int .u64 z.x1, .int .u64 z.x2, .int .u64 z.x3] (c := w.heap.size + 1 + 1) (o := [.int .u64 0, .int .u64 0, .int .u64 0, .int .u64 0]) (by simp) rfl); have M1 := MM.out.set (M := []) [.int .u64 z.x0, .int .u64 z.x1, .int .u64 z.x2, .int .u64 z.x3] (c := w.heap.size + 1 + 1) (o := [.int .u64 0, .int .u64 0, .int .u64 0, .int .u64 0]) (by simp) rfl (fun p hp => by cases hp); have LD := hidden (M1.var (c := w.heap.size + 1 + 1) (ds := [.int .u64 z.x0, .int .u64 z.x1, .int .u64 z.x2, .int .u64 z.x3]) (by simp) Tryd.underlying28 rfl I1.out); have BL := hidden M1.bel; clear M1) | refine wpList_store_mid rfl 28 _ _ rfl (w.heap.size + 1 + 1) 0 [.int .u64 z.x0, .int .u64 z.x1, .int .u64 z.x2, .int .u64 z.x3].toArray (by rfl) (by rfl) TH.out I1.out O2.out ?_)
  refine bodyPost_ret (v := .agg [.int .u64 z.x0, .int .u64 z.x1, .int .u64 z.x2, .int .u64 z.x3].toArray) (results_cellM Tryd.results12 _ _ _ _ _ (by rfl) LD.out) rfl ⟨rfl, BL.out⟩
set_option maxRecDepth 100000 in
set_option maxHeartbeats 4000000 in
theorem lSame_any (a b : E4) (ha : a.ok) (hb : b.ok) (w : World) (hT : Tb w) :
    Calls Tryd.prog 15 #[a.v, b.v] w fun e w' => e = .returned (.bool ((lst a.n).same (lst b.n))) ∧ Below w.heap.size w w' := by
  have HT := hidden hT
  have RA := hidden (fun w T => Same_any a b w T ha hb)
  have M0 := ((Mw.start w).new [.int .u64 a.x0, .int .u64 a.x1, .int .u64 a.x2, .int .u64 a.x3] 28).new [.int .u64 b.x0, .int .u64 b.x1, .int .u64 b.x2, .int .u64 b.x3] 28
  have MM := hidden M0.bel
  clear M0 hT
  unfold E4.v at RA ⊢
  generalize (lst a.n).same (lst b.n) = B at *
  go_enter Tryd.func15, Tryd.ntmps15
  go_wp2_with (first | (go_at_call 35; refine (RA.out _ (HT.out.keep MM.out)).mono ?_; rintro e wa ⟨rfl, ha⟩; replace MM := hidden (bl_trans MM.out ha); clear ha))
  refine bodyPost_ret (v := .bool B) (by simp [results, Tryd.results15, go_sem]) rfl ⟨rfl, MM.out⟩
set_option maxRecDepth 100000 in
set_option maxHeartbeats 4000000 in
theorem eSame_any (a b : E4) (w : World) :
    Calls Tryd.prog 16 #[.agg (el a).toArray, .agg (el b).toArray] w fun e w' => e = .returned (.bool (a.same b)) ∧ Below w.heap.size w w' := by
  have RQ := fun w => requal a b w
  have M0 := ((Mw.start w).new (el a) 38).new (el b) 38
  have BL := hidden M0.bel
  clear M0
  unfold E4.v at RQ
  obtain ⟨lx, hex⟩ : ∃ l, el a = l := ⟨_, rfl⟩
  obtain ⟨ly, hey⟩ : ∃ l, el b = l := ⟨_, rfl⟩
  have h0x : lx[0]? = some (.int .i64 2) := by rw [← hex]; exact el_0 _
  have h21x : lx[21]? = some (.int .u64 a.x0) := by rw [← hex]; exact el_21 _
  have h22x : lx[22]? = some (.int .u64 a.x1) := by rw [← hex]; exact el_22 _
  have h23x : lx[23]? = some (.int .u64 a.x2) := by rw [← hex]; exact el_23 _
  have h24x : lx[24]? = some (.int .u64 a.x3) := by rw [← hex]; exact el_24 _
  have h0y : ly[0]? = some (.int .i64 2) := by rw [← hey]; exact el_0 _
  have h21y : ly[21]? = some (.int .u64 b.x0) := by rw [← hey]; exact el_21 _
  have h22y : ly[22]? = some (.int .u64 b.x1) := by rw [← hey]; exact el_22 _
  have h23y : ly[23]? = some (.int .u64 b.x2) := by rw [← hey]; exact el_23 _
  have h24y : ly[24]? = some (.int .u64 b.x3) := by rw [← hey]; exact el_24 _
  rw [hex, hey] at BL ⊢
  clear hex hey
  generalize a.same b = B at *
  go_enter Tryd.func16, Tryd.ntmps16
  go_wp2_with fail
  refine bodyPost_ret (v := .bool B) (by simp [results, Tryd.results16, go_sem]) rfl ⟨rfl, BL.out⟩
theorem b_und : Tryd.prog.underlying 26 = some (.array 32 5) := by kernel_rfl
theorem b_i (m : Int) : (Tryd.prog.info? 26).map (·.size) = some ((bytes m).map fun z => Value.int .u8 z).length := by rw [by_len]; kernel_rfl
theorem b_i2 (m : Int) : (Tryd.prog.info? 26).map (·.size) = some ((bytes m).map fun z => Value.int .u8 z).toArray.size := by rw [List.size_toArray, by_len]; kernel_rfl
theorem b_one (m : Int) : ((bytes m).map fun z => Value.int .u8 z).toArray.all (·.oneCell') = true := all_oneCell_toArray (fun v hv => by obtain ⟨z, _, rfl⟩ := List.mem_map.1 hv; rfl)
set_option maxRecDepth 100000 in
set_option maxHeartbeats 4000000 in
theorem lEncode_any (a : E4) (ha : a.ok) (w : World) (hT : Tb w) :
    Calls Tryd.prog 17 #[a.v] w fun e w' => e = .returned (.agg ((bytes (a.n % Sm.L)).map fun z => Value.int .u8 z).toArray) ∧ Below w.heap.size w w' := by
  have HT := hidden hT
  have RA := hidden (fun w T => Encode_any a w T ha)
  have D1 := b_i (a.n % Sm.L)
  have D2 := b_one (a.n % Sm.L)
  have D3 := by_len (a.n % Sm.L)
  generalize ((bytes (a.n % Sm.L)).map fun z => Value.int .u8 z) = ds at *
  unfold E4.v at RA ⊢
  have M0 := ((Mw.start w).new [.int .u64 a.x0, .int .u64 a.x1, .int .u64 a.x2, .int .u64 a.x3] 28).new [.int .u8 0, .int .u8 0, .int .u8 0, .int .u8 0, .int .u8 0, .int .u8 0, .int .u8 0, .int .u8 0, .int .u8 0, .int .u8 0, .int .u8 0, .int .u8 0, .int .u8 0, .int .u8 0, .int .u8 0, .int .u8 0, .int .u8 0, .int .u8 0, .int .u8 0, .int .u8 0, .int .u8 0, .int .u8 0, .int .u8 0, .int .u8 0, .int .u8 0, .int .u8 0, .int .u8 0, .int .u8 0, .int .u8 0, .int .u8 0, .int .u8 0, .int .u8 0] 26
  simp only [World.size_alloc] at M0
  have MM := hidden M0
  have I1 := hidden (D1)
  have O2 := hidden (D2)
  clear M0
  go_enter Tryd.func17, Tryd.ntmps17
  go_wp2_with (first | (go_at_call 37; refine (RA.out _ (HT.out.keep MM.out.bel)).mono ?_; rintro e wa ⟨rfl, ha⟩; replace MM := hidden (MM.out.keep ha); clear ha; have TH := hidden (MM.out.ther ds (c := w.heap.size + 1) (o := [.int .u8 0, .int .u8 0, .int .u8 0, .int .u8 0, .int .u8 0, .int .u8 0, .int .u8 0, .int .u8 0, .int .u8 0, .int .u8 0, .int .u8 0, .int .u8 0, .int .u8 0, .int .u8 0, .int .u8 0, .int .u8 0, .int .u8 0, .int .u8 0, .int .u8 0, .int .u8 0, .int .u8 0, .int .u8 0, .int .u8 0, .int .u8 0, .int .u8 0, .int .u8 0, .int .u8 0, .int .u8 0, .int .u8 0, .int .u8 0, .int .u8 0, .int .u8 0]) (by simp) D3); have M1 := MM.out.set (M := []) ds (c := w.heap.size + 1) (o := [.int .u8 0, .int .u8 0, .int .u8 0, .int .u8 0, .int .u8 0, .int .u8 0, .int .u8 0, .int .u8 0, .int .u8 0, .int .u8 0, .int .u8 0, .int .u8 0, .int .u8 0, .int .u8 0, .int .u8 0, .int .u8 0, .int .u8 0, .int .u8 0, .int .u8 0, .int .u8 0, .int .u8 0, .int .u8 0, .int .u8 0, .int .u8 0, .int .u8 0, .int .u8 0, .int .u8 0, .int .u8 0, .int .u8 0, .int .u8 0, .int .u8 0, .int .u8 0]) (by simp) D3 (fun p hp => by cases hp); have LD := hidden (M1.var (c := w.heap.size + 1) (ds := ds) (by simp) b_und rfl I1.out); have BL := hidden M1.bel; clear M1) | refine wpList_store_mid rfl 26 _ _ rfl (w.heap.size + 1) 0 ds.toArray (by rfl) (by rfl) TH.out (by simpa using I1.out) O2.out ?_)
  refine bodyPost_ret (v := .agg ds.toArray) (results_cellM Tryd.results17 _ _ _ _ _ (by rfl) LD.out) rfl ⟨rfl, BL.out⟩
set_option maxRecDepth 100000 in
set_option maxHeartbeats 4000000 in
theorem eEncode_any (n : Int) (w : World) :
    Calls Tryd.prog 18 #[.agg (el (lst n)).toArray] w fun e w' => e = .returned (.agg ((bytes (n % Sm.L)).map fun z => Value.int .u8 z).toArray) ∧ Below w.heap.size w w' := by
  have RA := hidden (fun w => rEncode_any n w)
  have D1 := b_i (n % Sm.L)
  have D2 := b_one (n % Sm.L)
  have D3 := by_len (n % Sm.L)
  generalize ((bytes (n % Sm.L)).map fun z => Value.int .u8 z) = ds at *
  generalize lst n = x at *
  unfold E4.v at RA
  obtain ⟨lx, hex⟩ : ∃ l, el x = l := ⟨_, rfl⟩
  have h0x : lx[0]? = some (.int .i64 2) := by rw [← hex]; exact el_0 _
  have h21x : lx[21]? = some (.int .u64 x.x0) := by rw [← hex]; exact el_21 _
  have h22x : lx[22]? = some (.int .u64 x.x1) := by rw [← hex]; exact el_22 _
  have h23x : lx[23]? = some (.int .u64 x.x2) := by rw [← hex]; exact el_23 _
  have h24x : lx[24]? = some (.int .u64 x.x3) := by rw [← hex]; exact el_24 _
  rw [hex]
  clear hex
  have M0 := ((Mw.start w).new lx 38).new [.int .u8 0, .int .u8 0, .int .u8 0, .int .u8 0, .int .u8 0, .int .u8 0, .int .u8 0, .int .u8 0, .int .u8 0, .int .u8 0, .int .u8 0, .int .u8 0, .int .u8 0, .int .u8 0, .int .u8 0, .int .u8 0, .int .u8 0, .int .u8 0, .int .u8 0, .int .u8 0, .int .u8 0, .int .u8 0, .int .u8 0, .int .u8 0, .int .u8 0, .int .u8 0, .int .u8 0, .int .u8 0, .int .u8 0, .int .u8 0, .int .u8 0, .int .u8 0] 26
  simp only [World.size_alloc] at M0
  have MM := hidden M0
  have I1 := hidden (D1)
  have O2 := hidden (D2)
  clear M0
  go_enter Tryd.func18, Tryd.ntmps18
  go_wp2_with (first | (go_at_call 39; refine (RA.out _).mono ?_; rintro e wa ⟨rfl, ha⟩; replace MM := hidden (MM.out.keep ha); clear ha; have TH := hidden (MM.out.ther ds (c := w.heap.size + 1) (o := [.int .u8 0, .int .u8 0, .int .u8 0, .int .u8 0, .int .u8 0, .int .u8 0, .int .u8 0, .int .u8 0, .int .u8 0, .int .u8 0, .int .u8 0, .int .u8 0, .int .u8 0, .int .u8 0, .int .u8 0, .int .u8 0, .int .u8 0, .int .u8 0, .int .u8 0, .int .u8 0, .int .u8 0, .int .u8 0, .int .u8 0, .int .u8 0, .int .u8 0, .int .u8 0, .int .u8 0, .int .u8 0, .int .u8 0, .int .u8 0, .int .u8 0, .int .u8 0]) (by simp) D3); have M1 := MM.out.set (M := []) ds (c := w.heap.size + 1) (o := [.int .u8 0, .int .u8 0, .int .u8 0, .int .u8 0, .int .u8 0, .int .u8 0, .int .u8 0, .int .u8 0, .int .u8 0, .int .u8 0, .int .u8 0, .int .u8 0, .int .u8 0, .int .u8 0, .int .u8 0, .int .u8 0, .int .u8 0, .int .u8 0, .int .u8 0, .int .u8 0, .int .u8 0, .int .u8 0, .int .u8 0, .int .u8 0, .int .u8 0, .int .u8 0, .int .u8 0, .int .u8 0, .int .u8 0, .int .u8 0, .int .u8 0, .int .u8 0]) (by simp) D3 (fun p hp => by cases hp); have LD := hidden (M1.var (c := w.heap.size + 1) (ds := ds) (by simp) b_und rfl I1.out); have BL := hidden M1.bel; clear M1) | refine wpList_store_mid rfl 26 _ _ rfl (w.heap.size + 1) 0 ds.toArray (by rfl) (by rfl) TH.out (by simpa using I1.out) O2.out ?_)
  refine bodyPost_ret (v := .agg ds.toArray) (results_cellM Tryd.results18 _ _ _ _ _ (by rfl) LD.out) rfl ⟨rfl, BL.out⟩
set_option maxRecDepth 100000 in
set_option maxHeartbeats 4000000 in
theorem neutral_any (w : World) :
    Calls Tryd.prog 43 #[.int .i64 2] w fun e w' => e = .returned (.agg (el zero4).toArray) ∧ Below w.heap.size w w' := by
  have M0 := (Mw.start w).new [.int .i64 0, .int .i64 0, .int .i64 0, .int .i64 0, .int .i64 0, .int .i64 0, .int .i64 0, .int .i64 0, .int .i64 0, .int .i64 0, .int .i64 0, .int .i64 0, .int .i64 0, .int .i64 0, .int .i64 0, .int .i64 0, .int .i64 0, .int .i64 0, .int .i64 0, .int .i64 0, .int .i64 0, .int .u64 0, .int .u64 0, .int .u64 0, .int .u64 0, .slice none 0 0] 38
  have TH := hidden (M0.ther (el zero4) (c := w.heap.size) (o := [.int .i64 0, .int .i64 0, .int .i64 0, .int .i64 0, .int .i64 0, .int .i64 0, .int .i64 0, .int .i64 0, .int .i64 0, .int .i64 0, .int .i64 0, .int .i64 0, .int .i64 0, .int .i64 0, .int .i64 0, .int .i64 0, .int .i64 0, .int .i64 0, .int .i64 0, .int .i64 0, .int .i64 0, .int .u64 0, .int .u64 0, .int .u64 0, .int .u64 0, .slice none 0 0]) (by simp) rfl)
  have M1 := M0.set (M := []) (el zero4) (c := w.heap.size) (o := [.int .i64 0, .int .i64 0, .int .i64 0, .int .i64 0, .int .i64 0, .int .i64 0, .int .i64 0, .int .i64 0, .int .i64 0, .int .i64 0, .int .i64 0, .int .i64 0, .int .i64 0, .int .i64 0, .int .i64 0, .int .i64 0, .int .i64 0, .int .i64 0, .int .i64 0, .int .i64 0, .int .i64 0, .int .u64 0, .int .u64 0, .int .u64 0, .int .u64 0, .slice none 0 0]) (by simp) rfl (fun p hp => by cases hp)
  have LD := hidden (M1.var (c := w.heap.size) (ds := el zero4) (by simp) Tryd.underlying38 rfl (el_i zero4))
  have BL := hidden M1.bel
  have I2 := hidden (el_i2 zero4)
  have O2 := hidden (el_one zero4)
  clear M0 M1
  go_enter Tryd.func43, Tryd.ntmps43
  go_wp2_with (first | refine wpList_buildC rfl 38 _ rfl (el zero4).toArray (by kernel_rfl) ?_ | refine wpList_store_mid rfl 38 _ _ rfl (w.heap.size) 0 (el zero4).toArray (by rfl) (by rfl) TH.out I2.out O2.out ?_)
  refine bodyPost_ret (v := .agg (el zero4).toArray) (results_cellM Tryd.results43 _ _ _ _ _ (by rfl) LD.out) rfl ⟨rfl, BL.out⟩
end Go.Proofs.YtldapnlajnllhabDoor
