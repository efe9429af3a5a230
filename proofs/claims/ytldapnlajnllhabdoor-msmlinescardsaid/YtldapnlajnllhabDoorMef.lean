import Derived.Test.YtldapnlajnllhabDoorMel
namespace Go.Proofs.YtldapnlajnllhabDoor
open Go.RowKit
theorem vAgg (a : E4) : a.v = .agg [.int .u64 a.x0, .int .u64 a.x1, .int .u64 a.x2, .int .u64 a.x3].toArray := rfl
theorem c4_i (a : E4) : (Tryd.prog.info? 35).map (·.size) = some [Value.int .u64 a.x0, .int .u64 a.x1, .int .u64 a.x2, .int .u64 a.x3].length := by kernel_rfl
theorem l4_i (a : E4) : (Tryd.prog.info? 28).map (·.size) = some [Value.int .u64 a.x0, .int .u64 a.x1, .int .u64 a.x2, .int .u64 a.x3].length := by kernel_rfl
theorem s4_i (a : E4) : (Tryd.prog.info? 24).map (·.size) = some [Value.int .u64 a.x0, .int .u64 a.x1, .int .u64 a.x2, .int .u64 a.x3].length := by kernel_rfl
theorem c4_one (a : E4) : [Value.int .u64 a.x0, .int .u64 a.x1, .int .u64 a.x2, .int .u64 a.x3].toArray.all (·.oneCell') = true := by simp [Value.oneCell']

set_option maxRecDepth 100000 in
set_option maxHeartbeats 4000000 in
theorem eAdd_any (n m : Int) (w : World) :
    Calls Tryd.prog 7 #[.agg (el (lst n)).toArray, .agg (el (lst m)).toArray] w fun e w' => e = .returned (.agg (el (lst (n + m))).toArray) ∧ Below w.heap.size w w' := by
  have RA := hidden (fun w => rAdd_any n m w)
  have LO := hidden (fun w => lineOf_any (lst (n + m)) w)
  generalize lst n = x at *
  generalize lst m = y at *
  generalize lst (n + m) = z at *
  unfold E4.v at RA LO
  obtain ⟨lx, hex⟩ : ∃ l, el x = l := ⟨_, rfl⟩
  obtain ⟨ly, hey⟩ : ∃ l, el y = l := ⟨_, rfl⟩
  have h0x : lx[0]? = some (.int .i64 2) := by rw [← hex]; exact el_0 _
  have h21x : lx[21]? = some (.int .u64 x.x0) := by rw [← hex]; exact el_21 _
  have h22x : lx[22]? = some (.int .u64 x.x1) := by rw [← hex]; exact el_22 _
  have h23x : lx[23]? = some (.int .u64 x.x2) := by rw [← hex]; exact el_23 _
  have h24x : lx[24]? = some (.int .u64 x.x3) := by rw [← hex]; exact el_24 _
  have h0y : ly[0]? = some (.int .i64 2) := by rw [← hey]; exact el_0 _
  have h21y : ly[21]? = some (.int .u64 y.x0) := by rw [← hey]; exact el_21 _
  have h22y : ly[22]? = some (.int .u64 y.x1) := by rw [← hey]; exact el_22 _
  have h23y : ly[23]? = some (.int .u64 y.x2) := by rw [← hey]; exact el_23 _
  have h24y : ly[24]? = some (.int .u64 y.x3) := by rw [← hey]; exact el_24 _
  rw [hex, hey]
  clear hex hey
  have M0 := (((Mw.start w).new lx 38).new ly 38).new [.int .i64 0, .int .i64 0, .int .i64 0, .int .i64 0, .int .i64 0, .int .i64 0, .int .i64 0, .int .i64 0, .int .i64 0, .int .i64 0, .int .i64 0, .int .i64 0, .int .i64 0, .int .i64 0, .int .i64 0, .int .i64 0, .int .i64 0, .int .i64 0, .int .i64 0, .int .i64 0, .int .i64 0, .int .u64 0, .int .u64 0, .int .u64 0, .int .u64 0, .slice none 0 0] 38
  simp only [World.size_alloc] at M0
  have MM := hidden M0
  have I1 := hidden (el_i z)
  have O2 := hidden (el_one z)
  clear M0
  go_enter Tryd.func7, Tryd.ntmps7
  go_wp2_with (first | (go_at_call 25; refine (RA.out _).mono ?_; rintro e wa ⟨rfl, ha⟩; replace MM := hidden (MM.out.keep ha); clear ha) | (go_at_call 21; refine (LO.out _).mono ?_; rintro e wa ⟨rfl, ha⟩; replace MM := hidden (MM.out.keep ha); clear ha; have TH := hidden (MM.out.ther (el z) (c := w.heap.size + 1 + 1) (o := [.int .i64 0, .int .i64 0, .int .i64 0, .int .i64 0, .int .i64 0, .int .i64 0, .int .i64 0, .int .i64 0, .int .i64 0, .int .i64 0, .int .i64 0, .int .i64 0, .int .i64 0, .int .i64 0, .int .i64 0, .int .i64 0, .int .i64 0, .int .i64 0, .int .i64 0, .int .i64 0, .int .i64 0, .int .u64 0, .int .u64 0, .int .u64 0, .int .u64 0, .slice none 0 0]) (by simp) rfl); have M1 := MM.out.set (M := []) (el z) (c := w.heap.size + 1 + 1) (o := [.int .i64 0, .int .i64 0, .int .i64 0, .int .i64 0, .int .i64 0, .int .i64 0, .int .i64 0, .int .i64 0, .int .i64 0, .int .i64 0, .int .i64 0, .int .i64 0, .int .i64 0, .int .i64 0, .int .i64 0, .int .i64 0, .int .i64 0, .int .i64 0, .int .i64 0, .int .i64 0, .int .i64 0, .int .u64 0, .int .u64 0, .int .u64 0, .int .u64 0, .slice none 0 0]) (by simp) rfl (fun p hp => by cases hp); have LD := hidden (M1.var (c := w.heap.size + 1 + 1) (ds := (el z)) (by simp) Tryd.underlying38 rfl I1.out); have BL := hidden M1.bel; clear M1) | refine wpList_store_mid rfl 38 _ _ rfl (w.heap.size + 1 + 1) 0 (el z).toArray (by rfl) (by rfl) TH.out I1.out O2.out ?_)
  refine bodyPost_ret (v := .agg (el z).toArray) (results_cellM Tryd.results7 _ _ _ _ _ (by rfl) LD.out) rfl ⟨rfl, BL.out⟩
set_option maxRecDepth 100000 in
set_option maxHeartbeats 4000000 in
theorem eTimes_any (n m : Int) (w : World) :
    Calls Tryd.prog 13 #[.agg (el (lst n)).toArray, (lst m).v] w fun e w' => e = .returned (.agg (el (lst (n * m))).toArray) ∧ Below w.heap.size w w' := by
  have RA := hidden (fun w => rMul_any n m w)
  have LO := hidden (fun w => lineOf_any (lst (n * m)) w)
  generalize lst n = x at *
  generalize lst m = y at *
  generalize lst (n * m) = z at *
  unfold E4.v at RA LO ⊢
  obtain ⟨lx, hex⟩ : ∃ l, el x = l := ⟨_, rfl⟩
  have h0x : lx[0]? = some (.int .i64 2) := by rw [← hex]; exact el_0 _
  have h21x : lx[21]? = some (.int .u64 x.x0) := by rw [← hex]; exact el_21 _
  have h22x : lx[22]? = some (.int .u64 x.x1) := by rw [← hex]; exact el_22 _
  have h23x : lx[23]? = some (.int .u64 x.x2) := by rw [← hex]; exact el_23 _
  have h24x : lx[24]? = some (.int .u64 x.x3) := by rw [← hex]; exact el_24 _
  rw [hex]
  clear hex
  have M0 := (((Mw.start w).new lx 38).new [.int .u64 y.x0, .int .u64 y.x1, .int .u64 y.x2, .int .u64 y.x3] 35).new [.int .i64 0, .int .i64 0, .int .i64 0, .int .i64 0, .int .i64 0, .int .i64 0, .int .i64 0, .int .i64 0, .int .i64 0, .int .i64 0, .int .i64 0, .int .i64 0, .int .i64 0, .int .i64 0, .int .i64 0, .int .i64 0, .int .i64 0, .int .i64 0, .int .i64 0, .int .i64 0, .int .i64 0, .int .u64 0, .int .u64 0, .int .u64 0, .int .u64 0, .slice none 0 0] 38
  simp only [World.size_alloc] at M0
  have MM := hidden M0
  have I1 := hidden (el_i z)
  have O2 := hidden (el_one z)
  clear M0
  go_enter Tryd.func13, Tryd.ntmps13
  go_wp2_with (first | (go_at_call 33; refine (RA.out _).mono ?_; rintro e wa ⟨rfl, ha⟩; replace MM := hidden (MM.out.keep ha); clear ha) | (go_at_call 21; refine (LO.out _).mono ?_; rintro e wa ⟨rfl, ha⟩; replace MM := hidden (MM.out.keep ha); clear ha; have TH := hidden (MM.out.ther (el z) (c := w.heap.size + 1 + 1) (o := [.int .i64 0, .int .i64 0, .int .i64 0, .int .i64 0, .int .i64 0, .int .i64 0, .int .i64 0, .int .i64 0, .int .i64 0, .int .i64 0, .int .i64 0, .int .i64 0, .int .i64 0, .int .i64 0, .int .i64 0, .int .i64 0, .int .i64 0, .int .i64 0, .int .i64 0, .int .i64 0, .int .i64 0, .int .u64 0, .int .u64 0, .int .u64 0, .int .u64 0, .slice none 0 0]) (by simp) rfl); have M1 := MM.out.set (M := []) (el z) (c := w.heap.size + 1 + 1) (o := [.int .i64 0, .int .i64 0, .int .i64 0, .int .i64 0, .int .i64 0, .int .i64 0, .int .i64 0, .int .i64 0, .int .i64 0, .int .i64 0, .int .i64 0, .int .i64 0, .int .i64 0, .int .i64 0, .int .i64 0, .int .i64 0, .int .i64 0, .int .i64 0, .int .i64 0, .int .i64 0, .int .i64 0, .int .u64 0, .int .u64 0, .int .u64 0, .int .u64 0, .slice none 0 0]) (by simp) rfl (fun p hp => by cases hp); have LD := hidden (M1.var (c := w.heap.size + 1 + 1) (ds := (el z)) (by simp) Tryd.underlying38 rfl I1.out); have BL := hidden M1.bel; clear M1) | refine wpList_store_mid rfl 38 _ _ rfl (w.heap.size + 1 + 1) 0 (el z).toArray (by rfl) (by rfl) TH.out I1.out O2.out ?_)
  refine bodyPost_ret (v := .agg (el z).toArray) (results_cellM Tryd.results13 _ _ _ _ _ (by rfl) LD.out) rfl ⟨rfl, BL.out⟩
set_option maxRecDepth 100000 in
set_option maxHeartbeats 4000000 in
theorem eDouble_any (n : Int) (w : World) :
    Calls Tryd.prog 11 #[.agg (el (lst n)).toArray] w fun e w' => e = .returned (.agg (el (lst (n + n))).toArray) ∧ Below w.heap.size w w' := by
  have AD := hidden (fun w => eAdd_any n n w)
  have IX := hidden (el_i (lst n))
  generalize lst (n + n) = z at *
  generalize el (lst n) = lx at *
  have M0 := ((Mw.start w).new lx 38).new [.int .i64 0, .int .i64 0, .int .i64 0, .int .i64 0, .int .i64 0, .int .i64 0, .int .i64 0, .int .i64 0, .int .i64 0, .int .i64 0, .int .i64 0, .int .i64 0, .int .i64 0, .int .i64 0, .int .i64 0, .int .i64 0, .int .i64 0, .int .i64 0, .int .i64 0, .int .i64 0, .int .i64 0, .int .u64 0, .int .u64 0, .int .u64 0, .int .u64 0, .slice none 0 0] 38
  simp only [World.size_alloc] at M0
  have MM := hidden M0
  have RX := hidden (M0.r (w.heap.size, lx) (by simp)).1
  have I1 := hidden (el_i z)
  have O2 := hidden (el_one z)
  clear M0
  go_enter Tryd.func11, Tryd.ntmps11
  go_wp2_with (first | refine wpList_load_mid rfl 38 _ rfl w.heap.size 0 (by rfl) lx _ RX.out Tryd.underlying38 rfl IX.out ?_ | (go_at_call 7; refine (AD.out _).mono ?_; rintro e wa ⟨rfl, ha⟩; replace MM := hidden (MM.out.keep ha); clear ha; have TH := hidden (MM.out.ther (el z) (c := w.heap.size + 1) (o := [.int .i64 0, .int .i64 0, .int .i64 0, .int .i64 0, .int .i64 0, .int .i64 0, .int .i64 0, .int .i64 0, .int .i64 0, .int .i64 0, .int .i64 0, .int .i64 0, .int .i64 0, .int .i64 0, .int .i64 0, .int .i64 0, .int .i64 0, .int .i64 0, .int .i64 0, .int .i64 0, .int .i64 0, .int .u64 0, .int .u64 0, .int .u64 0, .int .u64 0, .slice none 0 0]) (by simp) rfl); have M1 := MM.out.set (M := []) (el z) (c := w.heap.size + 1) (o := [.int .i64 0, .int .i64 0, .int .i64 0, .int .i64 0, .int .i64 0, .int .i64 0, .int .i64 0, .int .i64 0, .int .i64 0, .int .i64 0, .int .i64 0, .int .i64 0, .int .i64 0, .int .i64 0, .int .i64 0, .int .i64 0, .int .i64 0, .int .i64 0, .int .i64 0, .int .i64 0, .int .i64 0, .int .u64 0, .int .u64 0, .int .u64 0, .int .u64 0, .slice none 0 0]) (by simp) rfl (fun p hp => by cases hp); have LD := hidden (M1.var (c := w.heap.size + 1) (ds := el z) (by simp) Tryd.underlying38 rfl I1.out); have BL := hidden M1.bel; clear M1) | refine wpList_store_mid rfl 38 _ _ rfl (w.heap.size + 1) 0 (el z).toArray (by rfl) (by rfl) TH.out I1.out O2.out ?_)
  refine bodyPost_ret (v := .agg (el z).toArray) (results_cellM Tryd.results11 _ _ _ _ _ (by rfl) LD.out) rfl ⟨rfl, BL.out⟩
theorem rleastZ (a : E4) (w : World) (ha : a.ok) : Calls Tryd.prog 34 #[a.v] w fun e w' => e = .returned (lst a.n).v ∧ Below w.heap.size w w' := fix (rleast_any a w ha) rfl
set_option maxRecDepth 100000 in
set_option maxHeartbeats 4000000 in
theorem num_any (a : E4) (ha : a.ok) (w : World) :
    Calls Tryd.prog 14 #[a.v] w fun e w' => e = .returned (lst a.n).v ∧ Below w.heap.size w w' := by
  have RL := hidden (fun w => rleastZ a w ha)
  generalize lst a.n = z at *
  unfold E4.v at RL ⊢
  have M0 := ((Mw.start w).new [.int .u64 a.x0, .int .u64 a.x1, .int .u64 a.x2, .int .u64 a.x3] 24).new [.int .u64 0, .int .u64 0, .int .u64 0, .int .u64 0] 35
  simp only [World.size_alloc] at M0
  have MM := hidden M0
  have I1 := hidden (c4_i z)
  have O2 := hidden (c4_one z)
  clear M0
  go_enter Tryd.func14, Tryd.ntmps14
  go_wp2_with (first | (go_at_call 34; refine (RL.out _).mono ?_; rintro e wa ⟨rfl, ha⟩; replace MM := hidden (MM.out.keep ha); clear ha; have TH := hidden (MM.out.ther [.int .u64 z.x0, .int .u64 z.x1, .int .u64 z.x2, .int .u64 z.x3] (c := w.heap.size + 1) (o := [.int .u64 0, .int .u64 0, .int .u64 0, .int .u64 0]) (by simp) rfl); have M1 := MM.out.set (M := []) [.int .u64 z.x0, .int .u64 z.x1, .int .u64 z.x2, .int .u64 z.x3] (c := w.heap.size + 1) (o := [.int .u64 0, .int .u64 0, .int .u64 0, .int .u64 0]) (by simp) rfl (fun p hp => by cases hp); have LD := hidden (M1.var (c := w.heap.size + 1) (ds := [.int .u64 z.x0, .int .u64 z.x1, .int .u64 z.x2, .int .u64 z.x3]) (by simp) Tryd.underlying35 rfl I1.out); have BL := hidden M1.bel; clear M1) | refine wpList_store_mid rfl 35 _ _ rfl (w.heap.size + 1) 0 [.int .u64 z.x0, .int .u64 z.x1, .int .u64 z.x2, .int .u64 z.x3].toArray (by rfl) (by rfl) TH.out I1.out O2.out ?_)
  refine bodyPost_ret (v := .agg [.int .u64 z.x0, .int .u64 z.x1, .int .u64 z.x2, .int .u64 z.x3].toArray) (results_cellM Tryd.results14 _ _ _ _ _ (by rfl) LD.out) rfl ⟨rfl, BL.out⟩
set_option maxRecDepth 100000 in
set_option maxHeartbeats 4000000 in
theorem ofLine_any (a : E4) (ha : a.ok) (w : World) :
    Calls Tryd.prog 4 #[a.v] w fun e w' => e = .returned (.agg (el (lst a.n)).toArray) ∧ Below w.heap.size w w' := by
  have RL := hidden (fun w => num_any a ha w)
  have LO := hidden (fun w => lineOf_any (lst a.n) w)
  generalize lst a.n = z at *
  unfold E4.v at RL LO ⊢
  have M0 := ((Mw.start w).new [.int .u64 a.x0, .int .u64 a.x1, .int .u64 a.x2, .int .u64 a.x3] 28).new [.int .i64 0, .int .i64 0, .int .i64 0, .int .i64 0, .int .i64 0, .int .i64 0, .int .i64 0, .int .i64 0, .int .i64 0, .int .i64 0, .int .i64 0, .int .i64 0, .int .i64 0, .int .i64 0, .int .i64 0, .int .i64 0, .int .i64 0, .int .i64 0, .int .i64 0, .int .i64 0, .int .i64 0, .int .u64 0, .int .u64 0, .int .u64 0, .int .u64 0, .slice none 0 0] 38
  simp only [World.size_alloc] at M0
  have MM := hidden M0
  have I1 := hidden (el_i z)
  have O2 := hidden (el_one z)
  clear M0
  go_enter Tryd.func4, Tryd.ntmps4
  go_wp2_with (first | (go_at_call 14; refine (RL.out _).mono ?_; rintro e wa ⟨rfl, ha⟩; replace MM := hidden (MM.out.keep ha); clear ha) | (go_at_call 21; refine (LO.out _).mono ?_; rintro e wa ⟨rfl, ha⟩; replace MM := hidden (MM.out.keep ha); clear ha; have TH := hidden (MM.out.ther (el z) (c := w.heap.size + 1) (o := [.int .i64 0, .int .i64 0, .int .i64 0, .int .i64 0, .int .i64 0, .int .i64 0, .int .i64 0, .int .i64 0, .int .i64 0, .int .i64 0, .int .i64 0, .int .i64 0, .int .i64 0, .int .i64 0, .int .i64 0, .int .i64 0, .int .i64 0, .int .i64 0, .int .i64 0, .int .i64 0, .int .i64 0, .int .u64 0, .int .u64 0, .int .u64 0, .int .u64 0, .slice none 0 0]) (by simp) rfl); have M1 := MM.out.set (M := []) (el z) (c := w.heap.size + 1) (o := [.int .i64 0, .int .i64 0, .int .i64 0, .int .i64 0, .int .i64 0, .int .i64 0, .int .i64 0, .int .i64 0, .int .i64 0, .int .i64 0, .int .i64 0, .int .i64 0, .int .i64 0, .int .i64 0, .int .i64 0, .int .i64 0, .int .i64 0, .int .i64 0, .int .i64 0, .int .i64 0, .int .i64 0, .int .u64 0, .int .u64 0, .int .u64 0, .int .u64 0, .slice none 0 0]) (by simp) rfl (fun p hp => by cases hp); have LD := hidden (M1.var (c := w.heap.size + 1) (ds := (el z)) (by simp) Tryd.underlying38 rfl I1.out); have BL := hidden M1.bel; clear M1) | refine wpList_store_mid rfl 38 _ _ rfl (w.heap.size + 1) 0 (el z).toArray (by rfl) (by rfl) TH.out I1.out O2.out ?_)
  refine bodyPost_ret (v := .agg (el z).toArray) (results_cellM Tryd.results4 _ _ _ _ _ (by rfl) LD.out) rfl ⟨rfl, BL.out⟩
set_option maxRecDepth 100000 in
set_option maxHeartbeats 4000000 in
theorem lineIs_any (a k : E4) (w : World) :
    Calls Tryd.prog 5 #[a.v, .agg (el k).toArray] w fun e w' => e = .returned (.bool (a.same k)) ∧ Below w.heap.size w w' := by
  have RQ := fun w => requal a k w
  have M0 := ((Mw.start w).new [.int .u64 a.x0, .int .u64 a.x1, .int .u64 a.x2, .int .u64 a.x3] 28).new (el k) 38
  have BL := hidden M0.bel
  clear M0
  unfold E4.v at RQ ⊢
  obtain ⟨lx, hex⟩ : ∃ l, el k = l := ⟨_, rfl⟩
  have h0x : lx[0]? = some (.int .i64 2) := by rw [← hex]; exact el_0 _
  have h21x : lx[21]? = some (.int .u64 k.x0) := by rw [← hex]; exact el_21 _
  have h22x : lx[22]? = some (.int .u64 k.x1) := by rw [← hex]; exact el_22 _
  have h23x : lx[23]? = some (.int .u64 k.x2) := by rw [← hex]; exact el_23 _
  have h24x : lx[24]? = some (.int .u64 k.x3) := by rw [← hex]; exact el_24 _
  rw [hex] at BL ⊢
  clear hex
  generalize a.same k = B at *
  go_enter Tryd.func5, Tryd.ntmps5
  go_wp2_with fail
  refine bodyPost_ret (v := .bool B) (by simp [results, Tryd.results5, go_sem]) rfl ⟨rfl, BL.out⟩
end Go.Proofs.YtldapnlajnllhabDoor
