import Derived.Test.YtpldkolphmbahaaDoorKd
namespace Go.Proofs.YtpldkolphmbahaaDoor
open Go.RowKit
set_option linter.unusedVariables false
theorem buildEl1 (y0 : E4) (w : World) : (Instr.buildSlice 42 1 #[(0, .agg (el y0).toArray)]).run Tryd.prog w = .ok (.slice (some ⟨w.heap.size, 0, none⟩) 1 1) (w.alloc (.cells (el y0).toArray 39)) := by kernel_rfl
theorem wpList_buildEl1 {w : World} {ops : Array Oper} {rest : List Oper} {o : Oper} {a : Act} {Q : Exit → Act → World → Prop} (hgd : o.guard = none) (x0 : Operand) (ho : o.op = .buildSlice 42 1 #[(0, x0)]) (y0 : E4) (h0 : a.eval x0 = .agg (el y0).toArray)
    (h : wpList Tryd.prog ops Q rest (a.put o.dst (.slice (some ⟨w.heap.size, 0, none⟩) 1 1)) (w.alloc (.cells (el y0).toArray 39))) : wpList Tryd.prog ops Q (o :: rest) a w := by
  refine wpList_plain hgd fun K hK => ?_
  have hb := buildEl1 y0 w
  generalize el y0 = z0 at hb h0 h
  unfold Oper.wp execOp
  simp only [ho, Sem.run_bind, Sem.run_pure, Result.andThen_ok, List.map_toArray, List.map_cons, List.map_nil, h0, hb]
  exact hK _ _ h
theorem buildEl2 (y0 y1 : E4) (w : World) : (Instr.buildSlice 42 2 #[(0, .agg (el y0).toArray), (1, .agg (el y1).toArray)]).run Tryd.prog w = .ok (.slice (some ⟨w.heap.size, 0, none⟩) 2 2) (w.alloc (.cells (el y0 ++ el y1).toArray 39)) := by kernel_rfl
theorem wpList_buildEl2 {w : World} {ops : Array Oper} {rest : List Oper} {o : Oper} {a : Act} {Q : Exit → Act → World → Prop} (hgd : o.guard = none) (x0 x1 : Operand) (ho : o.op = .buildSlice 42 2 #[(0, x0), (1, x1)]) (y0 y1 : E4) (h0 : a.eval x0 = .agg (el y0).toArray) (h1 : a.eval x1 = .agg (el y1).toArray)
    (h : wpList Tryd.prog ops Q rest (a.put o.dst (.slice (some ⟨w.heap.size, 0, none⟩) 2 2)) (w.alloc (.cells (el y0 ++ el y1).toArray 39))) : wpList Tryd.prog ops Q (o :: rest) a w := by
  refine wpList_plain hgd fun K hK => ?_
  have hb := buildEl2 y0 y1 w
  generalize (el y0 ++ el y1) = z at hb h
  generalize el y0 = z0 at hb h0
  generalize el y1 = z1 at hb h1
  unfold Oper.wp execOp
  simp only [ho, Sem.run_bind, Sem.run_pure, Result.andThen_ok, List.map_toArray, List.map_cons, List.map_nil, h0, h1, hb]
  exact hK _ _ h
theorem buildEl3 (y0 y1 y2 : E4) (w : World) : (Instr.buildSlice 42 3 #[(0, .agg (el y0).toArray), (1, .agg (el y1).toArray), (2, .agg (el y2).toArray)]).run Tryd.prog w = .ok (.slice (some ⟨w.heap.size, 0, none⟩) 3 3) (w.alloc (.cells (el y0 ++ el y1 ++ el y2).toArray 39)) := by kernel_rfl
theorem wpList_buildEl3 {w : World} {ops : Array Oper} {rest : List Oper} {o : Oper} {a : Act} {Q : Exit → Act → World → Prop} (hgd : o.guard = none) (x0 x1 x2 : Operand) (ho : o.op = .buildSlice 42 3 #[(0, x0), (1, x1), (2, x2)]) (y0 y1 y2 : E4) (h0 : a.eval x0 = .agg (el y0).toArray) (h1 : a.eval x1 = .agg (el y1).toArray) (h2 : a.eval x2 = .agg (el y2).toArray)
    (h : wpList Tryd.prog ops Q rest (a.put o.dst (.slice (some ⟨w.heap.size, 0, none⟩) 3 3)) (w.alloc (.cells (el y0 ++ el y1 ++ el y2).toArray 39))) : wpList Tryd.prog ops Q (o :: rest) a w := by
  refine wpList_plain hgd fun K hK => ?_
  have hb := buildEl3 y0 y1 y2 w
  generalize (el y0 ++ el y1 ++ el y2) = z at hb h
  generalize el y0 = z0 at hb h0
  generalize el y1 = z1 at hb h1
  generalize el y2 = z2 at hb h2
  unfold Oper.wp execOp
  simp only [ho, Sem.run_bind, Sem.run_pure, Result.andThen_ok, List.map_toArray, List.map_cons, List.map_nil, h0, h1, h2, hb]
  exact hK _ _ h
theorem rk_1 {w : World} {b : Nat} {x : E4} (h : w.rangeAt b 0 (el x)) : Rk w b 1 (e1 x) := fun k hk => by
  obtain rfl : k = 0 := by omega
  exact h
theorem rk_2 {w : World} {b : Nat} {x y : E4} (h : w.rangeAt b 0 (el x ++ el y)) : Rk w b 2 (e2 x y) := fun k hk j v hv => by
  have hj : j < 26 := (List.getElem?_eq_some_iff.1 hv).1
  obtain rfl | rfl : k = 0 ∨ k = 1 := by omega
  · exact h j v (by rw [List.getElem?_append_left (by rw [el_len]; omega)]; exact hv)
  · have := h (26 + j) v (by rw [List.getElem?_append_right (by rw [el_len]; omega), el_len, show 26 + j - 26 = j by omega]; exact hv)
    rwa [show 0 + (26 + j) = 1 * 26 + j by omega] at this
theorem rk_3 {w : World} {b : Nat} {x y z : E4} (h : w.rangeAt b 0 (el x ++ el y ++ el z)) : Rk w b 3 (e3 x y z) := fun k hk j v hv => by
  have hj : j < 26 := (List.getElem?_eq_some_iff.1 hv).1
  obtain rfl | rfl | rfl : k = 0 ∨ k = 1 ∨ k = 2 := by omega
  · exact h j v (by rw [List.append_assoc, List.getElem?_append_left (by rw [el_len]; omega)]; exact hv)
  · have := h (26 + j) v (by rw [List.append_assoc, List.getElem?_append_right (by rw [el_len]; omega), el_len, show 26 + j - 26 = j by omega, List.getElem?_append_left (by rw [el_len]; omega)]; exact hv)
    rwa [show 0 + (26 + j) = 1 * 26 + j by omega] at this
  · have := h (52 + j) v (by rw [List.append_assoc, List.getElem?_append_right (by rw [el_len]; omega), el_len, List.getElem?_append_right (by rw [el_len]; omega), el_len, show 52 + j - 26 - 26 = j by omega]; exact hv)
    rwa [show 0 + (52 + j) = 2 * 26 + j by omega] at this
set_option maxRecDepth 100000 in
set_option maxHeartbeats 8000000 in
theorem rkey_any (x y : E4) (w : World) :
    Calls Tryd.prog 8 #[.agg (el x).toArray, .agg (el y).toArray] w fun e w' => ∃ v, e = .returned v ∧ DC w' v 1 1 (fun _ => e1 x) (e1 y) ∧ Below w.heap.size w w' := by
  have M0 := (((Mw.start w).new (el x) 39).new (el y) 39).new [.int .i64 0, .slice none 0 0, .slice none 0 0] 52
  simp only [World.size_alloc] at M0
  have R0 := hidden (M0.r (w.heap.size, el x) (by simp)).1
  have R1 : Hid (∀ A B, (((((w.alloc (.cells (el x).toArray 39)).alloc (.cells (el y).toArray 39)).alloc (.cells #[.int .i64 0, .slice none 0 0, .slice none 0 0] 52)).alloc A).alloc B).rangeAt (w.heap.size + 1) 0 (el y)) := hidden (fun A B => range_keepM (M0.r (w.heap.size + 1, el y) (by simp)).1 (bl_trans (bl_alloc _ _) (bl_alloc _ _)))
  have UE : Hid (Tryd.prog.underlying 39 = _) := hidden Tryd.underlying39
  have I0 := hidden (el_i x)
  have I1 := hidden (el_i y)
  have M1 := ((((((Mw.start w).new (el x) 39).new (el y) 39).new [.int .i64 2, .slice (some ⟨w.heap.size + 1 + 1 + 1 + 1, 0, none⟩) 1 1, .slice (some ⟨w.heap.size + 1 + 1 + 1 + 1 + 1, 0, none⟩) 1 1] 52).new (el x) 39).new [.slice (some ⟨w.heap.size + 1 + 1 + 1, 0, none⟩) 1 1] 42).new (el y) 39
  simp only [World.size_alloc] at M1
  have HM := hidden M1
  have e0 := el_0 x
  clear M0 M1
  go_enter Tryd.func8, Tryd.ntmps8
  go_wp2_with (first | refine wpList_load_mid rfl 39 _ rfl (w.heap.size) 0 (by rfl) (el x) _ R0.out UE.out rfl I0.out ?_ | refine wpList_load_mid rfl 39 _ rfl (w.heap.size + 1) 0 (by rfl) (el y) _ (R1.out _ _) UE.out rfl I1.out ?_ | refine wpList_buildEl1 rfl _ rfl x rfl ?_ | refine wpList_buildEl1 rfl _ rfl y rfl ?_)
  have M := HM.out
  refine bodyPost_ret (v := .agg #[.int .i64 2, .slice (some ⟨w.heap.size + 1 + 1 + 1 + 1, 0, none⟩) 1 1, .slice (some ⟨w.heap.size + 1 + 1 + 1 + 1 + 1, 0, none⟩) 1 1]) (by simp [results, Tryd.results8, go_sem]) rfl ⟨_, rfl, ⟨_, w.heap.size + 1 + 1 + 1 + 1, w.heap.size + 1 + 1 + 1 + 1 + 1, fun _ => w.heap.size + 1 + 1 + 1, rfl, fun k hk => (by
      obtain rfl : k = 0 := (by omega)
      exact (M.r (w.heap.size + 1 + 1 + 1 + 1, [.slice (some ⟨w.heap.size + 1 + 1 + 1, 0, none⟩) 1 1]) (by simp)).1 0 _ rfl), fun k hk => rk_1 (M.r (w.heap.size + 1 + 1 + 1, el x) (by simp)).1, rk_1 (M.r (w.heap.size + 1 + 1 + 1 + 1 + 1, el y) (by simp)).1⟩, M.bel⟩
/-- the cells of a set of the document's of two elements -/
def s81 (b f : E4) : List Value := .int .i64 2 :: (el b ++ (el f ++ (ze ++ [.slice none 0 0, .slice none 0 0])))
theorem s81_b {w : World} {c : Nat} {b f : E4} (h : w.rangeAt c 0 (s81 b f)) : w.rangeAt c 1 (el b) := fun j v hv => by
  have hj : j < 26 := (List.getElem?_eq_some_iff.1 hv).1
  have := h (j + 1) v (by show (el b ++ (el f ++ (ze ++ [.slice none 0 0, .slice none 0 0])))[j]? = some v; rw [List.getElem?_append_left (by rw [el_len]; omega)]; exact hv)
  rwa [show 0 + (j + 1) = 1 + j by omega] at this
theorem s81_f {w : World} {c : Nat} {b f : E4} (h : w.rangeAt c 0 (s81 b f)) : w.rangeAt c 27 (el f) := fun j v hv => by
  have hj : j < 26 := (List.getElem?_eq_some_iff.1 hv).1
  have := h (26 + j + 1) v (by show (el b ++ (el f ++ (ze ++ [.slice none 0 0, .slice none 0 0])))[26 + j]? = some v; rw [List.getElem?_append_right (by rw [el_len]; omega), el_len, show 26 + j - 26 = j by omega, List.getElem?_append_left (by rw [el_len]; omega)]; exact hv)
  rwa [show 0 + (26 + j + 1) = 27 + j by omega] at this
theorem s81_0 (b f : E4) : (s81 b f)[0]? = some (.int .i64 2) := rfl
set_option maxRecDepth 100000 in
set_option maxHeartbeats 8000000 in
theorem ropening_any (b f x : E4) (w : World) :
    Calls Tryd.prog 10 #[.agg (s81 b f).toArray, .agg (el x).toArray] w fun e w' => ∃ v, e = .returned v ∧ DC w' v 1 2 (fun _ => e2 b f) (e1 x) ∧ Below w.heap.size w w' := by
  have M0 := (((Mw.start w).new (s81 b f) 44).new (el x) 39).new [.int .i64 0, .slice none 0 0, .slice none 0 0] 52
  simp only [World.size_alloc] at M0
  have RB := hidden (s81_b (M0.r (w.heap.size, s81 b f) (by simp)).1)
  have RF := hidden (s81_f (M0.r (w.heap.size, s81 b f) (by simp)).1)
  have R1 : Hid (∀ A B, (((((w.alloc (.cells (s81 b f).toArray 44)).alloc (.cells (el x).toArray 39)).alloc (.cells #[.int .i64 0, .slice none 0 0, .slice none 0 0] 52)).alloc A).alloc B).rangeAt (w.heap.size + 1) 0 (el x)) := hidden (fun A B => range_keepM (M0.r (w.heap.size + 1, el x) (by simp)).1 (bl_trans (bl_alloc _ _) (bl_alloc _ _)))
  have UE : Hid (Tryd.prog.underlying 39 = _) := hidden Tryd.underlying39
  have I0 := hidden (el_i b)
  have IF := hidden (el_i f)
  have I1 := hidden (el_i x)
  have M1 := ((((((Mw.start w).new (s81 b f) 44).new (el x) 39).new [.int .i64 2, .slice (some ⟨w.heap.size + 1 + 1 + 1 + 1, 0, none⟩) 1 1, .slice (some ⟨w.heap.size + 1 + 1 + 1 + 1 + 1, 0, none⟩) 1 1] 52).new (el b ++ el f) 39).new [.slice (some ⟨w.heap.size + 1 + 1 + 1, 0, none⟩) 2 2] 42).new (el x) 39
  simp only [World.size_alloc] at M1
  have HM := hidden M1
  have e0 := s81_0 b f
  clear M0 M1
  go_enter Tryd.func10, Tryd.ntmps10
  go_wp2_with (first | refine wpList_load_mid rfl 39 _ rfl (w.heap.size) 1 (by rfl) (el b) _ RB.out UE.out rfl I0.out ?_ | refine wpList_load_mid rfl 39 _ rfl (w.heap.size) 27 (by rfl) (el f) _ RF.out UE.out rfl IF.out ?_ | refine wpList_load_mid rfl 39 _ rfl (w.heap.size + 1) 0 (by rfl) (el x) _ (R1.out _ _) UE.out rfl I1.out ?_ | refine wpList_buildEl2 rfl _ _ rfl b f rfl rfl ?_ | refine wpList_buildEl1 rfl _ rfl x rfl ?_)
  have M := HM.out
  refine bodyPost_ret (v := .agg #[.int .i64 2, .slice (some ⟨w.heap.size + 1 + 1 + 1 + 1, 0, none⟩) 1 1, .slice (some ⟨w.heap.size + 1 + 1 + 1 + 1 + 1, 0, none⟩) 1 1]) (by simp [results, Tryd.results10, go_sem]) rfl ⟨_, rfl, ⟨_, w.heap.size + 1 + 1 + 1 + 1, w.heap.size + 1 + 1 + 1 + 1 + 1, fun _ => w.heap.size + 1 + 1 + 1, rfl, fun k hk => (by
      obtain rfl : k = 0 := (by omega)
      exact (M.r (w.heap.size + 1 + 1 + 1 + 1, [.slice (some ⟨w.heap.size + 1 + 1 + 1, 0, none⟩) 2 2]) (by simp)).1 0 _ rfl), fun k hk => rk_2 (M.r (w.heap.size + 1 + 1 + 1, el b ++ el f) (by simp)).1, rk_1 (M.r (w.heap.size + 1 + 1 + 1 + 1 + 1, el x) (by simp)).1⟩, M.bel⟩
set_option maxRecDepth 100000 in
set_option maxHeartbeats 8000000 in
theorem neutral_any (w : World) :
    Calls Tryd.prog 15 #[.int .i64 2] w fun e w' => e = .returned (.agg (el ⟨0, 0, 0, 0⟩).toArray) ∧ Below w.heap.size w w' := by
  have M0 := (Mw.start w).new ze 39
  have TH := hidden (M0.ther (el ⟨0, 0, 0, 0⟩) (c := w.heap.size) (o := ze) (by simp) rfl)
  have M1 := M0.set (M := []) (el ⟨0, 0, 0, 0⟩) (c := w.heap.size) (o := ze) (by simp) rfl (by simp)
  have LD := hidden (M1.var (c := w.heap.size) (ds := el ⟨0, 0, 0, 0⟩) (by simp) Tryd.underlying39 rfl (el_i _))
  have BL := hidden M1.bel
  have I2 := hidden (el_i2 ⟨0, 0, 0, 0⟩)
  have O2 := hidden (el_one ⟨0, 0, 0, 0⟩)
  unfold ze at TH LD BL
  clear M0 M1
  go_enter Tryd.func15, Tryd.ntmps15
  go_wp2_with (first | refine wpList_buildC rfl 39 _ rfl (el ⟨0, 0, 0, 0⟩).toArray (by kernel_rfl) ?_ | refine wpList_store_mid rfl 39 _ _ rfl w.heap.size 0 (el ⟨0, 0, 0, 0⟩).toArray (by rfl) (by rfl) TH.out I2.out O2.out ?_)
  refine bodyPost_ret (v := .agg (el ⟨0, 0, 0, 0⟩).toArray) (results_cellM Tryd.results15 _ _ _ _ _ (by rfl) LD.out) rfl ⟨rfl, BL.out⟩
end Go.Proofs.YtpldkolphmbahaaDoor
