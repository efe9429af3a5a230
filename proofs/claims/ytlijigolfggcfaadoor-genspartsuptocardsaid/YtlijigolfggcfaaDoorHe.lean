import Derived.Test.YtlijigolfggcfaaDoorHd
namespace Go.Proofs.YtlijigolfggcfaaDoor
open Go.RowKit
theorem buildEl (k : E4) (w : World) : (Instr.buildSlice 45 1 #[(0, .agg (el k).toArray)]).run Tryd.prog w = .ok (.slice (some ⟨w.heap.size, 0, none⟩) 1 1) (w.alloc (.cells (el k).toArray 44)) := by kernel_rfl
theorem wp_buildEl {w : World} {o : Oper} {a : Act} {K : Act → World → Prop} {Q : Exit → Act → World → Prop} (x : Operand) (ho : o.op = .buildSlice 45 1 #[(0, x)]) (r : E4) (hx : a.eval x = .agg (el r).toArray)
    (h : K (a.put o.dst (.slice (some ⟨w.heap.size, 0, none⟩) 1 1)) (w.alloc (.cells (el r).toArray 44))) : o.wp Tryd.prog a w K Q := by
  have hb := buildEl r w
  generalize el r = z at hb hx h
  unfold Oper.wp execOp
  simp only [ho, Sem.run_bind, Sem.run_pure, Result.andThen_ok, List.map_toArray, List.map_cons, List.map_nil, hx, hb]
  exact h
theorem el_oneL (k : E4) : ∀ u ∈ el k, u.oneCell' = true := by simp [el, Value.oneCell']
/-- the cells of the document's elements of scalars -/
def evs (n : Nat) (f : Nat → E4) : List Value := (List.range n).flatMap fun k => el (f k)
theorem evs_succ (n : Nat) (f : Nat → E4) : evs (n + 1) f = evs n f ++ el (f n) := by simp [evs, List.range_succ]
theorem evs_len (n : Nat) (f : Nat → E4) : (evs n f).length = n * 26 := by
  induction n with
  | zero => rfl
  | succ n ih => rw [evs_succ, List.length_append, ih, el_len]; omega
theorem evs_one (n : Nat) (f : Nat → E4) : ∀ u ∈ evs n f, u.oneCell' = true := by
  induction n with
  | zero => intro u hu; simp [evs] at hu
  | succ n ih =>
    intro u hu
    rw [evs_succ] at hu
    rcases List.mem_append.1 hu with h | h
    · exact ih u h
    · exact el_oneL _ u h
theorem evs_get {n : Nat} {f : Nat → E4} {k j : Nat} (hk : k < n) (hj : j < 26) : (evs n f)[k * 26 + j]? = (el (f k))[j]? := by
  induction n with
  | zero => omega
  | succ n ih =>
    rw [evs_succ]
    by_cases hkn : k < n
    · rw [List.getElem?_append_left (by rw [evs_len]; omega)]
      exact ih hkn
    · have : k = n := by omega
      subst this
      rw [List.getElem?_append_right (by rw [evs_len]; omega), evs_len, show k * 26 + j - k * 26 = j by omega]
/-- least limbs, place by place -/
def lf (g : Nat → E4) (k : Nat) : E4 := lst (g k).n
/-- what stands ahead of the two lists of a set of the document's, over the scalars -/
def hdl (x0 x1 x2 : E4) : List Value := .int .i64 2 :: (el x0 ++ el x1 ++ el x2)
theorem hdl_len (x0 x1 x2 : E4) : (hdl x0 x1 x2).length = 79 := rfl
/-- the document's set, under way -/
structure Se (B : Nat) (w : World) (s : Nat) (y0 y1 y2 : E4) (fG fH : Nat → E4) (k1 k2 : Nat) (Gv Hv : Value) : Prop where
  lt : B ≤ s
  ps : w.heap[s]? = some (.cells (hdl y0 y1 y2 ++ [Gv, Hv]).toArray 47 (0, 0))
  g : w.ownsRow B 44 26 Gv k1 (evs k1 fG)
  h : w.ownsRow B 44 26 Hv k2 (evs k2 fH)
  d : Gv.ownBlock = none ∨ Gv.ownBlock ≠ Hv.ownBlock
section
variable {B s k1 k2 : Nat} {w w' : World} {y0 y1 y2 : E4} {fG fH : Nat → E4} {Gv Hv v' : Value}
theorem Se.slt (h : Se B w s y0 y1 y2 fG fH k1 k2 Gv Hv) : s < w.heap.size := (Array.getElem?_eq_some_iff.1 h.ps).1
theorem Se.keep (h : Se B w s y0 y1 y2 fG fH k1 k2 Gv Hv) (hb : Below w.heap.size w w') : Se B w' s y0 y1 y2 fG fH k1 k2 Gv Hv :=
  ⟨h.lt, (hb.block s h.slt).trans h.ps, own_keepL h.g hb, own_keepL h.h hb, h.d⟩
theorem Se.c79 (h : Se B w s y0 y1 y2 fG fH k1 k2 Gv Hv) : w.cell? ⟨s, 79, none⟩ = some Gv := by rw [cell_of_row w s 79 _ _ (0, 0) h.ps]; rfl
theorem Se.c80 (h : Se B w s y0 y1 y2 fG fH k1 k2 Gv Hv) : w.cell? ⟨s, 80, none⟩ = some Hv := by rw [cell_of_row w s 80 _ _ (0, 0) h.ps]; rfl
theorem Se.addG (h : Se B w s y0 y1 y2 fG fH k1 k2 Gv Hv) (ho : w'.ownsRow B 44 26 v' (k1 + 1) (evs k1 fG ++ el (fG k1))) (hg : w.grownBy w' Gv.ownBlock) (hat : v'.ownBlock = Gv.ownBlock ∨ v'.ownBlock = some w.heap.size) :
    Se B (w'.setCell ⟨s, 79, none⟩ v') s y0 y1 y2 fG fH (k1 + 1) k2 v' Hv ∧ w'.cell? ⟨s, 79, none⟩ = some Gv ∧ w'.frozen? ⟨s, 79, none⟩ = false := by
  have hs := own_nb h.g h.ps es_ne
  have ps' : w'.heap[s]? = some (.cells (hdl y0 y1 y2 ++ [Gv, Hv]).toArray 47 (0, 0)) := (hg.block s h.slt (fun e => hs e.symm)).trans h.ps
  have hH : w'.ownsRow B 44 26 Hv k2 (evs k2 fH) := h.h.kept hg (by
    rcases h.d with e | e
    · rw [e]; exact none_or _
    · exact .inr (Ne.symm e))
  refine ⟨⟨h.lt, heap_setCell_same w' s 79 _ _ v' ps', ?_, own_far hH (own_nb hH ps' es_ne) _, ?_⟩, ?_, frozen_of_row w' s 79 _ _ ps'⟩
  · rw [evs_succ]
    exact own_far ho (own_nb ho ps' es_ne) _
  · rcases hat with e | e
    · rw [e]; exact h.d
    · refine .inr fun e2 => ?_
      have := h.h.lt w.heap.size (by rw [← e2, e])
      omega
  · rw [cell_of_row w' s 79 _ _ (0, 0) ps']; rfl
theorem Se.addH (h : Se B w s y0 y1 y2 fG fH k1 k2 Gv Hv) (ho : w'.ownsRow B 44 26 v' (k2 + 1) (evs k2 fH ++ el (fH k2))) (hg : w.grownBy w' Hv.ownBlock) (hat : v'.ownBlock = Hv.ownBlock ∨ v'.ownBlock = some w.heap.size) :
    Se B (w'.setCell ⟨s, 80, none⟩ v') s y0 y1 y2 fG fH k1 (k2 + 1) Gv v' ∧ w'.cell? ⟨s, 80, none⟩ = some Hv ∧ w'.frozen? ⟨s, 80, none⟩ = false := by
  have hs := own_nb h.h h.ps es_ne
  have ps' : w'.heap[s]? = some (.cells (hdl y0 y1 y2 ++ [Gv, Hv]).toArray 47 (0, 0)) := (hg.block s h.slt (fun e => hs e.symm)).trans h.ps
  have hG : w'.ownsRow B 44 26 Gv k1 (evs k1 fG) := h.g.kept hg h.d
  refine ⟨⟨h.lt, heap_setCell_same w' s 80 _ _ v' ps', own_far hG (own_nb hG ps' es_ne) _, ?_, ?_⟩, ?_, frozen_of_row w' s 80 _ _ ps'⟩
  · rw [evs_succ]
    exact own_far ho (own_nb ho ps' es_ne) _
  · rcases hat with e | e
    · rw [e]; exact h.d
    · rcases hk : Gv.ownBlock with _ | gb
      · exact .inl rfl
      · refine .inr fun e2 => ?_
        have := h.g.lt w.heap.size (by rw [hk, e2, e])
        omega
  · rw [cell_of_row w' s 80 _ _ (0, 0) ps']; rfl
end
/-- the operations of region 5 -/
def rf5o : Array Oper := #[{ dst := some 29, op := Op.fieldAddr 47 (Operand.tmp 5) 4, type := 0, pos := "law.go:75", after := #[], guard := none },
  { dst := some 30, op := Op.load 45 (Operand.tmp 29), type := 45, pos := "law.go:75", after := #[{ on := 0, ground := Ground.data }], guard := none },
  { dst := some 31, op := Op.move (Operand.tmp 1), type := 3, pos := "law.go:75", after := #[], guard := none },
  { dst := some 32, op := Op.fieldAddr 27 (Operand.tmp 2) 3, type := 0, pos := "law.go:75", after := #[], guard := none },
  { dst := some 33, op := Op.load 25 (Operand.tmp 32), type := 25, pos := "law.go:75", after := #[{ on := 3, ground := Ground.data }], guard := none },
  { dst := some 34, op := Op.move (Operand.tmp 6), type := 3, pos := "law.go:75", after := #[], guard := none },
  { dst := some 35, op := Op.indexAddr 25 (Operand.tmp 33) (Operand.tmp 34), type := 0, pos := "law.go:75", after := #[{ on := 4, ground := Ground.data }, { on := 5, ground := Ground.data }], guard := none },
  { dst := some 36, op := Op.load 24 (Operand.tmp 35), type := 24, pos := "law.go:75", after := #[{ on := 6, ground := Ground.data }], guard := none },
  { dst := some 37, op := Op.call { callee := Callee.value (Operand.func 14), args := #[Operand.tmp 31, Operand.tmp 36], argTypes := #[3, 24] }, type := 44, pos := "law.go:75", after := #[{ on := 2, ground := Ground.data }, { on := 7, ground := Ground.data }], guard := none },
  { dst := some 38, op := Op.buildSlice 45 1 #[(0, Operand.tmp 37)], type := 45, pos := "law.go:75", after := #[{ on := 8, ground := Ground.data }], guard := none },
  { dst := some 39, op := Op.call { callee := Callee.builtin Builtin.append, args := #[Operand.tmp 30, Operand.tmp 38], argTypes := #[45, 45] }, type := 45, pos := "law.go:75", after := #[{ on := 1, ground := Ground.data }, { on := 9, ground := Ground.data }, { on := 8, ground := Ground.chain }], guard := none },
  { dst := some 40, op := Op.fieldAddr 47 (Operand.tmp 5) 4, type := 0, pos := "law.go:75", after := #[{ on := 0, ground := Ground.phase }, { on := 1, ground := Ground.phase }, { on := 2, ground := Ground.phase }, { on := 3, ground := Ground.phase }, { on := 4, ground := Ground.phase }, { on := 5, ground := Ground.phase }, { on := 6, ground := Ground.phase }, { on := 7, ground := Ground.phase }, { on := 8, ground := Ground.phase }, { on := 9, ground := Ground.phase }, { on := 10, ground := Ground.phase }], guard := none },
  { dst := none, op := Op.store 45 (Operand.tmp 40) (Operand.tmp 39), type := 0, pos := "law.go:75", after := #[{ on := 11, ground := Ground.data }, { on := 10, ground := Ground.data }, { on := 10, ground := Ground.chain }, { on := 0, ground := Ground.phase }, { on := 1, ground := Ground.phase }, { on := 2, ground := Ground.phase }, { on := 3, ground := Ground.phase }, { on := 4, ground := Ground.phase }, { on := 5, ground := Ground.phase }, { on := 6, ground := Ground.phase }, { on := 7, ground := Ground.phase }, { on := 8, ground := Ground.phase }, { on := 9, ground := Ground.phase }, { on := 10, ground := Ground.phase }], guard := none }]
set_option maxRecDepth 100000 in
set_option maxHeartbeats 8000000 in
theorem rf5_fin (Q : Exit → Act → World → Prop) (k k2 s T1 sb so LG cG : Nat) (y0 y1 y2 : E4) (gG gH : Nat → E4) (u0 u3 u4 u7 u8 u9 u10 u11 u12 u13 u14 u15 u16 u17 u18 u19 u20 u21 u22 u23 u24 u25 u26 u27 u28 u39 u40 u41 u42 u43 u44 u45 u46 u47 u48 u49 u50 u51 u52 u53 u54 u55 u56 u57 u58 u59 u60 Gv Hv : Value) (w : World) (PP : ∀ d v c a w, Q (.panic c) (a.put d v) w → Q (.panic c) a w) (HQ : Hid (∀ (eb : Nat) (v' : Value) (wz : World), Se w.heap.size wz s y0 y1 y2 (lf gG) (lf gH) (k + 1) k2 v' Hv → Below w.heap.size w wz → Q .normal ⟨#[u0, .int .i64 2, .pointer (some ⟨T1, 0, none⟩), u3, u4, .pointer (some ⟨s, 0, none⟩), .int .i64 (k : Int), u7, u8, u9, u10, u11, u12, u13, u14, u15, u16, u17, u18, u19, u20, u21, u22, u23, u24, u25, u26, u27, u28, .pointer (some ⟨s, 79, none⟩), Gv, .int .i64 2, .pointer (some ⟨T1, 12, none⟩), .slice (some ⟨sb, so, none⟩) LG cG, .int .i64 (k : Int), .pointer (some ⟨sb, so + k * 4, none⟩), .agg #[.int .u64 (gG k).x0, .int .u64 (gG k).x1, .int .u64 (gG k).x2, .int .u64 (gG k).x3], .agg (el (lf gG k)).toArray, .slice (some ⟨eb, 0, none⟩) 1 1, v', .pointer (some ⟨s, 79, none⟩), u41, u42, u43, u44, u45, u46, u47, u48, u49, u50, u51, u52, u53, u54, u55, u56, u57, u58, u59, u60], []⟩ wz)) (hk : k < 1048576) (eb : Nat) (wx : World) (hS : Below w.heap.size w wx) (hR : Se w.heap.size wx s y0 y1 y2 (lf gG) (lf gH) k k2 Gv Hv) (hE : ∀ j u, (el (lf gG k))[j]? = some u → wx.cell? ((⟨eb, 0, none⟩ : Addr).add j) = some u) :
    wpAnyH Tryd.prog .any rf5o Q (fun w' => Below w.heap.size w w') 3 #[true, true, true, true, true, true, true, true, true, true, false, false, false] ⟨#[u0, .int .i64 2, .pointer (some ⟨T1, 0, none⟩), u3, u4, .pointer (some ⟨s, 0, none⟩), .int .i64 (k : Int), u7, u8, u9, u10, u11, u12, u13, u14, u15, u16, u17, u18, u19, u20, u21, u22, u23, u24, u25, u26, u27, u28, .pointer (some ⟨s, 79, none⟩), Gv, .int .i64 2, .pointer (some ⟨T1, 12, none⟩), .slice (some ⟨sb, so, none⟩) LG cG, .int .i64 (k : Int), .pointer (some ⟨sb, so + k * 4, none⟩), .agg #[.int .u64 (gG k).x0, .int .u64 (gG k).x1, .int .u64 (gG k).x2, .int .u64 (gG k).x3], .agg (el (lf gG k)).toArray, .slice (some ⟨eb, 0, none⟩) 1 1, u39, u40, u41, u42, u43, u44, u45, u46, u47, u48, u49, u50, u51, u52, u53, u54, u55, u56, u57, u58, u59, u60], []⟩ wx := by
  obtain ⟨i0, hi, hz0, hz1, hz2⟩ := info_parts einfoZ
  refine wpAnyH_ready (rs := [10]) (by kernel_rfl) (by simp) ?_
  refine AllReadyH.cons (o := { dst := some 39, op := Op.call { callee := Callee.builtin Builtin.append, args := #[Operand.tmp 30, Operand.tmp 38], argTypes := #[45, 45] }, type := 45, pos := "law.go:75", after := #[{ on := 1, ground := Ground.data }, { on := 9, ground := Ground.data }, { on := 8, ground := Ground.chain }], guard := none }) rfl (fun K hK => ?_) AllReadyH.nil
  refine Eq.mpr (if_pos (by rfl)) ?_
  refine wp_append_own_atG _ _ 45 rfl w.heap.size 44 i0 (.agg ze.toArray) 26 224 (by kernel_rfl) hi hz0 hz1 hz2 rfl (by decide) Gv k (evs k (lf gG)) rfl hR.g ⟨eb, 0, none⟩ 1 1 (el (lf gG k)) rfl rfl hE (el_oneL _) (by unfold maxLen; omega) (by omega) hS.size ?_
  intro v' w' ho hg hat
  obtain ⟨gz, cz, rfl, _, _, _⟩ := own_shapeG ho (by omega)
  obtain ⟨R2, c1, f1⟩ := hR.addG ho hg hat
  have hB := below_trans hS (below_grown hg hS.size (fun b hb => (hR.g.lt b hb).1))
  refine hK.out _ _ hB (fun _ => ?_)
  have B3 : Hid (Below w.heap.size w (w'.setCell ⟨s, 79, none⟩ (.slice (some ⟨gz, 0, none⟩) (k + 1) cz))) := hidden (hB.setCell hR.lt _)
  have R3 := hidden (HQ.out eb _ _ R2 B3.out)
  clear hK K R2 hR hE ho hg hat hi hz0 hz1 hz2
  refine wpAnyH_take (i := 11) (oi := { dst := some 40, op := Op.fieldAddr 47 (Operand.tmp 5) 4, type := 0, pos := "law.go:75", after := #[{ on := 0, ground := Ground.phase }, { on := 1, ground := Ground.phase }, { on := 2, ground := Ground.phase }, { on := 3, ground := Ground.phase }, { on := 4, ground := Ground.phase }, { on := 5, ground := Ground.phase }, { on := 6, ground := Ground.phase }, { on := 7, ground := Ground.phase }, { on := 8, ground := Ground.phase }, { on := 9, ground := Ground.phase }, { on := 10, ground := Ground.phase }], guard := none }) (v := .pointer (some ⟨s, 79, none⟩)) rfl (by kernel_rfl) (by kernel_rfl) (by kernel_rfl) (PP _ _) (Or.inl ⟨by rfl, fun w0 hSw => by go_simp⟩) hB ?_
  refine wpAnyH_ready (rs := [12]) (by kernel_rfl) (by simp) ?_
  refine AllReadyH.cons (o := { dst := none, op := Op.store 45 (Operand.tmp 40) (Operand.tmp 39), type := 0, pos := "law.go:75", after := #[{ on := 11, ground := Ground.data }, { on := 10, ground := Ground.data }, { on := 10, ground := Ground.chain }, { on := 0, ground := Ground.phase }, { on := 1, ground := Ground.phase }, { on := 2, ground := Ground.phase }, { on := 3, ground := Ground.phase }, { on := 4, ground := Ground.phase }, { on := 5, ground := Ground.phase }, { on := 6, ground := Ground.phase }, { on := 7, ground := Ground.phase }, { on := 8, ground := Ground.phase }, { on := 9, ground := Ground.phase }, { on := 10, ground := Ground.phase }], guard := none }) rfl (fun K hK => ?_) AllReadyH.nil
  go_wp2_with fail
  refine hK.out _ _ B3.out (fun _ => ?_)
  exact wpAnyH_done (by kernel_rfl) R3.out _
set_option maxRecDepth 100000 in
set_option maxHeartbeats 8000000 in
theorem rf5_cl (Q : Exit → Act → World → Prop) (k k2 s T1 sb so LG cG : Nat) (y0 y1 y2 : E4) (gG gH : Nat → E4) (u0 u3 u4 u7 u8 u9 u10 u11 u12 u13 u14 u15 u16 u17 u18 u19 u20 u21 u22 u23 u24 u25 u26 u27 u28 u38 u39 u40 u41 u42 u43 u44 u45 u46 u47 u48 u49 u50 u51 u52 u53 u54 u55 u56 u57 u58 u59 u60 Gv Hv : Value) (w : World) (PP : ∀ d v c a w, Q (.panic c) (a.put d v) w → Q (.panic c) a w) (HQ : Hid (∀ (eb : Nat) (v' : Value) (wz : World), Se w.heap.size wz s y0 y1 y2 (lf gG) (lf gH) (k + 1) k2 v' Hv → Below w.heap.size w wz → Q .normal ⟨#[u0, .int .i64 2, .pointer (some ⟨T1, 0, none⟩), u3, u4, .pointer (some ⟨s, 0, none⟩), .int .i64 (k : Int), u7, u8, u9, u10, u11, u12, u13, u14, u15, u16, u17, u18, u19, u20, u21, u22, u23, u24, u25, u26, u27, u28, .pointer (some ⟨s, 79, none⟩), Gv, .int .i64 2, .pointer (some ⟨T1, 12, none⟩), .slice (some ⟨sb, so, none⟩) LG cG, .int .i64 (k : Int), .pointer (some ⟨sb, so + k * 4, none⟩), .agg #[.int .u64 (gG k).x0, .int .u64 (gG k).x1, .int .u64 (gG k).x2, .int .u64 (gG k).x3], .agg (el (lf gG k)).toArray, .slice (some ⟨eb, 0, none⟩) 1 1, v', .pointer (some ⟨s, 79, none⟩), u41, u42, u43, u44, u45, u46, u47, u48, u49, u50, u51, u52, u53, u54, u55, u56, u57, u58, u59, u60], []⟩ wz)) (hk : k < 1048576) (w1 : World) (hS : Below w.heap.size w w1) (hR : Se w.heap.size w1 s y0 y1 y2 (lf gG) (lf gH) k k2 Gv Hv) :
    wpAnyH Tryd.prog .any rf5o Q (fun w' => Below w.heap.size w w') 4 #[true, true, true, true, true, true, true, true, true, false, false, false, false] ⟨#[u0, .int .i64 2, .pointer (some ⟨T1, 0, none⟩), u3, u4, .pointer (some ⟨s, 0, none⟩), .int .i64 (k : Int), u7, u8, u9, u10, u11, u12, u13, u14, u15, u16, u17, u18, u19, u20, u21, u22, u23, u24, u25, u26, u27, u28, .pointer (some ⟨s, 79, none⟩), Gv, .int .i64 2, .pointer (some ⟨T1, 12, none⟩), .slice (some ⟨sb, so, none⟩) LG cG, .int .i64 (k : Int), .pointer (some ⟨sb, so + k * 4, none⟩), .agg #[.int .u64 (gG k).x0, .int .u64 (gG k).x1, .int .u64 (gG k).x2, .int .u64 (gG k).x3], .agg (el (lf gG k)).toArray, u38, u39, u40, u41, u42, u43, u44, u45, u46, u47, u48, u49, u50, u51, u52, u53, u54, u55, u56, u57, u58, u59, u60], []⟩ w1 := by
  refine wpAnyH_ready (rs := [9]) (by kernel_rfl) (by simp) ?_
  refine AllReadyH.cons (o := { dst := some 38, op := Op.buildSlice 45 1 #[(0, Operand.tmp 37)], type := 45, pos := "law.go:75", after := #[{ on := 8, ground := Ground.data }], guard := none }) rfl (fun K hK => ?_) AllReadyH.nil
  refine Eq.mpr (if_pos (by rfl)) ?_
  refine wp_buildEl _ rfl (lf gG k) rfl ?_
  have hb := bl_alloc w1 (.cells (el (lf gG k)).toArray 44)
  refine hK.out _ _ (bl_trans hS hb) (fun _ => ?_)
  have hE := cells_new w1 (el (lf gG k)) 44
  have hR2 := hR.keep hb
  exact rf5_fin Q k k2 s T1 sb so LG cG y0 y1 y2 gG gH u0 u3 u4 u7 u8 u9 u10 u11 u12 u13 u14 u15 u16 u17 u18 u19 u20 u21 u22 u23 u24 u25 u26 u27 u28 u39 u40 u41 u42 u43 u44 u45 u46 u47 u48 u49 u50 u51 u52 u53 u54 u55 u56 u57 u58 u59 u60 Gv Hv w PP HQ hk _ _ (bl_trans hS hb) hR2 hE
set_option maxRecDepth 100000 in
set_option maxHeartbeats 8000000 in
theorem rf5_cb (Q : Exit → Act → World → Prop) (k k2 s T1 sb so LG cG : Nat) (y0 y1 y2 : E4) (gG gH : Nat → E4) (u0 u3 u4 u7 u8 u9 u10 u11 u12 u13 u14 u15 u16 u17 u18 u19 u20 u21 u22 u23 u24 u25 u26 u27 u28 u30 u39 u40 u41 u42 u43 u44 u45 u46 u47 u48 u49 u50 u51 u52 u53 u54 u55 u56 u57 u58 u59 u60 Gv Hv : Value) (w : World) (PP : ∀ d v c a w, Q (.panic c) (a.put d v) w → Q (.panic c) a w) (HQ : Hid (∀ (eb : Nat) (v' : Value) (wz : World), Se w.heap.size wz s y0 y1 y2 (lf gG) (lf gH) (k + 1) k2 v' Hv → Below w.heap.size w wz → Q .normal ⟨#[u0, .int .i64 2, .pointer (some ⟨T1, 0, none⟩), u3, u4, .pointer (some ⟨s, 0, none⟩), .int .i64 (k : Int), u7, u8, u9, u10, u11, u12, u13, u14, u15, u16, u17, u18, u19, u20, u21, u22, u23, u24, u25, u26, u27, u28, .pointer (some ⟨s, 79, none⟩), Gv, .int .i64 2, .pointer (some ⟨T1, 12, none⟩), .slice (some ⟨sb, so, none⟩) LG cG, .int .i64 (k : Int), .pointer (some ⟨sb, so + k * 4, none⟩), .agg #[.int .u64 (gG k).x0, .int .u64 (gG k).x1, .int .u64 (gG k).x2, .int .u64 (gG k).x3], .agg (el (lf gG k)).toArray, .slice (some ⟨eb, 0, none⟩) 1 1, v', .pointer (some ⟨s, 79, none⟩), u41, u42, u43, u44, u45, u46, u47, u48, u49, u50, u51, u52, u53, u54, u55, u56, u57, u58, u59, u60], []⟩ wz)) (hk : k < 1048576) (eb : Nat) (wx : World) (hS : Below w.heap.size w wx) (hR : Se w.heap.size wx s y0 y1 y2 (lf gG) (lf gH) k k2 Gv Hv) (hE : ∀ j u, (el (lf gG k))[j]? = some u → wx.cell? ((⟨eb, 0, none⟩ : Addr).add j) = some u) :
    wpAnyH Tryd.prog .any rf5o Q (fun w' => Below w.heap.size w w') 4 #[true, false, true, true, true, true, true, true, true, true, false, false, false] ⟨#[u0, .int .i64 2, .pointer (some ⟨T1, 0, none⟩), u3, u4, .pointer (some ⟨s, 0, none⟩), .int .i64 (k : Int), u7, u8, u9, u10, u11, u12, u13, u14, u15, u16, u17, u18, u19, u20, u21, u22, u23, u24, u25, u26, u27, u28, .pointer (some ⟨s, 79, none⟩), u30, .int .i64 2, .pointer (some ⟨T1, 12, none⟩), .slice (some ⟨sb, so, none⟩) LG cG, .int .i64 (k : Int), .pointer (some ⟨sb, so + k * 4, none⟩), .agg #[.int .u64 (gG k).x0, .int .u64 (gG k).x1, .int .u64 (gG k).x2, .int .u64 (gG k).x3], .agg (el (lf gG k)).toArray, .slice (some ⟨eb, 0, none⟩) 1 1, u39, u40, u41, u42, u43, u44, u45, u46, u47, u48, u49, u50, u51, u52, u53, u54, u55, u56, u57, u58, u59, u60], []⟩ wx := by
  have c1 := hR.c79
  refine wpAnyH_ready (rs := [1]) (by kernel_rfl) (by simp) ?_
  refine AllReadyH.cons (o := { dst := some 30, op := Op.load 45 (Operand.tmp 29), type := 45, pos := "law.go:75", after := #[{ on := 0, ground := Ground.data }], guard := none }) rfl (fun K hK => ?_) AllReadyH.nil
  have HE := hidden hE
  clear hE
  go_wp2_with fail
  refine hK.out _ _ hS (fun _ => ?_)
  exact rf5_fin Q k k2 s T1 sb so LG cG y0 y1 y2 gG gH u0 u3 u4 u7 u8 u9 u10 u11 u12 u13 u14 u15 u16 u17 u18 u19 u20 u21 u22 u23 u24 u25 u26 u27 u28 u39 u40 u41 u42 u43 u44 u45 u46 u47 u48 u49 u50 u51 u52 u53 u54 u55 u56 u57 u58 u59 u60 Gv Hv w PP HQ hk eb _ hS hR HE.out
set_option maxRecDepth 100000 in
set_option maxHeartbeats 8000000 in
theorem rf5_c (Q : Exit → Act → World → Prop) (k k2 s T1 sb so LG cG : Nat) (y0 y1 y2 : E4) (gG gH : Nat → E4) (u0 u3 u4 u7 u8 u9 u10 u11 u12 u13 u14 u15 u16 u17 u18 u19 u20 u21 u22 u23 u24 u25 u26 u27 u28 u30 u38 u39 u40 u41 u42 u43 u44 u45 u46 u47 u48 u49 u50 u51 u52 u53 u54 u55 u56 u57 u58 u59 u60 Gv Hv : Value) (w : World) (PP : ∀ d v c a w, Q (.panic c) (a.put d v) w → Q (.panic c) a w) (HQ : Hid (∀ (eb : Nat) (v' : Value) (wz : World), Se w.heap.size wz s y0 y1 y2 (lf gG) (lf gH) (k + 1) k2 v' Hv → Below w.heap.size w wz → Q .normal ⟨#[u0, .int .i64 2, .pointer (some ⟨T1, 0, none⟩), u3, u4, .pointer (some ⟨s, 0, none⟩), .int .i64 (k : Int), u7, u8, u9, u10, u11, u12, u13, u14, u15, u16, u17, u18, u19, u20, u21, u22, u23, u24, u25, u26, u27, u28, .pointer (some ⟨s, 79, none⟩), Gv, .int .i64 2, .pointer (some ⟨T1, 12, none⟩), .slice (some ⟨sb, so, none⟩) LG cG, .int .i64 (k : Int), .pointer (some ⟨sb, so + k * 4, none⟩), .agg #[.int .u64 (gG k).x0, .int .u64 (gG k).x1, .int .u64 (gG k).x2, .int .u64 (gG k).x3], .agg (el (lf gG k)).toArray, .slice (some ⟨eb, 0, none⟩) 1 1, v', .pointer (some ⟨s, 79, none⟩), u41, u42, u43, u44, u45, u46, u47, u48, u49, u50, u51, u52, u53, u54, u55, u56, u57, u58, u59, u60], []⟩ wz)) (hk : k < 1048576) (w1 : World) (hS : Below w.heap.size w w1) (hR : Se w.heap.size w1 s y0 y1 y2 (lf gG) (lf gH) k k2 Gv Hv) :
    wpAnyH Tryd.prog .any rf5o Q (fun w' => Below w.heap.size w w') 5 #[true, false, true, true, true, true, true, true, true, false, false, false, false] ⟨#[u0, .int .i64 2, .pointer (some ⟨T1, 0, none⟩), u3, u4, .pointer (some ⟨s, 0, none⟩), .int .i64 (k : Int), u7, u8, u9, u10, u11, u12, u13, u14, u15, u16, u17, u18, u19, u20, u21, u22, u23, u24, u25, u26, u27, u28, .pointer (some ⟨s, 79, none⟩), u30, .int .i64 2, .pointer (some ⟨T1, 12, none⟩), .slice (some ⟨sb, so, none⟩) LG cG, .int .i64 (k : Int), .pointer (some ⟨sb, so + k * 4, none⟩), .agg #[.int .u64 (gG k).x0, .int .u64 (gG k).x1, .int .u64 (gG k).x2, .int .u64 (gG k).x3], .agg (el (lf gG k)).toArray, u38, u39, u40, u41, u42, u43, u44, u45, u46, u47, u48, u49, u50, u51, u52, u53, u54, u55, u56, u57, u58, u59, u60], []⟩ w1 := by
  have c1 := hidden hR.c79
  refine wpAnyH_ready (rs := [1, 9]) (by kernel_rfl) (by simp) ?_
  refine AllReadyH.cons (o := { dst := some 30, op := Op.load 45 (Operand.tmp 29), type := 45, pos := "law.go:75", after := #[{ on := 0, ground := Ground.data }], guard := none }) rfl (fun K hK => ?_) ?_
  · have c2 := c1.out
    go_wp2_with fail
    refine hK.out _ _ hS (fun _ => ?_)
    exact rf5_cl Q k k2 s T1 sb so LG cG y0 y1 y2 gG gH u0 u3 u4 u7 u8 u9 u10 u11 u12 u13 u14 u15 u16 u17 u18 u19 u20 u21 u22 u23 u24 u25 u26 u27 u28 u38 u39 u40 u41 u42 u43 u44 u45 u46 u47 u48 u49 u50 u51 u52 u53 u54 u55 u56 u57 u58 u59 u60 Gv Hv w PP HQ hk _ hS hR
  refine AllReadyH.cons (o := { dst := some 38, op := Op.buildSlice 45 1 #[(0, Operand.tmp 37)], type := 45, pos := "law.go:75", after := #[{ on := 8, ground := Ground.data }], guard := none }) rfl (fun K hK => ?_) AllReadyH.nil
  refine Eq.mpr (if_pos (by rfl)) ?_
  refine wp_buildEl _ rfl (lf gG k) rfl ?_
  have hb := bl_alloc w1 (.cells (el (lf gG k)).toArray 44)
  refine hK.out _ _ (bl_trans hS hb) (fun _ => ?_)
  have hE := cells_new w1 (el (lf gG k)) 44
  have hR2 := hR.keep hb
  exact rf5_cb Q k k2 s T1 sb so LG cG y0 y1 y2 gG gH u0 u3 u4 u7 u8 u9 u10 u11 u12 u13 u14 u15 u16 u17 u18 u19 u20 u21 u22 u23 u24 u25 u26 u27 u28 u30 u39 u40 u41 u42 u43 u44 u45 u46 u47 u48 u49 u50 u51 u52 u53 u54 u55 u56 u57 u58 u59 u60 Gv Hv w PP HQ hk _ _ (bl_trans hS hb) hR2 hE
set_option maxRecDepth 100000 in
set_option maxHeartbeats 8000000 in
theorem rf5_l (Q : Exit → Act → World → Prop) (k k2 s T1 sb so LG cG : Nat) (y0 y1 y2 : E4) (gG gH : Nat → E4) (u0 u3 u4 u7 u8 u9 u10 u11 u12 u13 u14 u15 u16 u17 u18 u19 u20 u21 u22 u23 u24 u25 u26 u27 u28 u37 u38 u39 u40 u41 u42 u43 u44 u45 u46 u47 u48 u49 u50 u51 u52 u53 u54 u55 u56 u57 u58 u59 u60 Gv Hv : Value) (w : World) (PP : ∀ d v c a w, Q (.panic c) (a.put d v) w → Q (.panic c) a w) (HQ : Hid (∀ (eb : Nat) (v' : Value) (wz : World), Se w.heap.size wz s y0 y1 y2 (lf gG) (lf gH) (k + 1) k2 v' Hv → Below w.heap.size w wz → Q .normal ⟨#[u0, .int .i64 2, .pointer (some ⟨T1, 0, none⟩), u3, u4, .pointer (some ⟨s, 0, none⟩), .int .i64 (k : Int), u7, u8, u9, u10, u11, u12, u13, u14, u15, u16, u17, u18, u19, u20, u21, u22, u23, u24, u25, u26, u27, u28, .pointer (some ⟨s, 79, none⟩), Gv, .int .i64 2, .pointer (some ⟨T1, 12, none⟩), .slice (some ⟨sb, so, none⟩) LG cG, .int .i64 (k : Int), .pointer (some ⟨sb, so + k * 4, none⟩), .agg #[.int .u64 (gG k).x0, .int .u64 (gG k).x1, .int .u64 (gG k).x2, .int .u64 (gG k).x3], .agg (el (lf gG k)).toArray, .slice (some ⟨eb, 0, none⟩) 1 1, v', .pointer (some ⟨s, 79, none⟩), u41, u42, u43, u44, u45, u46, u47, u48, u49, u50, u51, u52, u53, u54, u55, u56, u57, u58, u59, u60], []⟩ wz)) (hk : k < 1048576) (hok : (gG k).ok) (wr : World) (hS : Below w.heap.size w wr) (hR : Se w.heap.size wr s y0 y1 y2 (lf gG) (lf gH) k k2 Gv Hv) :
    wpAnyH Tryd.prog .any rf5o Q (fun w' => Below w.heap.size w w') 5 #[true, true, true, true, true, true, true, true, false, false, false, false, false] ⟨#[u0, .int .i64 2, .pointer (some ⟨T1, 0, none⟩), u3, u4, .pointer (some ⟨s, 0, none⟩), .int .i64 (k : Int), u7, u8, u9, u10, u11, u12, u13, u14, u15, u16, u17, u18, u19, u20, u21, u22, u23, u24, u25, u26, u27, u28, .pointer (some ⟨s, 79, none⟩), Gv, .int .i64 2, .pointer (some ⟨T1, 12, none⟩), .slice (some ⟨sb, so, none⟩) LG cG, .int .i64 (k : Int), .pointer (some ⟨sb, so + k * 4, none⟩), .agg #[.int .u64 (gG k).x0, .int .u64 (gG k).x1, .int .u64 (gG k).x2, .int .u64 (gG k).x3], u37, u38, u39, u40, u41, u42, u43, u44, u45, u46, u47, u48, u49, u50, u51, u52, u53, u54, u55, u56, u57, u58, u59, u60], []⟩ wr := by
  refine wpAnyH_ready (rs := [8]) (by kernel_rfl) (by simp) ?_
  refine AllReadyH.cons (o := { dst := some 37, op := Op.call { callee := Callee.value (Operand.func 14), args := #[Operand.tmp 31, Operand.tmp 36], argTypes := #[3, 24] }, type := 44, pos := "law.go:75", after := #[{ on := 2, ground := Ground.data }, { on := 7, ground := Ground.data }], guard := none }) rfl (fun K hK => ?_) AllReadyH.nil
  have C := its_any (gG k) wr hok
  unfold E4.v at C
  have CC := hidden C
  clear C
  go_simp
  refine (CC.out).mono ?_
  rintro e w1 ⟨rfl, hb⟩
  go_wp2_with fail
  refine hK.out _ _ (bl_trans hS hb) (fun _ => ?_)
  exact rf5_cl Q k k2 s T1 sb so LG cG y0 y1 y2 gG gH u0 u3 u4 u7 u8 u9 u10 u11 u12 u13 u14 u15 u16 u17 u18 u19 u20 u21 u22 u23 u24 u25 u26 u27 u28 u38 u39 u40 u41 u42 u43 u44 u45 u46 u47 u48 u49 u50 u51 u52 u53 u54 u55 u56 u57 u58 u59 u60 Gv Hv w PP HQ hk _ (bl_trans hS hb) (hR.keep hb)
set_option maxRecDepth 100000 in
set_option maxHeartbeats 8000000 in
theorem rf5_0 (Q : Exit → Act → World → Prop) (k k2 s T1 sb so LG cG : Nat) (y0 y1 y2 : E4) (gG gH : Nat → E4) (u0 u3 u4 u7 u8 u9 u10 u11 u12 u13 u14 u15 u16 u17 u18 u19 u20 u21 u22 u23 u24 u25 u26 u27 u28 u30 u37 u38 u39 u40 u41 u42 u43 u44 u45 u46 u47 u48 u49 u50 u51 u52 u53 u54 u55 u56 u57 u58 u59 u60 Gv Hv : Value) (w : World) (PP : ∀ d v c a w, Q (.panic c) (a.put d v) w → Q (.panic c) a w) (HQ : Hid (∀ (eb : Nat) (v' : Value) (wz : World), Se w.heap.size wz s y0 y1 y2 (lf gG) (lf gH) (k + 1) k2 v' Hv → Below w.heap.size w wz → Q .normal ⟨#[u0, .int .i64 2, .pointer (some ⟨T1, 0, none⟩), u3, u4, .pointer (some ⟨s, 0, none⟩), .int .i64 (k : Int), u7, u8, u9, u10, u11, u12, u13, u14, u15, u16, u17, u18, u19, u20, u21, u22, u23, u24, u25, u26, u27, u28, .pointer (some ⟨s, 79, none⟩), Gv, .int .i64 2, .pointer (some ⟨T1, 12, none⟩), .slice (some ⟨sb, so, none⟩) LG cG, .int .i64 (k : Int), .pointer (some ⟨sb, so + k * 4, none⟩), .agg #[.int .u64 (gG k).x0, .int .u64 (gG k).x1, .int .u64 (gG k).x2, .int .u64 (gG k).x3], .agg (el (lf gG k)).toArray, .slice (some ⟨eb, 0, none⟩) 1 1, v', .pointer (some ⟨s, 79, none⟩), u41, u42, u43, u44, u45, u46, u47, u48, u49, u50, u51, u52, u53, u54, u55, u56, u57, u58, u59, u60], []⟩ wz)) (hk : k < 1048576) (hok : (gG k).ok) (wr : World) (hS : Below w.heap.size w wr) (hR : Se w.heap.size wr s y0 y1 y2 (lf gG) (lf gH) k k2 Gv Hv) :
    wpAnyH Tryd.prog .any rf5o Q (fun w' => Below w.heap.size w w') 6 #[true, false, true, true, true, true, true, true, false, false, false, false, false] ⟨#[u0, .int .i64 2, .pointer (some ⟨T1, 0, none⟩), u3, u4, .pointer (some ⟨s, 0, none⟩), .int .i64 (k : Int), u7, u8, u9, u10, u11, u12, u13, u14, u15, u16, u17, u18, u19, u20, u21, u22, u23, u24, u25, u26, u27, u28, .pointer (some ⟨s, 79, none⟩), u30, .int .i64 2, .pointer (some ⟨T1, 12, none⟩), .slice (some ⟨sb, so, none⟩) LG cG, .int .i64 (k : Int), .pointer (some ⟨sb, so + k * 4, none⟩), .agg #[.int .u64 (gG k).x0, .int .u64 (gG k).x1, .int .u64 (gG k).x2, .int .u64 (gG k).x3], u37, u38, u39, u40, u41, u42, u43, u44, u45, u46, u47, u48, u49, u50, u51, u52, u53, u54, u55, u56, u57, u58, u59, u60], []⟩ wr := by
  have c1 := hidden hR.c79
  refine wpAnyH_ready (rs := [1, 8]) (by kernel_rfl) (by simp) ?_
  refine AllReadyH.cons (o := { dst := some 30, op := Op.load 45 (Operand.tmp 29), type := 45, pos := "law.go:75", after := #[{ on := 0, ground := Ground.data }], guard := none }) rfl (fun K hK => ?_) ?_
  · have c2 := c1.out
    go_wp2_with fail
    refine hK.out _ _ hS (fun _ => ?_)
    exact rf5_l Q k k2 s T1 sb so LG cG y0 y1 y2 gG gH u0 u3 u4 u7 u8 u9 u10 u11 u12 u13 u14 u15 u16 u17 u18 u19 u20 u21 u22 u23 u24 u25 u26 u27 u28 u37 u38 u39 u40 u41 u42 u43 u44 u45 u46 u47 u48 u49 u50 u51 u52 u53 u54 u55 u56 u57 u58 u59 u60 Gv Hv w PP HQ hk hok _ hS hR
  refine AllReadyH.cons (o := { dst := some 37, op := Op.call { callee := Callee.value (Operand.func 14), args := #[Operand.tmp 31, Operand.tmp 36], argTypes := #[3, 24] }, type := 44, pos := "law.go:75", after := #[{ on := 2, ground := Ground.data }, { on := 7, ground := Ground.data }], guard := none }) rfl (fun K hK => ?_) AllReadyH.nil
  have C := its_any (gG k) wr hok
  unfold E4.v at C
  have CC := hidden C
  clear C
  go_simp
  refine (CC.out).mono ?_
  rintro e w1 ⟨rfl, hb⟩
  go_wp2_with fail
  refine hK.out _ _ (bl_trans hS hb) (fun _ => ?_)
  exact rf5_c Q k k2 s T1 sb so LG cG y0 y1 y2 gG gH u0 u3 u4 u7 u8 u9 u10 u11 u12 u13 u14 u15 u16 u17 u18 u19 u20 u21 u22 u23 u24 u25 u26 u27 u28 u30 u38 u39 u40 u41 u42 u43 u44 u45 u46 u47 u48 u49 u50 u51 u52 u53 u54 u55 u56 u57 u58 u59 u60 Gv Hv w PP HQ hk _ (bl_trans hS hb) (hR.keep hb)
set_option maxRecDepth 100000 in
set_option maxHeartbeats 8000000 in
theorem rf5_any (Q : Exit → Act → World → Prop) (k k2 s T1 sb so LG cG : Nat) (y0 y1 y2 : E4) (gG gH : Nat → E4) (u0 u3 u4 u7 u8 u9 u10 u11 u12 u13 u14 u15 u16 u17 u18 u19 u20 u21 u22 u23 u24 u25 u26 u27 u28 u29 u30 u31 u32 u33 u34 u35 u36 u37 u38 u39 u40 u41 u42 u43 u44 u45 u46 u47 u48 u49 u50 u51 u52 u53 u54 u55 u56 u57 u58 u59 u60 Gv Hv : Value) (w : World) (HQ : Hid (∀ (eb : Nat) (v' : Value) (wz : World), Se w.heap.size wz s y0 y1 y2 (lf gG) (lf gH) (k + 1) k2 v' Hv → Below w.heap.size w wz → Q .normal ⟨#[u0, .int .i64 2, .pointer (some ⟨T1, 0, none⟩), u3, u4, .pointer (some ⟨s, 0, none⟩), .int .i64 (k : Int), u7, u8, u9, u10, u11, u12, u13, u14, u15, u16, u17, u18, u19, u20, u21, u22, u23, u24, u25, u26, u27, u28, .pointer (some ⟨s, 79, none⟩), Gv, .int .i64 2, .pointer (some ⟨T1, 12, none⟩), .slice (some ⟨sb, so, none⟩) LG cG, .int .i64 (k : Int), .pointer (some ⟨sb, so + k * 4, none⟩), .agg #[.int .u64 (gG k).x0, .int .u64 (gG k).x1, .int .u64 (gG k).x2, .int .u64 (gG k).x3], .agg (el (lf gG k)).toArray, .slice (some ⟨eb, 0, none⟩) 1 1, v', .pointer (some ⟨s, 79, none⟩), u41, u42, u43, u44, u45, u46, u47, u48, u49, u50, u51, u52, u53, u54, u55, u56, u57, u58, u59, u60], []⟩ wz)) (hk : k < 1048576) (hkl : k < LG) (hok : (gG k).ok) (h12 : w.cell? ⟨T1, 12, none⟩ = some (.slice (some ⟨sb, so, none⟩) LG cG)) (hl : Rl w sb so LG gG) (wr : World) (hS : Below w.heap.size w wr) (hR : Se w.heap.size wr s y0 y1 y2 (lf gG) (lf gH) k k2 Gv Hv) :
    (Code.region 5 rf5o true).wp Tryd.prog Q ⟨#[u0, .int .i64 2, .pointer (some ⟨T1, 0, none⟩), u3, u4, .pointer (some ⟨s, 0, none⟩), .int .i64 (k : Int), u7, u8, u9, u10, u11, u12, u13, u14, u15, u16, u17, u18, u19, u20, u21, u22, u23, u24, u25, u26, u27, u28, u29, u30, u31, u32, u33, u34, u35, u36, u37, u38, u39, u40, u41, u42, u43, u44, u45, u46, u47, u48, u49, u50, u51, u52, u53, u54, u55, u56, u57, u58, u59, u60], []⟩ wr := by
  have k0 : (0 : Int) ≤ (k : Int) := by omega
  have k1 : (k : Int) < (LG : Int) := by omega
  have HL := hidden hl
  have H12 := hidden h12
  clear hl h12
  refine wp_region_noPanic ?_
  refine wp_region_held_drew (S := (fun w' => Below w.heap.size w w')) (by kernel_rfl) (bl_trans hS (drew_blW wr)) (fun hHeld => ?_)
  change wpAnyH Tryd.prog .any rf5o _ _ 13 #[false, false, false, false, false, false, false, false, false, false, false, false, false] _ _
  refine wpAnyH_take (i := 0) (oi := { dst := some 29, op := Op.fieldAddr 47 (Operand.tmp 5) 4, type := 0, pos := "law.go:75", after := #[], guard := none }) (v := .pointer (some ⟨s, 79, none⟩)) rfl (by kernel_rfl) (by kernel_rfl) (by kernel_rfl) (fun _ _ _ h => h) (Or.inl ⟨by rfl, fun w0 hSw => ?_⟩) hHeld ?_
  · ((try dsimp only at hSw); clear hSw; go_simp)
  simp only [Act.put, List.setIfInBounds_toArray, List.set_cons_zero, List.set_cons_succ]
  refine wpAnyH_take (i := 2) (oi := { dst := some 31, op := Op.move (Operand.tmp 1), type := 3, pos := "law.go:75", after := #[], guard := none }) (v := .int .i64 2) rfl (by kernel_rfl) (by kernel_rfl) (by kernel_rfl) (fun _ _ _ h => h) (Or.inl ⟨by rfl, fun w0 hSw => ?_⟩) hHeld ?_
  · ((try dsimp only at hSw); clear hSw; go_simp)
  simp only [Act.put, List.setIfInBounds_toArray, List.set_cons_zero, List.set_cons_succ]
  refine wpAnyH_take (i := 3) (oi := { dst := some 32, op := Op.fieldAddr 27 (Operand.tmp 2) 3, type := 0, pos := "law.go:75", after := #[], guard := none }) (v := .pointer (some ⟨T1, 12, none⟩)) rfl (by kernel_rfl) (by kernel_rfl) (by kernel_rfl) (fun _ _ _ h => h) (Or.inl ⟨by rfl, fun w0 hSw => ?_⟩) hHeld ?_
  · ((try dsimp only at hSw); clear hSw; go_simp)
  simp only [Act.put, List.setIfInBounds_toArray, List.set_cons_zero, List.set_cons_succ]
  refine wpAnyH_take (i := 4) (oi := { dst := some 33, op := Op.load 25 (Operand.tmp 32), type := 25, pos := "law.go:75", after := #[{ on := 3, ground := Ground.data }], guard := none }) (v := .slice (some ⟨sb, so, none⟩) LG cG) rfl (by kernel_rfl) (by kernel_rfl) (by kernel_rfl) (fun _ _ _ h => h) (Or.inl ⟨by rfl, fun w0 hSw => ?_⟩) hHeld ?_
  · ((try dsimp only at hSw); have c12 := cell_keep H12.out hSw; clear hSw; go_simp)
  simp only [Act.put, List.setIfInBounds_toArray, List.set_cons_zero, List.set_cons_succ]
  refine wpAnyH_take (i := 5) (oi := { dst := some 34, op := Op.move (Operand.tmp 6), type := 3, pos := "law.go:75", after := #[], guard := none }) (v := .int .i64 (k : Int)) rfl (by kernel_rfl) (by kernel_rfl) (by kernel_rfl) (fun _ _ _ h => h) (Or.inl ⟨by rfl, fun w0 hSw => ?_⟩) hHeld ?_
  · ((try dsimp only at hSw); clear hSw; go_simp)
  simp only [Act.put, List.setIfInBounds_toArray, List.set_cons_zero, List.set_cons_succ]
  refine wpAnyH_take (i := 6) (oi := { dst := some 35, op := Op.indexAddr 25 (Operand.tmp 33) (Operand.tmp 34), type := 0, pos := "law.go:75", after := #[{ on := 4, ground := Ground.data }, { on := 5, ground := Ground.data }], guard := none }) (v := .pointer (some ⟨sb, so + k * 4, none⟩)) rfl (by kernel_rfl) (by kernel_rfl) (by kernel_rfl) (fun _ _ _ h => h) (Or.inl ⟨by rfl, fun w0 hSw => ?_⟩) hHeld ?_
  · ((try dsimp only at hSw); clear hSw; go_simp)
  simp only [Act.put, List.setIfInBounds_toArray, List.set_cons_zero, List.set_cons_succ]
  refine wpAnyH_take (i := 7) (oi := { dst := some 36, op := Op.load 24 (Operand.tmp 35), type := 24, pos := "law.go:75", after := #[{ on := 6, ground := Ground.data }], guard := none }) (v := .agg #[.int .u64 (gG k).x0, .int .u64 (gG k).x1, .int .u64 (gG k).x2, .int .u64 (gG k).x3]) rfl (by kernel_rfl) (by kernel_rfl) (by kernel_rfl) (fun _ _ _ h => h) (Or.inl ⟨by rfl, fun w0 hSw => ?_⟩) hHeld ?_
  · ((try dsimp only at hSw); have rx := HL.out.keep hSw; have z0 := rx.c0 k hkl; have z1 := rx.c1 k hkl; have z2 := rx.c2 k hkl; have z3 := rx.c3 k hkl; clear rx; clear hSw; go_simp)
  simp only [Act.put, List.setIfInBounds_toArray, List.set_cons_zero, List.set_cons_succ]
  exact rf5_0 (NoPanic Q) k k2 s T1 sb so LG cG y0 y1 y2 gG gH _ _ _ _ _ _ _ _ _ _ _ _ _ _ _ _ _ _ _ _ _ _ _ _ _ _ _ _ _ _ _ _ _ _ _ _ _ _ _ _ _ _ _ _ _ _ _ _ _ _ Gv Hv w (fun _ _ _ _ _ h => h) HQ hk hok _ hHeld (hR.keep (drew_blW wr))
/-- the operations of region 9 -/
def rf9o : Array Oper := #[{ dst := some 48, op := Op.fieldAddr 47 (Operand.tmp 5) 5, type := 0, pos := "law.go:78", after := #[], guard := none },
  { dst := some 49, op := Op.load 45 (Operand.tmp 48), type := 45, pos := "law.go:78", after := #[{ on := 0, ground := Ground.data }], guard := none },
  { dst := some 50, op := Op.move (Operand.tmp 1), type := 3, pos := "law.go:78", after := #[], guard := none },
  { dst := some 51, op := Op.fieldAddr 27 (Operand.tmp 2) 4, type := 0, pos := "law.go:78", after := #[], guard := none },
  { dst := some 52, op := Op.load 25 (Operand.tmp 51), type := 25, pos := "law.go:78", after := #[{ on := 3, ground := Ground.data }], guard := none },
  { dst := some 53, op := Op.move (Operand.tmp 7), type := 3, pos := "law.go:78", after := #[], guard := none },
  { dst := some 54, op := Op.indexAddr 25 (Operand.tmp 52) (Operand.tmp 53), type := 0, pos := "law.go:78", after := #[{ on := 4, ground := Ground.data }, { on := 5, ground := Ground.data }], guard := none },
  { dst := some 55, op := Op.load 24 (Operand.tmp 54), type := 24, pos := "law.go:78", after := #[{ on := 6, ground := Ground.data }], guard := none },
  { dst := some 56, op := Op.call { callee := Callee.value (Operand.func 14), args := #[Operand.tmp 50, Operand.tmp 55], argTypes := #[3, 24] }, type := 44, pos := "law.go:78", after := #[{ on := 2, ground := Ground.data }, { on := 7, ground := Ground.data }], guard := none },
  { dst := some 57, op := Op.buildSlice 45 1 #[(0, Operand.tmp 56)], type := 45, pos := "law.go:78", after := #[{ on := 8, ground := Ground.data }], guard := none },
  { dst := some 58, op := Op.call { callee := Callee.builtin Builtin.append, args := #[Operand.tmp 49, Operand.tmp 57], argTypes := #[45, 45] }, type := 45, pos := "law.go:78", after := #[{ on := 1, ground := Ground.data }, { on := 9, ground := Ground.data }, { on := 8, ground := Ground.chain }], guard := none },
  { dst := some 59, op := Op.fieldAddr 47 (Operand.tmp 5) 5, type := 0, pos := "law.go:78", after := #[{ on := 0, ground := Ground.phase }, { on := 1, ground := Ground.phase }, { on := 2, ground := Ground.phase }, { on := 3, ground := Ground.phase }, { on := 4, ground := Ground.phase }, { on := 5, ground := Ground.phase }, { on := 6, ground := Ground.phase }, { on := 7, ground := Ground.phase }, { on := 8, ground := Ground.phase }, { on := 9, ground := Ground.phase }, { on := 10, ground := Ground.phase }], guard := none },
  { dst := none, op := Op.store 45 (Operand.tmp 59) (Operand.tmp 58), type := 0, pos := "law.go:78", after := #[{ on := 11, ground := Ground.data }, { on := 10, ground := Ground.data }, { on := 10, ground := Ground.chain }, { on := 0, ground := Ground.phase }, { on := 1, ground := Ground.phase }, { on := 2, ground := Ground.phase }, { on := 3, ground := Ground.phase }, { on := 4, ground := Ground.phase }, { on := 5, ground := Ground.phase }, { on := 6, ground := Ground.phase }, { on := 7, ground := Ground.phase }, { on := 8, ground := Ground.phase }, { on := 9, ground := Ground.phase }, { on := 10, ground := Ground.phase }], guard := none }]
set_option maxRecDepth 100000 in
set_option maxHeartbeats 8000000 in
theorem rf9_fin (Q : Exit → Act → World → Prop) (k k2 s T1 sb so LH cH : Nat) (y0 y1 y2 : E4) (gG gH : Nat → E4) (u0 u3 u4 u6 u8 u9 u10 u11 u12 u13 u14 u15 u16 u17 u18 u19 u20 u21 u22 u23 u24 u25 u26 u27 u28 u29 u30 u31 u32 u33 u34 u35 u36 u37 u38 u39 u40 u41 u42 u43 u44 u45 u46 u47 u58 u59 u60 Gv Hv : Value) (w : World) (PP : ∀ d v c a w, Q (.panic c) (a.put d v) w → Q (.panic c) a w) (HQ : Hid (∀ (eb : Nat) (v' : Value) (wz : World), Se w.heap.size wz s y0 y1 y2 (lf gG) (lf gH) k2 (k + 1) Gv v' → Below w.heap.size w wz → Q .normal ⟨#[u0, .int .i64 2, .pointer (some ⟨T1, 0, none⟩), u3, u4, .pointer (some ⟨s, 0, none⟩), u6, .int .i64 (k : Int), u8, u9, u10, u11, u12, u13, u14, u15, u16, u17, u18, u19, u20, u21, u22, u23, u24, u25, u26, u27, u28, u29, u30, u31, u32, u33, u34, u35, u36, u37, u38, u39, u40, u41, u42, u43, u44, u45, u46, u47, .pointer (some ⟨s, 80, none⟩), Hv, .int .i64 2, .pointer (some ⟨T1, 13, none⟩), .slice (some ⟨sb, so, none⟩) LH cH, .int .i64 (k : Int), .pointer (some ⟨sb, so + k * 4, none⟩), .agg #[.int .u64 (gH k).x0, .int .u64 (gH k).x1, .int .u64 (gH k).x2, .int .u64 (gH k).x3], .agg (el (lf gH k)).toArray, .slice (some ⟨eb, 0, none⟩) 1 1, v', .pointer (some ⟨s, 80, none⟩), u60], []⟩ wz)) (hk : k < 1048576) (eb : Nat) (wx : World) (hS : Below w.heap.size w wx) (hR : Se w.heap.size wx s y0 y1 y2 (lf gG) (lf gH) k2 k Gv Hv) (hE : ∀ j u, (el (lf gH k))[j]? = some u → wx.cell? ((⟨eb, 0, none⟩ : Addr).add j) = some u) :
    wpAnyH Tryd.prog .any rf9o Q (fun w' => Below w.heap.size w w') 3 #[true, true, true, true, true, true, true, true, true, true, false, false, false] ⟨#[u0, .int .i64 2, .pointer (some ⟨T1, 0, none⟩), u3, u4, .pointer (some ⟨s, 0, none⟩), u6, .int .i64 (k : Int), u8, u9, u10, u11, u12, u13, u14, u15, u16, u17, u18, u19, u20, u21, u22, u23, u24, u25, u26, u27, u28, u29, u30, u31, u32, u33, u34, u35, u36, u37, u38, u39, u40, u41, u42, u43, u44, u45, u46, u47, .pointer (some ⟨s, 80, none⟩), Hv, .int .i64 2, .pointer (some ⟨T1, 13, none⟩), .slice (some ⟨sb, so, none⟩) LH cH, .int .i64 (k : Int), .pointer (some ⟨sb, so + k * 4, none⟩), .agg #[.int .u64 (gH k).x0, .int .u64 (gH k).x1, .int .u64 (gH k).x2, .int .u64 (gH k).x3], .agg (el (lf gH k)).toArray, .slice (some ⟨eb, 0, none⟩) 1 1, u58, u59, u60], []⟩ wx := by
  obtain ⟨i0, hi, hz0, hz1, hz2⟩ := info_parts einfoZ
  refine wpAnyH_ready (rs := [10]) (by kernel_rfl) (by simp) ?_
  refine AllReadyH.cons (o := { dst := some 58, op := Op.call { callee := Callee.builtin Builtin.append, args := #[Operand.tmp 49, Operand.tmp 57], argTypes := #[45, 45] }, type := 45, pos := "law.go:78", after := #[{ on := 1, ground := Ground.data }, { on := 9, ground := Ground.data }, { on := 8, ground := Ground.chain }], guard := none }) rfl (fun K hK => ?_) AllReadyH.nil
  refine Eq.mpr (if_pos (by rfl)) ?_
  refine wp_append_own_atG _ _ 45 rfl w.heap.size 44 i0 (.agg ze.toArray) 26 224 (by kernel_rfl) hi hz0 hz1 hz2 rfl (by decide) Hv k (evs k (lf gH)) rfl hR.h ⟨eb, 0, none⟩ 1 1 (el (lf gH k)) rfl rfl hE (el_oneL _) (by unfold maxLen; omega) (by omega) hS.size ?_
  intro v' w' ho hg hat
  obtain ⟨gz, cz, rfl, _, _, _⟩ := own_shapeG ho (by omega)
  obtain ⟨R2, c1, f1⟩ := hR.addH ho hg hat
  have hB := below_trans hS (below_grown hg hS.size (fun b hb => (hR.h.lt b hb).1))
  refine hK.out _ _ hB (fun _ => ?_)
  have B3 : Hid (Below w.heap.size w (w'.setCell ⟨s, 80, none⟩ (.slice (some ⟨gz, 0, none⟩) (k + 1) cz))) := hidden (hB.setCell hR.lt _)
  have R3 := hidden (HQ.out eb _ _ R2 B3.out)
  clear hK K R2 hR hE ho hg hat hi hz0 hz1 hz2
  refine wpAnyH_take (i := 11) (oi := { dst := some 59, op := Op.fieldAddr 47 (Operand.tmp 5) 5, type := 0, pos := "law.go:78", after := #[{ on := 0, ground := Ground.phase }, { on := 1, ground := Ground.phase }, { on := 2, ground := Ground.phase }, { on := 3, ground := Ground.phase }, { on := 4, ground := Ground.phase }, { on := 5, ground := Ground.phase }, { on := 6, ground := Ground.phase }, { on := 7, ground := Ground.phase }, { on := 8, ground := Ground.phase }, { on := 9, ground := Ground.phase }, { on := 10, ground := Ground.phase }], guard := none }) (v := .pointer (some ⟨s, 80, none⟩)) rfl (by kernel_rfl) (by kernel_rfl) (by kernel_rfl) (PP _ _) (Or.inl ⟨by rfl, fun w0 hSw => by go_simp⟩) hB ?_
  refine wpAnyH_ready (rs := [12]) (by kernel_rfl) (by simp) ?_
  refine AllReadyH.cons (o := { dst := none, op := Op.store 45 (Operand.tmp 59) (Operand.tmp 58), type := 0, pos := "law.go:78", after := #[{ on := 11, ground := Ground.data }, { on := 10, ground := Ground.data }, { on := 10, ground := Ground.chain }, { on := 0, ground := Ground.phase }, { on := 1, ground := Ground.phase }, { on := 2, ground := Ground.phase }, { on := 3, ground := Ground.phase }, { on := 4, ground := Ground.phase }, { on := 5, ground := Ground.phase }, { on := 6, ground := Ground.phase }, { on := 7, ground := Ground.phase }, { on := 8, ground := Ground.phase }, { on := 9, ground := Ground.phase }, { on := 10, ground := Ground.phase }], guard := none }) rfl (fun K hK => ?_) AllReadyH.nil
  go_wp2_with fail
  refine hK.out _ _ B3.out (fun _ => ?_)
  exact wpAnyH_done (by kernel_rfl) R3.out _
set_option maxRecDepth 100000 in
set_option maxHeartbeats 8000000 in
theorem rf9_cl (Q : Exit → Act → World → Prop) (k k2 s T1 sb so LH cH : Nat) (y0 y1 y2 : E4) (gG gH : Nat → E4) (u0 u3 u4 u6 u8 u9 u10 u11 u12 u13 u14 u15 u16 u17 u18 u19 u20 u21 u22 u23 u24 u25 u26 u27 u28 u29 u30 u31 u32 u33 u34 u35 u36 u37 u38 u39 u40 u41 u42 u43 u44 u45 u46 u47 u57 u58 u59 u60 Gv Hv : Value) (w : World) (PP : ∀ d v c a w, Q (.panic c) (a.put d v) w → Q (.panic c) a w) (HQ : Hid (∀ (eb : Nat) (v' : Value) (wz : World), Se w.heap.size wz s y0 y1 y2 (lf gG) (lf gH) k2 (k + 1) Gv v' → Below w.heap.size w wz → Q .normal ⟨#[u0, .int .i64 2, .pointer (some ⟨T1, 0, none⟩), u3, u4, .pointer (some ⟨s, 0, none⟩), u6, .int .i64 (k : Int), u8, u9, u10, u11, u12, u13, u14, u15, u16, u17, u18, u19, u20, u21, u22, u23, u24, u25, u26, u27, u28, u29, u30, u31, u32, u33, u34, u35, u36, u37, u38, u39, u40, u41, u42, u43, u44, u45, u46, u47, .pointer (some ⟨s, 80, none⟩), Hv, .int .i64 2, .pointer (some ⟨T1, 13, none⟩), .slice (some ⟨sb, so, none⟩) LH cH, .int .i64 (k : Int), .pointer (some ⟨sb, so + k * 4, none⟩), .agg #[.int .u64 (gH k).x0, .int .u64 (gH k).x1, .int .u64 (gH k).x2, .int .u64 (gH k).x3], .agg (el (lf gH k)).toArray, .slice (some ⟨eb, 0, none⟩) 1 1, v', .pointer (some ⟨s, 80, none⟩), u60], []⟩ wz)) (hk : k < 1048576) (w1 : World) (hS : Below w.heap.size w w1) (hR : Se w.heap.size w1 s y0 y1 y2 (lf gG) (lf gH) k2 k Gv Hv) :
    wpAnyH Tryd.prog .any rf9o Q (fun w' => Below w.heap.size w w') 4 #[true, true, true, true, true, true, true, true, true, false, false, false, false] ⟨#[u0, .int .i64 2, .pointer (some ⟨T1, 0, none⟩), u3, u4, .pointer (some ⟨s, 0, none⟩), u6, .int .i64 (k : Int), u8, u9, u10, u11, u12, u13, u14, u15, u16, u17, u18, u19, u20, u21, u22, u23, u24, u25, u26, u27, u28, u29, u30, u31, u32, u33, u34, u35, u36, u37, u38, u39, u40, u41, u42, u43, u44, u45, u46, u47, .pointer (some ⟨s, 80, none⟩), Hv, .int .i64 2, .pointer (some ⟨T1, 13, none⟩), .slice (some ⟨sb, so, none⟩) LH cH, .int .i64 (k : Int), .pointer (some ⟨sb, so + k * 4, none⟩), .agg #[.int .u64 (gH k).x0, .int .u64 (gH k).x1, .int .u64 (gH k).x2, .int .u64 (gH k).x3], .agg (el (lf gH k)).toArray, u57, u58, u59, u60], []⟩ w1 := by
  refine wpAnyH_ready (rs := [9]) (by kernel_rfl) (by simp) ?_
  refine AllReadyH.cons (o := { dst := some 57, op := Op.buildSlice 45 1 #[(0, Operand.tmp 56)], type := 45, pos := "law.go:78", after := #[{ on := 8, ground := Ground.data }], guard := none }) rfl (fun K hK => ?_) AllReadyH.nil
  refine Eq.mpr (if_pos (by rfl)) ?_
  refine wp_buildEl _ rfl (lf gH k) rfl ?_
  have hb := bl_alloc w1 (.cells (el (lf gH k)).toArray 44)
  refine hK.out _ _ (bl_trans hS hb) (fun _ => ?_)
  have hE := cells_new w1 (el (lf gH k)) 44
  have hR2 := hR.keep hb
  exact rf9_fin Q k k2 s T1 sb so LH cH y0 y1 y2 gG gH u0 u3 u4 u6 u8 u9 u10 u11 u12 u13 u14 u15 u16 u17 u18 u19 u20 u21 u22 u23 u24 u25 u26 u27 u28 u29 u30 u31 u32 u33 u34 u35 u36 u37 u38 u39 u40 u41 u42 u43 u44 u45 u46 u47 u58 u59 u60 Gv Hv w PP HQ hk _ _ (bl_trans hS hb) hR2 hE
set_option maxRecDepth 100000 in
set_option maxHeartbeats 8000000 in
theorem rf9_cb (Q : Exit → Act → World → Prop) (k k2 s T1 sb so LH cH : Nat) (y0 y1 y2 : E4) (gG gH : Nat → E4) (u0 u3 u4 u6 u8 u9 u10 u11 u12 u13 u14 u15 u16 u17 u18 u19 u20 u21 u22 u23 u24 u25 u26 u27 u28 u29 u30 u31 u32 u33 u34 u35 u36 u37 u38 u39 u40 u41 u42 u43 u44 u45 u46 u47 u49 u58 u59 u60 Gv Hv : Value) (w : World) (PP : ∀ d v c a w, Q (.panic c) (a.put d v) w → Q (.panic c) a w) (HQ : Hid (∀ (eb : Nat) (v' : Value) (wz : World), Se w.heap.size wz s y0 y1 y2 (lf gG) (lf gH) k2 (k + 1) Gv v' → Below w.heap.size w wz → Q .normal ⟨#[u0, .int .i64 2, .pointer (some ⟨T1, 0, none⟩), u3, u4, .pointer (some ⟨s, 0, none⟩), u6, .int .i64 (k : Int), u8, u9, u10, u11, u12, u13, u14, u15, u16, u17, u18, u19, u20, u21, u22, u23, u24, u25, u26, u27, u28, u29, u30, u31, u32, u33, u34, u35, u36, u37, u38, u39, u40, u41, u42, u43, u44, u45, u46, u47, .pointer (some ⟨s, 80, none⟩), Hv, .int .i64 2, .pointer (some ⟨T1, 13, none⟩), .slice (some ⟨sb, so, none⟩) LH cH, .int .i64 (k : Int), .pointer (some ⟨sb, so + k * 4, none⟩), .agg #[.int .u64 (gH k).x0, .int .u64 (gH k).x1, .int .u64 (gH k).x2, .int .u64 (gH k).x3], .agg (el (lf gH k)).toArray, .slice (some ⟨eb, 0, none⟩) 1 1, v', .pointer (some ⟨s, 80, none⟩), u60], []⟩ wz)) (hk : k < 1048576) (eb : Nat) (wx : World) (hS : Below w.heap.size w wx) (hR : Se w.heap.size wx s y0 y1 y2 (lf gG) (lf gH) k2 k Gv Hv) (hE : ∀ j u, (el (lf gH k))[j]? = some u → wx.cell? ((⟨eb, 0, none⟩ : Addr).add j) = some u) :
    wpAnyH Tryd.prog .any rf9o Q (fun w' => Below w.heap.size w w') 4 #[true, false, true, true, true, true, true, true, true, true, false, false, false] ⟨#[u0, .int .i64 2, .pointer (some ⟨T1, 0, none⟩), u3, u4, .pointer (some ⟨s, 0, none⟩), u6, .int .i64 (k : Int), u8, u9, u10, u11, u12, u13, u14, u15, u16, u17, u18, u19, u20, u21, u22, u23, u24, u25, u26, u27, u28, u29, u30, u31, u32, u33, u34, u35, u36, u37, u38, u39, u40, u41, u42, u43, u44, u45, u46, u47, .pointer (some ⟨s, 80, none⟩), u49, .int .i64 2, .pointer (some ⟨T1, 13, none⟩), .slice (some ⟨sb, so, none⟩) LH cH, .int .i64 (k : Int), .pointer (some ⟨sb, so + k * 4, none⟩), .agg #[.int .u64 (gH k).x0, .int .u64 (gH k).x1, .int .u64 (gH k).x2, .int .u64 (gH k).x3], .agg (el (lf gH k)).toArray, .slice (some ⟨eb, 0, none⟩) 1 1, u58, u59, u60], []⟩ wx := by
  have c1 := hR.c80
  refine wpAnyH_ready (rs := [1]) (by kernel_rfl) (by simp) ?_
  refine AllReadyH.cons (o := { dst := some 49, op := Op.load 45 (Operand.tmp 48), type := 45, pos := "law.go:78", after := #[{ on := 0, ground := Ground.data }], guard := none }) rfl (fun K hK => ?_) AllReadyH.nil
  have HE := hidden hE
  clear hE
  go_wp2_with fail
  refine hK.out _ _ hS (fun _ => ?_)
  exact rf9_fin Q k k2 s T1 sb so LH cH y0 y1 y2 gG gH u0 u3 u4 u6 u8 u9 u10 u11 u12 u13 u14 u15 u16 u17 u18 u19 u20 u21 u22 u23 u24 u25 u26 u27 u28 u29 u30 u31 u32 u33 u34 u35 u36 u37 u38 u39 u40 u41 u42 u43 u44 u45 u46 u47 u58 u59 u60 Gv Hv w PP HQ hk eb _ hS hR HE.out
set_option maxRecDepth 100000 in
set_option maxHeartbeats 8000000 in
theorem rf9_c (Q : Exit → Act → World → Prop) (k k2 s T1 sb so LH cH : Nat) (y0 y1 y2 : E4) (gG gH : Nat → E4) (u0 u3 u4 u6 u8 u9 u10 u11 u12 u13 u14 u15 u16 u17 u18 u19 u20 u21 u22 u23 u24 u25 u26 u27 u28 u29 u30 u31 u32 u33 u34 u35 u36 u37 u38 u39 u40 u41 u42 u43 u44 u45 u46 u47 u49 u57 u58 u59 u60 Gv Hv : Value) (w : World) (PP : ∀ d v c a w, Q (.panic c) (a.put d v) w → Q (.panic c) a w) (HQ : Hid (∀ (eb : Nat) (v' : Value) (wz : World), Se w.heap.size wz s y0 y1 y2 (lf gG) (lf gH) k2 (k + 1) Gv v' → Below w.heap.size w wz → Q .normal ⟨#[u0, .int .i64 2, .pointer (some ⟨T1, 0, none⟩), u3, u4, .pointer (some ⟨s, 0, none⟩), u6, .int .i64 (k : Int), u8, u9, u10, u11, u12, u13, u14, u15, u16, u17, u18, u19, u20, u21, u22, u23, u24, u25, u26, u27, u28, u29, u30, u31, u32, u33, u34, u35, u36, u37, u38, u39, u40, u41, u42, u43, u44, u45, u46, u47, .pointer (some ⟨s, 80, none⟩), Hv, .int .i64 2, .pointer (some ⟨T1, 13, none⟩), .slice (some ⟨sb, so, none⟩) LH cH, .int .i64 (k : Int), .pointer (some ⟨sb, so + k * 4, none⟩), .agg #[.int .u64 (gH k).x0, .int .u64 (gH k).x1, .int .u64 (gH k).x2, .int .u64 (gH k).x3], .agg (el (lf gH k)).toArray, .slice (some ⟨eb, 0, none⟩) 1 1, v', .pointer (some ⟨s, 80, none⟩), u60], []⟩ wz)) (hk : k < 1048576) (w1 : World) (hS : Below w.heap.size w w1) (hR : Se w.heap.size w1 s y0 y1 y2 (lf gG) (lf gH) k2 k Gv Hv) :
    wpAnyH Tryd.prog .any rf9o Q (fun w' => Below w.heap.size w w') 5 #[true, false, true, true, true, true, true, true, true, false, false, false, false] ⟨#[u0, .int .i64 2, .pointer (some ⟨T1, 0, none⟩), u3, u4, .pointer (some ⟨s, 0, none⟩), u6, .int .i64 (k : Int), u8, u9, u10, u11, u12, u13, u14, u15, u16, u17, u18, u19, u20, u21, u22, u23, u24, u25, u26, u27, u28, u29, u30, u31, u32, u33, u34, u35, u36, u37, u38, u39, u40, u41, u42, u43, u44, u45, u46, u47, .pointer (some ⟨s, 80, none⟩), u49, .int .i64 2, .pointer (some ⟨T1, 13, none⟩), .slice (some ⟨sb, so, none⟩) LH cH, .int .i64 (k : Int), .pointer (some ⟨sb, so + k * 4, none⟩), .agg #[.int .u64 (gH k).x0, .int .u64 (gH k).x1, .int .u64 (gH k).x2, .int .u64 (gH k).x3], .agg (el (lf gH k)).toArray, u57, u58, u59, u60], []⟩ w1 := by
  have c1 := hidden hR.c80
  refine wpAnyH_ready (rs := [1, 9]) (by kernel_rfl) (by simp) ?_
  refine AllReadyH.cons (o := { dst := some 49, op := Op.load 45 (Operand.tmp 48), type := 45, pos := "law.go:78", after := #[{ on := 0, ground := Ground.data }], guard := none }) rfl (fun K hK => ?_) ?_
  · have c2 := c1.out
    go_wp2_with fail
    refine hK.out _ _ hS (fun _ => ?_)
    exact rf9_cl Q k k2 s T1 sb so LH cH y0 y1 y2 gG gH u0 u3 u4 u6 u8 u9 u10 u11 u12 u13 u14 u15 u16 u17 u18 u19 u20 u21 u22 u23 u24 u25 u26 u27 u28 u29 u30 u31 u32 u33 u34 u35 u36 u37 u38 u39 u40 u41 u42 u43 u44 u45 u46 u47 u57 u58 u59 u60 Gv Hv w PP HQ hk _ hS hR
  refine AllReadyH.cons (o := { dst := some 57, op := Op.buildSlice 45 1 #[(0, Operand.tmp 56)], type := 45, pos := "law.go:78", after := #[{ on := 8, ground := Ground.data }], guard := none }) rfl (fun K hK => ?_) AllReadyH.nil
  refine Eq.mpr (if_pos (by rfl)) ?_
  refine wp_buildEl _ rfl (lf gH k) rfl ?_
  have hb := bl_alloc w1 (.cells (el (lf gH k)).toArray 44)
  refine hK.out _ _ (bl_trans hS hb) (fun _ => ?_)
  have hE := cells_new w1 (el (lf gH k)) 44
  have hR2 := hR.keep hb
  exact rf9_cb Q k k2 s T1 sb so LH cH y0 y1 y2 gG gH u0 u3 u4 u6 u8 u9 u10 u11 u12 u13 u14 u15 u16 u17 u18 u19 u20 u21 u22 u23 u24 u25 u26 u27 u28 u29 u30 u31 u32 u33 u34 u35 u36 u37 u38 u39 u40 u41 u42 u43 u44 u45 u46 u47 u49 u58 u59 u60 Gv Hv w PP HQ hk _ _ (bl_trans hS hb) hR2 hE
set_option maxRecDepth 100000 in
set_option maxHeartbeats 8000000 in
theorem rf9_l (Q : Exit → Act → World → Prop) (k k2 s T1 sb so LH cH : Nat) (y0 y1 y2 : E4) (gG gH : Nat → E4) (u0 u3 u4 u6 u8 u9 u10 u11 u12 u13 u14 u15 u16 u17 u18 u19 u20 u21 u22 u23 u24 u25 u26 u27 u28 u29 u30 u31 u32 u33 u34 u35 u36 u37 u38 u39 u40 u41 u42 u43 u44 u45 u46 u47 u56 u57 u58 u59 u60 Gv Hv : Value) (w : World) (PP : ∀ d v c a w, Q (.panic c) (a.put d v) w → Q (.panic c) a w) (HQ : Hid (∀ (eb : Nat) (v' : Value) (wz : World), Se w.heap.size wz s y0 y1 y2 (lf gG) (lf gH) k2 (k + 1) Gv v' → Below w.heap.size w wz → Q .normal ⟨#[u0, .int .i64 2, .pointer (some ⟨T1, 0, none⟩), u3, u4, .pointer (some ⟨s, 0, none⟩), u6, .int .i64 (k : Int), u8, u9, u10, u11, u12, u13, u14, u15, u16, u17, u18, u19, u20, u21, u22, u23, u24, u25, u26, u27, u28, u29, u30, u31, u32, u33, u34, u35, u36, u37, u38, u39, u40, u41, u42, u43, u44, u45, u46, u47, .pointer (some ⟨s, 80, none⟩), Hv, .int .i64 2, .pointer (some ⟨T1, 13, none⟩), .slice (some ⟨sb, so, none⟩) LH cH, .int .i64 (k : Int), .pointer (some ⟨sb, so + k * 4, none⟩), .agg #[.int .u64 (gH k).x0, .int .u64 (gH k).x1, .int .u64 (gH k).x2, .int .u64 (gH k).x3], .agg (el (lf gH k)).toArray, .slice (some ⟨eb, 0, none⟩) 1 1, v', .pointer (some ⟨s, 80, none⟩), u60], []⟩ wz)) (hk : k < 1048576) (hok : (gH k).ok) (wr : World) (hS : Below w.heap.size w wr) (hR : Se w.heap.size wr s y0 y1 y2 (lf gG) (lf gH) k2 k Gv Hv) :
    wpAnyH Tryd.prog .any rf9o Q (fun w' => Below w.heap.size w w') 5 #[true, true, true, true, true, true, true, true, false, false, false, false, false] ⟨#[u0, .int .i64 2, .pointer (some ⟨T1, 0, none⟩), u3, u4, .pointer (some ⟨s, 0, none⟩), u6, .int .i64 (k : Int), u8, u9, u10, u11, u12, u13, u14, u15, u16, u17, u18, u19, u20, u21, u22, u23, u24, u25, u26, u27, u28, u29, u30, u31, u32, u33, u34, u35, u36, u37, u38, u39, u40, u41, u42, u43, u44, u45, u46, u47, .pointer (some ⟨s, 80, none⟩), Hv, .int .i64 2, .pointer (some ⟨T1, 13, none⟩), .slice (some ⟨sb, so, none⟩) LH cH, .int .i64 (k : Int), .pointer (some ⟨sb, so + k * 4, none⟩), .agg #[.int .u64 (gH k).x0, .int .u64 (gH k).x1, .int .u64 (gH k).x2, .int .u64 (gH k).x3], u56, u57, u58, u59, u60], []⟩ wr := by
  refine wpAnyH_ready (rs := [8]) (by kernel_rfl) (by simp) ?_
  refine AllReadyH.cons (o := { dst := some 56, op := Op.call { callee := Callee.value (Operand.func 14), args := #[Operand.tmp 50, Operand.tmp 55], argTypes := #[3, 24] }, type := 44, pos := "law.go:78", after := #[{ on := 2, ground := Ground.data }, { on := 7, ground := Ground.data }], guard := none }) rfl (fun K hK => ?_) AllReadyH.nil
  have C := its_any (gH k) wr hok
  unfold E4.v at C
  have CC := hidden C
  clear C
  go_simp
  refine (CC.out).mono ?_
  rintro e w1 ⟨rfl, hb⟩
  go_wp2_with fail
  refine hK.out _ _ (bl_trans hS hb) (fun _ => ?_)
  exact rf9_cl Q k k2 s T1 sb so LH cH y0 y1 y2 gG gH u0 u3 u4 u6 u8 u9 u10 u11 u12 u13 u14 u15 u16 u17 u18 u19 u20 u21 u22 u23 u24 u25 u26 u27 u28 u29 u30 u31 u32 u33 u34 u35 u36 u37 u38 u39 u40 u41 u42 u43 u44 u45 u46 u47 u57 u58 u59 u60 Gv Hv w PP HQ hk _ (bl_trans hS hb) (hR.keep hb)
set_option maxRecDepth 100000 in
set_option maxHeartbeats 8000000 in
theorem rf9_0 (Q : Exit → Act → World → Prop) (k k2 s T1 sb so LH cH : Nat) (y0 y1 y2 : E4) (gG gH : Nat → E4) (u0 u3 u4 u6 u8 u9 u10 u11 u12 u13 u14 u15 u16 u17 u18 u19 u20 u21 u22 u23 u24 u25 u26 u27 u28 u29 u30 u31 u32 u33 u34 u35 u36 u37 u38 u39 u40 u41 u42 u43 u44 u45 u46 u47 u49 u56 u57 u58 u59 u60 Gv Hv : Value) (w : World) (PP : ∀ d v c a w, Q (.panic c) (a.put d v) w → Q (.panic c) a w) (HQ : Hid (∀ (eb : Nat) (v' : Value) (wz : World), Se w.heap.size wz s y0 y1 y2 (lf gG) (lf gH) k2 (k + 1) Gv v' → Below w.heap.size w wz → Q .normal ⟨#[u0, .int .i64 2, .pointer (some ⟨T1, 0, none⟩), u3, u4, .pointer (some ⟨s, 0, none⟩), u6, .int .i64 (k : Int), u8, u9, u10, u11, u12, u13, u14, u15, u16, u17, u18, u19, u20, u21, u22, u23, u24, u25, u26, u27, u28, u29, u30, u31, u32, u33, u34, u35, u36, u37, u38, u39, u40, u41, u42, u43, u44, u45, u46, u47, .pointer (some ⟨s, 80, none⟩), Hv, .int .i64 2, .pointer (some ⟨T1, 13, none⟩), .slice (some ⟨sb, so, none⟩) LH cH, .int .i64 (k : Int), .pointer (some ⟨sb, so + k * 4, none⟩), .agg #[.int .u64 (gH k).x0, .int .u64 (gH k).x1, .int .u64 (gH k).x2, .int .u64 (gH k).x3], .agg (el (lf gH k)).toArray, .slice (some ⟨eb, 0, none⟩) 1 1, v', .pointer (some ⟨s, 80, none⟩), u60], []⟩ wz)) (hk : k < 1048576) (hok : (gH k).ok) (wr : World) (hS : Below w.heap.size w wr) (hR : Se w.heap.size wr s y0 y1 y2 (lf gG) (lf gH) k2 k Gv Hv) :
    wpAnyH Tryd.prog .any rf9o Q (fun w' => Below w.heap.size w w') 6 #[true, false, true, true, true, true, true, true, false, false, false, false, false] ⟨#[u0, .int .i64 2, .pointer (some ⟨T1, 0, none⟩), u3, u4, .pointer (some ⟨s, 0, none⟩), u6, .int .i64 (k : Int), u8, u9, u10, u11, u12, u13, u14, u15, u16, u17, u18, u19, u20, u21, u22, u23, u24, u25, u26, u27, u28, u29, u30, u31, u32, u33, u34, u35, u36, u37, u38, u39, u40, u41, u42, u43, u44, u45, u46, u47, .pointer (some ⟨s, 80, none⟩), u49, .int .i64 2, .pointer (some ⟨T1, 13, none⟩), .slice (some ⟨sb, so, none⟩) LH cH, .int .i64 (k : Int), .pointer (some ⟨sb, so + k * 4, none⟩), .agg #[.int .u64 (gH k).x0, .int .u64 (gH k).x1, .int .u64 (gH k).x2, .int .u64 (gH k).x3], u56, u57, u58, u59, u60], []⟩ wr := by
  have c1 := hidden hR.c80
  refine wpAnyH_ready (rs := [1, 8]) (by kernel_rfl) (by simp) ?_
  refine AllReadyH.cons (o := { dst := some 49, op := Op.load 45 (Operand.tmp 48), type := 45, pos := "law.go:78", after := #[{ on := 0, ground := Ground.data }], guard := none }) rfl (fun K hK => ?_) ?_
  · have c2 := c1.out
    go_wp2_with fail
    refine hK.out _ _ hS (fun _ => ?_)
    exact rf9_l Q k k2 s T1 sb so LH cH y0 y1 y2 gG gH u0 u3 u4 u6 u8 u9 u10 u11 u12 u13 u14 u15 u16 u17 u18 u19 u20 u21 u22 u23 u24 u25 u26 u27 u28 u29 u30 u31 u32 u33 u34 u35 u36 u37 u38 u39 u40 u41 u42 u43 u44 u45 u46 u47 u56 u57 u58 u59 u60 Gv Hv w PP HQ hk hok _ hS hR
  refine AllReadyH.cons (o := { dst := some 56, op := Op.call { callee := Callee.value (Operand.func 14), args := #[Operand.tmp 50, Operand.tmp 55], argTypes := #[3, 24] }, type := 44, pos := "law.go:78", after := #[{ on := 2, ground := Ground.data }, { on := 7, ground := Ground.data }], guard := none }) rfl (fun K hK => ?_) AllReadyH.nil
  have C := its_any (gH k) wr hok
  unfold E4.v at C
  have CC := hidden C
  clear C
  go_simp
  refine (CC.out).mono ?_
  rintro e w1 ⟨rfl, hb⟩
  go_wp2_with fail
  refine hK.out _ _ (bl_trans hS hb) (fun _ => ?_)
  exact rf9_c Q k k2 s T1 sb so LH cH y0 y1 y2 gG gH u0 u3 u4 u6 u8 u9 u10 u11 u12 u13 u14 u15 u16 u17 u18 u19 u20 u21 u22 u23 u24 u25 u26 u27 u28 u29 u30 u31 u32 u33 u34 u35 u36 u37 u38 u39 u40 u41 u42 u43 u44 u45 u46 u47 u49 u57 u58 u59 u60 Gv Hv w PP HQ hk _ (bl_trans hS hb) (hR.keep hb)
set_option maxRecDepth 100000 in
set_option maxHeartbeats 8000000 in
theorem rf9_any (Q : Exit → Act → World → Prop) (k k2 s T1 sb so LH cH : Nat) (y0 y1 y2 : E4) (gG gH : Nat → E4) (u0 u3 u4 u6 u8 u9 u10 u11 u12 u13 u14 u15 u16 u17 u18 u19 u20 u21 u22 u23 u24 u25 u26 u27 u28 u29 u30 u31 u32 u33 u34 u35 u36 u37 u38 u39 u40 u41 u42 u43 u44 u45 u46 u47 u48 u49 u50 u51 u52 u53 u54 u55 u56 u57 u58 u59 u60 Gv Hv : Value) (w : World) (HQ : Hid (∀ (eb : Nat) (v' : Value) (wz : World), Se w.heap.size wz s y0 y1 y2 (lf gG) (lf gH) k2 (k + 1) Gv v' → Below w.heap.size w wz → Q .normal ⟨#[u0, .int .i64 2, .pointer (some ⟨T1, 0, none⟩), u3, u4, .pointer (some ⟨s, 0, none⟩), u6, .int .i64 (k : Int), u8, u9, u10, u11, u12, u13, u14, u15, u16, u17, u18, u19, u20, u21, u22, u23, u24, u25, u26, u27, u28, u29, u30, u31, u32, u33, u34, u35, u36, u37, u38, u39, u40, u41, u42, u43, u44, u45, u46, u47, .pointer (some ⟨s, 80, none⟩), Hv, .int .i64 2, .pointer (some ⟨T1, 13, none⟩), .slice (some ⟨sb, so, none⟩) LH cH, .int .i64 (k : Int), .pointer (some ⟨sb, so + k * 4, none⟩), .agg #[.int .u64 (gH k).x0, .int .u64 (gH k).x1, .int .u64 (gH k).x2, .int .u64 (gH k).x3], .agg (el (lf gH k)).toArray, .slice (some ⟨eb, 0, none⟩) 1 1, v', .pointer (some ⟨s, 80, none⟩), u60], []⟩ wz)) (hk : k < 1048576) (hkl : k < LH) (hok : (gH k).ok) (h12 : w.cell? ⟨T1, 13, none⟩ = some (.slice (some ⟨sb, so, none⟩) LH cH)) (hl : Rl w sb so LH gH) (wr : World) (hS : Below w.heap.size w wr) (hR : Se w.heap.size wr s y0 y1 y2 (lf gG) (lf gH) k2 k Gv Hv) :
    (Code.region 9 rf9o true).wp Tryd.prog Q ⟨#[u0, .int .i64 2, .pointer (some ⟨T1, 0, none⟩), u3, u4, .pointer (some ⟨s, 0, none⟩), u6, .int .i64 (k : Int), u8, u9, u10, u11, u12, u13, u14, u15, u16, u17, u18, u19, u20, u21, u22, u23, u24, u25, u26, u27, u28, u29, u30, u31, u32, u33, u34, u35, u36, u37, u38, u39, u40, u41, u42, u43, u44, u45, u46, u47, u48, u49, u50, u51, u52, u53, u54, u55, u56, u57, u58, u59, u60], []⟩ wr := by
  have k0 : (0 : Int) ≤ (k : Int) := by omega
  have k1 : (k : Int) < (LH : Int) := by omega
  have HL := hidden hl
  have H12 := hidden h12
  clear hl h12
  refine wp_region_noPanic ?_
  refine wp_region_held_drew (S := (fun w' => Below w.heap.size w w')) (by kernel_rfl) (bl_trans hS (drew_blW wr)) (fun hHeld => ?_)
  change wpAnyH Tryd.prog .any rf9o _ _ 13 #[false, false, false, false, false, false, false, false, false, false, false, false, false] _ _
  refine wpAnyH_take (i := 0) (oi := { dst := some 48, op := Op.fieldAddr 47 (Operand.tmp 5) 5, type := 0, pos := "law.go:78", after := #[], guard := none }) (v := .pointer (some ⟨s, 80, none⟩)) rfl (by kernel_rfl) (by kernel_rfl) (by kernel_rfl) (fun _ _ _ h => h) (Or.inl ⟨by rfl, fun w0 hSw => ?_⟩) hHeld ?_
  · ((try dsimp only at hSw); clear hSw; go_simp)
  simp only [Act.put, List.setIfInBounds_toArray, List.set_cons_zero, List.set_cons_succ]
  refine wpAnyH_take (i := 2) (oi := { dst := some 50, op := Op.move (Operand.tmp 1), type := 3, pos := "law.go:78", after := #[], guard := none }) (v := .int .i64 2) rfl (by kernel_rfl) (by kernel_rfl) (by kernel_rfl) (fun _ _ _ h => h) (Or.inl ⟨by rfl, fun w0 hSw => ?_⟩) hHeld ?_
  · ((try dsimp only at hSw); clear hSw; go_simp)
  simp only [Act.put, List.setIfInBounds_toArray, List.set_cons_zero, List.set_cons_succ]
  refine wpAnyH_take (i := 3) (oi := { dst := some 51, op := Op.fieldAddr 27 (Operand.tmp 2) 4, type := 0, pos := "law.go:78", after := #[], guard := none }) (v := .pointer (some ⟨T1, 13, none⟩)) rfl (by kernel_rfl) (by kernel_rfl) (by kernel_rfl) (fun _ _ _ h => h) (Or.inl ⟨by rfl, fun w0 hSw => ?_⟩) hHeld ?_
  · ((try dsimp only at hSw); clear hSw; go_simp)
  simp only [Act.put, List.setIfInBounds_toArray, List.set_cons_zero, List.set_cons_succ]
  refine wpAnyH_take (i := 4) (oi := { dst := some 52, op := Op.load 25 (Operand.tmp 51), type := 25, pos := "law.go:78", after := #[{ on := 3, ground := Ground.data }], guard := none }) (v := .slice (some ⟨sb, so, none⟩) LH cH) rfl (by kernel_rfl) (by kernel_rfl) (by kernel_rfl) (fun _ _ _ h => h) (Or.inl ⟨by rfl, fun w0 hSw => ?_⟩) hHeld ?_
  · ((try dsimp only at hSw); have c12 := cell_keep H12.out hSw; clear hSw; go_simp)
  simp only [Act.put, List.setIfInBounds_toArray, List.set_cons_zero, List.set_cons_succ]
  refine wpAnyH_take (i := 5) (oi := { dst := some 53, op := Op.move (Operand.tmp 7), type := 3, pos := "law.go:78", after := #[], guard := none }) (v := .int .i64 (k : Int)) rfl (by kernel_rfl) (by kernel_rfl) (by kernel_rfl) (fun _ _ _ h => h) (Or.inl ⟨by rfl, fun w0 hSw => ?_⟩) hHeld ?_
  · ((try dsimp only at hSw); clear hSw; go_simp)
  simp only [Act.put, List.setIfInBounds_toArray, List.set_cons_zero, List.set_cons_succ]
  refine wpAnyH_take (i := 6) (oi := { dst := some 54, op := Op.indexAddr 25 (Operand.tmp 52) (Operand.tmp 53), type := 0, pos := "law.go:78", after := #[{ on := 4, ground := Ground.data }, { on := 5, ground := Ground.data }], guard := none }) (v := .pointer (some ⟨sb, so + k * 4, none⟩)) rfl (by kernel_rfl) (by kernel_rfl) (by kernel_rfl) (fun _ _ _ h => h) (Or.inl ⟨by rfl, fun w0 hSw => ?_⟩) hHeld ?_
  · ((try dsimp only at hSw); clear hSw; go_simp)
  simp only [Act.put, List.setIfInBounds_toArray, List.set_cons_zero, List.set_cons_succ]
  refine wpAnyH_take (i := 7) (oi := { dst := some 55, op := Op.load 24 (Operand.tmp 54), type := 24, pos := "law.go:78", after := #[{ on := 6, ground := Ground.data }], guard := none }) (v := .agg #[.int .u64 (gH k).x0, .int .u64 (gH k).x1, .int .u64 (gH k).x2, .int .u64 (gH k).x3]) rfl (by kernel_rfl) (by kernel_rfl) (by kernel_rfl) (fun _ _ _ h => h) (Or.inl ⟨by rfl, fun w0 hSw => ?_⟩) hHeld ?_
  · ((try dsimp only at hSw); have rx := HL.out.keep hSw; have z0 := rx.c0 k hkl; have z1 := rx.c1 k hkl; have z2 := rx.c2 k hkl; have z3 := rx.c3 k hkl; clear rx; clear hSw; go_simp)
  simp only [Act.put, List.setIfInBounds_toArray, List.set_cons_zero, List.set_cons_succ]
  exact rf9_0 (NoPanic Q) k k2 s T1 sb so LH cH y0 y1 y2 gG gH _ _ _ _ _ _ _ _ _ _ _ _ _ _ _ _ _ _ _ _ _ _ _ _ _ _ _ _ _ _ _ _ _ _ _ _ _ _ _ _ _ _ _ _ _ _ _ _ _ _ Gv Hv w (fun _ _ _ _ _ h => h) HQ hk hok _ hHeld (hR.keep (drew_blW wr))
end Go.Proofs.YtlijigolfggcfaaDoor
