import Derived.Test.YtkfkmndhbfeagaaGreatDoorPi
import Derived.Laws.MakeOwn
namespace Go.Proofs.YtkfkmndhbfeagaaGreatDoor
open Go.RowKit
set_option linter.unusedVariables false
theorem svs_zero (k : Nat) : svs k (fun _ => zero4) = List.replicate (k * 4) (.int .u64 0) := by
  induction k with
  | zero => rfl
  | succ k ih => rw [svs_succ, ih, Nat.add_mul, ← List.replicate_append_replicate]; rfl
theorem made4 (k : Nat) : madeCells #[.int .u64 0, .int .u64 0, .int .u64 0, .int .u64 0] (k * 4) = (svs k (fun _ => zero4)).toArray := by
  rw [svs_zero]
  apply Array.ext
  · simp [madeCells]
  · intro i h1 h2
    have h4 : i % 4 < 4 := Nat.mod_lt _ (by omega)
    simp only [madeCells, Array.getElem_map, Array.getElem_range, List.getElem_toArray, List.getElem_replicate]
    obtain h | h | h | h : i % 4 = 0 ∨ i % 4 = 1 ∨ i % 4 = 2 ∨ i % 4 = 3 := by omega
    all_goals simp [h]
theorem svs_split (f : Nat → E4) (i : Nat) (z : E4) : ∀ n, i < n → ∃ ys, svs n f = svs i f ++ ([.int .u64 (f i).x0, .int .u64 (f i).x1, .int .u64 (f i).x2, .int .u64 (f i).x3] ++ ys) ∧ svs n (fun j => if j = i then z else f j) = svs i f ++ ([.int .u64 z.x0, .int .u64 z.x1, .int .u64 z.x2, .int .u64 z.x3] ++ ys)
  | 0, h => by omega
  | n + 1, h => by
    by_cases e : i = n
    · subst e
      refine ⟨[], by rw [svs_succ]; rfl, ?_⟩
      rw [svs_succ, if_pos rfl, svs_congr (f := fun j => if j = i then z else f j) (g := f) (fun k hk => by rw [if_neg (by omega)])]
      rfl
    · obtain ⟨ys, h1, h2⟩ := svs_split f i z n (by omega)
      refine ⟨ys ++ [.int .u64 (f n).x0, .int .u64 (f n).x1, .int .u64 (f n).x2, .int .u64 (f n).x3], by rw [svs_succ, h1]; simp, ?_⟩
      rw [svs_succ, h2, if_neg (by omega)]
      simp
/-- a block's kind and length -/
def Shp (w : World) (b : Nat) (t : TypeId) (m : Nat) : Prop := ∃ cur : Array Value, w.heap[b]? = some (.cells cur t (0, 0)) ∧ cur.size = m
theorem Shp.keep {w w' : World} {b m : Nat} {t : TypeId} (h : Shp w b t m) (hb : Below w.heap.size w w') : Shp w' b t m := by
  obtain ⟨cur, h1, h2⟩ := h
  exact ⟨cur, (hb.block b (Array.getElem?_eq_some_iff.1 h1).1).trans h1, h2⟩
theorem Shp.kp {w w' : World} {g b m : Nat} {t : TypeId} (h : Shp w b t m) (hk : Tr.Kp g w w') (hne : b ≠ g) : Shp w' b t m := by
  obtain ⟨cur, h1, h2⟩ := h
  exact ⟨cur, (hk.block b (Array.getElem?_eq_some_iff.1 h1).1 hne).trans h1, h2⟩
theorem Shp.set {w : World} {b m : Nat} {t : TypeId} (h : Shp w b t m) (c o : Nat) (v : Value) : Shp (w.setCell ⟨c, o, none⟩ v) b t m := by
  obtain ⟨cur, h1, h2⟩ := h
  by_cases hc : b = c
  · subst hc
    exact ⟨_, Go.heap_setCell_same w b o cur t v h1, by simp [h2]⟩
  · exact ⟨cur, (Go.heap_setCell_other _ _ _ _ (fun e => hc (by rw [e]))).trans h1, h2⟩
theorem Shp.sets {b m : Nat} {t : TypeId} (c : Nat) : ∀ (vs : List Value) (o : Nat) {w : World}, Shp w b t m → Shp (w.setCells c o vs) b t m
  | [], _, _, h => h
  | v :: vs, o, w, h => by
    rw [World.setCells]
    exact Shp.sets c vs (o + 1) (h.set c o v)
theorem shp_new (w : World) (cs : List Value) (t : TypeId) (m : Nat) (hm : cs.length = m) : Shp (w.alloc (.cells cs.toArray t)) w.heap.size t m := ⟨cs.toArray, heap_alloc_new w _, by simpa using hm⟩
theorem shp_own {w : World} {b k base : Nat} {t : TypeId} {f : Nat → E4} (h : Shp w b t (k * 4)) (hr : ∀ j v, (svs k f)[j]? = some v → w.cell? ⟨b, j, none⟩ = some v) (hb : base ≤ b) (hk : k ≤ 1000) : w.ownsRow base t 4 (.slice (some ⟨b, 0, none⟩) k k) k (svs k f) := by
  obtain ⟨cur, h1, h2⟩ := h
  refine ⟨svs_len k f, .inr ⟨b, k, cur, rfl, hb, h1, Nat.le_refl _, by unfold maxLen; omega, h2, ?_⟩⟩
  refine List.ext_getElem? fun j => ?_
  by_cases hj : j < k * 4
  · have e : (svs k f)[j]? = some ((svs k f)[j]'(by rw [svs_len]; exact hj)) := List.getElem?_eq_getElem _
    have h3 := hr j _ e
    rw [cell_of_row w b j cur t (0, 0) h1] at h3
    rw [List.getElem?_take_of_lt hj, e, ← h3]
    simp
  · rw [List.getElem?_eq_none (by simp; omega), List.getElem?_eq_none (by rw [svs_len]; omega)]
theorem wp_makeL {o : Oper} {a : Act} {w : World} {K : Act → World → Prop} {Q : Exit → Act → World → Prop} (x y : Operand) (ho : o.op = .makeSlice 53 x y) (k : Nat) (hx : a.eval x = .int .i64 (k : Int)) (hy : a.eval y = .int .i64 (k : Int)) (hk : k ≤ 10) (d : Option Tmp) (hd : o.dst = d)
    (h : K (a.put d (.slice (some ⟨w.heap.size, 0, none⟩) k k)) (w.alloc (.cells (svs k (fun _ => zero4)).toArray 52))) : o.wp Tryz.prog a w K Q := by
  have h1 : Tryz.prog.underlying 53 = some (.slice 52) := by kernel_rfl
  have hi : Tryz.prog.info? 52 = some (Tryz.prog.info? 52).get! := by kernel_rfl
  have hz : (Tryz.prog.info? 52).get!.zero = some (.agg #[.int .u64 0, .int .u64 0, .int .u64 0, .int .u64 0]) := by kernel_rfl
  have hs : (Tryz.prog.info? 52).get!.size = 4 := by kernel_rfl
  have hb : (Tryz.prog.info? 52).get!.bytes = 32 := by kernel_rfl
  have hr := run_makeSlice (P := Tryz.prog) w _ _ _ _ h1 hi hz .i64 .i64 (k : Int) (k : Int) (by omega) (by omega) (by rw [hs]; simp only [Int.toNat_natCast]; omega) (by rw [hb]; omega) (by omega)
  rw [hs] at hr
  simp only [Int.toNat_natCast] at hr
  have e4 : madeCells (Value.agg #[.int .u64 0, .int .u64 0, .int .u64 0, .int .u64 0]).cells (k * 4) = (svs k (fun _ => zero4)).toArray := made4 k
  rw [e4] at hr
  subst hd
  unfold Oper.wp execOp
  simp only [ho, hx, hy, Sem.run_bind, Sem.run_pure, Result.andThen_ok, hr]
  exact h
theorem zvP (w : World) : (zeroValue 55).run Tryz.prog w = .ok (.agg (pcv zero4 zero4 zero4 zero4 zero4 zero4 zero4 zero4 zero4 (.slice none 0 0) (.slice none 0 0)).toArray) w := by kernel_rfl
theorem wp_allocP {o : Oper} {a : Act} {w : World} {K : Act → World → Prop} {Q : Exit → Act → World → Prop} (ho : o.op = .alloc 55) (h : K (a.put o.dst (.pointer (some ⟨w.heap.size, 0, none⟩))) (w.alloc (.cells (pcv zero4 zero4 zero4 zero4 zero4 zero4 zero4 zero4 zero4 (.slice none 0 0) (.slice none 0 0)).toArray 55))) : o.wp Tryz.prog a w K Q := by
  have hz := zvP w
  generalize pcv zero4 zero4 zero4 zero4 zero4 zero4 zero4 zero4 zero4 (.slice none 0 0) (.slice none 0 0) = z at hz h
  unfold Oper.wp execOp
  simp [ho, Instr.alloc, hz]
  exact h
theorem pinfo : (Tryz.prog.info? 55).map (·.size) = some 38 := by kernel_rfl
theorem pcv_i2 (a0 a1 a2 a3 a4 a5 a6 a7 a8 : E4) (LV RV : Value) : (Tryz.prog.info? 55).map (·.size) = some (pcv a0 a1 a2 a3 a4 a5 a6 a7 a8 LV RV).toArray.size := pinfo
theorem pcv_i (a0 a1 a2 a3 a4 a5 a6 a7 a8 : E4) (LV RV : Value) : (Tryz.prog.info? 55).map (·.size) = some (pcv a0 a1 a2 a3 a4 a5 a6 a7 a8 LV RV).length := pinfo
theorem pcv_one (a0 a1 a2 a3 a4 a5 a6 a7 a8 : E4) (P Q : Option Addr) (n c m d : Nat) : (pcv a0 a1 a2 a3 a4 a5 a6 a7 a8 (.slice P n c) (.slice Q m d)).toArray.all (·.oneCell') = true := by simp [pcv, Value.oneCell']
def dp5o : Array Oper := #[{ dst := some 21, op := Op.move (Operand.tmp 4), type := 3, pos := "proof.go:60", after := #[], guard := none },
  { dst := some 22, op := Op.makeSlice 53 (Operand.tmp 21) (Operand.tmp 21), type := 53, pos := "proof.go:60", after := #[{ on := 0, ground := Ground.data }, { on := 0, ground := Ground.data }], guard := none },
  { dst := some 23, op := Op.move (Operand.tmp 4), type := 3, pos := "proof.go:60", after := #[], guard := none },
  { dst := some 24, op := Op.makeSlice 53 (Operand.tmp 23) (Operand.tmp 23), type := 53, pos := "proof.go:60", after := #[{ on := 2, ground := Ground.data }, { on := 2, ground := Ground.data }], guard := none },
  { dst := some 25, op := Op.build 55 #[(7, Operand.tmp 22), (8, Operand.tmp 24)], type := 55, pos := "proof.go:60", after := #[{ on := 1, ground := Ground.data }, { on := 3, ground := Ground.data }], guard := none },
  { dst := some 7, op := Op.alloc 55, type := 0, pos := "proof.go:60", after := #[], guard := none },
  { dst := none, op := Op.store 55 (Operand.tmp 7) (Operand.tmp 25), type := 0, pos := "proof.go:60", after := #[{ on := 5, ground := Ground.data }, { on := 4, ground := Ground.data }, { on := 0, ground := Ground.phase }, { on := 1, ground := Ground.phase }, { on := 2, ground := Ground.phase }, { on := 3, ground := Ground.phase }, { on := 4, ground := Ground.phase }, { on := 5, ground := Ground.phase }], guard := none }]
set_option maxRecDepth 100000 in
set_option maxHeartbeats 16000000 in
theorem dp5 (Q : Exit → Act → World → Prop) (k : Nat) (u0 u1 u2 u3 u5 u6 u7 u8 u9 u10 u11 u12 u13 u14 u15 u16 u17 u18 u19 u20 u21 u22 u23 u24 u25 u26 u27 u28 u29 u30 u31 u32 u33 u34 u35 u36 u37 u38 u39 u40 u41 u42 u43 u44 u45 u46 u47 u48 u49 u50 u51 u52 u53 u54 u55 u56 u57 u58 u59 u60 u61 u62 u63 u64 u65 u66 u67 u68 u69 u70 u71 u72 u73 u74 u75 u76 : Value) (W : World) (hk : k ≤ 10)
    (HQ : Hid (∀ bL bR B7 wz, Mw W [(B7, pcv zero4 zero4 zero4 zero4 zero4 zero4 zero4 zero4 zero4 (.slice (some ⟨bL, 0, none⟩) k k) (.slice (some ⟨bR, 0, none⟩) k k)), (bL, svs k (fun _ => zero4)), (bR, svs k (fun _ => zero4))] wz → bL ≠ bR → bL ≠ B7 → bR ≠ B7 → Shp wz bL 52 (k * 4) → Shp wz bR 52 (k * 4) → Q .normal ⟨#[u0, u1, u2, u3, .int .i64 (k : Int), u5, u6, .pointer (some ⟨B7, 0, none⟩), u8, u9, u10, u11, u12, u13, u14, u15, u16, u17, u18, u19, u20, .int .i64 (k : Int), .slice (some ⟨bL, 0, none⟩) k k, .int .i64 (k : Int), .slice (some ⟨bR, 0, none⟩) k k, .agg (pcv zero4 zero4 zero4 zero4 zero4 zero4 zero4 zero4 zero4 (.slice (some ⟨bL, 0, none⟩) k k) (.slice (some ⟨bR, 0, none⟩) k k)).toArray, u26, u27, u28, u29, u30, u31, u32, u33, u34, u35, u36, u37, u38, u39, u40, u41, u42, u43, u44, u45, u46, u47, u48, u49, u50, u51, u52, u53, u54, u55, u56, u57, u58, u59, u60, u61, u62, u63, u64, u65, u66, u67, u68, u69, u70, u71, u72, u73, u74, u75, u76], []⟩ wz)) : (Code.region 5 dp5o true).wp Tryz.prog Q ⟨#[u0, u1, u2, u3, .int .i64 (k : Int), u5, u6, u7, u8, u9, u10, u11, u12, u13, u14, u15, u16, u17, u18, u19, u20, u21, u22, u23, u24, u25, u26, u27, u28, u29, u30, u31, u32, u33, u34, u35, u36, u37, u38, u39, u40, u41, u42, u43, u44, u45, u46, u47, u48, u49, u50, u51, u52, u53, u54, u55, u56, u57, u58, u59, u60, u61, u62, u63, u64, u65, u66, u67, u68, u69, u70, u71, u72, u73, u74, u75, u76], []⟩ W := by
  have HK := hidden hk
  clear hk
  refine wp_region_noPanic ?_
  refine wp_region_held_drew (S := fun x => Below W.heap.size W x) (by kernel_rfl) (Tr.drew_blW W) (fun hHeld => ?_)
  change wpAnyH Tryz.prog .any dp5o _ _ 7 #[false, false, false, false, false, false, false] _ _
  have M0 := hidden ((Mw.start W).keep (Tr.drew_blW W))
  refine wpAnyH_take (i := 0) (oi := { dst := some 21, op := Op.move (Operand.tmp 4), type := 3, pos := "proof.go:60", after := #[], guard := none }) (v := .int .i64 (k : Int)) rfl (by kernel_rfl) (by kernel_rfl) (by kernel_rfl) (fun _ _ _ h => h) (Or.inl ⟨by rfl, fun w0 hSw => ?_⟩) hHeld ?_
  · (clear hSw; go_simp)
  simp only [Act.put, List.setIfInBounds_toArray, List.set_cons_zero, List.set_cons_succ]
  refine wpAnyH_take (i := 2) (oi := { dst := some 23, op := Op.move (Operand.tmp 4), type := 3, pos := "proof.go:60", after := #[], guard := none }) (v := .int .i64 (k : Int)) rfl (by kernel_rfl) (by kernel_rfl) (by kernel_rfl) (fun _ _ _ h => h) (Or.inl ⟨by rfl, fun w0 hSw => ?_⟩) hHeld ?_
  · (clear hSw; go_simp)
  simp only [Act.put, List.setIfInBounds_toArray, List.set_cons_zero, List.set_cons_succ]
  refine wpAnyH_ready (rs := [1, 3, 5]) (by kernel_rfl) (by simp) ?_
  refine AllReadyH.cons (o := { dst := some 22, op := Op.makeSlice 53 (Operand.tmp 21) (Operand.tmp 21), type := 53, pos := "proof.go:60", after := #[{ on := 0, ground := Ground.data }, { on := 0, ground := Ground.data }], guard := none }) rfl (fun K hK => ?_) ?_
  ·
    have HH := hidden hHeld
    clear hHeld
    refine wp_makeL _ _ rfl k (by rfl) (by rfl) HK.out (some 22) rfl ?_
    have N1 := hidden (M0.out.new (svs k (fun _ => zero4)) 52)
    have SL := hidden (shp_new W.drew (svs k (fun _ => zero4)) 52 (k * 4) (svs_len _ _))
    refine hK.out _ _ N1.out.bel (fun hHeld1 => ?_)
    clear hK K HH
    simp only [Act.put, List.setIfInBounds_toArray, List.set_cons_zero, List.set_cons_succ]
    generalize hB1 : W.drew.heap.size = bL at *
    generalize hW1 : W.drew.alloc (.cells (svs k (fun _ => zero4)).toArray 52) = V1 at *
    clear hB1 hW1
    refine wpAnyH_ready (rs := [3, 5]) (by kernel_rfl) (by simp) ?_
    refine AllReadyH.cons (o := { dst := some 24, op := Op.makeSlice 53 (Operand.tmp 23) (Operand.tmp 23), type := 53, pos := "proof.go:60", after := #[{ on := 2, ground := Ground.data }, { on := 2, ground := Ground.data }], guard := none }) rfl (fun K hK => ?_) ?_
    ·
      have HH := hidden hHeld1
      clear hHeld1
      refine wp_makeL _ _ rfl k (by rfl) (by rfl) HK.out (some 24) rfl ?_
      have N2 := hidden (N1.out.new (svs k (fun _ => zero4)) 52)
      replace SL := hidden (SL.out.keep (bl_alloc V1 (.cells (svs k (fun _ => zero4)).toArray 52)))
      have SR := hidden (shp_new V1 (svs k (fun _ => zero4)) 52 (k * 4) (svs_len _ _))
      refine hK.out _ _ N2.out.bel (fun hHeld2 => ?_)
      clear hK K HH
      simp only [Act.put, List.setIfInBounds_toArray, List.set_cons_zero, List.set_cons_succ]
      have DLR : bL ≠ V1.heap.size := Nat.ne_of_lt (N1.out.r (bL, svs k (fun _ => zero4)) (by simp)).2.2.2
      generalize hB2 : V1.heap.size = bR at *
      generalize hW2 : V1.alloc (.cells (svs k (fun _ => zero4)).toArray 52) = V2 at *
      clear hB2 hW2
      refine wpAnyH_take (i := 4) (oi := { dst := some 25, op := Op.build 55 #[(7, Operand.tmp 22), (8, Operand.tmp 24)], type := 55, pos := "proof.go:60", after := #[{ on := 1, ground := Ground.data }, { on := 3, ground := Ground.data }], guard := none }) (v := .agg (pcv zero4 zero4 zero4 zero4 zero4 zero4 zero4 zero4 zero4 (.slice (some ⟨bL, 0, none⟩) k k) (.slice (some ⟨bR, 0, none⟩) k k)).toArray) rfl (by kernel_rfl) (by kernel_rfl) (by kernel_rfl) (fun _ _ _ h => h) (Or.inl ⟨by rfl, fun w0 hSw => by kernel_rfl⟩) hHeld2 ?_
      simp only [Act.put, List.setIfInBounds_toArray, List.set_cons_zero, List.set_cons_succ]
      refine wpAnyH_ready (rs := [5]) (by kernel_rfl) (by simp) ?_
      refine AllReadyH.cons (o := { dst := some 7, op := Op.alloc 55, type := 0, pos := "proof.go:60", after := #[], guard := none }) rfl (fun K hK => ?_) AllReadyH.nil
      have HH := hidden hHeld2
      clear hHeld2
      refine wp_allocP rfl ?_
      have N3 := hidden (N2.out.new (pcv zero4 zero4 zero4 zero4 zero4 zero4 zero4 zero4 zero4 (.slice none 0 0) (.slice none 0 0)) 55)
      replace SL := hidden (SL.out.keep (bl_alloc V2 (.cells (pcv zero4 zero4 zero4 zero4 zero4 zero4 zero4 zero4 zero4 (.slice none 0 0) (.slice none 0 0)).toArray 55)))
      replace SR := hidden (SR.out.keep (bl_alloc V2 (.cells (pcv zero4 zero4 zero4 zero4 zero4 zero4 zero4 zero4 zero4 (.slice none 0 0) (.slice none 0 0)).toArray 55)))
      refine hK.out _ _ N3.out.bel (fun hHeld3 => ?_)
      clear hK K HH
      simp only [Act.put, List.setIfInBounds_toArray, List.set_cons_zero, List.set_cons_succ]
      have DLP : bL ≠ V2.heap.size := Nat.ne_of_lt (N2.out.r (bL, svs k (fun _ => zero4)) (by simp)).2.2.2
      have DRP : bR ≠ V2.heap.size := Nat.ne_of_lt (N2.out.r (bR, svs k (fun _ => zero4)) (by simp)).2.2.2
      generalize hB3 : V2.heap.size = B7 at *
      generalize hW3 : V2.alloc (.cells (pcv zero4 zero4 zero4 zero4 zero4 zero4 zero4 zero4 zero4 (.slice none 0 0) (.slice none 0 0)).toArray 55) = V3 at *
      clear hB3 hW3
      refine wpAnyH_ready (rs := [6]) (by kernel_rfl) (by simp) ?_
      refine AllReadyH.cons (o := { dst := none, op := Op.store 55 (Operand.tmp 7) (Operand.tmp 25), type := 0, pos := "proof.go:60", after := #[{ on := 5, ground := Ground.data }, { on := 4, ground := Ground.data }, { on := 0, ground := Ground.phase }, { on := 1, ground := Ground.phase }, { on := 2, ground := Ground.phase }, { on := 3, ground := Ground.phase }, { on := 4, ground := Ground.phase }, { on := 5, ground := Ground.phase }], guard := none }) rfl (fun K hK => ?_) AllReadyH.nil
      clear hHeld3
      have MQ := hidden (N3.out.sub (M := [(B7, pcv zero4 zero4 zero4 zero4 zero4 zero4 zero4 zero4 zero4 (.slice none 0 0) (.slice none 0 0)), (bL, svs k (fun _ => zero4)), (bR, svs k (fun _ => zero4))]) (by simp))
      have I2 : Hid ((Tryz.prog.info? 55).map (·.size) = some (pcv zero4 zero4 zero4 zero4 zero4 zero4 zero4 zero4 zero4 (.slice (some ⟨bL, 0, none⟩) k k) (.slice (some ⟨bR, 0, none⟩) k k)).toArray.size) := hidden (pcv_i2 zero4 zero4 zero4 zero4 zero4 zero4 zero4 zero4 zero4 _ _)
      have O2 := hidden (pcv_one zero4 zero4 zero4 zero4 zero4 zero4 zero4 zero4 zero4 (some ⟨bL, 0, none⟩) (some ⟨bR, 0, none⟩) k k k k)
      have TH := hidden (MQ.out.ther (pcv zero4 zero4 zero4 zero4 zero4 zero4 zero4 zero4 zero4 (.slice (some ⟨bL, 0, none⟩) k k) (.slice (some ⟨bR, 0, none⟩) k k)) (c := B7) (o := pcv zero4 zero4 zero4 zero4 zero4 zero4 zero4 zero4 zero4 (.slice none 0 0) (.slice none 0 0)) (by simp) rfl)
      have MZ := hidden (MQ.out.set (M := [(bL, svs k (fun _ => zero4)), (bR, svs k (fun _ => zero4))]) (pcv zero4 zero4 zero4 zero4 zero4 zero4 zero4 zero4 zero4 (.slice (some ⟨bL, 0, none⟩) k k) (.slice (some ⟨bR, 0, none⟩) k k)) (c := B7) (o := pcv zero4 zero4 zero4 zero4 zero4 zero4 zero4 zero4 zero4 (.slice none 0 0) (.slice none 0 0)) (by simp) rfl (fun p hp => by
        simp only [List.mem_cons, List.not_mem_nil, or_false] at hp
        rcases hp with rfl | rfl
        · exact ⟨by simp, fun e => DLP e.symm⟩
        · exact ⟨by simp, fun e => DRP e.symm⟩))
      refine ready_store rfl 55 _ _ rfl rfl B7 0 (pcv zero4 zero4 zero4 zero4 zero4 zero4 zero4 zero4 zero4 (.slice (some ⟨bL, 0, none⟩) k k) (.slice (some ⟨bR, 0, none⟩) k k)) (by rfl) (by rfl) TH.out I2.out O2.out ?_
      refine hK.out _ _ MZ.out.bel (fun hz => ?_)
      refine wpAnyH_done (by kernel_rfl) ?_ _
      refine NoPanic.normal ?_
      exact HQ.out bL bR B7 _ MZ.out DLR DLP DRP (Shp.sets B7 _ 0 SL.out) (Shp.sets B7 _ 0 SR.out)
    refine AllReadyH.cons (o := { dst := some 7, op := Op.alloc 55, type := 0, pos := "proof.go:60", after := #[], guard := none }) rfl (fun K hK => ?_) AllReadyH.nil
    have HH := hidden hHeld1
    clear hHeld1
    refine wp_allocP rfl ?_
    have N4 := hidden (N1.out.new (pcv zero4 zero4 zero4 zero4 zero4 zero4 zero4 zero4 zero4 (.slice none 0 0) (.slice none 0 0)) 55)
    replace SL := hidden (SL.out.keep (bl_alloc V1 (.cells (pcv zero4 zero4 zero4 zero4 zero4 zero4 zero4 zero4 zero4 (.slice none 0 0) (.slice none 0 0)).toArray 55)))
    refine hK.out _ _ N4.out.bel (fun hHeld4 => ?_)
    clear hK K HH
    simp only [Act.put, List.setIfInBounds_toArray, List.set_cons_zero, List.set_cons_succ]
    have DLP : bL ≠ V1.heap.size := Nat.ne_of_lt (N1.out.r (bL, svs k (fun _ => zero4)) (by simp)).2.2.2
    generalize hB4 : V1.heap.size = B7 at *
    generalize hW4 : V1.alloc (.cells (pcv zero4 zero4 zero4 zero4 zero4 zero4 zero4 zero4 zero4 (.slice none 0 0) (.slice none 0 0)).toArray 55) = V4 at *
    clear hB4 hW4
    refine wpAnyH_ready (rs := [3]) (by kernel_rfl) (by simp) ?_
    refine AllReadyH.cons (o := { dst := some 24, op := Op.makeSlice 53 (Operand.tmp 23) (Operand.tmp 23), type := 53, pos := "proof.go:60", after := #[{ on := 2, ground := Ground.data }, { on := 2, ground := Ground.data }], guard := none }) rfl (fun K hK => ?_) AllReadyH.nil
    have HH := hidden hHeld4
    clear hHeld4
    refine wp_makeL _ _ rfl k (by rfl) (by rfl) HK.out (some 24) rfl ?_
    have N5 := hidden (N4.out.new (svs k (fun _ => zero4)) 52)
    replace SL := hidden (SL.out.keep (bl_alloc V4 (.cells (svs k (fun _ => zero4)).toArray 52)))
    have SR := hidden (shp_new V4 (svs k (fun _ => zero4)) 52 (k * 4) (svs_len _ _))
    refine hK.out _ _ N5.out.bel (fun hHeld5 => ?_)
    clear hK K HH
    simp only [Act.put, List.setIfInBounds_toArray, List.set_cons_zero, List.set_cons_succ]
    have DLR : bL ≠ V4.heap.size := Nat.ne_of_lt (N4.out.r (bL, svs k (fun _ => zero4)) (by simp)).2.2.2
    have DRP : V4.heap.size ≠ B7 := Nat.ne_of_gt (N4.out.r (B7, pcv zero4 zero4 zero4 zero4 zero4 zero4 zero4 zero4 zero4 (.slice none 0 0) (.slice none 0 0)) (by simp)).2.2.2
    generalize hB5 : V4.heap.size = bR at *
    generalize hW5 : V4.alloc (.cells (svs k (fun _ => zero4)).toArray 52) = V5 at *
    clear hB5 hW5
    refine wpAnyH_take (i := 4) (oi := { dst := some 25, op := Op.build 55 #[(7, Operand.tmp 22), (8, Operand.tmp 24)], type := 55, pos := "proof.go:60", after := #[{ on := 1, ground := Ground.data }, { on := 3, ground := Ground.data }], guard := none }) (v := .agg (pcv zero4 zero4 zero4 zero4 zero4 zero4 zero4 zero4 zero4 (.slice (some ⟨bL, 0, none⟩) k k) (.slice (some ⟨bR, 0, none⟩) k k)).toArray) rfl (by kernel_rfl) (by kernel_rfl) (by kernel_rfl) (fun _ _ _ h => h) (Or.inl ⟨by rfl, fun w0 hSw => by kernel_rfl⟩) hHeld5 ?_
    simp only [Act.put, List.setIfInBounds_toArray, List.set_cons_zero, List.set_cons_succ]
    refine wpAnyH_ready (rs := [6]) (by kernel_rfl) (by simp) ?_
    refine AllReadyH.cons (o := { dst := none, op := Op.store 55 (Operand.tmp 7) (Operand.tmp 25), type := 0, pos := "proof.go:60", after := #[{ on := 5, ground := Ground.data }, { on := 4, ground := Ground.data }, { on := 0, ground := Ground.phase }, { on := 1, ground := Ground.phase }, { on := 2, ground := Ground.phase }, { on := 3, ground := Ground.phase }, { on := 4, ground := Ground.phase }, { on := 5, ground := Ground.phase }], guard := none }) rfl (fun K hK => ?_) AllReadyH.nil
    clear hHeld5
    have MQ := hidden (N5.out.sub (M := [(B7, pcv zero4 zero4 zero4 zero4 zero4 zero4 zero4 zero4 zero4 (.slice none 0 0) (.slice none 0 0)), (bL, svs k (fun _ => zero4)), (bR, svs k (fun _ => zero4))]) (by simp))
    have I2 : Hid ((Tryz.prog.info? 55).map (·.size) = some (pcv zero4 zero4 zero4 zero4 zero4 zero4 zero4 zero4 zero4 (.slice (some ⟨bL, 0, none⟩) k k) (.slice (some ⟨bR, 0, none⟩) k k)).toArray.size) := hidden (pcv_i2 zero4 zero4 zero4 zero4 zero4 zero4 zero4 zero4 zero4 _ _)
    have O2 := hidden (pcv_one zero4 zero4 zero4 zero4 zero4 zero4 zero4 zero4 zero4 (some ⟨bL, 0, none⟩) (some ⟨bR, 0, none⟩) k k k k)
    have TH := hidden (MQ.out.ther (pcv zero4 zero4 zero4 zero4 zero4 zero4 zero4 zero4 zero4 (.slice (some ⟨bL, 0, none⟩) k k) (.slice (some ⟨bR, 0, none⟩) k k)) (c := B7) (o := pcv zero4 zero4 zero4 zero4 zero4 zero4 zero4 zero4 zero4 (.slice none 0 0) (.slice none 0 0)) (by simp) rfl)
    have MZ := hidden (MQ.out.set (M := [(bL, svs k (fun _ => zero4)), (bR, svs k (fun _ => zero4))]) (pcv zero4 zero4 zero4 zero4 zero4 zero4 zero4 zero4 zero4 (.slice (some ⟨bL, 0, none⟩) k k) (.slice (some ⟨bR, 0, none⟩) k k)) (c := B7) (o := pcv zero4 zero4 zero4 zero4 zero4 zero4 zero4 zero4 zero4 (.slice none 0 0) (.slice none 0 0)) (by simp) rfl (fun p hp => by
        simp only [List.mem_cons, List.not_mem_nil, or_false] at hp
        rcases hp with rfl | rfl
        · exact ⟨by simp, fun e => DLP e.symm⟩
        · exact ⟨by simp, fun e => DRP e.symm⟩))
    refine ready_store rfl 55 _ _ rfl rfl B7 0 (pcv zero4 zero4 zero4 zero4 zero4 zero4 zero4 zero4 zero4 (.slice (some ⟨bL, 0, none⟩) k k) (.slice (some ⟨bR, 0, none⟩) k k)) (by rfl) (by rfl) TH.out I2.out O2.out ?_
    refine hK.out _ _ MZ.out.bel (fun hz => ?_)
    refine wpAnyH_done (by kernel_rfl) ?_ _
    refine NoPanic.normal ?_
    exact HQ.out bL bR B7 _ MZ.out DLR DLP DRP (Shp.sets B7 _ 0 SL.out) (Shp.sets B7 _ 0 SR.out)
  refine AllReadyH.cons (o := { dst := some 24, op := Op.makeSlice 53 (Operand.tmp 23) (Operand.tmp 23), type := 53, pos := "proof.go:60", after := #[{ on := 2, ground := Ground.data }, { on := 2, ground := Ground.data }], guard := none }) rfl (fun K hK => ?_) ?_
  ·
    have HH := hidden hHeld
    clear hHeld
    refine wp_makeL _ _ rfl k (by rfl) (by rfl) HK.out (some 24) rfl ?_
    have N6 := hidden (M0.out.new (svs k (fun _ => zero4)) 52)
    have SR := hidden (shp_new W.drew (svs k (fun _ => zero4)) 52 (k * 4) (svs_len _ _))
    refine hK.out _ _ N6.out.bel (fun hHeld6 => ?_)
    clear hK K HH
    simp only [Act.put, List.setIfInBounds_toArray, List.set_cons_zero, List.set_cons_succ]
    generalize hB6 : W.drew.heap.size = bR at *
    generalize hW6 : W.drew.alloc (.cells (svs k (fun _ => zero4)).toArray 52) = V6 at *
    clear hB6 hW6
    refine wpAnyH_ready (rs := [1, 5]) (by kernel_rfl) (by simp) ?_
    refine AllReadyH.cons (o := { dst := some 22, op := Op.makeSlice 53 (Operand.tmp 21) (Operand.tmp 21), type := 53, pos := "proof.go:60", after := #[{ on := 0, ground := Ground.data }, { on := 0, ground := Ground.data }], guard := none }) rfl (fun K hK => ?_) ?_
    ·
      have HH := hidden hHeld6
      clear hHeld6
      refine wp_makeL _ _ rfl k (by rfl) (by rfl) HK.out (some 22) rfl ?_
      have N7 := hidden (N6.out.new (svs k (fun _ => zero4)) 52)
      replace SR := hidden (SR.out.keep (bl_alloc V6 (.cells (svs k (fun _ => zero4)).toArray 52)))
      have SL := hidden (shp_new V6 (svs k (fun _ => zero4)) 52 (k * 4) (svs_len _ _))
      refine hK.out _ _ N7.out.bel (fun hHeld7 => ?_)
      clear hK K HH
      simp only [Act.put, List.setIfInBounds_toArray, List.set_cons_zero, List.set_cons_succ]
      have DLR : V6.heap.size ≠ bR := Nat.ne_of_gt (N6.out.r (bR, svs k (fun _ => zero4)) (by simp)).2.2.2
      generalize hB7 : V6.heap.size = bL at *
      generalize hW7 : V6.alloc (.cells (svs k (fun _ => zero4)).toArray 52) = V7 at *
      clear hB7 hW7
      refine wpAnyH_take (i := 4) (oi := { dst := some 25, op := Op.build 55 #[(7, Operand.tmp 22), (8, Operand.tmp 24)], type := 55, pos := "proof.go:60", after := #[{ on := 1, ground := Ground.data }, { on := 3, ground := Ground.data }], guard := none }) (v := .agg (pcv zero4 zero4 zero4 zero4 zero4 zero4 zero4 zero4 zero4 (.slice (some ⟨bL, 0, none⟩) k k) (.slice (some ⟨bR, 0, none⟩) k k)).toArray) rfl (by kernel_rfl) (by kernel_rfl) (by kernel_rfl) (fun _ _ _ h => h) (Or.inl ⟨by rfl, fun w0 hSw => by kernel_rfl⟩) hHeld7 ?_
      simp only [Act.put, List.setIfInBounds_toArray, List.set_cons_zero, List.set_cons_succ]
      refine wpAnyH_ready (rs := [5]) (by kernel_rfl) (by simp) ?_
      refine AllReadyH.cons (o := { dst := some 7, op := Op.alloc 55, type := 0, pos := "proof.go:60", after := #[], guard := none }) rfl (fun K hK => ?_) AllReadyH.nil
      have HH := hidden hHeld7
      clear hHeld7
      refine wp_allocP rfl ?_
      have N8 := hidden (N7.out.new (pcv zero4 zero4 zero4 zero4 zero4 zero4 zero4 zero4 zero4 (.slice none 0 0) (.slice none 0 0)) 55)
      replace SR := hidden (SR.out.keep (bl_alloc V7 (.cells (pcv zero4 zero4 zero4 zero4 zero4 zero4 zero4 zero4 zero4 (.slice none 0 0) (.slice none 0 0)).toArray 55)))
      replace SL := hidden (SL.out.keep (bl_alloc V7 (.cells (pcv zero4 zero4 zero4 zero4 zero4 zero4 zero4 zero4 zero4 (.slice none 0 0) (.slice none 0 0)).toArray 55)))
      refine hK.out _ _ N8.out.bel (fun hHeld8 => ?_)
      clear hK K HH
      simp only [Act.put, List.setIfInBounds_toArray, List.set_cons_zero, List.set_cons_succ]
      have DRP : bR ≠ V7.heap.size := Nat.ne_of_lt (N7.out.r (bR, svs k (fun _ => zero4)) (by simp)).2.2.2
      have DLP : bL ≠ V7.heap.size := Nat.ne_of_lt (N7.out.r (bL, svs k (fun _ => zero4)) (by simp)).2.2.2
      generalize hB8 : V7.heap.size = B7 at *
      generalize hW8 : V7.alloc (.cells (pcv zero4 zero4 zero4 zero4 zero4 zero4 zero4 zero4 zero4 (.slice none 0 0) (.slice none 0 0)).toArray 55) = V8 at *
      clear hB8 hW8
      refine wpAnyH_ready (rs := [6]) (by kernel_rfl) (by simp) ?_
      refine AllReadyH.cons (o := { dst := none, op := Op.store 55 (Operand.tmp 7) (Operand.tmp 25), type := 0, pos := "proof.go:60", after := #[{ on := 5, ground := Ground.data }, { on := 4, ground := Ground.data }, { on := 0, ground := Ground.phase }, { on := 1, ground := Ground.phase }, { on := 2, ground := Ground.phase }, { on := 3, ground := Ground.phase }, { on := 4, ground := Ground.phase }, { on := 5, ground := Ground.phase }], guard := none }) rfl (fun K hK => ?_) AllReadyH.nil
      clear hHeld8
      have MQ := hidden (N8.out.sub (M := [(B7, pcv zero4 zero4 zero4 zero4 zero4 zero4 zero4 zero4 zero4 (.slice none 0 0) (.slice none 0 0)), (bL, svs k (fun _ => zero4)), (bR, svs k (fun _ => zero4))]) (by simp))
      have I2 : Hid ((Tryz.prog.info? 55).map (·.size) = some (pcv zero4 zero4 zero4 zero4 zero4 zero4 zero4 zero4 zero4 (.slice (some ⟨bL, 0, none⟩) k k) (.slice (some ⟨bR, 0, none⟩) k k)).toArray.size) := hidden (pcv_i2 zero4 zero4 zero4 zero4 zero4 zero4 zero4 zero4 zero4 _ _)
      have O2 := hidden (pcv_one zero4 zero4 zero4 zero4 zero4 zero4 zero4 zero4 zero4 (some ⟨bL, 0, none⟩) (some ⟨bR, 0, none⟩) k k k k)
      have TH := hidden (MQ.out.ther (pcv zero4 zero4 zero4 zero4 zero4 zero4 zero4 zero4 zero4 (.slice (some ⟨bL, 0, none⟩) k k) (.slice (some ⟨bR, 0, none⟩) k k)) (c := B7) (o := pcv zero4 zero4 zero4 zero4 zero4 zero4 zero4 zero4 zero4 (.slice none 0 0) (.slice none 0 0)) (by simp) rfl)
      have MZ := hidden (MQ.out.set (M := [(bL, svs k (fun _ => zero4)), (bR, svs k (fun _ => zero4))]) (pcv zero4 zero4 zero4 zero4 zero4 zero4 zero4 zero4 zero4 (.slice (some ⟨bL, 0, none⟩) k k) (.slice (some ⟨bR, 0, none⟩) k k)) (c := B7) (o := pcv zero4 zero4 zero4 zero4 zero4 zero4 zero4 zero4 zero4 (.slice none 0 0) (.slice none 0 0)) (by simp) rfl (fun p hp => by
        simp only [List.mem_cons, List.not_mem_nil, or_false] at hp
        rcases hp with rfl | rfl
        · exact ⟨by simp, fun e => DLP e.symm⟩
        · exact ⟨by simp, fun e => DRP e.symm⟩))
      refine ready_store rfl 55 _ _ rfl rfl B7 0 (pcv zero4 zero4 zero4 zero4 zero4 zero4 zero4 zero4 zero4 (.slice (some ⟨bL, 0, none⟩) k k) (.slice (some ⟨bR, 0, none⟩) k k)) (by rfl) (by rfl) TH.out I2.out O2.out ?_
      refine hK.out _ _ MZ.out.bel (fun hz => ?_)
      refine wpAnyH_done (by kernel_rfl) ?_ _
      refine NoPanic.normal ?_
      exact HQ.out bL bR B7 _ MZ.out DLR DLP DRP (Shp.sets B7 _ 0 SL.out) (Shp.sets B7 _ 0 SR.out)
    refine AllReadyH.cons (o := { dst := some 7, op := Op.alloc 55, type := 0, pos := "proof.go:60", after := #[], guard := none }) rfl (fun K hK => ?_) AllReadyH.nil
    have HH := hidden hHeld6
    clear hHeld6
    refine wp_allocP rfl ?_
    have N9 := hidden (N6.out.new (pcv zero4 zero4 zero4 zero4 zero4 zero4 zero4 zero4 zero4 (.slice none 0 0) (.slice none 0 0)) 55)
    replace SR := hidden (SR.out.keep (bl_alloc V6 (.cells (pcv zero4 zero4 zero4 zero4 zero4 zero4 zero4 zero4 zero4 (.slice none 0 0) (.slice none 0 0)).toArray 55)))
    refine hK.out _ _ N9.out.bel (fun hHeld9 => ?_)
    clear hK K HH
    simp only [Act.put, List.setIfInBounds_toArray, List.set_cons_zero, List.set_cons_succ]
    have DRP : bR ≠ V6.heap.size := Nat.ne_of_lt (N6.out.r (bR, svs k (fun _ => zero4)) (by simp)).2.2.2
    generalize hB9 : V6.heap.size = B7 at *
    generalize hW9 : V6.alloc (.cells (pcv zero4 zero4 zero4 zero4 zero4 zero4 zero4 zero4 zero4 (.slice none 0 0) (.slice none 0 0)).toArray 55) = V9 at *
    clear hB9 hW9
    refine wpAnyH_ready (rs := [1]) (by kernel_rfl) (by simp) ?_
    refine AllReadyH.cons (o := { dst := some 22, op := Op.makeSlice 53 (Operand.tmp 21) (Operand.tmp 21), type := 53, pos := "proof.go:60", after := #[{ on := 0, ground := Ground.data }, { on := 0, ground := Ground.data }], guard := none }) rfl (fun K hK => ?_) AllReadyH.nil
    have HH := hidden hHeld9
    clear hHeld9
    refine wp_makeL _ _ rfl k (by rfl) (by rfl) HK.out (some 22) rfl ?_
    have N10 := hidden (N9.out.new (svs k (fun _ => zero4)) 52)
    replace SR := hidden (SR.out.keep (bl_alloc V9 (.cells (svs k (fun _ => zero4)).toArray 52)))
    have SL := hidden (shp_new V9 (svs k (fun _ => zero4)) 52 (k * 4) (svs_len _ _))
    refine hK.out _ _ N10.out.bel (fun hHeld10 => ?_)
    clear hK K HH
    simp only [Act.put, List.setIfInBounds_toArray, List.set_cons_zero, List.set_cons_succ]
    have DLR : V9.heap.size ≠ bR := Nat.ne_of_gt (N9.out.r (bR, svs k (fun _ => zero4)) (by simp)).2.2.2
    have DLP : V9.heap.size ≠ B7 := Nat.ne_of_gt (N9.out.r (B7, pcv zero4 zero4 zero4 zero4 zero4 zero4 zero4 zero4 zero4 (.slice none 0 0) (.slice none 0 0)) (by simp)).2.2.2
    generalize hB10 : V9.heap.size = bL at *
    generalize hW10 : V9.alloc (.cells (svs k (fun _ => zero4)).toArray 52) = V10 at *
    clear hB10 hW10
    refine wpAnyH_take (i := 4) (oi := { dst := some 25, op := Op.build 55 #[(7, Operand.tmp 22), (8, Operand.tmp 24)], type := 55, pos := "proof.go:60", after := #[{ on := 1, ground := Ground.data }, { on := 3, ground := Ground.data }], guard := none }) (v := .agg (pcv zero4 zero4 zero4 zero4 zero4 zero4 zero4 zero4 zero4 (.slice (some ⟨bL, 0, none⟩) k k) (.slice (some ⟨bR, 0, none⟩) k k)).toArray) rfl (by kernel_rfl) (by kernel_rfl) (by kernel_rfl) (fun _ _ _ h => h) (Or.inl ⟨by rfl, fun w0 hSw => by kernel_rfl⟩) hHeld10 ?_
    simp only [Act.put, List.setIfInBounds_toArray, List.set_cons_zero, List.set_cons_succ]
    refine wpAnyH_ready (rs := [6]) (by kernel_rfl) (by simp) ?_
    refine AllReadyH.cons (o := { dst := none, op := Op.store 55 (Operand.tmp 7) (Operand.tmp 25), type := 0, pos := "proof.go:60", after := #[{ on := 5, ground := Ground.data }, { on := 4, ground := Ground.data }, { on := 0, ground := Ground.phase }, { on := 1, ground := Ground.phase }, { on := 2, ground := Ground.phase }, { on := 3, ground := Ground.phase }, { on := 4, ground := Ground.phase }, { on := 5, ground := Ground.phase }], guard := none }) rfl (fun K hK => ?_) AllReadyH.nil
    clear hHeld10
    have MQ := hidden (N10.out.sub (M := [(B7, pcv zero4 zero4 zero4 zero4 zero4 zero4 zero4 zero4 zero4 (.slice none 0 0) (.slice none 0 0)), (bL, svs k (fun _ => zero4)), (bR, svs k (fun _ => zero4))]) (by simp))
    have I2 : Hid ((Tryz.prog.info? 55).map (·.size) = some (pcv zero4 zero4 zero4 zero4 zero4 zero4 zero4 zero4 zero4 (.slice (some ⟨bL, 0, none⟩) k k) (.slice (some ⟨bR, 0, none⟩) k k)).toArray.size) := hidden (pcv_i2 zero4 zero4 zero4 zero4 zero4 zero4 zero4 zero4 zero4 _ _)
    have O2 := hidden (pcv_one zero4 zero4 zero4 zero4 zero4 zero4 zero4 zero4 zero4 (some ⟨bL, 0, none⟩) (some ⟨bR, 0, none⟩) k k k k)
    have TH := hidden (MQ.out.ther (pcv zero4 zero4 zero4 zero4 zero4 zero4 zero4 zero4 zero4 (.slice (some ⟨bL, 0, none⟩) k k) (.slice (some ⟨bR, 0, none⟩) k k)) (c := B7) (o := pcv zero4 zero4 zero4 zero4 zero4 zero4 zero4 zero4 zero4 (.slice none 0 0) (.slice none 0 0)) (by simp) rfl)
    have MZ := hidden (MQ.out.set (M := [(bL, svs k (fun _ => zero4)), (bR, svs k (fun _ => zero4))]) (pcv zero4 zero4 zero4 zero4 zero4 zero4 zero4 zero4 zero4 (.slice (some ⟨bL, 0, none⟩) k k) (.slice (some ⟨bR, 0, none⟩) k k)) (c := B7) (o := pcv zero4 zero4 zero4 zero4 zero4 zero4 zero4 zero4 zero4 (.slice none 0 0) (.slice none 0 0)) (by simp) rfl (fun p hp => by
        simp only [List.mem_cons, List.not_mem_nil, or_false] at hp
        rcases hp with rfl | rfl
        · exact ⟨by simp, fun e => DLP e.symm⟩
        · exact ⟨by simp, fun e => DRP e.symm⟩))
    refine ready_store rfl 55 _ _ rfl rfl B7 0 (pcv zero4 zero4 zero4 zero4 zero4 zero4 zero4 zero4 zero4 (.slice (some ⟨bL, 0, none⟩) k k) (.slice (some ⟨bR, 0, none⟩) k k)) (by rfl) (by rfl) TH.out I2.out O2.out ?_
    refine hK.out _ _ MZ.out.bel (fun hz => ?_)
    refine wpAnyH_done (by kernel_rfl) ?_ _
    refine NoPanic.normal ?_
    exact HQ.out bL bR B7 _ MZ.out DLR DLP DRP (Shp.sets B7 _ 0 SL.out) (Shp.sets B7 _ 0 SR.out)
  refine AllReadyH.cons (o := { dst := some 7, op := Op.alloc 55, type := 0, pos := "proof.go:60", after := #[], guard := none }) rfl (fun K hK => ?_) AllReadyH.nil
  have HH := hidden hHeld
  clear hHeld
  refine wp_allocP rfl ?_
  have N11 := hidden (M0.out.new (pcv zero4 zero4 zero4 zero4 zero4 zero4 zero4 zero4 zero4 (.slice none 0 0) (.slice none 0 0)) 55)
  refine hK.out _ _ N11.out.bel (fun hHeld11 => ?_)
  clear hK K HH
  simp only [Act.put, List.setIfInBounds_toArray, List.set_cons_zero, List.set_cons_succ]
  generalize hB11 : W.drew.heap.size = B7 at *
  generalize hW11 : W.drew.alloc (.cells (pcv zero4 zero4 zero4 zero4 zero4 zero4 zero4 zero4 zero4 (.slice none 0 0) (.slice none 0 0)).toArray 55) = V11 at *
  clear hB11 hW11
  refine wpAnyH_ready (rs := [1, 3]) (by kernel_rfl) (by simp) ?_
  refine AllReadyH.cons (o := { dst := some 22, op := Op.makeSlice 53 (Operand.tmp 21) (Operand.tmp 21), type := 53, pos := "proof.go:60", after := #[{ on := 0, ground := Ground.data }, { on := 0, ground := Ground.data }], guard := none }) rfl (fun K hK => ?_) ?_
  ·
    have HH := hidden hHeld11
    clear hHeld11
    refine wp_makeL _ _ rfl k (by rfl) (by rfl) HK.out (some 22) rfl ?_
    have N12 := hidden (N11.out.new (svs k (fun _ => zero4)) 52)
    have SL := hidden (shp_new V11 (svs k (fun _ => zero4)) 52 (k * 4) (svs_len _ _))
    refine hK.out _ _ N12.out.bel (fun hHeld12 => ?_)
    clear hK K HH
    simp only [Act.put, List.setIfInBounds_toArray, List.set_cons_zero, List.set_cons_succ]
    have DLP : V11.heap.size ≠ B7 := Nat.ne_of_gt (N11.out.r (B7, pcv zero4 zero4 zero4 zero4 zero4 zero4 zero4 zero4 zero4 (.slice none 0 0) (.slice none 0 0)) (by simp)).2.2.2
    generalize hB12 : V11.heap.size = bL at *
    generalize hW12 : V11.alloc (.cells (svs k (fun _ => zero4)).toArray 52) = V12 at *
    clear hB12 hW12
    refine wpAnyH_ready (rs := [3]) (by kernel_rfl) (by simp) ?_
    refine AllReadyH.cons (o := { dst := some 24, op := Op.makeSlice 53 (Operand.tmp 23) (Operand.tmp 23), type := 53, pos := "proof.go:60", after := #[{ on := 2, ground := Ground.data }, { on := 2, ground := Ground.data }], guard := none }) rfl (fun K hK => ?_) AllReadyH.nil
    have HH := hidden hHeld12
    clear hHeld12
    refine wp_makeL _ _ rfl k (by rfl) (by rfl) HK.out (some 24) rfl ?_
    have N13 := hidden (N12.out.new (svs k (fun _ => zero4)) 52)
    replace SL := hidden (SL.out.keep (bl_alloc V12 (.cells (svs k (fun _ => zero4)).toArray 52)))
    have SR := hidden (shp_new V12 (svs k (fun _ => zero4)) 52 (k * 4) (svs_len _ _))
    refine hK.out _ _ N13.out.bel (fun hHeld13 => ?_)
    clear hK K HH
    simp only [Act.put, List.setIfInBounds_toArray, List.set_cons_zero, List.set_cons_succ]
    have DRP : V12.heap.size ≠ B7 := Nat.ne_of_gt (N12.out.r (B7, pcv zero4 zero4 zero4 zero4 zero4 zero4 zero4 zero4 zero4 (.slice none 0 0) (.slice none 0 0)) (by simp)).2.2.2
    have DLR : bL ≠ V12.heap.size := Nat.ne_of_lt (N12.out.r (bL, svs k (fun _ => zero4)) (by simp)).2.2.2
    generalize hB13 : V12.heap.size = bR at *
    generalize hW13 : V12.alloc (.cells (svs k (fun _ => zero4)).toArray 52) = V13 at *
    clear hB13 hW13
    refine wpAnyH_take (i := 4) (oi := { dst := some 25, op := Op.build 55 #[(7, Operand.tmp 22), (8, Operand.tmp 24)], type := 55, pos := "proof.go:60", after := #[{ on := 1, ground := Ground.data }, { on := 3, ground := Ground.data }], guard := none }) (v := .agg (pcv zero4 zero4 zero4 zero4 zero4 zero4 zero4 zero4 zero4 (.slice (some ⟨bL, 0, none⟩) k k) (.slice (some ⟨bR, 0, none⟩) k k)).toArray) rfl (by kernel_rfl) (by kernel_rfl) (by kernel_rfl) (fun _ _ _ h => h) (Or.inl ⟨by rfl, fun w0 hSw => by kernel_rfl⟩) hHeld13 ?_
    simp only [Act.put, List.setIfInBounds_toArray, List.set_cons_zero, List.set_cons_succ]
    refine wpAnyH_ready (rs := [6]) (by kernel_rfl) (by simp) ?_
    refine AllReadyH.cons (o := { dst := none, op := Op.store 55 (Operand.tmp 7) (Operand.tmp 25), type := 0, pos := "proof.go:60", after := #[{ on := 5, ground := Ground.data }, { on := 4, ground := Ground.data }, { on := 0, ground := Ground.phase }, { on := 1, ground := Ground.phase }, { on := 2, ground := Ground.phase }, { on := 3, ground := Ground.phase }, { on := 4, ground := Ground.phase }, { on := 5, ground := Ground.phase }], guard := none }) rfl (fun K hK => ?_) AllReadyH.nil
    clear hHeld13
    have MQ := hidden (N13.out.sub (M := [(B7, pcv zero4 zero4 zero4 zero4 zero4 zero4 zero4 zero4 zero4 (.slice none 0 0) (.slice none 0 0)), (bL, svs k (fun _ => zero4)), (bR, svs k (fun _ => zero4))]) (by simp))
    have I2 : Hid ((Tryz.prog.info? 55).map (·.size) = some (pcv zero4 zero4 zero4 zero4 zero4 zero4 zero4 zero4 zero4 (.slice (some ⟨bL, 0, none⟩) k k) (.slice (some ⟨bR, 0, none⟩) k k)).toArray.size) := hidden (pcv_i2 zero4 zero4 zero4 zero4 zero4 zero4 zero4 zero4 zero4 _ _)
    have O2 := hidden (pcv_one zero4 zero4 zero4 zero4 zero4 zero4 zero4 zero4 zero4 (some ⟨bL, 0, none⟩) (some ⟨bR, 0, none⟩) k k k k)
    have TH := hidden (MQ.out.ther (pcv zero4 zero4 zero4 zero4 zero4 zero4 zero4 zero4 zero4 (.slice (some ⟨bL, 0, none⟩) k k) (.slice (some ⟨bR, 0, none⟩) k k)) (c := B7) (o := pcv zero4 zero4 zero4 zero4 zero4 zero4 zero4 zero4 zero4 (.slice none 0 0) (.slice none 0 0)) (by simp) rfl)
    have MZ := hidden (MQ.out.set (M := [(bL, svs k (fun _ => zero4)), (bR, svs k (fun _ => zero4))]) (pcv zero4 zero4 zero4 zero4 zero4 zero4 zero4 zero4 zero4 (.slice (some ⟨bL, 0, none⟩) k k) (.slice (some ⟨bR, 0, none⟩) k k)) (c := B7) (o := pcv zero4 zero4 zero4 zero4 zero4 zero4 zero4 zero4 zero4 (.slice none 0 0) (.slice none 0 0)) (by simp) rfl (fun p hp => by
        simp only [List.mem_cons, List.not_mem_nil, or_false] at hp
        rcases hp with rfl | rfl
        · exact ⟨by simp, fun e => DLP e.symm⟩
        · exact ⟨by simp, fun e => DRP e.symm⟩))
    refine ready_store rfl 55 _ _ rfl rfl B7 0 (pcv zero4 zero4 zero4 zero4 zero4 zero4 zero4 zero4 zero4 (.slice (some ⟨bL, 0, none⟩) k k) (.slice (some ⟨bR, 0, none⟩) k k)) (by rfl) (by rfl) TH.out I2.out O2.out ?_
    refine hK.out _ _ MZ.out.bel (fun hz => ?_)
    refine wpAnyH_done (by kernel_rfl) ?_ _
    refine NoPanic.normal ?_
    exact HQ.out bL bR B7 _ MZ.out DLR DLP DRP (Shp.sets B7 _ 0 SL.out) (Shp.sets B7 _ 0 SR.out)
  refine AllReadyH.cons (o := { dst := some 24, op := Op.makeSlice 53 (Operand.tmp 23) (Operand.tmp 23), type := 53, pos := "proof.go:60", after := #[{ on := 2, ground := Ground.data }, { on := 2, ground := Ground.data }], guard := none }) rfl (fun K hK => ?_) AllReadyH.nil
  have HH := hidden hHeld11
  clear hHeld11
  refine wp_makeL _ _ rfl k (by rfl) (by rfl) HK.out (some 24) rfl ?_
  have N14 := hidden (N11.out.new (svs k (fun _ => zero4)) 52)
  have SR := hidden (shp_new V11 (svs k (fun _ => zero4)) 52 (k * 4) (svs_len _ _))
  refine hK.out _ _ N14.out.bel (fun hHeld14 => ?_)
  clear hK K HH
  simp only [Act.put, List.setIfInBounds_toArray, List.set_cons_zero, List.set_cons_succ]
  have DRP : V11.heap.size ≠ B7 := Nat.ne_of_gt (N11.out.r (B7, pcv zero4 zero4 zero4 zero4 zero4 zero4 zero4 zero4 zero4 (.slice none 0 0) (.slice none 0 0)) (by simp)).2.2.2
  generalize hB14 : V11.heap.size = bR at *
  generalize hW14 : V11.alloc (.cells (svs k (fun _ => zero4)).toArray 52) = V14 at *
  clear hB14 hW14
  refine wpAnyH_ready (rs := [1]) (by kernel_rfl) (by simp) ?_
  refine AllReadyH.cons (o := { dst := some 22, op := Op.makeSlice 53 (Operand.tmp 21) (Operand.tmp 21), type := 53, pos := "proof.go:60", after := #[{ on := 0, ground := Ground.data }, { on := 0, ground := Ground.data }], guard := none }) rfl (fun K hK => ?_) AllReadyH.nil
  have HH := hidden hHeld14
  clear hHeld14
  refine wp_makeL _ _ rfl k (by rfl) (by rfl) HK.out (some 22) rfl ?_
  have N15 := hidden (N14.out.new (svs k (fun _ => zero4)) 52)
  replace SR := hidden (SR.out.keep (bl_alloc V14 (.cells (svs k (fun _ => zero4)).toArray 52)))
  have SL := hidden (shp_new V14 (svs k (fun _ => zero4)) 52 (k * 4) (svs_len _ _))
  refine hK.out _ _ N15.out.bel (fun hHeld15 => ?_)
  clear hK K HH
  simp only [Act.put, List.setIfInBounds_toArray, List.set_cons_zero, List.set_cons_succ]
  have DLP : V14.heap.size ≠ B7 := Nat.ne_of_gt (N14.out.r (B7, pcv zero4 zero4 zero4 zero4 zero4 zero4 zero4 zero4 zero4 (.slice none 0 0) (.slice none 0 0)) (by simp)).2.2.2
  have DLR : V14.heap.size ≠ bR := Nat.ne_of_gt (N14.out.r (bR, svs k (fun _ => zero4)) (by simp)).2.2.2
  generalize hB15 : V14.heap.size = bL at *
  generalize hW15 : V14.alloc (.cells (svs k (fun _ => zero4)).toArray 52) = V15 at *
  clear hB15 hW15
  refine wpAnyH_take (i := 4) (oi := { dst := some 25, op := Op.build 55 #[(7, Operand.tmp 22), (8, Operand.tmp 24)], type := 55, pos := "proof.go:60", after := #[{ on := 1, ground := Ground.data }, { on := 3, ground := Ground.data }], guard := none }) (v := .agg (pcv zero4 zero4 zero4 zero4 zero4 zero4 zero4 zero4 zero4 (.slice (some ⟨bL, 0, none⟩) k k) (.slice (some ⟨bR, 0, none⟩) k k)).toArray) rfl (by kernel_rfl) (by kernel_rfl) (by kernel_rfl) (fun _ _ _ h => h) (Or.inl ⟨by rfl, fun w0 hSw => by kernel_rfl⟩) hHeld15 ?_
  simp only [Act.put, List.setIfInBounds_toArray, List.set_cons_zero, List.set_cons_succ]
  refine wpAnyH_ready (rs := [6]) (by kernel_rfl) (by simp) ?_
  refine AllReadyH.cons (o := { dst := none, op := Op.store 55 (Operand.tmp 7) (Operand.tmp 25), type := 0, pos := "proof.go:60", after := #[{ on := 5, ground := Ground.data }, { on := 4, ground := Ground.data }, { on := 0, ground := Ground.phase }, { on := 1, ground := Ground.phase }, { on := 2, ground := Ground.phase }, { on := 3, ground := Ground.phase }, { on := 4, ground := Ground.phase }, { on := 5, ground := Ground.phase }], guard := none }) rfl (fun K hK => ?_) AllReadyH.nil
  clear hHeld15
  have MQ := hidden (N15.out.sub (M := [(B7, pcv zero4 zero4 zero4 zero4 zero4 zero4 zero4 zero4 zero4 (.slice none 0 0) (.slice none 0 0)), (bL, svs k (fun _ => zero4)), (bR, svs k (fun _ => zero4))]) (by simp))
  have I2 : Hid ((Tryz.prog.info? 55).map (·.size) = some (pcv zero4 zero4 zero4 zero4 zero4 zero4 zero4 zero4 zero4 (.slice (some ⟨bL, 0, none⟩) k k) (.slice (some ⟨bR, 0, none⟩) k k)).toArray.size) := hidden (pcv_i2 zero4 zero4 zero4 zero4 zero4 zero4 zero4 zero4 zero4 _ _)
  have O2 := hidden (pcv_one zero4 zero4 zero4 zero4 zero4 zero4 zero4 zero4 zero4 (some ⟨bL, 0, none⟩) (some ⟨bR, 0, none⟩) k k k k)
  have TH := hidden (MQ.out.ther (pcv zero4 zero4 zero4 zero4 zero4 zero4 zero4 zero4 zero4 (.slice (some ⟨bL, 0, none⟩) k k) (.slice (some ⟨bR, 0, none⟩) k k)) (c := B7) (o := pcv zero4 zero4 zero4 zero4 zero4 zero4 zero4 zero4 zero4 (.slice none 0 0) (.slice none 0 0)) (by simp) rfl)
  have MZ := hidden (MQ.out.set (M := [(bL, svs k (fun _ => zero4)), (bR, svs k (fun _ => zero4))]) (pcv zero4 zero4 zero4 zero4 zero4 zero4 zero4 zero4 zero4 (.slice (some ⟨bL, 0, none⟩) k k) (.slice (some ⟨bR, 0, none⟩) k k)) (c := B7) (o := pcv zero4 zero4 zero4 zero4 zero4 zero4 zero4 zero4 zero4 (.slice none 0 0) (.slice none 0 0)) (by simp) rfl (fun p hp => by
        simp only [List.mem_cons, List.not_mem_nil, or_false] at hp
        rcases hp with rfl | rfl
        · exact ⟨by simp, fun e => DLP e.symm⟩
        · exact ⟨by simp, fun e => DRP e.symm⟩))
  refine ready_store rfl 55 _ _ rfl rfl B7 0 (pcv zero4 zero4 zero4 zero4 zero4 zero4 zero4 zero4 zero4 (.slice (some ⟨bL, 0, none⟩) k k) (.slice (some ⟨bR, 0, none⟩) k k)) (by rfl) (by rfl) TH.out I2.out O2.out ?_
  refine hK.out _ _ MZ.out.bel (fun hz => ?_)
  refine wpAnyH_done (by kernel_rfl) ?_ _
  refine NoPanic.normal ?_
  exact HQ.out bL bR B7 _ MZ.out DLR DLP DRP (Shp.sets B7 _ 0 SL.out) (Shp.sets B7 _ 0 SR.out)
end Go.Proofs.YtkfkmndhbfeagaaGreatDoor
