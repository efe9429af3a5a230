import Derived.Test.YtgijodenblpbgaaDoorSame
namespace Go.Proofs.YtgijodenblpbgaaDoor
open Go.RowKit

theorem eq32 (zs ys : List Int) (w : World) (hz : zs.length = 32) (hy : ys.length = 32) :
    (Op.equalIn 10000 26 (.agg (zs.map fun z => Value.int .u8 z).toArray) (.agg (ys.map fun z => Value.int .u8 z).toArray)).run Tryd.prog w = .ok (decide (zs = ys)) w := by
  have hi : Tryd.prog.info? 5 = some (Tryd.prog.info? 5).get! := by kernel_rfl
  have hc : Tryd.prog.cellsOf 5 = 1 := by kernel_rfl
  rw [run_equalIn_array w 9999 _ _ (by kernel_rfl : Tryd.prog.underlying 26 = some (.array 32 5)) hi, hc]
  rw [eqItems_ints w (k := .u8) 9998 (by kernel_rfl) (by kernel_rfl) _ _ (fun i => zs.getD i 0) (fun i => ys.getD i 0)]
  · congr 1
    rw [Bool.eq_iff_iff, decide_eq_true_iff, List.all_eq_true]
    constructor
    · intro h
      apply List.ext_getElem?
      intro i
      by_cases hin : i < 32
      · have := h i (List.mem_range.2 hin)
        simp only [List.getD_eq_getElem?_getD, beq_iff_eq] at this
        rw [List.getElem?_eq_getElem (by omega), List.getElem?_eq_getElem (by omega)] at this ⊢
        simpa using this
      · rw [List.getElem?_eq_none (by omega), List.getElem?_eq_none (by omega)]
    · intro h i _
      rw [h]; simp
  · intro i hi
    have : i < 32 := List.mem_range.1 hi
    simp [List.getD_eq_getElem?_getD, hz, hy, this]

/-- what lies where in Decode -/
structure DW (w0 : World) (cs : List Value) (A : Nat) (r : E5) (w : World) : Prop where
  rg : w.rangeAt w0.heap.size 0 cs
  bl : Blc w A r
  rs : Blc w (w0.heap.size + 1) zero5
  wr : Wrt w (w0.heap.size + 1)
  bel : Below w0.heap.size w0 w
theorem DW.keep {w0 : World} {cs : List Value} {A : Nat} {r : E5} {w1 w2 : World} (h : DW w0 cs A r w1) (hb : Below w1.heap.size w1 w2) : DW w0 cs A r w2 :=
  ⟨range_keepW h.rg hb, h.bl.keep hb, h.rs.keep hb, h.wr.keep h.rs.lt hb, bl_trans h.bel hb⟩

set_option maxRecDepth 100000 in
set_option maxHeartbeats 4000000 in
theorem Decode_any (zs : List Int) (w : World) (lz : zs.length = 32) (hz : ∀ z ∈ zs, 0 ≤ z ∧ z ≤ 255) (M : Int) (hM : M = ((num zs % 57896044618658097711785492504343953926634992332820282019728792003956564819968 : Nat) : Int)) (B : Bool) (hB : decide (bytes (M % Fm.P) = zs) = B) :
    Calls Tryd.prog 11 #[bv zs] w fun e w' => e = .returned (.tuple #[(cond B (lst M) zero5).v, .int .i64 (cond B 0 3)]) ∧ Below w.heap.size w w' := by
  have c1 := hidden (fun w => fix (Reduce_any zs w lz hz) rfl)
  rw [← hM] at c1
  have c2 := fun w => Encode_any (lst M) w (lst_ok _)
  rw [lst_n, Int.emod_emod] at c2
  have ln : (bytes (M % Fm.P)).length = 32 := by simp [bytes]
  have q := fun w => eq32 (bytes (M % Fm.P)) zs w ln lz
  rw [hB] at q
  clear hB
  have C2 := hidden c2
  have hi : (Tryd.prog.info? 26).map (·.size) = some (zs.map fun z => Value.int .u8 z).length := by rw [List.length_map, lz]; kernel_rfl
  have hu : Tryd.prog.underlying 26 = some (.array 32 5) := by kernel_rfl
  have HU := hidden hu
  have HI := hidden hi
  have RN := hidden (range_new w zs 26)
  clear hu hi lz hz c2 ln hM
  generalize lst M = r at *
  generalize bytes (M % Fm.P) = ys at *
  simp only [E5.v, bv] at c1 C2 ⊢
  generalize (zs.map fun z => Value.int .u8 z) = cs at *
  generalize (ys.map fun z => Value.int .u8 z) = ds at *
  go_enter Tryd.func11, Tryd.ntmps11
  go_upto_region 1 with fail
  go_cut [4] (fun v4 wx => ∃ A : Nat, v4 = .pointer (some ⟨A, 0, none⟩) ∧ w.heap.size + 1 < A ∧ DW w cs A r wx)
  case first =>
    go_wp2_with (first | refine wpList_load_mid rfl 26 _ rfl w.heap.size 0 (by rfl) cs _ (World.rangeAt_alloc RN.out _) HU.out rfl HI.out ?_ | refine wpList_load_mid rfl 26 _ rfl w.heap.size 0 (by rfl) cs _ (World.rangeAt_alloc (World.rangeAt_alloc RN.out _) _) HU.out rfl HI.out ?_)
    refine (c1.out _).mono ?_
    rintro e w1 ⟨rfl, hb⟩
    have D0 : DW w cs w1.heap.size r (w1.alloc (.cells #[.int .u64 r.x0, .int .u64 r.x1, .int .u64 r.x2, .int .u64 r.x3, .int .u64 r.x4] 24)) :=
      ⟨range_keepW (range_keepW (World.rangeAt_alloc RN.out _) hb) (bl_alloc _ _), Blc.new w1 r _, ((Blc.new1 w _ _).keep hb).keep (bl_alloc _ _), ((Wrt.new1 w _ _).keep (Blc.new1 w _ _).lt hb).keep ((Blc.new1 w _ _).keep hb).lt (bl_alloc _ _), bl_trans (bl_trans (bl_alloc2 w _ _) hb) (bl_alloc _ _)⟩
    have D1 := hidden D0
    have hz : w.heap.size + 1 < w1.heap.size := by have := hb.size; simp at this; omega
    clear D0 hb
    go_wp2_with fail
    go_meet
    exact ⟨w1.heap.size, rfl, hz, D1.out⟩
  case rest =>
  obtain ⟨A, rfl, hA, hD⟩ := hcut
  clear RN c1
  have DH := hidden hD
  clear hD
  go_upto_region 2 with fail
  refine wp_region_noPanic ?_
  refine wp_region_held_drew (S := fun w' => DW w cs A r w') (by kernel_rfl) (DH.out.keep ((Below.refl _ _).drew)) (fun hHeld => ?_)
  refine wpAnyH_take (i := 0) (oi := { dst := some 7, op := Op.load 24 (Operand.tmp 4), type := 24, pos := "bytes.go:30", after := #[], guard := none }) (v := ?_) rfl (by kernel_rfl) (by kernel_rfl) (by kernel_rfl) (fun _ _ _ h => h) (Or.inl ⟨by rfl, ?_⟩) hHeld ?_
  rotate_left 1
  · (intro w0 hSw; obtain ⟨g0, g1, g2, g3, g4⟩ := hSw.bl; clear hSw; go_simp; try with_reducible rfl)
  simp only [Act.put, List.setIfInBounds_toArray, List.set_cons_zero, List.set_cons_succ]
  refine wpAnyH_take (i := 2) (oi := { dst := some 9, op := Op.load 26 (Operand.tmp 1), type := 26, pos := "bytes.go:30", after := #[], guard := none }) rfl (by kernel_rfl) (by kernel_rfl) (by kernel_rfl) (fun _ _ _ h => h) (yieldsIf_load_mid (by rfl) _ _ rfl _ _ rfl _ _ (fun w0 hw => hw.rg) HU.out rfl HI.out) hHeld ?_
  simp only [Act.put, List.setIfInBounds_toArray, List.set_cons_zero, List.set_cons_succ]
  refine wpAnyH_ready (rs := [1]) (by kernel_rfl) (by simp) ?_
  refine AllReadyH.cons (o := { dst := some 8, op := Op.call { callee := Callee.value (Operand.func 8), args := #[Operand.tmp 7], argTypes := #[24] }, type := 26, pos := "bytes.go:30", after := #[{ on := 0, ground := Ground.data }], guard := none }) rfl (fun K hK => ?_) AllReadyH.nil
  go_simp
  refine (C2.out _).mono ?_
  rintro e wn ⟨rfl, hb⟩
  have hk := hidden (hHeld.keep hb)
  go_wp2_with fail
  refine hK.out _ _ hk.out (fun hHeld2 => ?_)
  clear hK K hHeld
  have hHeld := hHeld2
  clear hHeld2
  refine wpAnyH_take (i := 3) (oi := { dst := some 10, op := Op.binOp BinOp.neq 26 (Operand.tmp 8) (Operand.tmp 9) 26, type := 4, pos := "bytes.go:30", after := #[{ on := 1, ground := Ground.data }, { on := 2, ground := Ground.data }], guard := none }) (v := ?_) rfl (by kernel_rfl) (by kernel_rfl) (by kernel_rfl) (fun _ _ _ h => h) (Or.inl ⟨by rfl, ?_⟩) hHeld ?_
  rotate_left 1
  · (intro w0 hSw; clear hSw; go_simp; try with_reducible rfl)
  simp only [Act.put, List.setIfInBounds_toArray, List.set_cons_zero, List.set_cons_succ]
  refine wpAnyH_done (by kernel_rfl) ?_ _
  refine NoPanic.normal ?_
  obtain ⟨g0, g1, g2, g3, g4⟩ := hk.out.bl
  obtain ⟨q0, q1, q2, q3, q4⟩ := hk.out.rs
  obtain ⟨f0, f1, f2, f3, f4⟩ := hk.out.wr
  cases B
  · go_wp2_with fail
    refine bodyPost_ret (v := .tuple #[.agg #[.int .u64 0, .int .u64 0, .int .u64 0, .int .u64 0, .int .u64 0], .int .i64 3]) (by simp [results, Tryd.results11, go_sem, q0, q1, q2, q3, q4]) rfl ⟨rfl, ?_⟩
    exact bl_set5 _ _ _ _ _ hk.out.bel (by omega)
  · go_wp2_with fail
    refine bodyPost_ret (v := .tuple #[.agg #[.int .u64 r.x0, .int .u64 r.x1, .int .u64 r.x2, .int .u64 r.x3, .int .u64 r.x4], .int .i64 0]) (by simp [results, Tryd.results11, go_sem, q0, q1, q2, q3, q4]) rfl ⟨rfl, ?_⟩
    exact bl_set5 _ _ _ _ _ hk.out.bel (by omega)
end Go.Proofs.YtgijodenblpbgaaDoor
