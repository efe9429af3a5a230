import Derived.Test.YtlijigolfggcfaaDoorHg
namespace Go.Proofs.YtlijigolfggcfaaDoor
open Go.RowKit
set_option linter.unusedVariables false
set_option maxRecDepth 100000 in
set_option maxHeartbeats 8000000 in
theorem isLine_any (a : E4) (w : World) (hT : Tb w) (ha : a.ok) :
    Calls Tryd.prog 11 #[.agg #[.int .u64 a.x0, .int .u64 a.x1, .int .u64 a.x2, .int .u64 a.x3], .agg (el (lst a.n)).toArray] w fun e w' => e = .returned (.bool true) ∧ Below w.heap.size w w' := by
  have C := hidden (fun w T => Least_any a w T ha)
  unfold E4.v at C
  have EQ : ∀ (w : World), (Op.equalIn 10000 41 (.agg #[.int .u64 (lst a.n).x0, .int .u64 (lst a.n).x1, .int .u64 (lst a.n).x2, .int .u64 (lst a.n).x3]) (.agg #[.int .u64 (lst a.n).x0, .int .u64 (lst a.n).x1, .int .u64 (lst a.n).x2, .int .u64 (lst a.n).x3])).run Tryd.prog w = .ok true w := fun w => by
    have := eq4r (lst a.n) (lst a.n) w
    rw [E4.same_self] at this
    exact this
  have B0 := hidden (bl_alloc2 w (.cells #[.int .u64 a.x0, .int .u64 a.x1, .int .u64 a.x2, .int .u64 a.x3] 29) (.cells (el (lst a.n)).toArray 44))
  have TT := hidden (fun w' (hb : Below w.heap.size w w') => hT.keep hb)
  have K1 : Hid (((w.alloc (.cells #[.int .u64 a.x0, .int .u64 a.x1, .int .u64 a.x2, .int .u64 a.x3] 29)).alloc (.cells (el (lst a.n)).toArray 44)).rangeAt w.heap.size 0 [.int .u64 a.x0, .int .u64 a.x1, .int .u64 a.x2, .int .u64 a.x3]) := hidden (range_keepM (range_newM w [.int .u64 a.x0, .int .u64 a.x1, .int .u64 a.x2, .int .u64 a.x3] 29) (bl_alloc _ _))
  have K2 : Hid (((w.alloc (.cells #[.int .u64 a.x0, .int .u64 a.x1, .int .u64 a.x2, .int .u64 a.x3] 29)).alloc (.cells (el (lst a.n)).toArray 44)).rangeAt (w.heap.size + 1) 0 (el (lst a.n))) := hidden (by
    have := range_newM (w.alloc (.cells #[.int .u64 a.x0, .int .u64 a.x1, .int .u64 a.x2, .int .u64 a.x3] 29)) (el (lst a.n)) 44
    simpa using this)
  have SZ := hidden (show w.heap.size + 1 < ((w.alloc (.cells #[.int .u64 a.x0, .int .u64 a.x1, .int .u64 a.x2, .int .u64 a.x3] 29)).alloc (.cells (el (lst a.n)).toArray 44)).heap.size by simp)
  obtain ⟨z, hz⟩ : ∃ z, z = el (lst a.n) := ⟨_, rfl⟩
  rw [← hz] at K1 K2 B0 SZ ⊢
  have z0 : z[21]? = some (.int .u64 (lst a.n).x0) := by rw [hz]; rfl
  have z1 : z[22]? = some (.int .u64 (lst a.n).x1) := by rw [hz]; rfl
  have z2 : z[23]? = some (.int .u64 (lst a.n).x2) := by rw [hz]; rfl
  have z3 : z[24]? = some (.int .u64 (lst a.n).x3) := by rw [hz]; rfl
  have ZZ := hidden (And.intro z0 (And.intro z1 (And.intro z2 z3)))
  generalize hW : (w.alloc (.cells #[.int .u64 a.x0, .int .u64 a.x1, .int .u64 a.x2, .int .u64 a.x3] 29)).alloc (.cells z.toArray 44) = W at K1 K2 B0 SZ
  clear hz hT ha z0 z1 z2 z3
  go_enter Tryd.func11, Tryd.ntmps11
  go_upto_region 1 with fail
  clear hW
  refine wp_region_noPanic ?_
  refine wp_region_held_drew (S := fun w' => Below W.heap.size W w') (by kernel_rfl) (drew_blW W) (fun hHeld => ?_)
  refine wpAnyH_take (i := 0) (oi := { dst := some 5, op := Op.fieldAddr 29 (Operand.tmp 2) 0, type := 0, pos := "law.go:91", after := #[], guard := none }) (v := .pointer (some ⟨w.heap.size, 0, none⟩)) rfl (by kernel_rfl) (by kernel_rfl) (by kernel_rfl) (fun _ _ _ h => h) (Or.inl ⟨by rfl, fun w0 hSw => ?_⟩) hHeld ?_
  · ((try dsimp only at hSw); clear hSw; go_simp)
  simp only [Act.put, List.setIfInBounds_toArray, List.set_cons_zero, List.set_cons_succ]
  refine wpAnyH_take (i := 1) (oi := { dst := some 6, op := Op.load 24 (Operand.tmp 5), type := 24, pos := "law.go:91", after := #[{ on := 0, ground := Ground.data }], guard := none }) (v := .agg #[.int .u64 a.x0, .int .u64 a.x1, .int .u64 a.x2, .int .u64 a.x3]) rfl (by kernel_rfl) (by kernel_rfl) (by kernel_rfl) (fun _ _ _ h => h) (Or.inl ⟨by rfl, fun w0 hSw => ?_⟩) hHeld ?_
  · ((try dsimp only at hSw); have s1 := range_keepB K1.out hSw (Nat.lt_of_succ_lt SZ.out); have c0 := s1 0 _ rfl; have c1 := s1 1 _ rfl; have c2 := s1 2 _ rfl; have c3 := s1 3 _ rfl; clear s1; simp only [Nat.zero_add] at c0 c1 c2 c3; clear hSw; go_simp)
  simp only [Act.put, List.setIfInBounds_toArray, List.set_cons_zero, List.set_cons_succ]
  refine wpAnyH_take (i := 3) (oi := { dst := some 8, op := Op.fieldAddr 44 (Operand.tmp 3) 2, type := 0, pos := "law.go:91", after := #[], guard := none }) (v := .pointer (some ⟨w.heap.size + 1, 21, none⟩)) rfl (by kernel_rfl) (by kernel_rfl) (by kernel_rfl) (fun _ _ _ h => h) (Or.inl ⟨by rfl, fun w0 hSw => ?_⟩) hHeld ?_
  · ((try dsimp only at hSw); clear hSw; go_simp)
  simp only [Act.put, List.setIfInBounds_toArray, List.set_cons_zero, List.set_cons_succ]
  refine wpAnyH_take (i := 4) (oi := { dst := some 9, op := Op.load 41 (Operand.tmp 8), type := 41, pos := "law.go:91", after := #[{ on := 3, ground := Ground.data }], guard := none }) (v := .agg #[.int .u64 (lst a.n).x0, .int .u64 (lst a.n).x1, .int .u64 (lst a.n).x2, .int .u64 (lst a.n).x3]) rfl (by kernel_rfl) (by kernel_rfl) (by kernel_rfl) (fun _ _ _ h => h) (Or.inl ⟨by rfl, fun w0 hSw => ?_⟩) hHeld ?_
  · ((try dsimp only at hSw); have s1 := range_keepB K2.out hSw SZ.out; have c0 := s1 21 _ ZZ.out.1; have c1 := s1 22 _ ZZ.out.2.1; have c2 := s1 23 _ ZZ.out.2.2.1; have c3 := s1 24 _ ZZ.out.2.2.2; clear s1; simp only [Nat.zero_add] at c0 c1 c2 c3; clear hSw; go_simp)
  simp only [Act.put, List.setIfInBounds_toArray, List.set_cons_zero, List.set_cons_succ]
  refine wpAnyH_ready (rs := [2]) (by kernel_rfl) (by simp) ?_
  refine AllReadyH.cons (o := { dst := some 7, op := Op.call { callee := Callee.value (Operand.func 17), args := #[Operand.tmp 6], argTypes := #[24] }, type := 24, pos := "law.go:91", after := #[{ on := 1, ground := Ground.data }], guard := none }) rfl (fun K hK => ?_) AllReadyH.nil
  have CC := hidden (C.out _ (TT.out _ (bl_trans B0.out hHeld)))
  have EH := hidden EQ
  clear EQ
  go_simp
  refine (CC.out).mono ?_
  rintro e wa ⟨r, rfl, hr, hb⟩
  obtain rfl : r = lst a.n := hr
  have BB := hidden (bl_trans hHeld hb)
  clear hb CC
  go_wp2_with fail
  refine hK.out _ _ BB.out (fun hh2 => ?_)
  clear hK K
  have EQ := EH.out
  refine wpAnyH_take (i := 5) (oi := { dst := some 10, op := Op.binOp BinOp.eql 41 (Operand.tmp 7) (Operand.tmp 9) 41, type := 4, pos := "law.go:91", after := #[{ on := 2, ground := Ground.data }, { on := 4, ground := Ground.data }], guard := none }) (v := .bool true) rfl (by kernel_rfl) (by kernel_rfl) (by kernel_rfl) (fun _ _ _ h => h) (Or.inl ⟨by rfl, fun w0 hSw => ?_⟩) hh2 ?_
  · ((try dsimp only at hSw); clear hSw; go_simp)
  simp only [Act.put, List.setIfInBounds_toArray, List.set_cons_zero, List.set_cons_succ]
  refine wpAnyH_ready (rs := [6]) (by kernel_rfl) (by simp) ?_
  refine AllReadyH.cons (o := { dst := some 4, op := Op.assign (Operand.tmp 10), type := 4, pos := "law.go:91", after := #[{ on := 5, ground := Ground.data }, { on := 2, ground := Ground.chain }, { on := 0, ground := Ground.phase }, { on := 1, ground := Ground.phase }, { on := 2, ground := Ground.phase }, { on := 3, ground := Ground.phase }, { on := 4, ground := Ground.phase }, { on := 5, ground := Ground.phase }], guard := none }) rfl (fun K hK => ?_) AllReadyH.nil
  go_wp2_with fail
  refine hK.out _ _ BB.out (fun hh3 => ?_)
  refine wpAnyH_done (by kernel_rfl) ?_ _
  refine NoPanic.normal ?_
  go_wp2_with fail
  refine bodyPost_ret (v := .bool true) (by simp [results, Tryd.results11, go_sem]) rfl ⟨rfl, bl_trans B0.out BB.out⟩
end Go.Proofs.YtlijigolfggcfaaDoor
