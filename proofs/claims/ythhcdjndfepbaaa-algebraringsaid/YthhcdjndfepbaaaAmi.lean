import Derived.Test.YthhcdjndfepbaaaApb
import Derived.Deep.RegionHeld3
import Derived.Deep.DeepCutAuto
import Derived.Deep.DeepMust
namespace Go.Proofs.Ythhcdjndfepbaaa
open Go.RowKit
set_option maxRecDepth 100000 in
set_option maxHeartbeats 8000000 in
theorem mix_pair : MixP := by
  intro x y z t P Q n cP cQ a b c d w hn40 hnP hnQ hP hQ
  have HP := hidden hP
  have HQ := hidden hQ
  have N40 := hidden hn40
  have nn0 : (0 : Int) ≤ (n : Int) := by omega
  unfold pv
  obtain ⟨i0, hi, hz0, hz1, hz2⟩ := info_parts pairinfo
  have hmk := fun w => run_make (P := Try.prog) w 40 43 i0 (.agg #[.int .i64 0, .int .i64 0]) (by kernel_rfl) hi hz0 .i64 .i64 (n : Int) (n : Int) (by omega) (Int.le_refl _) (by rw [hz2]; omega) (by omega)
  simp only [Int.toNat_natCast, hz1, Value.cells] at hmk
  have B0 := bl_alloc w (.cells #[.int .i64 x, .int .i64 y] 43)
  have X1 := Bp.new B0 z t 43
  rw [World.size_alloc] at X1
  replace X1 := hidden (X1.keep (bl_alloc _ (.cells (madeCells #[.int .i64 0, .int .i64 0] (n * 2)) 43)))
  have X0 := hidden (((Bp.new (Below.refl _ w) x y 43).keep (bl_alloc _ (.cells #[.int .i64 z, .int .i64 t] 43))).keep (bl_alloc _ (.cells (madeCells #[.int .i64 0, .int .i64 0] (n * 2)) 43)))
  have R0 := Rp.made ((w.alloc (.cells #[.int .i64 x, .int .i64 y] 43)).alloc (.cells #[.int .i64 z, .int .i64 t] 43)) n 43
  rw [World.size_alloc, World.size_alloc] at R0
  replace R0 := hidden R0
  replace B0 := hidden (bl_trans (bl_trans B0 (bl_alloc _ (.cells #[.int .i64 z, .int .i64 t] 43))) (bl_alloc _ (.cells (madeCells #[.int .i64 0, .int .i64 0] (n * 2)) 43)))
  clear hn40 hnP hnQ hP hQ hi hz0 hz1 hz2
  go_enter Try.func22, Try.ntmps22
  go_wp2_with fail
  clear hmk
  go_loopw [22] (fun kv w' => ∃ (k : Nat) (f g : Nat → Int), k ≤ n ∧ kv = .int .i64 (k : Int) ∧ Hid (∀ j, j < k → Q57 (f j) (g j) (x * a j + z * c j) (y * b j + t * d j)) ∧ Hid (Bp w w' w.heap.size x y) ∧ Hid (Bp w w' (w.heap.size + 1) z t) ∧ Hid (Rp w' (w.heap.size + 1 + 1) n f g) ∧ Hid (Below w.heap.size w w')) (fun k _ => n - (intOf k).toNat)
  case atStart => exact ⟨0, _, _, by omega, rfl, hidden (fun j hj => absurd hj (by omega)), X0, X1, R0, B0⟩
  case round =>
    clear X0 X1 R0 B0
    obtain ⟨k, f, g, hk, rfl, hq, h0, h1, hR, hB⟩ := hrel
    by_cases hkn : k < n
    · have k0 : (0 : Int) ≤ (k : Int) := by omega
      have k1 : (k : Int) < (n : Int) := by omega
      have w9 : IntKind.i64.wrap ((k : Int) + 1) = (k : Int) + 1 := IntWalk.i64_in _ (by have := N40.out; omega)
      obtain ⟨sa, oa, hPa, hca⟩ := HP.out
      obtain rfl := hPa (by omega)
      obtain ⟨sb, ob, hQb, hcb⟩ := HQ.out
      obtain rfl := hQb (by omega)
      have HCA := hidden (hca k (by omega))
      have HCB := hidden (hcb k (by omega))
      have MU := hidden (fun w => pMulC x y (a k) (b k) w)
      have MV := hidden (fun w => pMulC z t (c k) (d k) w)
      have AD := hidden (fun (u v u' v' : Int) w => pAddC u v u' v' w)
      have m1 := mp_Mul x y
      have m2 := mp_Mul z t
      have m3 := fun u v => mp_Add u v
      clear hca hcb hPa hQb
      have KB : Hid (∀ w', Below w.heap.size w w' → Bp w w' w.heap.size x y → Bp w w' (w.heap.size + 1) z t → (fun w' => Below w.heap.size w w' ∧ w'.cell? ⟨w.heap.size, 0, none⟩ = some (.int .i64 x) ∧ w'.cell? ⟨w.heap.size, 1, none⟩ = some (.int .i64 y) ∧ w'.cell? ⟨w.heap.size + 1, 0, none⟩ = some (.int .i64 z) ∧ w'.cell? ⟨w.heap.size + 1, 1, none⟩ = some (.int .i64 t) ∧ w'.cell? ⟨sa, oa + k * 2, none⟩ = some (.int .i64 (a k)) ∧ w'.cell? ⟨sa, oa + k * 2 + 1, none⟩ = some (.int .i64 (b k)) ∧ w'.cell? ⟨sb, ob + k * 2, none⟩ = some (.int .i64 (c k)) ∧ w'.cell? ⟨sb, ob + k * 2 + 1, none⟩ = some (.int .i64 (d k))) w') := hidden (fun w' hb p q => ⟨hb, p.c, p.d, q.c, q.d, cell_keep HCA.out.1 hb, cell_keep HCA.out.2 hb, cell_keep HCB.out.1 hb, cell_keep HCB.out.2 hb⟩)
      have KSt : Hid (∀ w', Below wr.heap.size wr w' → (fun w' => Below w.heap.size w w' ∧ w'.cell? ⟨w.heap.size, 0, none⟩ = some (.int .i64 x) ∧ w'.cell? ⟨w.heap.size, 1, none⟩ = some (.int .i64 y) ∧ w'.cell? ⟨w.heap.size + 1, 0, none⟩ = some (.int .i64 z) ∧ w'.cell? ⟨w.heap.size + 1, 1, none⟩ = some (.int .i64 t) ∧ w'.cell? ⟨sa, oa + k * 2, none⟩ = some (.int .i64 (a k)) ∧ w'.cell? ⟨sa, oa + k * 2 + 1, none⟩ = some (.int .i64 (b k)) ∧ w'.cell? ⟨sb, ob + k * 2, none⟩ = some (.int .i64 (c k)) ∧ w'.cell? ⟨sb, ob + k * 2 + 1, none⟩ = some (.int .i64 (d k))) w') := hidden (fun w' hb => KB.out w' (bl_trans hB.out hb) (h0.out.keep hb) (h1.out.keep hb))
      have K0 := hidden (KSt.out _ (bl_drew wr))
      have BW := hidden (bl_drew wr)
      go_upto_region 7 with fail
      refine wp_region_noPanic ?_
      refine wp_region_held_drew (S := fun w' => Below w.heap.size w w' ∧ w'.cell? ⟨w.heap.size, 0, none⟩ = some (.int .i64 x) ∧ w'.cell? ⟨w.heap.size, 1, none⟩ = some (.int .i64 y) ∧ w'.cell? ⟨w.heap.size + 1, 0, none⟩ = some (.int .i64 z) ∧ w'.cell? ⟨w.heap.size + 1, 1, none⟩ = some (.int .i64 t) ∧ w'.cell? ⟨sa, oa + k * 2, none⟩ = some (.int .i64 (a k)) ∧ w'.cell? ⟨sa, oa + k * 2 + 1, none⟩ = some (.int .i64 (b k)) ∧ w'.cell? ⟨sb, ob + k * 2, none⟩ = some (.int .i64 (c k)) ∧ w'.cell? ⟨sb, ob + k * 2 + 1, none⟩ = some (.int .i64 (d k))) (by kernel_rfl) K0.out (fun hHeld => ?_)
      refine wpAnyH_take (i := 0) (oi := { dst := some 25, op := Op.move (Operand.tmp 10), type := 40, pos := "algebra.go:62", after := #[], guard := none }) (v := ?_) rfl (by kernel_rfl) (by kernel_rfl) (by kernel_rfl) (fun _ _ _ h => h) (Or.inl ⟨by rfl, ?_⟩) hHeld ?_
      rotate_left 1
      · (intro w0 hSw; (try dsimp only at hSw); go_simp; try with_reducible rfl)
      simp only [Act.put, List.setIfInBounds_toArray, List.set_cons_zero, List.set_cons_succ]
      refine wpAnyH_take (i := 1) (oi := { dst := some 26, op := Op.move (Operand.tmp 11), type := 3, pos := "algebra.go:62", after := #[], guard := none }) (v := ?_) rfl (by kernel_rfl) (by kernel_rfl) (by kernel_rfl) (fun _ _ _ h => h) (Or.inl ⟨by rfl, ?_⟩) hHeld ?_
      rotate_left 1
      · (intro w0 hSw; (try dsimp only at hSw); go_simp; try with_reducible rfl)
      simp only [Act.put, List.setIfInBounds_toArray, List.set_cons_zero, List.set_cons_succ]
      refine wpAnyH_take (i := 2) (oi := { dst := some 27, op := Op.load 43 (Operand.tmp 4), type := 43, pos := "algebra.go:62", after := #[], guard := none }) (v := ?_) rfl (by kernel_rfl) (by kernel_rfl) (by kernel_rfl) (fun _ _ _ h => h) (Or.inl ⟨by rfl, ?_⟩) hHeld ?_
      rotate_left 1
      · (intro w0 hSw; (try dsimp only at hSw); go_simp; try with_reducible rfl)
      simp only [Act.put, List.setIfInBounds_toArray, List.set_cons_zero, List.set_cons_succ]
      refine wpAnyH_take (i := 3) (oi := { dst := some 28, op := Op.makeInterface 43 (Operand.tmp 27), type := 20, pos := "algebra.go:62", after := #[{ on := 2, ground := Ground.data }], guard := none }) (v := ?_) rfl (by kernel_rfl) (by kernel_rfl) (by kernel_rfl) (fun _ _ _ h => h) (Or.inl ⟨by rfl, ?_⟩) hHeld ?_
      rotate_left 1
      · (intro w0 hSw; (try dsimp only at hSw); go_simp; try with_reducible rfl)
      simp only [Act.put, List.setIfInBounds_toArray, List.set_cons_zero, List.set_cons_succ]
      refine wpAnyH_take (i := 4) (oi := { dst := some 29, op := Op.move (Operand.tmp 1), type := 40, pos := "algebra.go:62", after := #[], guard := none }) (v := ?_) rfl (by kernel_rfl) (by kernel_rfl) (by kernel_rfl) (fun _ _ _ h => h) (Or.inl ⟨by rfl, ?_⟩) hHeld ?_
      rotate_left 1
      · (intro w0 hSw; (try dsimp only at hSw); go_simp; try with_reducible rfl)
      simp only [Act.put, List.setIfInBounds_toArray, List.set_cons_zero, List.set_cons_succ]
      refine wpAnyH_take (i := 5) (oi := { dst := some 30, op := Op.move (Operand.tmp 11), type := 3, pos := "algebra.go:62", after := #[], guard := none }) (v := ?_) rfl (by kernel_rfl) (by kernel_rfl) (by kernel_rfl) (fun _ _ _ h => h) (Or.inl ⟨by rfl, ?_⟩) hHeld ?_
      rotate_left 1
      · (intro w0 hSw; (try dsimp only at hSw); go_simp; try with_reducible rfl)
      simp only [Act.put, List.setIfInBounds_toArray, List.set_cons_zero, List.set_cons_succ]
      refine wpAnyH_take (i := 6) (oi := { dst := some 31, op := Op.indexAddr 40 (Operand.tmp 29) (Operand.tmp 30), type := 0, pos := "algebra.go:62", after := #[{ on := 4, ground := Ground.data }, { on := 5, ground := Ground.data }], guard := none }) (v := ?_) rfl (by kernel_rfl) (by kernel_rfl) (by kernel_rfl) (fun _ _ _ h => h) (Or.inl ⟨by rfl, ?_⟩) hHeld ?_
      rotate_left 1
      · (intro w0 hSw; (try dsimp only at hSw); go_simp; try with_reducible rfl)
      simp only [Act.put, List.setIfInBounds_toArray, List.set_cons_zero, List.set_cons_succ]
      refine wpAnyH_take (i := 7) (oi := { dst := some 32, op := Op.load 43 (Operand.tmp 31), type := 43, pos := "algebra.go:62", after := #[{ on := 6, ground := Ground.data }], guard := none }) (v := ?_) rfl (by kernel_rfl) (by kernel_rfl) (by kernel_rfl) (fun _ _ _ h => h) (Or.inl ⟨by rfl, ?_⟩) hHeld ?_
      rotate_left 1
      · (intro w0 hSw; (try dsimp only at hSw); go_simp; try with_reducible rfl)
      simp only [Act.put, List.setIfInBounds_toArray, List.set_cons_zero, List.set_cons_succ]
      refine wpAnyH_take (i := 10) (oi := { dst := some 35, op := Op.load 43 (Operand.tmp 6), type := 43, pos := "algebra.go:62", after := #[], guard := none }) (v := ?_) rfl (by kernel_rfl) (by kernel_rfl) (by kernel_rfl) (fun _ _ _ h => h) (Or.inl ⟨by rfl, ?_⟩) hHeld ?_
      rotate_left 1
      · (intro w0 hSw; (try dsimp only at hSw); go_simp; try with_reducible rfl)
      simp only [Act.put, List.setIfInBounds_toArray, List.set_cons_zero, List.set_cons_succ]
      refine wpAnyH_take (i := 11) (oi := { dst := some 36, op := Op.makeInterface 43 (Operand.tmp 35), type := 20, pos := "algebra.go:62", after := #[{ on := 10, ground := Ground.data }], guard := none }) (v := ?_) rfl (by kernel_rfl) (by kernel_rfl) (by kernel_rfl) (fun _ _ _ h => h) (Or.inl ⟨by rfl, ?_⟩) hHeld ?_
      rotate_left 1
      · (intro w0 hSw; (try dsimp only at hSw); go_simp; try with_reducible rfl)
      simp only [Act.put, List.setIfInBounds_toArray, List.set_cons_zero, List.set_cons_succ]
      refine wpAnyH_take (i := 12) (oi := { dst := some 37, op := Op.move (Operand.tmp 3), type := 40, pos := "algebra.go:62", after := #[], guard := none }) (v := ?_) rfl (by kernel_rfl) (by kernel_rfl) (by kernel_rfl) (fun _ _ _ h => h) (Or.inl ⟨by rfl, ?_⟩) hHeld ?_
      rotate_left 1
      · (intro w0 hSw; (try dsimp only at hSw); go_simp; try with_reducible rfl)
      simp only [Act.put, List.setIfInBounds_toArray, List.set_cons_zero, List.set_cons_succ]
      refine wpAnyH_take (i := 13) (oi := { dst := some 38, op := Op.move (Operand.tmp 11), type := 3, pos := "algebra.go:62", after := #[], guard := none }) (v := ?_) rfl (by kernel_rfl) (by kernel_rfl) (by kernel_rfl) (fun _ _ _ h => h) (Or.inl ⟨by rfl, ?_⟩) hHeld ?_
      rotate_left 1
      · (intro w0 hSw; (try dsimp only at hSw); go_simp; try with_reducible rfl)
      simp only [Act.put, List.setIfInBounds_toArray, List.set_cons_zero, List.set_cons_succ]
      refine wpAnyH_take (i := 14) (oi := { dst := some 39, op := Op.indexAddr 40 (Operand.tmp 37) (Operand.tmp 38), type := 0, pos := "algebra.go:62", after := #[{ on := 12, ground := Ground.data }, { on := 13, ground := Ground.data }], guard := none }) (v := ?_) rfl (by kernel_rfl) (by kernel_rfl) (by kernel_rfl) (fun _ _ _ h => h) (Or.inl ⟨by rfl, ?_⟩) hHeld ?_
      rotate_left 1
      · (intro w0 hSw; (try dsimp only at hSw); go_simp; try with_reducible rfl)
      simp only [Act.put, List.setIfInBounds_toArray, List.set_cons_zero, List.set_cons_succ]
      refine wpAnyH_take (i := 15) (oi := { dst := some 40, op := Op.load 43 (Operand.tmp 39), type := 43, pos := "algebra.go:62", after := #[{ on := 14, ground := Ground.data }], guard := none }) (v := ?_) rfl (by kernel_rfl) (by kernel_rfl) (by kernel_rfl) (fun _ _ _ h => h) (Or.inl ⟨by rfl, ?_⟩) hHeld ?_
      rotate_left 1
      · (intro w0 hSw; (try dsimp only at hSw); go_simp; try with_reducible rfl)
      simp only [Act.put, List.setIfInBounds_toArray, List.set_cons_zero, List.set_cons_succ]
      refine wpAnyH_ready (rs := [8]) (by kernel_rfl) (by simp) ?_
      refine AllReadyH.cons (o := { dst := some 33, op := Op.call { callee := Callee.invoke (Operand.tmp 28) "Mul", args := #[Operand.tmp 32], argTypes := #[43] }, type := 43, pos := "algebra.go:62", after := #[{ on := 3, ground := Ground.data }, { on := 7, ground := Ground.data }], guard := none }) rfl (fun K hK => ?_) AllReadyH.nil
      go_simp
      refine (MU.out _).mono ?_
      rintro e wn ⟨p, q, rfl, hpq, hb⟩
      have HPQ := hidden hpq
      clear hpq
      have BW := hidden (bl_trans BW.out hb)
      have hk := hidden (KSt.out _ BW.out)
      go_wp2_with fail
      refine hK.out _ _ hk.out (fun hHeld2 => ?_)
      clear hK K hHeld hb hk
      have hHeld := hHeld2
      clear hHeld2
      refine wpAnyH_take (i := 9) (oi := { dst := some 34, op := Op.makeInterface 43 (Operand.tmp 33), type := 20, pos := "algebra.go:62", after := #[{ on := 8, ground := Ground.data }], guard := none }) (v := ?_) rfl (by kernel_rfl) (by kernel_rfl) (by kernel_rfl) (fun _ _ _ h => h) (Or.inl ⟨by rfl, ?_⟩) hHeld ?_
      rotate_left 1
      · (intro w0 hSw; (try dsimp only at hSw); go_simp; try with_reducible rfl)
      simp only [Act.put, List.setIfInBounds_toArray, List.set_cons_zero, List.set_cons_succ]
      refine wpAnyH_ready (rs := [16]) (by kernel_rfl) (by simp) ?_
      refine AllReadyH.cons (o := { dst := some 41, op := Op.call { callee := Callee.invoke (Operand.tmp 36) "Mul", args := #[Operand.tmp 40], argTypes := #[43] }, type := 43, pos := "algebra.go:62", after := #[{ on := 11, ground := Ground.data }, { on := 15, ground := Ground.data }, { on := 8, ground := Ground.chain }], guard := none }) rfl (fun K hK => ?_) AllReadyH.nil
      go_simp
      refine (MV.out _).mono ?_
      rintro e wn ⟨r, o, rfl, hro, hb⟩
      have HRO := hidden hro
      clear hro
      have BW := hidden (bl_trans BW.out hb)
      have hk := hidden (KSt.out _ BW.out)
      go_wp2_with fail
      refine hK.out _ _ hk.out (fun hHeld2 => ?_)
      clear hK K hHeld hb hk
      have hHeld := hHeld2
      clear hHeld2
      refine wpAnyH_ready (rs := [17]) (by kernel_rfl) (by simp) ?_
      refine AllReadyH.cons (o := { dst := some 42, op := Op.call { callee := Callee.invoke (Operand.tmp 34) "Add", args := #[Operand.tmp 41], argTypes := #[43] }, type := 43, pos := "algebra.go:62", after := #[{ on := 9, ground := Ground.data }, { on := 16, ground := Ground.data }, { on := 16, ground := Ground.chain }], guard := none }) rfl (fun K hK => ?_) AllReadyH.nil
      go_simp
      refine (AD.out _ _ _ _ _).mono ?_
      rintro e wn ⟨u, v, rfl, huv, hb⟩
      have HUV := hidden huv
      clear huv
      have BW := hidden (bl_trans BW.out hb)
      have hk := hidden (KSt.out _ BW.out)
      go_wp2_with fail
      refine hK.out _ _ hk.out (fun hHeld2 => ?_)
      clear hK K hHeld hb hk
      have hHeld := hHeld2
      clear hHeld2
      refine wpAnyH_take (i := 18) (oi := { dst := some 43, op := Op.indexAddr 40 (Operand.tmp 25) (Operand.tmp 26), type := 0, pos := "algebra.go:62", after := #[{ on := 0, ground := Ground.data }, { on := 1, ground := Ground.data }, { on := 0, ground := Ground.phase }, { on := 1, ground := Ground.phase }, { on := 2, ground := Ground.phase }, { on := 3, ground := Ground.phase }, { on := 4, ground := Ground.phase }, { on := 5, ground := Ground.phase }, { on := 6, ground := Ground.phase }, { on := 7, ground := Ground.phase }, { on := 8, ground := Ground.phase }, { on := 9, ground := Ground.phase }, { on := 10, ground := Ground.phase }, { on := 11, ground := Ground.phase }, { on := 12, ground := Ground.phase }, { on := 13, ground := Ground.phase }, { on := 14, ground := Ground.phase }, { on := 15, ground := Ground.phase }, { on := 16, ground := Ground.phase }, { on := 17, ground := Ground.phase }], guard := none }) (v := ?_) rfl (by kernel_rfl) (by kernel_rfl) (by kernel_rfl) (fun _ _ _ h => h) (Or.inl ⟨by rfl, ?_⟩) hHeld ?_
      rotate_left 1
      · (intro w0 hSw; (try dsimp only at hSw); go_simp; try with_reducible rfl)
      simp only [Act.put, List.setIfInBounds_toArray, List.set_cons_zero, List.set_cons_succ]
      have NQ : Hid (∀ j, j < k + 1 → Q57 (if j = k then u else f j) (if j = k then v else g j) (x * a j + z * c j) (y * b j + t * d j)) := hidden (fun j hj => by
        by_cases e : j = k
        · subst e; rw [if_pos rfl, if_pos rfl]; exact HUV.out.trans (HPQ.out.add HRO.out)
        · rw [if_neg e, if_neg e]; exact hq.out j (by omega))
      have KR := hR.out.keep BW.out
      have c7 := KR.c k hkn
      have d7 := KR.d k hkn
      have f7 := KR.f k hkn
      have g7 := KR.g k hkn
      have Y0 := hidden ((h0.out.keep BW.out).far (d := w.heap.size + 1 + 1) (o := k * 2) (u := u) (v := v) (by omega))
      have Y1 := hidden ((h1.out.keep BW.out).far (d := w.heap.size + 1 + 1) (o := k * 2) (u := u) (v := v) (by omega))
      have YR := hidden (KR.set k hkn u v)
      have YB := hidden (setp_bel (o := k * 2) (x := u) (y := v) (bl_trans hB.out BW.out) (show w.heap.size ≤ w.heap.size + 1 + 1 by omega))
      have YS := hidden (KB.out _ YB.out Y0.out Y1.out)
      unfold setp at Y0 Y1 YR YB YS
      clear KR
      refine wpAnyH_ready (rs := [19]) (by kernel_rfl) (by simp) ?_
      refine AllReadyH.cons (o := { dst := none, op := Op.store 43 (Operand.tmp 43) (Operand.tmp 42), type := 0, pos := "algebra.go:62", after := #[{ on := 18, ground := Ground.data }, { on := 17, ground := Ground.data }, { on := 17, ground := Ground.chain }, { on := 0, ground := Ground.phase }, { on := 1, ground := Ground.phase }, { on := 2, ground := Ground.phase }, { on := 3, ground := Ground.phase }, { on := 4, ground := Ground.phase }, { on := 5, ground := Ground.phase }, { on := 6, ground := Ground.phase }, { on := 7, ground := Ground.phase }, { on := 8, ground := Ground.phase }, { on := 9, ground := Ground.phase }, { on := 10, ground := Ground.phase }, { on := 11, ground := Ground.phase }, { on := 12, ground := Ground.phase }, { on := 13, ground := Ground.phase }, { on := 14, ground := Ground.phase }, { on := 15, ground := Ground.phase }, { on := 16, ground := Ground.phase }, { on := 17, ground := Ground.phase }], guard := none }) rfl (fun K hK => ?_) AllReadyH.nil
      go_simp
      refine hK.out _ _ YS.out (fun hHeld2 => ?_)
      clear hK K hHeld hHeld2
      refine wpAnyH_done (by kernel_rfl) ?_ _
      refine NoPanic.normal ?_
      clear c7 d7 f7 g7 m1 m2 m3 hB hq h0 h1 hR K0 KSt KB YS
      go_wp2_with fail
      go_roundw
      case rel => exact ⟨k + 1, _, _, by omega, by go_num, NQ, Y0, Y1, YR, YB⟩
      case measure => simp [intOf]; omega
    · obtain rfl : k = n := by omega
      clear hkn
      go_wp2_with fail
      refine bodyPost_ret (v := .tuple #[.slice (some ⟨w.heap.size + 1 + 1, 0, none⟩) k k, .int .i64 0]) (by simp [results, Try.results22, go_sem]) rfl ⟨some ⟨w.heap.size + 1 + 1, 0, none⟩, k, f, g, rfl, Nat.le_refl _, hR.out.ip, hq.out, hB.out⟩
end Go.Proofs.Ythhcdjndfepbaaa
