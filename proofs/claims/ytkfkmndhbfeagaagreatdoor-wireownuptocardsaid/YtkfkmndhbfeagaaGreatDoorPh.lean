import Derived.Test.YtkfkmndhbfeagaaGreatDoorPg
namespace Go.Proofs.YtkfkmndhbfeagaaGreatDoor
open Go.RowKit
set_option linter.unusedVariables false
set_option maxRecDepth 100000 in
set_option maxHeartbeats 8000000 in
theorem nextL {w : World} {g q : Nat} {bs : List UInt8} {e : Int} (hT : Tb w) (h : Rb w g q bs e) (h32 : e = 0 → 32 ≤ bs.length) (hq : q < w.heap.size) :
    Calls Tryz.prog 30 #[.pointer (some ⟨g, 0, none⟩)] w fun r w' => r = .returned (nd bs e).v ∧ Rb w' g q (nb bs e) (ne bs e) ∧ Tr.Kp g w w' := by
  have M0 := ((Mw.start w).new [.int .u64 0, .int .u64 0, .int .u64 0, .int .u64 0] 52).new [.int .u64 0, .int .u64 0, .int .u64 0, .int .u64 0] 52
  simp only [World.size_alloc] at M0
  have R := hidden (decodedL (hT.keep M0.bel) (h.keep M0.bel) h32 (Nat.lt_of_lt_of_le hq M0.bel.size))
  have hmf : ∀ (fn : Fn) (first cap : Array Value) (w : World), (Instr.makeFunc fn first cap).run Tryz.prog w = .ok (.func fn first cap) w := fun _ _ _ _ => rfl
  have GL := hidden h.glt
  have HQ := hidden hq
  have MM := hidden M0
  generalize hz : nd bs e = z at R ⊢
  generalize nb bs e = bs' at R ⊢
  generalize ne bs e = e' at R ⊢
  clear hz h h32 hT M0 hq
  unfold E4.v at R ⊢
  have GO : Hid (∀ wr, Rb wr g q bs' e' → Tr.Kp g (((w.alloc (.cells #[.int .u64 0, .int .u64 0, .int .u64 0, .int .u64 0] 52)).alloc (.cells #[.int .u64 0, .int .u64 0, .int .u64 0, .int .u64 0] 52))) wr → wr.there w.heap.size 0 ([.int .u64 z.x0, .int .u64 z.x1, .int .u64 z.x2, .int .u64 z.x3] : List Value).toArray.size ∧ (wr.setCells w.heap.size 0 [.int .u64 z.x0, .int .u64 z.x1, .int .u64 z.x2, .int .u64 z.x3]).rangeAt w.heap.size 0 [.int .u64 z.x0, .int .u64 z.x1, .int .u64 z.x2, .int .u64 z.x3] ∧ Rb (wr.setCells w.heap.size 0 [.int .u64 z.x0, .int .u64 z.x1, .int .u64 z.x2, .int .u64 z.x3]) g q bs' e' ∧ Tr.Kp g w (wr.setCells w.heap.size 0 [.int .u64 z.x0, .int .u64 z.x1, .int .u64 z.x2, .int .u64 z.x3])) := hidden (fun wr hr hk => by
    have := GL.out
    have := HQ.out
    have t0 := (MM.out.r (w.heap.size, [.int .u64 0, .int .u64 0, .int .u64 0, .int .u64 0]) (by simp)).2.1
    have t1 := there_kp t0 hk (by simp only; omega)
    have KT := kp_setCells w.heap.size [.int .u64 z.x0, .int .u64 z.x1, .int .u64 z.x2, .int .u64 z.x3] 0 wr
    exact ⟨t1, World.rangeAt_setCells_same _ w.heap.size 0 _ t1, hr.kp KT (by omega) (by omega), kp_new ((Tr.Kp.of MM.out.bel).trans hk) KT (by omega)⟩)
  have I4 := hidden (i4aL z)
  have O4 := hidden (c4_one z)
  have I5 := hidden (i4L z)
  have UT : Hid (Tryz.prog.underlying 52 = _) := hidden Tryz.underlying52
  clear MM
  go_enter Tryz.func30, Tryz.ntmps30
  go_wp2_with (first | (go_at_call 45; refine R.out.mono ?_; rintro r wr ⟨rfl, hr, hk⟩; have HA := hidden (GO.out wr hr hk); have LD := hidden (run_loadVar_mid _ w.heap.size 0 52 [.int .u64 z.x0, .int .u64 z.x1, .int .u64 z.x2, .int .u64 z.x3] _ HA.out.2.1 UT.out rfl I5.out); clear R GO hr hk) | refine wpList_storeL rfl 52 _ _ rfl rfl w.heap.size 0 [.int .u64 z.x0, .int .u64 z.x1, .int .u64 z.x2, .int .u64 z.x3] (by rfl) (by rfl) HA.out.1 I4.out O4.out ?_)
  refine bodyPost_ret (v := .agg [.int .u64 z.x0, .int .u64 z.x1, .int .u64 z.x2, .int .u64 z.x3].toArray) (results_cellM Tryz.results30 _ _ _ _ _ (by rfl) LD.out) rfl ⟨rfl, HA.out.2.2.1, HA.out.2.2.2⟩
set_option maxRecDepth 100000 in
set_option maxHeartbeats 8000000 in
theorem nextS {w : World} {g q : Nat} {bs : List UInt8} {e : Int} (hT : Tb w) (h : Rb w g q bs e) (h32 : e = 0 → 32 ≤ bs.length) (hq : q < w.heap.size) :
    Calls Tryz.prog 31 #[.pointer (some ⟨g, 0, none⟩)] w fun r w' => r = .returned (nd bs e).v ∧ Rb w' g q (nb bs e) (ne bs e) ∧ Tr.Kp g w w' := by
  have M0 := (Mw.start w).new [.int .u64 0, .int .u64 0, .int .u64 0, .int .u64 0] 24
  skip
  have R := hidden (decodedS (hT.keep M0.bel) (h.keep M0.bel) h32 (Nat.lt_of_lt_of_le hq M0.bel.size))
  have hmf : ∀ (fn : Fn) (first cap : Array Value) (w : World), (Instr.makeFunc fn first cap).run Tryz.prog w = .ok (.func fn first cap) w := fun _ _ _ _ => rfl
  have GL := hidden h.glt
  have HQ := hidden hq
  have MM := hidden M0
  generalize hz : nd bs e = z at R ⊢
  generalize nb bs e = bs' at R ⊢
  generalize ne bs e = e' at R ⊢
  clear hz h h32 hT M0 hq
  unfold E4.v at R ⊢
  have GO : Hid (∀ wr, Rb wr g q bs' e' → Tr.Kp g ((w.alloc (.cells #[.int .u64 0, .int .u64 0, .int .u64 0, .int .u64 0] 24))) wr → wr.there w.heap.size 0 ([.int .u64 z.x0, .int .u64 z.x1, .int .u64 z.x2, .int .u64 z.x3] : List Value).toArray.size ∧ (wr.setCells w.heap.size 0 [.int .u64 z.x0, .int .u64 z.x1, .int .u64 z.x2, .int .u64 z.x3]).rangeAt w.heap.size 0 [.int .u64 z.x0, .int .u64 z.x1, .int .u64 z.x2, .int .u64 z.x3] ∧ Rb (wr.setCells w.heap.size 0 [.int .u64 z.x0, .int .u64 z.x1, .int .u64 z.x2, .int .u64 z.x3]) g q bs' e' ∧ Tr.Kp g w (wr.setCells w.heap.size 0 [.int .u64 z.x0, .int .u64 z.x1, .int .u64 z.x2, .int .u64 z.x3])) := hidden (fun wr hr hk => by
    have := GL.out
    have := HQ.out
    have t0 := (MM.out.r (w.heap.size, [.int .u64 0, .int .u64 0, .int .u64 0, .int .u64 0]) (by simp)).2.1
    have t1 := there_kp t0 hk (by simp only; omega)
    have KT := kp_setCells w.heap.size [.int .u64 z.x0, .int .u64 z.x1, .int .u64 z.x2, .int .u64 z.x3] 0 wr
    exact ⟨t1, World.rangeAt_setCells_same _ w.heap.size 0 _ t1, hr.kp KT (by omega) (by omega), kp_new ((Tr.Kp.of MM.out.bel).trans hk) KT (by omega)⟩)
  have I4 := hidden (i4aS z)
  have O4 := hidden (c4_one z)
  have I5 := hidden (i4S z)
  have UT : Hid (Tryz.prog.underlying 24 = _) := hidden Tryz.underlying24
  clear MM
  go_enter Tryz.func31, Tryz.ntmps31
  go_wp2_with (first | (go_at_call 46; refine R.out.mono ?_; rintro r wr ⟨rfl, hr, hk⟩; have HA := hidden (GO.out wr hr hk); have LD := hidden (run_loadVar_mid _ w.heap.size 0 24 [.int .u64 z.x0, .int .u64 z.x1, .int .u64 z.x2, .int .u64 z.x3] _ HA.out.2.1 UT.out rfl I5.out); clear R GO hr hk) | refine wpList_storeL rfl 24 _ _ rfl rfl w.heap.size 0 [.int .u64 z.x0, .int .u64 z.x1, .int .u64 z.x2, .int .u64 z.x3] (by rfl) (by rfl) HA.out.1 I4.out O4.out ?_)
  refine bodyPost_ret (v := .agg [.int .u64 z.x0, .int .u64 z.x1, .int .u64 z.x2, .int .u64 z.x3].toArray) (results_cellM Tryz.results31 _ _ _ _ _ (by rfl) LD.out) rfl ⟨rfl, HA.out.2.2.1, HA.out.2.2.2⟩
set_option maxRecDepth 100000 in
set_option maxHeartbeats 8000000 in
theorem roundsOf_any (n : Nat) (w : World) (hn : n ≤ 2 ^ 62) :
    Calls Tryz.prog 29 #[.int .i64 (n : Int)] w fun e w' => ((∃ k : Nat, k ≤ 10 ∧ n = 32 * (9 + 2 * k) ∧ e = .returned (.tuple #[.int .i64 (k : Int), .bool true])) ∨ ((∀ k : Nat, k ≤ 10 → n ≠ 32 * (9 + 2 * k)) ∧ e = .returned (.tuple #[.int .i64 0, .bool false]))) ∧ w' = w := by
  have LN := hidden (fun k x (hk : k ≤ 10) => length_any k x (by omega))
  have SW : Hid (∀ k : Nat, k < 0 → n ≠ 32 * (9 + 2 * k)) := hidden (by omega)
  clear hn
  go_enter Tryz.func29, Tryz.ntmps29
  go_upto_region 2 with fail
  go_loopw [5] (fun kv w' => ∃ k : Nat, k ≤ 11 ∧ kv = .int .i64 (k : Int) ∧ Hid (∀ j : Nat, j < k → n ≠ 32 * (9 + 2 * j)) ∧ Hid (w' = w)) (fun k _ => 11 - (intOf k).toNat)
  case atStart => exact ⟨0, by omega, rfl, SW, hidden rfl⟩
  case round =>
    clear SW
    obtain ⟨k, hk, rfl, HN, HW⟩ := hrel
    obtain rfl := HW.out
    clear HW
    by_cases hkn : k < 11
    · have k1 : (k : Int) < 11 := by omega
      have w9 : IntKind.i64.wrap ((k : Int) + 1) = (k : Int) + 1 := IntWalk.i64_in _ (by omega)
      have CL := hidden (LN.out k wr (by omega))
      by_cases hl : n = 32 * (9 + 2 * k)
      · have hl2 : Hid (((32 * (9 + 2 * k) : Nat) : Int) = (n : Int)) := hidden (by omega)
        rw [hl2.out] at CL
        have HL := hidden hl
        clear hl hl2 w9
        go_wp2_with (first | (go_at_call 25; refine (CL.out).mono ?_; rintro e wq ⟨rfl, rfl⟩; clear CL))
        refine bodyPost_ret (v := .tuple #[.int .i64 (k : Int), .bool true]) (by simp [results, Tryz.results29, go_sem]) rfl ⟨.inl ⟨k, by omega, HL.out, rfl⟩, rfl⟩
      · obtain ⟨m, hm⟩ : ∃ m, 32 * (9 + 2 * k) = m := ⟨_, rfl⟩
        rw [hm] at CL
        have nq : ¬ (m : Int) = (n : Int) := by omega
        have HL : Hid (∀ j : Nat, j < k + 1 → n ≠ 32 * (9 + 2 * j)) := hidden (fun j hj => by
          by_cases e : j = k
          · subst e; exact hl
          · exact HN.out j (by omega))
        clear hl hm
        go_wp2_with (first | (go_at_call 25; refine (CL.out).mono ?_; rintro e wq ⟨rfl, rfl⟩; clear CL))
        go_roundw
        case rel => exact ⟨k + 1, by omega, by go_num, HL, by first | exact hidden rfl | exact hidden trivial⟩
        case measure => simp [intOf]; omega
    · have lq : ¬ (k : Int) < 11 := by omega
      have HL : Hid (∀ j : Nat, j ≤ 10 → n ≠ 32 * (9 + 2 * j)) := hidden (fun j hj => HN.out j (by omega))
      go_wp2_with fail
      refine bodyPost_ret (v := .tuple #[.int .i64 0, .bool false]) (by simp [results, Tryz.results29, go_sem]) rfl ⟨.inr ⟨HL.out, rfl⟩, rfl⟩
end Go.Proofs.YtkfkmndhbfeagaaGreatDoor
