import Derived.Test.YtcenphihmggfkaaDoorSih
namespace Go.Proofs.YtcenphihmggfkaaDoor
open Go.RowKit
theorem eq4L (a b : E4) (w : World) : (Op.equalIn 10000 43 a.v b.v).run Tryd.prog w = .ok (a.same b) w := by
  have hi : Tryd.prog.info? 31 = some (Tryd.prog.info? 31).get! := by kernel_rfl
  have hc : Tryd.prog.cellsOf 31 = 1 := by kernel_rfl
  unfold E4.v
  rw [run_equalIn_array w 9999 _ _ (by kernel_rfl : Tryd.prog.underlying 43 = some (.array 4 31)) hi, hc]
  rw [eqItems_ints w (k := .u64) 9998 (by kernel_rfl) (by kernel_rfl) _ _ (fun i => [a.x0, a.x1, a.x2, a.x3].getD i 0) (fun i => [b.x0, b.x1, b.x2, b.x3].getD i 0)]
  · rw [show List.range 4 = [0, 1, 2, 3] from rfl]
    simp only [List.all_cons, List.all_nil, Bool.and_true]
    rfl
  · intro i hi
    have : i < 4 := List.mem_range.1 hi
    match i, this with
    | 0, _ => exact ⟨rfl, rfl⟩
    | 1, _ => exact ⟨rfl, rfl⟩
    | 2, _ => exact ⟨rfl, rfl⟩
    | 3, _ => exact ⟨rfl, rfl⟩
set_option maxRecDepth 100000 in
set_option maxHeartbeats 16000000 in
theorem stays_any (b c : Nat) (P : Option Addr) (L cap : Nat) (g : Nat → E4) (w : World) (hL : L ≤ 4398046510976) (hR : Rws w b (L + 2) (g77 g L)) (hS : Lm w P L g) :
    Calls Tryd.prog 12 #[.slice (some ⟨b, 0, none⟩) (L + 2) c, .slice P L cap] w fun e w' => e = .returned (.bool true) ∧ Below w.heap.size w w' := by
  have HS := hidden hS
  have HR := hidden hR
  have HL := hidden hL
  have nn0 : (0 : Int) ≤ (L : Int) := by omega
  clear hS hL hR
  go_enter Tryd.func12, Tryd.ntmps12
  go_wp2_with fail
  go_loopw [5] (fun iv w' => ∃ i : Nat, i ≤ L ∧ iv = .int .i64 i ∧ Hid (Below w.heap.size w w')) (fun i _ => L - (intOf i).toNat)
  case atStart => exact ⟨0, by omega, rfl, hidden (Below.refl _ _)⟩
  case round =>
    obtain ⟨i, hi, rfl, hbl⟩ := hrel
    by_cases hin : i < L
    · obtain ⟨sb, so, h1, h2⟩ := HS.out
      obtain rfl := h1 (by omega)
      have bd := bl_trans hbl.out (drew_blS wr)
      have rx := (h2 (by omega)).keep bd
      have ry := HR.out.keep bd
      have ii0 : (0 : Int) ≤ (i : Int) := by omega
      have ii1 : (i : Int) < (L : Int) := by omega
      have ii2 : (i : Int) < ((L + 2 : Nat) : Int) := by omega
      have w9 : IntKind.i64.wrap ((i : Int) + 1) = (i : Int) + 1 := IntWalk.i64_in _ (by have := HL.out; omega)
      have x0 := rx.c0 i hin
      have x1 := rx.c1 i hin
      have x2 := rx.c2 i hin
      have x3 := rx.c3 i hin
      have y0 := ry.c0 i (by omega)
      have y1 := ry.c1 i (by omega)
      have y2 := ry.c2 i (by omega)
      have y3 := ry.c3 i (by omega)
      rw [show g77 g L i = g i from if_pos hin] at y0 y1 y2 y3
      have BD := hidden bd
      generalize g i = z at x0 x1 x2 x3 y0 y1 y2 y3
      have hq : ∀ w, (Op.equalIn 10000 43 (.agg #[.int .u64 z.x0, .int .u64 z.x1, .int .u64 z.x2, .int .u64 z.x3]) (.agg #[.int .u64 z.x0, .int .u64 z.x1, .int .u64 z.x2, .int .u64 z.x3])).run Tryd.prog w = .ok true w := fun w => (eq4L z z w).trans (by rw [E4.same_self])
      clear rx ry h1 h2 hbl bd
      go_upto_region 4 with fail
      go_cut [20] (fun v wx => v = .bool false ∧ Below w.heap.size w wx)
      case first =>
        go_region_with fail
        all_goals
          clear x0 x1 x2 x3 y0 y1 y2 y3
          go_wp2_with fail
          go_meet
          exact ⟨rfl, BD.out⟩
      case rest =>
      obtain ⟨rfl, hb3⟩ := hcut
      have B3 := hidden hb3
      clear hb3 x0 x1 x2 x3 y0 y1 y2 y3 BD
      go_wp2_with fail
      go_roundw
      case rel => exact ⟨i + 1, by omega, by go_num, B3⟩
      case measure => simp [intOf]; omega
    · have hii : L = i := by omega
      subst hii
      have lq : ¬ (L : Int) < (L : Int) := by omega
      have ry := HR.out.keep hbl.out
      have y0 := ry.c0 L (by omega)
      have y1 := ry.c1 L (by omega)
      have y2 := ry.c2 L (by omega)
      have y3 := ry.c3 L (by omega)
      rw [show g77 g L L = ⟨77, 0, 0, 0⟩ by unfold g77; rw [if_neg (by omega), if_pos rfl]] at y0 y1 y2 y3
      have x0 := ry.c0 (L + 1) (by omega)
      have x1 := ry.c1 (L + 1) (by omega)
      have x2 := ry.c2 (L + 1) (by omega)
      have x3 := ry.c3 (L + 1) (by omega)
      rw [show g77 g L (L + 1) = ⟨78, 0, 0, 0⟩ by unfold g77; rw [if_neg (by omega), if_neg (by omega)]] at x0 x1 x2 x3
      have e1 : IntKind.i64.wrap ((L : Int) + 1) = (L : Int) + 1 := IntWalk.i64_in _ (by have := HL.out; omega)
      have e3 : (L : Int) < (L : Int) + 2 := by omega
      have e4 : (L : Int) + 1 < (L : Int) + 2 := by omega
      have e6 : ((L : Int) + 1).toNat = L + 1 := by omega
      have e8 : (0 : Int) ≤ (L : Int) + 1 := by omega
      have e10 : ((L + 2 : Nat) : Int) = (L : Int) + 2 := by omega
      have q7 : ∀ w, (Op.equalIn 10000 33 (.agg #[.int .u64 77, .int .u64 0, .int .u64 0, .int .u64 0]) (.agg #[.int .u64 77, .int .u64 0, .int .u64 0, .int .u64 0])).run Tryd.prog w = .ok true w := fun w => (eq4 ⟨77, 0, 0, 0⟩ ⟨77, 0, 0, 0⟩ w).trans (by rw [E4.same_self])
      have q8 : ∀ w, (Op.equalIn 10000 33 (.agg #[.int .u64 78, .int .u64 0, .int .u64 0, .int .u64 0]) (.agg #[.int .u64 78, .int .u64 0, .int .u64 0, .int .u64 0])).run Tryd.prog w = .ok true w := fun w => (eq4 ⟨78, 0, 0, 0⟩ ⟨78, 0, 0, 0⟩ w).trans (by rw [E4.same_self])
      clear ry
      go_wp2_with fail
      refine bodyPost_ret (v := .bool true) (by simp [results, Tryd.results12, go_sem]) rfl ⟨rfl, hbl.out⟩
set_option maxRecDepth 100000 in
set_option maxHeartbeats 16000000 in
theorem inverses_any (b c : Nat) (P : Option Addr) (n cap : Nat) (g : Nat → E4) (w : World) (hn : n ≤ 4398046510976) (hg : ∀ k, k < n → (g k).ok) (hR : Rws w b n (fun k => iv (g k).n)) (hS : Lm w P n g) :
    Calls Tryd.prog 11 #[.slice (some ⟨b, 0, none⟩) n c, .slice P n cap] w fun e w' => e = .returned (.bool true) ∧ Below w.heap.size w w' := by
  have HS := hidden hS
  have HR := hidden hR
  have HN := hidden hn
  have HG := hidden hg
  have nn0 : (0 : Int) ≤ (n : Int) := by omega
  clear hS hn hR hg
  go_enter Tryd.func11, Tryd.ntmps11
  go_wp2_with fail
  go_loopw [5] (fun iv w' => ∃ i : Nat, i ≤ n ∧ iv = .int .i64 i ∧ Hid (Below w.heap.size w w')) (fun i _ => n - (intOf i).toNat)
  case atStart => exact ⟨0, by omega, rfl, hidden (Below.refl _ _)⟩
  case round =>
    obtain ⟨i, hi, rfl, hbl⟩ := hrel
    by_cases hin : i < n
    · obtain ⟨sb, so, h1, h2⟩ := HS.out
      obtain rfl := h1 (by omega)
      have rl := h2 (by omega)
      have zok := HG.out i hin
      obtain ⟨z, hz⟩ : ∃ z, g i = z := ⟨_, rfl⟩
      rw [hz] at zok
      obtain ⟨q, hq⟩ : ∃ q, lst z.n = q := ⟨_, rfl⟩
      obtain ⟨u, hu⟩ : ∃ u, iv z.n = u := ⟨_, rfl⟩
      have OF : Hid (∀ w, Calls Tryd.prog 19 #[z.v] w fun e w' => e = .returned q.v ∧ Below w.heap.size w w') := hidden (fun w => by rw [← hq]; exact of_any z w zok)
      have IV : Hid (∀ w, Calls Tryd.prog 20 #[q.v] w fun e w' => e = .returned u.v ∧ Below w.heap.size w w') := hidden (fun w => by rw [← hq, ← hu]; exact rInvert_any z.n w)
      have IS := hidden (fun w => is_any u w)
      simp only [E4.v] at OF IV IS
      have ii0 : (0 : Int) ≤ (i : Int) := by omega
      have ii1 : (i : Int) < (n : Int) := by omega
      have w9 : IntKind.i64.wrap ((i : Int) + 1) = (i : Int) + 1 := IntWalk.i64_in _ (by have := HN.out; omega)
      have KS : Hid (∀ w', Below w.heap.size w w' → (fun w' => Below w.heap.size w w' ∧ w'.cell? ⟨b, i * 4, none⟩ = some (.int .u64 u.x0) ∧ w'.cell? ⟨b, i * 4 + 1, none⟩ = some (.int .u64 u.x1) ∧ w'.cell? ⟨b, i * 4 + 2, none⟩ = some (.int .u64 u.x2) ∧ w'.cell? ⟨b, i * 4 + 3, none⟩ = some (.int .u64 u.x3) ∧ w'.cell? ⟨sb, so + i * 4, none⟩ = some (.int .u64 z.x0) ∧ w'.cell? ⟨sb, so + i * 4 + 1, none⟩ = some (.int .u64 z.x1) ∧ w'.cell? ⟨sb, so + i * 4 + 2, none⟩ = some (.int .u64 z.x2) ∧ w'.cell? ⟨sb, so + i * 4 + 3, none⟩ = some (.int .u64 z.x3)) w') := hidden (fun w' h => by
        have r1 := HR.out.keep h
        have r2 := rl.keep h
        have y0 := r1.c0 i hin
        have y1 := r1.c1 i hin
        have y2 := r1.c2 i hin
        have y3 := r1.c3 i hin
        have x0 := r2.c0 i hin
        have x1 := r2.c1 i hin
        have x2 := r2.c2 i hin
        have x3 := r2.c3 i hin
        simp only [hz, hu] at y0 y1 y2 y3 x0 x1 x2 x3
        exact ⟨h, y0, y1, y2, y3, x0, x1, x2, x3⟩)
      have K0 := hidden (KS.out _ (bl_trans hbl.out (drew_blS wr)))
      clear hz hq hu zok rl h1 h2 hbl
      go_upto_region 6 with fail
      go_cut [28] (fun v wx => v = .bool false ∧ Below w.heap.size w wx)
      case first =>
        go_region_held3 (fun w' => Below w.heap.size w w' ∧ w'.cell? ⟨b, i * 4, none⟩ = some (.int .u64 u.x0) ∧ w'.cell? ⟨b, i * 4 + 1, none⟩ = some (.int .u64 u.x1) ∧ w'.cell? ⟨b, i * 4 + 2, none⟩ = some (.int .u64 u.x2) ∧ w'.cell? ⟨b, i * 4 + 3, none⟩ = some (.int .u64 u.x3) ∧ w'.cell? ⟨sb, so + i * 4, none⟩ = some (.int .u64 z.x0) ∧ w'.cell? ⟨sb, so + i * 4 + 1, none⟩ = some (.int .u64 z.x1) ∧ w'.cell? ⟨sb, so + i * 4 + 2, none⟩ = some (.int .u64 z.x2) ∧ w'.cell? ⟨sb, so + i * 4 + 3, none⟩ = some (.int .u64 z.x3)) (first | with_reducible exact K0.out | with_reducible exact hk.out)
          (first | (go_at_call 19; with_reducible refine (OF.out _).mono ?_; rintro e wn ⟨rfl, hb⟩; have hk := hidden (KS.out _ (bl_trans (show Below w.heap.size w _ from And.left (by assumption)) hb))) | (go_at_call 20; with_reducible refine (IV.out _).mono ?_; rintro e wn ⟨rfl, hb⟩; have hk := hidden (KS.out _ (bl_trans (show Below w.heap.size w _ from And.left (by assumption)) hb))) | (go_at_call 7; with_reducible refine (IS.out _).mono ?_; rintro e wn ⟨rfl, hb⟩; have hk := hidden (KS.out _ (bl_trans (show Below w.heap.size w _ from And.left (by assumption)) hb))))
        go_wp2_with fail
        go_meet
        exact ⟨rfl, hk.out.1⟩
      case rest =>
      obtain ⟨rfl, hb3⟩ := hcut
      have B3 := hidden hb3
      clear hb3 K0 KS OF IV IS
      go_wp2_with fail
      go_roundw
      case rel => exact ⟨i + 1, by omega, by go_num, B3⟩
      case measure => simp [intOf]; omega
    · have hii : n = i := by omega
      subst hii
      have lq : ¬ (n : Int) < (n : Int) := by omega
      go_wp2_with fail
      refine bodyPost_ret (v := .bool true) (by simp [results, Tryd.results11, go_sem]) rfl ⟨rfl, hbl.out⟩
end Go.Proofs.YtcenphihmggfkaaDoor
