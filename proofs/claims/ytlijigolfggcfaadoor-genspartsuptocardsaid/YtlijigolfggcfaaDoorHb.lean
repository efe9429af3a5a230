import Derived.Test.YtlijigolfggcfaaDoorHa
namespace Go.Proofs.YtlijigolfggcfaaDoor
open Go.RowKit
theorem linfoG : (Tryd.prog.info? 29).map (fun i => (i.zero, i.size, i.bytes)) = some (some (.agg #[.int .u64 0, .int .u64 0, .int .u64 0, .int .u64 0]), 4, 32) := by kernel_rfl
/-- with two marks behind -/
def g92 (g : Nat → E4) (L k : Nat) : E4 := if k < L then g k else if k = L then ⟨91, 0, 0, 0⟩ else ⟨92, 0, 0, 0⟩
theorem svs_92 (g : Nat → E4) (L : Nat) : svs L g ++ [.int .u64 91, .int .u64 0, .int .u64 0, .int .u64 0, .int .u64 92, .int .u64 0, .int .u64 0, .int .u64 0] = svs (L + 2) (g92 g L) := by
  rw [show L + 2 = (L + 1) + 1 by omega, svs_succ, svs_succ, svs_congr (f := g92 g L) (g := g) (fun k hk => if_pos hk), show g92 g L L = ⟨91, 0, 0, 0⟩ by unfold g92; rw [if_neg (by omega), if_pos rfl], show g92 g L (L + 1) = ⟨92, 0, 0, 0⟩ by unfold g92; rw [if_neg (by omega), if_neg (by omega)], List.append_assoc]
  rfl
set_option maxRecDepth 100000 in
set_option maxHeartbeats 8000000 in
theorem lines_any (P : Option Addr) (L c : Nat) (g : Nat → E4) (w : World) (hL : L ≤ 1048576) (hS : Lm w P L g) :
    Calls Tryd.prog 13 #[.slice P L c] w fun e w' => ∃ v : Value, e = .returned v ∧ w'.ownsRow w.heap.size 29 4 v (L + 2) (svs (L + 2) (g92 g L)) ∧ Below w.heap.size w w' := by
  have HS := hidden hS
  have HL := hidden hL
  have nn0 : (0 : Int) ≤ (L : Int) := by omega
  obtain ⟨i0, hi, hz0, hz1, hz2⟩ := info_parts linfoG
  have HI := hidden hi
  have HZ0 := hidden hz0
  have HZ1 := hidden hz1
  have HZ2 := hidden hz2
  have HU : Hid (Tryd.prog.underlying 30 = some (.slice 29)) := hidden (by kernel_rfl)
  clear hS hL hi hz0 hz1 hz2
  go_enter Tryd.func13, Tryd.ntmps13
  go_wp2_with fail
  go_loopw [3, 4] (fun cv kv w' => ∃ k : Nat, k ≤ L ∧ kv = .int .i64 (k : Int) ∧ Hid (w'.ownsRow w.heap.size 29 4 cv k (svs k g)) ∧ Hid (Below w.heap.size w w')) (fun _ k _ => L - (intOf k).toNat)
  case atStart => exact ⟨0, by omega, rfl, hidden (World.ownsRow_nil _ _ _ _), hidden (Below.refl _ _)⟩
  case round =>
    obtain ⟨k, hk, rfl, hO, hB⟩ := hrel
    by_cases hkn : k < L
    · have k0 : (0 : Int) ≤ (k : Int) := by omega
      have k1 : (k : Int) < (L : Int) := by omega
      have w9 : IntKind.i64.wrap ((k : Int) + 1) = (k : Int) + 1 := IntWalk.i64_in _ (by have := HL.out; omega)
      obtain ⟨sb, so, h1, h2⟩ := HS.out
      obtain rfl := h1 (by omega)
      have rx := (h2 (by omega)).keep hB.out
      have x0 := rx.c0 k hkn; have x1 := rx.c1 k hkn; have x2 := rx.c2 k hkn; have x3 := rx.c3 k hkn
      have NX := svs_succ k g
      generalize g k = a at x0 x1 x2 x3 NX
      clear rx h1 h2
      go_wp2_with (first | (at_builtin; refine wpList_append_own_at _ rfl _ _ 30 rfl w.heap.size 29 i0 (.agg #[.int .u64 0, .int .u64 0, .int .u64 0, .int .u64 0]) 4 32 HU.out HI.out HZ0.out HZ1.out HZ2.out rfl (by decide) _ k (svs k g) rfl (hO.out.alloc (.cells #[.int .u64 a.x0, .int .u64 a.x1, .int .u64 a.x2, .int .u64 a.x3] 29)) ⟨wr.heap.size, 0, none⟩ 1 1 [.int .u64 a.x0, .int .u64 a.x1, .int .u64 a.x2, .int .u64 a.x3] rfl rfl (cells_new wr [.int .u64 a.x0, .int .u64 a.x1, .int .u64 a.x2, .int .u64 a.x3] 29) (svs_cell4 a) (by have := HL.out; unfold maxLen; omega) (by have := HL.out; omega) (by have := hB.out.size; simp; omega) ?_; intro v4 w4 how4 hgr4 hnil4 hat4; have HO4 := hidden how4; have B4 := hidden (below_trans (bl_trans hB.out (bl_alloc wr (.cells #[.int .u64 a.x0, .int .u64 a.x1, .int .u64 a.x2, .int .u64 a.x3] 29))) (below_grown hgr4 (by have := hB.out.size; simp; omega) (fun k hk => ((hO.out.alloc (.cells #[.int .u64 a.x0, .int .u64 a.x1, .int .u64 a.x2, .int .u64 a.x3] 29)).lt k hk).1))); clear how4 hgr4 hnil4 hat4))
      go_roundw
      case rel => exact ⟨k + 1, by omega, by go_num, hidden (by rw [NX]; exact HO4.out), B4⟩
      case measure => simp [intOf]; omega
    · obtain rfl : k = L := by omega
      have lq : ¬ (k : Int) < (k : Int) := by omega
      have N9 := hidden (svs_92 g k)
      go_wp2_with (first | (at_builtin; refine wpList_append_own_at _ rfl _ _ 30 rfl w.heap.size 29 i0 (.agg #[.int .u64 0, .int .u64 0, .int .u64 0, .int .u64 0]) 4 32 HU.out HI.out HZ0.out HZ1.out HZ2.out rfl (by decide) _ k (svs k g) rfl (hO.out.alloc (.cells #[.int .u64 91, .int .u64 0, .int .u64 0, .int .u64 0, .int .u64 92, .int .u64 0, .int .u64 0, .int .u64 0] 29)) ⟨wr.heap.size, 0, none⟩ 2 2 [.int .u64 91, .int .u64 0, .int .u64 0, .int .u64 0, .int .u64 92, .int .u64 0, .int .u64 0, .int .u64 0] rfl rfl (cells_new wr [.int .u64 91, .int .u64 0, .int .u64 0, .int .u64 0, .int .u64 92, .int .u64 0, .int .u64 0, .int .u64 0] 29) (by simp [Value.oneCell']) (by have := HL.out; unfold maxLen; omega) (by have := HL.out; omega) (by have := hB.out.size; simp; omega) ?_; intro v4 w4 how4 hgr4 hnil4 hat4; have HO4 := hidden how4; have B4 := hidden (below_trans (bl_trans hB.out (bl_alloc wr (.cells #[.int .u64 91, .int .u64 0, .int .u64 0, .int .u64 0, .int .u64 92, .int .u64 0, .int .u64 0, .int .u64 0] 29))) (below_grown hgr4 (by have := hB.out.size; simp; omega) (fun k hk => ((hO.out.alloc (.cells #[.int .u64 91, .int .u64 0, .int .u64 0, .int .u64 0, .int .u64 92, .int .u64 0, .int .u64 0, .int .u64 0] 29)).lt k hk).1))); clear how4 hgr4 hnil4 hat4))
      refine bodyPost_ret (v := v4) (by simp [results, Tryd.results13, go_sem]) rfl ⟨v4, rfl, by rw [← N9.out]; exact HO4.out, B4.out⟩
theorem eq4s (a b : E4) (w : World) : (Op.equalIn 10000 24 (.agg #[.int .u64 a.x0, .int .u64 a.x1, .int .u64 a.x2, .int .u64 a.x3]) (.agg #[.int .u64 b.x0, .int .u64 b.x1, .int .u64 b.x2, .int .u64 b.x3])).run Tryd.prog w = .ok (a.same b) w := eq4 a b w
set_option maxRecDepth 100000 in
set_option maxHeartbeats 8000000 in
theorem stay_any (P : Option Addr) (L c gb cb : Nat) (g : Nat → E4) (w : World) (hL : L ≤ 1048576) (hS : Lm w P L g) (hF : Rl w gb 0 (L + 2) (g92 g L)) :
    Calls Tryd.prog 12 #[.slice (some ⟨gb, 0, none⟩) (L + 2) cb, .slice P L c] w fun e w' => e = .returned (.bool true) ∧ Below w.heap.size w w' := by
  have HS := hidden hS
  have HF := hidden hF
  have HL := hidden hL
  have nn0 : (0 : Int) ≤ (L : Int) := by omega
  have EQ := fun (a : E4) (w : World) => (eq4s a a w).trans (by rw [E4.same_self])
  have E91 := fun (w : World) => (eq4s ⟨91, 0, 0, 0⟩ ⟨91, 0, 0, 0⟩ w).trans (by rw [E4.same_self])
  have E92 := fun (w : World) => (eq4s ⟨92, 0, 0, 0⟩ ⟨92, 0, 0, 0⟩ w).trans (by rw [E4.same_self])
  have w1 : IntKind.i64.wrap ((L : Int) + 2) = (L : Int) + 2 := IntWalk.i64_in _ (by omega)
  have w2 : IntKind.i64.wrap ((L : Int) + 1) = (L : Int) + 1 := IntWalk.i64_in _ (by omega)
  have l1 : (L : Int) < (L : Int) + 2 := by omega
  have l2 : (L : Int) + 1 < (L : Int) + 2 := by omega
  have l3 : (0 : Int) ≤ (L : Int) + 1 := by omega
  clear hS hF hL
  go_enter Tryd.func12, Tryd.ntmps12
  go_wp2_with fail
  go_loopw [5] (fun kv w' => ∃ k : Nat, k ≤ L ∧ kv = .int .i64 (k : Int) ∧ Hid (Below w.heap.size w w')) (fun k _ => L - (intOf k).toNat)
  case atStart => exact ⟨0, by omega, rfl, hidden (Below.refl _ _)⟩
  case round =>
    obtain ⟨k, hk, rfl, hB⟩ := hrel
    by_cases hkn : k < L
    · have k0 : (0 : Int) ≤ (k : Int) := by omega
      have k1 : (k : Int) < (L : Int) := by omega
      have k2 : (k : Int) < (L : Int) + 2 := by omega
      have w9 : IntKind.i64.wrap ((k : Int) + 1) = (k : Int) + 1 := IntWalk.i64_in _ (by have := HL.out; omega)
      have bd := bl_trans hB.out (drew_blW wr)
      obtain ⟨sb, so, h1, h2⟩ := HS.out
      obtain rfl := h1 (by omega)
      have rx := (h2 (by omega)).keep bd
      have x0 := rx.c0 k hkn; have x1 := rx.c1 k hkn; have x2 := rx.c2 k hkn; have x3 := rx.c3 k hkn
      have ry := HF.out.keep bd
      have y0 := ry.c0 k (by omega); have y1 := ry.c1 k (by omega); have y2 := ry.c2 k (by omega); have y3 := ry.c3 k (by omega)
      rw [show g92 g L k = g k from if_pos hkn] at y0 y1 y2 y3
      rw [Nat.zero_add] at y0 y1 y2 y3
      have BD := hidden bd
      generalize g k = a at x0 x1 x2 x3 y0 y1 y2 y3
      clear rx ry h1 h2 bd E91 E92
      go_upto_region 4 with fail
      go_cut [21] (fun vx wx => vx = .bool false ∧ wx = wr.drew)
      case first =>
        go_region_with fail
        all_goals
          go_wp2_with fail
          go_meet
          exact ⟨rfl, rfl⟩
      case rest =>
      obtain ⟨rfl, rfl⟩ := hcut
      clear x0 x1 x2 x3 y0 y1 y2 y3
      generalize wr.drew = wd at *
      go_wp2_with fail
      go_roundw
      case rel => exact ⟨k + 1, by omega, by go_num, BD⟩
      case measure => simp [intOf]; omega
    · obtain rfl : k = L := by omega
      have lq : ¬ (k : Int) < (k : Int) := by omega
      have ry := HF.out.keep hB.out
      have y0 := ry.c0 k (by omega); have y1 := ry.c1 k (by omega); have y2 := ry.c2 k (by omega); have y3 := ry.c3 k (by omega)
      have z0 := ry.c0 (k + 1) (by omega); have z1 := ry.c1 (k + 1) (by omega); have z2 := ry.c2 (k + 1) (by omega); have z3 := ry.c3 (k + 1) (by omega)
      rw [show g92 g k k = ⟨91, 0, 0, 0⟩ by unfold g92; rw [if_neg (by omega), if_pos rfl], Nat.zero_add] at y0 y1 y2 y3
      rw [show g92 g k (k + 1) = ⟨92, 0, 0, 0⟩ by unfold g92; rw [if_neg (by omega), if_neg (by omega)], Nat.zero_add] at z0 z1 z2 z3
      clear ry EQ
      go_wp2_with fail
      refine bodyPost_ret (v := .bool true) (by simp [results, Tryd.results12, go_sem]) rfl ⟨rfl, hB.out⟩
end Go.Proofs.YtlijigolfggcfaaDoor
