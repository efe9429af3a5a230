import Derived.Test.YtffehcilckfoeaaDoorZcp
namespace Go.Proofs.YtffehcilckfoeaaDoor
open Go.RowKit
set_option maxRecDepth 100000 in
set_option maxHeartbeats 16000000 in
theorem untouched_any (b c : Nat) (P : Option Addr) (L cap : Nat) (g : Nat → E4) (w : World) (hL : L ≤ 1048576) (hc : L + 1 ≤ c) (hR : Rl w b 0 (L + 1) (g7 g L)) (hS : Lm w P L g) :
    Calls Tryd.prog 8 #[.slice (some ⟨b, 0, none⟩) L c, .slice P L cap] w fun e w' => e = .returned (.bool true) ∧ Below w.heap.size w w' := by
  have HS := hidden hS
  have HR := hidden hR
  have HL := hidden hL
  have nn0 : (0 : Int) ≤ (L : Int) := by omega
  have e1 : IntKind.i64.wrap ((L : Int) + 1) = ((L + 1 : Nat) : Int) := by rw [IntWalk.i64_in _ (by omega)]; omega
  have e2 : (0 : Int) ≤ ((L + 1 : Nat) : Int) := by omega
  have e3 : ((L + 1 : Nat) : Int) ≤ (c : Int) := by omega
  have e4 : ¬ c = 0 := by omega
  obtain ⟨N, hN⟩ : ∃ N, N = L + 1 := ⟨_, rfl⟩
  rw [← hN] at e1 e2 e3 HR
  have HN := hidden hN
  clear hS hL hR hc hN
  go_enter Tryd.func8, Tryd.ntmps8
  go_wp2_with fail
  go_loopw [6] (fun iv w' => ∃ i : Nat, i ≤ L ∧ iv = .int .i64 i ∧ Hid (Below w.heap.size w w')) (fun i _ => L - (intOf i).toNat)
  case atStart => exact ⟨0, by omega, rfl, hidden (Below.refl _ _)⟩
  case round =>
    obtain ⟨i, hi, rfl, hbl⟩ := hrel
    by_cases hin : i < L
    · obtain ⟨sb, so, h1, h2⟩ := HS.out
      obtain rfl := h1 (by omega)
      have bd := bl_trans hbl.out (drew_blW wr)
      have rx := (h2 (by omega)).keep bd
      have ry := HR.out.keep bd
      have ii0 : (0 : Int) ≤ (i : Int) := by omega
      have ii1 : (i : Int) < (L : Int) := by omega
      have ii2 : (i : Int) < (N : Int) := by have := HN.out; omega
      have w9 : IntKind.i64.wrap ((i : Int) + 1) = (i : Int) + 1 := IntWalk.i64_in _ (by have := HL.out; omega)
      have x0 := rx.c0 i hin
      have x1 := rx.c1 i hin
      have x2 := rx.c2 i hin
      have x3 := rx.c3 i hin
      have y0 := ry.c0 i (by have := HN.out; omega)
      have y1 := ry.c1 i (by have := HN.out; omega)
      have y2 := ry.c2 i (by have := HN.out; omega)
      have y3 := ry.c3 i (by have := HN.out; omega)
      rw [show g7 g L i = g i from if_pos hin, Nat.zero_add] at y0 y1 y2 y3
      have BD := hidden bd
      generalize g i = z at x0 x1 x2 x3 y0 y1 y2 y3
      have hq : ∀ w, (Op.equalIn 10000 27 (.agg #[.int .u64 z.x0, .int .u64 z.x1, .int .u64 z.x2, .int .u64 z.x3]) (.agg #[.int .u64 z.x0, .int .u64 z.x1, .int .u64 z.x2, .int .u64 z.x3])).run Tryd.prog w = .ok true w := fun w => (eq4 z z w).trans (by rw [E4.same_self])
      clear rx ry h1 h2 hbl bd
      go_upto_region 5 with fail
      go_cut [26] (fun v wx => v = .bool false ∧ Below w.heap.size w wx)
      case first =>
        go_region_with fail
        all_goals
          clear x0 x1 x2 x3 y0 y1 y2 y3
          go_wp2_with fail
          go_meet
          exact ⟨rfl, BD.out⟩
      case rest =>
      obtain ⟨rfl, hb3⟩ := hcut
      have B3 := hidden hb3
      clear hb3 x0 x1 x2 x3 y0 y1 y2 y3 BD
      go_wp2_with fail
      go_roundw
      case rel => exact ⟨i + 1, by omega, by go_num, B3⟩
      case measure => simp [intOf]; omega
    · have hii : L = i := by omega
      subst hii
      have lq : ¬ (L : Int) < (L : Int) := by omega
      have hN := HN.out
      have z := HR.out.keep hbl.out
      have z0 := z.c0 L (by omega)
      have z1 := z.c1 L (by omega)
      have z2 := z.c2 L (by omega)
      have z3 := z.c3 L (by omega)
      rw [show g7 g L L = ⟨77, 0, 0, 0⟩ from if_neg (by omega), Nat.zero_add] at z0 z1 z2 z3
      have ii2 : (L : Int) < (N : Int) := by omega
      have q7 : ∀ w, (Op.equalIn 10000 27 (.agg #[.int .u64 77, .int .u64 0, .int .u64 0, .int .u64 0]) (.agg #[.int .u64 77, .int .u64 0, .int .u64 0, .int .u64 0])).run Tryd.prog w = .ok true w := fun w => (eq4 ⟨77, 0, 0, 0⟩ ⟨77, 0, 0, 0⟩ w).trans (by rw [E4.same_self])
      clear z hN
      go_wp2_with fail
      refine bodyPost_ret (v := .bool true) (by simp [results, Tryd.results8, go_sem]) rfl ⟨rfl, hbl.out⟩
end Go.Proofs.YtffehcilckfoeaaDoor
