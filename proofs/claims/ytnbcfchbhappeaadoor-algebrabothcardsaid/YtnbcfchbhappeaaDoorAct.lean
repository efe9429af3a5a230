import Derived.Test.YtnbcfchbhappeaaDoorAsl
import Derived.Test.YtnbcfchbhappeaaDoorAhm
namespace Go.Proofs.YtnbcfchbhappeaaDoor.Al
open Go.RowKit
/-- what Solve answers over the numbers modulo 7 -/
structure SolA (w w' : World) (n : Nat) (A : Nat → Nat → Int) (r : Nat → Int) (v : Value) (er : Int) : Prop where
  bel : Below w.heap.size w w'
  res : (er = 0 ∧ ¬ Mx.C 7 (Mx.det n A) 0 ∧ ∃ (P : Option Addr) (c : Nat) (xs : Nat → Int), n ≤ c ∧ v = .slice P n c ∧ Il w' P n xs ∧ ∀ i, i < n → Mx.C 7 (Mx.sm n (fun j => A i j * xs j)) (r i)) ∨ (er = 61 ∧ Mx.C 7 (Mx.det n A) 0 ∧ ∃ (P : Option Addr) (c : Nat), v = .slice P 0 c)
def SolveC : Prop := ∀ (B o n cB : Nat) (b f c : Nat → Nat) (A : Nat → Nat → Int) (P Q : Option Addr) (cQ : Nat) (r : Nat → Int) (w : World), n ≤ 3 → n ≤ cB → n ≤ cQ → (0 < n → P = some ⟨B, o, none⟩) → Mt w B o n b f c A → (∀ i, i < n → n ≤ c i) → Il w Q n r →
  Calls Tryd.prog 21 #[.slice P n cB, .slice Q n cQ] w fun e w' => ∃ (v : Value) (er : Int), e = .returned (.tuple #[v, .int .i64 er]) ∧ SolA w w' n A r v er
def InnerC : Prop := ∀ (P Q : Option Addr) (n cP cQ : Nat) (a b : Nat → Int) (w : World), n ≤ 40 → n ≤ cP → n ≤ cQ → Il w P n a → Il w Q n b →
  Calls Tryd.prog 56 #[.slice P n cP, .slice Q n cQ] w fun e w' => ∃ k : Int, e = .returned (.tuple #[sv k, .int .i64 0]) ∧ Mx.C 7 k (Mx.sm n (fun j => a j * b j)) ∧ Below w.heap.size w w'
def EvalC : Prop := ∀ (P : Option Addr) (n cP : Nat) (a : Nat → Int) (x : Int) (w : World), n ≤ 40 → n ≤ cP → Il w P n a →
  Calls Tryd.prog 22 #[.slice P n cP, sv x] w fun e w' => ∃ k : Int, e = .returned (sv k) ∧ Mx.C 7 k (Mx.ev n a x) ∧ Below w.heap.size w w'
theorem C7m {x y : Int} : Mx.C 7 x y ↔ x % 7 = y % 7 := ⟨fun h => h.mod, fun h => Mx.C.of_mod h⟩
theorem solve_alive (SC : SolveC) (w w0 : World) (h0 : Below w0.heap.size w0 w) : Calls Tryd.prog 21 #[.slice (some ⟨w.heap.size + 1, 0, none⟩) 1 1, .slice (some ⟨w.heap.size + 1 + 1, 0, none⟩) 1 1] (((w.alloc (.cells #[.int .i64 3] 51)).alloc (.cells #[.slice (some ⟨w.heap.size, 0, none⟩) 1 1] 46)).alloc (.cells #[.int .i64 5] 51)) fun e w' => ∃ (sb so c : Nat) (x : Int), e = .returned (.tuple #[.slice (some ⟨sb, so, none⟩) 1 c, .int .i64 0]) ∧ w'.cell? ⟨sb, so, none⟩ = some (.int .i64 x) ∧ x % 7 = 4 ∧ Below w0.heap.size w0 w' := by
  refine (SC (w.heap.size + 1) 0 1 1 (fun _ => w.heap.size) (fun _ => 0) (fun _ => 1) (fun _ _ => 3) _ _ 1 (fun _ => 5) _ (by omega) (by omega) (by omega) (fun _ => rfl) ⟨fun i hi => ?_, fun i j hi hj => ?_⟩ (fun _ _ => Nat.le_refl _) ⟨w.heap.size + 1 + 1, 0, fun _ => rfl, fun k hk => ?_⟩).mono fun e w' ⟨v, er, he, hs⟩ => ?_
  · obtain rfl : i = 0 := by omega
    go_simp
  · obtain rfl : i = 0 := by omega
    obtain rfl : j = 0 := by omega
    go_simp
  · obtain rfl : k = 0 := by omega
    go_simp
  · rcases hs.res with ⟨rfl, _, P, c, xs, _, rfl, ⟨sb, so, h1, h2⟩, h3⟩ | ⟨_, hd, _⟩
    · obtain rfl := h1 (by omega)
      have h4 := h3 0 (by omega)
      refine ⟨sb, so, c, xs 0, he, h2 0 (by omega), ?_, bl_trans h0 (bl_trans (bl_trans (bl_trans (bl_alloc _ _) (bl_alloc _ _)) (bl_alloc _ _)) hs.bel)⟩
      obtain ⟨k, hk⟩ := h4
      simp only [Mx.sm] at hk
      omega
    · exfalso
      have := C7.1 hd
      revert this
      decide
theorem eval_alive (EC : EvalC) (w w0 : World) (h0 : Below w0.heap.size w0 w) : Calls Tryd.prog 22 #[.slice (some ⟨w.heap.size, 0, none⟩) 2 2, .agg #[.int .i64 4]] (w.alloc (.cells #[.int .i64 2, .int .i64 3] 51)) fun e w' => ∃ k : Int, e = .returned (.agg #[.int .i64 k]) ∧ k % 7 = 0 ∧ Below w0.heap.size w0 w' ∧ Below w.heap.size w w' := by
  refine (EC (some ⟨w.heap.size, 0, none⟩) 2 2 (fun k => if k = 0 then 2 else 3) 4 _ (by omega) (by omega) ⟨w.heap.size, 0, fun _ => rfl, fun k hk => ?_⟩).mono fun e w' ⟨k, he, hk, hb⟩ => ⟨k, he, ?_, bl_trans h0 (bl_trans (bl_alloc _ _) hb), bl_trans (bl_alloc _ _) hb⟩
  · obtain rfl | rfl : k = 0 ∨ k = 1 := by omega
    · go_simp
    · go_simp
  · rw [hk.mod]; decide
set_option maxRecDepth 100000 in
set_option maxHeartbeats 8000000 in
theorem alive_any (SC : SolveC) (EC : EvalC) (w : World) : Calls Tryd.prog 4 #[] w fun e w' => e = .returned (.bool true) ∧ Below w.heap.size w w' := by
  have S1 := hidden (solve_alive SC w w (Below.refl _ _))
  have E1 := hidden (fun w' h => eval_alive EC w' w h)
  have RX := hidden (fun (x : Int) (h : x % 7 = 4) w => (h ▸ r_any x w : Calls Tryd.prog 23 #[sv x] w fun e w' => e = .returned (.int .i64 4) ∧ Below w.heap.size w w'))
  have RY := hidden (fun (x : Int) (h : x % 7 = 0) w => (h ▸ r_any x w : Calls Tryd.prog 23 #[sv x] w fun e w' => e = .returned (.int .i64 0) ∧ Below w.heap.size w w'))
  unfold sv at RX RY
  clear SC EC
  go_enter Tryd.func4, Tryd.ntmps4
  go_wp2_with fail
  refine S1.out.mono ?_
  rintro e w1 ⟨sb, so, c, x, rfl, hx, h4, hb1⟩
  have HX := hidden hx
  have H4 := hidden h4
  have B1 := hidden hb1
  clear hx h4 hb1 S1
  go_wp2_with fail
  refine (E1.out _ B1.out).mono ?_
  rintro e w2 ⟨k, rfl, h0, hb2, hb3⟩
  have H0 := hidden h0
  have B2 := hidden hb2
  have c1 := cell_keep (cell_keep HX.out hb3) (bl_alloc w2 (.cells #[.int .i64 k] 51))
  clear h0 hb2 hb3 E1
  go_wp2_with fail
  refine (RX.out _ H4.out _).mono ?_
  rintro e w3 ⟨rfl, hb3⟩
  have c2 : w3.cell? ⟨w2.heap.size, 0, none⟩ = some (.int .i64 k) := cell_keep (by go_simp) hb3
  have B3 := hidden (bl_trans (bl_trans B2.out (bl_alloc w2 (.cells #[.int .i64 k] 51))) hb3)
  clear hb3 c1
  go_wp2_with fail
  refine (RY.out _ H0.out _).mono ?_
  rintro e w4 ⟨rfl, hb4⟩
  have B4 := hidden (bl_trans B3.out hb4)
  clear hb4 c2
  go_wp2_with fail
  refine bodyPost_ret (v := .bool true) (by simp [results, Tryd.results4, go_sem]) rfl ⟨rfl, B4.out⟩
end Go.Proofs.YtnbcfchbhappeaaDoor.Al
