import Derived.Test.YtkfkmndhbfeagaaGreatDoorXG1
import Derived.Laws.BitsAllLaws
import Derived.Laws.IdiomCopy
namespace Go.Proofs.YtkfkmndhbfeagaaGreatDoor
namespace Xo
open Go.RowKit
set_option linter.unusedVariables false
/-- m numbers of one kind in a block -/
def Ks (k : IntKind) (w : World) (b m : Nat) : Prop := ∃ f : Nat → Int, ∀ j, j < m → w.cell? ⟨b, j, none⟩ = some (.int k (f j)) ∧ w.frozen? ⟨b, j, none⟩ = false
theorem Ks.keep {k : IntKind} {w w' : World} {b m : Nat} (h : Ks k w b m) (hb : Below w.heap.size w w') : Ks k w' b m := by
  obtain ⟨f, hf⟩ := h
  refine ⟨f, fun j hj => ⟨cell_keep (hf j hj).1 hb, ?_⟩⟩
  rw [hb.frozen (p := ⟨b, j, none⟩) (World.block_lt_of_cell? w _ (hf j hj).1)]
  exact (hf j hj).2
theorem Ks.set {k : IntKind} {w : World} {b m : Nat} (h : Ks k w b m) (c o : Nat) (v : Int) : Ks k (w.setCell ⟨c, o, none⟩ (.int k v)) b m := by
  obtain ⟨f, hf⟩ := h
  refine ⟨fun j => if b = c ∧ j = o then v else f j, fun j hj => ⟨?_, ?_⟩⟩
  · by_cases h : b = c ∧ j = o
    · obtain ⟨rfl, rfl⟩ := h
      dsimp only
      rw [if_pos ⟨rfl, rfl⟩]
      exact World.cell?_setCell_same w _ _ (hf j hj).1
    · dsimp only
      rw [if_neg h, World.cell?_setCell_other w _ _ _ (fun e => h (by simp only [Addr.mk.injEq, and_true] at e; exact ⟨e.1.symm, e.2.symm⟩))]
      exact (hf j hj).1
  · rw [World.frozen?_setCell]
    exact (hf j hj).2
theorem Ks.sub {k : IntKind} {w : World} {b m n : Nat} (h : Ks k w b m) (hn : n ≤ m) : Ks k w b n := by
  obtain ⟨f, hf⟩ := h
  exact ⟨f, fun j hj => hf j (by omega)⟩
theorem Ks.new (k : IntKind) (w : World) (m : Nat) (t : TypeId) : Ks k (w.alloc (.cells (List.replicate m (.int k 0)).toArray t)) w.heap.size m := by
  refine ⟨fun _ => 0, fun j hj => ⟨?_, ?_⟩⟩
  · rw [cell_of_row _ _ j _ t (0, 0) (heap_alloc_new w _)]
    simp [hj]
  · exact frozen_of_row _ _ j _ t (heap_alloc_new w _)
theorem Ks.at {k : IntKind} {w : World} {b m : Nat} (h : Ks k w b m) (j : Nat) (hj : j < m) : ∃ v, w.cell? ⟨b, j, none⟩ = some (.int k v) ∧ w.frozen? ⟨b, j, none⟩ = false := by
  obtain ⟨f, hf⟩ := h
  exact ⟨f j, hf j hj⟩
theorem Ks.lt {k : IntKind} {w : World} {b m : Nat} (h : Ks k w b m) (hm : 0 < m) : b < w.heap.size := by
  obtain ⟨v, hv, _⟩ := h.at 0 hm
  exact World.block_lt_of_cell? w _ hv
/-- the two tables of the hash -/
def Hg (w : World) : Prop := (∀ i, i < 8 → ∃ x, w.cell? ⟨2, i, none⟩ = some (.int .u64 x)) ∧ ∀ i, i < 80 → ∃ x, w.cell? ⟨4, i, none⟩ = some (.int .u64 x)
theorem Hg.keep {w w' : World} (h : Hg w) (hb : Below w.heap.size w w') : Hg w' :=
  ⟨fun i hi => (h.1 i hi).imp fun x hx => cell_keep hx hb, fun i hi => (h.2 i hi).imp fun x hx => cell_keep hx hb⟩
set_option maxRecDepth 100000
set_option maxHeartbeats 4000000
theorem rotr_any (x : Int) (n : Nat) (w : World) (h0 : 0 < n) (h1 : n < 64) :
    Calls Tryz.prog 89 #[.int .u64 x, .int .i64 (n : Int)] w fun e w' => ∃ y, e = .returned (.int .u64 y) ∧ Below w.heap.size w w' := by
  have k0 : (0 : Int) ≤ (n : Int) := by omega
  have k1 : ¬ (n : Int) < 0 := by omega
  have k2 : IntKind.i64.wrap (64 - (n : Int)) = 64 - (n : Int) := IntWalk.i64_in _ (by omega)
  have k3 : ¬ 64 - (n : Int) < 0 := by omega
  have k4 : (0 : Int) ≤ 64 - (n : Int) := by omega
  have B := hidden (Tr.drew_blW w)
  go_enter Tryz.func89, Tryz.ntmps89
  go_upto_region 1 with fail
  go_big_region
  go_wp2_with fail
  go_ret
  exact ⟨⟨_, rfl⟩, B.out⟩
theorem word_any (g o cap nb at' : Nat) (w : World) (hK : ∀ j, j < nb → ∃ x, w.cell? ⟨g, j, none⟩ = some (.int .u8 x)) (ha : at' + 8 ≤ nb) (hn : nb ≤ 1000000) :
    Calls Tryz.prog 88 #[.slice (some ⟨g, 0, none⟩) nb cap, .int .i64 (at' : Int)] w fun e w' => ∃ y, e = .returned (.int .u64 y) ∧ w' = w := by
  have K := hidden hK
  have A := hidden ha
  have N := hidden hn
  clear hK ha hn
  go_enter Tryz.func88, Tryz.ntmps88
  go_wp2_with fail
  go_loopw [5, 6] (fun v kv w' => ∃ (k : Nat) (x : Int), k ≤ 8 ∧ kv = .int .i64 (k : Int) ∧ v = .int .u64 x ∧ w' = w) (fun _ k _ => 8 - (intOf k).toNat)
  case atStart => exact ⟨0, 0, by omega, rfl, rfl, rfl⟩
  case round =>
    obtain ⟨k, x, hk, rfl, rfl, rfl⟩ := hrel
    by_cases hk8 : k < 8
    · have k0 : (0 : Int) ≤ (k : Int) := by omega
      have k1 : (k : Int) < 8 := by omega
      have w9 : IntKind.i64.wrap ((k : Int) + 1) = (k : Int) + 1 := IntWalk.i64_in _ (by omega)
      have e0 := A.out
      have e1 := N.out
      have wa : IntKind.i64.wrap ((at' : Int) + (k : Int)) = ((at' + k : Nat) : Int) := by rw [IntWalk.i64_in _ (by omega)]; omega
      obtain ⟨y, hy⟩ := K.out (at' + k) (by omega)
      have b0 : (0 : Int) ≤ ((at' + k : Nat) : Int) := by omega
      have b1 : ((at' + k : Nat) : Int) < (nb : Int) := by omega
      generalize at' + k = q at *
      clear e0 e1
      go_wp2_with fail
      go_roundw
      case rel => exact ⟨k + 1, _, by omega, by go_num, by first | exact rfl | trivial, by first | exact rfl | trivial⟩
      case measure => simp [intOf]; omega
    · obtain rfl : k = 8 := by omega
      rw [show ((8 : Nat) : Int) = 8 from rfl]
      go_wp2_with fail
      go_ret
      exact ⟨_, rfl, rfl⟩
theorem number_new (n : Int) (w : World) :
    Calls Tryz.prog 81 #[.int .u64 n, .int .i64 8] w fun e w' => ∃ (g : Nat) (xs : List Value), e = .returned (.slice (some ⟨g, 0, none⟩) 8 8) ∧ w'.ownsRow w.heap.size 5 1 (.slice (some ⟨g, 0, none⟩) 8 8) 8 xs ∧ Ks .u8 w' g 8 ∧ (∀ u ∈ xs, u.oneCell' = true) ∧ Below w.heap.size w w' := by
  have hr : ∀ x : World, (Instr.makeSlice 29 (.int .i64 8) (.int .i64 8)).run Tryz.prog x = .ok (.slice (some ⟨x.heap.size, 0, none⟩) 8 8) (x.alloc (.cells #[.int .u8 0, .int .u8 0, .int .u8 0, .int .u8 0, .int .u8 0, .int .u8 0, .int .u8 0, .int .u8 0] 5)) := fun x => by kernel_rfl
  have O0 : Hid ((w.alloc (.cells #[.int .u8 0, .int .u8 0, .int .u8 0, .int .u8 0, .int .u8 0, .int .u8 0, .int .u8 0, .int .u8 0] 5)).ownsRow w.heap.size 5 1 (.slice (some ⟨w.heap.size, 0, none⟩) 8 8) 8 [.int .u8 0, .int .u8 0, .int .u8 0, .int .u8 0, .int .u8 0, .int .u8 0, .int .u8 0, .int .u8 0]) := hidden ⟨rfl, .inr ⟨w.heap.size, 8, _, rfl, Nat.le_refl _, heap_alloc_new w _, Nat.le_refl _, by unfold maxLen; omega, rfl, rfl⟩⟩
  have K0 : Hid (Ks .u8 (w.alloc (.cells #[.int .u8 0, .int .u8 0, .int .u8 0, .int .u8 0, .int .u8 0, .int .u8 0, .int .u8 0, .int .u8 0] 5)) w.heap.size 8) := hidden (Ks.new .u8 w 8 5)
  have B0 := hidden (bl_alloc w (.cells #[.int .u8 0, .int .u8 0, .int .u8 0, .int .u8 0, .int .u8 0, .int .u8 0, .int .u8 0, .int .u8 0] 5))
  have E0 : Hid (∀ u ∈ ([.int .u8 0, .int .u8 0, .int .u8 0, .int .u8 0, .int .u8 0, .int .u8 0, .int .u8 0, .int .u8 0] : List Value), u.oneCell' = true) := hidden (by simp [Value.oneCell'])
  go_enter Tryz.func81, Tryz.ntmps81
  go_upto_region 2 with fail
  generalize w.alloc (.cells #[.int .u8 0, .int .u8 0, .int .u8 0, .int .u8 0, .int .u8 0, .int .u8 0, .int .u8 0, .int .u8 0] 5) = w1 at *
  generalize ([.int .u8 0, .int .u8 0, .int .u8 0, .int .u8 0, .int .u8 0, .int .u8 0, .int .u8 0, .int .u8 0] : List Value) = xs0 at O0 E0
  obtain ⟨g, hg⟩ : ∃ g, w.heap.size = g := ⟨_, rfl⟩
  have HG := hidden hg
  rw [hg] at O0 K0 B0 ⊢
  clear hg hr
  go_wp2_with fail
  go_loopw [0, 6] (fun nv iv w' => ∃ (k : Nat) (x : Int) (xs : List Value), k ≤ 8 ∧ iv = .int .i64 ((k : Int) - 1) ∧ nv = .int .u64 x ∧ Hid (w'.ownsRow g 5 1 (.slice (some ⟨g, 0, none⟩) 8 8) 8 xs) ∧ Hid (Ks .u8 w' g 8) ∧ Hid (∀ u ∈ xs, u.oneCell' = true) ∧ Hid (Below g w w')) (fun _ i _ => ((intOf i) + 1).toNat)
  case atStart => exact ⟨8, n, xs0, by omega, by go_num, rfl, O0, K0, E0, B0⟩
  case round =>
    clear O0 K0 E0 B0
    obtain ⟨k, x, xs, hk, rfl, rfl, hO, hK, hE, hB⟩ := hrel
    by_cases hk0 : 0 < k
    · obtain ⟨j, rfl⟩ : ∃ j, k = j + 1 := ⟨k - 1, by omega⟩
      have ej : ((j + 1 : Nat) : Int) - 1 = (j : Int) := by omega
      rw [ej]
      have j0 : (0 : Int) ≤ (j : Int) := by omega
      have j1 : (j : Int) < 8 := by omega
      have w9 : IntKind.i64.wrap ((j : Int) - 1) = (j : Int) - 1 := IntWalk.i64_in _ (by omega)
      obtain ⟨y, c0, f0⟩ := hK.out.at j (by omega)
      obtain ⟨v, hv⟩ : ∃ v, IntKind.u8.wrap x = v := ⟨_, rfl⟩
      obtain ⟨o1, g1⟩ := hO.out.stored j (.int .u8 v)
      have O1 := hidden o1
      have K1 := hidden (hK.out.set g j v)
      have B1 := hidden (hB.out.setCell (p := ⟨g, j, none⟩) (Nat.le_refl _) (.int .u8 v))
      have E1 : Hid (∀ u ∈ xs.set j (.int .u8 v), u.oneCell' = true) := hidden (fun u hu => by
        rcases List.mem_or_eq_of_mem_set hu with h | rfl
        · exact hE.out u h
        · rfl)
      clear o1 g1 hO hK hB hE ej
      go_wp2_with fail
      go_roundw
      case rel => exact ⟨j, _, _, by omega, by go_num, by first | exact rfl | trivial, O1, K1, E1, B1⟩
      case measure => simp [intOf]
    · obtain rfl : k = 0 := by omega
      have lq : ¬ (0 : Int) ≤ ((0 : Nat) : Int) - 1 := by omega
      go_wp2_with fail
      refine bodyPost_ret (v := .slice (some ⟨g, 0, none⟩) 8 8) (by simp [results, Tryz.results81, go_sem]) rfl ⟨g, rfl, xs, ?_, hK.out, hE.out, ?_⟩
      · rw [HG.out]; exact hO.out
      · rw [HG.out]; exact hB.out
end Xo
end Go.Proofs.YtkfkmndhbfeagaaGreatDoor
namespace Go.Proofs.YtkfkmndhbfeagaaGreatDoor
namespace Xo
open Go.RowKit
set_option linter.unusedVariables false
def z80 : List Value := List.replicate 80 (.int .u64 0)
theorem zv80 (w : World) : (zeroValue 150).run Tryz.prog w = .ok (.agg z80.toArray) w := by kernel_rfl
theorem wpList_alloc80 {ops : Array Oper} {rest : List Oper} {o : Oper} {a : Act} {w : World} {Q : Exit → Act → World → Prop} (hg : o.guard = none) (ho : o.op = .alloc 150) (h : wpList Tryz.prog ops Q rest (a.put o.dst (.pointer (some ⟨w.heap.size, 0, none⟩))) (w.alloc (.cells z80.toArray 150))) : wpList Tryz.prog ops Q (o :: rest) a w := by
  refine wpList_plain hg fun K hK => ?_
  have hz := zv80 w
  have hk := hK _ _ h
  generalize z80 = z at hz hk
  unfold Oper.wp execOp
  simp [ho, Instr.alloc, hz]
  exact hk
/-- what take has made so far -/
structure Tk (w0 : World) (L : List (Nat × Nat)) (w : World) : Prop where
  bel : Below w0.heap.size w0 w
  ks : ∀ p ∈ L, Ks .u64 w p.1 p.2
  lt : ∀ p ∈ L, w0.heap.size ≤ p.1
theorem Tk.keep {w0 : World} {L : List (Nat × Nat)} {w w' : World} (h : Tk w0 L w) (hb : Below w.heap.size w w') : Tk w0 L w' := ⟨bl_trans h.bel hb, fun p hp => (h.ks p hp).keep hb, h.lt⟩
theorem Tk.set {w0 : World} {L : List (Nat × Nat)} {w : World} (h : Tk w0 L w) (c m o : Nat) (hc : (c, m) ∈ L) (v : Int) : Tk w0 L (w.setCell ⟨c, o, none⟩ (.int .u64 v)) := ⟨h.bel.setCell (p := ⟨c, o, none⟩) (h.lt (c, m) hc) _, fun p hp => (h.ks p hp).set c o v, h.lt⟩
theorem Tk.new {w0 : World} {L : List (Nat × Nat)} {w : World} (h : Tk w0 L w) (m : Nat) (cs : List Value) (t : TypeId) (hk : Ks .u64 (w.alloc (.cells cs.toArray t)) w.heap.size m) : Tk w0 ((w.heap.size, m) :: L) (w.alloc (.cells cs.toArray t)) := by
  have k := h.keep (bl_alloc w (.cells cs.toArray t))
  refine ⟨k.bel, fun p hp => ?_, fun p hp => ?_⟩
  · rcases List.mem_cons.1 hp with rfl | hp
    · exact hk
    · exact k.ks p hp
  · rcases List.mem_cons.1 hp with rfl | hp
    · exact h.bel.size
    · exact h.lt p hp
theorem Tk.start (w : World) : Tk w [] w := ⟨Below.refl _ _, fun p hp => (by cases hp), fun p hp => (by cases hp)⟩
theorem ks_lit (w : World) (f : Nat → Int) (m : Nat) (t : TypeId) : Ks .u64 (w.alloc (.cells ((List.range m).map fun j => Value.int .u64 (f j)).toArray t)) w.heap.size m := by
  refine ⟨f, fun j hj => ⟨?_, ?_⟩⟩
  · rw [cell_of_row _ _ j _ t (0, 0) (heap_alloc_new w _)]
    simp [hj]
  · exact frozen_of_row _ _ j _ t (heap_alloc_new w _)
theorem ks_eight (w : World) (a0 a1 a2 a3 a4 a5 a6 a7 : Int) (t : TypeId) : Ks .u64 (w.alloc (.cells #[.int .u64 a0, .int .u64 a1, .int .u64 a2, .int .u64 a3, .int .u64 a4, .int .u64 a5, .int .u64 a6, .int .u64 a7] t)) w.heap.size 8 := ks_lit w (fun j => [a0, a1, a2, a3, a4, a5, a6, a7].getD j 0) 8 t
set_option maxRecDepth 100000
set_option maxHeartbeats 16000000
theorem take_any (a0 a1 a2 a3 a4 a5 a6 a7 : Int) (g nb cap at' : Nat) (w : World) (hH : Hg w) (hK : ∀ j, j < nb → ∃ x, w.cell? ⟨g, j, none⟩ = some (.int .u8 x)) (ha : at' + 128 ≤ nb) (hn : nb ≤ 1000000) :
    Calls Tryz.prog 82 #[.agg #[.int .u64 a0, .int .u64 a1, .int .u64 a2, .int .u64 a3, .int .u64 a4, .int .u64 a5, .int .u64 a6, .int .u64 a7], .slice (some ⟨g, 0, none⟩) nb cap, .int .i64 (at' : Int)] w fun e w' => ∃ b0 b1 b2 b3 b4 b5 b6 b7 : Int, e = .returned (.agg #[.int .u64 b0, .int .u64 b1, .int .u64 b2, .int .u64 b3, .int .u64 b4, .int .u64 b5, .int .u64 b6, .int .u64 b7]) ∧ Below w.heap.size w w' := by
  have H := hidden hH
  have K := hidden hK
  have A := hidden ha
  have N := hidden hn
  have R19 : Hid (∀ x w, Calls Tryz.prog 89 #[.int .u64 x, .int .i64 19] w fun e w' => ∃ y, e = .returned (.int .u64 y) ∧ Below w.heap.size w w') := hidden (fun x w => rotr_any x 19 w (by omega) (by omega))
  have R61 : Hid (∀ x w, Calls Tryz.prog 89 #[.int .u64 x, .int .i64 61] w fun e w' => ∃ y, e = .returned (.int .u64 y) ∧ Below w.heap.size w w') := hidden (fun x w => rotr_any x 61 w (by omega) (by omega))
  have R1 : Hid (∀ x w, Calls Tryz.prog 89 #[.int .u64 x, .int .i64 1] w fun e w' => ∃ y, e = .returned (.int .u64 y) ∧ Below w.heap.size w w') := hidden (fun x w => rotr_any x 1 w (by omega) (by omega))
  have R8 : Hid (∀ x w, Calls Tryz.prog 89 #[.int .u64 x, .int .i64 8] w fun e w' => ∃ y, e = .returned (.int .u64 y) ∧ Below w.heap.size w w') := hidden (fun x w => rotr_any x 8 w (by omega) (by omega))
  have R14 : Hid (∀ x w, Calls Tryz.prog 89 #[.int .u64 x, .int .i64 14] w fun e w' => ∃ y, e = .returned (.int .u64 y) ∧ Below w.heap.size w w') := hidden (fun x w => rotr_any x 14 w (by omega) (by omega))
  have R18 : Hid (∀ x w, Calls Tryz.prog 89 #[.int .u64 x, .int .i64 18] w fun e w' => ∃ y, e = .returned (.int .u64 y) ∧ Below w.heap.size w w') := hidden (fun x w => rotr_any x 18 w (by omega) (by omega))
  have R41 : Hid (∀ x w, Calls Tryz.prog 89 #[.int .u64 x, .int .i64 41] w fun e w' => ∃ y, e = .returned (.int .u64 y) ∧ Below w.heap.size w w') := hidden (fun x w => rotr_any x 41 w (by omega) (by omega))
  have R28 : Hid (∀ x w, Calls Tryz.prog 89 #[.int .u64 x, .int .i64 28] w fun e w' => ∃ y, e = .returned (.int .u64 y) ∧ Below w.heap.size w w') := hidden (fun x w => rotr_any x 28 w (by omega) (by omega))
  have R34 : Hid (∀ x w, Calls Tryz.prog 89 #[.int .u64 x, .int .i64 34] w fun e w' => ∃ y, e = .returned (.int .u64 y) ∧ Below w.heap.size w w') := hidden (fun x w => rotr_any x 34 w (by omega) (by omega))
  have R39 : Hid (∀ x w, Calls Tryz.prog 89 #[.int .u64 x, .int .i64 39] w fun e w' => ∃ y, e = .returned (.int .u64 y) ∧ Below w.heap.size w w') := hidden (fun x w => rotr_any x 39 w (by omega) (by omega))
  have T0 := ((Tk.start w).new 8 _ 141 (ks_eight w a0 a1 a2 a3 a4 a5 a6 a7 141))
  have T1 := T0.new 8 [.int .u64 0, .int .u64 0, .int .u64 0, .int .u64 0, .int .u64 0, .int .u64 0, .int .u64 0, .int .u64 0] 141 (ks_eight _ 0 0 0 0 0 0 0 0 141)
  have T2 := T1.new 80 z80 150 (Ks.new .u64 _ 80 150)
  simp only [World.size_alloc] at T2
  have TK := hidden T2
  clear hH hK ha hn T0 T1 T2
  go_enter Tryz.func82, Tryz.ntmps82
  go_upto_region 2 with (first | refine wpList_alloc80 rfl rfl ?_)
  simp only [World.size_alloc]
  generalize ((w.alloc (.cells #[.int .u64 a0, .int .u64 a1, .int .u64 a2, .int .u64 a3, .int .u64 a4, .int .u64 a5, .int .u64 a6, .int .u64 a7] 141)).alloc (.cells #[.int .u64 0, .int .u64 0, .int .u64 0, .int .u64 0, .int .u64 0, .int .u64 0, .int .u64 0, .int .u64 0] 141)).alloc (.cells z80.toArray 150) = w1 at *
  obtain ⟨S, hS⟩ : ∃ S, w.heap.size = S := ⟨_, rfl⟩
  have HS := hidden hS
  rw [hS] at TK ⊢
  clear hS
  go_wp2_with fail
  go_loopw [8] (fun kv w' => ∃ k : Nat, k ≤ 80 ∧ kv = .int .i64 (k : Int) ∧ Hid (Tk w [(S + 1 + 1, 80), (S + 1, 8), (S, 8)] w')) (fun k _ => 80 - (intOf k).toNat)
  case atStart => exact ⟨0, by omega, rfl, TK⟩
  case round =>
    clear TK
    obtain ⟨k, hk, rfl, TK⟩ := hrel
    by_cases hk80 : k < 80
    · have k0 : (0 : Int) ≤ (k : Int) := by omega
      have k1 : (k : Int) < 80 := by omega
      have w9 : IntKind.i64.wrap ((k : Int) + 1) = (k : Int) + 1 := IntWalk.i64_in _ (by omega)
      by_cases hk16 : k < 16
      · have k2 : (k : Int) < 16 := by omega
        have e0 := A.out
        have e1 := N.out
        have m1 : IntKind.i64.wrap (8 * (k : Int)) = 8 * (k : Int) := IntWalk.i64_in _ (by omega)
        have m2 : IntKind.i64.wrap ((at' : Int) + 8 * (k : Int)) = ((at' + 8 * k : Nat) : Int) := by rw [IntWalk.i64_in _ (by omega)]; omega
        have W := hidden (word_any g 0 cap nb (at' + 8 * k) wr (fun j hj => (K.out j hj).imp fun x hx => cell_keep hx TK.out.bel) (by omega) e1)
        obtain ⟨y, c0, f0⟩ := (TK.out.ks (S + 1 + 1, 80) (by simp)).at k hk80
        have NX := hidden (fun v => TK.out.set (S + 1 + 1) 80 k (by simp) v)
        simp only at c0 f0
        clear e0 e1
        go_wp2_with (first | (go_at_call 88; refine W.out.mono ?_; rintro e wa ⟨v, rfl, rfl⟩; replace NX := hidden (NX.out v); clear W))
        go_roundw
        case rel => exact ⟨k + 1, by omega, by go_num, NX⟩
        case measure => simp [intOf]; omega
      · have k2 : ¬ (k : Int) < 16 := by omega
        have m2 : IntKind.i64.wrap ((k : Int) - 2) = ((k - 2 : Nat) : Int) := by rw [IntWalk.i64_in _ (by omega)]; omega
        have l2 : (0 : Int) ≤ ((k - 2 : Nat) : Int) := by omega
        have u2' : ((k - 2 : Nat) : Int) < 80 := by omega
        have q2 : k - 2 < 80 := by omega
        obtain ⟨y2, c2, f2⟩ := (TK.out.ks (S + 1 + 1, 80) (by simp)).at (k - 2) q2
        have m15 : IntKind.i64.wrap ((k : Int) - 15) = ((k - 15 : Nat) : Int) := by rw [IntWalk.i64_in _ (by omega)]; omega
        have l15 : (0 : Int) ≤ ((k - 15 : Nat) : Int) := by omega
        have u15' : ((k - 15 : Nat) : Int) < 80 := by omega
        have q15 : k - 15 < 80 := by omega
        obtain ⟨y15, c15, f15⟩ := (TK.out.ks (S + 1 + 1, 80) (by simp)).at (k - 15) q15
        have m7 : IntKind.i64.wrap ((k : Int) - 7) = ((k - 7 : Nat) : Int) := by rw [IntWalk.i64_in _ (by omega)]; omega
        have l7 : (0 : Int) ≤ ((k - 7 : Nat) : Int) := by omega
        have u7' : ((k - 7 : Nat) : Int) < 80 := by omega
        have q7 : k - 7 < 80 := by omega
        obtain ⟨y7, c7, f7⟩ := (TK.out.ks (S + 1 + 1, 80) (by simp)).at (k - 7) q7
        have m16 : IntKind.i64.wrap ((k : Int) - 16) = ((k - 16 : Nat) : Int) := by rw [IntWalk.i64_in _ (by omega)]; omega
        have l16 : (0 : Int) ≤ ((k - 16 : Nat) : Int) := by omega
        have u16' : ((k - 16 : Nat) : Int) < 80 := by omega
        have q16 : k - 16 < 80 := by omega
        obtain ⟨y16, c16, f16⟩ := (TK.out.ks (S + 1 + 1, 80) (by simp)).at (k - 16) q16
        simp only at c2 c15
        clear c7 c16 f2 f15 f7 f16
        generalize k - 2 = k2' at *
        generalize k - 15 = k15' at *
        generalize k - 7 = k7' at *
        generalize k - 16 = k16' at *
        go_upto_region 11 with (first | (go_at_call 89; refine (R19.out _ _).mono ?_; rintro e wa19 ⟨v19, rfl, hb⟩; replace TK := hidden (TK.out.keep hb); clear hb R19) | (go_at_call 89; refine (R61.out _ _).mono ?_; rintro e wa61 ⟨v61, rfl, hb⟩; replace TK := hidden (TK.out.keep hb); clear hb R61) | (go_at_call 89; refine (R1.out _ _).mono ?_; rintro e wa1 ⟨v1, rfl, hb⟩; replace TK := hidden (TK.out.keep hb); clear hb R1) | (go_at_call 89; refine (R8.out _ _).mono ?_; rintro e wa8 ⟨v8, rfl, hb⟩; replace TK := hidden (TK.out.keep hb); clear hb R8))
        generalize wa8 = wb at *
        obtain ⟨y7, c7, f7⟩ := (TK.out.ks (S + 1 + 1, 80) (by simp)).at k7' q7
        obtain ⟨y16, c16, f16⟩ := (TK.out.ks (S + 1 + 1, 80) (by simp)).at k16' q16
        obtain ⟨y, c0, f0⟩ := (TK.out.ks (S + 1 + 1, 80) (by simp)).at k hk80
        simp only at c7 c16 c0 f0
        have NX := hidden (fun v => (TK.out.keep (Tr.drew_blW wb)).set (S + 1 + 1) 80 k (by simp) v)
        clear c2 c15 f7 f16 TK
        go_big_region
        go_wp2_with fail
        go_roundw
        case rel => exact ⟨k + 1, by omega, by go_num, hidden (NX.out _)⟩
        case measure => simp [intOf]; omega
    · obtain rfl : k = 80 := by omega
      rw [show ((80 : Nat) : Int) = 80 from rfl]
      clear K A N
      obtain ⟨h0, c0, _⟩ := (TK.out.ks (S, 8) (by simp)).at 0 (by omega)
      obtain ⟨h1, c1, _⟩ := (TK.out.ks (S, 8) (by simp)).at 1 (by omega)
      obtain ⟨h2, c2, _⟩ := (TK.out.ks (S, 8) (by simp)).at 2 (by omega)
      obtain ⟨h3, c3, _⟩ := (TK.out.ks (S, 8) (by simp)).at 3 (by omega)
      obtain ⟨h4, c4, _⟩ := (TK.out.ks (S, 8) (by simp)).at 4 (by omega)
      obtain ⟨h5, c5, _⟩ := (TK.out.ks (S, 8) (by simp)).at 5 (by omega)
      obtain ⟨h6, c6, _⟩ := (TK.out.ks (S, 8) (by simp)).at 6 (by omega)
      obtain ⟨h7, c7, _⟩ := (TK.out.ks (S, 8) (by simp)).at 7 (by omega)
      simp only at c0 c1 c2 c3 c4 c5 c6 c7
      have T3 := hidden (TK.out.new 8 _ 141 (ks_eight wr h0 h1 h2 h3 h4 h5 h6 h7 141))
      go_upto_region 13 with fail
      generalize wr.alloc (.cells #[.int .u64 h0, .int .u64 h1, .int .u64 h2, .int .u64 h3, .int .u64 h4, .int .u64 h5, .int .u64 h6, .int .u64 h7] 141) = w2 at *
      have VL : Hid (S + 1 + 1 < wr.heap.size) := hidden ((TK.out.ks (S + 1 + 1, 80) (by simp)).lt (by omega))
      generalize wr.heap.size = V at *
      clear TK c0 c1 c2 c3 c4 c5 c6 c7
      go_wp2_with fail
      go_loopw [14] (fun kv w' => ∃ k : Nat, k ≤ 80 ∧ kv = .int .i64 (k : Int) ∧ Hid (Tk w [(V, 8), (S + 1 + 1, 80), (S + 1, 8), (S, 8)] w')) (fun k _ => 80 - (intOf k).toNat)
      case atStart => exact ⟨0, by omega, rfl, T3⟩
      case round =>
        clear T3
        obtain ⟨k, hk, rfl, TK⟩ := hrel
        by_cases hk80 : k < 80
        · have k0 : (0 : Int) ≤ (k : Int) := by omega
          have k1 : (k : Int) < 80 := by omega
          have w9 : IntKind.i64.wrap ((k : Int) + 1) = (k : Int) + 1 := IntWalk.i64_in _ (by omega)
          go_upto_region 16 with fail
          go_cut [15] (fun v wx => (∃ x : Int, v = .int .u64 x) ∧ Hid (Tk w [(V, 8), (S + 1 + 1, 80), (S + 1, 8), (S, 8)] wx))
          case first =>
            obtain ⟨v4, c4, f4⟩ := (TK.out.ks (V, 8) (by simp)).at 4 (by omega)
            simp only at c4
            clear f4
            go_wp2_with fail
            go_meet
            exact ⟨⟨_, rfl⟩, TK⟩
          case rest =>
          obtain ⟨⟨x15, rfl⟩, hT⟩ := hcut
          clear TK
          have TK := hT
          clear hT
          generalize wc = w16 at *
          go_upto_region 17 with fail
          go_cut [16] (fun v wx => (∃ x : Int, v = .int .u64 x) ∧ Hid (Tk w [(V, 8), (S + 1 + 1, 80), (S + 1, 8), (S, 8)] wx))
          case first =>
            obtain ⟨v0, c0, f0⟩ := (TK.out.ks (V, 8) (by simp)).at 0 (by omega)
            simp only at c0
            clear f0
            go_wp2_with fail
            go_meet
            exact ⟨⟨_, rfl⟩, TK⟩
          case rest =>
          obtain ⟨⟨x16, rfl⟩, hT⟩ := hcut
          clear TK
          have TK := hT
          clear hT
          generalize wc = w17 at *
          go_upto_region 18 with fail
          go_cut [17] (fun v wx => (∃ x : Int, v = .int .u64 x) ∧ Hid (Tk w [(V, 8), (S + 1 + 1, 80), (S + 1, 8), (S, 8)] wx))
          case first =>
            obtain ⟨v5, c5, f5⟩ := (TK.out.ks (V, 8) (by simp)).at 5 (by omega)
            obtain ⟨v6, c6, f6⟩ := (TK.out.ks (V, 8) (by simp)).at 6 (by omega)
            simp only at c5 c6
            clear f5 f6
            go_wp2_with fail
            go_meet
            exact ⟨⟨_, rfl⟩, TK⟩
          case rest =>
          obtain ⟨⟨x17, rfl⟩, hT⟩ := hcut
          clear TK
          have TK := hT
          clear hT
          generalize wc = w18 at *
          go_upto_region 19 with fail
          go_cut [18] (fun v wx => (∃ x : Int, v = .int .u64 x) ∧ Hid (Tk w [(V, 8), (S + 1 + 1, 80), (S + 1, 8), (S, 8)] wx))
          case first =>
            obtain ⟨v1, c1, f1⟩ := (TK.out.ks (V, 8) (by simp)).at 1 (by omega)
            obtain ⟨v2, c2, f2⟩ := (TK.out.ks (V, 8) (by simp)).at 2 (by omega)
            simp only at c1 c2
            clear f1 f2
            go_wp2_with fail
            go_meet
            exact ⟨⟨_, rfl⟩, TK⟩
          case rest =>
          obtain ⟨⟨x18, rfl⟩, hT⟩ := hcut
          clear TK
          have TK := hT
          clear hT
          generalize wc = w19 at *
          go_upto_region 20 with fail
          go_cut [19] (fun v wx => (∃ x : Int, v = .int .u64 x) ∧ Hid (Tk w [(V, 8), (S + 1 + 1, 80), (S + 1, 8), (S, 8)] wx))
          case first =>
            go_wp2_with (first | (go_at_call 89; refine (R14.out _ _).mono ?_; rintro e wa14 ⟨y14, rfl, hb⟩; replace TK := hidden (TK.out.keep hb); clear hb R14) | (go_at_call 89; refine (R18.out _ _).mono ?_; rintro e wa18 ⟨y18, rfl, hb⟩; replace TK := hidden (TK.out.keep hb); clear hb R18) | (go_at_call 89; refine (R41.out _ _).mono ?_; rintro e wa41 ⟨y41, rfl, hb⟩; replace TK := hidden (TK.out.keep hb); clear hb R41))
            go_meet
            exact ⟨⟨_, rfl⟩, TK⟩
          case rest =>
          obtain ⟨⟨x19, rfl⟩, hT⟩ := hcut
          clear TK
          have TK := hT
          clear hT
          generalize wc = w20 at *
          go_upto_region 21 with fail
          go_cut [20] (fun v wx => (∃ x : Int, v = .int .u64 x) ∧ Hid (Tk w [(V, 8), (S + 1 + 1, 80), (S + 1, 8), (S, 8)] wx))
          case first =>
            go_wp2_with (first | (go_at_call 89; refine (R28.out _ _).mono ?_; rintro e wa28 ⟨y28, rfl, hb⟩; replace TK := hidden (TK.out.keep hb); clear hb R28) | (go_at_call 89; refine (R34.out _ _).mono ?_; rintro e wa34 ⟨y34, rfl, hb⟩; replace TK := hidden (TK.out.keep hb); clear hb R34) | (go_at_call 89; refine (R39.out _ _).mono ?_; rintro e wa39 ⟨y39, rfl, hb⟩; replace TK := hidden (TK.out.keep hb); clear hb R39))
            go_meet
            exact ⟨⟨_, rfl⟩, TK⟩
          case rest =>
          obtain ⟨⟨x20, rfl⟩, hT⟩ := hcut
          clear TK
          have TK := hT
          clear hT
          generalize wc = w21 at *
          go_upto_region 22 with fail
          go_cut [21] (fun v wx => (∃ x : Int, v = .int .u64 x) ∧ Hid (Tk w [(V, 8), (S + 1 + 1, 80), (S + 1, 8), (S, 8)] wx))
          case first =>
            obtain ⟨v7, c7, f7⟩ := (TK.out.ks (V, 8) (by simp)).at 7 (by omega)
            simp only at c7
            clear f7
            obtain ⟨xr, cr⟩ := (H.out.keep TK.out.bel).2 k hk80
            obtain ⟨xw, cw, fw⟩ := (TK.out.ks (S + 1 + 1, 80) (by simp)).at k hk80
            simp only at cw
            clear fw
            go_big_region
            go_wp2_with fail
            go_meet
            exact ⟨⟨_, rfl⟩, hidden (TK.out.keep (Tr.drew_blW _))⟩
          case rest =>
          obtain ⟨⟨x21, rfl⟩, hT⟩ := hcut
          clear TK
          have TK := hT
          clear hT
          generalize wc = w22 at *
          obtain ⟨t0, c0, f0⟩ := (TK.out.ks (V, 8) (by simp)).at 0 (by omega)
          obtain ⟨t1, c1, f1⟩ := (TK.out.ks (V, 8) (by simp)).at 1 (by omega)
          obtain ⟨t2, c2, f2⟩ := (TK.out.ks (V, 8) (by simp)).at 2 (by omega)
          obtain ⟨t3, c3, f3⟩ := (TK.out.ks (V, 8) (by simp)).at 3 (by omega)
          obtain ⟨t4, c4, f4⟩ := (TK.out.ks (V, 8) (by simp)).at 4 (by omega)
          obtain ⟨t5, c5, f5⟩ := (TK.out.ks (V, 8) (by simp)).at 5 (by omega)
          obtain ⟨t6, c6, f6⟩ := (TK.out.ks (V, 8) (by simp)).at 6 (by omega)
          obtain ⟨t7, c7, f7⟩ := (TK.out.ks (V, 8) (by simp)).at 7 (by omega)
          simp only at c0 c1 c2 c3 c4 c5 c6 c7 f0 f1 f2 f3 f4 f5 f6 f7
          have NX := hidden (fun x0 x1 x2 x3 x4 x5 x6 x7 => ((((((((TK.out.set V 8 0 (by simp) x0).set V 8 1 (by simp) x1).set V 8 2 (by simp) x2).set V 8 3 (by simp) x3).set V 8 4 (by simp) x4).set V 8 5 (by simp) x5).set V 8 6 (by simp) x6).set V 8 7 (by simp) x7))
          clear TK
          go_wp2_with fail
          go_roundw
          case rel => exact ⟨k + 1, by omega, by go_num, hidden (NX.out _ _ _ _ _ _ _ _)⟩
          case measure => simp [intOf]; omega
        · obtain rfl : k = 80 := by omega
          rw [show ((80 : Nat) : Int) = 80 from rfl]
          go_wp2_with fail
          go_loopw [22] (fun kv w' => ∃ k : Nat, k ≤ 8 ∧ kv = .int .i64 (k : Int) ∧ Hid (Tk w [(V, 8), (S + 1 + 1, 80), (S + 1, 8), (S, 8)] w')) (fun k _ => 8 - (intOf k).toNat)
          case atStart => exact ⟨0, by omega, rfl, TK⟩
          case round =>
            clear TK
            obtain ⟨k, hk, rfl, TK⟩ := hrel
            by_cases hk8 : k < 8
            · have k0 : (0 : Int) ≤ (k : Int) := by omega
              have k1 : (k : Int) < 8 := by omega
              have w9 : IntKind.i64.wrap ((k : Int) + 1) = (k : Int) + 1 := IntWalk.i64_in _ (by omega)
              obtain ⟨x1, c1, f1⟩ := (TK.out.ks (S, 8) (by simp)).at k hk8
              obtain ⟨x2, c2, f2⟩ := (TK.out.ks (V, 8) (by simp)).at k hk8
              simp only at c1 f1 c2
              have NX := hidden (fun v => (TK.out.keep (Tr.drew_blW wr)).set S 8 k (by simp) v)
              clear f2 TK
              go_upto_region 27 with fail
              go_big_region
              go_wp2_with fail
              go_roundw
              case rel => exact ⟨k + 1, by omega, by go_num, hidden (NX.out _)⟩
              case measure => simp [intOf]; omega
            · obtain rfl : k = 8 := by omega
              rw [show ((8 : Nat) : Int) = 8 from rfl]
              obtain ⟨s0, c0, f0⟩ := (TK.out.ks (S, 8) (by simp)).at 0 (by omega)
              obtain ⟨s1, c1, f1⟩ := (TK.out.ks (S, 8) (by simp)).at 1 (by omega)
              obtain ⟨s2, c2, f2⟩ := (TK.out.ks (S, 8) (by simp)).at 2 (by omega)
              obtain ⟨s3, c3, f3⟩ := (TK.out.ks (S, 8) (by simp)).at 3 (by omega)
              obtain ⟨s4, c4, f4⟩ := (TK.out.ks (S, 8) (by simp)).at 4 (by omega)
              obtain ⟨s5, c5, f5⟩ := (TK.out.ks (S, 8) (by simp)).at 5 (by omega)
              obtain ⟨s6, c6, f6⟩ := (TK.out.ks (S, 8) (by simp)).at 6 (by omega)
              obtain ⟨s7, c7, f7⟩ := (TK.out.ks (S, 8) (by simp)).at 7 (by omega)
              simp only at c0 c1 c2 c3 c4 c5 c6 c7
              clear f0 f1 f2 f3 f4 f5 f6 f7
              obtain ⟨r0, d0, g0⟩ := (TK.out.ks (S + 1, 8) (by simp)).at 0 (by omega)
              obtain ⟨r1, d1, g1⟩ := (TK.out.ks (S + 1, 8) (by simp)).at 1 (by omega)
              obtain ⟨r2, d2, g2⟩ := (TK.out.ks (S + 1, 8) (by simp)).at 2 (by omega)
              obtain ⟨r3, d3, g3⟩ := (TK.out.ks (S + 1, 8) (by simp)).at 3 (by omega)
              obtain ⟨r4, d4, g4⟩ := (TK.out.ks (S + 1, 8) (by simp)).at 4 (by omega)
              obtain ⟨r5, d5, g5⟩ := (TK.out.ks (S + 1, 8) (by simp)).at 5 (by omega)
              obtain ⟨r6, d6, g6⟩ := (TK.out.ks (S + 1, 8) (by simp)).at 6 (by omega)
              obtain ⟨r7, d7, g7⟩ := (TK.out.ks (S + 1, 8) (by simp)).at 7 (by omega)
              simp only at d0 g0 d1 g1 d2 g2 d3 g3 d4 g4 d5 g5 d6 g6 d7 g7
              have BB := hidden (((((((((TK.out.set (S + 1) 8 0 (by simp) s0).set (S + 1) 8 1 (by simp) s1).set (S + 1) 8 2 (by simp) s2).set (S + 1) 8 3 (by simp) s3).set (S + 1) 8 4 (by simp) s4).set (S + 1) 8 5 (by simp) s5).set (S + 1) 8 6 (by simp) s6).set (S + 1) 8 7 (by simp) s7)).bel
              clear TK
              go_wp2_with fail
              refine bodyPost_ret (v := .agg #[.int .u64 s0, .int .u64 s1, .int .u64 s2, .int .u64 s3, .int .u64 s4, .int .u64 s5, .int .u64 s6, .int .u64 s7]) (by simp [results, Tryz.results82, go_sem, d0, d1, d2, d3, d4, d5, d6, d7]) rfl ⟨s0, s1, s2, s3, s4, s5, s6, s7, rfl, ?_⟩
              rw [HS.out] at BB
              rw [HS.out]
              exact BB.out
end Xo
end Go.Proofs.YtkfkmndhbfeagaaGreatDoor
namespace Go.Proofs.YtkfkmndhbfeagaaGreatDoor
namespace Xo
open Go.RowKit
set_option linter.unusedVariables false
/-- bytes, whatever they are -/
def UB (xs : List Value) : Prop := ∀ u ∈ xs, ∃ x : Int, u = .int .u8 x
theorem UB.one {xs : List Value} (h : UB xs) : ∀ u ∈ xs, u.oneCell' = true := fun u hu => by
  obtain ⟨x, rfl⟩ := h u hu
  rfl
theorem UB.app {xs ys : List Value} (h : UB xs) (k : UB ys) : UB (xs ++ ys) := fun u hu => (List.mem_append.1 hu).elim (h u) (k u)
theorem own_ub {w : World} {base g n c : Nat} {xs : List Value} (h : w.ownsRow base 5 1 (.slice (some ⟨g, 0, none⟩) n c) n xs) (hu : UB xs) : ∀ j, j < n → ∃ x, w.cell? ⟨g, j, none⟩ = some (.int .u8 x) := fun j hj => by
  have hl : j < xs.length := by rw [h.1]; omega
  obtain ⟨x, hx⟩ := hu _ (List.getElem_mem hl)
  have := h.cells (g := g) rfl j _ (List.getElem?_eq_getElem hl)
  rw [Addr.add_mid, Nat.zero_add, hx] at this
  exact ⟨x, this⟩
theorem own_cells {w : World} {base g n c : Nat} {xs : List Value} (h : w.ownsRow base 5 1 (.slice (some ⟨g, 0, none⟩) n c) n xs) : ∀ j u, xs[j]? = some u → w.cell? ((⟨g, 0, none⟩ : Addr).add j) = some u := fun j u hu => h.cells (g := g) rfl j u hu
theorem ks_list {k : IntKind} {w : World} {b m : Nat} (h : Ks k w b m) : ∃ cs : List Value, cs.length = m ∧ w.rangeAt b 0 cs ∧ w.there b 0 m ∧ ∀ u ∈ cs, ∃ x, u = .int k x := by
  obtain ⟨f, hf⟩ := h
  refine ⟨(List.range m).map fun j => .int k (f j), by simp, fun j u hu => ?_, fun j hj => ?_, fun u hu => ?_⟩
  · have hj : j < m := by have := (List.getElem?_eq_some_iff.1 hu).1; simpa using this
    rw [List.getElem?_map, List.getElem?_range hj] at hu
    have hu2 : Value.int k (f j) = u := Option.some.inj hu
    rw [Nat.zero_add, ← hu2]
    exact (hf j hj).1
  · rw [Nat.zero_add]
    exact ⟨by rw [(hf j hj).1]; rfl, (hf j hj).2⟩
  · obtain ⟨j, _, rfl⟩ := List.mem_map.1 hu
    exact ⟨f j, rfl⟩
def z64 : List Value := List.replicate 64 (.int .u8 0)
theorem zv64 (w : World) : (zeroValue 104).run Tryz.prog w = .ok (.agg z64.toArray) w := by kernel_rfl
theorem wpList_alloc64 {ops : Array Oper} {rest : List Oper} {o : Oper} {a : Act} {w : World} {Q : Exit → Act → World → Prop} (hg : o.guard = none) (ho : o.op = .alloc 104) (h : wpList Tryz.prog ops Q rest (a.put o.dst (.pointer (some ⟨w.heap.size, 0, none⟩))) (w.alloc (.cells z64.toArray 104))) : wpList Tryz.prog ops Q (o :: rest) a w := by
  refine wpList_plain hg fun K hK => ?_
  have hz := zv64 w
  have hk := hK _ _ h
  generalize z64 = z at hz hk
  unfold Oper.wp execOp
  simp [ho, Instr.alloc, hz]
  exact hk
theorem i64 (cs : List Value) (h : cs.length = 64) : (Tryz.prog.info? 104).map (·.size) = some cs.length := by rw [h]; kernel_rfl
theorem i64a (cs : List Value) (h : cs.length = 64) : (Tryz.prog.info? 104).map (·.size) = some cs.toArray.size := by rw [List.size_toArray, h]; kernel_rfl
set_option maxRecDepth 100000
set_option maxHeartbeats 8000000
theorem joined_one (B G m c : Nat) (xs : List Value) (w : World) (hB : w.cell? ⟨B, 0, none⟩ = some (.slice (some ⟨G, 0, none⟩) m c)) (hx : xs.length = m) (hm : m ≤ 100) (hc : ∀ j u, xs[j]? = some u → w.cell? ((⟨G, 0, none⟩ : Addr).add j) = some u) (hu : UB xs) :
    Calls Tryz.prog 61 #[.slice (some ⟨B, 0, none⟩) 1 1] w fun e w' => ∃ v, e = .returned v ∧ w'.ownsRow w.heap.size 5 1 v m xs ∧ Below w.heap.size w w' := by
  obtain ⟨i0, hi, hz0, hz1, hz2⟩ := info8
  have HI := hidden hi
  have HZ0 := hidden hz0
  have HZ1 := hidden hz1
  have HZ2 := hidden hz2
  have HU : Hid (Tryz.prog.underlying 29 = some (.slice 5)) := hidden (by kernel_rfl)
  have CB := hidden hB
  have LX : Hid (xs.length = m * 1) := hidden (by omega)
  have CX := hidden hc
  have OX := hidden hu.one
  have MM := hidden hm
  clear hi hz0 hz1 hz2 hB hx hc hu hm
  go_enter Tryz.func61, Tryz.ntmps61
  go_wp2_with fail
  go_loopw [3, 4] (fun v kv w' => ∃ k : Nat, k ≤ 1 ∧ kv = .int .i64 (k : Int) ∧ Hid (if k = 0 then v = .slice none 0 0 ∧ w' = w else w'.ownsRow w.heap.size 5 1 v m xs ∧ Below w.heap.size w w')) (fun _ k _ => 1 - (intOf k).toNat)
  case atStart => exact ⟨0, by omega, rfl, hidden (by rw [if_pos rfl]; exact ⟨rfl, rfl⟩)⟩
  case round =>
    obtain ⟨k, hk, rfl, hw⟩ := hrel
    by_cases hk0 : k = 0
    · subst hk0
      have h := hw.out
      rw [if_pos rfl] at h
      obtain ⟨rfl, rfl⟩ := h
      have cb := CB.out
      rw [show ((0 : Nat) : Int) = 0 from rfl]
      clear hw
      go_wp2_with (first | (at_builtin; refine wpList_append_own_at _ rfl _ _ 29 rfl wr.heap.size 5 i0 (.int .u8 0) 1 1 HU.out HI.out HZ0.out HZ1.out HZ2.out rfl (by decide) (.slice none 0 0) 0 [] rfl (World.ownsRow_nil _ _ _ _) ⟨G, 0, none⟩ m c xs rfl LX.out CX.out OX.out (by have := MM.out; unfold maxLen; omega) (by have := MM.out; omega) (Nat.le_refl _) ?_; intro va we oe ge _ _; have OE := hidden oe; have GE := hidden ge; clear oe ge))
      go_roundw
      case rel => exact ⟨1, by omega, by go_num, hidden (by rw [if_neg (by omega)]; exact ⟨by have := OE.out; rw [Nat.zero_add, List.nil_append] at this; exact this, below_gr GE.out (Nat.le_refl _) (fun k hk => by cases hk)⟩)⟩
      case measure => simp [intOf]
    · obtain rfl : k = 1 := by omega
      have h := hw.out
      rw [if_neg (by omega)] at h
      have HH := hidden h
      rw [show ((1 : Nat) : Int) = 1 from rfl]
      clear h hw
      go_wp2_with fail
      refine bodyPost_ret (v := u3) (by simp [results, Tryz.results61, go_sem]) rfl ⟨u3, rfl, HH.out.1, HH.out.2⟩
end Xo
end Go.Proofs.YtkfkmndhbfeagaaGreatDoor
namespace Go.Proofs.YtkfkmndhbfeagaaGreatDoor
namespace Xo
open Go.RowKit
set_option linter.unusedVariables false
/-- Hash's memory: the answer's block, the bytes so far -/
structure Hs (w0 W0 : World) (T : Nat) (v : Value) (m : Nat) (w : World) : Prop where
  bel : Below w0.heap.size w0 w
  bel0 : Below W0.heap.size W0 w
  own : ∃ xs, w.ownsRow W0.heap.size 5 1 v m xs ∧ UB xs
theorem Hs.keep {w0 W0 : World} {T m : Nat} {v : Value} {w w' : World} (h : Hs w0 W0 T v m w) (hb : Below w.heap.size w w') : Hs w0 W0 T v m w' := by
  obtain ⟨xs, h1, h2⟩ := h.own
  exact ⟨bl_trans h.bel hb, bl_trans h.bel0 hb, xs, own_keep h1 hb, h2⟩
theorem Hs.grow {w0 W0 : World} {T m k : Nat} {v v' : Value} {xs ys : List Value} {w w' : World} (h : Hs w0 W0 T v m w) (ho : w.ownsRow W0.heap.size 5 1 v m xs) (hx : UB xs) (hy : UB ys) (hs : w0.heap.size ≤ W0.heap.size) (ho' : w'.ownsRow W0.heap.size 5 1 v' (m + k) (xs ++ ys)) (hg : w.grownBy w' v.ownBlock) : Hs w0 W0 T v' (m + k) w' :=
  ⟨below_tr h.bel (below_gr hg h.bel.size (fun b hb => Nat.le_trans hs (ho.lt b hb).1)), below_tr h.bel0 (below_gr hg h.bel0.size (fun b hb => (ho.lt b hb).1)), _, ho', hx.app hy⟩
theorem own_ubK {w : World} {base g n c : Nat} {xs : List Value} (h : w.ownsRow base 5 1 (.slice (some ⟨g, 0, none⟩) n c) n xs) (k : Ks .u8 w g n) : UB xs := fun u hu => by
  obtain ⟨j, hj, rfl⟩ := List.mem_iff_getElem.1 hu
  have h1 := h.cells (g := g) rfl j _ (List.getElem?_eq_getElem hj)
  obtain ⟨x, hx, _⟩ := k.at j (by have := h.1; omega)
  rw [Addr.add_mid, Nat.zero_add, hx] at h1
  exact ⟨x, (Option.some.inj h1).symm⟩
theorem cell_off {w : World} {b V o j : Nat} {v : Value} (h : b ≠ V) : (w.setCell ⟨V, o, none⟩ v).cell? ⟨b, j, none⟩ = w.cell? ⟨b, j, none⟩ := World.cell?_setCell_other w _ _ _ (fun e => h (by simp only [Addr.mk.injEq] at e; exact e.1.symm))
theorem Ks.off {k : IntKind} {w : World} {b m V o : Nat} {v : Value} (h : Ks k w b m) (hb : b ≠ V) : Ks k (w.setCell ⟨V, o, none⟩ v) b m := by
  obtain ⟨f, hf⟩ := h
  refine ⟨f, fun j hj => ⟨by rw [cell_off hb]; exact (hf j hj).1, ?_⟩⟩
  rw [World.frozen?_setCell]
  exact (hf j hj).2
/-- Hash's memory while the blocks are taken -/
structure Hp (w0 : World) (T V g : Nat) (w : World) : Prop where
  bel : Below w0.heap.size w0 w
  kt : Ks .u8 w T 64
  kv : Ks .u64 w V 8
  kb : ∀ j, j < 128 → ∃ x, w.cell? ⟨g, j, none⟩ = some (.int .u8 x)
structure Hn (w0 : World) (T V g : Nat) : Prop where
  n1 : w0.heap.size ≤ V
  n2 : w0.heap.size ≤ T
  n3 : T ≠ V
  n4 : g ≠ V
theorem Hp.keep {w0 : World} {T V g : Nat} {w w' : World} (h : Hp w0 T V g w) (hb : Below w.heap.size w w') : Hp w0 T V g w' := ⟨bl_trans h.bel hb, h.kt.keep hb, h.kv.keep hb, fun j hj => (h.kb j hj).imp fun x hx => cell_keep hx hb⟩
theorem Hp.set {w0 : World} {T V g : Nat} {w : World} (h : Hp w0 T V g w) (n : Hn w0 T V g) (o : Nat) (v : Int) : Hp w0 T V g (w.setCell ⟨V, o, none⟩ (.int .u64 v)) := ⟨h.bel.setCell (p := ⟨V, o, none⟩) n.n1 _, h.kt.off n.n3, h.kv.set V o v, fun j hj => (h.kb j hj).imp fun x hx => by rw [cell_off n.n4]; exact hx⟩
/-- .. and while the answer is laid -/
structure Hr (w0 : World) (T V R : Nat) (w : World) : Prop where
  bel : Below w0.heap.size w0 w
  kt : Ks .u8 w T 64
  kv : Ks .u64 w V 8
  kr : Ks .u8 w R 64
  lr : w0.heap.size ≤ R
  lt : w0.heap.size ≤ T
  ne : V ≠ R
theorem Hr.keep {w0 : World} {T V R : Nat} {w w' : World} (h : Hr w0 T V R w) (hb : Below w.heap.size w w') : Hr w0 T V R w' := ⟨bl_trans h.bel hb, h.kt.keep hb, h.kv.keep hb, h.kr.keep hb, h.lr, h.lt, h.ne⟩
theorem Hr.set {w0 : World} {T V R : Nat} {w : World} (h : Hr w0 T V R w) (o : Nat) (v : Int) : Hr w0 T V R (w.setCell ⟨R, o, none⟩ (.int .u8 v)) := ⟨h.bel.setCell (p := ⟨R, o, none⟩) h.lr _, h.kt.set R o v, h.kv.off h.ne, h.kr.set R o v, h.lr, h.lt, h.ne⟩
theorem tmodS (m : Nat) (h : m < 128) : (m : Int).tmod 128 = (m : Int) := Int.tmod_eq_of_lt (by omega) (by omega)
set_option maxRecDepth 100000
set_option maxHeartbeats 16000000
theorem hash_any (G c : Nat) (xs : List Value) (w : World) (hH : Hg w) (hx : xs.length = 4) (hc : ∀ j u, xs[j]? = some u → w.cell? ((⟨G, 0, none⟩ : Addr).add j) = some u) (hu : UB xs) :
    Calls Tryz.prog 60 #[.slice (some ⟨G, 0, none⟩) 4 c] w fun e w' => ∃ cs : List Value, e = .returned (.agg cs.toArray) ∧ cs.length = 64 ∧ UB cs ∧ Below w.heap.size w w' := by
  obtain ⟨i0, hi, hz0, hz1, hz2⟩ := info8
  have HI := hidden hi
  have HZ0 := hidden hz0
  have HZ1 := hidden hz1
  have HZ2 := hidden hz2
  have HU : Hid (Tryz.prog.underlying 29 = some (.slice 5)) := hidden (by kernel_rfl)
  have LX : Hid (xs.length = 4 * 1) := hidden (by omega)
  have B0 := bl_alloc w (.cells z64.toArray 104)
  have CX : Hid (∀ j u, xs[j]? = some u → (w.alloc (.cells z64.toArray 104)).cell? ((⟨G, 0, none⟩ : Addr).add j) = some u) := hidden (fun j u h => by have h9 := hc j u h; rw [Addr.add_mid] at h9 ⊢; exact cell_keep h9 B0)
  have UX := hidden hu
  have HG := hidden (hH.keep B0)
  have HW := hidden hH
  have KT := hidden (Ks.new .u8 w 64 104)
  have BB := hidden B0
  clear hi hz0 hz1 hz2 hH hx hc hu B0
  go_enter Tryz.func60, Tryz.ntmps60
  go_upto_region 1 with (first | refine wpList_alloc64 rfl rfl ?_)
  have KT2 : Hid (Ks .u8 (w.alloc (.cells z64.toArray 104)) w.heap.size 64) := hidden KT.out
  clear KT
  have SZ : Hid (w.heap.size ≤ (w.alloc (.cells z64.toArray 104)).heap.size) := hidden BB.out.size
  generalize w.alloc (.cells z64.toArray 104) = W0 at *
  obtain ⟨T, hT⟩ : ∃ T, w.heap.size = T := ⟨_, rfl⟩
  have ET := hidden hT
  rw [hT] at KT2 ⊢
  clear hT
  go_upto_region 2 with (first | (at_builtin; refine wpList_append_own_at _ rfl _ _ 29 rfl W0.heap.size 5 i0 (.int .u8 0) 1 1 HU.out HI.out HZ0.out HZ1.out HZ2.out rfl (by decide) (.slice none 0 0) 0 [] rfl (World.ownsRow_nil _ _ _ _) ⟨G, 0, none⟩ 4 c xs rfl LX.out CX.out UX.out.one (by unfold maxLen; omega) (by omega) (Nat.le_refl _) ?_; intro v1 w1 oe ge _ _; have H1 : Hid (Hs w W0 T v1 4 w1) := hidden ⟨below_tr BB.out (below_gr ge SZ.out (fun k hk => by cases hk)), below_gr ge (Nat.le_refl _) (fun k hk => by cases hk), xs, by (rw [Nat.zero_add, List.nil_append] at oe; exact oe), UX.out⟩; clear oe ge))
  obtain ⟨ys, o1, u1⟩ := H1.out.own
  have O2 := hidden (own_keep o1 (bl_alloc w1 (.cells #[.int .u8 128] 5)))
  have H2 := hidden (H1.out.keep (bl_alloc w1 (.cells #[.int .u8 128] 5)))
  have C2 := hidden (cells_newP w1 [.int .u8 128] 5)
  have U1 := hidden u1
  have U2 : Hid (UB [.int .u8 128]) := hidden (fun u hu => ⟨128, by simpa using hu⟩)
  clear o1 u1 H1 CX UX LX
  go_upto_region 3 with (first | (at_builtin; refine wpList_append_own_at _ rfl _ _ 29 rfl W0.heap.size 5 i0 (.int .u8 0) 1 1 HU.out HI.out HZ0.out HZ1.out HZ2.out rfl (by decide) v1 4 _ rfl O2.out ⟨w1.heap.size, 0, none⟩ 1 1 [.int .u8 128] rfl rfl C2.out U2.out.one (by unfold maxLen; omega) (by omega) H2.out.bel0.size ?_; intro v2 w2 oe ge _ _; have H3 := hidden (H2.out.grow O2.out U1.out U2.out SZ.out oe ge); clear oe ge))
  clear O2 H2 C2 U1 U2
  go_loopw [3] (fun v w' => ∃ m : Nat, 5 ≤ m ∧ m ≤ 112 ∧ Hid (Hs w W0 T v m w')) (fun v w' => 112 - (match v with | .slice _ n _ => n | _ => 0))
  case atStart => exact ⟨5, by omega, by omega, H3⟩
  case round =>
    clear H3
    obtain ⟨m, hm5, hm, H3⟩ := hrel
    obtain ⟨ys, o1, u1⟩ := H3.out.own
    obtain ⟨g1, c1, rfl, hnc⟩ := own_some o1 (by omega)
    have tm := tmodS m (by omega)
    by_cases hm2 : m < 112
    · have tn : ((m : Int) != 112) = true := by simp; omega
      have O2 := hidden (own_keep o1 (bl_alloc wr (.cells #[.int .u8 0] 5)))
      have H2 := hidden (H3.out.keep (bl_alloc wr (.cells #[.int .u8 0] 5)))
      have C2 := hidden (cells_newP wr [.int .u8 0] 5)
      have U1 := hidden u1
      have U2 : Hid (UB [.int .u8 0]) := hidden (fun u hu => ⟨0, by simpa using hu⟩)
      have MB : Hid (m + 1 ≤ maxLen ∧ (m + 1) * 1 ≤ 140737488355328) := hidden (by unfold maxLen; omega)
      clear o1 u1 H3 hnc
      go_wp2_with (first | (at_builtin; refine wpList_append_own_at _ rfl _ _ 29 rfl W0.heap.size 5 i0 (.int .u8 0) 1 1 HU.out HI.out HZ0.out HZ1.out HZ2.out rfl (by decide) _ m _ rfl O2.out ⟨wr.heap.size, 0, none⟩ 1 1 [.int .u8 0] rfl rfl C2.out U2.out.one MB.out.1 MB.out.2 H2.out.bel0.size ?_; intro v2 w2 oe ge _ _; have H4 := hidden (H2.out.grow O2.out U1.out U2.out SZ.out oe ge); obtain ⟨P4, c4, rfl⟩ := own_sh oe; clear oe ge))
      go_roundw
      case rel => exact ⟨m + 1, by omega, by omega, H4⟩
      case measure => simp; omega
    · obtain rfl : m = 112 := by omega
      have tn : ((112 : Nat) : Int) = 112 := rfl
      rw [tn] at tm
      have H4 := hidden H3.out
      have O4 := hidden o1
      have U4 := hidden u1
      clear o1 u1 hnc hm hm5 hm2 H3
      go_upto_region 6 with (first | (go_at_call 81; refine (number_new _ _).mono ?_; rintro e w3 ⟨g2, ys2, rfl, o2, k2, e2, hb⟩; have O5 := hidden (own_keep O4.out hb); have H5 := hidden (H4.out.keep hb); have C5 := hidden (own_cells o2); have U5 := hidden (own_ubK o2 k2); have L5 := hidden o2.1; clear o2 k2 e2 hb O4 H4) | (at_builtin; refine wpList_append_own_at _ rfl _ _ 29 rfl W0.heap.size 5 i0 (.int .u8 0) 1 1 HU.out HI.out HZ0.out HZ1.out HZ2.out rfl (by decide) _ 112 _ rfl O5.out ⟨g2, 0, none⟩ 8 8 ys2 rfl L5.out C5.out U5.out.one (by unfold maxLen; omega) (by omega) H5.out.bel0.size ?_; intro v6 w4 oe ge _ _; have H6 := hidden (H5.out.grow O5.out U4.out U5.out SZ.out oe ge); have O6 := hidden oe; have U6 := hidden (U4.out.app U5.out); clear oe ge O5 C5 U5 L5 U4 H5))
      obtain ⟨g6, c6, rfl, hn6⟩ := own_some O6.out (by omega)
      clear hn6
      go_upto_region 7 with (first | (go_at_call 81; refine (number_new _ _).mono ?_; rintro e w5 ⟨g7, ys7, rfl, o2, k2, e2, hb⟩; have O7 := hidden (own_keep O6.out hb); have H7 := hidden (H6.out.keep hb); have C7 := hidden (own_cells o2); have U7 := hidden (own_ubK o2 k2); have L7 := hidden o2.1; clear o2 k2 e2 hb O6 H6) | (at_builtin; refine wpList_append_own_at _ rfl _ _ 29 rfl W0.heap.size 5 i0 (.int .u8 0) 1 1 HU.out HI.out HZ0.out HZ1.out HZ2.out rfl (by decide) _ (112 + 8) _ rfl O7.out ⟨g7, 0, none⟩ 8 8 ys7 rfl L7.out C7.out U7.out.one (by unfold maxLen; omega) (by omega) H7.out.bel0.size ?_; intro v8 w6 oe ge _ _; have H8 := hidden (H7.out.grow O7.out U6.out U7.out SZ.out oe ge); have O8 := hidden oe; have U8 := hidden (U6.out.app U7.out); clear oe ge O7 C7 U7 L7 U6 H7))
      obtain ⟨g8, c8, rfl, hn8⟩ := own_some O8.out (by omega)
      clear hn8
      have KB := hidden (own_ub O8.out U8.out)
      have KT3 := hidden (KT2.out.keep H8.out.bel0)
      have B8 := hidden H8.out.bel
      have G8 := hidden (HW.out.keep H8.out.bel)
      have GL : Hid (g8 < w6.heap.size) := hidden (O8.out.lt g8 rfl).2
      clear H8 O8 U8 KT2
      obtain ⟨h0, c0⟩ := G8.out.1 0 (by omega)
      obtain ⟨h1, c1⟩ := G8.out.1 1 (by omega)
      obtain ⟨h2, c2⟩ := G8.out.1 2 (by omega)
      obtain ⟨h3, c3⟩ := G8.out.1 3 (by omega)
      obtain ⟨h4, c4⟩ := G8.out.1 4 (by omega)
      obtain ⟨h5, c5⟩ := G8.out.1 5 (by omega)
      obtain ⟨h6, c6⟩ := G8.out.1 6 (by omega)
      obtain ⟨h7, c7⟩ := G8.out.1 7 (by omega)
      have P0 : Hid (Hp w T w6.heap.size g8 (w6.alloc (.cells #[.int .u64 h0, .int .u64 h1, .int .u64 h2, .int .u64 h3, .int .u64 h4, .int .u64 h5, .int .u64 h6, .int .u64 h7] 141))) := hidden ⟨bl_trans B8.out (bl_alloc _ _), KT3.out.keep (bl_alloc _ _), ks_eight w6 h0 h1 h2 h3 h4 h5 h6 h7 141, fun j hj => (KB.out j (by omega)).imp fun x hx => cell_keep hx (bl_alloc _ _)⟩
      have HN : Hid (Hn w T w6.heap.size g8) := hidden ⟨B8.out.size, by rw [ET.out]; exact Nat.le_refl _, Nat.ne_of_lt (KT3.out.lt (by omega)), Nat.ne_of_lt GL.out⟩
      go_upto_region 8 with fail
      generalize w6.alloc (.cells #[.int .u64 h0, .int .u64 h1, .int .u64 h2, .int .u64 h3, .int .u64 h4, .int .u64 h5, .int .u64 h6, .int .u64 h7] 141) = w7 at *
      generalize w6.heap.size = V at *
      clear c0 c1 c2 c3 c4 c5 c6 c7 KB KT3 B8 G8 GL
      rw [show 112 + 8 + 8 = 128 from rfl]
      go_wp2_with fail
      go_loopw [5] (fun kv w' => ∃ k : Nat, k ≤ 1 ∧ kv = .int .i64 (128 * (k : Int)) ∧ Hid (Hp w T V g8 w')) (fun k _ => 128 - (intOf k).toNat)
      case atStart => exact ⟨0, by omega, by go_num, P0⟩
      case round =>
        clear P0
        obtain ⟨k, hk, rfl, P0⟩ := hrel
        by_cases hk0 : k = 0
        · subst hk0
          rw [show 128 * ((0 : Nat) : Int) = 0 from rfl]
          obtain ⟨h0, c0, f0⟩ := P0.out.kv.at 0 (by omega)
          obtain ⟨h1, c1, f1⟩ := P0.out.kv.at 1 (by omega)
          obtain ⟨h2, c2, f2⟩ := P0.out.kv.at 2 (by omega)
          obtain ⟨h3, c3, f3⟩ := P0.out.kv.at 3 (by omega)
          obtain ⟨h4, c4, f4⟩ := P0.out.kv.at 4 (by omega)
          obtain ⟨h5, c5, f5⟩ := P0.out.kv.at 5 (by omega)
          obtain ⟨h6, c6, f6⟩ := P0.out.kv.at 6 (by omega)
          obtain ⟨h7, c7, f7⟩ := P0.out.kv.at 7 (by omega)
          clear f0 f1 f2 f3 f4 f5 f6 f7
          have TA : Hid (Calls Tryz.prog 82 #[.agg #[.int .u64 h0, .int .u64 h1, .int .u64 h2, .int .u64 h3, .int .u64 h4, .int .u64 h5, .int .u64 h6, .int .u64 h7], .slice (some ⟨g8, 0, none⟩) 128 c8, .int .i64 0] wr fun e w' => ∃ b0 b1 b2 b3 b4 b5 b6 b7 : Int, e = .returned (.agg #[.int .u64 b0, .int .u64 b1, .int .u64 b2, .int .u64 b3, .int .u64 b4, .int .u64 b5, .int .u64 b6, .int .u64 b7]) ∧ Below wr.heap.size wr w') := hidden (take_any h0 h1 h2 h3 h4 h5 h6 h7 g8 128 c8 0 wr (HW.out.keep P0.out.bel) P0.out.kb (by omega) (by omega))
          go_wp2_with (first | (go_at_call 82; refine TA.out.mono ?_; rintro e wa ⟨b0, b1, b2, b3, b4, b5, b6, b7, rfl, hb⟩; replace P0 := hidden (P0.out.keep hb); clear hb TA c0 c1 c2 c3 c4 c5 c6 c7; obtain ⟨x0, c0, f0⟩ := P0.out.kv.at 0 (by omega); obtain ⟨x1, c1, f1⟩ := P0.out.kv.at 1 (by omega); obtain ⟨x2, c2, f2⟩ := P0.out.kv.at 2 (by omega); obtain ⟨x3, c3, f3⟩ := P0.out.kv.at 3 (by omega); obtain ⟨x4, c4, f4⟩ := P0.out.kv.at 4 (by omega); obtain ⟨x5, c5, f5⟩ := P0.out.kv.at 5 (by omega); obtain ⟨x6, c6, f6⟩ := P0.out.kv.at 6 (by omega); obtain ⟨x7, c7, f7⟩ := P0.out.kv.at 7 (by omega); have NX := hidden (((((((((P0.out.set HN.out 0 b0).set HN.out 1 b1).set HN.out 2 b2).set HN.out 3 b3).set HN.out 4 b4).set HN.out 5 b5).set HN.out 6 b6).set HN.out 7 b7))))
          go_roundw
          case rel => exact ⟨1, by omega, by go_num, NX⟩
          case measure => simp [intOf]
        · obtain rfl : k = 1 := by omega
          rw [show 128 * ((1 : Nat) : Int) = 128 from rfl]
          go_upto_region 13 with (first | refine wpList_alloc64 rfl rfl ?_)
          have R0 : Hid (Hr w T V wr.heap.size (wr.alloc (.cells z64.toArray 104))) := hidden ⟨bl_trans P0.out.bel (bl_alloc _ _), P0.out.kt.keep (bl_alloc _ _), P0.out.kv.keep (bl_alloc _ _), Ks.new .u8 wr 64 104, P0.out.bel.size, HN.out.n2, Nat.ne_of_lt (P0.out.kv.lt (by omega))⟩
          generalize wr.alloc (.cells z64.toArray 104) = w8 at *
          generalize wr.heap.size = R at *
          clear P0
          go_wp2_with fail
          go_loopw [7] (fun kv w' => ∃ k : Nat, k ≤ 8 ∧ kv = .int .i64 (k : Int) ∧ Hid (Hr w T V R w')) (fun k _ => 8 - (intOf k).toNat)
          case atStart => exact ⟨0, by omega, rfl, R0⟩
          case round =>
            clear R0
            obtain ⟨k, hk, rfl, R0⟩ := hrel
            by_cases hk8 : k < 8
            · have k0 : (0 : Int) ≤ (k : Int) := by omega
              have k1 : (k : Int) < 8 := by omega
              have w9 : IntKind.i64.wrap ((k : Int) + 1) = (k : Int) + 1 := IntWalk.i64_in _ (by omega)
              have w8k : IntKind.i64.wrap (8 * (k : Int)) = 8 * (k : Int) := IntWalk.i64_in _ (by omega)
              obtain ⟨hv, ch, _⟩ := R0.out.kv.at k hk8
              go_upto_region 17 with (first | (go_at_call 81; refine (number_new _ _).mono ?_; rintro e w10 ⟨gx, ysx, rfl, o2, k2, e2, hb⟩; have R1 := hidden (R0.out.keep hb); have KX := hidden k2; clear o2 k2 e2 hb ch R0))
              go_wp2_with fail
              go_loopw [9] (fun jv w' => ∃ j : Nat, j ≤ 8 ∧ jv = .int .i64 (j : Int) ∧ Hid (Hr w T V R w') ∧ Hid (Ks .u8 w' gx 8)) (fun j _ => 8 - (intOf j).toNat)
              case atStart => exact ⟨0, by omega, rfl, R1, KX⟩
              case round =>
                clear R1 KX
                obtain ⟨j, hj, rfl, R1, KX⟩ := hrel
                by_cases hj8 : j < 8
                · have j0 : (0 : Int) ≤ (j : Int) := by omega
                  have j1 : (j : Int) < 8 := by omega
                  have x9 : IntKind.i64.wrap ((j : Int) + 1) = (j : Int) + 1 := IntWalk.i64_in _ (by omega)
                  have x8 : IntKind.i64.wrap (8 * (k : Int) + (j : Int)) = ((8 * k + j : Nat) : Int) := by rw [IntWalk.i64_in _ (by omega)]; omega
                  have x7 : (0 : Int) ≤ ((8 * k + j : Nat) : Int) := by omega
                  have x6 : ((8 * k + j : Nat) : Int) < 64 := by omega
                  obtain ⟨yv, cy, _⟩ := KX.out.at j hj8
                  obtain ⟨zv, cz, fz⟩ := R1.out.kr.at (8 * k + j) (by omega)
                  have NX := hidden (R1.out.set (8 * k + j) yv)
                  have NK := hidden (KX.out.set R (8 * k + j) yv)
                  generalize 8 * k + j = q at *
                  clear R1 KX
                  go_wp2_with fail
                  go_roundw
                  case rel => exact ⟨j + 1, by omega, by go_num, NX, NK⟩
                  case measure => simp [intOf]; omega
                · obtain rfl : j = 8 := by omega
                  rw [show ((8 : Nat) : Int) = 8 from rfl]
                  go_wp2_with fail
                  go_roundw
                  case rel => exact ⟨k + 1, by omega, by go_num, R1⟩
                  case measure => simp [intOf]; omega
            · obtain rfl : k = 8 := by omega
              rw [show ((8 : Nat) : Int) = 8 from rfl]
              obtain ⟨cs, l1, r1, t1, u1⟩ := ks_list R0.out.kr
              obtain ⟨ds, l2, r2, t2, u2⟩ := ks_list R0.out.kt
              have M0 : Mw w [(T, ds)] wr := ⟨R0.out.bel, fun p hp => by
                rcases List.mem_singleton.1 hp with rfl
                exact ⟨r2, by rw [l2]; exact t2, R0.out.lt, R0.out.kt.lt (by omega)⟩⟩
              have M1 := M0.set (M := []) cs (c := T) (o := ds) (by simp) (by rw [l1, l2]) (fun p hp => by cases hp)
              have TH := hidden (M0.ther cs (c := T) (o := ds) (by simp) (by rw [l1, l2]))
              have LD := hidden (M1.var (c := T) (ds := cs) (by simp) Tryz.underlying104 rfl (i64 cs l1))
              have BL := hidden M1.bel
              have RN := hidden r1
              have I1 := hidden (i64 cs l1)
              have I2 := hidden (i64a cs l1)
              have UC : Hid (UB cs) := hidden u1
              have O2 : Hid (cs.toArray.all (·.oneCell') = true) := hidden (by simpa using (UB.one u1))
              have UE : Hid (Tryz.prog.underlying 104 = _) := hidden Tryz.underlying104
              have L1 := hidden l1
              clear M0 M1 r1 r2 t1 t2 u1 u2 l1 l2 R0
              go_wp2_with (first | refine wpList_load_mid rfl 104 _ rfl R 0 (by rfl) cs _ RN.out UE.out rfl I1.out ?_ | refine wpList_store_mid rfl 104 _ _ rfl T 0 cs.toArray (by rfl) (by rfl) TH.out I2.out O2.out ?_)
              refine bodyPost_ret (v := .agg cs.toArray) (results_cellM Tryz.results60 _ _ _ _ _ (by rfl) LD.out) rfl ⟨cs, rfl, L1.out, UC.out, BL.out⟩
end Xo
end Go.Proofs.YtkfkmndhbfeagaaGreatDoor
