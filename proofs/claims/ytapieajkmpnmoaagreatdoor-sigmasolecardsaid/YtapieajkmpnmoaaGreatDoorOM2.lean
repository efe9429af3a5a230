import Derived.Test.YtapieajkmpnmoaaGreatDoorOM1
import Derived.Laws.Cover1
namespace Go.Proofs.YtapieajkmpnmoaaGreatDoor
open Go.RowKit
set_option linter.unusedVariables false
set_option maxRecDepth 100000 in
set_option maxHeartbeats 2000000 in
theorem greatest_any (b n : Nat) (d : Nat → Int) (M : Int) (hM : ∀ j, j < n → -M ≤ d j ∧ d j ≤ M) (hM0 : 0 ≤ M) (hM1 : M ≤ 4096) (hn : n ≤ 300) (w : World) (hR : Rwi w b n d) :
    Calls Tryz.prog 59 #[.slice (some ⟨b, 0, none⟩) n n] w fun e w' => ∃ t : Int, e = .returned (.int .i64 t) ∧ 0 ≤ t ∧ t ≤ M ∧ (∀ j, j < n → -t ≤ d j ∧ d j ≤ t) ∧ Below w.heap.size w w' := by
  have HM := hidden hM
  have HN : Hid (0 ≤ M ∧ M ≤ 4096 ∧ n ≤ 300) := hidden ⟨hM0, hM1, hn⟩
  have HR := hidden hR
  clear hM hM0 hM1 hn hR
  go_enter Tryz.func59, Tryz.ntmps59
  go_wp2_with fail
  go_loopw [3, 8] (fun tv iv w' => ∃ (t : Int) (i : Nat), i ≤ n ∧ tv = .int .i64 t ∧ iv = .int .i64 i ∧ Hid (0 ≤ t ∧ t ≤ M ∧ ∀ j, j < i → -t ≤ d j ∧ d j ≤ t) ∧ Hid (Below w.heap.size w w')) (fun _ i _ => n - (intOf i).toNat)
  case atStart => exact ⟨0, 0, by omega, rfl, rfl, hidden ⟨by omega, HN.out.1, fun j hj => by omega⟩, hidden (Below.refl _ _)⟩
  case round =>
    obtain ⟨t, i, hi, rfl, rfl, HT, B0⟩ := hrel
    by_cases hin : i < n
    · have i0 : (0 : Int) ≤ (i : Int) := by omega
      have i1 : (i : Int) < (n : Int) := by omega
      have w9 : IntKind.i64.wrap ((i : Int) + 1) = (i : Int) + 1 := IntWalk.i64_in _ (by have := HN.out; omega)
      have c0 := cell_keep (HR.out.c i hin) B0.out
      have f0 := HM.out i hin
      obtain ⟨z, hz⟩ : ∃ z, d i = z := ⟨_, rfl⟩
      rw [hz] at c0 f0
      have wn : IntKind.i64.wrap (-z) = -z := IntWalk.i64_in _ (by have := HN.out; omega)
      have HZ := hidden hz
      have F0 := hidden f0
      have HIN := hidden hin
      clear hz f0 hin hi
      go_wp2_with fail
      all_goals
        go_roundw
        case rel =>
          refine ⟨_, i + 1, by have := HIN.out; omega, rfl, by go_num, hidden ⟨by have := HT.out; have := F0.out; omega, by have := HT.out; have := F0.out; omega, fun j hj => ?_⟩, B0⟩
          by_cases e : j = i
          · subst e; rw [HZ.out]; have := HT.out.1; omega
          · have := HT.out.2.2 j (by omega); omega
        case measure => have := HIN.out; simp [intOf]; omega
    · obtain rfl : i = n := by omega
      have lq : ¬ (i : Int) < (i : Int) := by omega
      go_wp2_with fail
      refine bodyPost_ret (v := .int .i64 t) (by simp [results, Tryz.results59, go_sem]) rfl ⟨t, rfl, HT.out.1, HT.out.2.1, HT.out.2.2, B0.out⟩
end Go.Proofs.YtapieajkmpnmoaaGreatDoor
namespace Go.Proofs.YtapieajkmpnmoaaGreatDoor
open Go.RowKit
set_option linter.unusedVariables false
theorem Fr.apart {w w' : World} {D : Nat} {V : Value} {x : Nat → Int} (h : Fr w V x) (no : ∀ o z, w.cell? ⟨D, o, none⟩ ≠ some (.int .u64 z)) (hg : w.grownBy w' (some D)) : Fr w' V x := by
  refine h.keepG D hg ?_
  rintro P n c rfl hn a rfl he
  obtain ⟨P', n', c', g, h1, h2, -⟩ := h
  simp only [Value.agg.injEq, Array.mk.injEq, List.cons.injEq, Value.slice.injEq, and_true] at h1
  obtain ⟨rfl, rfl, rfl⟩ := h1
  obtain ⟨sb, so, h4, h5⟩ := h2
  have e := h4 hn
  simp only [Option.some.injEq] at e
  subst e
  simp only at he
  subst he
  exact no _ _ ((h5 hn).c0 0 hn)
/-- a row of elements of Free, the first i of them multiples -/
structure Ml (w : World) (D K i : Nat) (f : Nat → Int) : Prop where
  s : ∀ j, j < i → ∃ (P : Option Addr) (n c : Nat), w.cell? ⟨D, j, none⟩ = some (.slice P n c) ∧ Fr w (.agg #[.slice P n c]) (fun t => ((j : Int) + 1) * f t)
  z : ∀ j, j < K → ∃ (P : Option Addr) (n c : Nat), w.cell? ⟨D, j, none⟩ = some (.slice P n c)
  fr : ∀ j, j < K → w.frozen? ⟨D, j, none⟩ = false
  no : ∀ o z, w.cell? ⟨D, o, none⟩ ≠ some (.int .u64 z)
  lt : D < w.heap.size
theorem Ml.hand {w w' : World} {D K i H : Nat} {f : Nat → Int} (h : Ml w D K i f) (hH : Hd w H) (hg : w.grownBy w' (some H)) (hn : D ≠ H) : Ml w' D K i f := by
  have e : ∀ o, w'.cell? ⟨D, o, none⟩ = w.cell? ⟨D, o, none⟩ := fun o => World.cell?_of_block (hg.block D h.lt (fun e => hn (Option.some.inj e)))
  have e2 : ∀ o, w'.frozen? ⟨D, o, none⟩ = w.frozen? ⟨D, o, none⟩ := fun o => World.frozen?_of_block (hg.block D h.lt (fun e => hn (Option.some.inj e)))
  refine ⟨fun j hj => ?_, fun j hj => by rw [e]; exact h.z j hj, fun j hj => by rw [e2]; exact h.fr j hj, fun o z => by rw [e]; exact h.no o z, Nat.lt_of_lt_of_le h.lt hg.size⟩
  obtain ⟨P, n, c, h1, h2⟩ := h.s j hj
  exact ⟨P, n, c, by rw [e]; exact h1, h2.hand hH hg⟩
theorem Ml.keep {w w' : World} {D K i : Nat} {f : Nat → Int} (h : Ml w D K i f) (hb : Below w.heap.size w w') : Ml w' D K i f := by
  have e : ∀ o, w'.cell? ⟨D, o, none⟩ = w.cell? ⟨D, o, none⟩ := fun o => (bcell hb).1 D o h.lt
  have e2 : ∀ o, w'.frozen? ⟨D, o, none⟩ = w.frozen? ⟨D, o, none⟩ := fun o => (bcell hb).2 D o h.lt
  refine ⟨fun j hj => ?_, fun j hj => by rw [e]; exact h.z j hj, fun j hj => by rw [e2]; exact h.fr j hj, fun o z => by rw [e]; exact h.no o z, Nat.lt_of_lt_of_le h.lt hb.size⟩
  obtain ⟨P, n, c, h1, h2⟩ := h.s j hj
  exact ⟨P, n, c, by rw [e]; exact h1, h2.keep hb⟩
theorem Ml.put {w : World} {D K i : Nat} {f x : Nat → Int} (h : Ml w D K i f) (hi : i < K) {P : Option Addr} {n c : Nat} (hF : Fr w (.agg #[.slice P n c]) x) (hx : ∀ t, lst (x t) = lst (((i : Int) + 1) * f t)) : Ml (w.setCell ⟨D, i, none⟩ (.slice P n c)) D K (i + 1) f := by
  obtain ⟨P0, n0, c0, hc⟩ := h.z i hi
  have e : ∀ o, o ≠ i → (w.setCell ⟨D, i, none⟩ (.slice P n c)).cell? ⟨D, o, none⟩ = w.cell? ⟨D, o, none⟩ := fun o ho => World.cell?_setCell_other w _ _ _ (by simp <;> omega)
  have e1 : (w.setCell ⟨D, i, none⟩ (.slice P n c)).cell? ⟨D, i, none⟩ = some (.slice P n c) := World.cell?_setCell_same _ _ _ hc
  refine ⟨fun j hj => ?_, fun j hj => ?_, fun j hj => by rw [World.frozen?_setCell]; exact h.fr j hj, fun o z => ?_, by simpa using h.lt⟩
  · by_cases ej : j = i
    · subst ej
      exact ⟨P, n, c, e1, (hF.apart h.no (gb_set _ _ _ _)).congr hx⟩
    · obtain ⟨P1, n1, c1, h1, h2⟩ := h.s j (by omega)
      exact ⟨P1, n1, c1, by rw [e j ej]; exact h1, h2.apart h.no (gb_set _ _ _ _)⟩
  · by_cases ej : j = i
    · subst ej; exact ⟨_, _, _, e1⟩
    · rw [e j ej]; exact h.z j hj
  · by_cases ej : o = i
    · subst ej; rw [e1]; simp
    · rw [e o ej]; exact h.no o z
theorem Ml.made (w : World) (K : Nat) (t : TypeId) (f : Nat → Int) : Ml (w.alloc (.cells (madeCells #[.slice none 0 0] K) t)) w.heap.size K 0 f := by
  have h := World.rowIs_made w (.slice none 0 0) K t
  have hh : ∀ o z, (w.alloc (.cells (madeCells #[.slice none 0 0] K) t)).cell? ⟨w.heap.size, o, none⟩ ≠ some (.int .u64 z) := fun o z => by
    by_cases ho : o < K
    · rw [h.cell ho]; simp
    · rw [cell_of_row (w.alloc (.cells (madeCells #[.slice none 0 0] K) t)) w.heap.size o _ t (0, 0) (heap_alloc_new w _)]
      simp [madeCells, ho]
  exact ⟨fun j hj => by omega, fun j hj => ⟨none, 0, 0, h.cell hj⟩, fun j hj => h.frozen j, hh, by simp⟩
def mu5o : Array Oper := #[{ dst := some 16, op := Op.move (Operand.tmp 7), type := 27, pos := "ways.go:100", after := #[], guard := none },
  { dst := some 17, op := Op.move (Operand.tmp 8), type := 3, pos := "ways.go:100", after := #[], guard := none },
  { dst := some 18, op := Op.move (Operand.tmp 0), type := 107, pos := "ways.go:100", after := #[], guard := none },
  { dst := some 19, op := Op.move (Operand.tmp 7), type := 27, pos := "ways.go:100", after := #[], guard := none },
  { dst := some 20, op := Op.move (Operand.tmp 8), type := 3, pos := "ways.go:100", after := #[], guard := none },
  { dst := some 21, op := Op.binOp BinOp.sub 3 (Operand.tmp 20) (Operand.const (Value.int IntKind.i64 1)) 3, type := 3, pos := "ways.go:100", after := #[{ on := 4, ground := Ground.data }], guard := none },
  { dst := some 22, op := Op.indexAddr 27 (Operand.tmp 19) (Operand.tmp 21), type := 0, pos := "ways.go:100", after := #[{ on := 3, ground := Ground.data }, { on := 5, ground := Ground.data }], guard := none },
  { dst := some 23, op := Op.load 32 (Operand.tmp 22), type := 32, pos := "ways.go:100", after := #[{ on := 6, ground := Ground.data }], guard := none },
  { dst := some 24, op := Op.load 32 (Operand.tmp 4), type := 32, pos := "ways.go:100", after := #[], guard := none },
  { dst := some 25, op := Op.call { callee := Callee.value (Operand.func 42), args := #[Operand.tmp 18, Operand.tmp 23, Operand.tmp 24], argTypes := #[107, 32, 32] }, type := 32, pos := "ways.go:100", after := #[{ on := 2, ground := Ground.data }, { on := 7, ground := Ground.data }, { on := 8, ground := Ground.data }], guard := none },
  { dst := some 26, op := Op.indexAddr 27 (Operand.tmp 16) (Operand.tmp 17), type := 0, pos := "ways.go:100", after := #[{ on := 0, ground := Ground.data }, { on := 1, ground := Ground.data }, { on := 0, ground := Ground.phase }, { on := 1, ground := Ground.phase }, { on := 2, ground := Ground.phase }, { on := 3, ground := Ground.phase }, { on := 4, ground := Ground.phase }, { on := 5, ground := Ground.phase }, { on := 6, ground := Ground.phase }, { on := 7, ground := Ground.phase }, { on := 8, ground := Ground.phase }, { on := 9, ground := Ground.phase }], guard := none },
  { dst := none, op := Op.store 32 (Operand.tmp 26) (Operand.tmp 25), type := 0, pos := "ways.go:100", after := #[{ on := 10, ground := Ground.data }, { on := 9, ground := Ground.data }, { on := 9, ground := Ground.chain }, { on := 0, ground := Ground.phase }, { on := 1, ground := Ground.phase }, { on := 2, ground := Ground.phase }, { on := 3, ground := Ground.phase }, { on := 4, ground := Ground.phase }, { on := 5, ground := Ground.phase }, { on := 6, ground := Ground.phase }, { on := 7, ground := Ground.phase }, { on := 8, ground := Ground.phase }, { on := 9, ground := Ground.phase }], guard := none }]
set_option maxRecDepth 100000 in
set_option maxHeartbeats 16000000 in
theorem mu5 (Q : Exit → Act → World → Prop) (H D K T4 j : Nat) (P1 P : Option Addr) (n1 c1 n c : Nat) (y : Nat → Int) (u1 u2 u3 u5 u6 u9 u10 u11 u12 u13 u14 u15 u16 u17 u18 u19 u20 u21 u22 u23 u24 u25 u26 u27 u28 u29 u30 u31 u32 u33 u34 u35 u36 u37 u38 u39 u40 u41 u42 u43 u44 u45 u46 u47 u48 u49 : Value) (W : World)
    (neDH : D ≠ H) (neTH : T4 ≠ H) (neTD : T4 ≠ D) (cd0 : W.cell? ⟨D, j, none⟩ = some (.slice P1 n1 c1)) (cb0 : W.cell? ⟨T4, 0, none⟩ = some (.slice P n c)) (hth : W.there D (j + 1) 1)
    (w1 : IntKind.i64.wrap ((j : Int) + 1 - 1) = (j : Int)) (w2 : IntKind.i64.wrap (j : Int) = (j : Int)) (j0 : (0 : Int) ≤ (j : Int)) (j1 : (j : Int) < (K : Int)) (j2 : (0 : Int) ≤ (j : Int) + 1) (j3 : (j : Int) + 1 < (K : Int)) (j4 : ((j : Int) + 1).toNat = j + 1)
    (C9 : Hid (Calls Tryz.prog 42 #[.pointer (some ⟨H, 0, none⟩), .agg #[.slice P1 n1 c1], .agg #[.slice P n c]] W.drew fun e w' => Hq W.drew w' H e y))
    (HQ : Hid (∀ (A m k : Nat) (wm wz : World), W.drew.heap.size ≤ A → Fr wm (.agg #[.slice (some ⟨A, 0, none⟩) m k]) y → Hd wm H → W.drew.grownBy wm (some H) → wz = wm.setCells D (j + 1) [.slice (some ⟨A, 0, none⟩) m k] → Q .normal ⟨#[.pointer (some ⟨H, 0, none⟩), u1, u2, u3, .pointer (some ⟨T4, 0, none⟩), u5, u6, .slice (some ⟨D, 0, none⟩) K K, .int .i64 ((j : Int) + 1), u9, u10, u11, u12, u13, u14, u15, .slice (some ⟨D, 0, none⟩) K K, .int .i64 ((j : Int) + 1), .pointer (some ⟨H, 0, none⟩), .slice (some ⟨D, 0, none⟩) K K, .int .i64 ((j : Int) + 1), .int .i64 (j : Int), .pointer (some ⟨D, j, none⟩), .agg #[.slice P1 n1 c1], .agg #[.slice P n c], .agg #[.slice (some ⟨A, 0, none⟩) m k], .pointer (some ⟨D, j + 1, none⟩), u27, u28, u29, u30, u31, u32, u33, u34, u35, u36, u37, u38, u39, u40, u41, u42, u43, u44, u45, u46, u47, u48, u49], []⟩ wz)) : (Code.region 5 mu5o true).wp Tryz.prog Q ⟨#[.pointer (some ⟨H, 0, none⟩), u1, u2, u3, .pointer (some ⟨T4, 0, none⟩), u5, u6, .slice (some ⟨D, 0, none⟩) K K, .int .i64 ((j : Int) + 1), u9, u10, u11, u12, u13, u14, u15, u16, u17, u18, u19, u20, u21, u22, u23, u24, u25, u26, u27, u28, u29, u30, u31, u32, u33, u34, u35, u36, u37, u38, u39, u40, u41, u42, u43, u44, u45, u46, u47, u48, u49], []⟩ W := by
  have TH : Hid (W.drew.there D (j + 1) 1) := hidden (fun q hq => ⟨((World.cell?_of_block (a := ⟨D, j + 1 + q, none⟩) (w := W) (w' := W.drew) rfl).symm ▸ (hth q hq).1), ((World.frozen?_of_block (a := ⟨D, j + 1 + q, none⟩) (w := W) (w' := W.drew) rfl).symm ▸ (hth q hq).2)⟩)
  unfold mu5o
  refine wp_region_noPanic ?_
  refine wp_region_held_drew (S := fun x => (x.cell? ⟨D, j, none⟩ = some (.slice P1 n1 c1) ∧ x.cell? ⟨T4, 0, none⟩ = some (.slice P n c))) (by kernel_rfl) (⟨cell_keep cd0 (bl_drew W), cell_keep cb0 (bl_drew W)⟩) (fun hH0 => ?_)
  refine wpAnyH_take (i := 0) (oi := { dst := some 16, op := Op.move (Operand.tmp 7), type := 27, pos := "ways.go:100", after := #[], guard := none }) (v := .slice (some ⟨D, 0, none⟩) K K) rfl (by kernel_rfl) (by kernel_rfl) (by kernel_rfl) (fun _ _ _ h => h) (Or.inl ⟨by rfl, fun w0 hSw => ?_⟩) hH0 ?_
  · (clear hSw; go_simp)
  simp only [Act.put, List.setIfInBounds_toArray, List.set_cons_zero, List.set_cons_succ]
  refine wpAnyH_take (i := 1) (oi := { dst := some 17, op := Op.move (Operand.tmp 8), type := 3, pos := "ways.go:100", after := #[], guard := none }) (v := .int .i64 ((j : Int) + 1)) rfl (by kernel_rfl) (by kernel_rfl) (by kernel_rfl) (fun _ _ _ h => h) (Or.inl ⟨by rfl, fun w0 hSw => ?_⟩) hH0 ?_
  · (clear hSw; go_simp)
  simp only [Act.put, List.setIfInBounds_toArray, List.set_cons_zero, List.set_cons_succ]
  refine wpAnyH_take (i := 2) (oi := { dst := some 18, op := Op.move (Operand.tmp 0), type := 107, pos := "ways.go:100", after := #[], guard := none }) (v := .pointer (some ⟨H, 0, none⟩)) rfl (by kernel_rfl) (by kernel_rfl) (by kernel_rfl) (fun _ _ _ h => h) (Or.inl ⟨by rfl, fun w0 hSw => ?_⟩) hH0 ?_
  · (clear hSw; go_simp)
  simp only [Act.put, List.setIfInBounds_toArray, List.set_cons_zero, List.set_cons_succ]
  refine wpAnyH_take (i := 3) (oi := { dst := some 19, op := Op.move (Operand.tmp 7), type := 27, pos := "ways.go:100", after := #[], guard := none }) (v := .slice (some ⟨D, 0, none⟩) K K) rfl (by kernel_rfl) (by kernel_rfl) (by kernel_rfl) (fun _ _ _ h => h) (Or.inl ⟨by rfl, fun w0 hSw => ?_⟩) hH0 ?_
  · (clear hSw; go_simp)
  simp only [Act.put, List.setIfInBounds_toArray, List.set_cons_zero, List.set_cons_succ]
  refine wpAnyH_take (i := 4) (oi := { dst := some 20, op := Op.move (Operand.tmp 8), type := 3, pos := "ways.go:100", after := #[], guard := none }) (v := .int .i64 ((j : Int) + 1)) rfl (by kernel_rfl) (by kernel_rfl) (by kernel_rfl) (fun _ _ _ h => h) (Or.inl ⟨by rfl, fun w0 hSw => ?_⟩) hH0 ?_
  · (clear hSw; go_simp)
  simp only [Act.put, List.setIfInBounds_toArray, List.set_cons_zero, List.set_cons_succ]
  refine wpAnyH_take (i := 8) (oi := { dst := some 24, op := Op.load 32 (Operand.tmp 4), type := 32, pos := "ways.go:100", after := #[], guard := none }) (v := .agg #[.slice P n c]) rfl (by kernel_rfl) (by kernel_rfl) (by kernel_rfl) (fun _ _ _ h => h) (Or.inl ⟨by rfl, fun w0 hSw => ?_⟩) hH0 ?_
  · (have hS : (w0.cell? ⟨D, j, none⟩ = some (.slice P1 n1 c1) ∧ w0.cell? ⟨T4, 0, none⟩ = some (.slice P n c)) := hSw; have a0 := hS.2; clear hS hSw; go_simp)
  simp only [Act.put, List.setIfInBounds_toArray, List.set_cons_zero, List.set_cons_succ]
  refine wpAnyH_take (i := 5) (oi := { dst := some 21, op := Op.binOp BinOp.sub 3 (Operand.tmp 20) (Operand.const (Value.int IntKind.i64 1)) 3, type := 3, pos := "ways.go:100", after := #[{ on := 4, ground := Ground.data }], guard := none }) (v := .int .i64 (j : Int)) rfl (by kernel_rfl) (by kernel_rfl) (by kernel_rfl) (fun _ _ _ h => h) (Or.inl ⟨by rfl, fun w0 hSw => ?_⟩) hH0 ?_
  · (clear hSw; go_simp)
  simp only [Act.put, List.setIfInBounds_toArray, List.set_cons_zero, List.set_cons_succ]
  refine wpAnyH_take (i := 6) (oi := { dst := some 22, op := Op.indexAddr 27 (Operand.tmp 19) (Operand.tmp 21), type := 0, pos := "ways.go:100", after := #[{ on := 3, ground := Ground.data }, { on := 5, ground := Ground.data }], guard := none }) (v := .pointer (some ⟨D, j, none⟩)) rfl (by kernel_rfl) (by kernel_rfl) (by kernel_rfl) (fun _ _ _ h => h) (Or.inl ⟨by rfl, fun w0 hSw => ?_⟩) hH0 ?_
  · (clear hSw; go_simp)
  simp only [Act.put, List.setIfInBounds_toArray, List.set_cons_zero, List.set_cons_succ]
  refine wpAnyH_take (i := 7) (oi := { dst := some 23, op := Op.load 32 (Operand.tmp 22), type := 32, pos := "ways.go:100", after := #[{ on := 6, ground := Ground.data }], guard := none }) (v := .agg #[.slice P1 n1 c1]) rfl (by kernel_rfl) (by kernel_rfl) (by kernel_rfl) (fun _ _ _ h => h) (Or.inl ⟨by rfl, fun w0 hSw => ?_⟩) hH0 ?_
  · (have hS : (w0.cell? ⟨D, j, none⟩ = some (.slice P1 n1 c1) ∧ w0.cell? ⟨T4, 0, none⟩ = some (.slice P n c)) := hSw; have a0 := hS.1; clear hS hSw; go_simp)
  simp only [Act.put, List.setIfInBounds_toArray, List.set_cons_zero, List.set_cons_succ]
  refine wpAnyH_ready (rs := [9]) (by kernel_rfl) (by simp) ?_
  refine AllReadyH.cons (o := { dst := some 25, op := Op.call { callee := Callee.value (Operand.func 42), args := #[Operand.tmp 18, Operand.tmp 23, Operand.tmp 24], argTypes := #[107, 32, 32] }, type := 32, pos := "ways.go:100", after := #[{ on := 2, ground := Ground.data }, { on := 7, ground := Ground.data }, { on := 8, ground := Ground.data }], guard := none }) rfl (fun K hK => ?_) AllReadyH.nil
  have HH := hidden hH0
  clear hH0
  go_simp
  refine (C9.out).mono ?_
  rintro e wn1 ⟨A, m, k, rfl, hA, hF, hH, hg⟩
  have FA := hidden (hF)
  have HA := hidden (hA)
  have HG := hidden (hH)
  have GG := hidden (hg)
  replace TH := hidden (there_gb TH.out hg neDH)
  have SN := hidden ((show _ ∧ _ from ⟨hg.cell HH.out.1 (fun e => neDH (Option.some.inj e)), hg.cell HH.out.2 (fun e => neTH (Option.some.inj e))⟩))
  clear HH C9 hF hA hH hg
  go_wp2_with fail
  refine hK.out _ _ SN.out (fun hH1 => ?_)
  clear hK K SN
  refine wpAnyH_take (i := 10) (oi := { dst := some 26, op := Op.indexAddr 27 (Operand.tmp 16) (Operand.tmp 17), type := 0, pos := "ways.go:100", after := #[{ on := 0, ground := Ground.data }, { on := 1, ground := Ground.data }, { on := 0, ground := Ground.phase }, { on := 1, ground := Ground.phase }, { on := 2, ground := Ground.phase }, { on := 3, ground := Ground.phase }, { on := 4, ground := Ground.phase }, { on := 5, ground := Ground.phase }, { on := 6, ground := Ground.phase }, { on := 7, ground := Ground.phase }, { on := 8, ground := Ground.phase }, { on := 9, ground := Ground.phase }], guard := none }) (v := .pointer (some ⟨D, j + 1, none⟩)) rfl (by kernel_rfl) (by kernel_rfl) (by kernel_rfl) (fun _ _ _ h => h) (Or.inl ⟨by rfl, fun w0 hSw => ?_⟩) hH1 ?_
  · (clear hSw; go_simp)
  simp only [Act.put, List.setIfInBounds_toArray, List.set_cons_zero, List.set_cons_succ]
  refine wpAnyH_ready (rs := [11]) (by kernel_rfl) (by simp) ?_
  refine AllReadyH.cons (o := { dst := none, op := Op.store 32 (Operand.tmp 26) (Operand.tmp 25), type := 0, pos := "ways.go:100", after := #[{ on := 10, ground := Ground.data }, { on := 9, ground := Ground.data }, { on := 9, ground := Ground.chain }, { on := 0, ground := Ground.phase }, { on := 1, ground := Ground.phase }, { on := 2, ground := Ground.phase }, { on := 3, ground := Ground.phase }, { on := 4, ground := Ground.phase }, { on := 5, ground := Ground.phase }, { on := 6, ground := Ground.phase }, { on := 7, ground := Ground.phase }, { on := 8, ground := Ground.phase }, { on := 9, ground := Ground.phase }], guard := none }) rfl (fun K hK => ?_) AllReadyH.nil
  have HH := hidden hH1
  clear hH1
  refine wp_storeE 32 _ _ rfl D (j + 1) ([.slice (some ⟨A, 0, none⟩) m k]) (by rfl) (by rfl) TH.out i1_F (oneS _ _ _) rfl (fun wn2 hw => ?_)
  have SN := hidden ((show _ ∧ _ from ⟨(World.cell?_setCells_out D [.slice (some ⟨A, 0, none⟩) m k] (j + 1) _ ⟨D, j, none⟩ (fun _ _ => Or.inl (by simp))).trans HH.out.1, (World.cell?_setCells_out D [.slice (some ⟨A, 0, none⟩) m k] (j + 1) _ ⟨T4, 0, none⟩ (fun e => absurd e neTD)).trans HH.out.2⟩))
  have HW := hidden (hw)
  rw [← hw] at SN
  clear HH hw
  refine hK.out _ _ SN.out (fun hH2 => ?_)
  clear hK K SN
  have HH := hidden hH2
  have FQ := hidden (HQ.out A m k _ _ HA.out FA.out HG.out GG.out HW.out)
  refine wpAnyH_done (by kernel_rfl) ?_ _
  refine NoPanic.normal ?_
  exact FQ.out
end Go.Proofs.YtapieajkmpnmoaaGreatDoor
namespace Go.Proofs.YtapieajkmpnmoaaGreatDoor
open Go.RowKit
set_option linter.unusedVariables false
/-- multiples under way -/
def Ms (w w' : World) (H K i : Nat) (f : Nat → Int) (P : Option Addr) (n c : Nat) : Prop := Ml w' (w.heap.size + 1) K i f ∧ w'.cell? ⟨w.heap.size, 0, none⟩ = some (.slice P n c) ∧ w.grownBy w' (some H) ∧ Fr w' (.agg #[.slice P n c]) f ∧ Hd w' H ∧ Tb w'
theorem Ms.hand {w w' wm : World} {H K i n c : Nat} {f : Nat → Int} {P : Option Addr} (h : Ms w w' H K i f P n c) (hH : H < w.heap.size) (hm : w'.grownBy wm (some H)) (hd : Hd wm H) : Ms w wm H K i f P n c := by
  obtain ⟨h1, h2, h3, h4, h5, h6⟩ := h
  exact ⟨h1.hand h5 hm (by omega), hm.cell h2 (fun e => absurd (Option.some.inj e) (show w.heap.size ≠ H by omega)), h3.trans hm, h4.hand h5 hm, hd, h6.keep0 hm (h5.tb h6)⟩
theorem Ms.put {w w' : World} {H K i n c : Nat} {f x : Nat → Int} {P : Option Addr} (h : Ms w w' H K i f P n c) (hT : Tb w) (hH : H < w.heap.size) (hi : i < K) {P1 : Option Addr} {n1 c1 : Nat} (hF : Fr w' (.agg #[.slice P1 n1 c1]) x) (hx : ∀ t, lst (x t) = lst (((i : Int) + 1) * f t)) : Ms w (w'.setCell ⟨w.heap.size + 1, i, none⟩ (.slice P1 n1 c1)) H K (i + 1) f P n c := by
  obtain ⟨h1, h2, h3, h4, h5, h6⟩ := h
  have lt := World.block_lt_of_cell? w _ hT.1
  have g := gb_set w' (w.heap.size + 1) i (.slice P1 n1 c1)
  refine ⟨h1.put hi hF hx, ?_, gb_box h3 (by omega), h4.apart h1.no g, h5.far (by omega), h6.keep0 g (by simp only at lt; omega)⟩
  rw [World.cell?_setCell_far _ _ _ _ (by simp)]
  exact h2
theorem finfo : (Tryz.prog.info? 32).map (fun i => (i.zero, i.size, i.bytes)) = some (some (.agg #[.slice none 0 0]), 1, 24) := by kernel_rfl
set_option maxRecDepth 100000 in
set_option maxHeartbeats 2000000 in
theorem multiples_any (H K : Nat) (V : Value) (f : Nat → Int) (w : World) (hT : Tb w) (hH : Hd w H) (hV : Fr w V f) (hK : K ≤ 4096) :
    Calls Tryz.prog 58 #[.pointer (some ⟨H, 0, none⟩), V, .int .i64 (K : Int)] w fun e w' => ∃ D : Nat, e = .returned (.slice (some ⟨D, 0, none⟩) K K) ∧ w.heap.size ≤ D ∧ Ml w' D K K f ∧ Hd w' H ∧ w.grownBy w' (some H) := by
  obtain ⟨P, n, c, ga, rfl, -⟩ := id hV
  have LH := hidden hH.lt
  have nn0 : (0 : Int) ≤ (K : Int) := by omega
  obtain ⟨i0, hi, hz0, hz1, hz2⟩ := info_parts finfo
  have hmk := fun w => run_make (P := Tryz.prog) w 27 32 i0 (.agg #[.slice none 0 0]) (by kernel_rfl) hi hz0 .i64 .i64 (K : Int) (K : Int) (by omega) (Int.le_refl _) (by rw [hz2]; omega) (by omega)
  have tn : ((K : Int)).toNat = K := by omega
  simp only [tn, hz1, Value.cells, Nat.mul_one] at hmk
  clear tn hi hz0 hz1 hz2
  have B0 := bl_alloc2 w (.cells #[.slice P n c] 32) (.cells (madeCells #[.slice none 0 0] K) 32)
  have M0 := Ml.made (w.alloc (.cells #[.slice P n c] 32)) K 32 f
  simp only [World.size_alloc] at M0
  have e1 : ((w.alloc (.cells #[.slice P n c] 32)).alloc (.cells (madeCells #[.slice none 0 0] K) 32)).cell? ⟨w.heap.size, 0, none⟩ = some (.slice P n c) := cell_keep (by go_simp) (bl_alloc _ _)
  have ST : Hid (Ms w ((w.alloc (.cells #[.slice P n c] 32)).alloc (.cells (madeCells #[.slice none 0 0] K) 32)) H K 0 f P n c) := hidden ⟨M0, e1, gbI B0 _, hV.keep B0, hH.keep B0, hT.keep B0⟩
  have HK := hidden hK
  have HT := hidden hT
  clear M0 e1 B0 hT hH hV hK
  go_enter Tryz.func58, Tryz.ntmps58
  go_upto_region 2 with fail
  generalize ((w.alloc (.cells #[.slice P n c] 32)).alloc (.cells (madeCells #[.slice none 0 0] K) 32)) = w1 at *
  clear hmk
  go_wp2_with fail
  go_loopw [13] (fun iv w' => ∃ i : Nat, i ≤ K ∧ iv = .int .i64 i ∧ Hid (Ms w w' H K i f P n c)) (fun i _ => K - (intOf i).toNat)
  case atStart => exact ⟨0, by omega, rfl, ST⟩
  case round =>
    clear ST
    obtain ⟨i, hi, rfl, ST⟩ := hrel
    by_cases hin : i < K
    · have ii0 : (0 : Int) ≤ (i : Int) := by omega
      have ii1 : (i : Int) < (K : Int) := by omega
      have w9 : IntKind.i64.wrap ((i : Int) + 1) = (i : Int) + 1 := IntWalk.i64_in _ (by have := HK.out; omega)
      have HIN := hidden hin
      by_cases hz : i = 0
      · subst hz
        have c0 := ST.out.2.1
        have f1 := ST.out.1.fr 0 hin
        obtain ⟨P1, n1, c1, c2⟩ := ST.out.1.z 0 hin
        have PN := hidden (ST.out.put HT.out LH.out hin ST.out.2.2.2.1 (fun t => by simp))
        clear ST
        go_wp2_with fail
        go_roundw
        case rel => exact ⟨1, by have := HIN.out; omega, by go_num, PN⟩
        case measure => have := HIN.out; simp [intOf]; omega
      · have nz : ¬ (i : Int) = 0 := by omega
        by_cases hod : i % 2 = 1
        · obtain ⟨q, hq⟩ : ∃ q, i = 2 * q + 1 := ⟨i / 2, by omega⟩
          have rm : Int.tmod (i : Int) 2 = 1 := by rw [Int.tmod_eq_emod_of_nonneg ii0]; omega
          have qd : Int.tdiv (i : Int) 2 = (q : Int) := by rw [Int.tdiv_eq_ediv_of_nonneg ii0]; omega
          have wq : IntKind.i64.wrap (q : Int) = (q : Int) := IntWalk.i64_in _ (by have := HK.out; omega)
          have q0 : (0 : Int) ≤ (q : Int) := by omega
          have q1 : (q : Int) < (K : Int) := by omega
          obtain ⟨P1, n1, c1, d0, d1⟩ := ST.out.1.s q (by omega)
          have FX : Hid (∀ t, lst (((q : Int) + 1) * f t + ((q : Int) + 1) * f t) = lst (((i : Int) + 1) * f t)) := hidden (fun t => by
            rw [show (i : Int) = 2 * q + 1 by omega, show ((q : Int) + 1) * f t + ((q : Int) + 1) * f t = (2 * (q : Int) + 1 + 1) * f t by rw [← Int.add_mul]; congr 1; omega])
          have CD := hidden (hdouble H _ _ wr ST.out.2.2.2.2.2 ST.out.2.2.2.2.1 d1)
          clear hq hz hod hin hi d1
          go_wp2_with (first | (go_at_call 75; refine CD.out.mono ?_; rintro e wa ⟨A, m, k, rfl, hA, hF, hH, hg⟩; have SM := ST.out.hand LH.out hg hH; have f1 := SM.1.fr i HIN.out; obtain ⟨P2, n2, c2, e2⟩ := SM.1.z i HIN.out; have PN := hidden (SM.put HT.out LH.out HIN.out hF FX.out); clear SM hA hF hH hg CD FX d0))
          go_roundw
          case rel => exact ⟨i + 1, by have := HIN.out; omega, by go_num, PN⟩
          case measure => have := HIN.out; simp [intOf]; omega
        · have rm : Int.tmod (i : Int) 2 = 0 := by rw [Int.tmod_eq_emod_of_nonneg ii0]; omega
          obtain ⟨j, rfl⟩ : ∃ j, i = j + 1 := ⟨i - 1, by omega⟩
          obtain ⟨P1, n1, c1, d0, d1⟩ := ST.out.1.s j (by omega)
          have c0 := ST.out.2.1
          have TH : wr.there (w.heap.size + 1) (j + 1) 1 := fun q hq => by
            obtain rfl : q = 0 := by omega
            obtain ⟨P2, n2, c2, e2⟩ := ST.out.1.z (j + 1) hin
            exact ⟨by rw [Nat.add_zero, e2]; rfl, ST.out.1.fr (j + 1) hin⟩
          have FX : Hid (∀ t, lst (((j : Int) + 1) * f t + f t) = lst ((((j + 1 : Nat) : Int) + 1) * f t)) := hidden (fun t => by
            have e : ((j : Int) + 1 + 1) * f t = ((j : Int) + 1) * f t + f t := by rw [Int.add_mul ((j : Int) + 1) 1, Int.one_mul]
            rw [show ((j + 1 : Nat) : Int) + 1 = ((j : Int) + 1) + 1 by omega, e])
          have CD := hidden (hadd H _ _ _ f wr.drew (ST.out.2.2.2.2.2.keep (bl_drew _)) (ST.out.2.2.2.2.1.keep (bl_drew _)) (d1.keep (bl_drew _)) (ST.out.2.2.2.1.keep (bl_drew _)))
          have k1 : IntKind.i64.wrap ((j : Int) + 1 - 1) = (j : Int) := by rw [show (j : Int) + 1 - 1 = (j : Int) by omega]; exact IntWalk.i64_in _ (by have := HK.out; omega)
          have k2 : IntKind.i64.wrap (j : Int) = (j : Int) := IntWalk.i64_in _ (by have := HK.out; omega)
          have rm2 : Int.tmod ((j : Int) + 1) 2 = 0 := by have := rm; rwa [show ((j + 1 : Nat) : Int) = (j : Int) + 1 by omega] at this
          have nz2 : ¬ (j : Int) + 1 = 0 := by omega
          have ii2 : (j : Int) + 1 < (K : Int) := by omega
          have w10 : IntKind.i64.wrap ((j : Int) + 1 + 1) = (j : Int) + 1 + 1 := IntWalk.i64_in _ (by have := HK.out; omega)
          have JK := hidden hin
          clear hz hod hi d1
          go_upto_region 5 with fail
          refine mu5 _ H (w.heap.size + 1) K w.heap.size j P1 P n1 c1 n c _ _ _ _ _ _ _ _ _ _ _ _ _ _ _ _ _ _ _ _ _ _ _ _ _ _ _ _ _ _ _ _ _ _ _ _ _ _ _ _ _ _ _ _ _ _ _ wr (by have := LH.out; omega) (by have := LH.out; omega) (by omega) d0 c0 TH k1 k2 (by omega) (by omega) (by omega) (by omega) (by omega) CD (hidden ?_)
          intro A m k wm wz hA hF hH hg hw
          have hw1 : wz = wm.setCell ⟨w.heap.size + 1, j + 1, none⟩ (.slice (some ⟨A, 0, none⟩) m k) := hw
          have PN : Hid (Ms w wz H K (j + 1 + 1) f P n c) := hidden (by
            rw [hw1]
            exact (ST.out.hand LH.out ((gbI (bl_drew wr) _).trans hg) hH).put HT.out LH.out JK.out hF FX.out)
          clear hw hw1 hF hH hg hA CD FX d0 c0 TH ST
          go_wp2_with fail
          go_roundw
          case rel => exact ⟨j + 1 + 1, by have := JK.out; omega, by go_num, PN⟩
          case measure => have := JK.out; simp [intOf]; omega
    · obtain rfl : i = K := by omega
      have lq : ¬ (i : Int) < (i : Int) := by omega
      go_wp2_with fail
      refine bodyPost_ret (v := .slice (some ⟨w.heap.size + 1, 0, none⟩) i i) (by simp [results, Tryz.results58, go_sem]) rfl ⟨w.heap.size + 1, rfl, by omega, ST.out.1, ST.out.2.2.2.2.1, ST.out.2.2.1⟩
end Go.Proofs.YtapieajkmpnmoaaGreatDoor
namespace Go.Proofs.YtapieajkmpnmoaaGreatDoor
open Go.RowKit
set_option linter.unusedVariables false
set_option maxRecDepth 100000 in
set_option maxHeartbeats 4000000 in
theorem places_1 (w : World) : Calls Tryz.prog 50 #[.int .i64 1] w fun e w' => e = .returned (.int .i64 254) ∧ Below w.heap.size w w' := by
  go_enter Tryz.func50, Tryz.ntmps50
  go_wp2_with fail
  exact bodyPost_ret (v := .int .i64 254) (by simp [results, Tryz.results50, go_sem]) rfl ⟨rfl, Below.refl _ _⟩
set_option maxRecDepth 100000 in
set_option maxHeartbeats 4000000 in
theorem places_2 (w : World) : Calls Tryz.prog 50 #[.int .i64 2] w fun e w' => e = .returned (.int .i64 127) ∧ Below w.heap.size w w' := by
  go_enter Tryz.func50, Tryz.ntmps50
  go_wp2_with fail
  exact bodyPost_ret (v := .int .i64 127) (by simp [results, Tryz.results50, go_sem]) rfl ⟨rfl, Below.refl _ _⟩
set_option maxRecDepth 100000 in
set_option maxHeartbeats 4000000 in
theorem places_3 (w : World) : Calls Tryz.prog 50 #[.int .i64 3] w fun e w' => e = .returned (.int .i64 85) ∧ Below w.heap.size w w' := by
  go_enter Tryz.func50, Tryz.ntmps50
  go_wp2_with fail
  exact bodyPost_ret (v := .int .i64 85) (by simp [results, Tryz.results50, go_sem]) rfl ⟨rfl, Below.refl _ _⟩
set_option maxRecDepth 100000 in
set_option maxHeartbeats 4000000 in
theorem places_4 (w : World) : Calls Tryz.prog 50 #[.int .i64 4] w fun e w' => e = .returned (.int .i64 64) ∧ Below w.heap.size w w' := by
  go_enter Tryz.func50, Tryz.ntmps50
  go_wp2_with fail
  exact bodyPost_ret (v := .int .i64 64) (by simp [results, Tryz.results50, go_sem]) rfl ⟨rfl, Below.refl _ _⟩
set_option maxRecDepth 100000 in
set_option maxHeartbeats 4000000 in
theorem places_5 (w : World) : Calls Tryz.prog 50 #[.int .i64 5] w fun e w' => e = .returned (.int .i64 51) ∧ Below w.heap.size w w' := by
  go_enter Tryz.func50, Tryz.ntmps50
  go_wp2_with fail
  exact bodyPost_ret (v := .int .i64 51) (by simp [results, Tryz.results50, go_sem]) rfl ⟨rfl, Below.refl _ _⟩
set_option maxRecDepth 100000 in
set_option maxHeartbeats 4000000 in
theorem places_6 (w : World) : Calls Tryz.prog 50 #[.int .i64 6] w fun e w' => e = .returned (.int .i64 43) ∧ Below w.heap.size w w' := by
  go_enter Tryz.func50, Tryz.ntmps50
  go_wp2_with fail
  exact bodyPost_ret (v := .int .i64 43) (by simp [results, Tryz.results50, go_sem]) rfl ⟨rfl, Below.refl _ _⟩
set_option maxRecDepth 100000 in
set_option maxHeartbeats 4000000 in
theorem places_7 (w : World) : Calls Tryz.prog 50 #[.int .i64 7] w fun e w' => e = .returned (.int .i64 37) ∧ Below w.heap.size w w' := by
  go_enter Tryz.func50, Tryz.ntmps50
  go_wp2_with fail
  exact bodyPost_ret (v := .int .i64 37) (by simp [results, Tryz.results50, go_sem]) rfl ⟨rfl, Below.refl _ _⟩
set_option maxRecDepth 100000 in
set_option maxHeartbeats 4000000 in
theorem places_8 (w : World) : Calls Tryz.prog 50 #[.int .i64 8] w fun e w' => e = .returned (.int .i64 32) ∧ Below w.heap.size w w' := by
  go_enter Tryz.func50, Tryz.ntmps50
  go_wp2_with fail
  exact bodyPost_ret (v := .int .i64 32) (by simp [results, Tryz.results50, go_sem]) rfl ⟨rfl, Below.refl _ _⟩
set_option maxRecDepth 100000 in
set_option maxHeartbeats 4000000 in
theorem places_9 (w : World) : Calls Tryz.prog 50 #[.int .i64 9] w fun e w' => e = .returned (.int .i64 29) ∧ Below w.heap.size w w' := by
  go_enter Tryz.func50, Tryz.ntmps50
  go_wp2_with fail
  exact bodyPost_ret (v := .int .i64 29) (by simp [results, Tryz.results50, go_sem]) rfl ⟨rfl, Below.refl _ _⟩
set_option maxRecDepth 100000 in
set_option maxHeartbeats 4000000 in
theorem places_10 (w : World) : Calls Tryz.prog 50 #[.int .i64 10] w fun e w' => e = .returned (.int .i64 26) ∧ Below w.heap.size w w' := by
  go_enter Tryz.func50, Tryz.ntmps50
  go_wp2_with fail
  exact bodyPost_ret (v := .int .i64 26) (by simp [results, Tryz.results50, go_sem]) rfl ⟨rfl, Below.refl _ _⟩
set_option maxRecDepth 100000 in
set_option maxHeartbeats 4000000 in
theorem places_11 (w : World) : Calls Tryz.prog 50 #[.int .i64 11] w fun e w' => e = .returned (.int .i64 24) ∧ Below w.heap.size w w' := by
  go_enter Tryz.func50, Tryz.ntmps50
  go_wp2_with fail
  exact bodyPost_ret (v := .int .i64 24) (by simp [results, Tryz.results50, go_sem]) rfl ⟨rfl, Below.refl _ _⟩
set_option maxRecDepth 100000 in
set_option maxHeartbeats 4000000 in
theorem places_12 (w : World) : Calls Tryz.prog 50 #[.int .i64 12] w fun e w' => e = .returned (.int .i64 22) ∧ Below w.heap.size w w' := by
  go_enter Tryz.func50, Tryz.ntmps50
  go_wp2_with fail
  exact bodyPost_ret (v := .int .i64 22) (by simp [results, Tryz.results50, go_sem]) rfl ⟨rfl, Below.refl _ _⟩
def co1o : Array Oper := #[{ dst := some 4, op := Op.load 3 (Operand.tmp 1), type := 3, pos := "ways.go:41", after := #[], guard := none },
  { dst := some 5, op := Op.move (Operand.tmp 0), type := 3, pos := "ways.go:41", after := #[], guard := none },
  { dst := some 6, op := Op.binOp BinOp.sub 3 (Operand.tmp 5) (Operand.const (Value.int IntKind.i64 1)) 3, type := 3, pos := "ways.go:41", after := #[{ on := 1, ground := Ground.data }], guard := none },
  { dst := some 7, op := Op.binOp BinOp.shl 3 (Operand.const (Value.int IntKind.i64 1)) (Operand.tmp 6) 3, type := 3, pos := "ways.go:41", after := #[{ on := 2, ground := Ground.data }], guard := none },
  { dst := some 8, op := Op.move (Operand.tmp 0), type := 3, pos := "ways.go:41", after := #[], guard := none },
  { dst := some 9, op := Op.call { callee := Callee.value (Operand.func 50), args := #[Operand.tmp 8], argTypes := #[3] }, type := 3, pos := "ways.go:41", after := #[{ on := 4, ground := Ground.data }], guard := none },
  { dst := some 10, op := Op.binOp BinOp.add 3 (Operand.tmp 7) (Operand.tmp 9) 3, type := 3, pos := "ways.go:41", after := #[{ on := 3, ground := Ground.data }, { on := 5, ground := Ground.data }], guard := none },
  { dst := some 11, op := Op.binOp BinOp.mul 3 (Operand.tmp 4) (Operand.tmp 10) 3, type := 3, pos := "ways.go:41", after := #[{ on := 0, ground := Ground.data }, { on := 6, ground := Ground.data }], guard := none },
  { dst := some 12, op := Op.move (Operand.tmp 0), type := 3, pos := "ways.go:41", after := #[], guard := none },
  { dst := some 13, op := Op.move (Operand.tmp 0), type := 3, pos := "ways.go:41", after := #[], guard := none },
  { dst := some 14, op := Op.call { callee := Callee.value (Operand.func 50), args := #[Operand.tmp 13], argTypes := #[3] }, type := 3, pos := "ways.go:41", after := #[{ on := 9, ground := Ground.data }, { on := 5, ground := Ground.chain }], guard := none },
  { dst := some 15, op := Op.binOp BinOp.mul 3 (Operand.tmp 12) (Operand.tmp 14) 3, type := 3, pos := "ways.go:41", after := #[{ on := 8, ground := Ground.data }, { on := 10, ground := Ground.data }], guard := none },
  { dst := some 16, op := Op.binOp BinOp.add 3 (Operand.tmp 11) (Operand.tmp 15) 3, type := 3, pos := "ways.go:41", after := #[{ on := 7, ground := Ground.data }, { on := 11, ground := Ground.data }], guard := none },
  { dst := some 3, op := Op.assign (Operand.tmp 16), type := 3, pos := "ways.go:41", after := #[{ on := 12, ground := Ground.data }, { on := 10, ground := Ground.chain }, { on := 0, ground := Ground.phase }, { on := 1, ground := Ground.phase }, { on := 2, ground := Ground.phase }, { on := 3, ground := Ground.phase }, { on := 4, ground := Ground.phase }, { on := 5, ground := Ground.phase }, { on := 6, ground := Ground.phase }, { on := 7, ground := Ground.phase }, { on := 8, ground := Ground.phase }, { on := 9, ground := Ground.phase }, { on := 10, ground := Ground.phase }, { on := 11, ground := Ground.phase }, { on := 12, ground := Ground.phase }], guard := none }]
set_option maxRecDepth 100000 in
set_option maxHeartbeats 16000000 in
theorem co1 (Q : Exit → Act → World → Prop) (X : Nat) (n M M1 S p a na b r : Int) (u2 u4 u5 u6 u7 u8 u9 u10 u11 u12 u13 u14 u15 u16 : Value) (W : World)
    (c0 : W.cell? ⟨X, 0, none⟩ = some (.int .i64 n)) (hm : IntKind.i64.wrap (M - 1) = M1) (hs : ∀ w : World, (Op.shift .shl .i64 1 .i64 M1).run Tryz.prog w = .ok (.int .i64 S) w) (ha : IntKind.i64.wrap (S + p) = a) (hb1 : IntKind.i64.wrap (n * a) = na) (hc : IntKind.i64.wrap (M * p) = b) (hd : IntKind.i64.wrap (na + b) = r)
    (C5 : Hid (∀ x, Calls Tryz.prog 50 #[.int .i64 M] x fun e w' => e = .returned (.int .i64 p) ∧ Below x.heap.size x w'))
    (HQ : Hid (∀ (wz : World), Below W.heap.size W wz → Q .normal ⟨#[.int .i64 M, .pointer (some ⟨X, 0, none⟩), u2, .int .i64 r, .int .i64 n, .int .i64 M, .int .i64 M1, .int .i64 S, .int .i64 M, .int .i64 p, .int .i64 a, .int .i64 na, .int .i64 M, .int .i64 M, .int .i64 p, .int .i64 b, .int .i64 r], []⟩ wz)) : (Code.region 1 co1o true).wp Tryz.prog Q ⟨#[.int .i64 M, .pointer (some ⟨X, 0, none⟩), u2, .int .i64 0, u4, u5, u6, u7, u8, u9, u10, u11, u12, u13, u14, u15, u16], []⟩ W := by
  unfold co1o
  refine wp_region_noPanic ?_
  refine wp_region_held_drew (S := fun x => Below W.heap.size W x) (by kernel_rfl) (bl_drew W) (fun hH0 => ?_)
  refine wpAnyH_take (i := 0) (oi := { dst := some 4, op := Op.load 3 (Operand.tmp 1), type := 3, pos := "ways.go:41", after := #[], guard := none }) (v := .int .i64 n) rfl (by kernel_rfl) (by kernel_rfl) (by kernel_rfl) (fun _ _ _ h => h) (Or.inl ⟨by rfl, fun w0 hSw => ?_⟩) hH0 ?_
  · (have hS : Below W.heap.size W w0 := hSw; have a0 := cell_keep c0 hS; clear hS hSw; go_simp)
  simp only [Act.put, List.setIfInBounds_toArray, List.set_cons_zero, List.set_cons_succ]
  refine wpAnyH_take (i := 1) (oi := { dst := some 5, op := Op.move (Operand.tmp 0), type := 3, pos := "ways.go:41", after := #[], guard := none }) (v := .int .i64 M) rfl (by kernel_rfl) (by kernel_rfl) (by kernel_rfl) (fun _ _ _ h => h) (Or.inl ⟨by rfl, fun w0 hSw => ?_⟩) hH0 ?_
  · (clear hSw; go_simp)
  simp only [Act.put, List.setIfInBounds_toArray, List.set_cons_zero, List.set_cons_succ]
  refine wpAnyH_take (i := 2) (oi := { dst := some 6, op := Op.binOp BinOp.sub 3 (Operand.tmp 5) (Operand.const (Value.int IntKind.i64 1)) 3, type := 3, pos := "ways.go:41", after := #[{ on := 1, ground := Ground.data }], guard := none }) (v := .int .i64 M1) rfl (by kernel_rfl) (by kernel_rfl) (by kernel_rfl) (fun _ _ _ h => h) (Or.inl ⟨by rfl, fun w0 hSw => ?_⟩) hH0 ?_
  · (clear hSw; go_simp)
  simp only [Act.put, List.setIfInBounds_toArray, List.set_cons_zero, List.set_cons_succ]
  refine wpAnyH_take (i := 3) (oi := { dst := some 7, op := Op.binOp BinOp.shl 3 (Operand.const (Value.int IntKind.i64 1)) (Operand.tmp 6) 3, type := 3, pos := "ways.go:41", after := #[{ on := 2, ground := Ground.data }], guard := none }) (v := .int .i64 S) rfl (by kernel_rfl) (by kernel_rfl) (by kernel_rfl) (fun _ _ _ h => h) (Or.inl ⟨by rfl, fun w0 hSw => ?_⟩) hH0 ?_
  · (clear hSw; go_simp)
  simp only [Act.put, List.setIfInBounds_toArray, List.set_cons_zero, List.set_cons_succ]
  refine wpAnyH_take (i := 4) (oi := { dst := some 8, op := Op.move (Operand.tmp 0), type := 3, pos := "ways.go:41", after := #[], guard := none }) (v := .int .i64 M) rfl (by kernel_rfl) (by kernel_rfl) (by kernel_rfl) (fun _ _ _ h => h) (Or.inl ⟨by rfl, fun w0 hSw => ?_⟩) hH0 ?_
  · (clear hSw; go_simp)
  simp only [Act.put, List.setIfInBounds_toArray, List.set_cons_zero, List.set_cons_succ]
  refine wpAnyH_take (i := 8) (oi := { dst := some 12, op := Op.move (Operand.tmp 0), type := 3, pos := "ways.go:41", after := #[], guard := none }) (v := .int .i64 M) rfl (by kernel_rfl) (by kernel_rfl) (by kernel_rfl) (fun _ _ _ h => h) (Or.inl ⟨by rfl, fun w0 hSw => ?_⟩) hH0 ?_
  · (clear hSw; go_simp)
  simp only [Act.put, List.setIfInBounds_toArray, List.set_cons_zero, List.set_cons_succ]
  refine wpAnyH_take (i := 9) (oi := { dst := some 13, op := Op.move (Operand.tmp 0), type := 3, pos := "ways.go:41", after := #[], guard := none }) (v := .int .i64 M) rfl (by kernel_rfl) (by kernel_rfl) (by kernel_rfl) (fun _ _ _ h => h) (Or.inl ⟨by rfl, fun w0 hSw => ?_⟩) hH0 ?_
  · (clear hSw; go_simp)
  simp only [Act.put, List.setIfInBounds_toArray, List.set_cons_zero, List.set_cons_succ]
  refine wpAnyH_ready (rs := [5]) (by kernel_rfl) (by simp) ?_
  refine AllReadyH.cons (o := { dst := some 9, op := Op.call { callee := Callee.value (Operand.func 50), args := #[Operand.tmp 8], argTypes := #[3] }, type := 3, pos := "ways.go:41", after := #[{ on := 4, ground := Ground.data }], guard := none }) rfl (fun K hK => ?_) AllReadyH.nil
  have HH := hidden hH0
  clear hH0
  go_simp
  refine (C5.out _).mono ?_
  rintro e wn1 ⟨rfl, hb⟩
  have SN := hidden (bl_trans HH.out hb)
  clear HH hb
  go_wp2_with fail
  refine hK.out _ _ SN.out (fun hH1 => ?_)
  clear hK K SN
  refine wpAnyH_take (i := 6) (oi := { dst := some 10, op := Op.binOp BinOp.add 3 (Operand.tmp 7) (Operand.tmp 9) 3, type := 3, pos := "ways.go:41", after := #[{ on := 3, ground := Ground.data }, { on := 5, ground := Ground.data }], guard := none }) (v := .int .i64 a) rfl (by kernel_rfl) (by kernel_rfl) (by kernel_rfl) (fun _ _ _ h => h) (Or.inl ⟨by rfl, fun w0 hSw => ?_⟩) hH1 ?_
  · (clear hSw; go_simp)
  simp only [Act.put, List.setIfInBounds_toArray, List.set_cons_zero, List.set_cons_succ]
  refine wpAnyH_take (i := 7) (oi := { dst := some 11, op := Op.binOp BinOp.mul 3 (Operand.tmp 4) (Operand.tmp 10) 3, type := 3, pos := "ways.go:41", after := #[{ on := 0, ground := Ground.data }, { on := 6, ground := Ground.data }], guard := none }) (v := .int .i64 na) rfl (by kernel_rfl) (by kernel_rfl) (by kernel_rfl) (fun _ _ _ h => h) (Or.inl ⟨by rfl, fun w0 hSw => ?_⟩) hH1 ?_
  · (clear hSw; go_simp)
  simp only [Act.put, List.setIfInBounds_toArray, List.set_cons_zero, List.set_cons_succ]
  refine wpAnyH_ready (rs := [10]) (by kernel_rfl) (by simp) ?_
  refine AllReadyH.cons (o := { dst := some 14, op := Op.call { callee := Callee.value (Operand.func 50), args := #[Operand.tmp 13], argTypes := #[3] }, type := 3, pos := "ways.go:41", after := #[{ on := 9, ground := Ground.data }, { on := 5, ground := Ground.chain }], guard := none }) rfl (fun K hK => ?_) AllReadyH.nil
  have HH := hidden hH1
  clear hH1
  go_simp
  refine (C5.out _).mono ?_
  rintro e wn2 ⟨rfl, hb⟩
  have SN := hidden (bl_trans HH.out hb)
  clear HH hb
  go_wp2_with fail
  refine hK.out _ _ SN.out (fun hH2 => ?_)
  clear hK K SN
  refine wpAnyH_take (i := 11) (oi := { dst := some 15, op := Op.binOp BinOp.mul 3 (Operand.tmp 12) (Operand.tmp 14) 3, type := 3, pos := "ways.go:41", after := #[{ on := 8, ground := Ground.data }, { on := 10, ground := Ground.data }], guard := none }) (v := .int .i64 b) rfl (by kernel_rfl) (by kernel_rfl) (by kernel_rfl) (fun _ _ _ h => h) (Or.inl ⟨by rfl, fun w0 hSw => ?_⟩) hH2 ?_
  · (clear hSw; go_simp)
  simp only [Act.put, List.setIfInBounds_toArray, List.set_cons_zero, List.set_cons_succ]
  refine wpAnyH_take (i := 12) (oi := { dst := some 16, op := Op.binOp BinOp.add 3 (Operand.tmp 11) (Operand.tmp 15) 3, type := 3, pos := "ways.go:41", after := #[{ on := 7, ground := Ground.data }, { on := 11, ground := Ground.data }], guard := none }) (v := .int .i64 r) rfl (by kernel_rfl) (by kernel_rfl) (by kernel_rfl) (fun _ _ _ h => h) (Or.inl ⟨by rfl, fun w0 hSw => ?_⟩) hH2 ?_
  · (clear hSw; go_simp)
  simp only [Act.put, List.setIfInBounds_toArray, List.set_cons_zero, List.set_cons_succ]
  have HH := hidden hH2
  have FQ := hidden (HQ.out _ HH.out)
  refine wpAnyH_take (i := 13) (oi := { dst := some 3, op := Op.assign (Operand.tmp 16), type := 3, pos := "ways.go:41", after := #[{ on := 12, ground := Ground.data }, { on := 10, ground := Ground.chain }, { on := 0, ground := Ground.phase }, { on := 1, ground := Ground.phase }, { on := 2, ground := Ground.phase }, { on := 3, ground := Ground.phase }, { on := 4, ground := Ground.phase }, { on := 5, ground := Ground.phase }, { on := 6, ground := Ground.phase }, { on := 7, ground := Ground.phase }, { on := 8, ground := Ground.phase }, { on := 9, ground := Ground.phase }, { on := 10, ground := Ground.phase }, { on := 11, ground := Ground.phase }, { on := 12, ground := Ground.phase }], guard := none }) (v := .int .i64 r) rfl (by kernel_rfl) (by kernel_rfl) (by kernel_rfl) (fun _ _ _ h => h) (Or.inl ⟨by rfl, fun w0 hSw => ?_⟩) hH2 ?_
  · (clear hSw; go_simp)
  simp only [Act.put, List.setIfInBounds_toArray, List.set_cons_zero, List.set_cons_succ]
  refine wpAnyH_done (by kernel_rfl) ?_ _
  refine NoPanic.normal ?_
  exact FQ.out
def co2o : Array Oper := #[{ dst := some 4, op := Op.move (Operand.tmp 0), type := 3, pos := "ways.go:42", after := #[], guard := none },
  { dst := some 5, op := Op.call { callee := Callee.value (Operand.func 50), args := #[Operand.tmp 4], argTypes := #[3] }, type := 3, pos := "ways.go:42", after := #[{ on := 0, ground := Ground.data }], guard := none },
  { dst := some 6, op := Op.load 3 (Operand.tmp 1), type := 3, pos := "ways.go:42", after := #[], guard := none },
  { dst := some 7, op := Op.move (Operand.tmp 0), type := 3, pos := "ways.go:42", after := #[], guard := none },
  { dst := some 8, op := Op.binOp BinOp.sub 3 (Operand.tmp 7) (Operand.const (Value.int IntKind.i64 1)) 3, type := 3, pos := "ways.go:42", after := #[{ on := 3, ground := Ground.data }], guard := none },
  { dst := some 9, op := Op.binOp BinOp.shl 3 (Operand.const (Value.int IntKind.i64 1)) (Operand.tmp 8) 3, type := 3, pos := "ways.go:42", after := #[{ on := 4, ground := Ground.data }], guard := none },
  { dst := some 10, op := Op.binOp BinOp.add 3 (Operand.tmp 6) (Operand.tmp 9) 3, type := 3, pos := "ways.go:42", after := #[{ on := 2, ground := Ground.data }, { on := 5, ground := Ground.data }], guard := none },
  { dst := some 11, op := Op.move (Operand.tmp 0), type := 3, pos := "ways.go:42", after := #[], guard := none },
  { dst := some 12, op := Op.binOp BinOp.add 3 (Operand.tmp 10) (Operand.tmp 11) 3, type := 3, pos := "ways.go:42", after := #[{ on := 6, ground := Ground.data }, { on := 7, ground := Ground.data }], guard := none },
  { dst := some 13, op := Op.binOp BinOp.mul 3 (Operand.tmp 5) (Operand.tmp 12) 3, type := 3, pos := "ways.go:42", after := #[{ on := 1, ground := Ground.data }, { on := 8, ground := Ground.data }], guard := none },
  { dst := some 3, op := Op.assign (Operand.tmp 13), type := 3, pos := "ways.go:42", after := #[{ on := 9, ground := Ground.data }, { on := 1, ground := Ground.chain }, { on := 0, ground := Ground.phase }, { on := 1, ground := Ground.phase }, { on := 2, ground := Ground.phase }, { on := 3, ground := Ground.phase }, { on := 4, ground := Ground.phase }, { on := 5, ground := Ground.phase }, { on := 6, ground := Ground.phase }, { on := 7, ground := Ground.phase }, { on := 8, ground := Ground.phase }, { on := 9, ground := Ground.phase }], guard := none }]
set_option maxRecDepth 100000 in
set_option maxHeartbeats 16000000 in
theorem co2 (Q : Exit → Act → World → Prop) (X : Nat) (n M M1 S p a b r : Int) (u2 u4 u5 u6 u7 u8 u9 u10 u11 u12 u13 : Value) (W : World)
    (c0 : W.cell? ⟨X, 0, none⟩ = some (.int .i64 n)) (hm : IntKind.i64.wrap (M - 1) = M1) (hs : ∀ w : World, (Op.shift .shl .i64 1 .i64 M1).run Tryz.prog w = .ok (.int .i64 S) w) (ha : IntKind.i64.wrap (n + S) = a) (hb1 : IntKind.i64.wrap (a + M) = b) (hd : IntKind.i64.wrap (p * b) = r)
    (C5 : Hid (∀ x, Calls Tryz.prog 50 #[.int .i64 M] x fun e w' => e = .returned (.int .i64 p) ∧ Below x.heap.size x w'))
    (HQ : Hid (∀ (wz : World), Below W.heap.size W wz → Q .normal ⟨#[.int .i64 M, .pointer (some ⟨X, 0, none⟩), u2, .int .i64 r, .int .i64 M, .int .i64 p, .int .i64 n, .int .i64 M, .int .i64 M1, .int .i64 S, .int .i64 a, .int .i64 M, .int .i64 b, .int .i64 r], []⟩ wz)) : (Code.region 1 co2o true).wp Tryz.prog Q ⟨#[.int .i64 M, .pointer (some ⟨X, 0, none⟩), u2, .int .i64 0, u4, u5, u6, u7, u8, u9, u10, u11, u12, u13], []⟩ W := by
  unfold co2o
  refine wp_region_noPanic ?_
  refine wp_region_held_drew (S := fun x => Below W.heap.size W x) (by kernel_rfl) (bl_drew W) (fun hH0 => ?_)
  refine wpAnyH_take (i := 0) (oi := { dst := some 4, op := Op.move (Operand.tmp 0), type := 3, pos := "ways.go:42", after := #[], guard := none }) (v := .int .i64 M) rfl (by kernel_rfl) (by kernel_rfl) (by kernel_rfl) (fun _ _ _ h => h) (Or.inl ⟨by rfl, fun w0 hSw => ?_⟩) hH0 ?_
  · (clear hSw; go_simp)
  simp only [Act.put, List.setIfInBounds_toArray, List.set_cons_zero, List.set_cons_succ]
  refine wpAnyH_take (i := 2) (oi := { dst := some 6, op := Op.load 3 (Operand.tmp 1), type := 3, pos := "ways.go:42", after := #[], guard := none }) (v := .int .i64 n) rfl (by kernel_rfl) (by kernel_rfl) (by kernel_rfl) (fun _ _ _ h => h) (Or.inl ⟨by rfl, fun w0 hSw => ?_⟩) hH0 ?_
  · (have hS : Below W.heap.size W w0 := hSw; have a0 := cell_keep c0 hS; clear hS hSw; go_simp)
  simp only [Act.put, List.setIfInBounds_toArray, List.set_cons_zero, List.set_cons_succ]
  refine wpAnyH_take (i := 3) (oi := { dst := some 7, op := Op.move (Operand.tmp 0), type := 3, pos := "ways.go:42", after := #[], guard := none }) (v := .int .i64 M) rfl (by kernel_rfl) (by kernel_rfl) (by kernel_rfl) (fun _ _ _ h => h) (Or.inl ⟨by rfl, fun w0 hSw => ?_⟩) hH0 ?_
  · (clear hSw; go_simp)
  simp only [Act.put, List.setIfInBounds_toArray, List.set_cons_zero, List.set_cons_succ]
  refine wpAnyH_take (i := 4) (oi := { dst := some 8, op := Op.binOp BinOp.sub 3 (Operand.tmp 7) (Operand.const (Value.int IntKind.i64 1)) 3, type := 3, pos := "ways.go:42", after := #[{ on := 3, ground := Ground.data }], guard := none }) (v := .int .i64 M1) rfl (by kernel_rfl) (by kernel_rfl) (by kernel_rfl) (fun _ _ _ h => h) (Or.inl ⟨by rfl, fun w0 hSw => ?_⟩) hH0 ?_
  · (clear hSw; go_simp)
  simp only [Act.put, List.setIfInBounds_toArray, List.set_cons_zero, List.set_cons_succ]
  refine wpAnyH_take (i := 5) (oi := { dst := some 9, op := Op.binOp BinOp.shl 3 (Operand.const (Value.int IntKind.i64 1)) (Operand.tmp 8) 3, type := 3, pos := "ways.go:42", after := #[{ on := 4, ground := Ground.data }], guard := none }) (v := .int .i64 S) rfl (by kernel_rfl) (by kernel_rfl) (by kernel_rfl) (fun _ _ _ h => h) (Or.inl ⟨by rfl, fun w0 hSw => ?_⟩) hH0 ?_
  · (clear hSw; go_simp)
  simp only [Act.put, List.setIfInBounds_toArray, List.set_cons_zero, List.set_cons_succ]
  refine wpAnyH_take (i := 6) (oi := { dst := some 10, op := Op.binOp BinOp.add 3 (Operand.tmp 6) (Operand.tmp 9) 3, type := 3, pos := "ways.go:42", after := #[{ on := 2, ground := Ground.data }, { on := 5, ground := Ground.data }], guard := none }) (v := .int .i64 a) rfl (by kernel_rfl) (by kernel_rfl) (by kernel_rfl) (fun _ _ _ h => h) (Or.inl ⟨by rfl, fun w0 hSw => ?_⟩) hH0 ?_
  · (clear hSw; go_simp)
  simp only [Act.put, List.setIfInBounds_toArray, List.set_cons_zero, List.set_cons_succ]
  refine wpAnyH_take (i := 7) (oi := { dst := some 11, op := Op.move (Operand.tmp 0), type := 3, pos := "ways.go:42", after := #[], guard := none }) (v := .int .i64 M) rfl (by kernel_rfl) (by kernel_rfl) (by kernel_rfl) (fun _ _ _ h => h) (Or.inl ⟨by rfl, fun w0 hSw => ?_⟩) hH0 ?_
  · (clear hSw; go_simp)
  simp only [Act.put, List.setIfInBounds_toArray, List.set_cons_zero, List.set_cons_succ]
  refine wpAnyH_take (i := 8) (oi := { dst := some 12, op := Op.binOp BinOp.add 3 (Operand.tmp 10) (Operand.tmp 11) 3, type := 3, pos := "ways.go:42", after := #[{ on := 6, ground := Ground.data }, { on := 7, ground := Ground.data }], guard := none }) (v := .int .i64 b) rfl (by kernel_rfl) (by kernel_rfl) (by kernel_rfl) (fun _ _ _ h => h) (Or.inl ⟨by rfl, fun w0 hSw => ?_⟩) hH0 ?_
  · (clear hSw; go_simp)
  simp only [Act.put, List.setIfInBounds_toArray, List.set_cons_zero, List.set_cons_succ]
  refine wpAnyH_ready (rs := [1]) (by kernel_rfl) (by simp) ?_
  refine AllReadyH.cons (o := { dst := some 5, op := Op.call { callee := Callee.value (Operand.func 50), args := #[Operand.tmp 4], argTypes := #[3] }, type := 3, pos := "ways.go:42", after := #[{ on := 0, ground := Ground.data }], guard := none }) rfl (fun K hK => ?_) AllReadyH.nil
  have HH := hidden hH0
  clear hH0
  go_simp
  refine (C5.out _).mono ?_
  rintro e wn1 ⟨rfl, hb⟩
  have SN := hidden (bl_trans HH.out hb)
  clear HH hb
  go_wp2_with fail
  refine hK.out _ _ SN.out (fun hH1 => ?_)
  clear hK K SN
  refine wpAnyH_take (i := 9) (oi := { dst := some 13, op := Op.binOp BinOp.mul 3 (Operand.tmp 5) (Operand.tmp 12) 3, type := 3, pos := "ways.go:42", after := #[{ on := 1, ground := Ground.data }, { on := 8, ground := Ground.data }], guard := none }) (v := .int .i64 r) rfl (by kernel_rfl) (by kernel_rfl) (by kernel_rfl) (fun _ _ _ h => h) (Or.inl ⟨by rfl, fun w0 hSw => ?_⟩) hH1 ?_
  · (clear hSw; go_simp)
  simp only [Act.put, List.setIfInBounds_toArray, List.set_cons_zero, List.set_cons_succ]
  have HH := hidden hH1
  have FQ := hidden (HQ.out _ HH.out)
  refine wpAnyH_take (i := 10) (oi := { dst := some 3, op := Op.assign (Operand.tmp 13), type := 3, pos := "ways.go:42", after := #[{ on := 9, ground := Ground.data }, { on := 1, ground := Ground.chain }, { on := 0, ground := Ground.phase }, { on := 1, ground := Ground.phase }, { on := 2, ground := Ground.phase }, { on := 3, ground := Ground.phase }, { on := 4, ground := Ground.phase }, { on := 5, ground := Ground.phase }, { on := 6, ground := Ground.phase }, { on := 7, ground := Ground.phase }, { on := 8, ground := Ground.phase }, { on := 9, ground := Ground.phase }], guard := none }) (v := .int .i64 r) rfl (by kernel_rfl) (by kernel_rfl) (by kernel_rfl) (fun _ _ _ h => h) (Or.inl ⟨by rfl, fun w0 hSw => ?_⟩) hH1 ?_
  · (clear hSw; go_simp)
  simp only [Act.put, List.setIfInBounds_toArray, List.set_cons_zero, List.set_cons_succ]
  refine wpAnyH_done (by kernel_rfl) ?_ _
  refine NoPanic.normal ?_
  exact FQ.out
set_option maxRecDepth 100000 in
set_option maxHeartbeats 4000000 in
theorem cost1_1 (n X : Nat) (hn : n ≤ 8192) (w : World) (hX : w.cell? ⟨X, 0, none⟩ = some (.int .i64 (n : Int))) :
    Calls Tryz.prog 49 #[.int .i64 1, .pointer (some ⟨X, 0, none⟩)] w fun e w' => e = .returned (.int .i64 ((n : Int) * 255 + 254)) ∧ Below w.heap.size w w' := by
  have w1 : IntKind.i64.wrap ((n : Int) * 255) = (n : Int) * 255 := IntWalk.i64_in _ (by omega)
  have w2 : IntKind.i64.wrap ((n : Int) * 255 + 254) = (n : Int) * 255 + 254 := IntWalk.i64_in _ (by omega)
  go_enter Tryz.func49, Tryz.ntmps49
  go_upto_region 1 with fail
  refine co1 _ X n 1 0 1 254 255 _ 254 _ _ _ _ _ _ _ _ _ _ _ _ _ _ _ w hX (IntWalk.i64_in _ (by omega)) (fun _ => rfl) (IntWalk.i64_in _ (by omega)) w1 (IntWalk.i64_in _ (by omega)) w2 (hidden places_1) (hidden ?_)
  intro wz hz
  have BF := hidden hz
  clear hz
  go_wp2_with fail
  refine bodyPost_ret (v := .int .i64 ((n : Int) * 255 + 254)) (by simp [results, Tryz.results49, go_sem]) rfl ⟨rfl, BF.out⟩
set_option maxRecDepth 100000 in
set_option maxHeartbeats 4000000 in
theorem cost1_2 (n X : Nat) (hn : n ≤ 8192) (w : World) (hX : w.cell? ⟨X, 0, none⟩ = some (.int .i64 (n : Int))) :
    Calls Tryz.prog 49 #[.int .i64 2, .pointer (some ⟨X, 0, none⟩)] w fun e w' => e = .returned (.int .i64 ((n : Int) * 129 + 254)) ∧ Below w.heap.size w w' := by
  have w1 : IntKind.i64.wrap ((n : Int) * 129) = (n : Int) * 129 := IntWalk.i64_in _ (by omega)
  have w2 : IntKind.i64.wrap ((n : Int) * 129 + 254) = (n : Int) * 129 + 254 := IntWalk.i64_in _ (by omega)
  go_enter Tryz.func49, Tryz.ntmps49
  go_upto_region 1 with fail
  refine co1 _ X n 2 1 2 127 129 _ 254 _ _ _ _ _ _ _ _ _ _ _ _ _ _ _ w hX (IntWalk.i64_in _ (by omega)) (fun _ => rfl) (IntWalk.i64_in _ (by omega)) w1 (IntWalk.i64_in _ (by omega)) w2 (hidden places_2) (hidden ?_)
  intro wz hz
  have BF := hidden hz
  clear hz
  go_wp2_with fail
  refine bodyPost_ret (v := .int .i64 ((n : Int) * 129 + 254)) (by simp [results, Tryz.results49, go_sem]) rfl ⟨rfl, BF.out⟩
set_option maxRecDepth 100000 in
set_option maxHeartbeats 4000000 in
theorem cost1_3 (n X : Nat) (hn : n ≤ 8192) (w : World) (hX : w.cell? ⟨X, 0, none⟩ = some (.int .i64 (n : Int))) :
    Calls Tryz.prog 49 #[.int .i64 3, .pointer (some ⟨X, 0, none⟩)] w fun e w' => e = .returned (.int .i64 ((n : Int) * 89 + 255)) ∧ Below w.heap.size w w' := by
  have w1 : IntKind.i64.wrap ((n : Int) * 89) = (n : Int) * 89 := IntWalk.i64_in _ (by omega)
  have w2 : IntKind.i64.wrap ((n : Int) * 89 + 255) = (n : Int) * 89 + 255 := IntWalk.i64_in _ (by omega)
  go_enter Tryz.func49, Tryz.ntmps49
  go_upto_region 1 with fail
  refine co1 _ X n 3 2 4 85 89 _ 255 _ _ _ _ _ _ _ _ _ _ _ _ _ _ _ w hX (IntWalk.i64_in _ (by omega)) (fun _ => rfl) (IntWalk.i64_in _ (by omega)) w1 (IntWalk.i64_in _ (by omega)) w2 (hidden places_3) (hidden ?_)
  intro wz hz
  have BF := hidden hz
  clear hz
  go_wp2_with fail
  refine bodyPost_ret (v := .int .i64 ((n : Int) * 89 + 255)) (by simp [results, Tryz.results49, go_sem]) rfl ⟨rfl, BF.out⟩
set_option maxRecDepth 100000 in
set_option maxHeartbeats 4000000 in
theorem cost1_4 (n X : Nat) (hn : n ≤ 8192) (w : World) (hX : w.cell? ⟨X, 0, none⟩ = some (.int .i64 (n : Int))) :
    Calls Tryz.prog 49 #[.int .i64 4, .pointer (some ⟨X, 0, none⟩)] w fun e w' => e = .returned (.int .i64 ((n : Int) * 72 + 256)) ∧ Below w.heap.size w w' := by
  have w1 : IntKind.i64.wrap ((n : Int) * 72) = (n : Int) * 72 := IntWalk.i64_in _ (by omega)
  have w2 : IntKind.i64.wrap ((n : Int) * 72 + 256) = (n : Int) * 72 + 256 := IntWalk.i64_in _ (by omega)
  go_enter Tryz.func49, Tryz.ntmps49
  go_upto_region 1 with fail
  refine co1 _ X n 4 3 8 64 72 _ 256 _ _ _ _ _ _ _ _ _ _ _ _ _ _ _ w hX (IntWalk.i64_in _ (by omega)) (fun _ => rfl) (IntWalk.i64_in _ (by omega)) w1 (IntWalk.i64_in _ (by omega)) w2 (hidden places_4) (hidden ?_)
  intro wz hz
  have BF := hidden hz
  clear hz
  go_wp2_with fail
  refine bodyPost_ret (v := .int .i64 ((n : Int) * 72 + 256)) (by simp [results, Tryz.results49, go_sem]) rfl ⟨rfl, BF.out⟩
set_option maxRecDepth 100000 in
set_option maxHeartbeats 4000000 in
theorem cost1_5 (n X : Nat) (hn : n ≤ 8192) (w : World) (hX : w.cell? ⟨X, 0, none⟩ = some (.int .i64 (n : Int))) :
    Calls Tryz.prog 49 #[.int .i64 5, .pointer (some ⟨X, 0, none⟩)] w fun e w' => e = .returned (.int .i64 ((n : Int) * 67 + 255)) ∧ Below w.heap.size w w' := by
  have w1 : IntKind.i64.wrap ((n : Int) * 67) = (n : Int) * 67 := IntWalk.i64_in _ (by omega)
  have w2 : IntKind.i64.wrap ((n : Int) * 67 + 255) = (n : Int) * 67 + 255 := IntWalk.i64_in _ (by omega)
  go_enter Tryz.func49, Tryz.ntmps49
  go_upto_region 1 with fail
  refine co1 _ X n 5 4 16 51 67 _ 255 _ _ _ _ _ _ _ _ _ _ _ _ _ _ _ w hX (IntWalk.i64_in _ (by omega)) (fun _ => rfl) (IntWalk.i64_in _ (by omega)) w1 (IntWalk.i64_in _ (by omega)) w2 (hidden places_5) (hidden ?_)
  intro wz hz
  have BF := hidden hz
  clear hz
  go_wp2_with fail
  refine bodyPost_ret (v := .int .i64 ((n : Int) * 67 + 255)) (by simp [results, Tryz.results49, go_sem]) rfl ⟨rfl, BF.out⟩
set_option maxRecDepth 100000 in
set_option maxHeartbeats 4000000 in
theorem cost1_6 (n X : Nat) (hn : n ≤ 8192) (w : World) (hX : w.cell? ⟨X, 0, none⟩ = some (.int .i64 (n : Int))) :
    Calls Tryz.prog 49 #[.int .i64 6, .pointer (some ⟨X, 0, none⟩)] w fun e w' => e = .returned (.int .i64 ((n : Int) * 75 + 258)) ∧ Below w.heap.size w w' := by
  have w1 : IntKind.i64.wrap ((n : Int) * 75) = (n : Int) * 75 := IntWalk.i64_in _ (by omega)
  have w2 : IntKind.i64.wrap ((n : Int) * 75 + 258) = (n : Int) * 75 + 258 := IntWalk.i64_in _ (by omega)
  go_enter Tryz.func49, Tryz.ntmps49
  go_upto_region 1 with fail
  refine co1 _ X n 6 5 32 43 75 _ 258 _ _ _ _ _ _ _ _ _ _ _ _ _ _ _ w hX (IntWalk.i64_in _ (by omega)) (fun _ => rfl) (IntWalk.i64_in _ (by omega)) w1 (IntWalk.i64_in _ (by omega)) w2 (hidden places_6) (hidden ?_)
  intro wz hz
  have BF := hidden hz
  clear hz
  go_wp2_with fail
  refine bodyPost_ret (v := .int .i64 ((n : Int) * 75 + 258)) (by simp [results, Tryz.results49, go_sem]) rfl ⟨rfl, BF.out⟩
set_option maxRecDepth 100000 in
set_option maxHeartbeats 4000000 in
theorem cost1_7 (n X : Nat) (hn : n ≤ 8192) (w : World) (hX : w.cell? ⟨X, 0, none⟩ = some (.int .i64 (n : Int))) :
    Calls Tryz.prog 49 #[.int .i64 7, .pointer (some ⟨X, 0, none⟩)] w fun e w' => e = .returned (.int .i64 ((n : Int) * 101 + 259)) ∧ Below w.heap.size w w' := by
  have w1 : IntKind.i64.wrap ((n : Int) * 101) = (n : Int) * 101 := IntWalk.i64_in _ (by omega)
  have w2 : IntKind.i64.wrap ((n : Int) * 101 + 259) = (n : Int) * 101 + 259 := IntWalk.i64_in _ (by omega)
  go_enter Tryz.func49, Tryz.ntmps49
  go_upto_region 1 with fail
  refine co1 _ X n 7 6 64 37 101 _ 259 _ _ _ _ _ _ _ _ _ _ _ _ _ _ _ w hX (IntWalk.i64_in _ (by omega)) (fun _ => rfl) (IntWalk.i64_in _ (by omega)) w1 (IntWalk.i64_in _ (by omega)) w2 (hidden places_7) (hidden ?_)
  intro wz hz
  have BF := hidden hz
  clear hz
  go_wp2_with fail
  refine bodyPost_ret (v := .int .i64 ((n : Int) * 101 + 259)) (by simp [results, Tryz.results49, go_sem]) rfl ⟨rfl, BF.out⟩
set_option maxRecDepth 100000 in
set_option maxHeartbeats 4000000 in
theorem cost1_8 (n X : Nat) (hn : n ≤ 8192) (w : World) (hX : w.cell? ⟨X, 0, none⟩ = some (.int .i64 (n : Int))) :
    Calls Tryz.prog 49 #[.int .i64 8, .pointer (some ⟨X, 0, none⟩)] w fun e w' => e = .returned (.int .i64 ((n : Int) * 160 + 256)) ∧ Below w.heap.size w w' := by
  have w1 : IntKind.i64.wrap ((n : Int) * 160) = (n : Int) * 160 := IntWalk.i64_in _ (by omega)
  have w2 : IntKind.i64.wrap ((n : Int) * 160 + 256) = (n : Int) * 160 + 256 := IntWalk.i64_in _ (by omega)
  go_enter Tryz.func49, Tryz.ntmps49
  go_upto_region 1 with fail
  refine co1 _ X n 8 7 128 32 160 _ 256 _ _ _ _ _ _ _ _ _ _ _ _ _ _ _ w hX (IntWalk.i64_in _ (by omega)) (fun _ => rfl) (IntWalk.i64_in _ (by omega)) w1 (IntWalk.i64_in _ (by omega)) w2 (hidden places_8) (hidden ?_)
  intro wz hz
  have BF := hidden hz
  clear hz
  go_wp2_with fail
  refine bodyPost_ret (v := .int .i64 ((n : Int) * 160 + 256)) (by simp [results, Tryz.results49, go_sem]) rfl ⟨rfl, BF.out⟩
set_option maxRecDepth 100000 in
set_option maxHeartbeats 4000000 in
theorem cost2_1 (n X : Nat) (hn : n ≤ 8192) (w : World) (hX : w.cell? ⟨X, 0, none⟩ = some (.int .i64 (n : Int))) :
    Calls Tryz.prog 51 #[.int .i64 1, .pointer (some ⟨X, 0, none⟩)] w fun e w' => e = .returned (.int .i64 (254 * ((n : Int) + 1 + 1))) ∧ Below w.heap.size w w' := by
  have w1 : IntKind.i64.wrap ((n : Int) + 1) = (n : Int) + 1 := IntWalk.i64_in _ (by omega)
  have w2 : IntKind.i64.wrap ((n : Int) + 1 + 1) = (n : Int) + 1 + 1 := IntWalk.i64_in _ (by omega)
  have w3 : IntKind.i64.wrap (254 * ((n : Int) + 1 + 1)) = 254 * ((n : Int) + 1 + 1) := IntWalk.i64_in _ (by omega)
  go_enter Tryz.func51, Tryz.ntmps51
  go_upto_region 1 with fail
  refine co2 _ X n 1 0 1 254 _ _ _ _ _ _ _ _ _ _ _ _ _ _ w hX (IntWalk.i64_in _ (by omega)) (fun _ => rfl) w1 w2 w3 (hidden places_1) (hidden ?_)
  intro wz hz
  have BF := hidden hz
  clear hz w1 w2 w3
  go_wp2_with fail
  refine bodyPost_ret (v := .int .i64 (254 * ((n : Int) + 1 + 1))) (by simp [results, Tryz.results51, go_sem]) rfl ⟨rfl, BF.out⟩
set_option maxRecDepth 100000 in
set_option maxHeartbeats 4000000 in
theorem cost2_2 (n X : Nat) (hn : n ≤ 8192) (w : World) (hX : w.cell? ⟨X, 0, none⟩ = some (.int .i64 (n : Int))) :
    Calls Tryz.prog 51 #[.int .i64 2, .pointer (some ⟨X, 0, none⟩)] w fun e w' => e = .returned (.int .i64 (127 * ((n : Int) + 2 + 2))) ∧ Below w.heap.size w w' := by
  have w1 : IntKind.i64.wrap ((n : Int) + 2) = (n : Int) + 2 := IntWalk.i64_in _ (by omega)
  have w2 : IntKind.i64.wrap ((n : Int) + 2 + 2) = (n : Int) + 2 + 2 := IntWalk.i64_in _ (by omega)
  have w3 : IntKind.i64.wrap (127 * ((n : Int) + 2 + 2)) = 127 * ((n : Int) + 2 + 2) := IntWalk.i64_in _ (by omega)
  go_enter Tryz.func51, Tryz.ntmps51
  go_upto_region 1 with fail
  refine co2 _ X n 2 1 2 127 _ _ _ _ _ _ _ _ _ _ _ _ _ _ w hX (IntWalk.i64_in _ (by omega)) (fun _ => rfl) w1 w2 w3 (hidden places_2) (hidden ?_)
  intro wz hz
  have BF := hidden hz
  clear hz w1 w2 w3
  go_wp2_with fail
  refine bodyPost_ret (v := .int .i64 (127 * ((n : Int) + 2 + 2))) (by simp [results, Tryz.results51, go_sem]) rfl ⟨rfl, BF.out⟩
set_option maxRecDepth 100000 in
set_option maxHeartbeats 4000000 in
theorem cost2_3 (n X : Nat) (hn : n ≤ 8192) (w : World) (hX : w.cell? ⟨X, 0, none⟩ = some (.int .i64 (n : Int))) :
    Calls Tryz.prog 51 #[.int .i64 3, .pointer (some ⟨X, 0, none⟩)] w fun e w' => e = .returned (.int .i64 (85 * ((n : Int) + 4 + 3))) ∧ Below w.heap.size w w' := by
  have w1 : IntKind.i64.wrap ((n : Int) + 4) = (n : Int) + 4 := IntWalk.i64_in _ (by omega)
  have w2 : IntKind.i64.wrap ((n : Int) + 4 + 3) = (n : Int) + 4 + 3 := IntWalk.i64_in _ (by omega)
  have w3 : IntKind.i64.wrap (85 * ((n : Int) + 4 + 3)) = 85 * ((n : Int) + 4 + 3) := IntWalk.i64_in _ (by omega)
  go_enter Tryz.func51, Tryz.ntmps51
  go_upto_region 1 with fail
  refine co2 _ X n 3 2 4 85 _ _ _ _ _ _ _ _ _ _ _ _ _ _ w hX (IntWalk.i64_in _ (by omega)) (fun _ => rfl) w1 w2 w3 (hidden places_3) (hidden ?_)
  intro wz hz
  have BF := hidden hz
  clear hz w1 w2 w3
  go_wp2_with fail
  refine bodyPost_ret (v := .int .i64 (85 * ((n : Int) + 4 + 3))) (by simp [results, Tryz.results51, go_sem]) rfl ⟨rfl, BF.out⟩
set_option maxRecDepth 100000 in
set_option maxHeartbeats 4000000 in
theorem cost2_4 (n X : Nat) (hn : n ≤ 8192) (w : World) (hX : w.cell? ⟨X, 0, none⟩ = some (.int .i64 (n : Int))) :
    Calls Tryz.prog 51 #[.int .i64 4, .pointer (some ⟨X, 0, none⟩)] w fun e w' => e = .returned (.int .i64 (64 * ((n : Int) + 8 + 4))) ∧ Below w.heap.size w w' := by
  have w1 : IntKind.i64.wrap ((n : Int) + 8) = (n : Int) + 8 := IntWalk.i64_in _ (by omega)
  have w2 : IntKind.i64.wrap ((n : Int) + 8 + 4) = (n : Int) + 8 + 4 := IntWalk.i64_in _ (by omega)
  have w3 : IntKind.i64.wrap (64 * ((n : Int) + 8 + 4)) = 64 * ((n : Int) + 8 + 4) := IntWalk.i64_in _ (by omega)
  go_enter Tryz.func51, Tryz.ntmps51
  go_upto_region 1 with fail
  refine co2 _ X n 4 3 8 64 _ _ _ _ _ _ _ _ _ _ _ _ _ _ w hX (IntWalk.i64_in _ (by omega)) (fun _ => rfl) w1 w2 w3 (hidden places_4) (hidden ?_)
  intro wz hz
  have BF := hidden hz
  clear hz w1 w2 w3
  go_wp2_with fail
  refine bodyPost_ret (v := .int .i64 (64 * ((n : Int) + 8 + 4))) (by simp [results, Tryz.results51, go_sem]) rfl ⟨rfl, BF.out⟩
set_option maxRecDepth 100000 in
set_option maxHeartbeats 4000000 in
theorem cost2_5 (n X : Nat) (hn : n ≤ 8192) (w : World) (hX : w.cell? ⟨X, 0, none⟩ = some (.int .i64 (n : Int))) :
    Calls Tryz.prog 51 #[.int .i64 5, .pointer (some ⟨X, 0, none⟩)] w fun e w' => e = .returned (.int .i64 (51 * ((n : Int) + 16 + 5))) ∧ Below w.heap.size w w' := by
  have w1 : IntKind.i64.wrap ((n : Int) + 16) = (n : Int) + 16 := IntWalk.i64_in _ (by omega)
  have w2 : IntKind.i64.wrap ((n : Int) + 16 + 5) = (n : Int) + 16 + 5 := IntWalk.i64_in _ (by omega)
  have w3 : IntKind.i64.wrap (51 * ((n : Int) + 16 + 5)) = 51 * ((n : Int) + 16 + 5) := IntWalk.i64_in _ (by omega)
  go_enter Tryz.func51, Tryz.ntmps51
  go_upto_region 1 with fail
  refine co2 _ X n 5 4 16 51 _ _ _ _ _ _ _ _ _ _ _ _ _ _ w hX (IntWalk.i64_in _ (by omega)) (fun _ => rfl) w1 w2 w3 (hidden places_5) (hidden ?_)
  intro wz hz
  have BF := hidden hz
  clear hz w1 w2 w3
  go_wp2_with fail
  refine bodyPost_ret (v := .int .i64 (51 * ((n : Int) + 16 + 5))) (by simp [results, Tryz.results51, go_sem]) rfl ⟨rfl, BF.out⟩
set_option maxRecDepth 100000 in
set_option maxHeartbeats 4000000 in
theorem cost2_6 (n X : Nat) (hn : n ≤ 8192) (w : World) (hX : w.cell? ⟨X, 0, none⟩ = some (.int .i64 (n : Int))) :
    Calls Tryz.prog 51 #[.int .i64 6, .pointer (some ⟨X, 0, none⟩)] w fun e w' => e = .returned (.int .i64 (43 * ((n : Int) + 32 + 6))) ∧ Below w.heap.size w w' := by
  have w1 : IntKind.i64.wrap ((n : Int) + 32) = (n : Int) + 32 := IntWalk.i64_in _ (by omega)
  have w2 : IntKind.i64.wrap ((n : Int) + 32 + 6) = (n : Int) + 32 + 6 := IntWalk.i64_in _ (by omega)
  have w3 : IntKind.i64.wrap (43 * ((n : Int) + 32 + 6)) = 43 * ((n : Int) + 32 + 6) := IntWalk.i64_in _ (by omega)
  go_enter Tryz.func51, Tryz.ntmps51
  go_upto_region 1 with fail
  refine co2 _ X n 6 5 32 43 _ _ _ _ _ _ _ _ _ _ _ _ _ _ w hX (IntWalk.i64_in _ (by omega)) (fun _ => rfl) w1 w2 w3 (hidden places_6) (hidden ?_)
  intro wz hz
  have BF := hidden hz
  clear hz w1 w2 w3
  go_wp2_with fail
  refine bodyPost_ret (v := .int .i64 (43 * ((n : Int) + 32 + 6))) (by simp [results, Tryz.results51, go_sem]) rfl ⟨rfl, BF.out⟩
set_option maxRecDepth 100000 in
set_option maxHeartbeats 4000000 in
theorem cost2_7 (n X : Nat) (hn : n ≤ 8192) (w : World) (hX : w.cell? ⟨X, 0, none⟩ = some (.int .i64 (n : Int))) :
    Calls Tryz.prog 51 #[.int .i64 7, .pointer (some ⟨X, 0, none⟩)] w fun e w' => e = .returned (.int .i64 (37 * ((n : Int) + 64 + 7))) ∧ Below w.heap.size w w' := by
  have w1 : IntKind.i64.wrap ((n : Int) + 64) = (n : Int) + 64 := IntWalk.i64_in _ (by omega)
  have w2 : IntKind.i64.wrap ((n : Int) + 64 + 7) = (n : Int) + 64 + 7 := IntWalk.i64_in _ (by omega)
  have w3 : IntKind.i64.wrap (37 * ((n : Int) + 64 + 7)) = 37 * ((n : Int) + 64 + 7) := IntWalk.i64_in _ (by omega)
  go_enter Tryz.func51, Tryz.ntmps51
  go_upto_region 1 with fail
  refine co2 _ X n 7 6 64 37 _ _ _ _ _ _ _ _ _ _ _ _ _ _ w hX (IntWalk.i64_in _ (by omega)) (fun _ => rfl) w1 w2 w3 (hidden places_7) (hidden ?_)
  intro wz hz
  have BF := hidden hz
  clear hz w1 w2 w3
  go_wp2_with fail
  refine bodyPost_ret (v := .int .i64 (37 * ((n : Int) + 64 + 7))) (by simp [results, Tryz.results51, go_sem]) rfl ⟨rfl, BF.out⟩
set_option maxRecDepth 100000 in
set_option maxHeartbeats 4000000 in
theorem cost2_8 (n X : Nat) (hn : n ≤ 8192) (w : World) (hX : w.cell? ⟨X, 0, none⟩ = some (.int .i64 (n : Int))) :
    Calls Tryz.prog 51 #[.int .i64 8, .pointer (some ⟨X, 0, none⟩)] w fun e w' => e = .returned (.int .i64 (32 * ((n : Int) + 128 + 8))) ∧ Below w.heap.size w w' := by
  have w1 : IntKind.i64.wrap ((n : Int) + 128) = (n : Int) + 128 := IntWalk.i64_in _ (by omega)
  have w2 : IntKind.i64.wrap ((n : Int) + 128 + 8) = (n : Int) + 128 + 8 := IntWalk.i64_in _ (by omega)
  have w3 : IntKind.i64.wrap (32 * ((n : Int) + 128 + 8)) = 32 * ((n : Int) + 128 + 8) := IntWalk.i64_in _ (by omega)
  go_enter Tryz.func51, Tryz.ntmps51
  go_upto_region 1 with fail
  refine co2 _ X n 8 7 128 32 _ _ _ _ _ _ _ _ _ _ _ _ _ _ w hX (IntWalk.i64_in _ (by omega)) (fun _ => rfl) w1 w2 w3 (hidden places_8) (hidden ?_)
  intro wz hz
  have BF := hidden hz
  clear hz w1 w2 w3
  go_wp2_with fail
  refine bodyPost_ret (v := .int .i64 (32 * ((n : Int) + 128 + 8))) (by simp [results, Tryz.results51, go_sem]) rfl ⟨rfl, BF.out⟩
set_option maxRecDepth 100000 in
set_option maxHeartbeats 4000000 in
theorem cost2_9 (n X : Nat) (hn : n ≤ 8192) (w : World) (hX : w.cell? ⟨X, 0, none⟩ = some (.int .i64 (n : Int))) :
    Calls Tryz.prog 51 #[.int .i64 9, .pointer (some ⟨X, 0, none⟩)] w fun e w' => e = .returned (.int .i64 (29 * ((n : Int) + 256 + 9))) ∧ Below w.heap.size w w' := by
  have w1 : IntKind.i64.wrap ((n : Int) + 256) = (n : Int) + 256 := IntWalk.i64_in _ (by omega)
  have w2 : IntKind.i64.wrap ((n : Int) + 256 + 9) = (n : Int) + 256 + 9 := IntWalk.i64_in _ (by omega)
  have w3 : IntKind.i64.wrap (29 * ((n : Int) + 256 + 9)) = 29 * ((n : Int) + 256 + 9) := IntWalk.i64_in _ (by omega)
  go_enter Tryz.func51, Tryz.ntmps51
  go_upto_region 1 with fail
  refine co2 _ X n 9 8 256 29 _ _ _ _ _ _ _ _ _ _ _ _ _ _ w hX (IntWalk.i64_in _ (by omega)) (fun _ => rfl) w1 w2 w3 (hidden places_9) (hidden ?_)
  intro wz hz
  have BF := hidden hz
  clear hz w1 w2 w3
  go_wp2_with fail
  refine bodyPost_ret (v := .int .i64 (29 * ((n : Int) + 256 + 9))) (by simp [results, Tryz.results51, go_sem]) rfl ⟨rfl, BF.out⟩
set_option maxRecDepth 100000 in
set_option maxHeartbeats 4000000 in
theorem cost2_10 (n X : Nat) (hn : n ≤ 8192) (w : World) (hX : w.cell? ⟨X, 0, none⟩ = some (.int .i64 (n : Int))) :
    Calls Tryz.prog 51 #[.int .i64 10, .pointer (some ⟨X, 0, none⟩)] w fun e w' => e = .returned (.int .i64 (26 * ((n : Int) + 512 + 10))) ∧ Below w.heap.size w w' := by
  have w1 : IntKind.i64.wrap ((n : Int) + 512) = (n : Int) + 512 := IntWalk.i64_in _ (by omega)
  have w2 : IntKind.i64.wrap ((n : Int) + 512 + 10) = (n : Int) + 512 + 10 := IntWalk.i64_in _ (by omega)
  have w3 : IntKind.i64.wrap (26 * ((n : Int) + 512 + 10)) = 26 * ((n : Int) + 512 + 10) := IntWalk.i64_in _ (by omega)
  go_enter Tryz.func51, Tryz.ntmps51
  go_upto_region 1 with fail
  refine co2 _ X n 10 9 512 26 _ _ _ _ _ _ _ _ _ _ _ _ _ _ w hX (IntWalk.i64_in _ (by omega)) (fun _ => rfl) w1 w2 w3 (hidden places_10) (hidden ?_)
  intro wz hz
  have BF := hidden hz
  clear hz w1 w2 w3
  go_wp2_with fail
  refine bodyPost_ret (v := .int .i64 (26 * ((n : Int) + 512 + 10))) (by simp [results, Tryz.results51, go_sem]) rfl ⟨rfl, BF.out⟩
set_option maxRecDepth 100000 in
set_option maxHeartbeats 4000000 in
theorem cost2_11 (n X : Nat) (hn : n ≤ 8192) (w : World) (hX : w.cell? ⟨X, 0, none⟩ = some (.int .i64 (n : Int))) :
    Calls Tryz.prog 51 #[.int .i64 11, .pointer (some ⟨X, 0, none⟩)] w fun e w' => e = .returned (.int .i64 (24 * ((n : Int) + 1024 + 11))) ∧ Below w.heap.size w w' := by
  have w1 : IntKind.i64.wrap ((n : Int) + 1024) = (n : Int) + 1024 := IntWalk.i64_in _ (by omega)
  have w2 : IntKind.i64.wrap ((n : Int) + 1024 + 11) = (n : Int) + 1024 + 11 := IntWalk.i64_in _ (by omega)
  have w3 : IntKind.i64.wrap (24 * ((n : Int) + 1024 + 11)) = 24 * ((n : Int) + 1024 + 11) := IntWalk.i64_in _ (by omega)
  go_enter Tryz.func51, Tryz.ntmps51
  go_upto_region 1 with fail
  refine co2 _ X n 11 10 1024 24 _ _ _ _ _ _ _ _ _ _ _ _ _ _ w hX (IntWalk.i64_in _ (by omega)) (fun _ => rfl) w1 w2 w3 (hidden places_11) (hidden ?_)
  intro wz hz
  have BF := hidden hz
  clear hz w1 w2 w3
  go_wp2_with fail
  refine bodyPost_ret (v := .int .i64 (24 * ((n : Int) + 1024 + 11))) (by simp [results, Tryz.results51, go_sem]) rfl ⟨rfl, BF.out⟩
set_option maxRecDepth 100000 in
set_option maxHeartbeats 4000000 in
theorem cost2_12 (n X : Nat) (hn : n ≤ 8192) (w : World) (hX : w.cell? ⟨X, 0, none⟩ = some (.int .i64 (n : Int))) :
    Calls Tryz.prog 51 #[.int .i64 12, .pointer (some ⟨X, 0, none⟩)] w fun e w' => e = .returned (.int .i64 (22 * ((n : Int) + 2048 + 12))) ∧ Below w.heap.size w w' := by
  have w1 : IntKind.i64.wrap ((n : Int) + 2048) = (n : Int) + 2048 := IntWalk.i64_in _ (by omega)
  have w2 : IntKind.i64.wrap ((n : Int) + 2048 + 12) = (n : Int) + 2048 + 12 := IntWalk.i64_in _ (by omega)
  have w3 : IntKind.i64.wrap (22 * ((n : Int) + 2048 + 12)) = 22 * ((n : Int) + 2048 + 12) := IntWalk.i64_in _ (by omega)
  go_enter Tryz.func51, Tryz.ntmps51
  go_upto_region 1 with fail
  refine co2 _ X n 12 11 2048 22 _ _ _ _ _ _ _ _ _ _ _ _ _ _ w hX (IntWalk.i64_in _ (by omega)) (fun _ => rfl) w1 w2 w3 (hidden places_12) (hidden ?_)
  intro wz hz
  have BF := hidden hz
  clear hz w1 w2 w3
  go_wp2_with fail
  refine bodyPost_ret (v := .int .i64 (22 * ((n : Int) + 2048 + 12))) (by simp [results, Tryz.results51, go_sem]) rfl ⟨rfl, BF.out⟩
end Go.Proofs.YtapieajkmpnmoaaGreatDoor
namespace Go.Proofs.YtapieajkmpnmoaaGreatDoor
open Go.RowKit
set_option linter.unusedVariables false
set_option maxRecDepth 100000 in
set_option maxHeartbeats 4000000 in
theorem least_1 (C : Nat → Int) (T X : Nat) (hT1 : 1 ≤ T) (hT : T ≤ 12) (w : World) (hC : ∀ m : Nat, 1 ≤ m → m ≤ T → ∀ x, Below w.heap.size w x → Calls Tryz.prog 49 #[.int .i64 (m : Int), .pointer (some ⟨X, 0, none⟩)] x fun e w' => e = .returned (.int .i64 (C m)) ∧ Below x.heap.size x w') :
    Calls Tryz.prog 48 #[.int .i64 (T : Int), .func (.func 49) #[] #[.pointer (some ⟨X, 0, none⟩)]] w fun e w' => ∃ b : Nat, e = .returned (.tuple #[.int .i64 (b : Int), .int .i64 (C b)]) ∧ 1 ≤ b ∧ b ≤ T ∧ (∀ m, 1 ≤ m → m ≤ T → C b ≤ C m) ∧ Below w.heap.size w w' := by
  have HC := hidden hC
  have HT : Hid (1 ≤ T ∧ T ≤ 12) := hidden ⟨hT1, hT⟩
  have C1 := hidden (hC 1 (by omega) hT1 w (Below.refl _ _))
  simp only [Int.natCast_one] at C1
  clear hC hT1 hT
  go_enter Tryz.func48, Tryz.ntmps48
  go_wp2_with (first | (go_at_call 49; refine C1.out.mono ?_; rintro e wa ⟨rfl, ha⟩; have B1 := hidden ha; clear ha))
  go_loopw [6, 7, 8] (fun bv lv mv w' => ∃ b m : Nat, bv = .int .i64 (b : Int) ∧ lv = .int .i64 (C b) ∧ mv = .int .i64 (m : Int) ∧ Hid (1 ≤ b ∧ b < m ∧ 2 ≤ m ∧ m ≤ T + 1 ∧ (∀ k, 1 ≤ k → k < m → C b ≤ C k) ∧ Below w.heap.size w w')) (fun _ _ m _ => T + 1 - (intOf m).toNat)
  case atStart => exact ⟨1, 2, rfl, rfl, rfl, hidden ⟨by omega, by omega, by omega, by have := HT.out; omega, fun k h1 h2 => by rw [show k = 1 by omega]; exact Int.le_refl _, B1.out⟩⟩
  case round =>
    obtain ⟨b, m, rfl, rfl, rfl, ST⟩ := hrel
    by_cases hm : m ≤ T
    · have m1 : (m : Int) ≤ (T : Int) := by omega
      have w9 : IntKind.i64.wrap ((m : Int) + 1) = (m : Int) + 1 := IntWalk.i64_in _ (by have := HT.out; omega)
      have CM := hidden (HC.out m (by have := ST.out; omega) hm wr ST.out.2.2.2.2.2)
      have HM := hidden hm
      obtain ⟨cm, hcm⟩ : ∃ c, C m = c := ⟨_, rfl⟩
      obtain ⟨cb, hcb⟩ : ∃ c, C b = c := ⟨_, rfl⟩
      rw [hcm] at CM
      have HCM := hidden hcm
      have HCB := hidden hcb
      rw [hcb]
      clear hm hcm hcb
      by_cases hlt : cm < cb
      · go_wp2_with (first | (go_at_call 49; refine CM.out.mono ?_; rintro e wb ⟨rfl, hb⟩; have B2 := hidden (bl_trans ST.out.2.2.2.2.2 hb); clear hb))
        go_roundw
        case rel => exact ⟨m, m + 1, rfl, by rw [HCM.out], by go_num, hidden ⟨by have := ST.out; omega, by omega, by have := ST.out; omega, by have := HM.out; omega, fun k h1 h2 => by
          by_cases e : k = m
          · subst e; exact Int.le_refl _
          · have := ST.out.2.2.2.2.1 k h1 (by omega); have := HCM.out; have := HCB.out; omega, B2.out⟩⟩
        case measure => have := HM.out; simp [intOf]; omega
      · go_wp2_with (first | (go_at_call 49; refine CM.out.mono ?_; rintro e wb ⟨rfl, hb⟩; have B2 := hidden (bl_trans ST.out.2.2.2.2.2 hb); clear hb))
        go_roundw
        case rel => exact ⟨b, m + 1, rfl, by rw [HCB.out], by go_num, hidden ⟨by have := ST.out; omega, by have := ST.out; omega, by have := ST.out; omega, by have := HM.out; omega, fun k h1 h2 => by
          by_cases e : k = m
          · subst e; have := HCM.out; have := HCB.out; omega
          · exact ST.out.2.2.2.2.1 k h1 (by omega), B2.out⟩⟩
        case measure => have := HM.out; simp [intOf]; omega
    · have m1 : ¬ (m : Int) ≤ (T : Int) := by omega
      have HM := hidden hm
      clear hm
      go_wp2_with fail
      refine bodyPost_ret (v := .tuple #[.int .i64 (b : Int), .int .i64 (C b)]) (by simp [results, Tryz.results48, go_sem]) rfl ⟨b, rfl, ST.out.1, by have := ST.out; omega, fun k h1 h2 => ST.out.2.2.2.2.1 k h1 (by have := HM.out; omega), ST.out.2.2.2.2.2⟩
set_option maxRecDepth 100000 in
set_option maxHeartbeats 4000000 in
theorem least_2 (C : Nat → Int) (T X : Nat) (hT1 : 1 ≤ T) (hT : T ≤ 12) (w : World) (hC : ∀ m : Nat, 1 ≤ m → m ≤ T → ∀ x, Below w.heap.size w x → Calls Tryz.prog 51 #[.int .i64 (m : Int), .pointer (some ⟨X, 0, none⟩)] x fun e w' => e = .returned (.int .i64 (C m)) ∧ Below x.heap.size x w') :
    Calls Tryz.prog 48 #[.int .i64 (T : Int), .func (.func 51) #[] #[.pointer (some ⟨X, 0, none⟩)]] w fun e w' => ∃ b : Nat, e = .returned (.tuple #[.int .i64 (b : Int), .int .i64 (C b)]) ∧ 1 ≤ b ∧ b ≤ T ∧ (∀ m, 1 ≤ m → m ≤ T → C b ≤ C m) ∧ Below w.heap.size w w' := by
  have HC := hidden hC
  have HT : Hid (1 ≤ T ∧ T ≤ 12) := hidden ⟨hT1, hT⟩
  have C1 := hidden (hC 1 (by omega) hT1 w (Below.refl _ _))
  simp only [Int.natCast_one] at C1
  clear hC hT1 hT
  go_enter Tryz.func48, Tryz.ntmps48
  go_wp2_with (first | (go_at_call 51; refine C1.out.mono ?_; rintro e wa ⟨rfl, ha⟩; have B1 := hidden ha; clear ha))
  go_loopw [6, 7, 8] (fun bv lv mv w' => ∃ b m : Nat, bv = .int .i64 (b : Int) ∧ lv = .int .i64 (C b) ∧ mv = .int .i64 (m : Int) ∧ Hid (1 ≤ b ∧ b < m ∧ 2 ≤ m ∧ m ≤ T + 1 ∧ (∀ k, 1 ≤ k → k < m → C b ≤ C k) ∧ Below w.heap.size w w')) (fun _ _ m _ => T + 1 - (intOf m).toNat)
  case atStart => exact ⟨1, 2, rfl, rfl, rfl, hidden ⟨by omega, by omega, by omega, by have := HT.out; omega, fun k h1 h2 => by rw [show k = 1 by omega]; exact Int.le_refl _, B1.out⟩⟩
  case round =>
    obtain ⟨b, m, rfl, rfl, rfl, ST⟩ := hrel
    by_cases hm : m ≤ T
    · have m1 : (m : Int) ≤ (T : Int) := by omega
      have w9 : IntKind.i64.wrap ((m : Int) + 1) = (m : Int) + 1 := IntWalk.i64_in _ (by have := HT.out; omega)
      have CM := hidden (HC.out m (by have := ST.out; omega) hm wr ST.out.2.2.2.2.2)
      have HM := hidden hm
      obtain ⟨cm, hcm⟩ : ∃ c, C m = c := ⟨_, rfl⟩
      obtain ⟨cb, hcb⟩ : ∃ c, C b = c := ⟨_, rfl⟩
      rw [hcm] at CM
      have HCM := hidden hcm
      have HCB := hidden hcb
      rw [hcb]
      clear hm hcm hcb
      by_cases hlt : cm < cb
      · go_wp2_with (first | (go_at_call 51; refine CM.out.mono ?_; rintro e wb ⟨rfl, hb⟩; have B2 := hidden (bl_trans ST.out.2.2.2.2.2 hb); clear hb))
        go_roundw
        case rel => exact ⟨m, m + 1, rfl, by rw [HCM.out], by go_num, hidden ⟨by have := ST.out; omega, by omega, by have := ST.out; omega, by have := HM.out; omega, fun k h1 h2 => by
          by_cases e : k = m
          · subst e; exact Int.le_refl _
          · have := ST.out.2.2.2.2.1 k h1 (by omega); have := HCM.out; have := HCB.out; omega, B2.out⟩⟩
        case measure => have := HM.out; simp [intOf]; omega
      · go_wp2_with (first | (go_at_call 51; refine CM.out.mono ?_; rintro e wb ⟨rfl, hb⟩; have B2 := hidden (bl_trans ST.out.2.2.2.2.2 hb); clear hb))
        go_roundw
        case rel => exact ⟨b, m + 1, rfl, by rw [HCB.out], by go_num, hidden ⟨by have := ST.out; omega, by have := ST.out; omega, by have := ST.out; omega, by have := HM.out; omega, fun k h1 h2 => by
          by_cases e : k = m
          · subst e; have := HCM.out; have := HCB.out; omega
          · exact ST.out.2.2.2.2.1 k h1 (by omega), B2.out⟩⟩
        case measure => have := HM.out; simp [intOf]; omega
    · have m1 : ¬ (m : Int) ≤ (T : Int) := by omega
      have HM := hidden hm
      clear hm
      go_wp2_with fail
      refine bodyPost_ret (v := .tuple #[.int .i64 (b : Int), .int .i64 (C b)]) (by simp [results, Tryz.results48, go_sem]) rfl ⟨b, rfl, ST.out.1, by have := ST.out; omega, fun k h1 h2 => ST.out.2.2.2.2.1 k h1 (by have := HM.out; omega), ST.out.2.2.2.2.2⟩
end Go.Proofs.YtapieajkmpnmoaaGreatDoor
namespace Go.Proofs.YtapieajkmpnmoaaGreatDoor
open Go.RowKit
set_option linter.unusedVariables false
/-- a row of piles: s: has it some, x: their sums -/
structure Pl (w : World) (D K : Nat) (s : Nat → Bool) (x : Nat → Nat → Int) : Prop where
  c : ∀ i, i < K → ∃ (P : Option Addr) (n c : Nat), w.cell? ⟨D, i * 2, none⟩ = some (.slice P n c) ∧ w.cell? ⟨D, i * 2 + 1, none⟩ = some (.bool (s i)) ∧ (s i = true → Fr w (.agg #[.slice P n c]) (x i))
  z : ∀ i, i < K → s i = false → ∀ t, lst (x i t) = zero4
  fr : ∀ o, o < K * 2 → w.frozen? ⟨D, o, none⟩ = false
  no : ∀ o z, w.cell? ⟨D, o, none⟩ ≠ some (.int .u64 z)
  lt : D < w.heap.size
theorem Pl.hand {w w' : World} {D K H : Nat} {s : Nat → Bool} {x : Nat → Nat → Int} (h : Pl w D K s x) (hH : Hd w H) (hg : w.grownBy w' (some H)) (hn : D ≠ H) : Pl w' D K s x := by
  have e : ∀ o, w'.cell? ⟨D, o, none⟩ = w.cell? ⟨D, o, none⟩ := fun o => World.cell?_of_block (hg.block D h.lt (fun e => hn (Option.some.inj e)))
  have e2 : ∀ o, w'.frozen? ⟨D, o, none⟩ = w.frozen? ⟨D, o, none⟩ := fun o => World.frozen?_of_block (hg.block D h.lt (fun e => hn (Option.some.inj e)))
  refine ⟨fun i hi => ?_, h.z, fun j hj => by rw [e2]; exact h.fr j hj, fun o z => by rw [e]; exact h.no o z, Nat.lt_of_lt_of_le h.lt hg.size⟩
  obtain ⟨P, n, c, h1, h2, h3⟩ := h.c i hi
  exact ⟨P, n, c, by rw [e]; exact h1, by rw [e]; exact h2, fun hs => (h3 hs).hand hH hg⟩
theorem Pl.keep {w w' : World} {D K : Nat} {s : Nat → Bool} {x : Nat → Nat → Int} (h : Pl w D K s x) (hb : Below w.heap.size w w') : Pl w' D K s x := by
  have e : ∀ o, w'.cell? ⟨D, o, none⟩ = w.cell? ⟨D, o, none⟩ := fun o => (bcell hb).1 D o h.lt
  have e2 : ∀ o, w'.frozen? ⟨D, o, none⟩ = w.frozen? ⟨D, o, none⟩ := fun o => (bcell hb).2 D o h.lt
  refine ⟨fun i hi => ?_, h.z, fun j hj => by rw [e2]; exact h.fr j hj, fun o z => by rw [e]; exact h.no o z, Nat.lt_of_lt_of_le h.lt hb.size⟩
  obtain ⟨P, n, c, h1, h2, h3⟩ := h.c i hi
  exact ⟨P, n, c, by rw [e]; exact h1, by rw [e]; exact h2, fun hs => (h3 hs).keep hb⟩
theorem Pl.put {w : World} {D K i : Nat} {s : Nat → Bool} {x : Nat → Nat → Int} {f : Nat → Int} (h : Pl w D K s x) (hi : i < K) {P : Option Addr} {n c : Nat} (hF : Fr w (.agg #[.slice P n c]) f) : Pl ((w.setCell ⟨D, i * 2, none⟩ (.slice P n c)).setCell ⟨D, i * 2 + 1, none⟩ (.bool true)) D K (fun j => if j = i then true else s j) (fun j => if j = i then f else x j) := by
  obtain ⟨P0, n0, c0, k0, k1, -⟩ := h.c i hi
  have g1 := gb_set w D (i * 2) (.slice P n c)
  have g2 := gb_set (w.setCell ⟨D, i * 2, none⟩ (.slice P n c)) D (i * 2 + 1) (.bool true)
  have g := g1.trans g2
  obtain ⟨w2, hw2⟩ : ∃ w2, (w.setCell ⟨D, i * 2, none⟩ (.slice P n c)).setCell ⟨D, i * 2 + 1, none⟩ (.bool true) = w2 := ⟨_, rfl⟩
  have e : ∀ o, o ≠ i * 2 → o ≠ i * 2 + 1 → w2.cell? ⟨D, o, none⟩ = w.cell? ⟨D, o, none⟩ := fun o h1 h2 => by
    rw [← hw2, World.cell?_setCell_other _ _ _ _ (by simp <;> omega), World.cell?_setCell_other _ _ _ _ (by simp <;> omega)]
  have e0 : w2.cell? ⟨D, i * 2, none⟩ = some (.slice P n c) := by
    rw [← hw2, World.cell?_setCell_other _ _ _ _ (by simp)]; exact World.cell?_setCell_same _ _ _ k0
  have e1 : w2.cell? ⟨D, i * 2 + 1, none⟩ = some (.bool true) := by
    rw [← hw2]; exact World.cell?_setCell_same _ _ _ (by rw [World.cell?_setCell_other _ _ _ _ (by simp)]; exact k1)
  have ef : ∀ o, w2.frozen? ⟨D, o, none⟩ = w.frozen? ⟨D, o, none⟩ := fun o => by rw [← hw2, World.frozen?_setCell, World.frozen?_setCell]
  rw [hw2] at g ⊢
  refine ⟨fun j hj => ?_, fun j hj hs t => ?_, fun o ho => by rw [ef]; exact h.fr o ho, fun o z => ?_, Nat.lt_of_lt_of_le h.lt g.size⟩
  · by_cases ej : j = i
    · subst ej
      simp only [if_pos]
      exact ⟨P, n, c, e0, e1, fun _ => hF.apart h.no g⟩
    · obtain ⟨P1, n1, c1, h1, h2, h3⟩ := h.c j hj
      simp only [if_neg ej]
      exact ⟨P1, n1, c1, by rw [e _ (by omega) (by omega)]; exact h1, by rw [e _ (by omega) (by omega)]; exact h2, fun hs => (h3 hs).apart h.no g⟩
  · by_cases ej : j = i
    · subst ej; simp at hs
    · simp only [if_neg ej] at hs ⊢; exact h.z j hj hs t
  · by_cases h1 : o = i * 2
    · subst h1; rw [e0]; simp
    · by_cases h2 : o = i * 2 + 1
      · subst h2; rw [e1]; simp
      · rw [e o h1 h2]; exact h.no o z
theorem Pl.congr {w : World} {D K : Nat} {s : Nat → Bool} {x y : Nat → Nat → Int} (h : Pl w D K s x) (e : ∀ i, i < K → ∀ t, lst (x i t) = lst (y i t)) : Pl w D K s y := by
  refine ⟨fun i hi => ?_, fun i hi hs t => by rw [← e i hi t]; exact h.z i hi hs t, h.fr, h.no, h.lt⟩
  obtain ⟨P, n, c, h1, h2, h3⟩ := h.c i hi
  exact ⟨P, n, c, h1, h2, fun hs => (h3 hs).congr (e i hi)⟩
/-- one element more on a pile of a row -/
theorem lay_pl (H D K i : Nat) (V : Value) (s : Nat → Bool) (x : Nat → Nat → Int) (f : Nat → Int) (w : World) (hT : Tb w) (hH : Hd w H) (hV : Fr w V f) (hP : Pl w D K s x) (hi : i < K) (neDH : D ≠ H) :
    Calls Tryz.prog 60 #[.pointer (some ⟨H, 0, none⟩), .pointer (some ⟨D, i * 2, none⟩), V] w fun e w' => e = .returned (.tuple #[]) ∧ Pl w' D K (fun j => if j = i then true else s j) (fun j => if j = i then (fun t => x i t + f t) else x j) ∧ Hd w' H ∧ ∃ wm, w.grownBy wm (some H) ∧ Hd wm H ∧ wm.grownBy w' (some D) := by
  obtain ⟨P0, n0, c0, k0, k1, k2⟩ := hP.c i hi
  have f0 := hP.fr (i * 2) (by omega)
  have f1 := hP.fr (i * 2 + 1) (by omega)
  have fin : ∀ (w' : World) (y : Nat → Int), Ly w w' H D (i * 2) y → (∀ t, lst (y t) = lst (x i t + f t)) → Pl w' D K (fun j => if j = i then true else s j) (fun j => if j = i then (fun t => x i t + f t) else x j) ∧ Hd w' H ∧ ∃ wm, w.grownBy wm (some H) ∧ Hd wm H ∧ wm.grownBy w' (some D) := by
    rintro w' y ⟨P, n, c, wm, hg, rfl, hF, hm⟩ hy
    have q := (hP.hand hH hg neDH).put hi (hF.congr hy)
    exact ⟨q, (hm.far neDH).far neDH, wm, hg, hm, (gb_set _ _ _ _).trans (gb_set _ _ _ _)⟩
  cases hs : s i with
  | false =>
    rw [hs] at k1
    refine (lay_no H D (i * 2) V P0 n0 c0 f w hT hH hV neDH k0 k1 f0 f1).mono ?_
    rintro e w' ⟨rfl, hl⟩
    refine ⟨rfl, fin w' f hl (fun t => ?_)⟩
    rw [lst_two ((hP.z i hi hs t).trans zero_lst.symm) (rfl : lst (f t) = lst (f t)), Int.zero_add]
  | true =>
    rw [hs] at k1
    refine (lay_on H D (i * 2) V P0 n0 c0 f (x i) w hT hH hV (k2 hs) neDH k0 k1 f0 f1).mono ?_
    rintro e w' ⟨rfl, hl⟩
    exact ⟨rfl, fin w' _ hl (fun t => rfl)⟩
end Go.Proofs.YtapieajkmpnmoaaGreatDoor
namespace Go.Proofs.YtapieajkmpnmoaaGreatDoor
open Go.RowKit
set_option linter.unusedVariables false
def st11o : Array Oper := #[{ dst := some 47, op := Op.move (Operand.tmp 0), type := 107, pos := "ways.go:72", after := #[], guard := none },
  { dst := some 48, op := Op.move (Operand.tmp 7), type := 119, pos := "ways.go:72", after := #[], guard := none },
  { dst := some 49, op := Op.move (Operand.tmp 13), type := 3, pos := "ways.go:72", after := #[], guard := none },
  { dst := some 50, op := Op.indexAddr 119 (Operand.tmp 48) (Operand.tmp 49), type := 0, pos := "ways.go:72", after := #[{ on := 1, ground := Ground.data }, { on := 2, ground := Ground.data }], guard := none },
  { dst := some 51, op := Op.move (Operand.tmp 12), type := 27, pos := "ways.go:72", after := #[], guard := none },
  { dst := some 52, op := Op.move (Operand.tmp 14), type := 3, pos := "ways.go:72", after := #[], guard := none },
  { dst := some 53, op := Op.binOp BinOp.sub 3 (Operand.tmp 52) (Operand.const (Value.int IntKind.i64 1)) 3, type := 3, pos := "ways.go:72", after := #[{ on := 5, ground := Ground.data }], guard := none },
  { dst := some 54, op := Op.indexAddr 27 (Operand.tmp 51) (Operand.tmp 53), type := 0, pos := "ways.go:72", after := #[{ on := 4, ground := Ground.data }, { on := 6, ground := Ground.data }], guard := none },
  { dst := some 55, op := Op.load 32 (Operand.tmp 54), type := 32, pos := "ways.go:72", after := #[{ on := 7, ground := Ground.data }], guard := none },
  { dst := some 56, op := Op.call { callee := Callee.value (Operand.func 60), args := #[Operand.tmp 47, Operand.tmp 50, Operand.tmp 55], argTypes := #[107, 126, 32] }, type := 0, pos := "ways.go:72", after := #[{ on := 0, ground := Ground.data }, { on := 3, ground := Ground.data }, { on := 8, ground := Ground.data }], guard := none }]
set_option maxRecDepth 100000 in
set_option maxHeartbeats 16000000 in
theorem st11 (Q : Exit → Act → World → Prop) (H D K M T i d n c : Nat) (z : Int) (P : Option Addr) (RW : World → Prop) (u1 u2 u3 u4 u5 u6 u8 u9 u10 u11 u15 u16 u17 u18 u19 u20 u21 u22 u23 u24 u25 u26 u27 u28 u29 u30 u31 u32 u33 u34 u35 u36 u37 u38 u39 u40 u41 u42 u43 u44 u45 u46 u47 u48 u49 u50 u51 u52 u53 u54 u55 u56 u57 u58 u59 u60 u61 u62 u63 u64 u65 u66 u67 u68 u69 u70 u71 u72 u73 u74 u75 u76 u77 u78 : Value) (W : World)
    (cm : W.cell? ⟨M, d, none⟩ = some (.slice P n c)) (i0 : (0 : Int) ≤ (i : Int)) (i1 : (i : Int) < (K : Int)) (d0 : (0 : Int) ≤ (d : Int)) (d1 : (d : Int) < (T : Int)) (wz1 : IntKind.i64.wrap (z - 1) = (d : Int))
    (C9 : Hid (Calls Tryz.prog 60 #[.pointer (some ⟨H, 0, none⟩), .pointer (some ⟨D, i * 2, none⟩), .agg #[.slice P n c]] W.drew fun e w' => e = .returned (.tuple #[]) ∧ w'.cell? ⟨M, d, none⟩ = some (.slice P n c) ∧ RW w'))
    (HQ : Hid (∀ (wz : World), RW wz → Q .normal ⟨#[.pointer (some ⟨H, 0, none⟩), u1, u2, u3, u4, u5, u6, .slice (some ⟨D, 0, none⟩) K K, u8, u9, u10, u11, .slice (some ⟨M, 0, none⟩) T T, .int .i64 (i : Int), .int .i64 z, u15, u16, u17, u18, u19, u20, u21, u22, u23, u24, u25, u26, u27, u28, u29, u30, u31, u32, u33, u34, u35, u36, u37, u38, u39, u40, u41, u42, u43, u44, u45, u46, .pointer (some ⟨H, 0, none⟩), .slice (some ⟨D, 0, none⟩) K K, .int .i64 (i : Int), .pointer (some ⟨D, i * 2, none⟩), .slice (some ⟨M, 0, none⟩) T T, .int .i64 z, .int .i64 (d : Int), .pointer (some ⟨M, d, none⟩), .agg #[.slice P n c], .tuple #[], u57, u58, u59, u60, u61, u62, u63, u64, u65, u66, u67, u68, u69, u70, u71, u72, u73, u74, u75, u76, u77, u78], []⟩ wz)) : (Code.region 11 st11o true).wp Tryz.prog Q ⟨#[.pointer (some ⟨H, 0, none⟩), u1, u2, u3, u4, u5, u6, .slice (some ⟨D, 0, none⟩) K K, u8, u9, u10, u11, .slice (some ⟨M, 0, none⟩) T T, .int .i64 (i : Int), .int .i64 z, u15, u16, u17, u18, u19, u20, u21, u22, u23, u24, u25, u26, u27, u28, u29, u30, u31, u32, u33, u34, u35, u36, u37, u38, u39, u40, u41, u42, u43, u44, u45, u46, u47, u48, u49, u50, u51, u52, u53, u54, u55, u56, u57, u58, u59, u60, u61, u62, u63, u64, u65, u66, u67, u68, u69, u70, u71, u72, u73, u74, u75, u76, u77, u78], []⟩ W := by
  unfold st11o
  refine wp_region_noPanic ?_
  refine wp_region_held_drew (S := fun x => x.cell? ⟨M, d, none⟩ = some (.slice P n c)) (by kernel_rfl) (cell_keep cm (bl_drew W)) (fun hH0 => ?_)
  refine wpAnyH_take (i := 0) (oi := { dst := some 47, op := Op.move (Operand.tmp 0), type := 107, pos := "ways.go:72", after := #[], guard := none }) (v := .pointer (some ⟨H, 0, none⟩)) rfl (by kernel_rfl) (by kernel_rfl) (by kernel_rfl) (fun _ _ _ h => h) (Or.inl ⟨by rfl, fun w0 hSw => ?_⟩) hH0 ?_
  · (clear hSw; go_simp)
  simp only [Act.put, List.setIfInBounds_toArray, List.set_cons_zero, List.set_cons_succ]
  refine wpAnyH_take (i := 1) (oi := { dst := some 48, op := Op.move (Operand.tmp 7), type := 119, pos := "ways.go:72", after := #[], guard := none }) (v := .slice (some ⟨D, 0, none⟩) K K) rfl (by kernel_rfl) (by kernel_rfl) (by kernel_rfl) (fun _ _ _ h => h) (Or.inl ⟨by rfl, fun w0 hSw => ?_⟩) hH0 ?_
  · (clear hSw; go_simp)
  simp only [Act.put, List.setIfInBounds_toArray, List.set_cons_zero, List.set_cons_succ]
  refine wpAnyH_take (i := 2) (oi := { dst := some 49, op := Op.move (Operand.tmp 13), type := 3, pos := "ways.go:72", after := #[], guard := none }) (v := .int .i64 (i : Int)) rfl (by kernel_rfl) (by kernel_rfl) (by kernel_rfl) (fun _ _ _ h => h) (Or.inl ⟨by rfl, fun w0 hSw => ?_⟩) hH0 ?_
  · (clear hSw; go_simp)
  simp only [Act.put, List.setIfInBounds_toArray, List.set_cons_zero, List.set_cons_succ]
  refine wpAnyH_take (i := 4) (oi := { dst := some 51, op := Op.move (Operand.tmp 12), type := 27, pos := "ways.go:72", after := #[], guard := none }) (v := .slice (some ⟨M, 0, none⟩) T T) rfl (by kernel_rfl) (by kernel_rfl) (by kernel_rfl) (fun _ _ _ h => h) (Or.inl ⟨by rfl, fun w0 hSw => ?_⟩) hH0 ?_
  · (clear hSw; go_simp)
  simp only [Act.put, List.setIfInBounds_toArray, List.set_cons_zero, List.set_cons_succ]
  refine wpAnyH_take (i := 5) (oi := { dst := some 52, op := Op.move (Operand.tmp 14), type := 3, pos := "ways.go:72", after := #[], guard := none }) (v := .int .i64 z) rfl (by kernel_rfl) (by kernel_rfl) (by kernel_rfl) (fun _ _ _ h => h) (Or.inl ⟨by rfl, fun w0 hSw => ?_⟩) hH0 ?_
  · (clear hSw; go_simp)
  simp only [Act.put, List.setIfInBounds_toArray, List.set_cons_zero, List.set_cons_succ]
  refine wpAnyH_take (i := 3) (oi := { dst := some 50, op := Op.indexAddr 119 (Operand.tmp 48) (Operand.tmp 49), type := 0, pos := "ways.go:72", after := #[{ on := 1, ground := Ground.data }, { on := 2, ground := Ground.data }], guard := none }) (v := .pointer (some ⟨D, i * 2, none⟩)) rfl (by kernel_rfl) (by kernel_rfl) (by kernel_rfl) (fun _ _ _ h => h) (Or.inl ⟨by rfl, fun w0 hSw => ?_⟩) hH0 ?_
  · (clear hSw; go_simp)
  simp only [Act.put, List.setIfInBounds_toArray, List.set_cons_zero, List.set_cons_succ]
  refine wpAnyH_take (i := 6) (oi := { dst := some 53, op := Op.binOp BinOp.sub 3 (Operand.tmp 52) (Operand.const (Value.int IntKind.i64 1)) 3, type := 3, pos := "ways.go:72", after := #[{ on := 5, ground := Ground.data }], guard := none }) (v := .int .i64 (d : Int)) rfl (by kernel_rfl) (by kernel_rfl) (by kernel_rfl) (fun _ _ _ h => h) (Or.inl ⟨by rfl, fun w0 hSw => ?_⟩) hH0 ?_
  · (clear hSw; go_simp)
  simp only [Act.put, List.setIfInBounds_toArray, List.set_cons_zero, List.set_cons_succ]
  refine wpAnyH_take (i := 7) (oi := { dst := some 54, op := Op.indexAddr 27 (Operand.tmp 51) (Operand.tmp 53), type := 0, pos := "ways.go:72", after := #[{ on := 4, ground := Ground.data }, { on := 6, ground := Ground.data }], guard := none }) (v := .pointer (some ⟨M, d, none⟩)) rfl (by kernel_rfl) (by kernel_rfl) (by kernel_rfl) (fun _ _ _ h => h) (Or.inl ⟨by rfl, fun w0 hSw => ?_⟩) hH0 ?_
  · (clear hSw; go_simp)
  simp only [Act.put, List.setIfInBounds_toArray, List.set_cons_zero, List.set_cons_succ]
  refine wpAnyH_take (i := 8) (oi := { dst := some 55, op := Op.load 32 (Operand.tmp 54), type := 32, pos := "ways.go:72", after := #[{ on := 7, ground := Ground.data }], guard := none }) (v := .agg #[.slice P n c]) rfl (by kernel_rfl) (by kernel_rfl) (by kernel_rfl) (fun _ _ _ h => h) (Or.inl ⟨by rfl, fun w0 hSw => ?_⟩) hH0 ?_
  · (have hS : w0.cell? ⟨M, d, none⟩ = some (.slice P n c) := hSw; have a0 := hS; clear hS hSw; go_simp)
  simp only [Act.put, List.setIfInBounds_toArray, List.set_cons_zero, List.set_cons_succ]
  refine wpAnyH_ready (rs := [9]) (by kernel_rfl) (by simp) ?_
  refine AllReadyH.cons (o := { dst := some 56, op := Op.call { callee := Callee.value (Operand.func 60), args := #[Operand.tmp 47, Operand.tmp 50, Operand.tmp 55], argTypes := #[107, 126, 32] }, type := 0, pos := "ways.go:72", after := #[{ on := 0, ground := Ground.data }, { on := 3, ground := Ground.data }, { on := 8, ground := Ground.data }], guard := none }) rfl (fun K hK => ?_) AllReadyH.nil
  have HH := hidden hH0
  clear hH0
  go_simp
  refine (C9.out).mono ?_
  rintro e wn1 ⟨rfl, hm, hr⟩
  have RR := hidden (hr)
  have SN := hidden (hm)
  clear HH C9 hm hr
  go_wp2_with fail
  refine hK.out _ _ SN.out (fun hH1 => ?_)
  clear hK K SN
  have HH := hidden hH1
  have FQ := hidden (HQ.out _ RR.out)
  refine wpAnyH_done (by kernel_rfl) ?_ _
  refine NoPanic.normal ?_
  exact FQ.out
def st13o : Array Oper := #[{ dst := some 60, op := Op.move (Operand.tmp 0), type := 107, pos := "ways.go:74", after := #[], guard := none },
  { dst := some 61, op := Op.move (Operand.tmp 7), type := 119, pos := "ways.go:74", after := #[], guard := none },
  { dst := some 62, op := Op.move (Operand.tmp 13), type := 3, pos := "ways.go:74", after := #[], guard := none },
  { dst := some 63, op := Op.indexAddr 119 (Operand.tmp 61) (Operand.tmp 62), type := 0, pos := "ways.go:74", after := #[{ on := 1, ground := Ground.data }, { on := 2, ground := Ground.data }], guard := none },
  { dst := some 64, op := Op.move (Operand.tmp 12), type := 27, pos := "ways.go:74", after := #[], guard := none },
  { dst := some 65, op := Op.move (Operand.tmp 14), type := 3, pos := "ways.go:74", after := #[], guard := none },
  { dst := some 66, op := Op.unOp UnOp.neg 3 (Operand.tmp 65), type := 3, pos := "ways.go:74", after := #[{ on := 5, ground := Ground.data }], guard := none },
  { dst := some 67, op := Op.binOp BinOp.sub 3 (Operand.tmp 66) (Operand.const (Value.int IntKind.i64 1)) 3, type := 3, pos := "ways.go:74", after := #[{ on := 6, ground := Ground.data }], guard := none },
  { dst := some 68, op := Op.indexAddr 27 (Operand.tmp 64) (Operand.tmp 67), type := 0, pos := "ways.go:74", after := #[{ on := 4, ground := Ground.data }, { on := 7, ground := Ground.data }], guard := none },
  { dst := some 69, op := Op.load 32 (Operand.tmp 68), type := 32, pos := "ways.go:74", after := #[{ on := 8, ground := Ground.data }], guard := none },
  { dst := some 70, op := Op.makeInterface 32 (Operand.tmp 69), type := 20, pos := "ways.go:74", after := #[{ on := 9, ground := Ground.data }], guard := none },
  { dst := some 71, op := Op.call { callee := Callee.invoke (Operand.tmp 70) "Neg", args := #[], argTypes := #[] }, type := 32, pos := "ways.go:74", after := #[{ on := 10, ground := Ground.data }], guard := none },
  { dst := some 72, op := Op.call { callee := Callee.value (Operand.func 60), args := #[Operand.tmp 60, Operand.tmp 63, Operand.tmp 71], argTypes := #[107, 126, 32] }, type := 0, pos := "ways.go:74", after := #[{ on := 0, ground := Ground.data }, { on := 3, ground := Ground.data }, { on := 11, ground := Ground.data }, { on := 11, ground := Ground.chain }], guard := none }]
set_option maxRecDepth 100000 in
set_option maxHeartbeats 16000000 in
theorem st13 (Q : Exit → Act → World → Prop) (H D K M T i d n c : Nat) (z : Int) (P : Option Addr) (RW : World → Prop) (y : Nat → Int) (zn : Int) (u1 u2 u3 u4 u5 u6 u8 u9 u10 u11 u15 u16 u17 u18 u19 u20 u21 u22 u23 u24 u25 u26 u27 u28 u29 u30 u31 u32 u33 u34 u35 u36 u37 u38 u39 u40 u41 u42 u43 u44 u45 u46 u47 u48 u49 u50 u51 u52 u53 u54 u55 u56 u57 u58 u59 u60 u61 u62 u63 u64 u65 u66 u67 u68 u69 u70 u71 u72 u73 u74 u75 u76 u77 u78 : Value) (W : World)
    (cm : W.cell? ⟨M, d, none⟩ = some (.slice P n c)) (i0 : (0 : Int) ≤ (i : Int)) (i1 : (i : Int) < (K : Int)) (d0 : (0 : Int) ≤ (d : Int)) (d1 : (d : Int) < (T : Int)) (wz0 : IntKind.i64.wrap (-z) = zn) (wz1 : IntKind.i64.wrap (zn - 1) = (d : Int)) (mt : ∀ w, (method 318 32 (.agg #[.slice P n c]) "Neg").run Tryz.prog w = .ok (131, .agg #[.slice P n c]) w)
    (C11 : Hid (Calls Tryz.prog 131 #[.agg #[.slice P n c]] W.drew fun e w' => Fq W.drew w' e y))
    (C12 : Hid (∀ (x : World) (A m k : Nat), Fr x (.agg #[.slice (some ⟨A, 0, none⟩) m k]) y → Below W.drew.heap.size W.drew x → Calls Tryz.prog 60 #[.pointer (some ⟨H, 0, none⟩), .pointer (some ⟨D, i * 2, none⟩), .agg #[.slice (some ⟨A, 0, none⟩) m k]] x fun e w' => e = .returned (.tuple #[]) ∧ w'.cell? ⟨M, d, none⟩ = some (.slice P n c) ∧ RW w'))
    (HQ : Hid (∀ (A m k : Nat) (wz : World), RW wz → Q .normal ⟨#[.pointer (some ⟨H, 0, none⟩), u1, u2, u3, u4, u5, u6, .slice (some ⟨D, 0, none⟩) K K, u8, u9, u10, u11, .slice (some ⟨M, 0, none⟩) T T, .int .i64 (i : Int), .int .i64 z, u15, u16, u17, u18, u19, u20, u21, u22, u23, u24, u25, u26, u27, u28, u29, u30, u31, u32, u33, u34, u35, u36, u37, u38, u39, u40, u41, u42, u43, u44, u45, u46, u47, u48, u49, u50, u51, u52, u53, u54, u55, u56, u57, u58, u59, .pointer (some ⟨H, 0, none⟩), .slice (some ⟨D, 0, none⟩) K K, .int .i64 (i : Int), .pointer (some ⟨D, i * 2, none⟩), .slice (some ⟨M, 0, none⟩) T T, .int .i64 z, .int .i64 zn, .int .i64 (d : Int), .pointer (some ⟨M, d, none⟩), .agg #[.slice P n c], .iface 32 (.agg #[.slice P n c]), .agg #[.slice (some ⟨A, 0, none⟩) m k], .tuple #[], u73, u74, u75, u76, u77, u78], []⟩ wz)) : (Code.region 13 st13o true).wp Tryz.prog Q ⟨#[.pointer (some ⟨H, 0, none⟩), u1, u2, u3, u4, u5, u6, .slice (some ⟨D, 0, none⟩) K K, u8, u9, u10, u11, .slice (some ⟨M, 0, none⟩) T T, .int .i64 (i : Int), .int .i64 z, u15, u16, u17, u18, u19, u20, u21, u22, u23, u24, u25, u26, u27, u28, u29, u30, u31, u32, u33, u34, u35, u36, u37, u38, u39, u40, u41, u42, u43, u44, u45, u46, u47, u48, u49, u50, u51, u52, u53, u54, u55, u56, u57, u58, u59, u60, u61, u62, u63, u64, u65, u66, u67, u68, u69, u70, u71, u72, u73, u74, u75, u76, u77, u78], []⟩ W := by
  unfold st13o
  refine wp_region_noPanic ?_
  refine wp_region_held_drew (S := fun x => x.cell? ⟨M, d, none⟩ = some (.slice P n c)) (by kernel_rfl) (cell_keep cm (bl_drew W)) (fun hH0 => ?_)
  refine wpAnyH_take (i := 0) (oi := { dst := some 60, op := Op.move (Operand.tmp 0), type := 107, pos := "ways.go:74", after := #[], guard := none }) (v := .pointer (some ⟨H, 0, none⟩)) rfl (by kernel_rfl) (by kernel_rfl) (by kernel_rfl) (fun _ _ _ h => h) (Or.inl ⟨by rfl, fun w0 hSw => ?_⟩) hH0 ?_
  · (clear hSw; go_simp)
  simp only [Act.put, List.setIfInBounds_toArray, List.set_cons_zero, List.set_cons_succ]
  refine wpAnyH_take (i := 1) (oi := { dst := some 61, op := Op.move (Operand.tmp 7), type := 119, pos := "ways.go:74", after := #[], guard := none }) (v := .slice (some ⟨D, 0, none⟩) K K) rfl (by kernel_rfl) (by kernel_rfl) (by kernel_rfl) (fun _ _ _ h => h) (Or.inl ⟨by rfl, fun w0 hSw => ?_⟩) hH0 ?_
  · (clear hSw; go_simp)
  simp only [Act.put, List.setIfInBounds_toArray, List.set_cons_zero, List.set_cons_succ]
  refine wpAnyH_take (i := 2) (oi := { dst := some 62, op := Op.move (Operand.tmp 13), type := 3, pos := "ways.go:74", after := #[], guard := none }) (v := .int .i64 (i : Int)) rfl (by kernel_rfl) (by kernel_rfl) (by kernel_rfl) (fun _ _ _ h => h) (Or.inl ⟨by rfl, fun w0 hSw => ?_⟩) hH0 ?_
  · (clear hSw; go_simp)
  simp only [Act.put, List.setIfInBounds_toArray, List.set_cons_zero, List.set_cons_succ]
  refine wpAnyH_take (i := 4) (oi := { dst := some 64, op := Op.move (Operand.tmp 12), type := 27, pos := "ways.go:74", after := #[], guard := none }) (v := .slice (some ⟨M, 0, none⟩) T T) rfl (by kernel_rfl) (by kernel_rfl) (by kernel_rfl) (fun _ _ _ h => h) (Or.inl ⟨by rfl, fun w0 hSw => ?_⟩) hH0 ?_
  · (clear hSw; go_simp)
  simp only [Act.put, List.setIfInBounds_toArray, List.set_cons_zero, List.set_cons_succ]
  refine wpAnyH_take (i := 5) (oi := { dst := some 65, op := Op.move (Operand.tmp 14), type := 3, pos := "ways.go:74", after := #[], guard := none }) (v := .int .i64 z) rfl (by kernel_rfl) (by kernel_rfl) (by kernel_rfl) (fun _ _ _ h => h) (Or.inl ⟨by rfl, fun w0 hSw => ?_⟩) hH0 ?_
  · (clear hSw; go_simp)
  simp only [Act.put, List.setIfInBounds_toArray, List.set_cons_zero, List.set_cons_succ]
  refine wpAnyH_take (i := 3) (oi := { dst := some 63, op := Op.indexAddr 119 (Operand.tmp 61) (Operand.tmp 62), type := 0, pos := "ways.go:74", after := #[{ on := 1, ground := Ground.data }, { on := 2, ground := Ground.data }], guard := none }) (v := .pointer (some ⟨D, i * 2, none⟩)) rfl (by kernel_rfl) (by kernel_rfl) (by kernel_rfl) (fun _ _ _ h => h) (Or.inl ⟨by rfl, fun w0 hSw => ?_⟩) hH0 ?_
  · (clear hSw; go_simp)
  simp only [Act.put, List.setIfInBounds_toArray, List.set_cons_zero, List.set_cons_succ]
  refine wpAnyH_take (i := 6) (oi := { dst := some 66, op := Op.unOp UnOp.neg 3 (Operand.tmp 65), type := 3, pos := "ways.go:74", after := #[{ on := 5, ground := Ground.data }], guard := none }) (v := .int .i64 zn) rfl (by kernel_rfl) (by kernel_rfl) (by kernel_rfl) (fun _ _ _ h => h) (Or.inl ⟨by rfl, fun w0 hSw => ?_⟩) hH0 ?_
  · (clear hSw; go_simp)
  simp only [Act.put, List.setIfInBounds_toArray, List.set_cons_zero, List.set_cons_succ]
  refine wpAnyH_take (i := 7) (oi := { dst := some 67, op := Op.binOp BinOp.sub 3 (Operand.tmp 66) (Operand.const (Value.int IntKind.i64 1)) 3, type := 3, pos := "ways.go:74", after := #[{ on := 6, ground := Ground.data }], guard := none }) (v := .int .i64 (d : Int)) rfl (by kernel_rfl) (by kernel_rfl) (by kernel_rfl) (fun _ _ _ h => h) (Or.inl ⟨by rfl, fun w0 hSw => ?_⟩) hH0 ?_
  · (clear hSw; go_simp)
  simp only [Act.put, List.setIfInBounds_toArray, List.set_cons_zero, List.set_cons_succ]
  refine wpAnyH_take (i := 8) (oi := { dst := some 68, op := Op.indexAddr 27 (Operand.tmp 64) (Operand.tmp 67), type := 0, pos := "ways.go:74", after := #[{ on := 4, ground := Ground.data }, { on := 7, ground := Ground.data }], guard := none }) (v := .pointer (some ⟨M, d, none⟩)) rfl (by kernel_rfl) (by kernel_rfl) (by kernel_rfl) (fun _ _ _ h => h) (Or.inl ⟨by rfl, fun w0 hSw => ?_⟩) hH0 ?_
  · (clear hSw; go_simp)
  simp only [Act.put, List.setIfInBounds_toArray, List.set_cons_zero, List.set_cons_succ]
  refine wpAnyH_take (i := 9) (oi := { dst := some 69, op := Op.load 32 (Operand.tmp 68), type := 32, pos := "ways.go:74", after := #[{ on := 8, ground := Ground.data }], guard := none }) (v := .agg #[.slice P n c]) rfl (by kernel_rfl) (by kernel_rfl) (by kernel_rfl) (fun _ _ _ h => h) (Or.inl ⟨by rfl, fun w0 hSw => ?_⟩) hH0 ?_
  · (have hS : w0.cell? ⟨M, d, none⟩ = some (.slice P n c) := hSw; have a0 := hS; clear hS hSw; go_simp)
  simp only [Act.put, List.setIfInBounds_toArray, List.set_cons_zero, List.set_cons_succ]
  refine wpAnyH_take (i := 10) (oi := { dst := some 70, op := Op.makeInterface 32 (Operand.tmp 69), type := 20, pos := "ways.go:74", after := #[{ on := 9, ground := Ground.data }], guard := none }) (v := .iface 32 (.agg #[.slice P n c])) rfl (by kernel_rfl) (by kernel_rfl) (by kernel_rfl) (fun _ _ _ h => h) (Or.inl ⟨by rfl, fun w0 hSw => ?_⟩) hH0 ?_
  · (clear hSw; go_simp)
  simp only [Act.put, List.setIfInBounds_toArray, List.set_cons_zero, List.set_cons_succ]
  refine wpAnyH_ready (rs := [11]) (by kernel_rfl) (by simp) ?_
  refine AllReadyH.cons (o := { dst := some 71, op := Op.call { callee := Callee.invoke (Operand.tmp 70) "Neg", args := #[], argTypes := #[] }, type := 32, pos := "ways.go:74", after := #[{ on := 10, ground := Ground.data }], guard := none }) rfl (fun K hK => ?_) AllReadyH.nil
  have HH := hidden hH0
  clear hH0
  go_simp
  refine (C11.out).mono ?_
  rintro e wn1 ⟨A, m, k, rfl, hA, hF, hb⟩
  have FA := hidden (hF)
  have BB := hidden (hb)
  have SN := hidden (cell_keep HH.out hb)
  clear HH C11 hA hF hb
  go_wp2_with fail
  refine hK.out _ _ SN.out (fun hH1 => ?_)
  clear hK K SN
  refine wpAnyH_ready (rs := [12]) (by kernel_rfl) (by simp) ?_
  refine AllReadyH.cons (o := { dst := some 72, op := Op.call { callee := Callee.value (Operand.func 60), args := #[Operand.tmp 60, Operand.tmp 63, Operand.tmp 71], argTypes := #[107, 126, 32] }, type := 0, pos := "ways.go:74", after := #[{ on := 0, ground := Ground.data }, { on := 3, ground := Ground.data }, { on := 11, ground := Ground.data }, { on := 11, ground := Ground.chain }], guard := none }) rfl (fun K hK => ?_) AllReadyH.nil
  have HH := hidden hH1
  clear hH1
  go_simp
  refine (C12.out _ A m k FA.out BB.out).mono ?_
  rintro e wn2 ⟨rfl, hm, hr⟩
  have RR := hidden (hr)
  have SN := hidden (hm)
  clear HH C12 hm hr
  go_wp2_with fail
  refine hK.out _ _ SN.out (fun hH2 => ?_)
  clear hK K SN
  have HH := hidden hH2
  have FQ := hidden (HQ.out A m k _ RR.out)
  refine wpAnyH_done (by kernel_rfl) ?_ _
  refine NoPanic.normal ?_
  exact FQ.out
end Go.Proofs.YtapieajkmpnmoaaGreatDoor
namespace Go.Proofs.YtapieajkmpnmoaaGreatDoor
open Go.RowKit
set_option linter.unusedVariables false
theorem pinfo : (Tryz.prog.info? 128).map (fun i => (i.zero, i.size)) = some (some (.agg #[.slice none 0 0, .bool false]), 2) := by kernel_rfl
theorem Pl.made (w : World) (K : Nat) (t : TypeId) : Pl (w.alloc (.cells (madeCells #[.slice none 0 0, .bool false] (K * 2)) t)) w.heap.size K (fun _ => false) (fun _ _ => 0) := by
  have h : ∀ o, o < K * 2 → (w.alloc (.cells (madeCells #[.slice none 0 0, .bool false] (K * 2)) t)).cell? ⟨w.heap.size, o, none⟩ = some (if o % 2 = 0 then .slice none 0 0 else .bool false) := fun o ho => by
    rw [cell_of_row (w.alloc (.cells (madeCells #[.slice none 0 0, .bool false] (K * 2)) t)) w.heap.size o _ t (0, 0) (heap_alloc_new w _)]
    have h2 : o % 2 = 0 ∨ o % 2 = 1 := by omega
    rcases h2 with h2 | h2 <;> simp [madeCells, ho, h2]
  refine ⟨fun i hi => ⟨none, 0, 0, ?_, ?_, fun e => by simp at e⟩, fun i hi _ t => zero_lst, fun o ho => by go_simp, fun o z => ?_, by simp⟩
  · rw [h _ (by omega), if_pos (by omega)]
  · rw [h _ (by omega), if_neg (by omega)]
  · by_cases ho : o < K * 2
    · rw [h o ho]
      by_cases e : o % 2 = 0
      · rw [if_pos e]; simp
      · rw [if_neg e]; simp
    · rw [cell_of_row (w.alloc (.cells (madeCells #[.slice none 0 0, .bool false] (K * 2)) t)) w.heap.size o _ t (0, 0) (heap_alloc_new w _)]
      simp [madeCells, ho]
theorem places_any (m : Nat) (h1 : 1 ≤ m) (h2 : m ≤ 12) (w : World) : Calls Tryz.prog 50 #[.int .i64 (m : Int)] w fun e w' => e = .returned (.int .i64 ((253 / m + 1 : Nat) : Int)) ∧ Below w.heap.size w w' := by
  obtain rfl | rfl | rfl | rfl | rfl | rfl | rfl | rfl | rfl | rfl | rfl | rfl : m = 1 ∨ m = 2 ∨ m = 3 ∨ m = 4 ∨ m = 5 ∨ m = 6 ∨ m = 7 ∨ m = 8 ∨ m = 9 ∨ m = 10 ∨ m = 11 ∨ m = 12 := by omega
  · exact places_1 w
  · exact places_2 w
  · exact places_3 w
  · exact places_4 w
  · exact places_5 w
  · exact places_6 w
  · exact places_7 w
  · exact places_8 w
  · exact places_9 w
  · exact places_10 w
  · exact places_11 w
  · exact places_12 w
def st6o : Array Oper := #[{ dst := some 31, op := Op.move (Operand.tmp 0), type := 107, pos := "ways.go:68", after := #[], guard := none },
  { dst := some 32, op := Op.fieldAddr 68 (Operand.tmp 9) 1, type := 0, pos := "ways.go:68", after := #[], guard := none },
  { dst := some 33, op := Op.load 32 (Operand.tmp 32), type := 32, pos := "ways.go:68", after := #[{ on := 1, ground := Ground.data }], guard := none },
  { dst := some 34, op := Op.move (Operand.tmp 10), type := 120, pos := "ways.go:68", after := #[], guard := none },
  { dst := some 35, op := Op.call { callee := Callee.value (Operand.func 59), args := #[Operand.tmp 34], argTypes := #[120] }, type := 3, pos := "ways.go:68", after := #[{ on := 3, ground := Ground.data }], guard := none },
  { dst := some 36, op := Op.call { callee := Callee.value (Operand.func 58), args := #[Operand.tmp 31, Operand.tmp 33, Operand.tmp 35], argTypes := #[107, 32, 3] }, type := 27, pos := "ways.go:68", after := #[{ on := 0, ground := Ground.data }, { on := 2, ground := Ground.data }, { on := 4, ground := Ground.data }, { on := 4, ground := Ground.chain }], guard := none },
  { dst := some 12, op := Op.assign (Operand.tmp 36), type := 27, pos := "ways.go:68", after := #[{ on := 5, ground := Ground.data }, { on := 5, ground := Ground.chain }, { on := 0, ground := Ground.phase }, { on := 1, ground := Ground.phase }, { on := 2, ground := Ground.phase }, { on := 3, ground := Ground.phase }, { on := 4, ground := Ground.phase }, { on := 5, ground := Ground.phase }], guard := none }]
set_option maxRecDepth 100000 in
set_option maxHeartbeats 16000000 in
theorem st6 (Q : Exit → Act → World → Prop) (H T9 B K n c : Nat) (P : Option Addr) (TP : Nat → Prop) (RW : Nat → Nat → World → Prop) (u1 u2 u3 u4 u5 u6 u7 u8 u11 u12 u13 u14 u15 u16 u17 u18 u19 u20 u21 u22 u23 u24 u25 u26 u27 u28 u29 u30 u31 u32 u33 u34 u35 u36 u37 u38 u39 u40 u41 u42 u43 u44 u45 u46 u47 u48 u49 u50 u51 u52 u53 u54 u55 u56 u57 u58 u59 u60 u61 u62 u63 u64 u65 u66 u67 u68 u69 u70 u71 u72 u73 u74 u75 u76 u77 u78 : Value) (W : World)
    (cm : W.cell? ⟨T9, 4, none⟩ = some (.slice P n c))
    (C4 : Hid (Calls Tryz.prog 59 #[.slice (some ⟨B, 0, none⟩) K K] W.drew fun e w' => ∃ T : Nat, e = .returned (.int .i64 (T : Int)) ∧ TP T ∧ Below W.drew.heap.size W.drew w'))
    (C5 : Hid (∀ (x : World) (T : Nat), TP T → Below W.drew.heap.size W.drew x → Calls Tryz.prog 58 #[.pointer (some ⟨H, 0, none⟩), .agg #[.slice P n c], .int .i64 (T : Int)] x fun e w' => ∃ M : Nat, e = .returned (.slice (some ⟨M, 0, none⟩) T T) ∧ w'.cell? ⟨T9, 4, none⟩ = some (.slice P n c) ∧ RW T M w'))
    (HQ : Hid (∀ (T M : Nat) (wz : World), TP T → RW T M wz → Q .normal ⟨#[.pointer (some ⟨H, 0, none⟩), u1, u2, u3, u4, u5, u6, u7, u8, .pointer (some ⟨T9, 0, none⟩), .slice (some ⟨B, 0, none⟩) K K, u11, .slice (some ⟨M, 0, none⟩) T T, u13, u14, u15, u16, u17, u18, u19, u20, u21, u22, u23, u24, u25, u26, u27, u28, u29, u30, .pointer (some ⟨H, 0, none⟩), .pointer (some ⟨T9, 4, none⟩), .agg #[.slice P n c], .slice (some ⟨B, 0, none⟩) K K, .int .i64 (T : Int), .slice (some ⟨M, 0, none⟩) T T, u37, u38, u39, u40, u41, u42, u43, u44, u45, u46, u47, u48, u49, u50, u51, u52, u53, u54, u55, u56, u57, u58, u59, u60, u61, u62, u63, u64, u65, u66, u67, u68, u69, u70, u71, u72, u73, u74, u75, u76, u77, u78], []⟩ wz)) : (Code.region 6 st6o true).wp Tryz.prog Q ⟨#[.pointer (some ⟨H, 0, none⟩), u1, u2, u3, u4, u5, u6, u7, u8, .pointer (some ⟨T9, 0, none⟩), .slice (some ⟨B, 0, none⟩) K K, u11, u12, u13, u14, u15, u16, u17, u18, u19, u20, u21, u22, u23, u24, u25, u26, u27, u28, u29, u30, u31, u32, u33, u34, u35, u36, u37, u38, u39, u40, u41, u42, u43, u44, u45, u46, u47, u48, u49, u50, u51, u52, u53, u54, u55, u56, u57, u58, u59, u60, u61, u62, u63, u64, u65, u66, u67, u68, u69, u70, u71, u72, u73, u74, u75, u76, u77, u78], []⟩ W := by
  unfold st6o
  refine wp_region_noPanic ?_
  refine wp_region_held_drew (S := fun x => x.cell? ⟨T9, 4, none⟩ = some (.slice P n c)) (by kernel_rfl) (cell_keep cm (bl_drew W)) (fun hH0 => ?_)
  refine wpAnyH_take (i := 0) (oi := { dst := some 31, op := Op.move (Operand.tmp 0), type := 107, pos := "ways.go:68", after := #[], guard := none }) (v := .pointer (some ⟨H, 0, none⟩)) rfl (by kernel_rfl) (by kernel_rfl) (by kernel_rfl) (fun _ _ _ h => h) (Or.inl ⟨by rfl, fun w0 hSw => ?_⟩) hH0 ?_
  · (clear hSw; go_simp)
  simp only [Act.put, List.setIfInBounds_toArray, List.set_cons_zero, List.set_cons_succ]
  refine wpAnyH_take (i := 1) (oi := { dst := some 32, op := Op.fieldAddr 68 (Operand.tmp 9) 1, type := 0, pos := "ways.go:68", after := #[], guard := none }) (v := .pointer (some ⟨T9, 4, none⟩)) rfl (by kernel_rfl) (by kernel_rfl) (by kernel_rfl) (fun _ _ _ h => h) (Or.inl ⟨by rfl, fun w0 hSw => ?_⟩) hH0 ?_
  · (clear hSw; go_simp)
  simp only [Act.put, List.setIfInBounds_toArray, List.set_cons_zero, List.set_cons_succ]
  refine wpAnyH_take (i := 3) (oi := { dst := some 34, op := Op.move (Operand.tmp 10), type := 120, pos := "ways.go:68", after := #[], guard := none }) (v := .slice (some ⟨B, 0, none⟩) K K) rfl (by kernel_rfl) (by kernel_rfl) (by kernel_rfl) (fun _ _ _ h => h) (Or.inl ⟨by rfl, fun w0 hSw => ?_⟩) hH0 ?_
  · (clear hSw; go_simp)
  simp only [Act.put, List.setIfInBounds_toArray, List.set_cons_zero, List.set_cons_succ]
  refine wpAnyH_take (i := 2) (oi := { dst := some 33, op := Op.load 32 (Operand.tmp 32), type := 32, pos := "ways.go:68", after := #[{ on := 1, ground := Ground.data }], guard := none }) (v := .agg #[.slice P n c]) rfl (by kernel_rfl) (by kernel_rfl) (by kernel_rfl) (fun _ _ _ h => h) (Or.inl ⟨by rfl, fun w0 hSw => ?_⟩) hH0 ?_
  · (have hS : w0.cell? ⟨T9, 4, none⟩ = some (.slice P n c) := hSw; have a0 := hS; clear hS hSw; go_simp)
  simp only [Act.put, List.setIfInBounds_toArray, List.set_cons_zero, List.set_cons_succ]
  refine wpAnyH_ready (rs := [4]) (by kernel_rfl) (by simp) ?_
  refine AllReadyH.cons (o := { dst := some 35, op := Op.call { callee := Callee.value (Operand.func 59), args := #[Operand.tmp 34], argTypes := #[120] }, type := 3, pos := "ways.go:68", after := #[{ on := 3, ground := Ground.data }], guard := none }) rfl (fun K hK => ?_) AllReadyH.nil
  have HH := hidden hH0
  clear hH0
  go_simp
  refine (C4.out).mono ?_
  rintro e wn1 ⟨T, rfl, ht, hb⟩
  have HT := hidden (ht)
  have B4 := hidden (hb)
  have SN := hidden (cell_keep HH.out hb)
  clear HH C4 ht hb
  go_wp2_with fail
  refine hK.out _ _ SN.out (fun hH1 => ?_)
  clear hK K SN
  refine wpAnyH_ready (rs := [5]) (by kernel_rfl) (by simp) ?_
  refine AllReadyH.cons (o := { dst := some 36, op := Op.call { callee := Callee.value (Operand.func 58), args := #[Operand.tmp 31, Operand.tmp 33, Operand.tmp 35], argTypes := #[107, 32, 3] }, type := 27, pos := "ways.go:68", after := #[{ on := 0, ground := Ground.data }, { on := 2, ground := Ground.data }, { on := 4, ground := Ground.data }, { on := 4, ground := Ground.chain }], guard := none }) rfl (fun K hK => ?_) AllReadyH.nil
  have HH := hidden hH1
  clear hH1
  go_simp
  refine (C5.out _ T HT.out B4.out).mono ?_
  rintro e wn2 ⟨M, rfl, hm, hr⟩
  have RR := hidden (hr)
  have SN := hidden (hm)
  clear HH C5 hm hr
  go_wp2_with fail
  refine hK.out _ _ SN.out (fun hH2 => ?_)
  clear hK K SN
  refine wpAnyH_take (i := 6) (oi := { dst := some 12, op := Op.assign (Operand.tmp 36), type := 27, pos := "ways.go:68", after := #[{ on := 5, ground := Ground.data }, { on := 5, ground := Ground.chain }, { on := 0, ground := Ground.phase }, { on := 1, ground := Ground.phase }, { on := 2, ground := Ground.phase }, { on := 3, ground := Ground.phase }, { on := 4, ground := Ground.phase }, { on := 5, ground := Ground.phase }], guard := none }) (v := .slice (some ⟨M, 0, none⟩) T T) rfl (by kernel_rfl) (by kernel_rfl) (by kernel_rfl) (fun _ _ _ h => h) (Or.inl ⟨by rfl, fun w0 hSw => ?_⟩) hH2 ?_
  · (clear hSw; go_simp)
  simp only [Act.put, List.setIfInBounds_toArray, List.set_cons_zero, List.set_cons_succ]
  have HH := hidden hH2
  have FQ := hidden (HQ.out T M _ HT.out RR.out)
  refine wpAnyH_done (by kernel_rfl) ?_ _
  refine NoPanic.normal ?_
  exact FQ.out
end Go.Proofs.YtapieajkmpnmoaaGreatDoor
namespace Go.Proofs.YtapieajkmpnmoaaGreatDoor
open Go.RowKit

/-- the sum of digits, w bits apart -/
def sw (g : Nat → Int) (w : Nat) : Nat → Int
  | 0 => 0
  | n + 1 => sw g w n + g n * 2 ^ (w * n)
theorem sw_congr {g f : Nat → Int} (w n : Nat) (h : ∀ j, j < n → g j = f j) : sw g w n = sw f w n := by
  induction n with
  | zero => rfl
  | succ n ih => rw [sw, sw, ih (fun j hj => h j (by omega)), h n (by omega)]
theorem sw_zero (w n : Nat) : sw (fun _ => 0) w n = 0 := by
  induction n with
  | zero => rfl
  | succ n ih => rw [sw, ih]; omega
theorem sw_put (g : Nat → Int) (w i : Nat) (d : Int) (n : Nat) (h : i < n) : sw (fun j => if j = i then d else g j) w n = sw g w n + (d - g i) * 2 ^ (w * i) := by
  induction n with
  | zero => omega
  | succ n ih =>
    rw [sw, sw]
    by_cases hi : i = n
    · subst hi
      rw [if_pos rfl, sw_congr w i (f := g) (fun j hj => if_neg (by omega)), Int.sub_mul]
      omega
    · rw [ih (by omega), if_neg (fun e => hi e.symm)]
      omega
/-- a remainder with more bits -/
theorem mod_more (N : Int) (hN : 0 ≤ N) (p m : Nat) : N % 2 ^ (p + m) = N % 2 ^ p + win N p m * 2 ^ p := by
  obtain ⟨n, rfl⟩ := Int.eq_ofNat_of_zero_le hN
  unfold win
  have e2 : (n : Int) % 2 ^ (p + m) = ((n % 2 ^ (p + m) : Nat) : Int) := by simp
  have e3 : (n : Int) % 2 ^ p = ((n % 2 ^ p : Nat) : Int) := by simp
  have e4 : (n : Int) / 2 ^ p % 2 ^ m = ((n / 2 ^ p % 2 ^ m : Nat) : Int) := by simp
  rw [e2, e3, e4, Nat.pow_add, Nat.mod_mul, Int.natCast_add, Int.natCast_mul, Int.mul_comm]
  simp
theorem dg_eq (N : Int) (m i : Nat) : dg N m i = win N (m * i) m + dgc N m i - dgc N m (i + 1) * 2 ^ m := by
  unfold dg
  rw [dgc]
  split <;> omega
theorem dg_sum (N : Int) (hN : 0 ≤ N) (m i : Nat) : sw (dg N m) m i + dgc N m i * 2 ^ (m * i) = N % 2 ^ (m * i) := by
  induction i with
  | zero => simp [sw, dgc, Int.emod_one]
  | succ i ih =>
    rw [sw, dg_eq, show m * (i + 1) = m * i + m by rw [Nat.mul_succ], mod_more N hN, ← ih, Int.pow_add]
    generalize (2 : Int) ^ (m * i) = P
    generalize (2 : Int) ^ m = M
    generalize dgc N m (i + 1) = c'
    generalize dgc N m i = c
    generalize win N (m * i) m = W
    generalize sw (dg N m) m i = s
    rw [Int.sub_mul, Int.add_mul, show c' * (P * M) = c' * M * P by rw [Int.mul_comm P, Int.mul_assoc]]
    omega
theorem pow_le (a b : Nat) (h : a ≤ b) : (2 : Int) ^ a ≤ 2 ^ b := by
  rw [p2mul a b h]
  have h1 := Int.mul_le_mul_of_nonneg_left (c := 2 ^ a) (show (1 : Int) ≤ 2 ^ (b - a) by have := p2pos (b - a); omega) (by have := p2pos a; omega)
  rw [Int.mul_one] at h1
  exact h1
/-- a window that reaches the top has a bit to spare -/
theorem win_top_bd (N : Int) (hN : 0 ≤ N) (h : N < 2 ^ 253) (p m : Nat) (hp : p ≤ 253) (hm : 254 ≤ p + m) : win N p m < 2 ^ (m - 1) := by
  have hq : N / 2 ^ p < 2 ^ (253 - p) := by
    apply Int.ediv_lt_of_lt_mul (p2pos p)
    rw [Int.mul_comm, ← p2mul p 253 hp]
    exact h
  have hl := pow_le (253 - p) (m - 1) (by omega)
  have h0 : 0 ≤ N / 2 ^ p := Int.ediv_nonneg hN (by have := p2pos p; omega)
  unfold win
  have := Int.emod_lt_of_pos (N / 2 ^ p) (p2pos m)
  have h2 : N / 2 ^ p % 2 ^ m ≤ N / 2 ^ p := by
    have e := Int.emod_add_mul_ediv (N / 2 ^ p) (2 ^ m)
    have : 0 ≤ 2 ^ m * (N / 2 ^ p / 2 ^ m) := Int.mul_nonneg (by have := p2pos m; omega) (Int.ediv_nonneg h0 (by have := p2pos m; omega))
    omega
  omega
theorem dg_all (N : Int) (hN : 0 ≤ N) (h : N < 2 ^ 253) (m : Nat) (hm : 1 ≤ m) : sw (dg N m) m (253 / m + 1) = N := by
  have hd := Nat.div_add_mod 253 m
  have hr := Nat.mod_lt 253 (show 0 < m by omega)
  have e := dg_sum N hN m (253 / m + 1)
  have hz : dgc N m (253 / m + 1) = 0 := by
    rw [dgc]
    have h1 := win_top_bd N hN h (m * (253 / m)) m (by omega) (by omega)
    have h2 := dgc_bd N m (253 / m)
    rw [if_neg (by omega)]
  have hl : N < 2 ^ (m * (253 / m + 1)) := by
    have := pow_le 253 (m * (253 / m + 1)) (by rw [Nat.mul_succ]; omega)
    omega
  rw [hz, Int.zero_mul, Int.add_zero, Int.emod_eq_of_lt hN hl] at e
  exact e
theorem dg_range (N : Int) (m i : Nat) (hm : 1 ≤ m) : -(2 ^ (m - 1)) < dg N m i ∧ dg N m i ≤ 2 ^ (m - 1) := by
  have hb := win_bd N (m * i) m
  have hc := dgc_bd N m i
  have hM : (2 : Int) ^ m = 2 * 2 ^ (m - 1) := p2mul 1 m hm
  have hp := p2pos (m - 1)
  unfold dg
  split <;> omega
theorem lst_253 (n : Int) : 0 ≤ (lst n).n ∧ (lst n).n < 2 ^ 253 := by
  have h := mod_bd n
  rw [lst_n]
  have : Sm.L < 2 ^ 253 := by decide
  omega
end Go.Proofs.YtapieajkmpnmoaaGreatDoor
