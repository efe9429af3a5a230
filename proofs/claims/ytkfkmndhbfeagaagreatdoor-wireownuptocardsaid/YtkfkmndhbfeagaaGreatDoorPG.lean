import Derived.Test.YtkfkmndhbfeagaaGreatDoorPm
import Derived.Laws.AppendOwn
import Derived.Maps.AppendAt
import Derived.OwnWalk
namespace Go.Proofs.YtkfkmndhbfeagaaGreatDoor
open Go.RowKit
set_option linter.unusedVariables false
end Go.Proofs.YtkfkmndhbfeagaaGreatDoor
namespace Go.Proofs.YtkfkmndhbfeagaaGreatDoor
open Go.RowKit
set_option linter.unusedVariables false
theorem wpList_loadG {P : Program} {ops : Array Oper} {rest : List Oper} {op : Oper} {a : Act} {w : World} {Q : Exit → Act → World → Prop} (hw : Region.wanted op (yielded ops a.tmps) = true) (ty : TypeId) (x : Operand) (ho : op.op = .load ty x)
    (b o : Nat) (hx : a.eval x = .pointer (some ⟨b, o, none⟩)) (cs : List Value) (d : TypeDesc) (hc : w.rangeAt b o cs)
    (hu : P.underlying ty = some d) (hd : d.isRow = true) (hi : (P.info? ty).map (·.size) = some cs.length)
    (h : wpList P ops Q rest (a.put op.dst (.agg cs.toArray)) w) : wpList P ops Q (op :: rest) a w := by
  unfold wpList
  rw [if_pos hw]
  exact Or.inl (wp_load_mid ty x ho b o hx cs d hc hu hd hi h)
theorem wpList_want {P : Program} {ops : Array Oper} {rest : List Oper} {o : Oper} {a : Act} {w : World} {Q : Exit → Act → World → Prop} (hw : Region.wanted o (yielded ops a.tmps) = true) (h : ∀ K : Act → World → Prop, Hid (∀ a w, wpList P ops Q rest a w → K a w) → o.wp P a w K Q) : wpList P ops Q (o :: rest) a w := by
  unfold wpList
  rw [if_pos hw]
  exact Or.inl (h _ (fun _ _ h => h))
theorem wpList_skip {P : Program} {ops : Array Oper} {rest : List Oper} {o : Oper} {a : Act} {w : World} {Q : Exit → Act → World → Prop} (hw : Region.wanted o (yielded ops a.tmps) = false) (h : wpList P ops Q rest (a.put o.dst undef) w) : wpList P ops Q (o :: rest) a w := by
  unfold wpList
  rw [if_neg (by rw [hw]; decide)]
  exact h
structure Shut (p : Prop) : Prop where
  out : p
theorem wpList_wantH {P : Program} {ops : Array Oper} {rest : List Oper} {o : Oper} {a : Act} {w : World} {Q : Exit → Act → World → Prop} (hw : Region.wanted o (yielded ops a.tmps) = true) (h : ∀ K : Act → World → Prop, Hid (∀ a w, Shut (wpList P ops Q rest a w) → K a w) → o.wp P a w K Q) : wpList P ops Q (o :: rest) a w := by
  unfold wpList
  rw [if_pos hw]
  exact Or.inl (h _ (fun _ _ h => h.out))
theorem wpList_skipH {P : Program} {ops : Array Oper} {rest : List Oper} {o : Oper} {a : Act} {w : World} {Q : Exit → Act → World → Prop} (hw : Region.wanted o (yielded ops a.tmps) = false) (h : Shut (wpList P ops Q rest (a.put o.dst undef) w)) : Shut (wpList P ops Q (o :: rest) a w) := ⟨wpList_skip hw h.out⟩
end Go.Proofs.YtkfkmndhbfeagaaGreatDoor
namespace Go.Proofs.YtkfkmndhbfeagaaGreatDoor
open Go.RowKit
set_option linter.unusedVariables false
theorem pc_part (s : Nat → E4) (LV RV : Value) {w : World} {b : Nat} (h : w.rangeAt b 0 (pc s LV RV)) : w.rangeAt b 0 [.int .u64 (s 0).x0, .int .u64 (s 0).x1, .int .u64 (s 0).x2, .int .u64 (s 0).x3] ∧ w.rangeAt b 4 [.int .u64 (s 1).x0, .int .u64 (s 1).x1, .int .u64 (s 1).x2, .int .u64 (s 1).x3] ∧ w.rangeAt b 8 [.int .u64 (s 2).x0, .int .u64 (s 2).x1, .int .u64 (s 2).x2, .int .u64 (s 2).x3] ∧ w.rangeAt b 12 [.int .u64 (s 3).x0, .int .u64 (s 3).x1, .int .u64 (s 3).x2, .int .u64 (s 3).x3] ∧ w.rangeAt b 16 [.int .u64 (s 4).x0, .int .u64 (s 4).x1, .int .u64 (s 4).x2, .int .u64 (s 4).x3] ∧ w.rangeAt b 20 [.int .u64 (s 5).x0, .int .u64 (s 5).x1, .int .u64 (s 5).x2, .int .u64 (s 5).x3] ∧ w.rangeAt b 24 [.int .u64 (s 6).x0, .int .u64 (s 6).x1, .int .u64 (s 6).x2, .int .u64 (s 6).x3] ∧ w.rangeAt b 30 [.int .u64 (s 7).x0, .int .u64 (s 7).x1, .int .u64 (s 7).x2, .int .u64 (s 7).x3] ∧ w.rangeAt b 34 [.int .u64 (s 8).x0, .int .u64 (s 8).x1, .int .u64 (s 8).x2, .int .u64 (s 8).x3] := by
  refine ⟨?_, ?_, ?_, ?_, ?_, ?_, ?_, ?_, ?_⟩
  all_goals
    intro j v hv
    match j, hv with
    | 0, hv => obtain rfl := Option.some.inj hv; first | exact h 0 _ rfl | exact h 4 _ rfl | exact h 8 _ rfl | exact h 12 _ rfl | exact h 16 _ rfl | exact h 20 _ rfl | exact h 24 _ rfl | exact h 30 _ rfl | exact h 34 _ rfl
    | 1, hv => obtain rfl := Option.some.inj hv; first | exact h 1 _ rfl | exact h 5 _ rfl | exact h 9 _ rfl | exact h 13 _ rfl | exact h 17 _ rfl | exact h 21 _ rfl | exact h 25 _ rfl | exact h 31 _ rfl | exact h 35 _ rfl
    | 2, hv => obtain rfl := Option.some.inj hv; first | exact h 2 _ rfl | exact h 6 _ rfl | exact h 10 _ rfl | exact h 14 _ rfl | exact h 18 _ rfl | exact h 22 _ rfl | exact h 26 _ rfl | exact h 32 _ rfl | exact h 36 _ rfl
    | 3, hv => obtain rfl := Option.some.inj hv; first | exact h 3 _ rfl | exact h 7 _ rfl | exact h 11 _ rfl | exact h 15 _ rfl | exact h 19 _ rfl | exact h 23 _ rfl | exact h 27 _ rfl | exact h 33 _ rfl | exact h 37 _ rfl
    | j + 4, hv => cases hv
end Go.Proofs.YtkfkmndhbfeagaaGreatDoor
namespace Go.Proofs.YtkfkmndhbfeagaaGreatDoor
open Go.RowKit
set_option linter.unusedVariables false
theorem svs_cell4 (a : E4) : ∀ u ∈ [Value.int .u64 a.x0, .int .u64 a.x1, .int .u64 a.x2, .int .u64 a.x3], u.oneCell' = true := by simp [Value.oneCell']
theorem linfoG : (Tryz.prog.info? 52).map (fun i => (i.zero, i.size, i.bytes)) = some (some (.agg #[.int .u64 0, .int .u64 0, .int .u64 0, .int .u64 0]), 4, 32) := by kernel_rfl
theorem cells_newP (w : World) (cs : List Value) (t : TypeId) : ∀ j u, cs[j]? = some u → (w.alloc (.cells cs.toArray t)).cell? ((⟨w.heap.size, 0, none⟩ : Addr).add j) = some u := by
  intro j u hu
  have hadd : (⟨w.heap.size, 0, none⟩ : Addr).add j = ⟨w.heap.size, j, none⟩ := by unfold Addr.add; split <;> simp_all
  rw [hadd, cell_of_row (w.alloc (.cells cs.toArray t)) w.heap.size j cs.toArray t (0, 0) (heap_alloc_new w _)]
  simpa using hu

theorem below_grown {w w' : World} {row : Option Nat} {base : Nat} (hg : w.grownBy w' row) (hb : base ≤ w.heap.size) (hr : ∀ k, row = some k → base ≤ k) : Below base w w' :=
  ⟨hg.os, hg.tape, hg.output, hg.size, fun k hk => hg.block k (by omega) (fun e => by have := hr k e.symm; omega)⟩
theorem below_trans {n : Nat} {w1 w2 w3 : World} (h1 : Below n w1 w2) (h2 : Below n w2 w3) : Below n w1 w3 := ⟨h2.os.trans h1.os, h2.tape.trans h1.tape, h2.output.trans h1.output, Nat.le_trans h1.size h2.size, fun k hk => (h2.block k hk).trans (h1.block k hk)⟩
set_option maxRecDepth 100000 in
set_option maxHeartbeats 8000000 in
theorem lines_any (P : Option Addr) (L c : Nat) (g : Nat → E4) (w : World) (hL : L * 32 ≤ 140737488355328) (hS : Lm w P L g) :
    Calls Tryz.prog 28 #[.slice P L c] w fun e w' => ∃ v : Value, e = .returned v ∧ w'.ownsRow w.heap.size 52 4 v L (svs L g) ∧ Below w.heap.size w w' := by
  have HS := hidden hS
  have HL := hidden hL
  have nn0 : (0 : Int) ≤ (L : Int) := by omega
  obtain ⟨i0, hi, hz0, hz1, hz2⟩ := info_parts linfoG
  have HI := hidden hi
  have HZ0 := hidden hz0
  have HZ1 := hidden hz1
  have HZ2 := hidden hz2
  have HU : Hid (Tryz.prog.underlying 53 = some (.slice 52)) := hidden (by kernel_rfl)
  clear hS hL hi hz0 hz1 hz2
  go_enter Tryz.func28, Tryz.ntmps28
  go_wp2_with fail
  go_loopw [3, 4] (fun cv kv w' => ∃ k : Nat, k ≤ L ∧ kv = .int .i64 (k : Int) ∧ Hid (w'.ownsRow w.heap.size 52 4 cv k (svs k g)) ∧ Hid (Below w.heap.size w w')) (fun _ k _ => L - (intOf k).toNat)
  case atStart => exact ⟨0, by omega, rfl, hidden (World.ownsRow_nil _ _ _ _), hidden (Below.refl _ _)⟩
  case round =>
    obtain ⟨k, hk, rfl, hO, hB⟩ := hrel
    by_cases hkn : k < L
    · have k0 : (0 : Int) ≤ (k : Int) := by omega
      have k1 : (k : Int) < (L : Int) := by omega
      have w9 : IntKind.i64.wrap ((k : Int) + 1) = (k : Int) + 1 := IntWalk.i64_in _ (by have := HL.out; omega)
      obtain ⟨sb, so, h1, h2⟩ := HS.out
      obtain rfl := h1 (by omega)
      have rx := (h2 (by omega)).keep hB.out
      have x0 := rx.c0 k hkn; have x1 := rx.c1 k hkn; have x2 := rx.c2 k hkn; have x3 := rx.c3 k hkn
      have NX := svs_succ k g
      generalize g k = a at x0 x1 x2 x3 NX
      clear rx h1 h2
      go_wp2_with (first | (at_builtin; refine wpList_append_own_at _ rfl _ _ 53 rfl w.heap.size 52 i0 (.agg #[.int .u64 0, .int .u64 0, .int .u64 0, .int .u64 0]) 4 32 HU.out HI.out HZ0.out HZ1.out HZ2.out rfl (by decide) _ k (svs k g) rfl (hO.out.alloc (.cells #[.int .u64 a.x0, .int .u64 a.x1, .int .u64 a.x2, .int .u64 a.x3] 52)) ⟨wr.heap.size, 0, none⟩ 1 1 [.int .u64 a.x0, .int .u64 a.x1, .int .u64 a.x2, .int .u64 a.x3] rfl rfl (cells_newP wr [.int .u64 a.x0, .int .u64 a.x1, .int .u64 a.x2, .int .u64 a.x3] 52) (svs_cell4 a) (by have := HL.out; unfold maxLen; omega) (by have := HL.out; omega) (by have := hB.out.size; simp; omega) ?_; intro v4 w4 how4 hgr4 hnil4 hat4; have HO4 := hidden how4; have B4 := hidden (below_trans (bl_trans hB.out (bl_alloc wr (.cells #[.int .u64 a.x0, .int .u64 a.x1, .int .u64 a.x2, .int .u64 a.x3] 52))) (below_grown hgr4 (by have := hB.out.size; simp; omega) (fun k hk => ((hO.out.alloc (.cells #[.int .u64 a.x0, .int .u64 a.x1, .int .u64 a.x2, .int .u64 a.x3] 52)).lt k hk).1))); clear how4 hgr4 hnil4 hat4))
      go_roundw
      case rel => exact ⟨k + 1, by omega, by go_num, hidden (by rw [NX]; exact HO4.out), B4⟩
      case measure => simp [intOf]; omega
    · obtain rfl : k = L := by omega
      have lq : ¬ (k : Int) < (k : Int) := by omega
      go_wp2_with fail
      refine bodyPost_ret (v := u3) (by simp [results, Tryz.results28, go_sem]) rfl ⟨_, rfl, hO.out, hB.out⟩
end Go.Proofs.YtkfkmndhbfeagaaGreatDoor
namespace Go.Proofs.YtkfkmndhbfeagaaGreatDoor
open Go.RowKit
set_option linter.unusedVariables false
theorem own_down {w : World} {B C s n : Nat} {e : TypeId} {v : Value} {xs : List Value} (h : w.ownsRow B e s v n xs) (hc : C ≤ B) : w.ownsRow C e s v n xs := by
  refine ⟨h.1, ?_⟩
  rcases h.2 with h0 | ⟨g, cap, cur, h1, hB, h3⟩
  · exact .inl h0
  · exact .inr ⟨g, cap, cur, h1, Nat.le_trans hc hB, h3⟩
theorem own_shapeL {w : World} {base n : Nat} {e : TypeId} {v : Value} {xs : List Value} (h : w.ownsRow base e 4 v n xs) : ∃ (P : Option Addr) (c : Nat), v = .slice P n c := by
  rcases h.2 with ⟨rfl, rfl⟩ | ⟨g, cap, cur, rfl, _⟩
  · exact ⟨none, 0, rfl⟩
  · exact ⟨_, _, rfl⟩
theorem own_lm {w : World} {base n : Nat} {P : Option Addr} {c : Nat} {g : Nat → E4} (h : w.ownsRow base 52 4 (.slice P n c) n (svs n g)) : Lm w P n g ∧ (∀ a, P = some a → a.block < w.heap.size) := by
  rcases h.2 with ⟨hv, h0⟩ | ⟨b, cap, cur, hv, hb, hg, hnc, hcm, hcs, ht⟩
  · subst h0
    simp only [Value.slice.injEq] at hv
    exact ⟨⟨0, 0, fun h => by omega, fun h => by omega⟩, fun a ha => by rw [hv.1] at ha; cases ha⟩
  · simp only [Value.slice.injEq, true_and] at hv
    obtain ⟨rfl, rfl⟩ := hv
    have hlt : b < w.heap.size := (Array.getElem?_eq_some_iff.1 hg).1
    refine ⟨⟨b, 0, fun _ => rfl, fun _ => rl_of (fun j v hv => ?_)⟩, fun a ha => by obtain rfl := Option.some.inj ha; exact hlt⟩
    have hj : j < n * 4 := by have := (List.getElem?_eq_some_iff.1 hv).1; rwa [svs_len] at this
    have := h.cellAt j hj
    rw [Nat.zero_add, this]; exact hv
theorem pc_i2 (s : Nat → E4) (LV RV : Value) : (Tryz.prog.info? 55).map (·.size) = some (pc s LV RV).toArray.size := pinfo
theorem pc_i (s : Nat → E4) (LV RV : Value) : (Tryz.prog.info? 55).map (·.size) = some (pc s LV RV).length := pinfo
theorem pc_one (s : Nat → E4) (P Q : Option Addr) (n c m d : Nat) : (pc s (.slice P n c) (.slice Q m d)).toArray.all (·.oneCell') = true := by simp [pc, Value.oneCell']
def ln1o : Array Oper := #[{ dst := some 3, op := Op.fieldAddr 28 (Operand.tmp 1) 0, type := 0, pos := "law.go:303", after := #[], guard := none },
  { dst := some 4, op := Op.indexAddr 25 (Operand.tmp 3) (Operand.const (Value.int IntKind.i64 0)), type := 0, pos := "law.go:303", after := #[{ on := 0, ground := Ground.data }], guard := none },
  { dst := some 5, op := Op.load 24 (Operand.tmp 4), type := 24, pos := "law.go:303", after := #[{ on := 1, ground := Ground.data }], guard := none },
  { dst := some 6, op := Op.build 52 #[(0, Operand.tmp 5)], type := 52, pos := "law.go:303", after := #[{ on := 2, ground := Ground.data }], guard := none },
  { dst := some 7, op := Op.fieldAddr 28 (Operand.tmp 1) 0, type := 0, pos := "law.go:303", after := #[], guard := none },
  { dst := some 8, op := Op.indexAddr 25 (Operand.tmp 7) (Operand.const (Value.int IntKind.i64 1)), type := 0, pos := "law.go:303", after := #[{ on := 4, ground := Ground.data }], guard := none },
  { dst := some 9, op := Op.load 24 (Operand.tmp 8), type := 24, pos := "law.go:303", after := #[{ on := 5, ground := Ground.data }], guard := none },
  { dst := some 10, op := Op.build 52 #[(0, Operand.tmp 9)], type := 52, pos := "law.go:303", after := #[{ on := 6, ground := Ground.data }], guard := none },
  { dst := some 11, op := Op.fieldAddr 28 (Operand.tmp 1) 0, type := 0, pos := "law.go:303", after := #[], guard := none },
  { dst := some 12, op := Op.indexAddr 25 (Operand.tmp 11) (Operand.const (Value.int IntKind.i64 2)), type := 0, pos := "law.go:303", after := #[{ on := 8, ground := Ground.data }], guard := none },
  { dst := some 13, op := Op.load 24 (Operand.tmp 12), type := 24, pos := "law.go:303", after := #[{ on := 9, ground := Ground.data }], guard := none },
  { dst := some 14, op := Op.build 52 #[(0, Operand.tmp 13)], type := 52, pos := "law.go:303", after := #[{ on := 10, ground := Ground.data }], guard := none },
  { dst := some 15, op := Op.fieldAddr 28 (Operand.tmp 1) 0, type := 0, pos := "law.go:303", after := #[], guard := none },
  { dst := some 16, op := Op.indexAddr 25 (Operand.tmp 15) (Operand.const (Value.int IntKind.i64 3)), type := 0, pos := "law.go:303", after := #[{ on := 12, ground := Ground.data }], guard := none },
  { dst := some 17, op := Op.load 24 (Operand.tmp 16), type := 24, pos := "law.go:303", after := #[{ on := 13, ground := Ground.data }], guard := none },
  { dst := some 18, op := Op.build 52 #[(0, Operand.tmp 17)], type := 52, pos := "law.go:303", after := #[{ on := 14, ground := Ground.data }], guard := none },
  { dst := some 19, op := Op.fieldAddr 28 (Operand.tmp 1) 1, type := 0, pos := "law.go:303", after := #[], guard := none },
  { dst := some 20, op := Op.load 24 (Operand.tmp 19), type := 24, pos := "law.go:303", after := #[{ on := 16, ground := Ground.data }], guard := none },
  { dst := some 21, op := Op.fieldAddr 28 (Operand.tmp 1) 2, type := 0, pos := "law.go:303", after := #[], guard := none },
  { dst := some 22, op := Op.load 24 (Operand.tmp 21), type := 24, pos := "law.go:303", after := #[{ on := 18, ground := Ground.data }], guard := none },
  { dst := some 23, op := Op.fieldAddr 28 (Operand.tmp 1) 3, type := 0, pos := "law.go:303", after := #[], guard := none },
  { dst := some 24, op := Op.load 24 (Operand.tmp 23), type := 24, pos := "law.go:303", after := #[{ on := 20, ground := Ground.data }], guard := none },
  { dst := some 25, op := Op.fieldAddr 28 (Operand.tmp 1) 4, type := 0, pos := "law.go:303", after := #[], guard := none },
  { dst := some 26, op := Op.load 26 (Operand.tmp 25), type := 26, pos := "law.go:303", after := #[{ on := 22, ground := Ground.data }], guard := none },
  { dst := some 27, op := Op.call { callee := Callee.value (Operand.func 28), args := #[Operand.tmp 26], argTypes := #[26] }, type := 53, pos := "law.go:303", after := #[{ on := 23, ground := Ground.data }], guard := none },
  { dst := some 28, op := Op.fieldAddr 28 (Operand.tmp 1) 5, type := 0, pos := "law.go:303", after := #[], guard := none },
  { dst := some 29, op := Op.load 26 (Operand.tmp 28), type := 26, pos := "law.go:303", after := #[{ on := 25, ground := Ground.data }], guard := none },
  { dst := some 30, op := Op.call { callee := Callee.value (Operand.func 28), args := #[Operand.tmp 29], argTypes := #[26] }, type := 53, pos := "law.go:303", after := #[{ on := 26, ground := Ground.data }, { on := 24, ground := Ground.chain }], guard := none },
  { dst := some 31, op := Op.fieldAddr 28 (Operand.tmp 1) 6, type := 0, pos := "law.go:303", after := #[], guard := none },
  { dst := some 32, op := Op.load 24 (Operand.tmp 31), type := 24, pos := "law.go:303", after := #[{ on := 28, ground := Ground.data }], guard := none },
  { dst := some 33, op := Op.fieldAddr 28 (Operand.tmp 1) 7, type := 0, pos := "law.go:303", after := #[], guard := none },
  { dst := some 34, op := Op.load 24 (Operand.tmp 33), type := 24, pos := "law.go:303", after := #[{ on := 30, ground := Ground.data }], guard := none },
  { dst := some 35, op := Op.build 55 #[(0, Operand.tmp 6), (1, Operand.tmp 10), (2, Operand.tmp 14), (3, Operand.tmp 18), (4, Operand.tmp 20), (5, Operand.tmp 22), (6, Operand.tmp 24), (7, Operand.tmp 27), (8, Operand.tmp 30), (9, Operand.tmp 32), (10, Operand.tmp 34)], type := 55, pos := "law.go:303", after := #[{ on := 3, ground := Ground.data }, { on := 7, ground := Ground.data }, { on := 11, ground := Ground.data }, { on := 15, ground := Ground.data }, { on := 17, ground := Ground.data }, { on := 19, ground := Ground.data }, { on := 21, ground := Ground.data }, { on := 24, ground := Ground.data }, { on := 27, ground := Ground.data }, { on := 29, ground := Ground.data }, { on := 31, ground := Ground.data }], guard := none },
  { dst := none, op := Op.store 55 (Operand.tmp 2) (Operand.tmp 35), type := 0, pos := "law.go:303", after := #[{ on := 32, ground := Ground.data }, { on := 27, ground := Ground.chain }, { on := 0, ground := Ground.phase }, { on := 1, ground := Ground.phase }, { on := 2, ground := Ground.phase }, { on := 3, ground := Ground.phase }, { on := 4, ground := Ground.phase }, { on := 5, ground := Ground.phase }, { on := 6, ground := Ground.phase }, { on := 7, ground := Ground.phase }, { on := 8, ground := Ground.phase }, { on := 9, ground := Ground.phase }, { on := 10, ground := Ground.phase }, { on := 11, ground := Ground.phase }, { on := 12, ground := Ground.phase }, { on := 13, ground := Ground.phase }, { on := 14, ground := Ground.phase }, { on := 15, ground := Ground.phase }, { on := 16, ground := Ground.phase }, { on := 17, ground := Ground.phase }, { on := 18, ground := Ground.phase }, { on := 19, ground := Ground.phase }, { on := 20, ground := Ground.phase }, { on := 21, ground := Ground.phase }, { on := 22, ground := Ground.phase }, { on := 23, ground := Ground.phase }, { on := 24, ground := Ground.phase }, { on := 25, ground := Ground.phase }, { on := 26, ground := Ground.phase }, { on := 27, ground := Ground.phase }, { on := 28, ground := Ground.phase }, { on := 29, ground := Ground.phase }, { on := 30, ground := Ground.phase }, { on := 31, ground := Ground.phase }, { on := 32, ground := Ground.phase }], guard := none }]

set_option maxRecDepth 100000 in
set_option maxHeartbeats 16000000 in
theorem ln1 (Q : Exit → Act → World → Prop) (B1 B2 : Nat) (s l r : Nat → E4) (LP RP : Option Addr) (n m cL cR : Nat) (u0 u3 u4 u5 u6 u7 u8 u9 u10 u11 u12 u13 u14 u15 u16 u17 u18 u19 u20 u21 u22 u23 u24 u25 u26 u27 u28 u29 u30 u31 u32 u33 u34 u35 : Value) (w W : World) (h1 : W.rangeAt B1 0 (pc s (.slice LP n cL) (.slice RP m cR))) (h2 : W.there B2 0 38) (hB : w.heap.size ≤ B2) (hlt : B2 < W.heap.size) (hbel : Below w.heap.size w W) (h12 : B1 ≠ B2)
    (C1 : Hid (∀ x, Below W.heap.size W x → Calls Tryz.prog 28 #[.slice LP n cL] x fun e w' => ∃ v : Value, e = .returned v ∧ w'.ownsRow x.heap.size 52 4 v n (svs n l) ∧ Below x.heap.size x w'))
    (C2 : Hid (∀ x, Below W.heap.size W x → Calls Tryz.prog 28 #[.slice RP m cR] x fun e w' => ∃ v : Value, e = .returned v ∧ w'.ownsRow x.heap.size 52 4 v m (svs m r) ∧ Below x.heap.size x w'))
    (HQ : Hid (∀ (z3 z4 z5 z6 z7 z8 z9 z10 z11 z12 z13 z14 z15 z16 z17 z18 z19 z20 z21 z22 z23 z24 z25 z26 z27 z28 z29 z30 z31 z32 z33 z34 z35 : Value) P1 c1 P2 c2 wz, Below w.heap.size w wz → wz.rangeAt B2 0 (pc s (.slice P1 n c1) (.slice P2 m c2)) → wz.ownsRow w.heap.size 52 4 (.slice P1 n c1) n (svs n l) → wz.ownsRow w.heap.size 52 4 (.slice P2 m c2) m (svs m r) → Q .normal ⟨#[u0, .pointer (some ⟨B1, 0, none⟩), .pointer (some ⟨B2, 0, none⟩), z3, z4, z5, z6, z7, z8, z9, z10, z11, z12, z13, z14, z15, z16, z17, z18, z19, z20, z21, z22, z23, z24, z25, z26, z27, z28, z29, z30, z31, z32, z33, z34, z35], []⟩ wz)) : (Code.region 1 ln1o true).wp Tryz.prog Q ⟨#[u0, .pointer (some ⟨B1, 0, none⟩), .pointer (some ⟨B2, 0, none⟩), u3, u4, u5, u6, u7, u8, u9, u10, u11, u12, u13, u14, u15, u16, u17, u18, u19, u20, u21, u22, u23, u24, u25, u26, u27, u28, u29, u30, u31, u32, u33, u34, u35], []⟩ W := by
  have hbb : B1 < W.heap.size := World.block_lt_of_cell? W _ (h1 0 _ rfl)
  have SK : Hid (∀ x, Below W.heap.size W x → x.rangeAt B1 0 (pc s (.slice LP n cL) (.slice RP m cR))) := hidden (fun x h => range_keep h1 h)
  have BL := hidden (Tr.drew_blW W)
  have PP : Hid (∀ x : World, x.rangeAt B1 0 (pc s (.slice LP n cL) (.slice RP m cR)) → x.rangeAt B1 0 [.int .u64 (s 0).x0, .int .u64 (s 0).x1, .int .u64 (s 0).x2, .int .u64 (s 0).x3] ∧ x.rangeAt B1 4 [.int .u64 (s 1).x0, .int .u64 (s 1).x1, .int .u64 (s 1).x2, .int .u64 (s 1).x3] ∧ x.rangeAt B1 8 [.int .u64 (s 2).x0, .int .u64 (s 2).x1, .int .u64 (s 2).x2, .int .u64 (s 2).x3] ∧ x.rangeAt B1 12 [.int .u64 (s 3).x0, .int .u64 (s 3).x1, .int .u64 (s 3).x2, .int .u64 (s 3).x3] ∧ x.rangeAt B1 16 [.int .u64 (s 4).x0, .int .u64 (s 4).x1, .int .u64 (s 4).x2, .int .u64 (s 4).x3] ∧ x.rangeAt B1 20 [.int .u64 (s 5).x0, .int .u64 (s 5).x1, .int .u64 (s 5).x2, .int .u64 (s 5).x3] ∧ x.rangeAt B1 24 [.int .u64 (s 6).x0, .int .u64 (s 6).x1, .int .u64 (s 6).x2, .int .u64 (s 6).x3] ∧ x.rangeAt B1 30 [.int .u64 (s 7).x0, .int .u64 (s 7).x1, .int .u64 (s 7).x2, .int .u64 (s 7).x3] ∧ x.rangeAt B1 34 [.int .u64 (s 8).x0, .int .u64 (s 8).x1, .int .u64 (s 8).x2, .int .u64 (s 8).x3]) := hidden (fun x h => pc_part s _ _ h)
  have H8 : Hid (∀ x : World, x.rangeAt B1 0 (pc s (.slice LP n cL) (.slice RP m cR)) → x.cell? ⟨B1, 28, none⟩ = some (.slice LP n cL) ∧ x.cell? ⟨B1, 29, none⟩ = some (.slice RP m cR)) := hidden (fun x h => by
    have a := h 28 _ rfl; have b := h 29 _ rfl
    simp only [Nat.zero_add] at a b
    exact ⟨a, b⟩)
  have TH := hidden h2
  have HB := hidden (And.intro hB (And.intro hlt (And.intro hbel h12)))
  have US : Hid (Tryz.prog.underlying 24 = _) := hidden Tryz.underlying24
  have OB : Hid (∀ x y : World, ∀ v k xs, x.ownsRow W.heap.size 52 4 v k xs → Below x.heap.size x y → y.ownsRow W.heap.size 52 4 v k xs) := hidden (fun x y v k xs h hb => Tr.own_stay h hb)
  clear h1 h2 hB hlt hbel h12 hbb
  generalize hP : pc s (.slice LP n cL) (.slice RP m cR) = P at SK PP H8
  refine wp_region_noPanic ?_
  refine wp_region_held_drew (S := fun x => x.rangeAt B1 0 P) (by kernel_rfl) (SK.out _ (Tr.drew_blW W)) (fun hHeld => ?_)
  change wpAnyH Tryz.prog .any ln1o _ _ 34 #[false, false, false, false, false, false, false, false, false, false, false, false, false, false, false, false, false, false, false, false, false, false, false, false, false, false, false, false, false, false, false, false, false, false] _ _
  clear hP
  refine wpAnyH_take (i := 0) (oi := { dst := some 3, op := Op.fieldAddr 28 (Operand.tmp 1) 0, type := 0, pos := "law.go:303", after := #[], guard := none }) (v := .pointer (some ⟨B1, 0, none⟩)) rfl (by kernel_rfl) (by kernel_rfl) (by kernel_rfl) (fun _ _ _ h => h) (Or.inl ⟨by rfl, fun w0 hSw => ?_⟩) hHeld ?_
  · (clear hSw; go_simp)
  simp only [Act.put, List.setIfInBounds_toArray, List.set_cons_zero, List.set_cons_succ]
  refine wpAnyH_take (i := 1) (oi := { dst := some 4, op := Op.indexAddr 25 (Operand.tmp 3) (Operand.const (Value.int IntKind.i64 0)), type := 0, pos := "law.go:303", after := #[{ on := 0, ground := Ground.data }], guard := none }) (v := .pointer (some ⟨B1, 0, none⟩)) rfl (by kernel_rfl) (by kernel_rfl) (by kernel_rfl) (fun _ _ _ h => h) (Or.inl ⟨by rfl, fun w0 hSw => ?_⟩) hHeld ?_
  · (clear hSw; go_simp)
  simp only [Act.put, List.setIfInBounds_toArray, List.set_cons_zero, List.set_cons_succ]
  refine wpAnyH_take (i := 2) (oi := { dst := some 5, op := Op.load 24 (Operand.tmp 4), type := 24, pos := "law.go:303", after := #[{ on := 1, ground := Ground.data }], guard := none }) (v := .agg (([.int .u64 (s 0).x0, .int .u64 (s 0).x1, .int .u64 (s 0).x2, .int .u64 (s 0).x3] : List Value)).toArray) rfl (by kernel_rfl) (by kernel_rfl) (by kernel_rfl) (fun _ _ _ h => h) (yieldsIf_load_mid (by rfl) 24 _ rfl (B1) (0) rfl (([.int .u64 (s 0).x0, .int .u64 (s 0).x1, .int .u64 (s 0).x2, .int .u64 (s 0).x3] : List Value)) _ (fun w0 hSw => (PP.out _ hSw).1) US.out rfl (hidden (i4S (s 0))).out) hHeld ?_
  simp only [Act.put, List.setIfInBounds_toArray, List.set_cons_zero, List.set_cons_succ]
  refine wpAnyH_take (i := 3) (oi := { dst := some 6, op := Op.build 52 #[(0, Operand.tmp 5)], type := 52, pos := "law.go:303", after := #[{ on := 2, ground := Ground.data }], guard := none }) (v := .agg #[.int .u64 (s 0).x0, .int .u64 (s 0).x1, .int .u64 (s 0).x2, .int .u64 (s 0).x3]) rfl (by kernel_rfl) (by kernel_rfl) (by kernel_rfl) (fun _ _ _ h => h) (Or.inl ⟨by rfl, fun w0 hSw => ?_⟩) hHeld ?_
  · (clear hSw; go_simp)
  simp only [Act.put, List.setIfInBounds_toArray, List.set_cons_zero, List.set_cons_succ]
  refine wpAnyH_take (i := 4) (oi := { dst := some 7, op := Op.fieldAddr 28 (Operand.tmp 1) 0, type := 0, pos := "law.go:303", after := #[], guard := none }) (v := .pointer (some ⟨B1, 0, none⟩)) rfl (by kernel_rfl) (by kernel_rfl) (by kernel_rfl) (fun _ _ _ h => h) (Or.inl ⟨by rfl, fun w0 hSw => ?_⟩) hHeld ?_
  · (clear hSw; go_simp)
  simp only [Act.put, List.setIfInBounds_toArray, List.set_cons_zero, List.set_cons_succ]
  refine wpAnyH_take (i := 5) (oi := { dst := some 8, op := Op.indexAddr 25 (Operand.tmp 7) (Operand.const (Value.int IntKind.i64 1)), type := 0, pos := "law.go:303", after := #[{ on := 4, ground := Ground.data }], guard := none }) (v := .pointer (some ⟨B1, 4, none⟩)) rfl (by kernel_rfl) (by kernel_rfl) (by kernel_rfl) (fun _ _ _ h => h) (Or.inl ⟨by rfl, fun w0 hSw => ?_⟩) hHeld ?_
  · (clear hSw; go_simp)
  simp only [Act.put, List.setIfInBounds_toArray, List.set_cons_zero, List.set_cons_succ]
  refine wpAnyH_take (i := 6) (oi := { dst := some 9, op := Op.load 24 (Operand.tmp 8), type := 24, pos := "law.go:303", after := #[{ on := 5, ground := Ground.data }], guard := none }) (v := .agg (([.int .u64 (s 1).x0, .int .u64 (s 1).x1, .int .u64 (s 1).x2, .int .u64 (s 1).x3] : List Value)).toArray) rfl (by kernel_rfl) (by kernel_rfl) (by kernel_rfl) (fun _ _ _ h => h) (yieldsIf_load_mid (by rfl) 24 _ rfl (B1) (4) rfl (([.int .u64 (s 1).x0, .int .u64 (s 1).x1, .int .u64 (s 1).x2, .int .u64 (s 1).x3] : List Value)) _ (fun w0 hSw => (PP.out _ hSw).2.1) US.out rfl (hidden (i4S (s 1))).out) hHeld ?_
  simp only [Act.put, List.setIfInBounds_toArray, List.set_cons_zero, List.set_cons_succ]
  refine wpAnyH_take (i := 7) (oi := { dst := some 10, op := Op.build 52 #[(0, Operand.tmp 9)], type := 52, pos := "law.go:303", after := #[{ on := 6, ground := Ground.data }], guard := none }) (v := .agg #[.int .u64 (s 1).x0, .int .u64 (s 1).x1, .int .u64 (s 1).x2, .int .u64 (s 1).x3]) rfl (by kernel_rfl) (by kernel_rfl) (by kernel_rfl) (fun _ _ _ h => h) (Or.inl ⟨by rfl, fun w0 hSw => ?_⟩) hHeld ?_
  · (clear hSw; go_simp)
  simp only [Act.put, List.setIfInBounds_toArray, List.set_cons_zero, List.set_cons_succ]
  refine wpAnyH_take (i := 8) (oi := { dst := some 11, op := Op.fieldAddr 28 (Operand.tmp 1) 0, type := 0, pos := "law.go:303", after := #[], guard := none }) (v := .pointer (some ⟨B1, 0, none⟩)) rfl (by kernel_rfl) (by kernel_rfl) (by kernel_rfl) (fun _ _ _ h => h) (Or.inl ⟨by rfl, fun w0 hSw => ?_⟩) hHeld ?_
  · (clear hSw; go_simp)
  simp only [Act.put, List.setIfInBounds_toArray, List.set_cons_zero, List.set_cons_succ]
  refine wpAnyH_take (i := 9) (oi := { dst := some 12, op := Op.indexAddr 25 (Operand.tmp 11) (Operand.const (Value.int IntKind.i64 2)), type := 0, pos := "law.go:303", after := #[{ on := 8, ground := Ground.data }], guard := none }) (v := .pointer (some ⟨B1, 8, none⟩)) rfl (by kernel_rfl) (by kernel_rfl) (by kernel_rfl) (fun _ _ _ h => h) (Or.inl ⟨by rfl, fun w0 hSw => ?_⟩) hHeld ?_
  · (clear hSw; go_simp)
  simp only [Act.put, List.setIfInBounds_toArray, List.set_cons_zero, List.set_cons_succ]
  refine wpAnyH_take (i := 10) (oi := { dst := some 13, op := Op.load 24 (Operand.tmp 12), type := 24, pos := "law.go:303", after := #[{ on := 9, ground := Ground.data }], guard := none }) (v := .agg (([.int .u64 (s 2).x0, .int .u64 (s 2).x1, .int .u64 (s 2).x2, .int .u64 (s 2).x3] : List Value)).toArray) rfl (by kernel_rfl) (by kernel_rfl) (by kernel_rfl) (fun _ _ _ h => h) (yieldsIf_load_mid (by rfl) 24 _ rfl (B1) (8) rfl (([.int .u64 (s 2).x0, .int .u64 (s 2).x1, .int .u64 (s 2).x2, .int .u64 (s 2).x3] : List Value)) _ (fun w0 hSw => (PP.out _ hSw).2.2.1) US.out rfl (hidden (i4S (s 2))).out) hHeld ?_
  simp only [Act.put, List.setIfInBounds_toArray, List.set_cons_zero, List.set_cons_succ]
  refine wpAnyH_take (i := 11) (oi := { dst := some 14, op := Op.build 52 #[(0, Operand.tmp 13)], type := 52, pos := "law.go:303", after := #[{ on := 10, ground := Ground.data }], guard := none }) (v := .agg #[.int .u64 (s 2).x0, .int .u64 (s 2).x1, .int .u64 (s 2).x2, .int .u64 (s 2).x3]) rfl (by kernel_rfl) (by kernel_rfl) (by kernel_rfl) (fun _ _ _ h => h) (Or.inl ⟨by rfl, fun w0 hSw => ?_⟩) hHeld ?_
  · (clear hSw; go_simp)
  simp only [Act.put, List.setIfInBounds_toArray, List.set_cons_zero, List.set_cons_succ]
  refine wpAnyH_take (i := 12) (oi := { dst := some 15, op := Op.fieldAddr 28 (Operand.tmp 1) 0, type := 0, pos := "law.go:303", after := #[], guard := none }) (v := .pointer (some ⟨B1, 0, none⟩)) rfl (by kernel_rfl) (by kernel_rfl) (by kernel_rfl) (fun _ _ _ h => h) (Or.inl ⟨by rfl, fun w0 hSw => ?_⟩) hHeld ?_
  · (clear hSw; go_simp)
  simp only [Act.put, List.setIfInBounds_toArray, List.set_cons_zero, List.set_cons_succ]
  refine wpAnyH_take (i := 13) (oi := { dst := some 16, op := Op.indexAddr 25 (Operand.tmp 15) (Operand.const (Value.int IntKind.i64 3)), type := 0, pos := "law.go:303", after := #[{ on := 12, ground := Ground.data }], guard := none }) (v := .pointer (some ⟨B1, 12, none⟩)) rfl (by kernel_rfl) (by kernel_rfl) (by kernel_rfl) (fun _ _ _ h => h) (Or.inl ⟨by rfl, fun w0 hSw => ?_⟩) hHeld ?_
  · (clear hSw; go_simp)
  simp only [Act.put, List.setIfInBounds_toArray, List.set_cons_zero, List.set_cons_succ]
  refine wpAnyH_take (i := 14) (oi := { dst := some 17, op := Op.load 24 (Operand.tmp 16), type := 24, pos := "law.go:303", after := #[{ on := 13, ground := Ground.data }], guard := none }) (v := .agg (([.int .u64 (s 3).x0, .int .u64 (s 3).x1, .int .u64 (s 3).x2, .int .u64 (s 3).x3] : List Value)).toArray) rfl (by kernel_rfl) (by kernel_rfl) (by kernel_rfl) (fun _ _ _ h => h) (yieldsIf_load_mid (by rfl) 24 _ rfl (B1) (12) rfl (([.int .u64 (s 3).x0, .int .u64 (s 3).x1, .int .u64 (s 3).x2, .int .u64 (s 3).x3] : List Value)) _ (fun w0 hSw => (PP.out _ hSw).2.2.2.1) US.out rfl (hidden (i4S (s 3))).out) hHeld ?_
  simp only [Act.put, List.setIfInBounds_toArray, List.set_cons_zero, List.set_cons_succ]
  refine wpAnyH_take (i := 15) (oi := { dst := some 18, op := Op.build 52 #[(0, Operand.tmp 17)], type := 52, pos := "law.go:303", after := #[{ on := 14, ground := Ground.data }], guard := none }) (v := .agg #[.int .u64 (s 3).x0, .int .u64 (s 3).x1, .int .u64 (s 3).x2, .int .u64 (s 3).x3]) rfl (by kernel_rfl) (by kernel_rfl) (by kernel_rfl) (fun _ _ _ h => h) (Or.inl ⟨by rfl, fun w0 hSw => ?_⟩) hHeld ?_
  · (clear hSw; go_simp)
  simp only [Act.put, List.setIfInBounds_toArray, List.set_cons_zero, List.set_cons_succ]
  refine wpAnyH_take (i := 16) (oi := { dst := some 19, op := Op.fieldAddr 28 (Operand.tmp 1) 1, type := 0, pos := "law.go:303", after := #[], guard := none }) (v := .pointer (some ⟨B1, 16, none⟩)) rfl (by kernel_rfl) (by kernel_rfl) (by kernel_rfl) (fun _ _ _ h => h) (Or.inl ⟨by rfl, fun w0 hSw => ?_⟩) hHeld ?_
  · (clear hSw; go_simp)
  simp only [Act.put, List.setIfInBounds_toArray, List.set_cons_zero, List.set_cons_succ]
  refine wpAnyH_take (i := 17) (oi := { dst := some 20, op := Op.load 24 (Operand.tmp 19), type := 24, pos := "law.go:303", after := #[{ on := 16, ground := Ground.data }], guard := none }) (v := .agg (([.int .u64 (s 4).x0, .int .u64 (s 4).x1, .int .u64 (s 4).x2, .int .u64 (s 4).x3] : List Value)).toArray) rfl (by kernel_rfl) (by kernel_rfl) (by kernel_rfl) (fun _ _ _ h => h) (yieldsIf_load_mid (by rfl) 24 _ rfl (B1) (16) rfl (([.int .u64 (s 4).x0, .int .u64 (s 4).x1, .int .u64 (s 4).x2, .int .u64 (s 4).x3] : List Value)) _ (fun w0 hSw => (PP.out _ hSw).2.2.2.2.1) US.out rfl (hidden (i4S (s 4))).out) hHeld ?_
  simp only [Act.put, List.setIfInBounds_toArray, List.set_cons_zero, List.set_cons_succ]
  refine wpAnyH_take (i := 18) (oi := { dst := some 21, op := Op.fieldAddr 28 (Operand.tmp 1) 2, type := 0, pos := "law.go:303", after := #[], guard := none }) (v := .pointer (some ⟨B1, 20, none⟩)) rfl (by kernel_rfl) (by kernel_rfl) (by kernel_rfl) (fun _ _ _ h => h) (Or.inl ⟨by rfl, fun w0 hSw => ?_⟩) hHeld ?_
  · (clear hSw; go_simp)
  simp only [Act.put, List.setIfInBounds_toArray, List.set_cons_zero, List.set_cons_succ]
  refine wpAnyH_take (i := 19) (oi := { dst := some 22, op := Op.load 24 (Operand.tmp 21), type := 24, pos := "law.go:303", after := #[{ on := 18, ground := Ground.data }], guard := none }) (v := .agg (([.int .u64 (s 5).x0, .int .u64 (s 5).x1, .int .u64 (s 5).x2, .int .u64 (s 5).x3] : List Value)).toArray) rfl (by kernel_rfl) (by kernel_rfl) (by kernel_rfl) (fun _ _ _ h => h) (yieldsIf_load_mid (by rfl) 24 _ rfl (B1) (20) rfl (([.int .u64 (s 5).x0, .int .u64 (s 5).x1, .int .u64 (s 5).x2, .int .u64 (s 5).x3] : List Value)) _ (fun w0 hSw => (PP.out _ hSw).2.2.2.2.2.1) US.out rfl (hidden (i4S (s 5))).out) hHeld ?_
  simp only [Act.put, List.setIfInBounds_toArray, List.set_cons_zero, List.set_cons_succ]
  refine wpAnyH_take (i := 20) (oi := { dst := some 23, op := Op.fieldAddr 28 (Operand.tmp 1) 3, type := 0, pos := "law.go:303", after := #[], guard := none }) (v := .pointer (some ⟨B1, 24, none⟩)) rfl (by kernel_rfl) (by kernel_rfl) (by kernel_rfl) (fun _ _ _ h => h) (Or.inl ⟨by rfl, fun w0 hSw => ?_⟩) hHeld ?_
  · (clear hSw; go_simp)
  simp only [Act.put, List.setIfInBounds_toArray, List.set_cons_zero, List.set_cons_succ]
  refine wpAnyH_take (i := 21) (oi := { dst := some 24, op := Op.load 24 (Operand.tmp 23), type := 24, pos := "law.go:303", after := #[{ on := 20, ground := Ground.data }], guard := none }) (v := .agg (([.int .u64 (s 6).x0, .int .u64 (s 6).x1, .int .u64 (s 6).x2, .int .u64 (s 6).x3] : List Value)).toArray) rfl (by kernel_rfl) (by kernel_rfl) (by kernel_rfl) (fun _ _ _ h => h) (yieldsIf_load_mid (by rfl) 24 _ rfl (B1) (24) rfl (([.int .u64 (s 6).x0, .int .u64 (s 6).x1, .int .u64 (s 6).x2, .int .u64 (s 6).x3] : List Value)) _ (fun w0 hSw => (PP.out _ hSw).2.2.2.2.2.2.1) US.out rfl (hidden (i4S (s 6))).out) hHeld ?_
  simp only [Act.put, List.setIfInBounds_toArray, List.set_cons_zero, List.set_cons_succ]
  refine wpAnyH_take (i := 22) (oi := { dst := some 25, op := Op.fieldAddr 28 (Operand.tmp 1) 4, type := 0, pos := "law.go:303", after := #[], guard := none }) (v := .pointer (some ⟨B1, 28, none⟩)) rfl (by kernel_rfl) (by kernel_rfl) (by kernel_rfl) (fun _ _ _ h => h) (Or.inl ⟨by rfl, fun w0 hSw => ?_⟩) hHeld ?_
  · (clear hSw; go_simp)
  simp only [Act.put, List.setIfInBounds_toArray, List.set_cons_zero, List.set_cons_succ]
  refine wpAnyH_take (i := 23) (oi := { dst := some 26, op := Op.load 26 (Operand.tmp 25), type := 26, pos := "law.go:303", after := #[{ on := 22, ground := Ground.data }], guard := none }) (v := .slice LP n cL) rfl (by kernel_rfl) (by kernel_rfl) (by kernel_rfl) (fun _ _ _ h => h) (Or.inl ⟨by rfl, fun w0 hSw => ?_⟩) hHeld ?_
  · (have q := H8.out _ hSw; obtain ⟨q1, q2⟩ := q; clear hSw; go_simp)
  simp only [Act.put, List.setIfInBounds_toArray, List.set_cons_zero, List.set_cons_succ]
  refine wpAnyH_take (i := 25) (oi := { dst := some 28, op := Op.fieldAddr 28 (Operand.tmp 1) 5, type := 0, pos := "law.go:303", after := #[], guard := none }) (v := .pointer (some ⟨B1, 29, none⟩)) rfl (by kernel_rfl) (by kernel_rfl) (by kernel_rfl) (fun _ _ _ h => h) (Or.inl ⟨by rfl, fun w0 hSw => ?_⟩) hHeld ?_
  · (clear hSw; go_simp)
  simp only [Act.put, List.setIfInBounds_toArray, List.set_cons_zero, List.set_cons_succ]
  refine wpAnyH_take (i := 26) (oi := { dst := some 29, op := Op.load 26 (Operand.tmp 28), type := 26, pos := "law.go:303", after := #[{ on := 25, ground := Ground.data }], guard := none }) (v := .slice RP m cR) rfl (by kernel_rfl) (by kernel_rfl) (by kernel_rfl) (fun _ _ _ h => h) (Or.inl ⟨by rfl, fun w0 hSw => ?_⟩) hHeld ?_
  · (have q := H8.out _ hSw; obtain ⟨q1, q2⟩ := q; clear hSw; go_simp)
  simp only [Act.put, List.setIfInBounds_toArray, List.set_cons_zero, List.set_cons_succ]
  refine wpAnyH_take (i := 28) (oi := { dst := some 31, op := Op.fieldAddr 28 (Operand.tmp 1) 6, type := 0, pos := "law.go:303", after := #[], guard := none }) (v := .pointer (some ⟨B1, 30, none⟩)) rfl (by kernel_rfl) (by kernel_rfl) (by kernel_rfl) (fun _ _ _ h => h) (Or.inl ⟨by rfl, fun w0 hSw => ?_⟩) hHeld ?_
  · (clear hSw; go_simp)
  simp only [Act.put, List.setIfInBounds_toArray, List.set_cons_zero, List.set_cons_succ]
  refine wpAnyH_take (i := 29) (oi := { dst := some 32, op := Op.load 24 (Operand.tmp 31), type := 24, pos := "law.go:303", after := #[{ on := 28, ground := Ground.data }], guard := none }) (v := .agg (([.int .u64 (s 7).x0, .int .u64 (s 7).x1, .int .u64 (s 7).x2, .int .u64 (s 7).x3] : List Value)).toArray) rfl (by kernel_rfl) (by kernel_rfl) (by kernel_rfl) (fun _ _ _ h => h) (yieldsIf_load_mid (by rfl) 24 _ rfl (B1) (30) rfl (([.int .u64 (s 7).x0, .int .u64 (s 7).x1, .int .u64 (s 7).x2, .int .u64 (s 7).x3] : List Value)) _ (fun w0 hSw => (PP.out _ hSw).2.2.2.2.2.2.2.1) US.out rfl (hidden (i4S (s 7))).out) hHeld ?_
  simp only [Act.put, List.setIfInBounds_toArray, List.set_cons_zero, List.set_cons_succ]
  refine wpAnyH_take (i := 30) (oi := { dst := some 33, op := Op.fieldAddr 28 (Operand.tmp 1) 7, type := 0, pos := "law.go:303", after := #[], guard := none }) (v := .pointer (some ⟨B1, 34, none⟩)) rfl (by kernel_rfl) (by kernel_rfl) (by kernel_rfl) (fun _ _ _ h => h) (Or.inl ⟨by rfl, fun w0 hSw => ?_⟩) hHeld ?_
  · (clear hSw; go_simp)
  simp only [Act.put, List.setIfInBounds_toArray, List.set_cons_zero, List.set_cons_succ]
  refine wpAnyH_take (i := 31) (oi := { dst := some 34, op := Op.load 24 (Operand.tmp 33), type := 24, pos := "law.go:303", after := #[{ on := 30, ground := Ground.data }], guard := none }) (v := .agg (([.int .u64 (s 8).x0, .int .u64 (s 8).x1, .int .u64 (s 8).x2, .int .u64 (s 8).x3] : List Value)).toArray) rfl (by kernel_rfl) (by kernel_rfl) (by kernel_rfl) (fun _ _ _ h => h) (yieldsIf_load_mid (by rfl) 24 _ rfl (B1) (34) rfl (([.int .u64 (s 8).x0, .int .u64 (s 8).x1, .int .u64 (s 8).x2, .int .u64 (s 8).x3] : List Value)) _ (fun w0 hSw => (PP.out _ hSw).2.2.2.2.2.2.2.2) US.out rfl (hidden (i4S (s 8))).out) hHeld ?_
  simp only [Act.put, List.setIfInBounds_toArray, List.set_cons_zero, List.set_cons_succ]
  refine wpAnyH_ready (rs := [24]) (by kernel_rfl) (by simp) ?_
  refine AllReadyH.cons (o := { dst := some 27, op := Op.call { callee := Callee.value (Operand.func 28), args := #[Operand.tmp 26], argTypes := #[26] }, type := 53, pos := "law.go:303", after := #[{ on := 23, ground := Ground.data }], guard := none }) rfl (fun K hK => ?_) AllReadyH.nil
  clear hHeld
  go_simp
  refine (C1.out _ BL.out).mono ?_
  rintro e wn0 ⟨v0, rfl, ho, hb⟩
  obtain ⟨P1, c1, rfl⟩ := own_shapeL ho
  have O1 := hidden (own_down ho BL.out.size)
  replace BL := hidden (bl_trans BL.out hb)
  have SN := hidden (SK.out _ BL.out)
  clear hb ho C1
  go_wp2_with fail
  refine hK.out _ _ SN.out (fun hH0 => ?_)
  clear hK K
  clear SN
  refine wpAnyH_ready (rs := [27]) (by kernel_rfl) (by simp) ?_
  refine AllReadyH.cons (o := { dst := some 30, op := Op.call { callee := Callee.value (Operand.func 28), args := #[Operand.tmp 29], argTypes := #[26] }, type := 53, pos := "law.go:303", after := #[{ on := 26, ground := Ground.data }, { on := 24, ground := Ground.chain }], guard := none }) rfl (fun K hK => ?_) AllReadyH.nil
  clear hH0
  go_simp
  refine (C2.out _ BL.out).mono ?_
  rintro e wn1 ⟨v1, rfl, ho, hb⟩
  obtain ⟨P2, c2, rfl⟩ := own_shapeL ho
  have O2 := hidden (own_down ho BL.out.size)
  replace O1 := hidden (OB.out _ _ _ _ _ O1.out hb)
  replace BL := hidden (bl_trans BL.out hb)
  have SN := hidden (SK.out _ BL.out)
  clear hb ho C2
  go_wp2_with fail
  refine hK.out _ _ SN.out (fun hH1 => ?_)
  clear hK K
  refine wpAnyH_take (i := 32) (oi := { dst := some 35, op := Op.build 55 #[(0, Operand.tmp 6), (1, Operand.tmp 10), (2, Operand.tmp 14), (3, Operand.tmp 18), (4, Operand.tmp 20), (5, Operand.tmp 22), (6, Operand.tmp 24), (7, Operand.tmp 27), (8, Operand.tmp 30), (9, Operand.tmp 32), (10, Operand.tmp 34)], type := 55, pos := "law.go:303", after := #[{ on := 3, ground := Ground.data }, { on := 7, ground := Ground.data }, { on := 11, ground := Ground.data }, { on := 15, ground := Ground.data }, { on := 17, ground := Ground.data }, { on := 19, ground := Ground.data }, { on := 21, ground := Ground.data }, { on := 24, ground := Ground.data }, { on := 27, ground := Ground.data }, { on := 29, ground := Ground.data }, { on := 31, ground := Ground.data }], guard := none }) (v := .agg (pc s (.slice P1 n c1) (.slice P2 m c2)).toArray) rfl (by kernel_rfl) (by kernel_rfl) (by kernel_rfl) (fun _ _ _ h => h) (Or.inl ⟨by rfl, fun w0 hSw => by kernel_rfl⟩) hH1 ?_
  simp only [Act.put, List.setIfInBounds_toArray, List.set_cons_zero, List.set_cons_succ]
  refine wpAnyH_ready (rs := [33]) (by kernel_rfl) (by simp) ?_
  refine AllReadyH.cons (o := { dst := none, op := Op.store 55 (Operand.tmp 2) (Operand.tmp 35), type := 0, pos := "law.go:303", after := #[{ on := 32, ground := Ground.data }, { on := 27, ground := Ground.chain }, { on := 0, ground := Ground.phase }, { on := 1, ground := Ground.phase }, { on := 2, ground := Ground.phase }, { on := 3, ground := Ground.phase }, { on := 4, ground := Ground.phase }, { on := 5, ground := Ground.phase }, { on := 6, ground := Ground.phase }, { on := 7, ground := Ground.phase }, { on := 8, ground := Ground.phase }, { on := 9, ground := Ground.phase }, { on := 10, ground := Ground.phase }, { on := 11, ground := Ground.phase }, { on := 12, ground := Ground.phase }, { on := 13, ground := Ground.phase }, { on := 14, ground := Ground.phase }, { on := 15, ground := Ground.phase }, { on := 16, ground := Ground.phase }, { on := 17, ground := Ground.phase }, { on := 18, ground := Ground.phase }, { on := 19, ground := Ground.phase }, { on := 20, ground := Ground.phase }, { on := 21, ground := Ground.phase }, { on := 22, ground := Ground.phase }, { on := 23, ground := Ground.phase }, { on := 24, ground := Ground.phase }, { on := 25, ground := Ground.phase }, { on := 26, ground := Ground.phase }, { on := 27, ground := Ground.phase }, { on := 28, ground := Ground.phase }, { on := 29, ground := Ground.phase }, { on := 30, ground := Ground.phase }, { on := 31, ground := Ground.phase }, { on := 32, ground := Ground.phase }], guard := none }) rfl (fun K hK => ?_) AllReadyH.nil
  clear hH1
  have T2 := hidden (show World.there _ B2 0 (pc s (.slice P1 n c1) (.slice P2 m c2)).toArray.size from there_keepM TH.out BL.out)
  have I2 := hidden (pc_i2 s (.slice P1 n c1) (.slice P2 m c2))
  have O2q := hidden (pc_one s P1 P2 n c1 m c2)
  refine ready_store rfl 55 _ _ rfl rfl B2 0 (pc s (.slice P1 n c1) (.slice P2 m c2)) (by rfl) (by rfl) T2.out I2.out O2q.out ?_
  have KT := kp_setCells B2 (pc s (.slice P1 n c1) (.slice P2 m c2)) 0 wn1
  have hx := HB.out
  have RX : (wn1.setCells B2 0 (pc s (.slice P1 n c1) (.slice P2 m c2))).rangeAt B1 0 P := range_kp SN.out KT hx.2.2.2
  have WB : Below w.heap.size w (wn1.setCells B2 0 (pc s (.slice P1 n c1) (.slice P2 m c2))) := Tr.below_trans (bl_trans hx.2.2.1 BL.out) (KT.below hx.1 (Nat.le_trans hx.2.2.1.size BL.out.size))
  have RN : (wn1.setCells B2 0 (pc s (.slice P1 n c1) (.slice P2 m c2))).rangeAt B2 0 (pc s (.slice P1 n c1) (.slice P2 m c2)) := World.rangeAt_setCells_same _ B2 0 _ (by simpa using T2.out)
  have L1 := fun k hk => (O1.out.lt k hk).1
  have L2 := fun k hk => (O2.out.lt k hk).1
  have V1 := KT.own O1.out (fun e => by have := L1 B2 e; have := hx.2.1; omega)
  have V2 := KT.own O2.out (fun e => by have := L2 B2 e; have := hx.2.1; omega)
  refine hK.out _ _ RX (fun hz => ?_)
  refine wpAnyH_done (by kernel_rfl) ?_ _
  refine NoPanic.normal ?_
  exact HQ.out _ _ _ _ _ _ _ _ _ _ _ _ _ _ _ _ _ _ _ _ _ _ _ _ _ _ _ _ _ _ _ _ _ P1 c1 P2 c2 _ WB RN (own_down V1 hx.2.2.1.size) (own_down V2 hx.2.2.1.size)
set_option maxRecDepth 100000 in
set_option maxHeartbeats 8000000 in
theorem line_any (s l r : Nat → E4) (LP RP : Option Addr) (n m cL cR : Nat) (w : World) (hn : n * 32 ≤ 140737488355328) (hm : m * 32 ≤ 140737488355328) (hL : Lm w LP n l) (hR : Lm w RP m r) :
    Calls Tryz.prog 7 #[.agg (pc s (.slice LP n cL) (.slice RP m cR)).toArray] w fun e w' => ∃ P1 c1 P2 c2, e = .returned (.agg (pc s (.slice P1 n c1) (.slice P2 m c2)).toArray) ∧ w'.ownsRow w.heap.size 52 4 (.slice P1 n c1) n (svs n l) ∧ w'.ownsRow w.heap.size 52 4 (.slice P2 m c2) m (svs m r) ∧ Below w.heap.size w w' := by
  obtain ⟨Q1, hQ1⟩ : ∃ P, P = pc s (.slice LP n cL) (.slice RP m cR) := ⟨_, rfl⟩
  rw [← hQ1]
  have M0 := ((Mw.start w).new Q1 28).new (pcv zero4 zero4 zero4 zero4 zero4 zero4 zero4 zero4 zero4 (.slice none 0 0) (.slice none 0 0)) 55
  simp only [World.size_alloc] at M0
  have Y1 : ((w.alloc (.cells Q1.toArray 28)).alloc (.cells (pcv zero4 zero4 zero4 zero4 zero4 zero4 zero4 zero4 zero4 (.slice none 0 0) (.slice none 0 0)).toArray 55)).rangeAt w.heap.size 0 (pc s (.slice LP n cL) (.slice RP m cR)) := by rw [← hQ1]; exact (M0.r (w.heap.size, Q1) (by simp)).1
  have Y2 := (M0.r (w.heap.size + 1, pcv zero4 zero4 zero4 zero4 zero4 zero4 zero4 zero4 zero4 (.slice none 0 0) (.slice none 0 0)) (by simp)).2
  have C1 := hidden (fun x (h : Below ((w.alloc (.cells Q1.toArray 28)).alloc (.cells (pcv zero4 zero4 zero4 zero4 zero4 zero4 zero4 zero4 zero4 (.slice none 0 0) (.slice none 0 0)).toArray 55)).heap.size ((w.alloc (.cells Q1.toArray 28)).alloc (.cells (pcv zero4 zero4 zero4 zero4 zero4 zero4 zero4 zero4 zero4 (.slice none 0 0) (.slice none 0 0)).toArray 55)) x) => lines_any LP n cL l x hn (hL.keep (bl_trans M0.bel h)))
  have C2 := hidden (fun x (h : Below ((w.alloc (.cells Q1.toArray 28)).alloc (.cells (pcv zero4 zero4 zero4 zero4 zero4 zero4 zero4 zero4 zero4 (.slice none 0 0) (.slice none 0 0)).toArray 55)).heap.size ((w.alloc (.cells Q1.toArray 28)).alloc (.cells (pcv zero4 zero4 zero4 zero4 zero4 zero4 zero4 zero4 zero4 (.slice none 0 0) (.slice none 0 0)).toArray 55)) x) => lines_any RP m cR r x hm (hR.keep (bl_trans M0.bel h)))
  have HY := hidden (And.intro Y1 Y2)
  have MB := hidden M0.bel
  have I1 := hidden (fun P1 c1 P2 c2 => pc_i s (.slice P1 n c1) (.slice P2 m c2))
  have UP : Hid (Tryz.prog.underlying 55 = _) := hidden Tryz.underlying55
  generalize hW : (w.alloc (.cells Q1.toArray 28)).alloc (.cells (pcv zero4 zero4 zero4 zero4 zero4 zero4 zero4 zero4 zero4 (.slice none 0 0) (.slice none 0 0)).toArray 55) = W at C1 C2 HY MB
  clear hn hm hL hR M0 Y1 Y2 hQ1
  go_enter Tryz.func7, Tryz.ntmps7
  go_upto_region 1 with (first | refine wpList_allocP rfl rfl ?_)
  simp only [World.size_alloc, Act.put, List.setIfInBounds_toArray, List.set_cons_zero, List.set_cons_succ]
  rw [hW]
  clear hW
  refine ln1 _ w.heap.size (w.heap.size + 1) s l r LP RP n m cL cR _ _ _ _ _ _ _ _ _ _ _ _ _ _ _ _ _ _ _ _ _ _ _ _ _ _ _ _ _ _ _ _ _ _ w W HY.out.1 HY.out.2.1 (by omega) HY.out.2.2.2 MB.out (by omega) C1 C2 (hidden (fun _ _ _ _ _ _ _ _ _ _ _ _ _ _ _ _ _ _ _ _ _ _ _ _ _ _ _ _ _ _ _ _ _ P1 c1 P2 c2 wz hb hr o1 o2 => ?_))
  have OO := hidden (And.intro hb (And.intro o1 o2))
  have LD := hidden (run_loadVar_mid wz (w.heap.size + 1) 0 55 (pc s (.slice P1 n c1) (.slice P2 m c2)) _ hr UP.out rfl (I1.out P1 c1 P2 c2))
  clear hb hr o1 o2
  go_wp2_with fail
  refine bodyPost_ret (v := .agg (pc s (.slice P1 n c1) (.slice P2 m c2)).toArray) (results_cellM Tryz.results7 _ _ _ _ _ (by rfl) LD.out) rfl ⟨P1, c1, P2, c2, rfl, OO.out.2.1, OO.out.2.2, OO.out.1⟩
end Go.Proofs.YtkfkmndhbfeagaaGreatDoor
namespace Go.Proofs.YtkfkmndhbfeagaaGreatDoor
open Go.RowKit
set_option linter.unusedVariables false
/-- the thing in place j of a proof of k rounds -/
def st (k : Nat) (s l r : Nat → E4) (j : Nat) : E4 := if j < 7 then s j else if j < 7 + 2 * k then (if (j - 7) % 2 = 0 then l ((j - 7) / 2) else r ((j - 7) / 2)) else s (j - 2 * k)
theorem ef_congr {n : Nat} {f g : Nat → E4} (h : ∀ j, j < n → eb (f j).n = eb (g j).n) : ef n f = ef n g := by
  induction n with
  | zero => rfl
  | succ n ih => rw [ef_succ, ef_succ, ih (fun j hj => h j (by omega)), h n (by omega)]
theorem ef_rb (k : Nat) (l r g : Nat → E4) (hl : ∀ i, i < k → g (2 * i) = l i) (hr : ∀ i, i < k → g (2 * i + 1) = r i) : ef (2 * k) g = rb k l r := by
  induction k with
  | zero => rfl
  | succ k ih =>
    rw [show 2 * (k + 1) = 2 * k + 1 + 1 by omega, ef_succ, ef_succ, ih (fun i hi => hl i (by omega)) (fun i hi => hr i (by omega)), rb_succ, hl k (by omega), hr k (by omega), List.append_assoc]
theorem pe_ef (k : Nat) (s l r : Nat → E4) : pe k s l r = ef (9 + 2 * k) (st k s l r) := by
  have h1 : ef 7 (st k s l r) = ef 7 s := ef_congr (fun j hj => by unfold st; rw [if_pos hj])
  have h2 : ef (2 * k) (fun j => st k s l r (7 + j)) = rb k l r := by
    refine ef_rb k l r _ (fun i hi => ?_) (fun i hi => ?_)
    · unfold st
      rw [if_neg (by omega), if_pos (by omega), if_pos (by omega), show (7 + 2 * i - 7) / 2 = i by omega]
    · unfold st
      rw [if_neg (by omega), if_pos (by omega), if_neg (by omega), show (7 + (2 * i + 1) - 7) / 2 = i by omega]
  have h3 : ef 2 (fun j => st k s l r (7 + 2 * k + j)) = eb (s 7).n ++ eb (s 8).n := by
    have a : st k s l r (7 + 2 * k + 0) = s 7 := by unfold st; rw [if_neg (by omega), if_neg (by omega), show 7 + 2 * k + 0 - 2 * k = 7 by omega]
    have b : st k s l r (7 + 2 * k + 1) = s 8 := by unfold st; rw [if_neg (by omega), if_neg (by omega), show 7 + 2 * k + 1 - 2 * k = 8 by omega]
    rw [ef_succ, ef_succ, ef_zero, List.nil_append, a, b]
  rw [show 9 + 2 * k = 7 + 2 * k + 2 by omega, ef_add, ef_add, h1, h2, h3]
  rfl
theorem ck_ef (m : Nat) (g : Nat → E4) (j : Nat) (hj : j < m) : ck (ef m g) j = eb (g j).n := by
  have h := ef_add j (m - j) g
  rw [show j + (m - j) = m by omega] at h
  have h2 := ef_add 1 (m - j - 1) (fun k => g (j + k))
  rw [show 1 + (m - j - 1) = m - j by omega] at h2
  unfold ck
  rw [h, h2, show ef 1 (fun k => g (j + k)) = eb (g j).n from by rw [ef_succ, ef_zero]; rfl]
  rw [List.drop_left' (by rw [ef_len]), List.take_left' (by rw [eb_len])]
/-- what the bytes stand for -/
def gv (b : List UInt8) (j : Nat) : E4 := lst (dn (ck b j))
theorem eb_lst (n : Int) : eb (lst n).n = eb n := eb_congr (by rw [lst_n, emod_emod_L])
theorem ck_succ {b : List UInt8} {m j : Nat} (hl : b.length = 32 * m) (hj : j < m) : b.drop (32 * j) = ck b j ++ b.drop (32 * (j + 1)) := by
  unfold ck
  rw [show 32 * (j + 1) = 32 * j + 32 by omega, ← List.drop_drop, List.take_append_drop]
theorem ef_gv_aux (b : List UInt8) (m : Nat) (hl : b.length = 32 * m) (hg : ∀ j, j < m → dn (ck b j) < Sm.L) : ∀ i, i ≤ m → ef i (gv b) ++ b.drop (32 * i) = b
  | 0, _ => by rw [ef_zero]; rfl
  | i + 1, hi => by
    have ih := ef_gv_aux b m hl hg i (by omega)
    rw [ck_succ hl (by omega : i < m)] at ih
    rw [ef_succ, List.append_assoc, show eb (gv b i).n = ck b i from by unfold gv; rw [eb_lst, eb_dn (ck_len hl (by omega)) (hg i (by omega))]]
    exact ih
theorem ef_gv (b : List UInt8) (m : Nat) (hl : b.length = 32 * m) (hg : ∀ j, j < m → dn (ck b j) < Sm.L) : ef m (gv b) = b := by
  have := ef_gv_aux b m hl hg m (Nat.le_refl _)
  rwa [← hl, List.drop_length, List.append_nil] at this
/-- the parts of a proof of bytes -/
def gs (b : List UInt8) (k j : Nat) : E4 := if j < 7 then gv b j else gv b (j + 2 * k)
def gl (b : List UInt8) (j : Nat) : E4 := gv b (7 + 2 * j)
def gr (b : List UInt8) (j : Nat) : E4 := gv b (8 + 2 * j)
theorem st_g (b : List UInt8) (k j : Nat) (hj : j < 9 + 2 * k) : st k (gs b k) (gl b) (gr b) j = gv b j := by
  unfold st gs gl gr
  by_cases h : j < 7
  · rw [if_pos h, if_pos h]
  · rw [if_neg h]
    by_cases h2 : j < 7 + 2 * k
    · rw [if_pos h2]
      by_cases h3 : (j - 7) % 2 = 0
      · rw [if_pos h3, show 7 + 2 * ((j - 7) / 2) = j by omega]
      · rw [if_neg h3, show 8 + 2 * ((j - 7) / 2) = j by omega]
    · rw [if_neg h2, if_neg (by omega), show j - 2 * k + 2 * k = j by omega]
theorem pe_g (b : List UInt8) (k : Nat) (hl : b.length = 32 * (9 + 2 * k)) (hg : ∀ j, j < 9 + 2 * k → dn (ck b j) < Sm.L) : pe k (gs b k) (gl b) (gr b) = b := by
  rw [pe_ef, ef_congr (g := gv b) (fun j hj => by rw [st_g b k j hj])]
  exact ef_gv b _ hl hg
/-- places of parts -/
theorem all_st {k : Nat} {s l r s' l' r' : Nat → E4} : ((∀ j, j < 9 → lst (s j).n = lst (s' j).n) ∧ (∀ j, j < k → lst (l j).n = lst (l' j).n) ∧ ∀ j, j < k → lst (r j).n = lst (r' j).n) ↔ ∀ j, j < 9 + 2 * k → lst (st k s l r j).n = lst (st k s' l' r' j).n := by
  constructor
  · rintro ⟨h1, h2, h3⟩ j hj
    unfold st
    by_cases a : j < 7
    · rw [if_pos a, if_pos a]; exact h1 j (by omega)
    · rw [if_neg a, if_neg a]
      by_cases b : j < 7 + 2 * k
      · rw [if_pos b, if_pos b]
        by_cases c : (j - 7) % 2 = 0
        · rw [if_pos c, if_pos c]; exact h2 _ (by omega)
        · rw [if_neg c, if_neg c]; exact h3 _ (by omega)
      · rw [if_neg b, if_neg b]; exact h1 _ (by omega)
  · intro h
    refine ⟨fun j hj => ?_, fun j hj => ?_, fun j hj => ?_⟩
    · by_cases a : j < 7
      · have := h j (by omega)
        unfold st at this
        rwa [if_pos a, if_pos a] at this
      · have := h (j + 2 * k) (by omega)
        unfold st at this
        rwa [if_neg (by omega), if_neg (by omega), if_neg (by omega), if_neg (by omega), show j + 2 * k - 2 * k = j by omega] at this
    · have := h (7 + 2 * j) (by omega)
      unfold st at this
      rwa [if_neg (by omega), if_pos (by omega), if_pos (by omega), if_neg (by omega), if_pos (by omega), if_pos (by omega), show (7 + 2 * j - 7) / 2 = j by omega] at this
    · have := h (8 + 2 * j) (by omega)
      unfold st at this
      rwa [if_neg (by omega), if_pos (by omega), if_neg (by omega), if_neg (by omega), if_pos (by omega), if_neg (by omega), show (8 + 2 * j - 7) / 2 = j by omega] at this
theorem gv_lst (b : List UInt8) (j : Nat) : lst (gv b j).n = gv b j := by unfold gv; exact lst_n' _
theorem gv_ok (b : List UInt8) (j : Nat) : (gv b j).ok := lst_ok _
/-- what is written is read back -/
theorem back_st (k : Nat) (s l r : Nat → E4) (j : Nat) (hj : j < 9 + 2 * k) : dn (ck (pe k s l r) j) < Sm.L ∧ gv (pe k s l r) j = lst (st k s l r j).n := by
  unfold gv
  rw [pe_ef, ck_ef _ _ _ hj, dn_eb]
  exact ⟨(mod_bd _).2, lst_congr (emod_emod_L _)⟩
/-- unlike bytes are unlike proofs -/
theorem same_bytes (b c : List UInt8) (k : Nat) (hb : b.length = 32 * (9 + 2 * k)) (hc : c.length = 32 * (9 + 2 * k)) (gb : ∀ j, j < 9 + 2 * k → dn (ck b j) < Sm.L) (gc : ∀ j, j < 9 + 2 * k → dn (ck c j) < Sm.L) :
    b = c ↔ ∀ j, j < 9 + 2 * k → lst (st k (gs b k) (gl b) (gr b) j).n = lst (st k (gs c k) (gl c) (gr c) j).n := by
  constructor
  · rintro rfl; intro j hj; rfl
  · intro h
    rw [← ef_gv b _ hb gb, ← ef_gv c _ hc gc]
    exact ef_congr (fun j hj => by
      have := h j hj
      rw [st_g b k j hj, st_g c k j hj, gv_lst, gv_lst] at this
      rw [this])
end Go.Proofs.YtkfkmndhbfeagaaGreatDoor
namespace Go.Proofs.YtkfkmndhbfeagaaGreatDoor
open Go.RowKit
set_option linter.unusedVariables false
/-- bytes that are a proof -/
def DOk (l : List UInt8) (k : Nat) : Prop := k ≤ 10 ∧ l.length = 32 * (9 + 2 * k) ∧ ∀ j, j < 9 + 2 * k → dn (ck l j) < Sm.L
theorem Rl.congr {w : World} {b o n : Nat} {f g : Nat → E4} (h : Rl w b o n f) (e : ∀ j, j < n → f j = g j) : Rl w b o n g :=
  ⟨fun k hk => by rw [← e k hk]; exact h.c0 k hk, fun k hk => by rw [← e k hk]; exact h.c1 k hk, fun k hk => by rw [← e k hk]; exact h.c2 k hk, fun k hk => by rw [← e k hk]; exact h.c3 k hk⟩
theorem dec_all (P : Option Addr) (c : Nat) (l : List UInt8) (w : World) (hT : Tb w) (hB : Tr.By w P c l) (hl : l.length ≤ 140737488355328) :
    Calls Tryz.prog 8 #[.slice P l.length c] w fun e w' => ∃ (s : Nat → E4) (P1 : Option Addr) (n1 c1 : Nat) (P2 : Option Addr) (n2 c2 : Nat) (er : Int), e = .returned (.tuple #[.agg (pc s (.slice P1 n1 c1) (.slice P2 n2 c2)).toArray, .int .i64 er]) ∧ Below w.heap.size w w' ∧
      ((er = 0 ∧ ∃ k, DOk l k ∧ n1 = k ∧ n2 = k ∧ s = gs l k ∧ Lm w' P1 k (gl l) ∧ Lm w' P2 k (gr l) ∧ (∀ a, P1 = some a → a.block < w'.heap.size) ∧ (∀ a, P2 = some a → a.block < w'.heap.size)) ∨ (er ≠ 0 ∧ ∀ k, ¬ DOk l k)) := by
  by_cases h : ∃ k : Nat, k ≤ 10 ∧ l.length = 32 * (9 + 2 * k)
  · obtain ⟨k, hk, hlen⟩ := h
    refine (dec_any P c k l w hT hB hk hlen).mono fun e w' ⟨v, er, he, hb, hc⟩ => ?_
    rcases hc with ⟨h0, hg, bL, bR, hv, r1, r2, l1, l2, -⟩ | ⟨h3, ⟨j, hj, hbad⟩, hv⟩
    · have hs : ∀ j, j < 9 + 2 * k → sv l j = gv l j := by
        rcases ts_inv l _ hlen (9 + 2 * k) (Nat.le_refl _) with ⟨_, _, _, h4⟩ | ⟨_, j, hj, hbad⟩
        · exact h4
        · exact absurd (hg j hj) hbad
      refine ⟨gs l k, some ⟨bL, 0, none⟩, k, k, some ⟨bR, 0, none⟩, k, k, er, ?_, hb, .inl ⟨h0, k, ⟨hk, hlen, hg⟩, rfl, rfl, rfl, ⟨bL, 0, fun _ => rfl, fun _ => r1.congr (fun j hj => ?_)⟩, ⟨bR, 0, fun _ => rfl, fun _ => r2.congr (fun j hj => ?_)⟩, fun a ha => by obtain rfl := Option.some.inj ha; exact l1, fun a ha => by obtain rfl := Option.some.inj ha; exact l2⟩⟩
      · rw [he, hv, pcv_pc, hs 0 (by omega), hs 1 (by omega), hs 2 (by omega), hs 3 (by omega), hs 4 (by omega), hs 5 (by omega), hs 6 (by omega), hs (7 + 2 * k) (by omega), hs (8 + 2 * k) (by omega)]
        have g : ∀ j, j < 7 → gs l k j = gv l j := fun j hj => by unfold gs; rw [if_pos hj]
        have g7 : gs l k 7 = gv l (7 + 2 * k) := by unfold gs; rw [if_neg (by omega)]
        have g8 : gs l k 8 = gv l (8 + 2 * k) := by unfold gs; rw [if_neg (by omega)]
        rw [g 0 (by omega), g 1 (by omega), g 2 (by omega), g 3 (by omega), g 4 (by omega), g 5 (by omega), g 6 (by omega), g7, g8]
      · unfold fL gl; rw [if_pos hj, hs _ (by omega)]
      · unfold fR gr; rw [if_pos hj, hs _ (by omega)]
    · refine ⟨fun _ => zero4, none, 0, 0, none, 0, 0, er, by rw [he, hv, pcv_pc], hb, .inr ⟨by omega, fun k' hk' => ?_⟩⟩
      obtain rfl : k' = k := by have := hk'.2.1; omega
      exact hbad (hk'.2.2 j hj)
  · refine (dec_no P c l w (by omega) (fun k hk he => h ⟨k, hk, he⟩)).mono fun e w' ⟨he, hb⟩ => ?_
    exact ⟨fun _ => zero4, none, 0, 0, none, 0, 0, 2, by rw [he, pcv_pc], hb, .inr ⟨by omega, fun k hk => h ⟨k, hk.1, hk.2.1⟩⟩⟩
theorem rl_cells {w : World} {b k : Nat} {f : Nat → E4} (h : Rl w b 0 k f) : ∀ j v, (svs k f)[j]? = some v → w.cell? ⟨b, j, none⟩ = some v := by
  intro j v hv
  have hj : j < k * 4 := by have := (List.getElem?_eq_some_iff.1 hv).1; rwa [svs_len] at this
  obtain ⟨q, d, rfl, hd⟩ : ∃ q d, j = q * 4 + d ∧ d < 4 := ⟨j / 4, j % 4, by omega, by omega⟩
  obtain ⟨ys, e1, _⟩ := svs_split f q (f q) k (by omega)
  have e2 : (svs k f)[q * 4 + d]? = ([.int .u64 (f q).x0, .int .u64 (f q).x1, .int .u64 (f q).x2, .int .u64 (f q).x3] ++ ys : List Value)[d]? := by
    rw [e1, List.getElem?_append_right (by rw [svs_len]; omega), svs_len, show q * 4 + d - q * 4 = d by omega]
  rw [e2] at hv
  match d, hd with
  | 0, _ => have := h.c0 q (by omega); rw [Nat.zero_add] at this; rw [← hv]; exact this
  | 1, _ => have := h.c1 q (by omega); rw [Nat.zero_add] at this; rw [← hv]; exact this
  | 2, _ => have := h.c2 q (by omega); rw [Nat.zero_add] at this; rw [← hv]; exact this
  | 3, _ => have := h.c3 q (by omega); rw [Nat.zero_add] at this; rw [← hv]; exact this
/-- DecodeProof's lists are one's own -/
theorem dec_own (P : Option Addr) (c : Nat) (l : List UInt8) (w : World) (hT : Tb w) (hB : Tr.By w P c l) (hl : l.length ≤ 140737488355328) :
    Calls Tryz.prog 8 #[.slice P l.length c] w fun e w' => ∃ (s f1 f2 : Nat → E4) (V1 V2 : Value) (n : Nat) (er : Int), e = .returned (.tuple #[.agg (pc s V1 V2).toArray, .int .i64 er]) ∧ Below w.heap.size w w' ∧ w'.ownsRow w.heap.size 52 4 V1 n (svs n f1) ∧ w'.ownsRow w.heap.size 52 4 V2 n (svs n f2) ∧ (∀ k, V1.ownBlock = some k → V2.ownBlock ≠ some k) ∧ n ≤ 10 ∧
      ((er = 0 ∧ DOk l n) ∨ (er ≠ 0 ∧ n = 0 ∧ ∀ k, ¬ DOk l k)) := by
  by_cases h : ∃ k : Nat, k ≤ 10 ∧ l.length = 32 * (9 + 2 * k)
  · obtain ⟨k, hk, hlen⟩ := h
    refine (dec_any P c k l w hT hB hk hlen).mono fun e w' ⟨v, er, he, hb, hc⟩ => ?_
    rcases hc with ⟨h0, hg, bL, bR, hv, r1, r2, l1, l2, s1, s2, hne, b1, b2⟩ | ⟨h3, ⟨j, hj, hbad⟩, hv⟩
    · obtain ⟨s, hs⟩ : ∃ s : Nat → E4, s = fun j => if j < 7 then sv l j else sv l (j + 2 * k) := ⟨_, rfl⟩
      have g : ∀ j, j < 7 → s j = sv l j := fun j hj => by rw [hs]; exact if_pos hj
      have g7 : s 7 = sv l (7 + 2 * k) := by rw [hs]; exact if_neg (by omega)
      have g8 : s 8 = sv l (8 + 2 * k) := by rw [hs]; exact if_neg (by omega)
      refine ⟨s, _, _, .slice (some ⟨bL, 0, none⟩) k k, .slice (some ⟨bR, 0, none⟩) k k, k, er, by rw [he, hv, pcv_pc, g 0 (by omega), g 1 (by omega), g 2 (by omega), g 3 (by omega), g 4 (by omega), g 5 (by omega), g 6 (by omega), g7, g8], hb, shp_own s1 (rl_cells r1) b1 (by omega), shp_own s2 (rl_cells r2) b2 (by omega), ?_, hk, .inl ⟨h0, hk, hlen, hg⟩⟩
      intro x h1 h2
      simp only [Value.ownBlock, Option.some.injEq] at h1 h2
      exact hne (h1.trans h2.symm)
    · refine ⟨fun _ => zero4, fun _ => zero4, fun _ => zero4, .slice none 0 0, .slice none 0 0, 0, er, by rw [he, hv, pcv_pc], hb, World.ownsRow_nil _ _ _ _, World.ownsRow_nil _ _ _ _, fun x h1 => by simp [Value.ownBlock] at h1, by omega, .inr ⟨by omega, rfl, fun k' hk' => ?_⟩⟩
      obtain rfl : k' = k := by have := hk'.2.1; omega
      exact hbad (hk'.2.2 j hj)
  · refine (dec_no P c l w (by omega) (fun k hk he => h ⟨k, hk, he⟩)).mono fun e w' ⟨he, hb⟩ => ?_
    exact ⟨fun _ => zero4, fun _ => zero4, fun _ => zero4, .slice none 0 0, .slice none 0 0, 0, 2, by rw [he, pcv_pc], hb, World.ownsRow_nil _ _ _ _, World.ownsRow_nil _ _ _ _, fun x h1 => by simp [Value.ownBlock] at h1, by omega, .inr ⟨by omega, rfl, fun k hk => h ⟨k, hk.1, hk.2.1⟩⟩⟩
theorem gs_ok (l : List UInt8) (k j : Nat) : (gs l k j).ok := by unfold gs; split <;> exact gv_ok _ _
end Go.Proofs.YtkfkmndhbfeagaaGreatDoor
