import Derived.Test.YtkoilaoogphgfaaGreatDoorTk
import Derived.Test.YtkoilaoogphgfaaGreatDoorArf
import Derived.Test.YtkoilaoogphgfaaGreatDoorTz
namespace Go.Proofs.YtkoilaoogphgfaaGreatDoor
open Go.RowKit
set_option linter.unusedVariables false
set_option linter.unusedSimpArgs false
open Cm (Wr Tm co bf lf ins Eqm)
namespace Ci
set_option maxRecDepth 100000
set_option maxHeartbeats 16000000
def bf8 (bs : List UInt8) (j : Nat) : Int := ((bs.getD j 0).toNat : Int)
theorem by_bs {w : World} {P : Option Addr} {c : Nat} {bs : List UInt8} (h : Tr.By w P c bs) (h0 : 0 < bs.length) : ∃ sb so, P = some ⟨sb, so, none⟩ ∧ Bs w sb so bs.length (bf8 bs) := by
 obtain ⟨b, o, rfl⟩ := h.none' h0
 exact ⟨b, o, rfl, fun j hj => h.at j hj, fun j hj => ⟨by unfold bf8; omega, by unfold bf8; have := (bs.getD j 0).toNat_lt; omega⟩⟩
def Sk (w : World) (N : Nat) (g : Nat → E4) (V : Value) : Prop := (N = 0 ∧ V = .slice none 0 0) ∨ (∃ b o c : Nat, 0 < N ∧ V = .slice (some ⟨b, o, none⟩) N c ∧ Rlo w b o N g)
theorem Sk.keep {w w' : World} {N : Nat} {g : Nat → E4} {V : Value} (h : Sk w N g V) (hb : Below w.heap.size w w') : Sk w' N g V := by
 rcases h with h | ⟨b, o, c, h1, h2, h3⟩
 ·exact .inl h
 ·exact .inr ⟨b, o, c, h1, h2, h3.keep hb⟩
theorem Sk.one {w : World} {N : Nat} {g : Nat → E4} {V : Value} (h : Sk w N g V) : ∃ P c, V = .slice P N c := by
 rcases h with ⟨rfl, rfl⟩ | ⟨b, o, c, _, rfl, _⟩
 ·exact ⟨_, _, rfl⟩
 ·exact ⟨_, _, rfl⟩
theorem sameNums_sk {w : World} {N : Nat} {g : Nat → E4} {V1 V2 : Value} (hN : N ≤ 1024) (h1 : Sk w N g V1) (h2 : Sk w N g V2) : Calls Tryz.prog 10 #[V1, V2] w fun e w' => e = .returned (.bool true) ∧ Below w.heap.size w w' := by
 rcases h1 with ⟨rfl, rfl⟩ | ⟨b1, o1, c1, k1, rfl, r1⟩
 ·rcases h2 with ⟨_, rfl⟩ | ⟨b2, o2, c2, k2, rfl, r2⟩
  ·exact sameNums_zero none none 0 0 w
  ·omega
 ·rcases h2 with ⟨rfl, rfl⟩ | ⟨b2, o2, c2, k2, rfl, r2⟩
  ·omega
  ·exact sameNums_in b1 o1 b2 o2 N c1 c2 g w hN r1 r2
theorem rws_all {w : World} {b n : Nat} {g : Nat → E4} (h : Rws w b n g) : Rlo w b 0 n g :=
 ⟨fun k hk => by rw [Nat.zero_add]; exact h.c0 k hk, fun k hk => by rw [Nat.zero_add]; exact h.c1 k hk, fun k hk => by rw [Nat.zero_add]; exact h.c2 k hk, fun k hk => by rw [Nat.zero_add]; exact h.c3 k hk⟩
def RtP (g : Nat → E4) (E : Int) (N : Nat) (g1 g2 : Nat → E4) (x : World) (e : Ending) (w' : World) : Prop := ∃ (P1 P2 : Option Addr) (c1 c2 : Nat), e = .returned (.tuple #[.agg (t34 g (.slice P1 N c1) (.slice P2 N c2)).toArray, .int .i64 E]) ∧ Sk w' N g1 (.slice P1 N c1) ∧ Sk w' N g2 (.slice P2 N c2) ∧ Below x.heap.size x w'
theorem tapes_both (Kg : Nat) (hK : Kg ≤ 1024) (bs : List UInt8) (hL : bs.length ≤ 140737488351232) :
  ∃ (g : Nat → E4) (E : Int) (N : Nat) (g1 g2 : Nat → E4), N ≤ 1024 ∧ (∀ (x : World) (base t m : Nat) (v : Value) (vs : List Value) (Q : List (List Tm)) (P : Option Addr) (c : Nat), Sy base x t m Kg v vs Q → Q.length ≤ 4096 → Tb x → Tr.By x P c bs → bs.length ≤ c → Calls Tryz.prog 5 #[.pointer (some ⟨t, 0, none⟩), .slice P bs.length c] x (RtP g E N g1 g2 x)) ∧
   (∀ (x : World) (base r m : Nat) (v : Value) (vs : List Value) (Q : List (List Tm)) (P : Option Addr) (c : Nat), Dy base x r m Kg v vs Q → Tr.By x P c bs → Calls Tryz.prog 7 #[.pointer (some ⟨r, 0, none⟩), .slice P bs.length c] x (RtP g E N g1 g2 x)) := by
 have hz := sz_le Kg
 have hp := sz_pos Kg
 by_cases hs : bs.length < 64 * (2 * sz Kg + 8)
 ·refine ⟨fun _ => zero4, 5, 0, fun _ => zero4, fun _ => zero4, by omega, fun x base t m v vs Q P c sy hq hT hB hc => ?_, fun x base r m v vs Q P c dy hB => ?_⟩
  ·exact (readTape_short _ (sz Kg) (rd Kg) hz P bs.length c hs x (fun y hy => subjectOf_any (sy.keep hy) hq hK)).mono fun e w' ⟨he, hb⟩ => ⟨none, none, 0, 0, he, .inl ⟨rfl, rfl⟩, .inl ⟨rfl, rfl⟩, hb⟩
  ·exact (dReadTape_short _ (sz Kg) hz P bs.length c hs x (fun y hy => dSize_any (dy.keep hy) hK)).mono fun e w' ⟨he, hb⟩ => ⟨none, none, 0, 0, he, .inl ⟨rfl, rfl⟩, .inl ⟨rfl, rfl⟩, hb⟩
 ·refine ⟨tp (bf8 bs), 0, sz Kg, fun k => tp (bf8 bs) (8 + k), fun k => tp (bf8 bs) (sz Kg + 8 + k), hz, fun x base t m v vs Q P c sy hq hT hB hc => ?_, fun x base r m v vs Q P c dy hB => ?_⟩
  ·obtain ⟨sb, so, rfl, hS⟩ := by_bs hB (by omega)
   refine (readTape_in _ (sz Kg) (rd Kg) hz hp sb so bs.length c (bf8 bs) (by omega) (by omega) hc x hT hS (fun y hy => subjectOf_any (sy.keep hy) hq hK)).mono ?_
   rintro e w' ⟨q1, d1, q2, d2, he, _, _, r1, r2, hb⟩
   exact ⟨_, _, _, _, he, .inr ⟨q1, 0, d1, hp, rfl, rws_all r1⟩, .inr ⟨q2, 0, d2, hp, rfl, rws_all r2⟩, hb⟩
  ·obtain ⟨sb, so, rfl, hS⟩ := by_bs hB (by omega)
   refine (dReadTape_in _ (sz Kg) hz hp sb so bs.length c (bf8 bs) (by omega) (by omega) x hS (fun y hy => dSize_any (dy.keep hy) hK)).mono ?_
   rintro e w' ⟨b, c', he, _, r1, hb⟩
   exact ⟨_, _, _, _, he, .inr ⟨b, 32, c' - 8, hp, rfl, rws_part r1 8 (sz Kg) (by omega)⟩, .inr ⟨b, (sz Kg + 8) * 4, _, hp, rfl, rws_part r1 (sz Kg + 8) (sz Kg) (by omega)⟩, hb⟩
theorem wp_conv {w : World} {o : Oper} {a : Act} {K : Act → World → Prop} {Q : Exit → Act → World → Prop} (x : Operand) (ho : o.op = .convert 25 9 x) {P : Option Addr} {c : Nat} {bs : List UInt8} (hx : a.eval x = .slice P bs.length c) (hB : Tr.By w P c bs) (h : K (a.put o.dst (.string (Tr.sb bs))) w) : o.wp Tryz.prog a w K Q := by
 have hr := Tr.by_conv hB
 unfold Oper.wp execOp
 simp only [ho, hx, hr, Sem.run_bind, Sem.run_pure, Result.andThen_ok]
 exact h
theorem t34_at0 {w : World} {T : Nat} {g : Nat → E4} {L R : Value} (h : w.rangeAt T 0 (t34 g L R)) : w.rangeAt T 0 [.int .u64 (g 0).x0, .int .u64 (g 0).x1, .int .u64 (g 0).x2, .int .u64 (g 0).x3] := fun i v hv => by
 have hi : i < 4 := (List.getElem?_eq_some_iff.1 hv).1
 have h1 : w.cell? ⟨T, 0 + (0 + i), none⟩ = some v := h (0 + i) v (by obtain rfl | rfl | rfl | rfl : i = 0 ∨ i = 1 ∨ i = 2 ∨ i = 3 := (by omega); all_goals exact hv)
 rw [Nat.zero_add] at h1
 exact h1
theorem t34_at1 {w : World} {T : Nat} {g : Nat → E4} {L R : Value} (h : w.rangeAt T 0 (t34 g L R)) : w.rangeAt T 4 [.int .u64 (g 1).x0, .int .u64 (g 1).x1, .int .u64 (g 1).x2, .int .u64 (g 1).x3] := fun i v hv => by
 have hi : i < 4 := (List.getElem?_eq_some_iff.1 hv).1
 have h1 : w.cell? ⟨T, 0 + (4 + i), none⟩ = some v := h (4 + i) v (by obtain rfl | rfl | rfl | rfl : i = 0 ∨ i = 1 ∨ i = 2 ∨ i = 3 := (by omega); all_goals exact hv)
 rw [Nat.zero_add] at h1
 exact h1
theorem t34_at2 {w : World} {T : Nat} {g : Nat → E4} {L R : Value} (h : w.rangeAt T 0 (t34 g L R)) : w.rangeAt T 8 [.int .u64 (g 2).x0, .int .u64 (g 2).x1, .int .u64 (g 2).x2, .int .u64 (g 2).x3] := fun i v hv => by
 have hi : i < 4 := (List.getElem?_eq_some_iff.1 hv).1
 have h1 : w.cell? ⟨T, 0 + (8 + i), none⟩ = some v := h (8 + i) v (by obtain rfl | rfl | rfl | rfl : i = 0 ∨ i = 1 ∨ i = 2 ∨ i = 3 := (by omega); all_goals exact hv)
 rw [Nat.zero_add] at h1
 exact h1
theorem t34_at3 {w : World} {T : Nat} {g : Nat → E4} {L R : Value} (h : w.rangeAt T 0 (t34 g L R)) : w.rangeAt T 12 [.int .u64 (g 3).x0, .int .u64 (g 3).x1, .int .u64 (g 3).x2, .int .u64 (g 3).x3] := fun i v hv => by
 have hi : i < 4 := (List.getElem?_eq_some_iff.1 hv).1
 have h1 : w.cell? ⟨T, 0 + (12 + i), none⟩ = some v := h (12 + i) v (by obtain rfl | rfl | rfl | rfl : i = 0 ∨ i = 1 ∨ i = 2 ∨ i = 3 := (by omega); all_goals exact hv)
 rw [Nat.zero_add] at h1
 exact h1
theorem t34_at4 {w : World} {T : Nat} {g : Nat → E4} {L R : Value} (h : w.rangeAt T 0 (t34 g L R)) : w.rangeAt T 16 [.int .u64 (g 4).x0, .int .u64 (g 4).x1, .int .u64 (g 4).x2, .int .u64 (g 4).x3] := fun i v hv => by
 have hi : i < 4 := (List.getElem?_eq_some_iff.1 hv).1
 have h1 : w.cell? ⟨T, 0 + (16 + i), none⟩ = some v := h (16 + i) v (by obtain rfl | rfl | rfl | rfl : i = 0 ∨ i = 1 ∨ i = 2 ∨ i = 3 := (by omega); all_goals exact hv)
 rw [Nat.zero_add] at h1
 exact h1
theorem t34_at5 {w : World} {T : Nat} {g : Nat → E4} {L R : Value} (h : w.rangeAt T 0 (t34 g L R)) : w.rangeAt T 20 [.int .u64 (g 5).x0, .int .u64 (g 5).x1, .int .u64 (g 5).x2, .int .u64 (g 5).x3] := fun i v hv => by
 have hi : i < 4 := (List.getElem?_eq_some_iff.1 hv).1
 have h1 : w.cell? ⟨T, 0 + (20 + i), none⟩ = some v := h (20 + i) v (by obtain rfl | rfl | rfl | rfl : i = 0 ∨ i = 1 ∨ i = 2 ∨ i = 3 := (by omega); all_goals exact hv)
 rw [Nat.zero_add] at h1
 exact h1
theorem t34_at6 {w : World} {T : Nat} {g : Nat → E4} {L R : Value} (h : w.rangeAt T 0 (t34 g L R)) : w.rangeAt T 24 [.int .u64 (g 6).x0, .int .u64 (g 6).x1, .int .u64 (g 6).x2, .int .u64 (g 6).x3] := fun i v hv => by
 have hi : i < 4 := (List.getElem?_eq_some_iff.1 hv).1
 have h1 : w.cell? ⟨T, 0 + (24 + i), none⟩ = some v := h (24 + i) v (by obtain rfl | rfl | rfl | rfl : i = 0 ∨ i = 1 ∨ i = 2 ∨ i = 3 := (by omega); all_goals exact hv)
 rw [Nat.zero_add] at h1
 exact h1
theorem t34_at7 {w : World} {T : Nat} {g : Nat → E4} {L R : Value} (h : w.rangeAt T 0 (t34 g L R)) : w.rangeAt T 28 [.int .u64 (g 7).x0, .int .u64 (g 7).x1, .int .u64 (g 7).x2, .int .u64 (g 7).x3] := fun i v hv => by
 have hi : i < 4 := (List.getElem?_eq_some_iff.1 hv).1
 have h1 : w.cell? ⟨T, 0 + (28 + i), none⟩ = some v := h (28 + i) v (by obtain rfl | rfl | rfl | rfl : i = 0 ∨ i = 1 ∨ i = 2 ∨ i = 3 := (by omega); all_goals exact hv)
 rw [Nat.zero_add] at h1
 exact h1
theorem wpList_loadG {P : Program} {ops : Array Oper} {rest : List Oper} {op : Oper} {a : Act} {w : World} {Q : Exit → Act → World → Prop} (hw : Region.wanted op (yielded ops a.tmps) = true) (ty : TypeId) (x : Operand) (ho : op.op = .load ty x)
  (b o : Nat) (hx : a.eval x = .pointer (some ⟨b, o, none⟩)) (cs : List Value) (d : TypeDesc) (hc : w.rangeAt b o cs)
  (hu : P.underlying ty = some d) (hd : d.isRow = true) (hi : (P.info? ty).map (·.size) = some cs.length)
  (h : wpList P ops Q rest (a.put op.dst (.agg cs.toArray)) w) : wpList P ops Q (op :: rest) a w := by
 unfold wpList
 rw [if_pos hw]
 exact Or.inl (wp_load_mid ty x ho b o hx cs d hc hu hd hi h)
theorem wpList_want {P : Program} {ops : Array Oper} {rest : List Oper} {o : Oper} {a : Act} {w : World} {Q : Exit → Act → World → Prop} (hw : Region.wanted o (yielded ops a.tmps) = true) (h : ∀ K : Act → World → Prop, Hid (∀ a w, wpList P ops Q rest a w → K a w) → o.wp P a w K Q) : wpList P ops Q (o :: rest) a w := by
 unfold wpList
 rw [if_pos hw]
 exact Or.inl (h _ (fun _ _ h => h))
theorem i4S : (Tryz.prog.info? 32).map (·.size) = some 4 := by kernel_rfl
theorem i4Q : (Tryz.prog.info? 43).map (·.size) = some 4 := by kernel_rfl
def a10o_0 : Oper := { dst := some 60, op := Op.move (Operand.tmp 11), type := 36, pos := "law.go:240", after := #[], guard := none }
def a10o_1 : Oper := { dst := some 61, op := Op.move (Operand.tmp 13), type := 36, pos := "law.go:240", after := #[], guard := none }
def a10o_2 : Oper := { dst := some 62, op := Op.binOp BinOp.neq 36 (Operand.tmp 60) (Operand.tmp 61) 36, type := 4, pos := "law.go:240", after := #[{ on := 0, ground := Ground.data }, { on := 1, ground := Ground.data }], guard := none }
def a10o_3 : Oper := { dst := some 63, op := Op.move (Operand.tmp 62), type := 4, pos := "law.go:240", after := #[{ on := 2, ground := Ground.data }], guard := none }
def a10o_4 : Oper := { dst := some 64, op := Op.move (Operand.tmp 5), type := 26, pos := "law.go:240", after := #[{ on := 3, ground := Ground.guard }], guard := some (3, false) }
def a10o_5 : Oper := { dst := some 65, op := Op.call { callee := Callee.value (Operand.func 6), args := #[Operand.tmp 64], argTypes := #[26] }, type := 3, pos := "law.go:240", after := #[{ on := 4, ground := Ground.data }, { on := 3, ground := Ground.chain }, { on := 3, ground := Ground.guard }], guard := some (3, false) }
def a10o_6 : Oper := { dst := some 66, op := Op.move (Operand.tmp 6), type := 27, pos := "law.go:240", after := #[{ on := 3, ground := Ground.guard }], guard := some (3, false) }
def a10o_7 : Oper := { dst := some 67, op := Op.call { callee := Callee.value (Operand.func 8), args := #[Operand.tmp 66], argTypes := #[27] }, type := 3, pos := "law.go:240", after := #[{ on := 6, ground := Ground.data }, { on := 5, ground := Ground.chain }, { on := 3, ground := Ground.guard }], guard := some (3, false) }
def a10o_8 : Oper := { dst := some 68, op := Op.binOp BinOp.neq 3 (Operand.tmp 65) (Operand.tmp 67) 3, type := 4, pos := "law.go:240", after := #[{ on := 5, ground := Ground.data }, { on := 7, ground := Ground.data }, { on := 3, ground := Ground.guard }], guard := some (3, false) }
def a10o_9 : Oper := { dst := some 69, op := Op.pick (Operand.tmp 63) (Operand.const (Value.bool true)) (Operand.tmp 68), type := 4, pos := "law.go:240", after := #[{ on := 3, ground := Ground.data }, { on := 8, ground := Ground.data }], guard := none }
def a10o_10 : Oper := { dst := some 70, op := Op.move (Operand.tmp 69), type := 4, pos := "law.go:240", after := #[{ on := 9, ground := Ground.data }, { on := 7, ground := Ground.chain }], guard := none }
def a10o_11 : Oper := { dst := some 71, op := Op.move (Operand.tmp 9), type := 25, pos := "law.go:240", after := #[{ on := 10, ground := Ground.guard }], guard := some (10, false) }
def a10o_12 : Oper := { dst := some 72, op := Op.move (Operand.tmp 1), type := 25, pos := "law.go:240", after := #[{ on := 10, ground := Ground.guard }], guard := some (10, false) }
def a10o_13 : Oper := { dst := some 73, op := Op.call { callee := Callee.builtin Builtin.len, args := #[Operand.tmp 72], argTypes := #[25] }, type := 3, pos := "law.go:240", after := #[{ on := 12, ground := Ground.data }, { on := 10, ground := Ground.guard }], guard := some (10, false) }
def a10o_14 : Oper := { dst := some 74, op := Op.slice 25 (Operand.tmp 71) none (some (Operand.tmp 73)) none, type := 25, pos := "law.go:240", after := #[{ on := 11, ground := Ground.data }, { on := 13, ground := Ground.data }, { on := 10, ground := Ground.guard }], guard := some (10, false) }
def a10o_15 : Oper := { dst := some 75, op := Op.convert 25 9 (Operand.tmp 74), type := 9, pos := "law.go:240", after := #[{ on := 14, ground := Ground.data }, { on := 10, ground := Ground.guard }], guard := some (10, false) }
def a10o_16 : Oper := { dst := some 76, op := Op.move (Operand.tmp 1), type := 25, pos := "law.go:240", after := #[{ on := 10, ground := Ground.guard }], guard := some (10, false) }
def a10o_17 : Oper := { dst := some 77, op := Op.convert 25 9 (Operand.tmp 76), type := 9, pos := "law.go:240", after := #[{ on := 16, ground := Ground.data }, { on := 10, ground := Ground.guard }], guard := some (10, false) }
def a10o_18 : Oper := { dst := some 78, op := Op.binOp BinOp.neq 9 (Operand.tmp 75) (Operand.tmp 77) 9, type := 4, pos := "law.go:240", after := #[{ on := 15, ground := Ground.data }, { on := 17, ground := Ground.data }, { on := 10, ground := Ground.guard }], guard := some (10, false) }
def a10o_19 : Oper := { dst := some 79, op := Op.pick (Operand.tmp 70) (Operand.const (Value.bool true)) (Operand.tmp 78), type := 4, pos := "law.go:240", after := #[{ on := 10, ground := Ground.data }, { on := 18, ground := Ground.data }], guard := none }
def a10o_20 : Oper := { dst := some 80, op := Op.move (Operand.tmp 79), type := 4, pos := "law.go:240", after := #[{ on := 19, ground := Ground.data }, { on := 10, ground := Ground.chain }], guard := none }
def a10o_21 : Oper := { dst := some 81, op := Op.move (Operand.tmp 9), type := 25, pos := "law.go:240", after := #[{ on := 20, ground := Ground.guard }], guard := some (20, false) }
def a10o_22 : Oper := { dst := some 82, op := Op.move (Operand.tmp 1), type := 25, pos := "law.go:240", after := #[{ on := 20, ground := Ground.guard }], guard := some (20, false) }
def a10o_23 : Oper := { dst := some 83, op := Op.call { callee := Callee.builtin Builtin.len, args := #[Operand.tmp 82], argTypes := #[25] }, type := 3, pos := "law.go:240", after := #[{ on := 22, ground := Ground.data }, { on := 20, ground := Ground.guard }], guard := some (20, false) }
def a10o_24 : Oper := { dst := some 84, op := Op.indexAddr 25 (Operand.tmp 81) (Operand.tmp 83), type := 0, pos := "law.go:240", after := #[{ on := 21, ground := Ground.data }, { on := 23, ground := Ground.data }, { on := 20, ground := Ground.guard }], guard := some (20, false) }
def a10o_25 : Oper := { dst := some 85, op := Op.load 5 (Operand.tmp 84), type := 5, pos := "law.go:240", after := #[{ on := 24, ground := Ground.data }, { on := 20, ground := Ground.guard }], guard := some (20, false) }
def a10o_26 : Oper := { dst := some 86, op := Op.binOp BinOp.neq 5 (Operand.tmp 85) (Operand.const (Value.int IntKind.u8 201)) 5, type := 4, pos := "law.go:240", after := #[{ on := 25, ground := Ground.data }, { on := 20, ground := Ground.guard }], guard := some (20, false) }
def a10o_27 : Oper := { dst := some 87, op := Op.pick (Operand.tmp 80) (Operand.const (Value.bool true)) (Operand.tmp 86), type := 4, pos := "law.go:240", after := #[{ on := 20, ground := Ground.data }, { on := 26, ground := Ground.data }], guard := none }
def a10o : Array Oper := #[a10o_0, a10o_1, a10o_2, a10o_3, a10o_4, a10o_5, a10o_6, a10o_7, a10o_8, a10o_9, a10o_10, a10o_11, a10o_12, a10o_13, a10o_14, a10o_15, a10o_16, a10o_17, a10o_18, a10o_19, a10o_20, a10o_21, a10o_22, a10o_23, a10o_24, a10o_25, a10o_26, a10o_27]
set_option maxRecDepth 100000 in
set_option maxHeartbeats 16000000 in
theorem a10 (Q : Exit → Act → World → Prop) (t r fb n2 cf cap z : Nat) (P : Option Addr) (bs : List UInt8) (E : Int) (u0 u2 u3 u4 u7 u8 u10 u12 u14 u15 u16 u17 u18 u19 u20 u21 u22 u23 u24 u25 u26 u27 u28 u29 u30 u31 u32 u33 u34 u35 u36 u37 u38 u39 u40 u41 u42 u43 u44 u45 u46 u47 u48 u49 u50 u51 u52 u53 u54 u55 u56 u57 u58 u59 u60 u61 u62 u63 u64 u65 u66 u67 u68 u69 u70 u71 u72 u73 u74 u75 u76 u77 u78 u79 u80 u81 u82 u83 u84 u85 u86 u87 u88 u89 u90 u91 u92 u93 u94 u95 u96 u97 u98 u99 u100 u101 u102 u103 u104 u105 u106 u107 u108 u109 u110 u111 u112 u113 u114 u115 u116 u117 u118 u119 u120 u121 u122 u123 u124 u125 u126 u127 u128 u129 u130 u131 u132 u133 u134 u135 u136 u137 u138 u139 u140 u141 u142 u143 u144 u145 u146 u147 u148 u149 u150 u151 u152 u153 u154 u155 u156 u157 u158 u159 u160 u161 : Value) (W : World)
  (by0 : Tr.By W (some ⟨fb, 0, none⟩) cf bs) (by1 : Tr.By W P cap bs) (l0 : (0 : Int) ≤ (bs.length : Int)) (l1 : (bs.length : Int) < (n2 : Int)) (l2 : (bs.length : Int) ≤ (cf : Int)) (c1 : W.cell? ⟨fb, bs.length, none⟩ = some (.int .u8 201))
  (C5 : Hid (∀ yy, Below W.heap.size W yy → Calls Tryz.prog 6 #[.pointer (some ⟨t, 0, none⟩)] yy fun e w' => e = .returned (.int .i64 (z : Int)) ∧ Below yy.heap.size yy w'))
  (C7 : Hid (∀ yy, Below W.heap.size W yy → Calls Tryz.prog 8 #[.pointer (some ⟨r, 0, none⟩)] yy fun e w' => e = .returned (.int .i64 (z : Int)) ∧ Below yy.heap.size yy w'))
  (HQ : Hid (∀ (wz : World), Below W.heap.size W wz → Q .normal ⟨#[u0, .slice P bs.length cap, u2, u3, u4, .pointer (some ⟨t, 0, none⟩), .pointer (some ⟨r, 0, none⟩), u7, u8, .slice (some ⟨fb, 0, none⟩) n2 cf, u10, .int .i64 E, u12, .int .i64 E, u14, u15, u16, u17, u18, u19, u20, u21, u22, u23, u24, u25, u26, u27, u28, u29, u30, u31, u32, u33, u34, u35, u36, u37, u38, u39, u40, u41, u42, u43, u44, u45, u46, u47, u48, u49, u50, u51, u52, u53, u54, u55, u56, u57, u58, u59, .int .i64 E, .int .i64 E, .bool false, .bool false, .pointer (some ⟨t, 0, none⟩), .int .i64 (z : Int), .pointer (some ⟨r, 0, none⟩), .int .i64 (z : Int), .bool false, .bool false, .bool false, .slice (some ⟨fb, 0, none⟩) n2 cf, .slice P bs.length cap, .int .i64 (bs.length : Int), .slice (some ⟨fb, 0, none⟩) bs.length cf, .string (Tr.sb bs), .slice P bs.length cap, .string (Tr.sb bs), .bool false, .bool false, .bool false, .slice (some ⟨fb, 0, none⟩) n2 cf, .slice P bs.length cap, .int .i64 (bs.length : Int), .pointer (some ⟨fb, bs.length, none⟩), .int .u8 201, .bool false, .bool false, u88, u89, u90, u91, u92, u93, u94, u95, u96, u97, u98, u99, u100, u101, u102, u103, u104, u105, u106, u107, u108, u109, u110, u111, u112, u113, u114, u115, u116, u117, u118, u119, u120, u121, u122, u123, u124, u125, u126, u127, u128, u129, u130, u131, u132, u133, u134, u135, u136, u137, u138, u139, u140, u141, u142, u143, u144, u145, u146, u147, u148, u149, u150, u151, u152, u153, u154, u155, u156, u157, u158, u159, u160, u161], []⟩ wz)) : (Code.region 10 a10o true).wp Tryz.prog Q ⟨#[u0, .slice P bs.length cap, u2, u3, u4, .pointer (some ⟨t, 0, none⟩), .pointer (some ⟨r, 0, none⟩), u7, u8, .slice (some ⟨fb, 0, none⟩) n2 cf, u10, .int .i64 E, u12, .int .i64 E, u14, u15, u16, u17, u18, u19, u20, u21, u22, u23, u24, u25, u26, u27, u28, u29, u30, u31, u32, u33, u34, u35, u36, u37, u38, u39, u40, u41, u42, u43, u44, u45, u46, u47, u48, u49, u50, u51, u52, u53, u54, u55, u56, u57, u58, u59, u60, u61, u62, u63, u64, u65, u66, u67, u68, u69, u70, u71, u72, u73, u74, u75, u76, u77, u78, u79, u80, u81, u82, u83, u84, u85, u86, u87, u88, u89, u90, u91, u92, u93, u94, u95, u96, u97, u98, u99, u100, u101, u102, u103, u104, u105, u106, u107, u108, u109, u110, u111, u112, u113, u114, u115, u116, u117, u118, u119, u120, u121, u122, u123, u124, u125, u126, u127, u128, u129, u130, u131, u132, u133, u134, u135, u136, u137, u138, u139, u140, u141, u142, u143, u144, u145, u146, u147, u148, u149, u150, u151, u152, u153, u154, u155, u156, u157, u158, u159, u160, u161], []⟩ W := by
 have BF := hidden (by0.keep (bl_drew W))
 have BY := hidden (by1.keep (bl_drew W))
 clear by0 by1
 unfold a10o
 refine wp_region_noPanic ?_
 refine wp_region_held_drew (S := fun x => Below W.heap.size W x) (by kernel_rfl) (bl_drew W) (fun hH0 => ?_)
 refine tk 0 a10o_0 (.int .i64 E) rfl (by kernel_rfl) hH0 rfl (fun w0 hSw => ?_) ?_
 ·(unfold a10o_0; clear hSw; go_simp)
 simp only [a10o_0, Act.put, sA, sB, sC]
 refine tk 1 a10o_1 (.int .i64 E) rfl (by kernel_rfl) hH0 rfl (fun w0 hSw => ?_) ?_
 ·(unfold a10o_1; clear hSw; go_simp)
 simp only [a10o_1, Act.put, sA, sB, sC]
 refine tk 2 a10o_2 (.bool false) rfl (by kernel_rfl) hH0 rfl (fun w0 hSw => ?_) ?_
 ·(unfold a10o_2; clear hSw; go_simp)
 simp only [a10o_2, Act.put, sA, sB, sC]
 refine tk 3 a10o_3 (.bool false) rfl (by kernel_rfl) hH0 rfl (fun w0 hSw => ?_) ?_
 ·(unfold a10o_3; clear hSw; go_simp)
 simp only [a10o_3, Act.put, sA, sB, sC]
 refine tk 4 a10o_4 (.pointer (some ⟨t, 0, none⟩)) rfl (by kernel_rfl) hH0 rfl (fun w0 hSw => ?_) ?_
 ·(unfold a10o_4; clear hSw; go_simp)
 simp only [a10o_4, Act.put, sA, sB, sC]
 refine tk 6 a10o_6 (.pointer (some ⟨r, 0, none⟩)) rfl (by kernel_rfl) hH0 rfl (fun w0 hSw => ?_) ?_
 ·(unfold a10o_6; clear hSw; go_simp)
 simp only [a10o_6, Act.put, sA, sB, sC]
 refine wpAnyH_ready (rs := [5]) (by kernel_rfl) (by simp) ?_
 refine AllReadyH.cons (o := a10o_5) rfl (fun K hK => ?_) AllReadyH.nil
 unfold a10o_5
 have HH := hidden hH0
 clear hH0
 go_simp
 refine (C5.out _ HH.out).mono ?_
 rintro e wn1 ⟨rfl, hb⟩
 have SN := hidden (bl_trans HH.out hb)
 replace BF := hidden (BF.out.keep hb)
 replace BY := hidden (BY.out.keep hb)
 clear HH C5 hb
 go_wp2_with fail
 refine hK.out _ _ SN.out (fun hH1 => ?_)
 clear hK K SN
 refine wpAnyH_ready (rs := [7]) (by kernel_rfl) (by simp) ?_
 refine AllReadyH.cons (o := a10o_7) rfl (fun K hK => ?_) AllReadyH.nil
 unfold a10o_7
 have HH := hidden hH1
 clear hH1
 go_simp
 refine (C7.out _ HH.out).mono ?_
 rintro e wn2 ⟨rfl, hb⟩
 have SN := hidden (bl_trans HH.out hb)
 replace BF := hidden (BF.out.keep hb)
 replace BY := hidden (BY.out.keep hb)
 clear HH C7 hb
 go_wp2_with fail
 refine hK.out _ _ SN.out (fun hH2 => ?_)
 clear hK K SN
 refine tk 8 a10o_8 (.bool false) rfl (by kernel_rfl) hH2 rfl (fun w0 hSw => ?_) ?_
 ·(unfold a10o_8; clear hSw; go_simp)
 simp only [a10o_8, Act.put, sA, sB, sC]
 refine tk 9 a10o_9 (.bool false) rfl (by kernel_rfl) hH2 rfl (fun w0 hSw => ?_) ?_
 ·(unfold a10o_9; clear hSw; go_simp)
 simp only [a10o_9, Act.put, sA, sB, sC]
 refine tk 10 a10o_10 (.bool false) rfl (by kernel_rfl) hH2 rfl (fun w0 hSw => ?_) ?_
 ·(unfold a10o_10; clear hSw; go_simp)
 simp only [a10o_10, Act.put, sA, sB, sC]
 refine tk 11 a10o_11 (.slice (some ⟨fb, 0, none⟩) n2 cf) rfl (by kernel_rfl) hH2 rfl (fun w0 hSw => ?_) ?_
 ·(unfold a10o_11; clear hSw; go_simp)
 simp only [a10o_11, Act.put, sA, sB, sC]
 refine tk 12 a10o_12 (.slice P bs.length cap) rfl (by kernel_rfl) hH2 rfl (fun w0 hSw => ?_) ?_
 ·(unfold a10o_12; clear hSw; go_simp)
 simp only [a10o_12, Act.put, sA, sB, sC]
 refine tk 16 a10o_16 (.slice P bs.length cap) rfl (by kernel_rfl) hH2 rfl (fun w0 hSw => ?_) ?_
 ·(unfold a10o_16; clear hSw; go_simp)
 simp only [a10o_16, Act.put, sA, sB, sC]
 refine tk 13 a10o_13 (.int .i64 (bs.length : Int)) rfl (by kernel_rfl) hH2 rfl (fun w0 hSw => ?_) ?_
 ·(unfold a10o_13; clear hSw; go_simp)
 simp only [a10o_13, Act.put, sA, sB, sC]
 refine tk 14 a10o_14 (.slice (some ⟨fb, 0, none⟩) bs.length cf) rfl (by kernel_rfl) hH2 rfl (fun w0 hSw => ?_) ?_
 ·(unfold a10o_14; clear hSw; go_simp)
 simp only [a10o_14, Act.put, sA, sB, sC]
 refine wpAnyH_ready (rs := [15, 17]) (by kernel_rfl) (by simp) ?_
 refine AllReadyH.cons (o := a10o_15) rfl (fun K hK => ?_) (AllReadyH.cons (o := a10o_17) rfl (fun K hK => ?_) AllReadyH.nil)
 ·unfold a10o_15
  have HH := hidden hH2
  clear hH2
  refine Eq.mpr (if_pos (by exact rfl)) ?_
  refine wp_conv _ rfl rfl BF.out ?_
  simp only [Act.put, sA, sB, sC]
  have SN := HH
  clear HH
  refine hK.out _ _ SN.out (fun hH3 => ?_)
  clear hK K SN
  refine wpAnyH_ready (rs := [17]) (by kernel_rfl) (by simp) ?_
  refine AllReadyH.cons (o := a10o_17) rfl (fun K hK => ?_) AllReadyH.nil
  unfold a10o_17
  have HH := hidden hH3
  clear hH3
  refine Eq.mpr (if_pos (by exact rfl)) ?_
  refine wp_conv _ rfl rfl BY.out ?_
  simp only [Act.put, sA, sB, sC]
  have SN := HH
  clear HH
  refine hK.out _ _ SN.out (fun hH4 => ?_)
  clear hK K SN
  refine tk 18 a10o_18 (.bool false) rfl (by kernel_rfl) hH4 rfl (fun w0 hSw => ?_) ?_
  ·(unfold a10o_18; clear hSw; go_simp)
  simp only [a10o_18, Act.put, sA, sB, sC]
  refine tk 19 a10o_19 (.bool false) rfl (by kernel_rfl) hH4 rfl (fun w0 hSw => ?_) ?_
  ·(unfold a10o_19; clear hSw; go_simp)
  simp only [a10o_19, Act.put, sA, sB, sC]
  refine tk 20 a10o_20 (.bool false) rfl (by kernel_rfl) hH4 rfl (fun w0 hSw => ?_) ?_
  ·(unfold a10o_20; clear hSw; go_simp)
  simp only [a10o_20, Act.put, sA, sB, sC]
  refine tk 21 a10o_21 (.slice (some ⟨fb, 0, none⟩) n2 cf) rfl (by kernel_rfl) hH4 rfl (fun w0 hSw => ?_) ?_
  ·(unfold a10o_21; clear hSw; go_simp)
  simp only [a10o_21, Act.put, sA, sB, sC]
  refine tk 22 a10o_22 (.slice P bs.length cap) rfl (by kernel_rfl) hH4 rfl (fun w0 hSw => ?_) ?_
  ·(unfold a10o_22; clear hSw; go_simp)
  simp only [a10o_22, Act.put, sA, sB, sC]
  refine tk 23 a10o_23 (.int .i64 (bs.length : Int)) rfl (by kernel_rfl) hH4 rfl (fun w0 hSw => ?_) ?_
  ·(unfold a10o_23; clear hSw; go_simp)
  simp only [a10o_23, Act.put, sA, sB, sC]
  refine tk 24 a10o_24 (.pointer (some ⟨fb, bs.length, none⟩)) rfl (by kernel_rfl) hH4 rfl (fun w0 hSw => ?_) ?_
  ·(unfold a10o_24; clear hSw; go_simp)
  simp only [a10o_24, Act.put, sA, sB, sC]
  refine tk 25 a10o_25 (.int .u8 201) rfl (by kernel_rfl) hH4 rfl (fun w0 hSw => ?_) ?_
  ·(unfold a10o_25; have hS : Below W.heap.size W w0 := hSw; have a0 := cell_keep c1 hS; clear hS hSw; go_simp)
  simp only [a10o_25, Act.put, sA, sB, sC]
  refine tk 26 a10o_26 (.bool false) rfl (by kernel_rfl) hH4 rfl (fun w0 hSw => ?_) ?_
  ·(unfold a10o_26; clear hSw; go_simp)
  simp only [a10o_26, Act.put, sA, sB, sC]
  refine tk 27 a10o_27 (.bool false) rfl (by kernel_rfl) hH4 rfl (fun w0 hSw => ?_) ?_
  ·(unfold a10o_27; clear hSw; go_simp)
  simp only [a10o_27, Act.put, sA, sB, sC]
  have HH := hidden hH4
  have FQ := hidden (HQ.out _ HH.out)
  refine wpAnyH_done (by kernel_rfl) ?_ _
  refine NoPanic.normal ?_
  exact FQ.out
 ·unfold a10o_17
  have HH := hidden hH2
  clear hH2
  refine Eq.mpr (if_pos (by exact rfl)) ?_
  refine wp_conv _ rfl rfl BY.out ?_
  simp only [Act.put, sA, sB, sC]
  have SN := HH
  clear HH
  refine hK.out _ _ SN.out (fun hH3 => ?_)
  clear hK K SN
  refine wpAnyH_ready (rs := [15]) (by kernel_rfl) (by simp) ?_
  refine AllReadyH.cons (o := a10o_15) rfl (fun K hK => ?_) AllReadyH.nil
  unfold a10o_15
  have HH := hidden hH3
  clear hH3
  refine Eq.mpr (if_pos (by exact rfl)) ?_
  refine wp_conv _ rfl rfl BF.out ?_
  simp only [Act.put, sA, sB, sC]
  have SN := HH
  clear HH
  refine hK.out _ _ SN.out (fun hH4 => ?_)
  clear hK K SN
  refine tk 18 a10o_18 (.bool false) rfl (by kernel_rfl) hH4 rfl (fun w0 hSw => ?_) ?_
  ·(unfold a10o_18; clear hSw; go_simp)
  simp only [a10o_18, Act.put, sA, sB, sC]
  refine tk 19 a10o_19 (.bool false) rfl (by kernel_rfl) hH4 rfl (fun w0 hSw => ?_) ?_
  ·(unfold a10o_19; clear hSw; go_simp)
  simp only [a10o_19, Act.put, sA, sB, sC]
  refine tk 20 a10o_20 (.bool false) rfl (by kernel_rfl) hH4 rfl (fun w0 hSw => ?_) ?_
  ·(unfold a10o_20; clear hSw; go_simp)
  simp only [a10o_20, Act.put, sA, sB, sC]
  refine tk 21 a10o_21 (.slice (some ⟨fb, 0, none⟩) n2 cf) rfl (by kernel_rfl) hH4 rfl (fun w0 hSw => ?_) ?_
  ·(unfold a10o_21; clear hSw; go_simp)
  simp only [a10o_21, Act.put, sA, sB, sC]
  refine tk 22 a10o_22 (.slice P bs.length cap) rfl (by kernel_rfl) hH4 rfl (fun w0 hSw => ?_) ?_
  ·(unfold a10o_22; clear hSw; go_simp)
  simp only [a10o_22, Act.put, sA, sB, sC]
  refine tk 23 a10o_23 (.int .i64 (bs.length : Int)) rfl (by kernel_rfl) hH4 rfl (fun w0 hSw => ?_) ?_
  ·(unfold a10o_23; clear hSw; go_simp)
  simp only [a10o_23, Act.put, sA, sB, sC]
  refine tk 24 a10o_24 (.pointer (some ⟨fb, bs.length, none⟩)) rfl (by kernel_rfl) hH4 rfl (fun w0 hSw => ?_) ?_
  ·(unfold a10o_24; clear hSw; go_simp)
  simp only [a10o_24, Act.put, sA, sB, sC]
  refine tk 25 a10o_25 (.int .u8 201) rfl (by kernel_rfl) hH4 rfl (fun w0 hSw => ?_) ?_
  ·(unfold a10o_25; have hS : Below W.heap.size W w0 := hSw; have a0 := cell_keep c1 hS; clear hS hSw; go_simp)
  simp only [a10o_25, Act.put, sA, sB, sC]
  refine tk 26 a10o_26 (.bool false) rfl (by kernel_rfl) hH4 rfl (fun w0 hSw => ?_) ?_
  ·(unfold a10o_26; clear hSw; go_simp)
  simp only [a10o_26, Act.put, sA, sB, sC]
  refine tk 27 a10o_27 (.bool false) rfl (by kernel_rfl) hH4 rfl (fun w0 hSw => ?_) ?_
  ·(unfold a10o_27; clear hSw; go_simp)
  simp only [a10o_27, Act.put, sA, sB, sC]
  have HH := hidden hH4
  have FQ := hidden (HQ.out _ HH.out)
  refine wpAnyH_done (by kernel_rfl) ?_ _
  refine NoPanic.normal ?_
  exact FQ.out
def a12o : Array Oper := #[{ dst := some 88, op := Op.fieldAddr 35 (Operand.tmp 10) 0, type := 0, pos := "law.go:243", after := #[], guard := none },
 { dst := some 89, op := Op.load 32 (Operand.tmp 88), type := 32, pos := "law.go:243", after := #[{ on := 0, ground := Ground.data }], guard := none },
 { dst := some 90, op := Op.fieldAddr 46 (Operand.tmp 12) 0, type := 0, pos := "law.go:243", after := #[], guard := none },
 { dst := some 91, op := Op.load 43 (Operand.tmp 90), type := 43, pos := "law.go:243", after := #[{ on := 2, ground := Ground.data }], guard := none },
 { dst := some 92, op := Op.call { callee := Callee.value (Operand.func 9), args := #[Operand.tmp 89, Operand.tmp 91], argTypes := #[32, 43] }, type := 4, pos := "law.go:243", after := #[{ on := 1, ground := Ground.data }, { on := 3, ground := Ground.data }], guard := none },
 { dst := some 93, op := Op.unOp UnOp.not 4 (Operand.tmp 92), type := 4, pos := "law.go:243", after := #[{ on := 4, ground := Ground.data }], guard := none },
 { dst := some 94, op := Op.move (Operand.tmp 93), type := 4, pos := "law.go:243", after := #[{ on := 5, ground := Ground.data }, { on := 4, ground := Ground.chain }], guard := none },
 { dst := some 95, op := Op.fieldAddr 35 (Operand.tmp 10) 1, type := 0, pos := "law.go:243", after := #[{ on := 6, ground := Ground.guard }], guard := some (6, false) },
 { dst := some 96, op := Op.load 32 (Operand.tmp 95), type := 32, pos := "law.go:243", after := #[{ on := 7, ground := Ground.data }, { on := 6, ground := Ground.guard }], guard := some (6, false) },
 { dst := some 97, op := Op.fieldAddr 46 (Operand.tmp 12) 1, type := 0, pos := "law.go:243", after := #[{ on := 6, ground := Ground.guard }], guard := some (6, false) },
 { dst := some 98, op := Op.load 43 (Operand.tmp 97), type := 43, pos := "law.go:243", after := #[{ on := 9, ground := Ground.data }, { on := 6, ground := Ground.guard }], guard := some (6, false) },
 { dst := some 99, op := Op.call { callee := Callee.value (Operand.func 9), args := #[Operand.tmp 96, Operand.tmp 98], argTypes := #[32, 43] }, type := 4, pos := "law.go:243", after := #[{ on := 8, ground := Ground.data }, { on := 10, ground := Ground.data }, { on := 6, ground := Ground.chain }, { on := 6, ground := Ground.guard }], guard := some (6, false) },
 { dst := some 100, op := Op.unOp UnOp.not 4 (Operand.tmp 99), type := 4, pos := "law.go:243", after := #[{ on := 11, ground := Ground.data }, { on := 6, ground := Ground.guard }], guard := some (6, false) },
 { dst := some 101, op := Op.pick (Operand.tmp 94) (Operand.const (Value.bool true)) (Operand.tmp 100), type := 4, pos := "law.go:243", after := #[{ on := 6, ground := Ground.data }, { on := 12, ground := Ground.data }], guard := none },
 { dst := some 102, op := Op.move (Operand.tmp 101), type := 4, pos := "law.go:243", after := #[{ on := 13, ground := Ground.data }, { on := 11, ground := Ground.chain }], guard := none },
 { dst := some 103, op := Op.fieldAddr 35 (Operand.tmp 10) 2, type := 0, pos := "law.go:243", after := #[{ on := 14, ground := Ground.guard }], guard := some (14, false) },
 { dst := some 104, op := Op.load 32 (Operand.tmp 103), type := 32, pos := "law.go:243", after := #[{ on := 15, ground := Ground.data }, { on := 14, ground := Ground.guard }], guard := some (14, false) },
 { dst := some 105, op := Op.fieldAddr 46 (Operand.tmp 12) 2, type := 0, pos := "law.go:243", after := #[{ on := 14, ground := Ground.guard }], guard := some (14, false) },
 { dst := some 106, op := Op.load 43 (Operand.tmp 105), type := 43, pos := "law.go:243", after := #[{ on := 17, ground := Ground.data }, { on := 14, ground := Ground.guard }], guard := some (14, false) },
 { dst := some 107, op := Op.call { callee := Callee.value (Operand.func 9), args := #[Operand.tmp 104, Operand.tmp 106], argTypes := #[32, 43] }, type := 4, pos := "law.go:243", after := #[{ on := 16, ground := Ground.data }, { on := 18, ground := Ground.data }, { on := 14, ground := Ground.chain }, { on := 14, ground := Ground.guard }], guard := some (14, false) },
 { dst := some 108, op := Op.unOp UnOp.not 4 (Operand.tmp 107), type := 4, pos := "law.go:243", after := #[{ on := 19, ground := Ground.data }, { on := 14, ground := Ground.guard }], guard := some (14, false) },
 { dst := some 109, op := Op.pick (Operand.tmp 102) (Operand.const (Value.bool true)) (Operand.tmp 108), type := 4, pos := "law.go:243", after := #[{ on := 14, ground := Ground.data }, { on := 20, ground := Ground.data }], guard := none },
 { dst := some 110, op := Op.move (Operand.tmp 109), type := 4, pos := "law.go:243", after := #[{ on := 21, ground := Ground.data }, { on := 19, ground := Ground.chain }], guard := none },
 { dst := some 111, op := Op.fieldAddr 35 (Operand.tmp 10) 3, type := 0, pos := "law.go:243", after := #[{ on := 22, ground := Ground.guard }], guard := some (22, false) },
 { dst := some 112, op := Op.load 32 (Operand.tmp 111), type := 32, pos := "law.go:243", after := #[{ on := 23, ground := Ground.data }, { on := 22, ground := Ground.guard }], guard := some (22, false) },
 { dst := some 113, op := Op.fieldAddr 46 (Operand.tmp 12) 3, type := 0, pos := "law.go:243", after := #[{ on := 22, ground := Ground.guard }], guard := some (22, false) },
 { dst := some 114, op := Op.load 43 (Operand.tmp 113), type := 43, pos := "law.go:243", after := #[{ on := 25, ground := Ground.data }, { on := 22, ground := Ground.guard }], guard := some (22, false) },
 { dst := some 115, op := Op.call { callee := Callee.value (Operand.func 9), args := #[Operand.tmp 112, Operand.tmp 114], argTypes := #[32, 43] }, type := 4, pos := "law.go:243", after := #[{ on := 24, ground := Ground.data }, { on := 26, ground := Ground.data }, { on := 22, ground := Ground.chain }, { on := 22, ground := Ground.guard }], guard := some (22, false) },
 { dst := some 116, op := Op.unOp UnOp.not 4 (Operand.tmp 115), type := 4, pos := "law.go:243", after := #[{ on := 27, ground := Ground.data }, { on := 22, ground := Ground.guard }], guard := some (22, false) },
 { dst := some 117, op := Op.pick (Operand.tmp 110) (Operand.const (Value.bool true)) (Operand.tmp 116), type := 4, pos := "law.go:243", after := #[{ on := 22, ground := Ground.data }, { on := 28, ground := Ground.data }], guard := none },
 { dst := some 118, op := Op.move (Operand.tmp 117), type := 4, pos := "law.go:243", after := #[{ on := 29, ground := Ground.data }, { on := 27, ground := Ground.chain }], guard := none },
 { dst := some 119, op := Op.fieldAddr 35 (Operand.tmp 10) 4, type := 0, pos := "law.go:243", after := #[{ on := 30, ground := Ground.guard }], guard := some (30, false) },
 { dst := some 120, op := Op.load 32 (Operand.tmp 119), type := 32, pos := "law.go:243", after := #[{ on := 31, ground := Ground.data }, { on := 30, ground := Ground.guard }], guard := some (30, false) },
 { dst := some 121, op := Op.fieldAddr 46 (Operand.tmp 12) 4, type := 0, pos := "law.go:243", after := #[{ on := 30, ground := Ground.guard }], guard := some (30, false) },
 { dst := some 122, op := Op.load 43 (Operand.tmp 121), type := 43, pos := "law.go:243", after := #[{ on := 33, ground := Ground.data }, { on := 30, ground := Ground.guard }], guard := some (30, false) },
 { dst := some 123, op := Op.call { callee := Callee.value (Operand.func 9), args := #[Operand.tmp 120, Operand.tmp 122], argTypes := #[32, 43] }, type := 4, pos := "law.go:243", after := #[{ on := 32, ground := Ground.data }, { on := 34, ground := Ground.data }, { on := 30, ground := Ground.chain }, { on := 30, ground := Ground.guard }], guard := some (30, false) },
 { dst := some 124, op := Op.unOp UnOp.not 4 (Operand.tmp 123), type := 4, pos := "law.go:243", after := #[{ on := 35, ground := Ground.data }, { on := 30, ground := Ground.guard }], guard := some (30, false) },
 { dst := some 125, op := Op.pick (Operand.tmp 118) (Operand.const (Value.bool true)) (Operand.tmp 124), type := 4, pos := "law.go:243", after := #[{ on := 30, ground := Ground.data }, { on := 36, ground := Ground.data }], guard := none },
 { dst := some 126, op := Op.move (Operand.tmp 125), type := 4, pos := "law.go:243", after := #[{ on := 37, ground := Ground.data }, { on := 35, ground := Ground.chain }], guard := none },
 { dst := some 127, op := Op.fieldAddr 35 (Operand.tmp 10) 5, type := 0, pos := "law.go:243", after := #[{ on := 38, ground := Ground.guard }], guard := some (38, false) },
 { dst := some 128, op := Op.load 32 (Operand.tmp 127), type := 32, pos := "law.go:243", after := #[{ on := 39, ground := Ground.data }, { on := 38, ground := Ground.guard }], guard := some (38, false) },
 { dst := some 129, op := Op.fieldAddr 46 (Operand.tmp 12) 5, type := 0, pos := "law.go:243", after := #[{ on := 38, ground := Ground.guard }], guard := some (38, false) },
 { dst := some 130, op := Op.load 43 (Operand.tmp 129), type := 43, pos := "law.go:243", after := #[{ on := 41, ground := Ground.data }, { on := 38, ground := Ground.guard }], guard := some (38, false) },
 { dst := some 131, op := Op.call { callee := Callee.value (Operand.func 9), args := #[Operand.tmp 128, Operand.tmp 130], argTypes := #[32, 43] }, type := 4, pos := "law.go:243", after := #[{ on := 40, ground := Ground.data }, { on := 42, ground := Ground.data }, { on := 38, ground := Ground.chain }, { on := 38, ground := Ground.guard }], guard := some (38, false) },
 { dst := some 132, op := Op.unOp UnOp.not 4 (Operand.tmp 131), type := 4, pos := "law.go:243", after := #[{ on := 43, ground := Ground.data }, { on := 38, ground := Ground.guard }], guard := some (38, false) },
 { dst := some 133, op := Op.pick (Operand.tmp 126) (Operand.const (Value.bool true)) (Operand.tmp 132), type := 4, pos := "law.go:243", after := #[{ on := 38, ground := Ground.data }, { on := 44, ground := Ground.data }], guard := none },
 { dst := some 134, op := Op.move (Operand.tmp 133), type := 4, pos := "law.go:243", after := #[{ on := 45, ground := Ground.data }, { on := 43, ground := Ground.chain }], guard := none },
 { dst := some 135, op := Op.fieldAddr 35 (Operand.tmp 10) 6, type := 0, pos := "law.go:243", after := #[{ on := 46, ground := Ground.guard }], guard := some (46, false) },
 { dst := some 136, op := Op.load 32 (Operand.tmp 135), type := 32, pos := "law.go:243", after := #[{ on := 47, ground := Ground.data }, { on := 46, ground := Ground.guard }], guard := some (46, false) },
 { dst := some 137, op := Op.fieldAddr 46 (Operand.tmp 12) 6, type := 0, pos := "law.go:243", after := #[{ on := 46, ground := Ground.guard }], guard := some (46, false) },
 { dst := some 138, op := Op.load 43 (Operand.tmp 137), type := 43, pos := "law.go:243", after := #[{ on := 49, ground := Ground.data }, { on := 46, ground := Ground.guard }], guard := some (46, false) },
 { dst := some 139, op := Op.call { callee := Callee.value (Operand.func 9), args := #[Operand.tmp 136, Operand.tmp 138], argTypes := #[32, 43] }, type := 4, pos := "law.go:243", after := #[{ on := 48, ground := Ground.data }, { on := 50, ground := Ground.data }, { on := 46, ground := Ground.chain }, { on := 46, ground := Ground.guard }], guard := some (46, false) },
 { dst := some 140, op := Op.unOp UnOp.not 4 (Operand.tmp 139), type := 4, pos := "law.go:243", after := #[{ on := 51, ground := Ground.data }, { on := 46, ground := Ground.guard }], guard := some (46, false) },
 { dst := some 141, op := Op.pick (Operand.tmp 134) (Operand.const (Value.bool true)) (Operand.tmp 140), type := 4, pos := "law.go:243", after := #[{ on := 46, ground := Ground.data }, { on := 52, ground := Ground.data }], guard := none },
 { dst := some 142, op := Op.move (Operand.tmp 141), type := 4, pos := "law.go:243", after := #[{ on := 53, ground := Ground.data }, { on := 51, ground := Ground.chain }], guard := none },
 { dst := some 143, op := Op.fieldAddr 35 (Operand.tmp 10) 7, type := 0, pos := "law.go:243", after := #[{ on := 54, ground := Ground.guard }], guard := some (54, false) },
 { dst := some 144, op := Op.load 32 (Operand.tmp 143), type := 32, pos := "law.go:243", after := #[{ on := 55, ground := Ground.data }, { on := 54, ground := Ground.guard }], guard := some (54, false) },
 { dst := some 145, op := Op.fieldAddr 46 (Operand.tmp 12) 7, type := 0, pos := "law.go:243", after := #[{ on := 54, ground := Ground.guard }], guard := some (54, false) },
 { dst := some 146, op := Op.load 43 (Operand.tmp 145), type := 43, pos := "law.go:243", after := #[{ on := 57, ground := Ground.data }, { on := 54, ground := Ground.guard }], guard := some (54, false) },
 { dst := some 147, op := Op.call { callee := Callee.value (Operand.func 9), args := #[Operand.tmp 144, Operand.tmp 146], argTypes := #[32, 43] }, type := 4, pos := "law.go:243", after := #[{ on := 56, ground := Ground.data }, { on := 58, ground := Ground.data }, { on := 54, ground := Ground.chain }, { on := 54, ground := Ground.guard }], guard := some (54, false) },
 { dst := some 148, op := Op.unOp UnOp.not 4 (Operand.tmp 147), type := 4, pos := "law.go:243", after := #[{ on := 59, ground := Ground.data }, { on := 54, ground := Ground.guard }], guard := some (54, false) },
 { dst := some 149, op := Op.pick (Operand.tmp 142) (Operand.const (Value.bool true)) (Operand.tmp 148), type := 4, pos := "law.go:243", after := #[{ on := 54, ground := Ground.data }, { on := 60, ground := Ground.data }], guard := none }]
theorem a12 (Q : Exit → Act → World → Prop) (B D : Nat) (g : Nat → E4) (L R L' R' : Value) (u0 u1 u2 u3 u4 u5 u6 u7 u8 u9 u11 u13 u14 u15 u16 u17 u18 u19 u20 u21 u22 u23 u24 u25 u26 u27 u28 u29 u30 u31 u32 u33 u34 u35 u36 u37 u38 u39 u40 u41 u42 u43 u44 u45 u46 u47 u48 u49 u50 u51 u52 u53 u54 u55 u56 u57 u58 u59 u60 u61 u62 u63 u64 u65 u66 u67 u68 u69 u70 u71 u72 u73 u74 u75 u76 u77 u78 u79 u80 u81 u82 u83 u84 u85 u86 u87 u88 u89 u90 u91 u92 u93 u94 u95 u96 u97 u98 u99 u100 u101 u102 u103 u104 u105 u106 u107 u108 u109 u110 u111 u112 u113 u114 u115 u116 u117 u118 u119 u120 u121 u122 u123 u124 u125 u126 u127 u128 u129 u130 u131 u132 u133 u134 u135 u136 u137 u138 u139 u140 u141 u142 u143 u144 u145 u146 u147 u148 u149 u150 u151 u152 u153 u154 u155 u156 u157 u158 u159 u160 u161 : Value) (W : World) (rB : W.rangeAt B 0 (t34 g L R)) (rD : W.rangeAt D 0 (t34 g L' R'))
  (C0 : Hid (∀ x, Calls Tryz.prog 9 #[.agg #[.int .u64 (g 0).x0, .int .u64 (g 0).x1, .int .u64 (g 0).x2, .int .u64 (g 0).x3], .agg #[.int .u64 (g 0).x0, .int .u64 (g 0).x1, .int .u64 (g 0).x2, .int .u64 (g 0).x3]] x fun e w' => e = .returned (.bool true) ∧ Below x.heap.size x w')) (C1 : Hid (∀ x, Calls Tryz.prog 9 #[.agg #[.int .u64 (g 1).x0, .int .u64 (g 1).x1, .int .u64 (g 1).x2, .int .u64 (g 1).x3], .agg #[.int .u64 (g 1).x0, .int .u64 (g 1).x1, .int .u64 (g 1).x2, .int .u64 (g 1).x3]] x fun e w' => e = .returned (.bool true) ∧ Below x.heap.size x w')) (C2 : Hid (∀ x, Calls Tryz.prog 9 #[.agg #[.int .u64 (g 2).x0, .int .u64 (g 2).x1, .int .u64 (g 2).x2, .int .u64 (g 2).x3], .agg #[.int .u64 (g 2).x0, .int .u64 (g 2).x1, .int .u64 (g 2).x2, .int .u64 (g 2).x3]] x fun e w' => e = .returned (.bool true) ∧ Below x.heap.size x w')) (C3 : Hid (∀ x, Calls Tryz.prog 9 #[.agg #[.int .u64 (g 3).x0, .int .u64 (g 3).x1, .int .u64 (g 3).x2, .int .u64 (g 3).x3], .agg #[.int .u64 (g 3).x0, .int .u64 (g 3).x1, .int .u64 (g 3).x2, .int .u64 (g 3).x3]] x fun e w' => e = .returned (.bool true) ∧ Below x.heap.size x w')) (C4 : Hid (∀ x, Calls Tryz.prog 9 #[.agg #[.int .u64 (g 4).x0, .int .u64 (g 4).x1, .int .u64 (g 4).x2, .int .u64 (g 4).x3], .agg #[.int .u64 (g 4).x0, .int .u64 (g 4).x1, .int .u64 (g 4).x2, .int .u64 (g 4).x3]] x fun e w' => e = .returned (.bool true) ∧ Below x.heap.size x w')) (C5 : Hid (∀ x, Calls Tryz.prog 9 #[.agg #[.int .u64 (g 5).x0, .int .u64 (g 5).x1, .int .u64 (g 5).x2, .int .u64 (g 5).x3], .agg #[.int .u64 (g 5).x0, .int .u64 (g 5).x1, .int .u64 (g 5).x2, .int .u64 (g 5).x3]] x fun e w' => e = .returned (.bool true) ∧ Below x.heap.size x w')) (C6 : Hid (∀ x, Calls Tryz.prog 9 #[.agg #[.int .u64 (g 6).x0, .int .u64 (g 6).x1, .int .u64 (g 6).x2, .int .u64 (g 6).x3], .agg #[.int .u64 (g 6).x0, .int .u64 (g 6).x1, .int .u64 (g 6).x2, .int .u64 (g 6).x3]] x fun e w' => e = .returned (.bool true) ∧ Below x.heap.size x w')) (C7 : Hid (∀ x, Calls Tryz.prog 9 #[.agg #[.int .u64 (g 7).x0, .int .u64 (g 7).x1, .int .u64 (g 7).x2, .int .u64 (g 7).x3], .agg #[.int .u64 (g 7).x0, .int .u64 (g 7).x1, .int .u64 (g 7).x2, .int .u64 (g 7).x3]] x fun e w' => e = .returned (.bool true) ∧ Below x.heap.size x w'))
  (HQ : Hid (∀ (z88 z89 z90 z91 z92 z93 z94 z95 z96 z97 z98 z99 z100 z101 z102 z103 z104 z105 z106 z107 z108 z109 z110 z111 z112 z113 z114 z115 z116 z117 z118 z119 z120 z121 z122 z123 z124 z125 z126 z127 z128 z129 z130 z131 z132 z133 z134 z135 z136 z137 z138 z139 z140 z141 z142 z143 z144 z145 z146 z147 z148 : Value) wz, Below W.heap.size W wz → Q .normal ⟨#[u0, u1, u2, u3, u4, u5, u6, u7, u8, u9, .pointer (some ⟨B, 0, none⟩), u11, .pointer (some ⟨D, 0, none⟩), u13, u14, u15, u16, u17, u18, u19, u20, u21, u22, u23, u24, u25, u26, u27, u28, u29, u30, u31, u32, u33, u34, u35, u36, u37, u38, u39, u40, u41, u42, u43, u44, u45, u46, u47, u48, u49, u50, u51, u52, u53, u54, u55, u56, u57, u58, u59, u60, u61, u62, u63, u64, u65, u66, u67, u68, u69, u70, u71, u72, u73, u74, u75, u76, u77, u78, u79, u80, u81, u82, u83, u84, u85, u86, u87, z88, z89, z90, z91, z92, z93, z94, z95, z96, z97, z98, z99, z100, z101, z102, z103, z104, z105, z106, z107, z108, z109, z110, z111, z112, z113, z114, z115, z116, z117, z118, z119, z120, z121, z122, z123, z124, z125, z126, z127, z128, z129, z130, z131, z132, z133, z134, z135, z136, z137, z138, z139, z140, z141, z142, z143, z144, z145, z146, z147, z148, .bool false, u150, u151, u152, u153, u154, u155, u156, u157, u158, u159, u160, u161], []⟩ wz)) : (Code.region 12 a12o false).wp Tryz.prog Q ⟨#[u0, u1, u2, u3, u4, u5, u6, u7, u8, u9, .pointer (some ⟨B, 0, none⟩), u11, .pointer (some ⟨D, 0, none⟩), u13, u14, u15, u16, u17, u18, u19, u20, u21, u22, u23, u24, u25, u26, u27, u28, u29, u30, u31, u32, u33, u34, u35, u36, u37, u38, u39, u40, u41, u42, u43, u44, u45, u46, u47, u48, u49, u50, u51, u52, u53, u54, u55, u56, u57, u58, u59, u60, u61, u62, u63, u64, u65, u66, u67, u68, u69, u70, u71, u72, u73, u74, u75, u76, u77, u78, u79, u80, u81, u82, u83, u84, u85, u86, u87, u88, u89, u90, u91, u92, u93, u94, u95, u96, u97, u98, u99, u100, u101, u102, u103, u104, u105, u106, u107, u108, u109, u110, u111, u112, u113, u114, u115, u116, u117, u118, u119, u120, u121, u122, u123, u124, u125, u126, u127, u128, u129, u130, u131, u132, u133, u134, u135, u136, u137, u138, u139, u140, u141, u142, u143, u144, u145, u146, u147, u148, u149, u150, u151, u152, u153, u154, u155, u156, u157, u158, u159, u160, u161], []⟩ W := by
 have US : Hid (Tryz.prog.underlying 32 = _) := hidden Tryz.underlying32
 have UR : Hid (Tryz.prog.underlying 43 = _) := hidden Tryz.underlying43
 have RB := hidden (fun x (hx : Below W.heap.size W x) => range_keepM rB hx)
 have RD := hidden (fun x (hx : Below W.heap.size W x) => range_keepM rD hx)
 have BZ := hidden (Below.refl W.heap.size W)
 clear rB rD
 unfold a12o
 refine wp_region_lit ?_
 (iterate 1 (refine wpList_want (by rfl) (fun K hK => ?_); go_simp; refine hK.out _ _ ?_; clear hK K))
 refine wpList_loadG (by rfl) 32 _ rfl B 0 (by rfl) [.int .u64 (g 0).x0, .int .u64 (g 0).x1, .int .u64 (g 0).x2, .int .u64 (g 0).x3] _ (t34_at0 (RB.out _ BZ.out)) US.out rfl i4S ?_
 simp only [Act.put, sA, sB, sC]
 (iterate 1 (refine wpList_want (by rfl) (fun K hK => ?_); go_simp; refine hK.out _ _ ?_; clear hK K))
 refine wpList_loadG (by rfl) 43 _ rfl D 0 (by rfl) [.int .u64 (g 0).x0, .int .u64 (g 0).x1, .int .u64 (g 0).x2, .int .u64 (g 0).x3] _ (t34_at0 (RD.out _ BZ.out)) UR.out rfl i4Q ?_
 simp only [Act.put, sA, sB, sC]
 refine wpList_want (by rfl) (fun K hK => ?_)
 go_simp
 refine (C0.out _).mono ?_
 rintro e w0 ⟨rfl, hb⟩
 dsimp only
 refine hK.out _ _ ?_
 clear hK K C0
 try simp only [Act.put, sA, sB, sC]
 replace BZ := hidden (bl_trans BZ.out hb)
 clear hb
 (iterate 2 (refine wpList_want (by rfl) (fun K hK => ?_); go_simp; refine hK.out _ _ ?_; clear hK K))
 (iterate 1 (refine wpList_want (by rfl) (fun K hK => ?_); go_simp; refine hK.out _ _ ?_; clear hK K))
 refine wpList_loadG (by rfl) 32 _ rfl B 4 (by rfl) [.int .u64 (g 1).x0, .int .u64 (g 1).x1, .int .u64 (g 1).x2, .int .u64 (g 1).x3] _ (t34_at1 (RB.out _ BZ.out)) US.out rfl i4S ?_
 simp only [Act.put, sA, sB, sC]
 (iterate 1 (refine wpList_want (by rfl) (fun K hK => ?_); go_simp; refine hK.out _ _ ?_; clear hK K))
 refine wpList_loadG (by rfl) 43 _ rfl D 4 (by rfl) [.int .u64 (g 1).x0, .int .u64 (g 1).x1, .int .u64 (g 1).x2, .int .u64 (g 1).x3] _ (t34_at1 (RD.out _ BZ.out)) UR.out rfl i4Q ?_
 simp only [Act.put, sA, sB, sC]
 refine wpList_want (by rfl) (fun K hK => ?_)
 go_simp
 refine (C1.out _).mono ?_
 rintro e w1 ⟨rfl, hb⟩
 dsimp only
 refine hK.out _ _ ?_
 clear hK K C1
 try simp only [Act.put, sA, sB, sC]
 replace BZ := hidden (bl_trans BZ.out hb)
 clear hb
 (iterate 3 (refine wpList_want (by rfl) (fun K hK => ?_); go_simp; refine hK.out _ _ ?_; clear hK K))
 (iterate 1 (refine wpList_want (by rfl) (fun K hK => ?_); go_simp; refine hK.out _ _ ?_; clear hK K))
 refine wpList_loadG (by rfl) 32 _ rfl B 8 (by rfl) [.int .u64 (g 2).x0, .int .u64 (g 2).x1, .int .u64 (g 2).x2, .int .u64 (g 2).x3] _ (t34_at2 (RB.out _ BZ.out)) US.out rfl i4S ?_
 simp only [Act.put, sA, sB, sC]
 (iterate 1 (refine wpList_want (by rfl) (fun K hK => ?_); go_simp; refine hK.out _ _ ?_; clear hK K))
 refine wpList_loadG (by rfl) 43 _ rfl D 8 (by rfl) [.int .u64 (g 2).x0, .int .u64 (g 2).x1, .int .u64 (g 2).x2, .int .u64 (g 2).x3] _ (t34_at2 (RD.out _ BZ.out)) UR.out rfl i4Q ?_
 simp only [Act.put, sA, sB, sC]
 refine wpList_want (by rfl) (fun K hK => ?_)
 go_simp
 refine (C2.out _).mono ?_
 rintro e w2 ⟨rfl, hb⟩
 dsimp only
 refine hK.out _ _ ?_
 clear hK K C2
 try simp only [Act.put, sA, sB, sC]
 replace BZ := hidden (bl_trans BZ.out hb)
 clear hb
 (iterate 3 (refine wpList_want (by rfl) (fun K hK => ?_); go_simp; refine hK.out _ _ ?_; clear hK K))
 (iterate 1 (refine wpList_want (by rfl) (fun K hK => ?_); go_simp; refine hK.out _ _ ?_; clear hK K))
 refine wpList_loadG (by rfl) 32 _ rfl B 12 (by rfl) [.int .u64 (g 3).x0, .int .u64 (g 3).x1, .int .u64 (g 3).x2, .int .u64 (g 3).x3] _ (t34_at3 (RB.out _ BZ.out)) US.out rfl i4S ?_
 simp only [Act.put, sA, sB, sC]
 (iterate 1 (refine wpList_want (by rfl) (fun K hK => ?_); go_simp; refine hK.out _ _ ?_; clear hK K))
 refine wpList_loadG (by rfl) 43 _ rfl D 12 (by rfl) [.int .u64 (g 3).x0, .int .u64 (g 3).x1, .int .u64 (g 3).x2, .int .u64 (g 3).x3] _ (t34_at3 (RD.out _ BZ.out)) UR.out rfl i4Q ?_
 simp only [Act.put, sA, sB, sC]
 refine wpList_want (by rfl) (fun K hK => ?_)
 go_simp
 refine (C3.out _).mono ?_
 rintro e w3 ⟨rfl, hb⟩
 dsimp only
 refine hK.out _ _ ?_
 clear hK K C3
 try simp only [Act.put, sA, sB, sC]
 replace BZ := hidden (bl_trans BZ.out hb)
 clear hb
 (iterate 3 (refine wpList_want (by rfl) (fun K hK => ?_); go_simp; refine hK.out _ _ ?_; clear hK K))
 (iterate 1 (refine wpList_want (by rfl) (fun K hK => ?_); go_simp; refine hK.out _ _ ?_; clear hK K))
 refine wpList_loadG (by rfl) 32 _ rfl B 16 (by rfl) [.int .u64 (g 4).x0, .int .u64 (g 4).x1, .int .u64 (g 4).x2, .int .u64 (g 4).x3] _ (t34_at4 (RB.out _ BZ.out)) US.out rfl i4S ?_
 simp only [Act.put, sA, sB, sC]
 (iterate 1 (refine wpList_want (by rfl) (fun K hK => ?_); go_simp; refine hK.out _ _ ?_; clear hK K))
 refine wpList_loadG (by rfl) 43 _ rfl D 16 (by rfl) [.int .u64 (g 4).x0, .int .u64 (g 4).x1, .int .u64 (g 4).x2, .int .u64 (g 4).x3] _ (t34_at4 (RD.out _ BZ.out)) UR.out rfl i4Q ?_
 simp only [Act.put, sA, sB, sC]
 refine wpList_want (by rfl) (fun K hK => ?_)
 go_simp
 refine (C4.out _).mono ?_
 rintro e w4 ⟨rfl, hb⟩
 dsimp only
 refine hK.out _ _ ?_
 clear hK K C4
 try simp only [Act.put, sA, sB, sC]
 replace BZ := hidden (bl_trans BZ.out hb)
 clear hb
 (iterate 3 (refine wpList_want (by rfl) (fun K hK => ?_); go_simp; refine hK.out _ _ ?_; clear hK K))
 (iterate 1 (refine wpList_want (by rfl) (fun K hK => ?_); go_simp; refine hK.out _ _ ?_; clear hK K))
 refine wpList_loadG (by rfl) 32 _ rfl B 20 (by rfl) [.int .u64 (g 5).x0, .int .u64 (g 5).x1, .int .u64 (g 5).x2, .int .u64 (g 5).x3] _ (t34_at5 (RB.out _ BZ.out)) US.out rfl i4S ?_
 simp only [Act.put, sA, sB, sC]
 (iterate 1 (refine wpList_want (by rfl) (fun K hK => ?_); go_simp; refine hK.out _ _ ?_; clear hK K))
 refine wpList_loadG (by rfl) 43 _ rfl D 20 (by rfl) [.int .u64 (g 5).x0, .int .u64 (g 5).x1, .int .u64 (g 5).x2, .int .u64 (g 5).x3] _ (t34_at5 (RD.out _ BZ.out)) UR.out rfl i4Q ?_
 simp only [Act.put, sA, sB, sC]
 refine wpList_want (by rfl) (fun K hK => ?_)
 go_simp
 refine (C5.out _).mono ?_
 rintro e w5 ⟨rfl, hb⟩
 dsimp only
 refine hK.out _ _ ?_
 clear hK K C5
 try simp only [Act.put, sA, sB, sC]
 replace BZ := hidden (bl_trans BZ.out hb)
 clear hb
 (iterate 3 (refine wpList_want (by rfl) (fun K hK => ?_); go_simp; refine hK.out _ _ ?_; clear hK K))
 (iterate 1 (refine wpList_want (by rfl) (fun K hK => ?_); go_simp; refine hK.out _ _ ?_; clear hK K))
 refine wpList_loadG (by rfl) 32 _ rfl B 24 (by rfl) [.int .u64 (g 6).x0, .int .u64 (g 6).x1, .int .u64 (g 6).x2, .int .u64 (g 6).x3] _ (t34_at6 (RB.out _ BZ.out)) US.out rfl i4S ?_
 simp only [Act.put, sA, sB, sC]
 (iterate 1 (refine wpList_want (by rfl) (fun K hK => ?_); go_simp; refine hK.out _ _ ?_; clear hK K))
 refine wpList_loadG (by rfl) 43 _ rfl D 24 (by rfl) [.int .u64 (g 6).x0, .int .u64 (g 6).x1, .int .u64 (g 6).x2, .int .u64 (g 6).x3] _ (t34_at6 (RD.out _ BZ.out)) UR.out rfl i4Q ?_
 simp only [Act.put, sA, sB, sC]
 refine wpList_want (by rfl) (fun K hK => ?_)
 go_simp
 refine (C6.out _).mono ?_
 rintro e w6 ⟨rfl, hb⟩
 dsimp only
 refine hK.out _ _ ?_
 clear hK K C6
 try simp only [Act.put, sA, sB, sC]
 replace BZ := hidden (bl_trans BZ.out hb)
 clear hb
 (iterate 3 (refine wpList_want (by rfl) (fun K hK => ?_); go_simp; refine hK.out _ _ ?_; clear hK K))
 (iterate 1 (refine wpList_want (by rfl) (fun K hK => ?_); go_simp; refine hK.out _ _ ?_; clear hK K))
 refine wpList_loadG (by rfl) 32 _ rfl B 28 (by rfl) [.int .u64 (g 7).x0, .int .u64 (g 7).x1, .int .u64 (g 7).x2, .int .u64 (g 7).x3] _ (t34_at7 (RB.out _ BZ.out)) US.out rfl i4S ?_
 simp only [Act.put, sA, sB, sC]
 (iterate 1 (refine wpList_want (by rfl) (fun K hK => ?_); go_simp; refine hK.out _ _ ?_; clear hK K))
 refine wpList_loadG (by rfl) 43 _ rfl D 28 (by rfl) [.int .u64 (g 7).x0, .int .u64 (g 7).x1, .int .u64 (g 7).x2, .int .u64 (g 7).x3] _ (t34_at7 (RD.out _ BZ.out)) UR.out rfl i4Q ?_
 simp only [Act.put, sA, sB, sC]
 refine wpList_want (by rfl) (fun K hK => ?_)
 go_simp
 refine (C7.out _).mono ?_
 rintro e w7 ⟨rfl, hb⟩
 dsimp only
 refine hK.out _ _ ?_
 clear hK K C7
 try simp only [Act.put, sA, sB, sC]
 replace BZ := hidden (bl_trans BZ.out hb)
 clear hb
 (iterate 2 (refine wpList_want (by rfl) (fun K hK => ?_); go_simp; refine hK.out _ _ ?_; clear hK K))
 refine wpList_nil ?_
 exact HQ.out _ _ _ _ _ _ _ _ _ _ _ _ _ _ _ _ _ _ _ _ _ _ _ _ _ _ _ _ _ _ _ _ _ _ _ _ _ _ _ _ _ _ _ _ _ _ _ _ _ _ _ _ _ _ _ _ _ _ _ _ _ _ BZ.out
end Ci
end Go.Proofs.YtkoilaoogphgfaaGreatDoor
