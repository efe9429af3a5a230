import Derived.Test.YthngomhhafoamaaGreatDoorTk
import Derived.Test.YthngomhhafoamaaGreatDoorProg
import Derived.Deep.RegionLaw
import Derived.Deep.MidRow
import Derived.Deep.OwnRows
import Derived.Laws.OwnMore
import Derived.Laws.AppendOwn
import Derived.Laws.AppendOwnNone
import Derived.Laws.IdiomStrings
import Derived.Laws.MakeOwn
import Derived.Maps.AppendAt
import Derived.OwnWalk
import Derived.Lib.AppendStr
import Derived.Lib.ConvBytes
namespace Go.Proofs.YthngomhhafoamaaGreatDoor.Tr
open Go.RowKit
theorem Hn {p : Prop} (h : p) : Hid p := h
theorem bl_trans {w w1 w2 : World} (h1 : Below w.heap.size w w1) (h2 : Below w1.heap.size w1 w2) : Below w.heap.size w w2 := h1.trans (h2.mono h1.size)
theorem bl_alloc (w : World) (o : Obj) : Below w.heap.size w (w.alloc o) := (Below.refl _ _).alloc (Nat.le_refl _) _
theorem drew_blW (w : World) : Below w.heap.size w w.drew := ⟨rfl, rfl, rfl, Nat.le_refl _, fun _ _ => rfl⟩
theorem cell_keep {w w' : World} {a : Addr} {v : Value} (h : w.cell? a = some v) (hb : Below w.heap.size w w') : w'.cell? a = some v := by
 rw [hb.cell (p := a) (World.block_lt_of_cell? w a h)]; exact h
theorem below_trans {n : Nat} {w1 w2 w3 : World} (h1 : Below n w1 w2) (h2 : Below n w2 w3) : Below n w1 w3 := ⟨h2.os.trans h1.os, h2.tape.trans h1.tape, h2.output.trans h1.output, Nat.le_trans h1.size h2.size, fun k hk => (h2.block k hk).trans (h1.block k hk)⟩
theorem below_grown {w w' : World} {row : Option Nat} {base : Nat} (hg : w.grownBy w' row) (hb : base ≤ w.heap.size) (hr : ∀ k, row = some k → base ≤ k) : Below base w w' :=
 ⟨hg.os, hg.tape, hg.output, hg.size, fun k hk => hg.block k (by omega) (fun e => by have := hr k e.symm; omega)⟩
theorem cells_new (w : World) (cs : List Value) (t : TypeId) : ∀ j u, cs[j]? = some u → (w.alloc (.cells cs.toArray t)).cell? ((⟨w.heap.size, 0, none⟩ : Addr).add j) = some u := by
 intro j u hu
 have hadd : (⟨w.heap.size, 0, none⟩ : Addr).add j = ⟨w.heap.size, j, none⟩ := by unfold Addr.add; split <;> simp_all
 rw [hadd, cell_of_row (w.alloc (.cells cs.toArray t)) w.heap.size j cs.toArray t (0, 0) (heap_alloc_new w _)]
 simpa using hu
def cb (bs : List UInt8) : List Value := bs.map fun b => Value.int .u8 (b.toNat : Int)
theorem cb_len (bs : List UInt8) : (cb bs).length = bs.length := by simp [cb]
theorem cb_app (a b : List UInt8) : cb (a ++ b) = cb a ++ cb b := by simp [cb]
theorem cb_one (bs : List UInt8) : ∀ u ∈ cb bs, u.oneCell' = true := by
 intro u hu
 obtain ⟨b, _, rfl⟩ := List.mem_map.1 hu
 rfl
theorem cb_at (bs : List UInt8) (j : Nat) (h : j < bs.length) : (cb bs)[j]? = some (.int .u8 (bs[j].toNat : Int)) := by simp [cb, List.getElem?_eq_getElem h]
def sb (bs : List UInt8) : ByteArray := ⟨bs.toArray⟩
theorem sb_size (bs : List UInt8) : (sb bs).size = bs.length := by simp [sb, ByteArray.size]
theorem sb_cells (l : List UInt8) : Lib.strCells (sb l) = cb l := by simp [Lib.strCells, sb, cb]
structure By (w : World) (P : Option Addr) (c : Nat) (bs : List UInt8) : Prop where
 nil : P = none → bs = [] ∧ c = 0
 lie : ∀ a, P = some a → ∀ j u, (cb bs)[j]? = some u → w.cell? (a.add j) = some u
theorem By.keep {w w' : World} {P : Option Addr} {c : Nat} {bs : List UInt8} (h : By w P c bs) (hb : Below w.heap.size w w') : By w' P c bs :=
 ⟨h.nil, fun a ha j u hu => cell_keep (h.lie a ha j u hu) hb⟩
theorem by_conv {w : World} {P : Option Addr} {c : Nat} {bs : List UInt8} (h : By w P c bs) : (convert 44 9 (.slice P bs.length c)).run Tryz.prog w = .ok (.string (sb bs)) w := by
 have h1 : Tryz.prog.underlying 44 = some (.slice 5) := by kernel_rfl
 have h2 : Tryz.prog.underlying 5 = some (.int .u8) := by kernel_rfl
 have h3 : Tryz.prog.underlying 9 = some .string := by kernel_rfl
 cases P with
 | none =>
  obtain ⟨rfl, rfl⟩ := h.nil rfl
  exact run_convert_bytes_nil w _ _ h1 h2 0 0 _ h3
 | some a =>
  exact run_convert_bytes_back w _ _ _ a c bs h1 h2 h3 (fun j hj => h.lie a rfl j _ (cb_at bs j hj))
theorem own_by {w : World} {base : Nat} {v : Value} {bs : List UInt8} (h : w.ownsRow base 5 1 v bs.length (cb bs)) : ∃ (P : Option Addr) (c : Nat), v = .slice P bs.length c ∧ By w P c bs := by
 rcases h.2 with ⟨rfl, h0⟩ | ⟨g, cap, cur, rfl, hb, hg, hnc, hcm, hcs, htake⟩
 ·have : bs = [] := List.eq_nil_of_length_eq_zero h0
  subst this
  exact ⟨none, 0, rfl, fun _ => ⟨rfl, rfl⟩, fun a ha => by cases ha⟩
 ·refine ⟨some ⟨g, 0, none⟩, cap, rfl, fun h => (by cases h), fun a ha => ?_⟩
  obtain rfl := Option.some.inj ha
  exact h.cells rfl
theorem run_app_by (w : World) (base ty : Nat) (v : Value) (xs bs : List UInt8) (P : Option Addr) (c : Nat) (ho : w.ownsRow base 5 1 v xs.length (cb xs)) (hB : By w P c bs) (hx : xs.length + bs.length ≤ 2 ^ 47) (hb : base ≤ w.heap.size) :
  ∃ v' w', (Builtin.append_ #[44, 44] ty #[v, .slice P bs.length c]).run Tryz.prog w = .ok v' w' ∧ w'.ownsRow base 5 1 v' (xs ++ bs).length (cb (xs ++ bs)) ∧ w.grownBy w' v.ownBlock := by
 have h1 : Tryz.prog.underlying 44 = some (.slice 5) := by kernel_rfl
 have hi : Tryz.prog.info? 5 = some (Tryz.prog.info? 5).get! := by kernel_rfl
 have hz : (Tryz.prog.info? 5).get!.zero = some (.int .u8 0) := by kernel_rfl
 have hs : (Tryz.prog.info? 5).get!.size = 1 := by kernel_rfl
 have hy : (Tryz.prog.info? 5).get!.bytes = 1 := by kernel_rfl
 cases P with
 | none =>
  obtain ⟨rfl, rfl⟩ := hB.nil rfl
  refine ⟨v, w, run_append_owned_none w base _ _ _ _ 1 h1 hi v _ _ ho, by simpa using ho, ⟨rfl, rfl, rfl, Nat.le_refl _, fun _ _ _ => rfl⟩⟩
 | some a =>
  obtain ⟨v', w', hr, ho', hg, _⟩ := run_append_own (P := Tryz.prog) w base _ ty _ _ _ 1 1 h1 hi hz hs hy rfl (by decide) v _ _ ho a bs.length c (cb bs) (by simp [cb_len]) (hB.lie a rfl) (cb_one bs) (by unfold maxLen; omega) (by omega) hb
  refine ⟨v', w', hr, ?_, hg⟩
  rw [List.length_append, cb_app]
  exact ho'
theorem wpList_app_by {w : World} {ops : Array Oper} {rest : List Oper} {o : Oper} {a : Act} {Q : Exit → Act → World → Prop} (hgd : o.guard = none) (sl x : Operand)
  (ho : o.op = .call { callee := .builtin .append, args := #[sl, x], argTypes := #[44, 44] })
  (base : Nat) (v : Value) (xs bs : List UInt8) (P : Option Addr) (c : Nat) (hs : a.eval sl = v) (hx : a.eval x = .slice P bs.length c) (hown : w.ownsRow base 5 1 v xs.length (cb xs)) (hB : By w P c bs) (hl : xs.length + bs.length ≤ 2 ^ 47) (hbase : base ≤ w.heap.size)
  (h : ∀ v' w', w'.ownsRow base 5 1 v' (xs ++ bs).length (cb (xs ++ bs)) → w.grownBy w' v.ownBlock → wpList Tryz.prog ops Q rest (a.put o.dst v') w') : wpList Tryz.prog ops Q (o :: rest) a w := by
 refine wpList_plain hgd fun K hK => ?_
 obtain ⟨v', w', hr, h2, h3⟩ := run_app_by w base o.type v xs bs P c hown hB hl hbase
 unfold Oper.wp execOp
 simp only [ho, resolve, invoke, builtin, Sem.run_bind, Sem.run_pure, Result.andThen_ok, List.map_toArray, List.map_cons, List.map_nil, hs, hx, hr]
 exact hK _ _ (h v' w' h2 h3)
end Go.Proofs.YthngomhhafoamaaGreatDoor.Tr
