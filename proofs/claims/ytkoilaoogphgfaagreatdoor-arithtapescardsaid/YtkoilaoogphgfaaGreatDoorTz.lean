import Derived.Test.YtkoilaoogphgfaaGreatDoorProg
import Derived.WalkKit
import Derived.WalkSpells
import Derived.WalkLawsBesides
import Derived.Deep.DeepCutAuto
import Derived.Deep.DeepMust
import Derived.Deep.RegionHeld3
import Derived.Deep.RegionLaw
import Derived.Deep.MidRow
import Derived.Deep.OwnRows
import Derived.Laws.OwnMore
import Derived.Laws.AppendOwn
import Derived.Laws.AppendOwnNone
import Derived.Laws.IdiomStrings
import Derived.Laws.MakeOwn
import Derived.Maps.AppendAt
import Derived.OwnWalk
import Derived.Lib.AppendStr
import Derived.Lib.ConvBytes
import Derived.Lib.SliceRun
namespace Go.Proofs.YtkoilaoogphgfaaGreatDoor.Tr
def le8 (n : Nat) : List UInt8 := (List.range 8).map fun i => UInt8.ofNat (n / 2 ^ (8 * i))
theorem le8_len (n : Nat) : (le8 n).length = 8 := by simp [le8]
theorem le8_inj {a b : Nat} (ha : a < 2 ^ 64) (hb : b < 2 ^ 64) (h : le8 a = le8 b) : a = b := by
 have k : ∀ i, i < 8 → a / 2 ^ (8 * i) % 256 = b / 2 ^ (8 * i) % 256 := fun i hi => by
  have h1 := congrArg (fun l => (l.getD i 0).toNat) h
  simpa [le8, List.getElem?_map, List.getElem?_range hi] using h1
 have k0 := k 0 (by omega)
 have k1 := k 1 (by omega)
 have k2 := k 2 (by omega)
 have k3 := k 3 (by omega)
 have k4 := k 4 (by omega)
 have k5 := k 5 (by omega)
 have k6 := k 6 (by omega)
 have k7 := k 7 (by omega)
 simp only [Nat.mul_zero, Nat.pow_zero, Nat.div_one, Nat.reduceMul, Nat.reducePow] at k0 k1 k2 k3 k4 k5 k6 k7 ha hb
 omega
def pt8 (p : List UInt8) : List UInt8 := le8 p.length ++ p
def fr (l : List UInt8) (ps : List (List UInt8)) : List UInt8 := le8 l.length ++ l ++ le8 ps.length ++ ps.flatMap pt8
def frl (l : List UInt8) (ps : List (List UInt8)) : Nat := 16 + l.length + (ps.map fun p => 8 + p.length).sum
theorem parts_len : ∀ ps : List (List UInt8), (ps.flatMap pt8).length = (ps.map fun p => 8 + p.length).sum
 | [] => rfl
 | p :: r => by
  rw [List.flatMap_cons, List.length_append, parts_len r, List.map_cons, List.sum_cons, pt8, List.length_append, le8_len]
theorem fr_len (l : List UInt8) (ps : List (List UInt8)) : (fr l ps).length = frl l ps := by
 simp only [fr, frl, List.length_append, le8_len, parts_len]
 omega
theorem parts_inj : ∀ (a b : List (List UInt8)) (r t : List UInt8), a.length = b.length → (∀ p ∈ a, p.length < 2 ^ 64) → (∀ p ∈ b, p.length < 2 ^ 64) → a.flatMap pt8 ++ r = b.flatMap pt8 ++ t → a = b
 | [], [], _, _, _, _, _, _ => rfl
 | [], _ :: _, _, _, h, _, _, _ => by simp at h
 | _ :: _, [], _, _, h, _, _, _ => by simp at h
 | p :: a, q :: b, r, t, h, ha, hb, e => by
  simp only [List.flatMap_cons, pt8, List.append_assoc] at e
  have e1 := List.append_inj e (by simp [le8_len])
  have e2 := le8_inj (ha p (by simp)) (hb q (by simp)) e1.1
  have e3 := List.append_inj e1.2 e2
  have e4 := parts_inj a b r t (by simpa using h) (fun x hx => ha x (by simp [hx])) (fun x hx => hb x (by simp [hx])) e3.2
  rw [e3.1, e4]
theorem fr_inj {l m : List UInt8} {a b : List (List UInt8)} {r t : List UInt8} (hl : l.length < 2 ^ 64) (hm : m.length < 2 ^ 64) (hla : a.length < 2 ^ 64) (hlb : b.length < 2 ^ 64) (ha : ∀ p ∈ a, p.length < 2 ^ 64) (hb : ∀ p ∈ b, p.length < 2 ^ 64) (e : fr l a ++ r = fr m b ++ t) : l = m ∧ a = b := by
 simp only [fr, List.append_assoc] at e
 have e1 := List.append_inj e (by simp [le8_len])
 have e2 := le8_inj hl hm e1.1
 have e3 := List.append_inj e1.2 e2
 have e4 := List.append_inj e3.2 (by simp [le8_len])
 have e5 := le8_inj hla hlb e4.1
 exact ⟨e3.1, parts_inj a b r t e5 ha hb e4.2⟩
theorem mem_le : ∀ (ps : List (List UInt8)) (p : List UInt8), p ∈ ps → 8 + p.length ≤ (ps.map fun p => 8 + p.length).sum
 | q :: r, p, h => by
  rw [List.map_cons, List.sum_cons]
  rcases List.mem_cons.1 h with rfl | h
  ·omega
  ·have := mem_le r p h
   omega
theorem len_le : ∀ (ps : List (List UInt8)), 8 * ps.length ≤ (ps.map fun p => 8 + p.length).sum
 | [] => by simp
 | q :: r => by
  have := len_le r
  rw [List.map_cons, List.sum_cons, List.length_cons]
  omega
theorem take_sum : ∀ (ps : List (List UInt8)) (k : Nat), ((ps.take k).map fun p => 8 + p.length).sum ≤ (ps.map fun p => 8 + p.length).sum
 | [], k => by simp
 | q :: r, 0 => by simp
 | q :: r, k + 1 => by
  have := take_sum r k
  simp only [List.take_succ_cons, List.map_cons, List.sum_cons]
  omega
theorem take_next {α : Type} (l : List α) (d : α) (k : Nat) (h : k < l.length) : l.take (k + 1) = l.take k ++ [l.getD k d] := by
 rw [List.take_add_one]
 congr 1
 simp [List.getElem?_eq_getElem h]
theorem sum_next (ps : List (List UInt8)) (k : Nat) (h : k < ps.length) : ((ps.take (k + 1)).map fun p => 8 + p.length).sum = ((ps.take k).map fun p => 8 + p.length).sum + (8 + (ps.getD k []).length) := by
 rw [take_next ps [] k h, List.map_append, List.sum_append]
 simp
def Bd (ps : List (List UInt8)) : Prop := ps.length ≤ 5864062014634 ∧ ∀ r, r < ps.length → (ps.getD r []).length ≤ 140737488351232
end Go.Proofs.YtkoilaoogphgfaaGreatDoor.Tr
namespace Go.Proofs.YtkoilaoogphgfaaGreatDoor.Tr
open Go.RowKit
theorem hidden {p : Prop} (h : p) : Hid p := h
theorem bl_trans {w w1 w2 : World} (h1 : Below w.heap.size w w1) (h2 : Below w1.heap.size w1 w2) : Below w.heap.size w w2 := h1.trans (h2.mono h1.size)
theorem bl_alloc (w : World) (o : Obj) : Below w.heap.size w (w.alloc o) := (Below.refl _ _).alloc (Nat.le_refl _) _
theorem cell_keep {w w' : World} {a : Addr} {v : Value} (h : w.cell? a = some v) (hb : Below w.heap.size w w') : w'.cell? a = some v := by
 rw [hb.cell (p := a) (World.block_lt_of_cell? w a h)]; exact h
theorem below_trans {n : Nat} {w1 w2 w3 : World} (h1 : Below n w1 w2) (h2 : Below n w2 w3) : Below n w1 w3 := ⟨h2.os.trans h1.os, h2.tape.trans h1.tape, h2.output.trans h1.output, Nat.le_trans h1.size h2.size, fun k hk => (h2.block k hk).trans (h1.block k hk)⟩
theorem below_grown {w w' : World} {row : Option Nat} {base : Nat} (hg : w.grownBy w' row) (hb : base ≤ w.heap.size) (hr : ∀ k, row = some k → base ≤ k) : Below base w w' :=
 ⟨hg.os, hg.tape, hg.output, hg.size, fun k hk => hg.block k (by omega) (fun e => by have := hr k e.symm; omega)⟩
theorem cells_new (w : World) (cs : List Value) (t : TypeId) : ∀ j u, cs[j]? = some u → (w.alloc (.cells cs.toArray t)).cell? ((⟨w.heap.size, 0, none⟩ : Addr).add j) = some u := by
 intro j u hu
 have hadd : (⟨w.heap.size, 0, none⟩ : Addr).add j = ⟨w.heap.size, j, none⟩ := by unfold Addr.add; split <;> simp_all
 rw [hadd, cell_of_row (w.alloc (.cells cs.toArray t)) w.heap.size j cs.toArray t (0, 0) (heap_alloc_new w _)]
 simpa using hu
def cb (bs : List UInt8) : List Value := bs.map fun b => Value.int .u8 (b.toNat : Int)
theorem cb_len (bs : List UInt8) : (cb bs).length = bs.length := by simp [cb]
theorem cb_app (a b : List UInt8) : cb (a ++ b) = cb a ++ cb b := by simp [cb]
theorem cb_one (bs : List UInt8) : ∀ u ∈ cb bs, u.oneCell' = true := by
 intro u hu
 obtain ⟨b, _, rfl⟩ := List.mem_map.1 hu
 rfl
theorem cb_at (bs : List UInt8) (j : Nat) (h : j < bs.length) : (cb bs)[j]? = some (.int .u8 (bs[j].toNat : Int)) := by simp [cb, List.getElem?_eq_getElem h]
def sb (bs : List UInt8) : ByteArray := ⟨bs.toArray⟩
theorem sb_size (bs : List UInt8) : (sb bs).size = bs.length := by simp [sb, ByteArray.size]
theorem sb_cells (l : List UInt8) : Lib.strCells (sb l) = cb l := by simp [Lib.strCells, sb, cb]
structure By (w : World) (P : Option Addr) (c : Nat) (bs : List UInt8) : Prop where
 nil : P = none → bs = [] ∧ c = 0
 lie : ∀ a, P = some a → ∀ j u, (cb bs)[j]? = some u → w.cell? (a.add j) = some u
theorem By.keep {w w' : World} {P : Option Addr} {c : Nat} {bs : List UInt8} (h : By w P c bs) (hb : Below w.heap.size w w') : By w' P c bs :=
 ⟨h.nil, fun a ha j u hu => cell_keep (h.lie a ha j u hu) hb⟩
theorem by_conv {w : World} {P : Option Addr} {c : Nat} {bs : List UInt8} (h : By w P c bs) : (convert 25 9 (.slice P bs.length c)).run Tryz.prog w = .ok (.string (sb bs)) w := by
 have h1 : Tryz.prog.underlying 25 = some (.slice 5) := by kernel_rfl
 have h2 : Tryz.prog.underlying 5 = some (.int .u8) := by kernel_rfl
 have h3 : Tryz.prog.underlying 9 = some .string := by kernel_rfl
 cases P with
 | none =>
  obtain ⟨rfl, rfl⟩ := h.nil rfl
  exact run_convert_bytes_nil w _ _ h1 h2 0 0 _ h3
 | some a =>
  exact run_convert_bytes_back w _ _ _ a c bs h1 h2 h3 (fun j hj => h.lie a rfl j _ (cb_at bs j hj))
theorem own_by {w : World} {base : Nat} {v : Value} {bs : List UInt8} (h : w.ownsRow base 5 1 v bs.length (cb bs)) : ∃ (P : Option Addr) (c : Nat), v = .slice P bs.length c ∧ By w P c bs := by
 rcases h.2 with ⟨rfl, h0⟩ | ⟨g, cap, cur, rfl, hb, hg, hnc, hcm, hcs, htake⟩
 ·have : bs = [] := List.eq_nil_of_length_eq_zero h0
  subst this
  exact ⟨none, 0, rfl, fun _ => ⟨rfl, rfl⟩, fun a ha => by cases ha⟩
 ·refine ⟨some ⟨g, 0, none⟩, cap, rfl, fun h => (by cases h), fun a ha => ?_⟩
  obtain rfl := Option.some.inj ha
  exact h.cells rfl
theorem run_app_by (w : World) (base ty : Nat) (v : Value) (xs bs : List UInt8) (P : Option Addr) (c : Nat) (ho : w.ownsRow base 5 1 v xs.length (cb xs)) (hB : By w P c bs) (hx : xs.length + bs.length ≤ 2 ^ 47) (hb : base ≤ w.heap.size) :
  ∃ v' w', (Builtin.append_ #[25, 25] ty #[v, .slice P bs.length c]).run Tryz.prog w = .ok v' w' ∧ w'.ownsRow base 5 1 v' (xs ++ bs).length (cb (xs ++ bs)) ∧ w.grownBy w' v.ownBlock := by
 have h1 : Tryz.prog.underlying 25 = some (.slice 5) := by kernel_rfl
 have hi : Tryz.prog.info? 5 = some (Tryz.prog.info? 5).get! := by kernel_rfl
 have hz : (Tryz.prog.info? 5).get!.zero = some (.int .u8 0) := by kernel_rfl
 have hs : (Tryz.prog.info? 5).get!.size = 1 := by kernel_rfl
 have hy : (Tryz.prog.info? 5).get!.bytes = 1 := by kernel_rfl
 cases P with
 | none =>
  obtain ⟨rfl, rfl⟩ := hB.nil rfl
  refine ⟨v, w, run_append_owned_none w base _ _ _ _ 1 h1 hi v _ _ ho, by simpa using ho, ⟨rfl, rfl, rfl, Nat.le_refl _, fun _ _ _ => rfl⟩⟩
 | some a =>
  obtain ⟨v', w', hr, ho', hg, _⟩ := run_append_own (P := Tryz.prog) w base _ ty _ _ _ 1 1 h1 hi hz hs hy rfl (by decide) v _ _ ho a bs.length c (cb bs) (by simp [cb_len]) (hB.lie a rfl) (cb_one bs) (by unfold maxLen; omega) (by omega) hb
  refine ⟨v', w', hr, ?_, hg⟩
  rw [List.length_append, cb_app]
  exact ho'
theorem wpList_app_by {w : World} {ops : Array Oper} {rest : List Oper} {o : Oper} {a : Act} {Q : Exit → Act → World → Prop} (hgd : o.guard = none) (sl x : Operand)
  (ho : o.op = .call { callee := .builtin .append, args := #[sl, x], argTypes := #[25, 25] })
  (base : Nat) (v : Value) (xs bs : List UInt8) (P : Option Addr) (c : Nat) (hs : a.eval sl = v) (hx : a.eval x = .slice P bs.length c) (hown : w.ownsRow base 5 1 v xs.length (cb xs)) (hB : By w P c bs) (hl : xs.length + bs.length ≤ 2 ^ 47) (hbase : base ≤ w.heap.size)
  (h : ∀ v' w', w'.ownsRow base 5 1 v' (xs ++ bs).length (cb (xs ++ bs)) → w.grownBy w' v.ownBlock → wpList Tryz.prog ops Q rest (a.put o.dst v') w') : wpList Tryz.prog ops Q (o :: rest) a w := by
 refine wpList_plain hgd fun K hK => ?_
 obtain ⟨v', w', hr, h2, h3⟩ := run_app_by w base o.type v xs bs P c hown hB hl hbase
 unfold Oper.wp execOp
 simp only [ho, resolve, invoke, builtin, Sem.run_bind, Sem.run_pure, Result.andThen_ok, List.map_toArray, List.map_cons, List.map_nil, hs, hx, hr]
 exact hK _ _ (h v' w' h2 h3)
end Go.Proofs.YtkoilaoogphgfaaGreatDoor.Tr
namespace Go.Proofs.YtkoilaoogphgfaaGreatDoor.Tr
open Go.RowKit
theorem sb_list (l : List UInt8) : (sb l).toList = l := by
 rw [ByteArray.toList_eq]
 simp [sb]
theorem own_stay {w w' : World} {base size n : Nat} {e : TypeId} {v : Value} {xs : List Value} (h : w.ownsRow base e size v n xs) (hb : Below w.heap.size w w') : w'.ownsRow base e size v n xs := by
 refine ⟨h.1, ?_⟩
 rcases h.2 with hn | ⟨g, cap, cur, rfl, hbg, hgg, rest⟩
 ·exact .inl hn
 ·refine .inr ⟨g, cap, cur, rfl, hbg, ?_, rest⟩
  rw [hb.block g (Array.getElem?_eq_some_iff.1 hgg).1]
  exact hgg
theorem own_byQ {w : World} {base c n : Nat} {P : Option Addr} {bs : List UInt8} (h : w.ownsRow base 5 1 (.slice P n c) n (cb bs)) : By w P c bs := by
 rcases h.2 with ⟨hv, h0⟩ | ⟨g, cap, cur, hv, _⟩
 ·simp only [Value.slice.injEq] at hv
  obtain ⟨rfl, rfl, rfl⟩ := hv
  have : bs = [] := List.eq_nil_of_length_eq_zero (by have := h.1; rw [cb_len] at this; omega)
  subst this
  exact ⟨fun _ => ⟨rfl, rfl⟩, fun a ha => (by cases ha)⟩
 ·simp only [Value.slice.injEq] at hv
  obtain ⟨rfl, _, rfl⟩ := hv
  exact ⟨fun h => (by cases h), fun a ha => by obtain rfl := Option.some.inj ha; exact h.cells rfl⟩
theorem By.front {w : World} {P : Option Addr} {c : Nat} {a b : List UInt8} (h : By w P c (a ++ b)) : By w P c a :=
 ⟨fun e => ⟨(List.append_eq_nil_iff.1 (h.nil e).1).1, (h.nil e).2⟩, fun x hx j u hu => h.lie x hx j u (by
  rw [cb_app, List.getElem?_append_left (List.getElem?_eq_some_iff.1 hu).1]
  exact hu)⟩
theorem by_list (w : World) (l : List UInt8) (c : Nat) : By (w.alloc (.cells (cb l).toArray 5)) (some ⟨w.heap.size, 0, none⟩) c l :=
 ⟨fun h => (by cases h), fun a ha => by obtain rfl := Option.some.inj ha; exact cells_new w (cb l) _⟩
theorem By.at {w : World} {b o c : Nat} {bs : List UInt8} (h : By w (some ⟨b, o, none⟩) c bs) (k : Nat) (hk : k < bs.length) : w.cell? ⟨b, o + k, none⟩ = some (.int .u8 ((bs.getD k 0).toNat : Int)) := by
 have := h.lie _ rfl k _ (cb_at bs k hk)
 rw [Addr.add_lit] at this
 simpa [List.getElem?_eq_getElem hk] using this
theorem By.none' {w : World} {P : Option Addr} {c : Nat} {bs : List UInt8} (h : By w P c bs) (hb : 0 < bs.length) : ∃ b o : Nat, P = some ⟨b, o, none⟩ := by
 cases P with
 | none => have := (h.nil rfl).1; subst this; simp at hb
 | some a =>
  obtain ⟨b, o, s⟩ := a
  have := h.lie _ rfl 0 _ (cb_at bs 0 hb)
  have hs : s = none := by simpa [Addr.add] using World.cell?_spot this
  subst hs
  exact ⟨b, o, rfl⟩
def mk3 : List UInt8 := [201, 202, 203]
end Go.Proofs.YtkoilaoogphgfaaGreatDoor.Tr
