import Derived.Test.YtclihahohhhhiaaDoorProg
import Derived.WalkKit
import Derived.WalkSpells
import Derived.WalkLawsBesides
import Derived.Deep.DeepCutAuto
import Derived.Deep.DeepMust
import Derived.Deep.RegionHeld3
import Derived.Deep.RegionLaw
import Derived.Deep.MidRow
import Derived.Deep.OwnRows
import Derived.Laws.OwnMore
import Derived.Laws.AppendOwn
import Derived.Laws.AppendOwnNone
import Derived.Laws.IdiomStrings
import Derived.Laws.MakeOwn
import Derived.Maps.AppendAt
import Derived.OwnWalk
import Derived.Lib.AppendStr
import Derived.Lib.ConvBytes
import Derived.Lib.SliceRun
namespace Go.Proofs.YtclihahohhhhiaaDoor.Tr
def le8 (n : Nat) : List UInt8 := (List.range 8).map fun i => UInt8.ofNat (n / 2 ^ (8 * i))
theorem le8_len (n : Nat) : (le8 n).length = 8 := by simp [le8]
theorem le8_inj {a b : Nat} (ha : a < 2 ^ 64) (hb : b < 2 ^ 64) (h : le8 a = le8 b) : a = b := by
 have k : ∀ i, i < 8 → a / 2 ^ (8 * i) % 256 = b / 2 ^ (8 * i) % 256 := fun i hi => by
  have h1 := congrArg (fun l => (l.getD i 0).toNat) h
  simpa [le8, List.getElem?_map, List.getElem?_range hi] using h1
 have k0 := k 0 (by omega)
 have k1 := k 1 (by omega)
 have k2 := k 2 (by omega)
 have k3 := k 3 (by omega)
 have k4 := k 4 (by omega)
 have k5 := k 5 (by omega)
 have k6 := k 6 (by omega)
 have k7 := k 7 (by omega)
 simp only [Nat.mul_zero, Nat.pow_zero, Nat.div_one, Nat.reduceMul, Nat.reducePow] at k0 k1 k2 k3 k4 k5 k6 k7 ha hb
 omega
def pt8 (p : List UInt8) : List UInt8 := le8 p.length ++ p
def fr (l : List UInt8) (ps : List (List UInt8)) : List UInt8 := le8 l.length ++ l ++ le8 ps.length ++ ps.flatMap pt8
def frl (l : List UInt8) (ps : List (List UInt8)) : Nat := 16 + l.length + (ps.map fun p => 8 + p.length).sum
theorem parts_len : ∀ ps : List (List UInt8), (ps.flatMap pt8).length = (ps.map fun p => 8 + p.length).sum
 | [] => rfl
 | p :: r => by
  rw [List.flatMap_cons, List.length_append, parts_len r, List.map_cons, List.sum_cons, pt8, List.length_append, le8_len]
theorem fr_len (l : List UInt8) (ps : List (List UInt8)) : (fr l ps).length = frl l ps := by
 simp only [fr, frl, List.length_append, le8_len, parts_len]
 omega
theorem parts_inj : ∀ (a b : List (List UInt8)) (r t : List UInt8), a.length = b.length → (∀ p ∈ a, p.length < 2 ^ 64) → (∀ p ∈ b, p.length < 2 ^ 64) → a.flatMap pt8 ++ r = b.flatMap pt8 ++ t → a = b
 | [], [], _, _, _, _, _, _ => rfl
 | [], _ :: _, _, _, h, _, _, _ => by simp at h
 | _ :: _, [], _, _, h, _, _, _ => by simp at h
 | p :: a, q :: b, r, t, h, ha, hb, e => by
  simp only [List.flatMap_cons, pt8, List.append_assoc] at e
  have e1 := List.append_inj e (by simp [le8_len])
  have e2 := le8_inj (ha p (by simp)) (hb q (by simp)) e1.1
  have e3 := List.append_inj e1.2 e2
  have e4 := parts_inj a b r t (by simpa using h) (fun x hx => ha x (by simp [hx])) (fun x hx => hb x (by simp [hx])) e3.2
  rw [e3.1, e4]
theorem fr_inj {l m : List UInt8} {a b : List (List UInt8)} {r t : List UInt8} (hl : l.length < 2 ^ 64) (hm : m.length < 2 ^ 64) (hla : a.length < 2 ^ 64) (hlb : b.length < 2 ^ 64) (ha : ∀ p ∈ a, p.length < 2 ^ 64) (hb : ∀ p ∈ b, p.length < 2 ^ 64) (e : fr l a ++ r = fr m b ++ t) : l = m ∧ a = b := by
 simp only [fr, List.append_assoc] at e
 have e1 := List.append_inj e (by simp [le8_len])
 have e2 := le8_inj hl hm e1.1
 have e3 := List.append_inj e1.2 e2
 have e4 := List.append_inj e3.2 (by simp [le8_len])
 have e5 := le8_inj hla hlb e4.1
 exact ⟨e3.1, parts_inj a b r t e5 ha hb e4.2⟩
theorem mem_le : ∀ (ps : List (List UInt8)) (p : List UInt8), p ∈ ps → 8 + p.length ≤ (ps.map fun p => 8 + p.length).sum
 | q :: r, p, h => by
  rw [List.map_cons, List.sum_cons]
  rcases List.mem_cons.1 h with rfl | h
  ·omega
  ·have := mem_le r p h
   omega
theorem len_le : ∀ (ps : List (List UInt8)), 8 * ps.length ≤ (ps.map fun p => 8 + p.length).sum
 | [] => by simp
 | q :: r => by
  have := len_le r
  rw [List.map_cons, List.sum_cons, List.length_cons]
  omega
theorem take_sum : ∀ (ps : List (List UInt8)) (k : Nat), ((ps.take k).map fun p => 8 + p.length).sum ≤ (ps.map fun p => 8 + p.length).sum
 | [], k => by simp
 | q :: r, 0 => by simp
 | q :: r, k + 1 => by
  have := take_sum r k
  simp only [List.take_succ_cons, List.map_cons, List.sum_cons]
  omega
theorem take_next {α : Type} (l : List α) (d : α) (k : Nat) (h : k < l.length) : l.take (k + 1) = l.take k ++ [l.getD k d] := by
 rw [List.take_add_one]
 congr 1
 simp [List.getElem?_eq_getElem h]
theorem sum_next (ps : List (List UInt8)) (k : Nat) (h : k < ps.length) : ((ps.take (k + 1)).map fun p => 8 + p.length).sum = ((ps.take k).map fun p => 8 + p.length).sum + (8 + (ps.getD k []).length) := by
 rw [take_next ps [] k h, List.map_append, List.sum_append]
 simp
def Bd (ps : List (List UInt8)) : Prop := ps.length ≤ 5864062014634 ∧ ∀ r, r < ps.length → (ps.getD r []).length ≤ 140737488351232
end Go.Proofs.YtclihahohhhhiaaDoor.Tr
namespace Go.Proofs.YtclihahohhhhiaaDoor.Tr
open Go.RowKit
theorem hidden {p : Prop} (h : p) : Hid p := h
theorem bl_trans {w w1 w2 : World} (h1 : Below w.heap.size w w1) (h2 : Below w1.heap.size w1 w2) : Below w.heap.size w w2 := h1.trans (h2.mono h1.size)
theorem bl_alloc (w : World) (o : Obj) : Below w.heap.size w (w.alloc o) := (Below.refl _ _).alloc (Nat.le_refl _) _
theorem cell_keep {w w' : World} {a : Addr} {v : Value} (h : w.cell? a = some v) (hb : Below w.heap.size w w') : w'.cell? a = some v := by
 rw [hb.cell (p := a) (World.block_lt_of_cell? w a h)]; exact h
theorem below_trans {n : Nat} {w1 w2 w3 : World} (h1 : Below n w1 w2) (h2 : Below n w2 w3) : Below n w1 w3 := ⟨h2.os.trans h1.os, h2.tape.trans h1.tape, h2.output.trans h1.output, Nat.le_trans h1.size h2.size, fun k hk => (h2.block k hk).trans (h1.block k hk)⟩
theorem below_grown {w w' : World} {row : Option Nat} {base : Nat} (hg : w.grownBy w' row) (hb : base ≤ w.heap.size) (hr : ∀ k, row = some k → base ≤ k) : Below base w w' :=
 ⟨hg.os, hg.tape, hg.output, hg.size, fun k hk => hg.block k (by omega) (fun e => by have := hr k e.symm; omega)⟩
theorem cells_new (w : World) (cs : List Value) (t : TypeId) : ∀ j u, cs[j]? = some u → (w.alloc (.cells cs.toArray t)).cell? ((⟨w.heap.size, 0, none⟩ : Addr).add j) = some u := by
 intro j u hu
 have hadd : (⟨w.heap.size, 0, none⟩ : Addr).add j = ⟨w.heap.size, j, none⟩ := by unfold Addr.add; split <;> simp_all
 rw [hadd, cell_of_row (w.alloc (.cells cs.toArray t)) w.heap.size j cs.toArray t (0, 0) (heap_alloc_new w _)]
 simpa using hu
def cb (bs : List UInt8) : List Value := bs.map fun b => Value.int .u8 (b.toNat : Int)
theorem cb_len (bs : List UInt8) : (cb bs).length = bs.length := by simp [cb]
theorem cb_app (a b : List UInt8) : cb (a ++ b) = cb a ++ cb b := by simp [cb]
theorem cb_one (bs : List UInt8) : ∀ u ∈ cb bs, u.oneCell' = true := by
 intro u hu
 obtain ⟨b, _, rfl⟩ := List.mem_map.1 hu
 rfl
theorem cb_at (bs : List UInt8) (j : Nat) (h : j < bs.length) : (cb bs)[j]? = some (.int .u8 (bs[j].toNat : Int)) := by simp [cb, List.getElem?_eq_getElem h]
def sb (bs : List UInt8) : ByteArray := ⟨bs.toArray⟩
theorem sb_size (bs : List UInt8) : (sb bs).size = bs.length := by simp [sb, ByteArray.size]
theorem sb_cells (l : List UInt8) : Lib.strCells (sb l) = cb l := by simp [Lib.strCells, sb, cb]
structure By (w : World) (P : Option Addr) (c : Nat) (bs : List UInt8) : Prop where
 nil : P = none → bs = [] ∧ c = 0
 lie : ∀ a, P = some a → ∀ j u, (cb bs)[j]? = some u → w.cell? (a.add j) = some u
theorem By.keep {w w' : World} {P : Option Addr} {c : Nat} {bs : List UInt8} (h : By w P c bs) (hb : Below w.heap.size w w') : By w' P c bs :=
 ⟨h.nil, fun a ha j u hu => cell_keep (h.lie a ha j u hu) hb⟩
theorem by_conv {w : World} {P : Option Addr} {c : Nat} {bs : List UInt8} (h : By w P c bs) : (convert 29 9 (.slice P bs.length c)).run Tryd.prog w = .ok (.string (sb bs)) w := by
 have h1 : Tryd.prog.underlying 29 = some (.slice 5) := by kernel_rfl
 have h2 : Tryd.prog.underlying 5 = some (.int .u8) := by kernel_rfl
 have h3 : Tryd.prog.underlying 9 = some .string := by kernel_rfl
 cases P with
 | none =>
  obtain ⟨rfl, rfl⟩ := h.nil rfl
  exact run_convert_bytes_nil w _ _ h1 h2 0 0 _ h3
 | some a =>
  exact run_convert_bytes_back w _ _ _ a c bs h1 h2 h3 (fun j hj => h.lie a rfl j _ (cb_at bs j hj))
theorem own_by {w : World} {base : Nat} {v : Value} {bs : List UInt8} (h : w.ownsRow base 5 1 v bs.length (cb bs)) : ∃ (P : Option Addr) (c : Nat), v = .slice P bs.length c ∧ By w P c bs := by
 rcases h.2 with ⟨rfl, h0⟩ | ⟨g, cap, cur, rfl, hb, hg, hnc, hcm, hcs, htake⟩
 ·have : bs = [] := List.eq_nil_of_length_eq_zero h0
  subst this
  exact ⟨none, 0, rfl, fun _ => ⟨rfl, rfl⟩, fun a ha => by cases ha⟩
 ·refine ⟨some ⟨g, 0, none⟩, cap, rfl, fun h => (by cases h), fun a ha => ?_⟩
  obtain rfl := Option.some.inj ha
  exact h.cells rfl
theorem run_app_by (w : World) (base ty : Nat) (v : Value) (xs bs : List UInt8) (P : Option Addr) (c : Nat) (ho : w.ownsRow base 5 1 v xs.length (cb xs)) (hB : By w P c bs) (hx : xs.length + bs.length ≤ 2 ^ 47) (hb : base ≤ w.heap.size) :
  ∃ v' w', (Builtin.append_ #[29, 29] ty #[v, .slice P bs.length c]).run Tryd.prog w = .ok v' w' ∧ w'.ownsRow base 5 1 v' (xs ++ bs).length (cb (xs ++ bs)) ∧ w.grownBy w' v.ownBlock := by
 have h1 : Tryd.prog.underlying 29 = some (.slice 5) := by kernel_rfl
 have hi : Tryd.prog.info? 5 = some (Tryd.prog.info? 5).get! := by kernel_rfl
 have hz : (Tryd.prog.info? 5).get!.zero = some (.int .u8 0) := by kernel_rfl
 have hs : (Tryd.prog.info? 5).get!.size = 1 := by kernel_rfl
 have hy : (Tryd.prog.info? 5).get!.bytes = 1 := by kernel_rfl
 cases P with
 | none =>
  obtain ⟨rfl, rfl⟩ := hB.nil rfl
  refine ⟨v, w, run_append_owned_none w base _ _ _ _ 1 h1 hi v _ _ ho, by simpa using ho, ⟨rfl, rfl, rfl, Nat.le_refl _, fun _ _ _ => rfl⟩⟩
 | some a =>
  obtain ⟨v', w', hr, ho', hg, _⟩ := run_append_own (P := Tryd.prog) w base _ ty _ _ _ 1 1 h1 hi hz hs hy rfl (by decide) v _ _ ho a bs.length c (cb bs) (by simp [cb_len]) (hB.lie a rfl) (cb_one bs) (by unfold maxLen; omega) (by omega) hb
  refine ⟨v', w', hr, ?_, hg⟩
  rw [List.length_append, cb_app]
  exact ho'
theorem wpList_app_by {w : World} {ops : Array Oper} {rest : List Oper} {o : Oper} {a : Act} {Q : Exit → Act → World → Prop} (hgd : o.guard = none) (sl x : Operand)
  (ho : o.op = .call { callee := .builtin .append, args := #[sl, x], argTypes := #[29, 29] })
  (base : Nat) (v : Value) (xs bs : List UInt8) (P : Option Addr) (c : Nat) (hs : a.eval sl = v) (hx : a.eval x = .slice P bs.length c) (hown : w.ownsRow base 5 1 v xs.length (cb xs)) (hB : By w P c bs) (hl : xs.length + bs.length ≤ 2 ^ 47) (hbase : base ≤ w.heap.size)
  (h : ∀ v' w', w'.ownsRow base 5 1 v' (xs ++ bs).length (cb (xs ++ bs)) → w.grownBy w' v.ownBlock → wpList Tryd.prog ops Q rest (a.put o.dst v') w') : wpList Tryd.prog ops Q (o :: rest) a w := by
 refine wpList_plain hgd fun K hK => ?_
 obtain ⟨v', w', hr, h2, h3⟩ := run_app_by w base o.type v xs bs P c hown hB hl hbase
 unfold Oper.wp execOp
 simp only [ho, resolve, invoke, builtin, Sem.run_bind, Sem.run_pure, Result.andThen_ok, List.map_toArray, List.map_cons, List.map_nil, hs, hx, hr]
 exact hK _ _ (h v' w' h2 h3)
end Go.Proofs.YtclihahohhhhiaaDoor.Tr
namespace Go.Proofs.YtclihahohhhhiaaDoor.Tr
open Go.RowKit
theorem sb_list (l : List UInt8) : (sb l).toList = l := by
 rw [ByteArray.toList_eq]
 simp [sb]
theorem own_stay {w w' : World} {base size n : Nat} {e : TypeId} {v : Value} {xs : List Value} (h : w.ownsRow base e size v n xs) (hb : Below w.heap.size w w') : w'.ownsRow base e size v n xs := by
 refine ⟨h.1, ?_⟩
 rcases h.2 with hn | ⟨g, cap, cur, rfl, hbg, hgg, rest⟩
 ·exact .inl hn
 ·refine .inr ⟨g, cap, cur, rfl, hbg, ?_, rest⟩
  rw [hb.block g (Array.getElem?_eq_some_iff.1 hgg).1]
  exact hgg
theorem By.front {w : World} {P : Option Addr} {c : Nat} {a b : List UInt8} (h : By w P c (a ++ b)) : By w P c a :=
 ⟨fun e => ⟨(List.append_eq_nil_iff.1 (h.nil e).1).1, (h.nil e).2⟩, fun x hx j u hu => h.lie x hx j u (by
  rw [cb_app, List.getElem?_append_left (List.getElem?_eq_some_iff.1 hu).1]
  exact hu)⟩
theorem by_list (w : World) (l : List UInt8) (c : Nat) : By (w.alloc (.cells (cb l).toArray 5)) (some ⟨w.heap.size, 0, none⟩) c l :=
 ⟨fun h => (by cases h), fun a ha => by obtain rfl := Option.some.inj ha; exact cells_new w (cb l) _⟩
theorem By.at {w : World} {b o c : Nat} {bs : List UInt8} (h : By w (some ⟨b, o, none⟩) c bs) (k : Nat) (hk : k < bs.length) : w.cell? ⟨b, o + k, none⟩ = some (.int .u8 ((bs.getD k 0).toNat : Int)) := by
 have := h.lie _ rfl k _ (cb_at bs k hk)
 rw [Addr.add_lit] at this
 simpa [List.getElem?_eq_getElem hk] using this
set_option maxRecDepth 100000 in
set_option maxHeartbeats 4000000 in
theorem clone_any (P : Option Addr) (c : Nat) (bs : List UInt8) (w : World) (hB : By w P c bs) (hl : bs.length ≤ 140737488355328) :
  Calls Tryd.prog 66 #[.slice P bs.length c] w fun e w' => ∃ v, e = .returned v ∧ w'.ownsRow w.heap.size 5 1 v bs.length (cb bs) ∧ Below w.heap.size w w' := by
 have eqn := fun (a : Option Addr) (l c : Nat) (w : World) => Lib.run_eql_slice_nil (P := Tryd.prog) w 29 5 a l c 0 0 (by kernel_rfl)
 have HL := hidden hl
 cases P with
 | none =>
  obtain ⟨rfl, rfl⟩ := hB.nil rfl
  clear hB hl
  go_enter Tryd.func66, Tryd.ntmps66
  go_wp2_with fail
  refine bodyPost_ret (v := .slice none 0 0) (by simp [results, Tryd.results66, go_sem]) rfl ⟨_, rfl, World.ownsRow_nil _ _ _ _, Below.refl _ _⟩
 | some ad =>
  have O0 := hidden (World.ownsRow_made (base := w.heap.size) (e := 5) (size := 1) w #[] 0 (Nat.le_refl _) (by unfold maxLen; omega) rfl)
  have B0 := hidden (bl_alloc w (.cells #[] 5))
  have HY := hidden (hB.keep (bl_alloc w (.cells #[] 5)))
  clear hB hl
  go_enter Tryd.func66, Tryd.ntmps66
  go_wp2_with (first | (at_builtin; refine wpList_app_by rfl _ _ rfl w.heap.size _ [] bs (some ad) c rfl rfl O0.out HY.out (by have := HL.out; simp only [List.length_nil]; omega) B0.out.size ?_; intro v2 w2 ho2 hg2; have HO := hidden ho2; have HB := hidden (below_trans B0.out (below_grown hg2 B0.out.size (fun k hk => (O0.out.lt k hk).1))); clear ho2 hg2; rw [List.nil_append] at HO))
  refine bodyPost_ret (v := v2) (by simp [results, Tryd.results66, go_sem]) rfl ⟨_, rfl, HO.out, HB.out⟩
def mk3 : List UInt8 := [201, 202, 203]
end Go.Proofs.YtclihahohhhhiaaDoor.Tr
namespace Go.Proofs.YtclihahohhhhiaaDoor.Tr
def vf : Nat → Nat → List UInt8
 | 0, n => [UInt8.ofNat n]
 | k + 1, n => if n < 128 then [UInt8.ofNat n] else UInt8.ofNat (n % 128 + 128) :: vf k (n / 128)
def vn (n : Nat) : List UInt8 := vf 9 n
theorem vf_small (k n : Nat) (h : n < 128) : vf k n = [UInt8.ofNat n] := by
 cases k with
 | zero => rfl
 | succ k => simp [vf, h]
theorem vf_big (k n : Nat) (h : ¬ n < 128) : vf (k + 1) n = UInt8.ofNat (n % 128 + 128) :: vf k (n / 128) := by simp [vf, h]
theorem vf_len : ∀ k n, 1 ≤ (vf k n).length ∧ (vf k n).length ≤ k + 1
 | 0, n => by simp [vf]
 | k + 1, n => by
  have := vf_len k (n / 128)
  unfold vf
  split
  ·simp
  ·simp only [List.length_cons]; omega
theorem vn_len (n : Nat) : 1 ≤ (vn n).length ∧ (vn n).length ≤ 10 := vf_len 9 n
def rd : Nat → Nat → List UInt8 → Nat × Nat × Nat
 | _, _, [] => (0, 0, 100)
 | i, acc, c :: r =>
  if i = 9 ∧ 1 < c.toNat then (0, 0, 102)
  else if 128 ≤ c.toNat then rd (i + 1) (acc + (c.toNat - 128) * 2 ^ (7 * i)) r
  else if c.toNat = 0 ∧ 0 < i then (0, 0, 102)
  else (acc + c.toNat * 2 ^ (7 * i), i + 1, 0)
def nm (bs : List UInt8) (most : Nat) : Nat × Nat × Nat :=
 let x := rd 0 0 bs
 if x.2.2 = 0 ∧ most < x.1 then (0, 0, 102) else x
theorem rd_end : ∀ (bs : List UInt8) (i acc : Nat), (rd i acc bs).2.2 = 100 → i ≤ 9 → (∀ c ∈ bs, 128 ≤ c.toNat) ∧ bs.length + i ≤ 9
 | [], i, acc, _, hi => ⟨by simp, by simpa using hi⟩
 | c :: r, i, acc, h, hi => by
  unfold rd at h
  split at h
  ·simp at h
  ·split at h
   ·rename_i h1 h2
    have hi9 : i ≠ 9 := fun e => h1 ⟨e, by omega⟩
    have := rd_end r (i + 1) _ h (by omega)
    refine ⟨fun x hx => ?_, by simp only [List.length_cons]; omega⟩
    rcases List.mem_cons.1 hx with rfl | hx
    ·exact h2
    ·exact this.1 x hx
   ·split at h <;> simp at h
theorem rd_fault : ∀ (bs : List UInt8) (i acc : Nat), (rd i acc bs).2.2 ≠ 0 → (rd i acc bs).1 = 0 ∧ (rd i acc bs).2.1 = 0 ∧ ((rd i acc bs).2.2 = 100 ∨ (rd i acc bs).2.2 = 102)
 | [], i, acc, _ => by simp [rd]
 | c :: r, i, acc, h => by
  unfold rd at h ⊢
  split
  ·simp
  ·rename_i h1
   rw [if_neg h1] at h
   split
   ·rename_i h2
    rw [if_pos h2] at h
    exact rd_fault r _ _ h
   ·rename_i h2
    rw [if_neg h2] at h
    split
    ·simp
    ·rename_i h3
     rw [if_neg h3] at h
     simp at h
theorem ofNat_toNat (c : UInt8) : UInt8.ofNat c.toNat = c := by simp
theorem rd_ok : ∀ (bs : List UInt8) (i acc : Nat), (rd i acc bs).2.2 = 0 → i ≤ 9 → acc < 2 ^ (7 * i) →
  ∃ m k, (rd i acc bs).1 = acc + m * 2 ^ (7 * i) ∧ (rd i acc bs).2.1 = i + k ∧ k ≤ bs.length ∧ bs.take k = vf (9 - i) m ∧ m < 2 ^ (64 - 7 * i) ∧ (0 < i → 0 < m)
 | [], i, acc, h, _, _ => by simp [rd] at h
 | c :: r, i, acc, h, hi, ha => by
  have hc := c.toNat_lt
  unfold rd at h ⊢
  split
  ·rename_i h1
   rw [if_pos h1] at h
   simp at h
  ·rename_i h1
   rw [if_neg h1] at h
   split
   ·rename_i h2
    rw [if_pos h2] at h
    have hi9 : i ≠ 9 := fun e => h1 ⟨e, by omega⟩
    have hp : 2 ^ (7 * (i + 1)) = 2 ^ (7 * i) * 128 := by rw [Nat.mul_add, Nat.pow_add]
    have hpos : 0 < 2 ^ (7 * i) := Nat.two_pow_pos _
    have hlt : acc + (c.toNat - 128) * 2 ^ (7 * i) < 2 ^ (7 * (i + 1)) := by
     rw [hp]
     have : (c.toNat - 128) * 2 ^ (7 * i) ≤ 127 * 2 ^ (7 * i) := Nat.mul_le_mul_right _ (by omega)
     omega
    obtain ⟨m, k, e1, e2, e3, e4, e5, e6⟩ := rd_ok r (i + 1) _ h (by omega) hlt
    have e6 := e6 (by omega)
    have h64 : 2 ^ (64 - 7 * i) = 128 * 2 ^ (64 - 7 * (i + 1)) := by
     rw [show 64 - 7 * i = 7 + (64 - 7 * (i + 1)) by omega, Nat.pow_add]
    refine ⟨c.toNat - 128 + 128 * m, k + 1, ?_, by omega, by simp; omega, ?_, by omega, fun _ => by omega⟩
    ·rw [e1, hp, Nat.add_mul]
     have : m * (2 ^ (7 * i) * 128) = 128 * m * 2 ^ (7 * i) := by rw [Nat.mul_comm (2 ^ (7 * i)) 128, ← Nat.mul_assoc, Nat.mul_comm m 128]
     omega
    ·rw [List.take_succ_cons, e4, show 9 - i = (9 - (i + 1)) + 1 by omega, vf_big _ _ (by omega)]
     congr 1
     ·rw [show (c.toNat - 128 + 128 * m) % 128 + 128 = c.toNat by omega, ofNat_toNat]
     ·rw [show (c.toNat - 128 + 128 * m) / 128 = m by omega]
   ·rename_i h2
    rw [if_neg h2] at h
    split
    ·rename_i h3
     rw [if_pos h3] at h
     simp at h
    ·rename_i h3
     refine ⟨c.toNat, 1, rfl, rfl, by simp, ?_, ?_, fun h => by omega⟩
     ·rw [vf_small _ _ (by omega), ofNat_toNat]
      simp
     ·by_cases e : i = 9
      ·subst e
       have : ¬ 1 < c.toNat := fun h => h1 ⟨rfl, h⟩
       simp
       omega
      ·have : 2 ^ 8 ≤ 2 ^ (64 - 7 * i) := Nat.pow_le_pow_right (by omega) (by omega)
       omega
theorem rd_all : ∀ (j m i acc : Nat) (r : List UInt8), i + j = 9 → m < 2 ^ (64 - 7 * i) → (0 < i → 0 < m) → rd i acc (vf j m ++ r) = (acc + m * 2 ^ (7 * i), i + (vf j m).length, 0)
 | 0, m, i, acc, r, hi, hm, h0 => by
  obtain rfl : i = 9 := by omega
  have hm2 : m < 2 := by simpa using hm
  have e : (UInt8.ofNat m).toNat = m := by rw [UInt8.toNat_ofNat']; omega
  have := h0 (by omega)
  simp only [vf, List.cons_append, List.nil_append]
  unfold rd
  rw [e, if_neg (by omega), if_neg (by omega), if_neg (by omega)]
  simp
 | j + 1, m, i, acc, r, hi, hm, h0 => by
  by_cases hs : m < 128
  ·have e : (UInt8.ofNat m).toNat = m := by rw [UInt8.toNat_ofNat']; omega
   rw [vf_small _ _ hs]
   simp only [List.cons_append, List.nil_append]
   unfold rd
   rw [e, if_neg (by omega), if_neg (by omega), if_neg (by omega)]
   simp
  ·have e : (UInt8.ofNat (m % 128 + 128)).toNat = m % 128 + 128 := by rw [UInt8.toNat_ofNat']; omega
   rw [vf_big _ _ hs]
   simp only [List.cons_append]
   unfold rd
   rw [e, if_neg (by omega), if_pos (by omega)]
   have h64 : 2 ^ (64 - 7 * i) = 128 * 2 ^ (64 - 7 * (i + 1)) := by
    rw [show 64 - 7 * i = 7 + (64 - 7 * (i + 1)) by omega, Nat.pow_add]
   rw [rd_all j (m / 128) (i + 1) _ r (by omega) (by omega) (fun _ => by omega)]
   have hp : 2 ^ (7 * (i + 1)) = 2 ^ (7 * i) * 128 := by rw [Nat.mul_add, Nat.pow_add]
   have e2 : m / 128 * (2 ^ (7 * i) * 128) = 128 * (m / 128) * 2 ^ (7 * i) := by rw [Nat.mul_comm (2 ^ (7 * i)) 128, ← Nat.mul_assoc, Nat.mul_comm (m / 128) 128]
   have e3 : m * 2 ^ (7 * i) = (m % 128) * 2 ^ (7 * i) + 128 * (m / 128) * 2 ^ (7 * i) := by rw [← Nat.add_mul, Nat.mod_add_div]
   simp only [List.length_cons, hp, e2, Prod.mk.injEq, Nat.add_sub_cancel, and_true]
   omega
theorem rd_cut : ∀ (j m i acc k : Nat), i + j = 9 → k < (vf j m).length → rd i acc ((vf j m).take k) = (0, 0, 100)
 | 0, m, i, acc, k, hi, hk => by
  simp only [vf, List.length_cons, List.length_nil] at hk
  obtain rfl : k = 0 := by omega
  simp [rd]
 | j + 1, m, i, acc, 0, hi, hk => by simp [rd]
 | j + 1, m, i, acc, k + 1, hi, hk => by
  by_cases hs : m < 128
  ·rw [vf_small _ _ hs] at hk
   simp at hk
  ·have e : (UInt8.ofNat (m % 128 + 128)).toNat = m % 128 + 128 := by rw [UInt8.toNat_ofNat']; omega
   rw [vf_big _ _ hs] at hk ⊢
   simp only [List.length_cons] at hk
   rw [List.take_succ_cons]
   unfold rd
   rw [e, if_neg (by omega), if_pos (by omega)]
   exact rd_cut j (m / 128) (i + 1) _ k (by omega) (by omega)
theorem nm_all (n most : Nat) (r : List UInt8) (h : n < 2 ^ 64) (hm : n ≤ most) : nm (vn n ++ r) most = (n, (vn n).length, 0) := by
 have := rd_all 9 n 0 0 r rfl (by simpa using h) (by omega)
 unfold nm vn
 rw [this]
 simp
 omega
end Go.Proofs.YtclihahohhhhiaaDoor.Tr
namespace Go.Proofs.YtclihahohhhhiaaDoor.Tr
open Go.RowKit
theorem or_high (m : Nat) : (m % 256) ||| 128 = (UInt8.ofNat (m % 128 + 128)).toNat := by
 rw [UInt8.toNat_ofNat']
 have h1 : m % 256 = (m / 128 % 2) * 128 + m % 128 := by omega
 have h2 : (m % 256) ||| 128 = m % 128 + 128 := by
  rcases Nat.mod_two_eq_zero_or_one (m / 128) with h | h
  ·have e : m % 256 = m % 128 := by omega
   rw [e, Nat.or_comm, ← Nat.two_pow_add_eq_or_of_lt (i := 7) (b := m % 128) (by omega) 1]
   omega
  ·have e : m % 256 = 128 + m % 128 := by omega
   have e2 := Nat.two_pow_add_eq_or_of_lt (i := 7) (b := m % 128) (by omega) 1
   simp only [Nat.reducePow, Nat.mul_one] at e2
   rw [e, e2, Nat.or_comm, ← Nat.or_assoc, Nat.or_self, ← e2]
   omega
 rw [h2]
 omega
theorem u8_or (a b : Nat) (ha : a < 256) (hb : b < 256) : IntKind.u8.wrap ((BitVec.ofInt IntKind.u8.bits (a : Int) ||| BitVec.ofInt IntKind.u8.bits (b : Int)).toNat : Int) = ((a ||| b : Nat) : Int) := by
 have h1 : ∀ x : Nat, x < 256 → (BitVec.ofInt IntKind.u8.bits (x : Int)).toNat = x := fun x hx => by
  show (BitVec.ofInt 8 (x : Int)).toNat = x
  rw [BitVec.toNat_ofInt]
  omega
 have h2 : a ||| b < 2 ^ 8 := Nat.or_lt_two_pow (by omega) (by omega)
 rw [BitVec.toNat_or, h1 a ha, h1 b hb, IntKind.wrap_u8]
 omega
theorem or_high' (m : Nat) : bits .or .u8 ((m : Int) % 256) 128 = ((UInt8.ofNat (m % 128 + 128)).toNat : Int) := by
 rw [← or_high m, ← u8_or (m % 256) 128 (by omega) (by omega)]
 rfl
set_option maxRecDepth 100000 in
set_option maxHeartbeats 8000000 in
theorem appNum_any (P : Option Addr) (c : Nat) (bs : List UInt8) (n : Nat) (w : World) (hB : By w P c bs) (hl : bs.length ≤ 140737488355000) (hn : n < 2 ^ 64) :
  Calls Tryd.prog 54 #[.slice P bs.length c, .int .u64 (n : Int)] w fun e w' => ∃ v, e = .returned v ∧ w'.ownsRow w.heap.size 5 1 v (bs ++ vn n).length (cb (bs ++ vn n)) ∧ Below w.heap.size w w' := by
 have HC := hidden (clone_any P c bs w hB (by omega))
 have HL := hidden hl
 have HN := hidden hn
 clear hB hl hn
 go_enter Tryd.func54, Tryd.ntmps54
 go_upto_region 2 with (first | (go_at_call 66; refine HC.out.mono ?_; rintro e w1 ⟨v1, rfl, ho, hb⟩; have HO := hidden ho; have HB := hidden hb; clear ho hb))
 clear HC
 go_loopw [0, 1] (fun vv mv w' => ∃ (k m : Nat) (D : List UInt8), k ≤ 9 ∧ mv = .int .u64 (m : Int) ∧ Hid (D.length = k ∧ vn n = D ++ vf (9 - k) m ∧ m < 2 ^ (64 - 7 * k)) ∧ Hid (w'.ownsRow w.heap.size 5 1 vv (bs ++ D).length (cb (bs ++ D))) ∧ Hid (Below w.heap.size w w')) (fun _ m _ => (intOf m).toNat)
 case atStart => exact ⟨0, n, [], by omega, rfl, hidden ⟨rfl, rfl, by simpa using HN.out⟩, by simpa using HO, HB⟩
 case round =>
  clear HO HB
  obtain ⟨k, m, D, hk, rfl, hM, HO, HB⟩ := hrel
  by_cases hm : m < 128
  ·obtain ⟨y, rfl⟩ : ∃ y : UInt8, m = y.toNat := ⟨UInt8.ofNat m, by rw [UInt8.toNat_ofNat']; omega⟩
   have k0 : ¬ (128 : Int) ≤ (y.toNat : Int) := by omega
   have HE : Hid (vn n = D ++ [y]) := hidden (by rw [hM.out.2.1, vf_small _ _ hm, ofNat_toNat])
   have HD : Hid (D.length ≤ 9) := hidden (by have := hM.out.1; omega)
   clear hM
   go_wp2_with (first | (at_builtin; refine wpList_app_by rfl _ _ rfl w.heap.size _ (bs ++ D) [y] (some ⟨wr.heap.size, 0, none⟩) 1 rfl rfl (own_stay HO.out (bl_alloc wr _)) (by_list wr [y] 1) (by have := HL.out; have := HD.out; simp only [List.length_append, List.length_cons, List.length_nil]; omega) (by have := HB.out.size; simp; omega) ?_; intro v1 w1 ho1 hg1; have HO1 := hidden ho1; have HB1 := hidden (below_trans (bl_trans HB.out (bl_alloc wr _)) (below_grown hg1 (by have := HB.out.size; simp; omega) (fun j hj => (HO.out.lt j hj).1))); clear ho1 hg1))
   refine bodyPost_ret (v := v1) (by simp [results, Tryd.results54, go_sem]) rfl ⟨_, rfl, by have h := HO1.out; rw [List.append_assoc, ← HE.out] at h; first | exact h | (rw [List.length_append] at h; exact h), HB1.out⟩
  ·have k0 : (128 : Int) ≤ (m : Int) := by omega
   have hk9 : k < 9 := by
    have := hM.out.2.2
    by_cases e : k = 9
    ·subst e; simp at this; omega
    ·omega
   have hi := or_high' m
   have HE : Hid (vn n = D ++ [UInt8.ofNat (m % 128 + 128)] ++ vf (9 - (k + 1)) (m / 128)) := hidden (by rw [hM.out.2.1, show 9 - k = (9 - (k + 1)) + 1 by omega, vf_big _ _ hm]; simp)
   have HD : Hid (D.length = k ∧ m / 128 < 2 ^ (64 - 7 * (k + 1))) := hidden (by
    have h64 : 2 ^ (64 - 7 * k) = 128 * 2 ^ (64 - 7 * (k + 1)) := by
     rw [show 64 - 7 * k = 7 + (64 - 7 * (k + 1)) by omega, Nat.pow_add]
    have := hM.out.2.2
    exact ⟨hM.out.1, by omega⟩)
   generalize UInt8.ofNat (m % 128 + 128) = y at hi HE
   clear hM
   go_wp2_with (first | (at_builtin; refine wpList_app_by rfl _ _ rfl w.heap.size _ (bs ++ D) [y] (some ⟨wr.heap.size, 0, none⟩) 1 rfl rfl (own_stay HO.out (bl_alloc wr _)) (by_list wr [y] 1) (by have := HL.out; have := HD.out.1; simp only [List.length_append, List.length_cons, List.length_nil]; omega) (by have := HB.out.size; simp; omega) ?_; intro v1 w1 ho1 hg1; have HO1 := hidden ho1; have HB1 := hidden (below_trans (bl_trans HB.out (bl_alloc wr _)) (below_grown hg1 (by have := HB.out.size; simp; omega) (fun j hj => (HO.out.lt j hj).1))); clear ho1 hg1))
   go_roundw
   case rel => exact ⟨k + 1, m / 128, D ++ [y], by omega, by go_num, hidden ⟨by have := HD.out.1; simp; omega, HE.out, HD.out.2⟩, by rw [← List.append_assoc]; exact HO1, HB1⟩
   case measure => simp [intOf]; omega
end Go.Proofs.YtclihahohhhhiaaDoor.Tr
