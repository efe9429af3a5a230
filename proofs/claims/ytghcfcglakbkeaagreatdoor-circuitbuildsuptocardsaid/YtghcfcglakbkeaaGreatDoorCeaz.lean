import Derived.Test.YtghcfcglakbkeaaGreatDoorCmn
import Derived.Deep.OwnRows
import Derived.Laws.OwnMore
import Derived.Laws.AppendOwnNone
import Derived.Laws.IdiomStrings
import Derived.Laws.MakeOwn
import Derived.Lib.AppendStr
import Derived.Lib.ConvBytes
namespace Go.Proofs.YtghcfcglakbkeaaGreatDoor
set_option maxRecDepth 100000
set_option maxHeartbeats 16000000
open Go.RowKit
set_option linter.unusedVariables false
set_option linter.unusedSimpArgs false
open Cm (Wr Tm co bf Ls lf ins Eqm)
namespace Ci
theorem range_newM (w : World) (cs : List Value) (t : TypeId) : (w.alloc (.cells cs.toArray t)).rangeAt w.heap.size 0 cs := fun j v hv => by
 rw [cell_of_row _ _ (0 + j) cs.toArray t (0, 0) (heap_alloc_new w _), Nat.zero_add]
 simpa using hv
theorem below_tr {n : Nat} {w1 w2 w3 : World} (h1 : Below n w1 w2) (h2 : Below n w2 w3) : Below n w1 w3 := ⟨h2.os.trans h1.os, h2.tape.trans h1.tape, h2.output.trans h1.output, Nat.le_trans h1.size h2.size, fun k hk => (h2.block k hk).trans (h1.block k hk)⟩
structure R4 (w : World) (b o n : Nat) (g : Nat → E4) : Prop where
 c0 : ∀ k, k < n → w.cell? ⟨b, o + k * 4, none⟩ = some (.int .u64 (g k).x0)
 c1 : ∀ k, k < n → w.cell? ⟨b, o + k * 4 + 1, none⟩ = some (.int .u64 (g k).x1)
 c2 : ∀ k, k < n → w.cell? ⟨b, o + k * 4 + 2, none⟩ = some (.int .u64 (g k).x2)
 c3 : ∀ k, k < n → w.cell? ⟨b, o + k * 4 + 3, none⟩ = some (.int .u64 (g k).x3)
theorem R4.keep {w w' : World} {b o n : Nat} {g : Nat → E4} (h : R4 w b o n g) (hb : Below w.heap.size w w') : R4 w' b o n g := ⟨fun k hk => cell_keep (h.c0 k hk) hb, fun k hk => cell_keep (h.c1 k hk) hb, fun k hk => cell_keep (h.c2 k hk) hb, fun k hk => cell_keep (h.c3 k hk) hb⟩
structure Sl where
 p : Option Addr
 n : Nat
 c : Nat
 g : Nat → E4
def Sl.v (s : Sl) : Value := .slice s.p s.n s.c
structure Sl.at (s : Sl) (w : World) : Prop where
 at' : ∃ b o : Nat, (0 < s.n → s.p = some ⟨b, o, none⟩) ∧ (0 < s.n → R4 w b o s.n s.g)
 ok : ∀ k, k < s.n → (s.g k).ok
theorem Sl.at.keep {s : Sl} {w w' : World} (h : s.at w) (hb : Below w.heap.size w w') : s.at w' := ⟨by obtain ⟨b, o, h1, h2⟩ := h.at'; exact ⟨b, o, h1, fun hn => (h2 hn).keep hb⟩, h.ok⟩
def nw (N : Nat → Sl) (q : Wr) : E4 := (N q.1.toNat).g q.2.toNat
structure Nm (N : Nat → Sl) (q : Wr) : Prop where
 k0 : 0 ≤ q.1
 k1 : q.1 < 6
 i0 : 0 ≤ q.2
 i1 : q.2 < ((N q.1.toNat).n : Int)
def es (N : Nat → Sl) (f : Nat → Trm) : Nat → E4
 | 0 => ⟨0, 0, 0, 0⟩
 | i + 1 => lst ((es N f i).n + (lst ((f i).a.n * (nw N (f i).q).n)).n)
structure Es (w w3 : World) (sb : Nat) (r : E4) (x : World) : Prop where
 bel : Below sb w3 x
 rg : x.rangeAt sb 0 [.int .u64 r.x0, .int .u64 r.x1, .int .u64 r.x2, .int .u64 r.x3]
 th : x.there sb 0 4
end Ci
end Go.Proofs.YtghcfcglakbkeaaGreatDoor
namespace Go.Proofs.YtghcfcglakbkeaaGreatDoor
set_option maxRecDepth 100000
set_option maxHeartbeats 16000000
open Go.RowKit
set_option linter.unusedVariables false
set_option linter.unusedSimpArgs false
open Cm (Wr Tm co bf Ls lf ins Eqm)
namespace Ci
theorem Values_any {base : Nat} {w : World} {s m Kg : Nat} {vv : Value} {vs : List Value} {Q : List (List Tm)} (h : Sy base w s m Kg vv vs Q) : Calls Tryz.prog 30 #[.pointer (some ⟨s, 0, none⟩)] w fun e w' => e = .returned (.int .i64 (m : Int)) ∧ w' = w := by
 have C := Hn (none_any h)
 have c0 := h.c0
 clear h
 go_enter Tryz.func30, Tryz.ntmps30
 go_wp2_with (go_at_call 44; refine C.out.mono ?_; rintro e w1 ⟨rfl, rfl⟩)
 refine bodyPost_ret (v := .int .i64 (m : Int)) (by simp [results, Tryz.results30, go_sem]) rfl ⟨rfl, rfl⟩
def cn (m Kg : Nat) : Nat → Nat
 | 1 => 1 | 2 => Kg | 3 => Kg | 4 => Kg | 5 => m | _ => 0
end Ci
end Go.Proofs.YtghcfcglakbkeaaGreatDoor
namespace Go.Proofs.YtghcfcglakbkeaaGreatDoor
open Go.RowKit
set_option linter.unusedVariables false
set_option linter.unusedSimpArgs false
open Cm (Wr Tm co bf Ls lf ins Eqm)
namespace Ci
set_option maxRecDepth 100000
set_option maxHeartbeats 4000000
theorem an_at {p : Nat → Bool} {n : Nat} (h : an p n = false) : ∀ k, k < n → p k = false := by
 induction n with
 | zero => intro k hk; omega
 | succ n ih =>
  simp only [an, Bool.or_eq_false_iff] at h
  intro k hk
  rcases Nat.lt_or_ge k n with h1 | h1
  ·first | exact ih h.1 k h1 | exact ih h.2 k h1
  ·obtain rfl : k = n := by omega
   first | exact h.2 | exact h.1
theorem nm_at {m Kg n : Nat} {f : Nat → Trm} (h : nm m Kg n f = true) : ∀ k, k < n → hs m Kg (f k).q = true := fun k hk => by
 unfold nm at h
 have h1 : an (fun k => !hs m Kg (f k).q) n = false := by simpa using h
 have := an_at h1 k hk
 simpa using this
theorem ins_lenC (t : Tm) : ∀ X : List Tm, (ins Sm.L X t).length ≤ X.length + 1
 | [] => by unfold ins; split <;> simp
 | x :: X => by
  have := ins_lenC t X
  unfold ins
  split
  ·split <;> simp <;> omega
  ·split
   ·split <;> simp <;> omega
   ·simp; omega
theorem lf_lenC (X : List Tm) : (lf Sm.L X).length ≤ X.length := by
 have g : ∀ (Y Z : List Tm), (Y.foldl (ins Sm.L) Z).length ≤ Z.length + Y.length := by
  intro Y
  induction Y with
  | nil => intro Z; simp
  | cons y Y ih => intro Z; have := ih (ins Sm.L Z y); have := ins_lenC y Z; simp only [List.foldl_cons, List.length_cons]; omega
 have := g X []
 simpa [lf] using this
end Ci
end Go.Proofs.YtghcfcglakbkeaaGreatDoor
namespace Go.Proofs.YtghcfcglakbkeaaGreatDoor
open Go.RowKit
theorem lst_mul (n m : Int) : lst ((lst n).n * m) = lst (n * m) := lst_congr (by rw [lst_n, Int.mul_emod, emod_emod_L, ← Int.mul_emod])
theorem lst_mul' (n m : Int) : lst (n * (lst m).n) = lst (n * m) := lst_congr (by rw [lst_n, Int.mul_emod, emod_emod_L, ← Int.mul_emod])
theorem zero_lst : lst 0 = zero4 := (zero_is 0).2 rfl
theorem fix {F : Nat} {args : Array Value} {w : World} {n : Int} {R : E4} (c : Calls Tryz.prog F args w (fun e w' => ∃ r : E4, e = .returned r.v ∧ r.is n ∧ Below w.heap.size w w')) (h : lst n = R) :
  Calls Tryz.prog F args w (fun e w' => e = .returned R.v ∧ Below w.heap.size w w') := by
 refine c.mono fun e w' q => ?_
 obtain ⟨r, q1, q2, q3⟩ := q
 have : r = R := Eq.trans q2 h
 subst this
 exact ⟨q1, q3⟩
def k1 : E4 := ⟨1, 0, 0, 0⟩
def k2 : E4 := ⟨2, 0, 0, 0⟩
def k3 : E4 := ⟨3, 0, 0, 0⟩
def k5 : E4 := ⟨5, 0, 0, 0⟩
theorem k2n : k2.n = 2 := rfl
end Go.Proofs.YtghcfcglakbkeaaGreatDoor
namespace Go.Proofs.YtghcfcglakbkeaaGreatDoor
open Go.RowKit
set_option linter.unusedVariables false
set_option linter.unusedSimpArgs false
open Cm (Wr Tm co bf Ls lf ins Eqm)
namespace Ci
set_option maxRecDepth 100000
set_option maxHeartbeats 4000000
structure Wk (m Kg : Nat) (Q : List (List Tm)) : Prop where
 wr : ∀ X ∈ Q, ∀ x ∈ X, hs m Kg x.1 = true
 ln : ∀ X ∈ Q, X.length ≤ 2932031007402
 q : Q.length ≤ 4096
 k : Kg ≤ 1024
 pf : ∃ R, Q = enl m ++ R
 mle : m ≤ Kg
end Ci
end Go.Proofs.YtghcfcglakbkeaaGreatDoor
namespace Go.Proofs.YtghcfcglakbkeaaGreatDoor
set_option maxRecDepth 100000
set_option maxHeartbeats 16000000
open Go.RowKit
set_option linter.unusedVariables false
set_option linter.unusedSimpArgs false
open Cm (Wr Tm co bf Ls lf ins Eqm)
namespace Ci
theorem ft_get {X : List Tm} {k : Nat} (hk : k < X.length) : ft X k = tmOf X[k] := by
 unfold ft
 rw [List.getD_eq_getElem?_getD, List.getElem?_eq_getElem hk]
 rfl
end Ci
end Go.Proofs.YtghcfcglakbkeaaGreatDoor
namespace Go.Proofs.YtghcfcglakbkeaaGreatDoor.Tr
open Go.RowKit
theorem Hn {p : Prop} (h : p) : Hid p := h
theorem bl_trans {w w1 w2 : World} (h1 : Below w.heap.size w w1) (h2 : Below w1.heap.size w1 w2) : Below w.heap.size w w2 := h1.trans (h2.mono h1.size)
theorem bl_alloc (w : World) (o : Obj) : Below w.heap.size w (w.alloc o) := (Below.refl _ _).alloc (Nat.le_refl _) _
theorem cell_keep {w w' : World} {a : Addr} {v : Value} (h : w.cell? a = some v) (hb : Below w.heap.size w w') : w'.cell? a = some v := by
 rw [hb.cell (p := a) (World.block_lt_of_cell? w a h)]; exact h
theorem below_trans {n : Nat} {w1 w2 w3 : World} (h1 : Below n w1 w2) (h2 : Below n w2 w3) : Below n w1 w3 := ⟨h2.os.trans h1.os, h2.tape.trans h1.tape, h2.output.trans h1.output, Nat.le_trans h1.size h2.size, fun k hk => (h2.block k hk).trans (h1.block k hk)⟩
theorem below_grown {w w' : World} {row : Option Nat} {base : Nat} (hg : w.grownBy w' row) (hb : base ≤ w.heap.size) (hr : ∀ k, row = some k → base ≤ k) : Below base w w' :=
 ⟨hg.os, hg.tape, hg.output, hg.size, fun k hk => hg.block k (by omega) (fun e => by have := hr k e.symm; omega)⟩
theorem cells_new (w : World) (cs : List Value) (t : TypeId) : ∀ j u, cs[j]? = some u → (w.alloc (.cells cs.toArray t)).cell? ((⟨w.heap.size, 0, none⟩ : Addr).add j) = some u := by
 intro j u hu
 have hadd : (⟨w.heap.size, 0, none⟩ : Addr).add j = ⟨w.heap.size, j, none⟩ := by unfold Addr.add; split <;> simp_all
 rw [hadd, cell_of_row (w.alloc (.cells cs.toArray t)) w.heap.size j cs.toArray t (0, 0) (heap_alloc_new w _)]
 simpa using hu
def cb (bs : List UInt8) : List Value := bs.map fun b => Value.int .u8 (b.toNat : Int)
theorem cb_len (bs : List UInt8) : (cb bs).length = bs.length := by simp [cb]
theorem cb_app (a b : List UInt8) : cb (a ++ b) = cb a ++ cb b := by simp [cb]
theorem cb_one (bs : List UInt8) : ∀ u ∈ cb bs, u.oneCell' = true := by
 intro u hu
 obtain ⟨b, _, rfl⟩ := List.mem_map.1 hu
 rfl
theorem cb_at (bs : List UInt8) (j : Nat) (h : j < bs.length) : (cb bs)[j]? = some (.int .u8 (bs[j].toNat : Int)) := by simp [cb, List.getElem?_eq_getElem h]
def sb (bs : List UInt8) : ByteArray := ⟨bs.toArray⟩
structure By (w : World) (P : Option Addr) (c : Nat) (bs : List UInt8) : Prop where
 nil : P = none → bs = [] ∧ c = 0
 lie : ∀ a, P = some a → ∀ j u, (cb bs)[j]? = some u → w.cell? (a.add j) = some u
theorem By.keep {w w' : World} {P : Option Addr} {c : Nat} {bs : List UInt8} (h : By w P c bs) (hb : Below w.heap.size w w') : By w' P c bs :=
 ⟨h.nil, fun a ha j u hu => cell_keep (h.lie a ha j u hu) hb⟩
theorem by_conv {w : World} {P : Option Addr} {c : Nat} {bs : List UInt8} (h : By w P c bs) : (convert 61 9 (.slice P bs.length c)).run Tryz.prog w = .ok (.string (sb bs)) w := by
 have h1 : Tryz.prog.underlying 61 = some (.slice 5) := by kernel_rfl
 have h2 : Tryz.prog.underlying 5 = some (.int .u8) := by kernel_rfl
 have h3 : Tryz.prog.underlying 9 = some .string := by kernel_rfl
 cases P with
 | none =>
  obtain ⟨rfl, rfl⟩ := h.nil rfl
  exact run_convert_bytes_nil w _ _ h1 h2 0 0 _ h3
 | some a =>
  exact run_convert_bytes_back w _ _ _ a c bs h1 h2 h3 (fun j hj => h.lie a rfl j _ (cb_at bs j hj))
theorem own_by {w : World} {base : Nat} {v : Value} {bs : List UInt8} (h : w.ownsRow base 5 1 v bs.length (cb bs)) : ∃ (P : Option Addr) (c : Nat), v = .slice P bs.length c ∧ By w P c bs := by
 rcases h.2 with ⟨rfl, h0⟩ | ⟨g, cap, cur, rfl, hb, hg, hnc, hcm, hcs, htake⟩
 ·have : bs = [] := List.eq_nil_of_length_eq_zero h0
  subst this
  exact ⟨none, 0, rfl, fun _ => ⟨rfl, rfl⟩, fun a ha => by cases ha⟩
 ·refine ⟨some ⟨g, 0, none⟩, cap, rfl, fun h => (by cases h), fun a ha => ?_⟩
  obtain rfl := Option.some.inj ha
  exact h.cells rfl
theorem run_app_by (w : World) (base ty : Nat) (v : Value) (xs bs : List UInt8) (P : Option Addr) (c : Nat) (ho : w.ownsRow base 5 1 v xs.length (cb xs)) (hB : By w P c bs) (hx : xs.length + bs.length ≤ 2 ^ 47) (hb : base ≤ w.heap.size) :
  ∃ v' w', (Builtin.append_ #[61, 61] ty #[v, .slice P bs.length c]).run Tryz.prog w = .ok v' w' ∧ w'.ownsRow base 5 1 v' (xs ++ bs).length (cb (xs ++ bs)) ∧ w.grownBy w' v.ownBlock := by
 have h1 : Tryz.prog.underlying 61 = some (.slice 5) := by kernel_rfl
 have hi : Tryz.prog.info? 5 = some (Tryz.prog.info? 5).get! := by kernel_rfl
 have hz : (Tryz.prog.info? 5).get!.zero = some (.int .u8 0) := by kernel_rfl
 have hs : (Tryz.prog.info? 5).get!.size = 1 := by kernel_rfl
 have hy : (Tryz.prog.info? 5).get!.bytes = 1 := by kernel_rfl
 cases P with
 | none =>
  obtain ⟨rfl, rfl⟩ := hB.nil rfl
  refine ⟨v, w, run_append_owned_none w base _ _ _ _ 1 h1 hi v _ _ ho, by simpa using ho, ⟨rfl, rfl, rfl, Nat.le_refl _, fun _ _ _ => rfl⟩⟩
 | some a =>
  obtain ⟨v', w', hr, ho', hg, _⟩ := run_append_own (P := Tryz.prog) w base _ ty _ _ _ 1 1 h1 hi hz hs hy rfl (by decide) v _ _ ho a bs.length c (cb bs) (by simp [cb_len]) (hB.lie a rfl) (cb_one bs) (by unfold maxLen; omega) (by omega) hb
  refine ⟨v', w', hr, ?_, hg⟩
  rw [List.length_append, cb_app]
  exact ho'
theorem wpList_app_by {w : World} {ops : Array Oper} {rest : List Oper} {o : Oper} {a : Act} {Q : Exit → Act → World → Prop} (hgd : o.guard = none) (sl x : Operand)
  (ho : o.op = .call { callee := .builtin .append, args := #[sl, x], argTypes := #[61, 61] })
  (base : Nat) (v : Value) (xs bs : List UInt8) (P : Option Addr) (c : Nat) (hs : a.eval sl = v) (hx : a.eval x = .slice P bs.length c) (hown : w.ownsRow base 5 1 v xs.length (cb xs)) (hB : By w P c bs) (hl : xs.length + bs.length ≤ 2 ^ 47) (hbase : base ≤ w.heap.size)
  (h : ∀ v' w', w'.ownsRow base 5 1 v' (xs ++ bs).length (cb (xs ++ bs)) → w.grownBy w' v.ownBlock → wpList Tryz.prog ops Q rest (a.put o.dst v') w') : wpList Tryz.prog ops Q (o :: rest) a w := by
 refine wpList_plain hgd fun K hK => ?_
 obtain ⟨v', w', hr, h2, h3⟩ := run_app_by w base o.type v xs bs P c hown hB hl hbase
 unfold Oper.wp execOp
 simp only [ho, resolve, invoke, builtin, Sem.run_bind, Sem.run_pure, Result.andThen_ok, List.map_toArray, List.map_cons, List.map_nil, hs, hx, hr]
 exact hK _ _ (h v' w' h2 h3)
end Go.Proofs.YtghcfcglakbkeaaGreatDoor.Tr
namespace Go.Proofs.YtghcfcglakbkeaaGreatDoor.Tr
open Go.RowKit
theorem own_stay {w w' : World} {base size n : Nat} {e : TypeId} {v : Value} {xs : List Value} (h : w.ownsRow base e size v n xs) (hb : Below w.heap.size w w') : w'.ownsRow base e size v n xs := by
 refine ⟨h.1, ?_⟩
 rcases h.2 with hn | ⟨g, cap, cur, rfl, hbg, hgg, rest⟩
 ·exact .inl hn
 ·refine .inr ⟨g, cap, cur, rfl, hbg, ?_, rest⟩
  rw [hb.block g (Array.getElem?_eq_some_iff.1 hgg).1]
  exact hgg
theorem by_list (w : World) (l : List UInt8) (c : Nat) : By (w.alloc (.cells (cb l).toArray 5)) (some ⟨w.heap.size, 0, none⟩) c l :=
 ⟨fun h => (by cases h), fun a ha => by obtain rfl := Option.some.inj ha; exact cells_new w (cb l) _⟩
theorem By.at {w : World} {b o c : Nat} {bs : List UInt8} (h : By w (some ⟨b, o, none⟩) c bs) (k : Nat) (hk : k < bs.length) : w.cell? ⟨b, o + k, none⟩ = some (.int .u8 ((bs.getD k 0).toNat : Int)) := by
 have := h.lie _ rfl k _ (cb_at bs k hk)
 rw [Addr.add_lit] at this
 simpa [List.getElem?_eq_getElem hk] using this
set_option maxRecDepth 100000 in
set_option maxHeartbeats 4000000 in
theorem clone_any (P : Option Addr) (c : Nat) (bs : List UInt8) (w : World) (hB : By w P c bs) (hl : bs.length ≤ 140737488355328) :
  Calls Tryz.prog 126 #[.slice P bs.length c] w fun e w' => ∃ v, e = .returned v ∧ w'.ownsRow w.heap.size 5 1 v bs.length (cb bs) ∧ Below w.heap.size w w' := by
 have eqn := fun (a : Option Addr) (l c : Nat) (w : World) => Lib.run_eql_slice_nil (P := Tryz.prog) w 61 5 a l c 0 0 (by kernel_rfl)
 have HL := Hn hl
 cases P with
 | none =>
  obtain ⟨rfl, rfl⟩ := hB.nil rfl
  clear hB hl
  go_enter Tryz.func126, Tryz.ntmps126
  go_wp2_with fail
  refine bodyPost_ret (v := .slice none 0 0) (by simp [results, Tryz.results126, go_sem]) rfl ⟨_, rfl, World.ownsRow_nil _ _ _ _, Below.refl _ _⟩
 | some ad =>
  have O0 := Hn (World.ownsRow_made (base := w.heap.size) (e := 5) (size := 1) w #[] 0 (Nat.le_refl _) (by unfold maxLen; omega) rfl)
  have B0 := Hn (bl_alloc w (.cells #[] 5))
  have HY := Hn (hB.keep (bl_alloc w (.cells #[] 5)))
  clear hB hl
  go_enter Tryz.func126, Tryz.ntmps126
  go_wp2_with (first | (at_builtin; refine wpList_app_by rfl _ _ rfl w.heap.size _ [] bs (some ad) c rfl rfl O0.out HY.out (by have := HL.out; simp only [List.length_nil]; omega) B0.out.size ?_; intro v2 w2 ho2 hg2; have HO := Hn ho2; have HB := Hn (below_trans B0.out (below_grown hg2 B0.out.size (fun k hk => (O0.out.lt k hk).1))); clear ho2 hg2; rw [List.nil_append] at HO))
  refine bodyPost_ret (v := v2) (by simp [results, Tryz.results126, go_sem]) rfl ⟨_, rfl, HO.out, HB.out⟩
end Go.Proofs.YtghcfcglakbkeaaGreatDoor.Tr
namespace Go.Proofs.YtghcfcglakbkeaaGreatDoor.Tr
def vf : Nat → Nat → List UInt8
 | 0, n => [UInt8.ofNat n]
 | k + 1, n => if n < 128 then [UInt8.ofNat n] else UInt8.ofNat (n % 128 + 128) :: vf k (n / 128)
def vn (n : Nat) : List UInt8 := vf 9 n
theorem vf_small (k n : Nat) (h : n < 128) : vf k n = [UInt8.ofNat n] := by
 cases k with
 | zero => rfl
 | succ k => simp [vf, h]
theorem vf_big (k n : Nat) (h : ¬ n < 128) : vf (k + 1) n = UInt8.ofNat (n % 128 + 128) :: vf k (n / 128) := by simp [vf, h]
theorem vf_len : ∀ k n, 1 ≤ (vf k n).length ∧ (vf k n).length ≤ k + 1
 | 0, n => by simp [vf]
 | k + 1, n => by
  have := vf_len k (n / 128)
  unfold vf
  split
  ·simp
  ·simp only [List.length_cons]; omega
theorem vn_len (n : Nat) : 1 ≤ (vn n).length ∧ (vn n).length ≤ 10 := vf_len 9 n
def rd : Nat → Nat → List UInt8 → Nat × Nat × Nat
 | _, _, [] => (0, 0, 100)
 | i, acc, c :: r =>
  if i = 9 ∧ 1 < c.toNat then (0, 0, 102)
  else if 128 ≤ c.toNat then rd (i + 1) (acc + (c.toNat - 128) * 2 ^ (7 * i)) r
  else if c.toNat = 0 ∧ 0 < i then (0, 0, 102)
  else (acc + c.toNat * 2 ^ (7 * i), i + 1, 0)
def nm (bs : List UInt8) (most : Nat) : Nat × Nat × Nat :=
 let x := rd 0 0 bs
 if x.2.2 = 0 ∧ most < x.1 then (0, 0, 102) else x
theorem ofNat_toNat (c : UInt8) : UInt8.ofNat c.toNat = c := by simp
end Go.Proofs.YtghcfcglakbkeaaGreatDoor.Tr
namespace Go.Proofs.YtghcfcglakbkeaaGreatDoor.Tr
open Go.RowKit
theorem or_high (m : Nat) : (m % 256) ||| 128 = (UInt8.ofNat (m % 128 + 128)).toNat := by
 rw [UInt8.toNat_ofNat']
 have h1 : m % 256 = (m / 128 % 2) * 128 + m % 128 := by omega
 have h2 : (m % 256) ||| 128 = m % 128 + 128 := by
  rcases Nat.mod_two_eq_zero_or_one (m / 128) with h | h
  ·have e : m % 256 = m % 128 := by omega
   rw [e, Nat.or_comm, ← Nat.two_pow_add_eq_or_of_lt (i := 7) (b := m % 128) (by omega) 1]
   omega
  ·have e : m % 256 = 128 + m % 128 := by omega
   have e2 := Nat.two_pow_add_eq_or_of_lt (i := 7) (b := m % 128) (by omega) 1
   simp only [Nat.reducePow, Nat.mul_one] at e2
   rw [e, e2, Nat.or_comm, ← Nat.or_assoc, Nat.or_self, ← e2]
   omega
 rw [h2]
 omega
theorem u8_or (a b : Nat) (ha : a < 256) (hb : b < 256) : IntKind.u8.wrap ((BitVec.ofInt IntKind.u8.bits (a : Int) ||| BitVec.ofInt IntKind.u8.bits (b : Int)).toNat : Int) = ((a ||| b : Nat) : Int) := by
 have h1 : ∀ x : Nat, x < 256 → (BitVec.ofInt IntKind.u8.bits (x : Int)).toNat = x := fun x hx => by
  show (BitVec.ofInt 8 (x : Int)).toNat = x
  rw [BitVec.toNat_ofInt]
  omega
 have h2 : a ||| b < 2 ^ 8 := Nat.or_lt_two_pow (by omega) (by omega)
 rw [BitVec.toNat_or, h1 a ha, h1 b hb, IntKind.wrap_u8]
 omega
theorem or_high' (m : Nat) : bits .or .u8 ((m : Int) % 256) 128 = ((UInt8.ofNat (m % 128 + 128)).toNat : Int) := by
 rw [← or_high m, ← u8_or (m % 256) 128 (by omega) (by omega)]
 rfl
set_option maxRecDepth 100000 in
set_option maxHeartbeats 8000000 in
theorem appNum_any (P : Option Addr) (c : Nat) (bs : List UInt8) (n : Nat) (w : World) (hB : By w P c bs) (hl : bs.length ≤ 140737488355000) (hn : n < 2 ^ 64) :
  Calls Tryz.prog 118 #[.slice P bs.length c, .int .u64 (n : Int)] w fun e w' => ∃ v, e = .returned v ∧ w'.ownsRow w.heap.size 5 1 v (bs ++ vn n).length (cb (bs ++ vn n)) ∧ Below w.heap.size w w' := by
 have HC := Hn (clone_any P c bs w hB (by omega))
 have HL := Hn hl
 have HN := Hn hn
 clear hB hl hn
 go_enter Tryz.func118, Tryz.ntmps118
 go_upto_region 2 with (first | (go_at_call 126; refine HC.out.mono ?_; rintro e w1 ⟨v1, rfl, ho, hb⟩; have HO := Hn ho; have HB := Hn hb; clear ho hb))
 clear HC
 go_loopw [0, 1] (fun vv mv w' => ∃ (k m : Nat) (D : List UInt8), k ≤ 9 ∧ mv = .int .u64 (m : Int) ∧ Hid (D.length = k ∧ vn n = D ++ vf (9 - k) m ∧ m < 2 ^ (64 - 7 * k)) ∧ Hid (w'.ownsRow w.heap.size 5 1 vv (bs ++ D).length (cb (bs ++ D))) ∧ Hid (Below w.heap.size w w')) (fun _ m _ => (intOf m).toNat)
 case atStart => exact ⟨0, n, [], by omega, rfl, Hn ⟨rfl, rfl, by simpa using HN.out⟩, by simpa using HO, HB⟩
 case round =>
  clear HO HB
  obtain ⟨k, m, D, hk, rfl, hM, HO, HB⟩ := hrel
  by_cases hm : m < 128
  ·obtain ⟨y, rfl⟩ : ∃ y : UInt8, m = y.toNat := ⟨UInt8.ofNat m, by rw [UInt8.toNat_ofNat']; omega⟩
   have k0 : ¬ (128 : Int) ≤ (y.toNat : Int) := by omega
   have HE : Hid (vn n = D ++ [y]) := Hn (by rw [hM.out.2.1, vf_small _ _ hm, ofNat_toNat])
   have HD : Hid (D.length ≤ 9) := Hn (by have := hM.out.1; omega)
   clear hM
   go_wp2_with (first | (at_builtin; refine wpList_app_by rfl _ _ rfl w.heap.size _ (bs ++ D) [y] (some ⟨wr.heap.size, 0, none⟩) 1 rfl rfl (own_stay HO.out (bl_alloc wr _)) (by_list wr [y] 1) (by have := HL.out; have := HD.out; simp only [List.length_append, List.length_cons, List.length_nil]; omega) (by have := HB.out.size; simp; omega) ?_; intro v1 w1 ho1 hg1; have HO1 := Hn ho1; have HB1 := Hn (below_trans (bl_trans HB.out (bl_alloc wr _)) (below_grown hg1 (by have := HB.out.size; simp; omega) (fun j hj => (HO.out.lt j hj).1))); clear ho1 hg1))
   refine bodyPost_ret (v := v1) (by simp [results, Tryz.results118, go_sem]) rfl ⟨_, rfl, by have h := HO1.out; rw [List.append_assoc, ← HE.out] at h; first | exact h | (rw [List.length_append] at h; exact h), HB1.out⟩
  ·have k0 : (128 : Int) ≤ (m : Int) := by omega
   have hk9 : k < 9 := by
    have := hM.out.2.2
    by_cases e : k = 9
    ·subst e; simp at this; omega
    ·omega
   have hi := or_high' m
   have HE : Hid (vn n = D ++ [UInt8.ofNat (m % 128 + 128)] ++ vf (9 - (k + 1)) (m / 128)) := Hn (by rw [hM.out.2.1, show 9 - k = (9 - (k + 1)) + 1 by omega, vf_big _ _ hm]; simp)
   have HD : Hid (D.length = k ∧ m / 128 < 2 ^ (64 - 7 * (k + 1))) := Hn (by
    have h64 : 2 ^ (64 - 7 * k) = 128 * 2 ^ (64 - 7 * (k + 1)) := by
     rw [show 64 - 7 * k = 7 + (64 - 7 * (k + 1)) by omega, Nat.pow_add]
    have := hM.out.2.2
    exact ⟨hM.out.1, by omega⟩)
   generalize UInt8.ofNat (m % 128 + 128) = y at hi HE
   clear hM
   go_wp2_with (first | (at_builtin; refine wpList_app_by rfl _ _ rfl w.heap.size _ (bs ++ D) [y] (some ⟨wr.heap.size, 0, none⟩) 1 rfl rfl (own_stay HO.out (bl_alloc wr _)) (by_list wr [y] 1) (by have := HL.out; have := HD.out.1; simp only [List.length_append, List.length_cons, List.length_nil]; omega) (by have := HB.out.size; simp; omega) ?_; intro v1 w1 ho1 hg1; have HO1 := Hn ho1; have HB1 := Hn (below_trans (bl_trans HB.out (bl_alloc wr _)) (below_grown hg1 (by have := HB.out.size; simp; omega) (fun j hj => (HO.out.lt j hj).1))); clear ho1 hg1))
   go_roundw
   case rel => exact ⟨k + 1, m / 128, D ++ [y], by omega, by go_num, Hn ⟨by have := HD.out.1; simp; omega, HE.out, HD.out.2⟩, by rw [← List.append_assoc]; exact HO1, HB1⟩
   case measure => simp [intOf]; omega
end Go.Proofs.YtghcfcglakbkeaaGreatDoor.Tr
namespace Go.Proofs.YtghcfcglakbkeaaGreatDoor
open Go.RowKit
theorem or_parts (i : Nat) (h l : Int) (hl0 : 0 ≤ l) (hl : l < 2 ^ i) (hh0 : 0 ≤ h) (hh : h * 2 ^ i < 18446744073709551616) (hi : i ≤ 63) : bits .or .u64 l (h * 2 ^ i) = l + h * 2 ^ i := by
 obtain ⟨H, rfl⟩ := Int.eq_ofNat_of_zero_le hh0
 obtain ⟨L, rfl⟩ := Int.eq_ofNat_of_zero_le hl0
 have e : (H : Int) * 2 ^ i = ((H * 2 ^ i : Nat) : Int) := by simp
 rw [e] at hh ⊢
 have hL : L < 2 ^ i := by
  have e2 : ((2 : Int) ^ i) = ((2 ^ i : Nat) : Int) := by simp
  rw [e2] at hl; omega
 have h64 : 2 ^ i ≤ 2 ^ 63 := Nat.pow_le_pow_right (by omega) hi
 rw [u64_or_nat _ _ (by omega) (by omega), Nat.or_comm]
 have := Nat.shiftLeft_add_eq_or_of_lt hL H
 rw [Nat.shiftLeft_eq] at this
 rw [← this]; omega
def bv (zs : List Int) : Value := .agg (zs.map fun z => Value.int .u8 z).toArray
set_option maxHeartbeats 8000000 in
theorem read_step (N : Int) (k : Nat) (hk : k < 32) :
  (∀ j, j < 4 → j ≠ k / 8 → Sm.lim j (N % 256 ^ (k + 1)) = Sm.lim j (N % 256 ^ k)) ∧ Sm.lim (k / 8) (N % 256 ^ (k + 1)) = Sm.lim (k / 8) (N % 256 ^ k) + N / 256 ^ k % 256 * 2 ^ (8 * (k % 8)) ∧ Sm.lim (k / 8) (N % 256 ^ k) < 2 ^ (8 * (k % 8)) := by
 have hc : k = 0 ∨ k = 1 ∨ k = 2 ∨ k = 3 ∨ k = 4 ∨ k = 5 ∨ k = 6 ∨ k = 7 ∨ k = 8 ∨ k = 9 ∨ k = 10 ∨ k = 11 ∨ k = 12 ∨ k = 13 ∨ k = 14 ∨ k = 15 ∨ k = 16 ∨ k = 17 ∨ k = 18 ∨ k = 19 ∨ k = 20 ∨ k = 21 ∨ k = 22 ∨ k = 23 ∨ k = 24 ∨ k = 25 ∨ k = 26 ∨ k = 27 ∨ k = 28 ∨ k = 29 ∨ k = 30 ∨ k = 31 := by omega
 rcases hc with rfl | rfl | rfl | rfl | rfl | rfl | rfl | rfl | rfl | rfl | rfl | rfl | rfl | rfl | rfl | rfl | rfl | rfl | rfl | rfl | rfl | rfl | rfl | rfl | rfl | rfl | rfl | rfl | rfl | rfl | rfl | rfl
 all_goals
  refine ⟨fun j hj hne => ?_, ?_, ?_⟩
  ·have hj4 : j = 0 ∨ j = 1 ∨ j = 2 ∨ j = 3 := by omega
   rcases hj4 with rfl | rfl | rfl | rfl
   all_goals first
    | exact absurd rfl hne
    | (simp only [Sm.lim, Nat.reduceAdd, Int.reducePow]; omega)
  ·simp only [Sm.lim, Nat.reduceAdd, Nat.reduceDiv, Nat.reduceMod, Nat.reduceMul, Int.reducePow]; omega
  ·simp only [Sm.lim, Nat.reduceDiv, Nat.reduceMod, Nat.reduceMul, Int.reducePow]; omega
end Go.Proofs.YtghcfcglakbkeaaGreatDoor
namespace Go.Proofs.YtghcfcglakbkeaaGreatDoor
open Go.RowKit
def limE (N : Int) : E4 := ⟨Sm.lim 0 N, Sm.lim 1 N, Sm.lim 2 N, Sm.lim 3 N⟩
theorem limE_ok (N : Int) : (limE N).ok := ⟨Sm.lim_wd 0 _, Sm.lim_wd 1 _, Sm.lim_wd 2 _, Sm.lim_wd 3 _⟩
theorem limE_n (N : Int) (h0 : 0 ≤ N) (h1 : N < 115792089237316195423570985008687907853269984665640564039457584007913129639936) : (limE N).n = N := Sm.V_lim N h0 h1
structure RdW (w0 : World) (N : Int) (k : Nat) (w : World) : Prop where
 c : ∀ j, j < 4 → w.cell? ⟨w0.heap.size + 1 + 1, j, none⟩ = some (.int .u64 (Sm.lim j (N % 256 ^ k)))
 f : ∀ j, j < 4 → w.frozen? ⟨w0.heap.size + 1 + 1, j, none⟩ = false
 rs : Blc w (w0.heap.size + 1) zero4
 rf : Wrt w (w0.heap.size + 1)
 bel : Below w0.heap.size w0 w
theorem RdW.drew {w0 : World} {N : Int} {k : Nat} {w : World} (h : RdW w0 N k w) : RdW w0 N k w.drew := by
 have hb : Below w.heap.size w w.drew := (Below.refl _ _).drew
 have hl := World.block_lt_of_cell? w ⟨w0.heap.size + 1 + 1, 0, none⟩ (h.c 0 (by omega))
 exact ⟨fun j hj => cell_keep (h.c j hj) hb, fun j hj => ((bcell hb).2 _ _ hl).trans (h.f j hj), h.rs.keep hb, h.rf.keep h.rs.lt hb, bl_trans h.bel hb⟩
theorem RdW.step {w0 : World} {N : Int} {k : Nat} {w : World} (h : RdW w0 N k w) (hk : k < 32) :
  RdW w0 N (k + 1) (w.setCell ⟨w0.heap.size + 1 + 1, k / 8, none⟩ (.int .u64 (Sm.lim (k / 8) (N % 256 ^ (k + 1))))) := by
 obtain ⟨s1, -, -⟩ := read_step N k hk
 have hq : k / 8 < 4 := by omega
 refine ⟨fun j hj => ?_, fun j hj => by have := h.f j hj; go_simp, ?_, ?_, h.bel.setCell (by show w0.heap.size ≤ w0.heap.size + 1 + 1; omega) _⟩
 ·by_cases hjk : j = k / 8
  ·subst hjk
   have hb := h.c (k / 8) hj
   go_simp
  ·rw [World.cell?_setCell_other w _ _ _ (by intro e; exact hjk (congrArg Addr.off e).symm), h.c j hj, s1 j hj hjk]
 ·obtain ⟨a0, a1, a2, a3⟩ := h.rs
  exact ⟨(World.cell?_setCell_far w _ _ _ (by show w0.heap.size + 1 + 1 ≠ w0.heap.size + 1; omega)).trans a0, (World.cell?_setCell_far w _ _ _ (by show w0.heap.size + 1 + 1 ≠ w0.heap.size + 1; omega)).trans a1, (World.cell?_setCell_far w _ _ _ (by show w0.heap.size + 1 + 1 ≠ w0.heap.size + 1; omega)).trans a2, (World.cell?_setCell_far w _ _ _ (by show w0.heap.size + 1 + 1 ≠ w0.heap.size + 1; omega)).trans a3⟩
 ·obtain ⟨a0, a1, a2, a3⟩ := h.rf
  exact ⟨by go_simp, by go_simp, by go_simp, by go_simp⟩
end Go.Proofs.YtghcfcglakbkeaaGreatDoor
