import Derived.Test.YtimjfndaleccaaaDoorCen
import Derived.Test.YtimjfndaleccaaaDoorCha
import Derived.Test.YtimjfndaleccaaaDoorTk
namespace Go.Proofs.YtimjfndaleccaaaDoor
open Go.RowKit
set_option linter.unusedVariables false
set_option linter.unusedSimpArgs false
open Cm (Wr Tm co bf Ls lf ins Eqm)
namespace Ci
set_option maxRecDepth 100000
set_option maxHeartbeats 4000000
def setS (w : World) (b o : Nat) (x : E4) : World := (((w.setCell ⟨b, o, none⟩ (.int .u64 x.x0)).setCell ⟨b, o + 1, none⟩ (.int .u64 x.x1)).setCell ⟨b, o + 2, none⟩ (.int .u64 x.x2)).setCell ⟨b, o + 3, none⟩ (.int .u64 x.x3)
theorem setS_size (w : World) (b o : Nat) (x : E4) : (setS w b o x).heap.size = w.heap.size := by unfold setS; simp
theorem setS_frozen (w : World) (b o : Nat) (x : E4) (a : Addr) : (setS w b o x).frozen? a = w.frozen? a := by unfold setS; simp only [World.frozen?_setCell]
theorem setC_ne4 (W : World) (b x k : Nat) (v : Value) (h : k ≠ x) : (W.setCell ⟨b, x, none⟩ v).cell? ⟨b, k, none⟩ = W.cell? ⟨b, k, none⟩ := World.cell?_setCell_other _ _ _ _ (fun e => h (congrArg Addr.off e).symm)
theorem setS_out (w : World) (b o : Nat) (x : E4) {k : Nat} (h : k < o ∨ o + 4 ≤ k) : (setS w b o x).cell? ⟨b, k, none⟩ = w.cell? ⟨b, k, none⟩ := by
 unfold setS
 rw [setC_ne4 _ _ _ _ _ (by omega), setC_ne4 _ _ _ _ _ (by omega), setC_ne4 _ _ _ _ _ (by omega), setC_ne4 _ _ _ _ _ (by omega)]
theorem setS_in (w : World) (b o : Nat) (x : E4) {v0 v1 v2 v3 : Value} (h0 : w.cell? ⟨b, o, none⟩ = some v0) (h1 : w.cell? ⟨b, o + 1, none⟩ = some v1) (h2 : w.cell? ⟨b, o + 2, none⟩ = some v2) (h3 : w.cell? ⟨b, o + 3, none⟩ = some v3) :
  (setS w b o x).cell? ⟨b, o, none⟩ = some (.int .u64 x.x0) ∧ (setS w b o x).cell? ⟨b, o + 1, none⟩ = some (.int .u64 x.x1) ∧ (setS w b o x).cell? ⟨b, o + 2, none⟩ = some (.int .u64 x.x2) ∧ (setS w b o x).cell? ⟨b, o + 3, none⟩ = some (.int .u64 x.x3) := by
 unfold setS
 refine ⟨?_, ?_, ?_, ?_⟩ <;> go_simp
structure Rm (w : World) (b n : Nat) (g : Nat → E4) : Prop where
 lt : b < w.heap.size
 r : R4 w b 0 n g
 fr : ∀ k, k < n * 4 → w.frozen? ⟨b, k, none⟩ = false
theorem Rm.keep {w w' : World} {b n : Nat} {g : Nat → E4} (h : Rm w b n g) (hb : Below w.heap.size w w') : Rm w' b n g :=
 ⟨Nat.lt_of_lt_of_le h.lt hb.size, h.r.keep hb, fun k hk => ((bcell hb).2 _ _ h.lt).trans (h.fr k hk)⟩
theorem Rm.made (w : World) (n : Nat) (t : TypeId) : Rm (w.alloc (.cells (madeCells #[.int .u64 0, .int .u64 0, .int .u64 0, .int .u64 0] (n * 4)) t)) w.heap.size n (fun _ => ⟨0, 0, 0, 0⟩) := by
 have hc : ∀ j, j < n * 4 → (w.alloc (.cells (madeCells #[.int .u64 0, .int .u64 0, .int .u64 0, .int .u64 0] (n * 4)) t)).cell? ⟨w.heap.size, j, none⟩ = some (.int .u64 0) := fun j hj => by
  rw [cell_of_row (w.alloc (.cells (madeCells #[.int .u64 0, .int .u64 0, .int .u64 0, .int .u64 0] (n * 4)) t)) w.heap.size j _ t (0, 0) (heap_alloc_new w _)]
  have h2 : j % 4 = 0 ∨ j % 4 = 1 ∨ j % 4 = 2 ∨ j % 4 = 3 := by omega
  rcases h2 with h2 | h2 | h2 | h2 <;> simp [madeCells, hj, h2]
 exact ⟨by simp, ⟨fun k hk => hc _ (by omega), fun k hk => hc _ (by omega), fun k hk => hc _ (by omega), fun k hk => hc _ (by omega)⟩, fun k hk => by go_simp⟩
theorem Rm.set {w : World} {b n : Nat} {g : Nat → E4} (r : Rm w b n g) (k : Nat) (hk : k < n) (x : E4) : Rm (setS w b (k * 4) x) b n (fun j => if j = k then x else g j) := by
 have c0 := r.r.c0 k hk; have c1 := r.r.c1 k hk; have c2 := r.r.c2 k hk; have c3 := r.r.c3 k hk
 rw [Nat.zero_add] at c0 c1 c2 c3
 obtain ⟨e0, e1, e2, e3⟩ := setS_in w b (k * 4) x c0 c1 c2 c3
 have out : ∀ i, i ≠ k → ∀ d, d < 4 → (setS w b (k * 4) x).cell? ⟨b, i * 4 + d, none⟩ = w.cell? ⟨b, i * 4 + d, none⟩ := fun i hi d hd => setS_out _ _ _ _ (by omega)
 refine ⟨by rw [setS_size]; exact r.lt, ⟨fun i hi => ?_, fun i hi => ?_, fun i hi => ?_, fun i hi => ?_⟩, fun j hj => by rw [setS_frozen]; exact r.fr j hj⟩
 ·rw [Nat.zero_add]
  by_cases e : i = k
  ·rw [if_pos e, e]; exact e0
  ·rw [if_neg e, ← Nat.add_zero (i * 4), out i e 0 (by omega), Nat.add_zero, ← Nat.zero_add (i * 4)]; exact r.r.c0 i hi
 ·rw [Nat.zero_add]
  by_cases e : i = k
  ·rw [if_pos e, e]; exact e1
  ·rw [if_neg e, out i e 1 (by omega), ← Nat.zero_add (i * 4)]; exact r.r.c1 i hi
 ·rw [Nat.zero_add]
  by_cases e : i = k
  ·rw [if_pos e, e]; exact e2
  ·rw [if_neg e, out i e 2 (by omega), ← Nat.zero_add (i * 4)]; exact r.r.c2 i hi
 ·rw [Nat.zero_add]
  by_cases e : i = k
  ·rw [if_pos e, e]; exact e3
  ·rw [if_neg e, out i e 3 (by omega), ← Nat.zero_add (i * 4)]; exact r.r.c3 i hi
theorem R4.far {w : World} {b o n : Nat} {g : Nat → E4} (r : R4 w b o n g) {a : Addr} (v : Value) (h : a.block ≠ b) : R4 (w.setCell a v) b o n g :=
 ⟨fun k hk => (World.cell?_setCell_far _ _ _ _ h).trans (r.c0 k hk), fun k hk => (World.cell?_setCell_far _ _ _ _ h).trans (r.c1 k hk), fun k hk => (World.cell?_setCell_far _ _ _ _ h).trans (r.c2 k hk), fun k hk => (World.cell?_setCell_far _ _ _ _ h).trans (r.c3 k hk)⟩
structure Zn (base : Nat) (cnt B : Nat → Nat) (g : Nat → Nat → E4) (x : World) : Prop where
 rm : ∀ k, k < 6 → Rm x (B k) (cnt k) (g k)
 dj : ∀ i j, i < 6 → j < 6 → i ≠ j → B i ≠ B j
 lo : ∀ k, k < 6 → base ≤ B k
 ok : ∀ k i, k < 6 → i < cnt k → (g k i).ok
theorem Zn.keep {base : Nat} {cnt B : Nat → Nat} {g : Nat → Nat → E4} {x y : World} (h : Zn base cnt B g x) (hb : Below x.heap.size x y) : Zn base cnt B g y := ⟨fun k hk => (h.rm k hk).keep hb, h.dj, h.lo, h.ok⟩
def upd2 (g : Nat → Nat → E4) (k i : Nat) (z : E4) (a b : Nat) : E4 := if a = k then (if b = i then z else g a b) else g a b
theorem setS_gb (x : World) (b o : Nat) (z : E4) : x.grownBy (setS x b o z) (some b) := ⟨rfl, rfl, rfl, by rw [setS_size]; exact Nat.le_refl _, fun i _ hi => by
 unfold setS
 rw [heap_setCell_other _ ⟨b, o + 3, none⟩ i _ (fun e => hi (by rw [e])), heap_setCell_other _ ⟨b, o + 2, none⟩ i _ (fun e => hi (by rw [e])), heap_setCell_other _ ⟨b, o + 1, none⟩ i _ (fun e => hi (by rw [e])), heap_setCell_other _ ⟨b, o, none⟩ i _ (fun e => hi (by rw [e]))]⟩
theorem Rm.far {x y : World} {b n r : Nat} {g : Nat → E4} (h : Rm x b n g) (hg : x.grownBy y (some r)) (hne : b ≠ r) : Rm y b n g :=
 ⟨Nat.lt_of_lt_of_le h.lt hg.size, ⟨fun k hk => hg.cell (h.r.c0 k hk) (fun e => hne (Option.some.inj e)), fun k hk => hg.cell (h.r.c1 k hk) (fun e => hne (Option.some.inj e)), fun k hk => hg.cell (h.r.c2 k hk) (fun e => hne (Option.some.inj e)), fun k hk => hg.cell (h.r.c3 k hk) (fun e => hne (Option.some.inj e))⟩, fun k hk => gz_frozen hg (p := ⟨b, k, none⟩) (fun e => hne (Option.some.inj e)) h.lt (h.fr k hk)⟩
theorem Zn.set {base : Nat} {cnt B : Nat → Nat} {g : Nat → Nat → E4} {x : World} (h : Zn base cnt B g x) (k i : Nat) (hk : k < 6) (hi : i < cnt k) (z : E4) (hz : z.ok) : Zn base cnt B (upd2 g k i z) (setS x (B k) (i * 4) z) := by
 refine ⟨fun j hj => ?_, h.dj, h.lo, fun j d hj hd => ?_⟩
 ·by_cases e : j = k
  ·subst e
   have := (h.rm j hj).set i hi z
   have e2 : upd2 g j i z j = fun d => if d = i then z else g j d := by funext d; unfold upd2; rw [if_pos rfl]
   rw [e2]
   exact this
  ·have e2 : upd2 g k i z j = g j := by funext d; unfold upd2; rw [if_neg e]
   rw [e2]
   exact (h.rm j hj).far (setS_gb _ _ _ _) (h.dj j k hj hk e)
 ·unfold upd2
  split
  ·split
   ·exact hz
   ·exact h.ok j d hj hd
  ·exact h.ok j d hj hd
theorem setCells_S (x : World) (b o : Nat) (z : E4) : x.setCells b o [.int .u64 z.x0, .int .u64 z.x1, .int .u64 z.x2, .int .u64 z.x3] = setS x b o z := rfl
def D1 (n : Nat) (u : Nat → E4) (v : Nat → Int) : Int := tot (fun i => (u i).n * v i) n
def DD (cnt : Nat → Nat) (g : Nat → Nat → E4) (val : Nat → Nat → Int) : Int := tot (fun k => D1 (cnt k) (g k) (val k)) 6
theorem tot_congr {h h' : Nat → Int} {n : Nat} (e : ∀ i, i < n → h i = h' i) : tot h n = tot h' n := by
 induction n with
 | zero => rfl
 | succ n ih => show tot h n + h n = tot h' n + h' n; rw [ih (fun i hi => e i (by omega)), e n (by omega)]
theorem tot_mul (c : Int) (h : Nat → Int) (n : Nat) : tot (fun i => c * h i) n = c * tot h n := by
 induction n with
 | zero => simp [tot]
 | succ n ih => show tot _ n + c * h n = c * (tot h n + h n); rw [ih, Int.mul_add]
theorem tot_zero (n : Nat) : tot (fun _ => 0) n = 0 := by
 induction n with
 | zero => rfl
 | succ n ih => show tot _ n + 0 = 0; rw [ih]; rfl
theorem tot_one {h : Nat → Int} {n i : Nat} (hi : i < n) (d : Int) : tot (fun j => h j + if j = i then d else 0) n = tot h n + d := by
 induction n with
 | zero => omega
 | succ n ih =>
  show tot _ n + (h n + if n = i then d else 0) = tot h n + h n + d
  by_cases e : n = i
  ·subst e
   rw [if_pos rfl]
   have : tot (fun j => h j + if j = n then d else 0) n = tot h n := tot_congr (fun j hj => by rw [if_neg (by omega)]; omega)
   rw [this]; omega
  ·rw [if_neg e, ih (by omega)]; omega
theorem tot_mod {h h' : Nat → Int} {n : Nat} (e : ∀ i, i < n → h i % Sm.L = h' i % Sm.L) : tot h n % Sm.L = tot h' n % Sm.L := by
 induction n with
 | zero => rfl
 | succ n ih => show (tot h n + h n) % _ = (tot h' n + h' n) % _; rw [Int.add_emod, ih (fun i hi => e i (by omega)), e n (by omega), ← Int.add_emod]
theorem D1_set {n i : Nat} {u : Nat → E4} {v : Nat → Int} {z : E4} {d : Int} (hi : i < n) (hz : z.n % Sm.L = ((u i).n + d) % Sm.L) : D1 n (fun j => if j = i then z else u j) v % Sm.L = (D1 n u v + d * v i) % Sm.L := by
 unfold D1
 rw [← tot_one hi (d * v i)]
 refine tot_mod (fun j hj => ?_)
 by_cases e : j = i
 ·subst e
  simp only [if_pos]
  rw [Int.mul_emod, hz, ← Int.mul_emod, Int.add_mul]
 ·simp only [if_neg e, Int.add_zero]
theorem DD_set {cnt : Nat → Nat} {g : Nat → Nat → E4} {val : Nat → Nat → Int} {k i : Nat} {z : E4} {d : Int} (hk : k < 6) (hi : i < cnt k) (hz : z.n % Sm.L = ((g k i).n + d) % Sm.L) : DD cnt (upd2 g k i z) val % Sm.L = (DD cnt g val + d * val k i) % Sm.L := by
 unfold DD
 rw [← tot_one hk (d * val k i)]
 refine tot_mod (fun j hj => ?_)
 by_cases e : j = k
 ·subst e
  have e2 : upd2 g j i z j = fun d => if d = i then z else g j d := by funext d; unfold upd2; rw [if_pos rfl]
  rw [e2, D1_set hi hz]
  simp only [if_pos]
 ·have e2 : upd2 g k i z j = g j := by funext d; unfold upd2; rw [if_neg e]
  rw [e2]
  simp only [if_neg e, Int.add_zero]
end Ci
end Go.Proofs.YtimjfndaleccaaaDoor
namespace Go.Proofs.YtimjfndaleccaaaDoor
open Go.RowKit
set_option linter.unusedVariables false
set_option linter.unusedSimpArgs false
open Cm (Wr Tm co bf Ls lf ins Eqm)
namespace Ci
set_option maxRecDepth 100000
set_option maxHeartbeats 4000000
structure Kz (B : Nat → Nat) (w w' : World) : Prop where
 os : w'.os = w.os
 tape : w'.tape = w.tape
 output : w'.output = w.output
 size : w.heap.size ≤ w'.heap.size
 block : ∀ i, i < w.heap.size → (∀ k, k < 6 → i ≠ B k) → w'.heap[i]? = w.heap[i]?
section
variable {B : Nat → Nat} {w w' w2 : World}
theorem Kz.refl (B : Nat → Nat) (w : World) : Kz B w w := ⟨rfl, rfl, rfl, Nat.le_refl _, fun _ _ _ => rfl⟩
theorem Kz.trans (h : Kz B w w') (k : Kz B w' w2) : Kz B w w2 := ⟨k.os.trans h.os, k.tape.trans h.tape, k.output.trans h.output, Nat.le_trans h.size k.size, fun i hi hn => (k.block i (Nat.lt_of_lt_of_le hi h.size) hn).trans (h.block i hi hn)⟩
theorem Kz.of (h : Below w.heap.size w w') : Kz B w w' := ⟨h.os, h.tape, h.output, h.size, fun i hi _ => h.block i hi⟩
theorem Kz.gr (k : Nat) (hk : k < 6) (h : w.grownBy w' (some (B k))) : Kz B w w' := ⟨h.os, h.tape, h.output, h.size, fun i hi hn => h.block i hi (fun e => hn k hk (Option.some.inj e))⟩
theorem Kz.bel {base : Nat} (h : Kz B w w') (hb : base ≤ w.heap.size) (lo : ∀ k, k < 6 → base ≤ B k) : Below base w w' := ⟨h.os, h.tape, h.output, h.size, fun i hi => h.block i (by omega) (fun k hk e => by have := lo k hk; omega)⟩
theorem Kz.cell {a : Addr} {v : Value} (h : Kz B w w') (hc : w.cell? a = some v) (hn : ∀ k, k < 6 → a.block ≠ B k) : w'.cell? a = some v := by
 rw [World.cell?_of_block (h.block a.block (World.block_lt_of_cell? w a hc) hn)]; exact hc
theorem Kz.frz {a : Addr} (h : Kz B w w') (hl : a.block < w.heap.size) (hn : ∀ k, k < 6 → a.block ≠ B k) : w'.frozen? a = w.frozen? a := World.frozen?_of_block (h.block a.block hl hn)
theorem Kz.there {b o n : Nat} (h : Kz B w w') (hr : w.there b o n) (hn : ∀ k, k < 6 → b ≠ B k) : w'.there b o n := fun j hj => by
 obtain ⟨h1, h2⟩ := hr j hj
 obtain ⟨u, hu⟩ := Option.isSome_iff_exists.1 h1
 exact ⟨by rw [h.cell hu hn]; rfl, (h.frz (World.block_lt_of_cell? w _ hu) hn).trans h2⟩
theorem Kz.range {b o : Nat} {cs : List Value} (h : Kz B w w') (hr : w.rangeAt b o cs) (hn : ∀ k, k < 6 → b ≠ B k) : w'.rangeAt b o cs := fun j u hu => h.cell (hr j u hu) hn
end
theorem Rm.range4 {w : World} {b n j : Nat} {g : Nat → E4} (h : Rm w b n g) (hj : j < n) : w.rangeAt b (0 + j * 4) [.int .u64 (g j).x0, .int .u64 (g j).x1, .int .u64 (g j).x2, .int .u64 (g j).x3] := fun d u hu => by
 match d, hu with
 | 0, hu => obtain rfl := Option.some.inj hu; exact h.r.c0 j hj
 | 1, hu => obtain rfl := Option.some.inj hu; exact h.r.c1 j hj
 | 2, hu => obtain rfl := Option.some.inj hu; exact h.r.c2 j hj
 | 3, hu => obtain rfl := Option.some.inj hu; exact h.r.c3 j hj
theorem Rm.there4 {w : World} {b n j : Nat} {g : Nat → E4} (h : Rm w b n g) (hj : j < n) : w.there b (0 + j * 4) 4 := fun d hd => by
 have e : 0 + j * 4 + d = j * 4 + d := by omega
 refine ⟨?_, by rw [e]; exact h.fr _ (by omega)⟩
 match d, hd with
 | 0, _ => rw [Nat.add_zero, h.r.c0 j hj]; rfl
 | 1, _ => rw [h.r.c1 j hj]; rfl
 | 2, _ => rw [h.r.c2 j hj]; rfl
 | 3, _ => rw [h.r.c3 j hj]; rfl
structure Nz (cnt : Nat → Nat) (q : Wr) : Prop where
 k0 : 0 ≤ q.1
 k1 : q.1 < 6
 i0 : 0 ≤ q.2
 i1 : q.2 < ((cnt q.1.toNat) : Int)
def tq (f : Nat → Trm) (val : Nat → Nat → Int) (j : Nat) : Int := (f j).a.n * val (f j).q.1.toNat (f j).q.2.toNat
def Pq (cnt : Nat → Nat) (g g' : Nat → Nat → E4) (k : Int) (T : (Nat → Nat → Int) → Int) : Prop := ∀ val, DD cnt g' val % Sm.L = (DD cnt g val + k * T val) % Sm.L
def gp5o_0 : Oper := { dst := some 20, op := Op.move (Operand.tmp 8), type := 23, pos := "numbers.go:59", after := #[], guard := none }
def gp5o_1 : Oper := { dst := some 21, op := Op.fieldAddr 77 (Operand.tmp 7) 0, type := 0, pos := "numbers.go:59", after := #[], guard := none }
def gp5o_2 : Oper := { dst := some 22, op := Op.fieldAddr 56 (Operand.tmp 21) 1, type := 0, pos := "numbers.go:59", after := #[{ on := 1, ground := Ground.data }], guard := none }
def gp5o_3 : Oper := { dst := some 23, op := Op.load 3 (Operand.tmp 22), type := 3, pos := "numbers.go:59", after := #[{ on := 2, ground := Ground.data }], guard := none }
def gp5o_4 : Oper := { dst := some 24, op := Op.move (Operand.tmp 8), type := 23, pos := "numbers.go:59", after := #[], guard := none }
def gp5o_5 : Oper := { dst := some 25, op := Op.fieldAddr 77 (Operand.tmp 7) 0, type := 0, pos := "numbers.go:59", after := #[], guard := none }
def gp5o_6 : Oper := { dst := some 26, op := Op.fieldAddr 56 (Operand.tmp 25) 1, type := 0, pos := "numbers.go:59", after := #[{ on := 5, ground := Ground.data }], guard := none }
def gp5o_7 : Oper := { dst := some 27, op := Op.load 3 (Operand.tmp 26), type := 3, pos := "numbers.go:59", after := #[{ on := 6, ground := Ground.data }], guard := none }
def gp5o_8 : Oper := { dst := some 28, op := Op.indexAddr 23 (Operand.tmp 24) (Operand.tmp 27), type := 0, pos := "numbers.go:59", after := #[{ on := 4, ground := Ground.data }, { on := 7, ground := Ground.data }], guard := none }
def gp5o_9 : Oper := { dst := some 29, op := Op.load 26 (Operand.tmp 28), type := 26, pos := "numbers.go:59", after := #[{ on := 8, ground := Ground.data }], guard := none }
def gp5o_10 : Oper := { dst := some 30, op := Op.fieldAddr 77 (Operand.tmp 7) 1, type := 0, pos := "numbers.go:59", after := #[], guard := none }
def gp5o_11 : Oper := { dst := some 31, op := Op.load 26 (Operand.tmp 30), type := 26, pos := "numbers.go:59", after := #[{ on := 10, ground := Ground.data }], guard := none }
def gp5o_12 : Oper := { dst := some 32, op := Op.load 26 (Operand.tmp 5), type := 26, pos := "numbers.go:59", after := #[], guard := none }
def gp5o_13 : Oper := { dst := some 33, op := Op.call { callee := Callee.value (Operand.func 14), args := #[Operand.tmp 31, Operand.tmp 32], argTypes := #[26, 26] }, type := 26, pos := "numbers.go:59", after := #[{ on := 11, ground := Ground.data }, { on := 12, ground := Ground.data }], guard := none }
def gp5o_14 : Oper := { dst := some 34, op := Op.call { callee := Callee.value (Operand.func 15), args := #[Operand.tmp 29, Operand.tmp 33], argTypes := #[26, 26] }, type := 26, pos := "numbers.go:59", after := #[{ on := 9, ground := Ground.data }, { on := 13, ground := Ground.data }, { on := 13, ground := Ground.chain }], guard := none }
def gp5o_15 : Oper := { dst := some 35, op := Op.indexAddr 23 (Operand.tmp 20) (Operand.tmp 23), type := 0, pos := "numbers.go:59", after := #[{ on := 0, ground := Ground.data }, { on := 3, ground := Ground.data }, { on := 0, ground := Ground.phase }, { on := 1, ground := Ground.phase }, { on := 2, ground := Ground.phase }, { on := 3, ground := Ground.phase }, { on := 4, ground := Ground.phase }, { on := 5, ground := Ground.phase }, { on := 6, ground := Ground.phase }, { on := 7, ground := Ground.phase }, { on := 8, ground := Ground.phase }, { on := 9, ground := Ground.phase }, { on := 10, ground := Ground.phase }, { on := 11, ground := Ground.phase }, { on := 12, ground := Ground.phase }, { on := 13, ground := Ground.phase }, { on := 14, ground := Ground.phase }], guard := none }
def gp5o_16 : Oper := { dst := none, op := Op.store 26 (Operand.tmp 35) (Operand.tmp 34), type := 0, pos := "numbers.go:59", after := #[{ on := 15, ground := Ground.data }, { on := 14, ground := Ground.data }, { on := 14, ground := Ground.chain }, { on := 0, ground := Ground.phase }, { on := 1, ground := Ground.phase }, { on := 2, ground := Ground.phase }, { on := 3, ground := Ground.phase }, { on := 4, ground := Ground.phase }, { on := 5, ground := Ground.phase }, { on := 6, ground := Ground.phase }, { on := 7, ground := Ground.phase }, { on := 8, ground := Ground.phase }, { on := 9, ground := Ground.phase }, { on := 10, ground := Ground.phase }, { on := 11, ground := Ground.phase }, { on := 12, ground := Ground.phase }, { on := 13, ground := Ground.phase }, { on := 14, ground := Ground.phase }], guard := none }
def gp5o : Array Oper := #[gp5o_0, gp5o_1, gp5o_2, gp5o_3, gp5o_4, gp5o_5, gp5o_6, gp5o_7, gp5o_8, gp5o_9, gp5o_10, gp5o_11, gp5o_12, gp5o_13, gp5o_14, gp5o_15, gp5o_16]
set_option maxRecDepth 100000 in
set_option maxHeartbeats 16000000 in
theorem gp5 (Q : Exit → Act → World → Prop) (kb tb ii eb eo en ec : Nat) (e p k u r : E4) (u0 u1 u2 u3 u4 u6 u9 u10 u11 u12 u13 u14 u15 u16 u17 u18 u19 u20 u21 u22 u23 u24 u25 u26 u27 u28 u29 u30 u31 u32 u33 u34 u35 u36 : Value) (W : World)
  (j0 : (0 : Int) ≤ (ii : Int)) (j1 : (ii : Int) < (en : Int)) (ne1 : tb ≠ eb) (ne2 : kb ≠ eb) (rg : W.rangeAt eb (eo + ii * 4) [.int .u64 e.x0, .int .u64 e.x1, .int .u64 e.x2, .int .u64 e.x3]) (th : W.there eb (eo + ii * 4) 4)
  (t1 : W.cell? ⟨tb, 1, none⟩ = some (.int .i64 (ii : Int))) (t2 : W.cell? ⟨tb, 2, none⟩ = some (.int .u64 p.x0)) (t3 : W.cell? ⟨tb, 3, none⟩ = some (.int .u64 p.x1)) (t4 : W.cell? ⟨tb, 4, none⟩ = some (.int .u64 p.x2)) (t5 : W.cell? ⟨tb, 5, none⟩ = some (.int .u64 p.x3)) (k0 : W.cell? ⟨kb, 0, none⟩ = some (.int .u64 k.x0)) (k1 : W.cell? ⟨kb, 1, none⟩ = some (.int .u64 k.x1)) (k2 : W.cell? ⟨kb, 2, none⟩ = some (.int .u64 k.x2)) (k3 : W.cell? ⟨kb, 3, none⟩ = some (.int .u64 k.x3))
  (C9 : Hid (∀ y, Below W.heap.size W y → Calls Tryd.prog 14 #[.agg #[.int .u64 p.x0, .int .u64 p.x1, .int .u64 p.x2, .int .u64 p.x3], .agg #[.int .u64 k.x0, .int .u64 k.x1, .int .u64 k.x2, .int .u64 k.x3]] y fun e w' => e = .returned (.agg #[.int .u64 u.x0, .int .u64 u.x1, .int .u64 u.x2, .int .u64 u.x3]) ∧ Below y.heap.size y w'))
  (C10 : Hid (∀ y, Below W.heap.size W y → Calls Tryd.prog 15 #[.agg #[.int .u64 e.x0, .int .u64 e.x1, .int .u64 e.x2, .int .u64 e.x3], .agg #[.int .u64 u.x0, .int .u64 u.x1, .int .u64 u.x2, .int .u64 u.x3]] y fun e w' => e = .returned (.agg #[.int .u64 r.x0, .int .u64 r.x1, .int .u64 r.x2, .int .u64 r.x3]) ∧ Below y.heap.size y w'))
  (HQ : Hid (∀ (wz : World), (∃ wy, Below W.heap.size W wy ∧ wz = wy.setCells eb (eo + ii * 4) [.int .u64 r.x0, .int .u64 r.x1, .int .u64 r.x2, .int .u64 r.x3]) → Q .normal ⟨#[u0, u1, u2, u3, u4, .pointer (some ⟨kb, 0, none⟩), u6, .pointer (some ⟨tb, 0, none⟩), .slice (some ⟨eb, eo, none⟩) en ec, u9, u10, u11, u12, u13, u14, u15, u16, u17, u18, u19, .slice (some ⟨eb, eo, none⟩) en ec, .pointer (some ⟨tb, 0, none⟩), .pointer (some ⟨tb, 1, none⟩), .int .i64 (ii : Int), .slice (some ⟨eb, eo, none⟩) en ec, .pointer (some ⟨tb, 0, none⟩), .pointer (some ⟨tb, 1, none⟩), .int .i64 (ii : Int), .pointer (some ⟨eb, eo + ii * 4, none⟩), .agg #[.int .u64 e.x0, .int .u64 e.x1, .int .u64 e.x2, .int .u64 e.x3], .pointer (some ⟨tb, 2, none⟩), .agg #[.int .u64 p.x0, .int .u64 p.x1, .int .u64 p.x2, .int .u64 p.x3], .agg #[.int .u64 k.x0, .int .u64 k.x1, .int .u64 k.x2, .int .u64 k.x3], .agg #[.int .u64 u.x0, .int .u64 u.x1, .int .u64 u.x2, .int .u64 u.x3], .agg #[.int .u64 r.x0, .int .u64 r.x1, .int .u64 r.x2, .int .u64 r.x3], .pointer (some ⟨eb, eo + ii * 4, none⟩), u36], []⟩ wz)) : (Code.region 5 gp5o true).wp Tryd.prog Q ⟨#[u0, u1, u2, u3, u4, .pointer (some ⟨kb, 0, none⟩), u6, .pointer (some ⟨tb, 0, none⟩), .slice (some ⟨eb, eo, none⟩) en ec, u9, u10, u11, u12, u13, u14, u15, u16, u17, u18, u19, u20, u21, u22, u23, u24, u25, u26, u27, u28, u29, u30, u31, u32, u33, u34, u35, u36], []⟩ W := by
 have BB := hidden (bl_drew W)
 unfold gp5o
 refine wp_region_noPanic ?_
 refine wp_region_held_drew (S := fun x => W.grownBy x (some eb)) (by kernel_rfl) (gbI (bl_drew W) _) (fun hH0 => ?_)
 refine tk 0 gp5o_0 (.slice (some ⟨eb, eo, none⟩) en ec) rfl (by kernel_rfl) hH0 rfl (fun w0 hSw => ?_) ?_
 ·(unfold gp5o_0; clear hSw; go_simp)
 simp only [gp5o_0, Act.put, sA, sB, sC]
 refine tk 1 gp5o_1 (.pointer (some ⟨tb, 0, none⟩)) rfl (by kernel_rfl) hH0 rfl (fun w0 hSw => ?_) ?_
 ·(unfold gp5o_1; clear hSw; go_simp)
 simp only [gp5o_1, Act.put, sA, sB, sC]
 refine tk 4 gp5o_4 (.slice (some ⟨eb, eo, none⟩) en ec) rfl (by kernel_rfl) hH0 rfl (fun w0 hSw => ?_) ?_
 ·(unfold gp5o_4; clear hSw; go_simp)
 simp only [gp5o_4, Act.put, sA, sB, sC]
 refine tk 5 gp5o_5 (.pointer (some ⟨tb, 0, none⟩)) rfl (by kernel_rfl) hH0 rfl (fun w0 hSw => ?_) ?_
 ·(unfold gp5o_5; clear hSw; go_simp)
 simp only [gp5o_5, Act.put, sA, sB, sC]
 refine tk 10 gp5o_10 (.pointer (some ⟨tb, 2, none⟩)) rfl (by kernel_rfl) hH0 rfl (fun w0 hSw => ?_) ?_
 ·(unfold gp5o_10; clear hSw; go_simp)
 simp only [gp5o_10, Act.put, sA, sB, sC]
 refine tk 12 gp5o_12 (.agg #[.int .u64 k.x0, .int .u64 k.x1, .int .u64 k.x2, .int .u64 k.x3]) rfl (by kernel_rfl) hH0 rfl (fun w0 hSw => ?_) ?_
 ·(unfold gp5o_12; have hS : W.grownBy w0 (some eb) := hSw; have a0 := hS.cell k0 (fun e => ne2 (Option.some.inj e)); have a1 := hS.cell k1 (fun e => ne2 (Option.some.inj e)); have a2 := hS.cell k2 (fun e => ne2 (Option.some.inj e)); have a3 := hS.cell k3 (fun e => ne2 (Option.some.inj e)); clear hS hSw; go_simp)
 simp only [gp5o_12, Act.put, sA, sB, sC]
 refine tk 2 gp5o_2 (.pointer (some ⟨tb, 1, none⟩)) rfl (by kernel_rfl) hH0 rfl (fun w0 hSw => ?_) ?_
 ·(unfold gp5o_2; clear hSw; go_simp)
 simp only [gp5o_2, Act.put, sA, sB, sC]
 refine tk 6 gp5o_6 (.pointer (some ⟨tb, 1, none⟩)) rfl (by kernel_rfl) hH0 rfl (fun w0 hSw => ?_) ?_
 ·(unfold gp5o_6; clear hSw; go_simp)
 simp only [gp5o_6, Act.put, sA, sB, sC]
 refine tk 11 gp5o_11 (.agg #[.int .u64 p.x0, .int .u64 p.x1, .int .u64 p.x2, .int .u64 p.x3]) rfl (by kernel_rfl) hH0 rfl (fun w0 hSw => ?_) ?_
 ·(unfold gp5o_11; have hS : W.grownBy w0 (some eb) := hSw; have a0 := hS.cell t2 (fun e => ne1 (Option.some.inj e)); have a1 := hS.cell t3 (fun e => ne1 (Option.some.inj e)); have a2 := hS.cell t4 (fun e => ne1 (Option.some.inj e)); have a3 := hS.cell t5 (fun e => ne1 (Option.some.inj e)); clear hS hSw; go_simp)
 simp only [gp5o_11, Act.put, sA, sB, sC]
 refine tk 3 gp5o_3 (.int .i64 (ii : Int)) rfl (by kernel_rfl) hH0 rfl (fun w0 hSw => ?_) ?_
 ·(unfold gp5o_3; have hS : W.grownBy w0 (some eb) := hSw; have a0 := hS.cell t1 (fun e => ne1 (Option.some.inj e)); clear hS hSw; go_simp)
 simp only [gp5o_3, Act.put, sA, sB, sC]
 refine tk 7 gp5o_7 (.int .i64 (ii : Int)) rfl (by kernel_rfl) hH0 rfl (fun w0 hSw => ?_) ?_
 ·(unfold gp5o_7; have hS : W.grownBy w0 (some eb) := hSw; have a0 := hS.cell t1 (fun e => ne1 (Option.some.inj e)); clear hS hSw; go_simp)
 simp only [gp5o_7, Act.put, sA, sB, sC]
 refine tk 8 gp5o_8 (.pointer (some ⟨eb, eo + ii * 4, none⟩)) rfl (by kernel_rfl) hH0 rfl (fun w0 hSw => ?_) ?_
 ·(unfold gp5o_8; clear hSw; go_simp)
 simp only [gp5o_8, Act.put, sA, sB, sC]
 refine wpAnyH_ready (rs := [9, 13]) (by kernel_rfl) (by simp) ?_
 refine AllReadyH.cons (o := gp5o_9) rfl (fun K hK => ?_) (AllReadyH.cons (o := gp5o_13) rfl (fun K hK => ?_) AllReadyH.nil)
 ·unfold gp5o_9
  have HH := hidden hH0
  clear hH0
  refine wp_load_mid 26 _ rfl eb (eo + ii * 4) (by rfl) [.int .u64 e.x0, .int .u64 e.x1, .int .u64 e.x2, .int .u64 e.x3] _ (range_bl rg BB.out) Tryd.underlying26 rfl i4_s ?_
  simp only [Act.put, sA, sB, sC]
  have SN := HH
  clear HH
  refine hK.out _ _ SN.out (fun hH1 => ?_)
  clear hK K SN
  refine wpAnyH_ready (rs := [13]) (by kernel_rfl) (by simp) ?_
  refine AllReadyH.cons (o := gp5o_13) rfl (fun K hK => ?_) AllReadyH.nil
  unfold gp5o_13
  have HH := hidden hH1
  clear hH1
  go_simp
  refine (C9.out _ BB.out).mono ?_
  rintro e wn2 ⟨rfl, hb⟩
  replace BB := hidden (bl_trans BB.out hb)
  have SN := hidden (HH.out.trans (gbI hb _))
  clear HH C9 hb
  go_wp2_with fail
  refine hK.out _ _ SN.out (fun hH2 => ?_)
  clear hK K SN
  refine wpAnyH_ready (rs := [14]) (by kernel_rfl) (by simp) ?_
  refine AllReadyH.cons (o := gp5o_14) rfl (fun K hK => ?_) AllReadyH.nil
  unfold gp5o_14
  have HH := hidden hH2
  clear hH2
  go_simp
  refine (C10.out _ BB.out).mono ?_
  rintro e wn3 ⟨rfl, hb⟩
  replace BB := hidden (bl_trans BB.out hb)
  have SN := hidden (HH.out.trans (gbI hb _))
  clear HH C10 hb
  go_wp2_with fail
  refine hK.out _ _ SN.out (fun hH3 => ?_)
  clear hK K SN
  refine tk 15 gp5o_15 (.pointer (some ⟨eb, eo + ii * 4, none⟩)) rfl (by kernel_rfl) hH3 rfl (fun w0 hSw => ?_) ?_
  ·(unfold gp5o_15; clear hSw; go_simp)
  simp only [gp5o_15, Act.put, sA, sB, sC]
  refine wpAnyH_ready (rs := [16]) (by kernel_rfl) (by simp) ?_
  refine AllReadyH.cons (o := gp5o_16) rfl (fun K hK => ?_) AllReadyH.nil
  unfold gp5o_16
  have HH := hidden hH3
  clear hH3
  refine wp_storeE 26 _ _ rfl eb (eo + ii * 4) ([.int .u64 r.x0, .int .u64 r.x1, .int .u64 r.x2, .int .u64 r.x3]) (by rfl) (by rfl) (there_bl th BB.out) i4_s (one4 r) rfl (fun wn4 hw => ?_)
  have SN := hidden (HH.out.trans (gb_setCells eb [.int .u64 r.x0, .int .u64 r.x1, .int .u64 r.x2, .int .u64 r.x3] (eo + ii * 4) _))
  have FE := hidden ((⟨_, BB.out, hw⟩ : ∃ wy, Below W.heap.size W wy ∧ _ = wy.setCells eb (eo + ii * 4) [.int .u64 r.x0, .int .u64 r.x1, .int .u64 r.x2, .int .u64 r.x3]))
  rw [← hw] at SN
  clear HH hw
  refine hK.out _ _ SN.out (fun hH4 => ?_)
  clear hK K SN
  have HH := hidden hH4
  have FQ := hidden (HQ.out _ FE.out)
  refine wpAnyH_done (by kernel_rfl) ?_ _
  refine NoPanic.normal ?_
  exact FQ.out
 ·unfold gp5o_13
  have HH := hidden hH0
  clear hH0
  go_simp
  refine (C9.out _ BB.out).mono ?_
  rintro e wn1 ⟨rfl, hb⟩
  replace BB := hidden (bl_trans BB.out hb)
  have SN := hidden (HH.out.trans (gbI hb _))
  clear HH C9 hb
  go_wp2_with fail
  refine hK.out _ _ SN.out (fun hH1 => ?_)
  clear hK K SN
  refine wpAnyH_ready (rs := [9]) (by kernel_rfl) (by simp) ?_
  refine AllReadyH.cons (o := gp5o_9) rfl (fun K hK => ?_) AllReadyH.nil
  unfold gp5o_9
  have HH := hidden hH1
  clear hH1
  refine wp_load_mid 26 _ rfl eb (eo + ii * 4) (by rfl) [.int .u64 e.x0, .int .u64 e.x1, .int .u64 e.x2, .int .u64 e.x3] _ (range_bl rg BB.out) Tryd.underlying26 rfl i4_s ?_
  simp only [Act.put, sA, sB, sC]
  have SN := HH
  clear HH
  refine hK.out _ _ SN.out (fun hH2 => ?_)
  clear hK K SN
  refine wpAnyH_ready (rs := [14]) (by kernel_rfl) (by simp) ?_
  refine AllReadyH.cons (o := gp5o_14) rfl (fun K hK => ?_) AllReadyH.nil
  unfold gp5o_14
  have HH := hidden hH2
  clear hH2
  go_simp
  refine (C10.out _ BB.out).mono ?_
  rintro e wn3 ⟨rfl, hb⟩
  replace BB := hidden (bl_trans BB.out hb)
  have SN := hidden (HH.out.trans (gbI hb _))
  clear HH C10 hb
  go_wp2_with fail
  refine hK.out _ _ SN.out (fun hH3 => ?_)
  clear hK K SN
  refine tk 15 gp5o_15 (.pointer (some ⟨eb, eo + ii * 4, none⟩)) rfl (by kernel_rfl) hH3 rfl (fun w0 hSw => ?_) ?_
  ·(unfold gp5o_15; clear hSw; go_simp)
  simp only [gp5o_15, Act.put, sA, sB, sC]
  refine wpAnyH_ready (rs := [16]) (by kernel_rfl) (by simp) ?_
  refine AllReadyH.cons (o := gp5o_16) rfl (fun K hK => ?_) AllReadyH.nil
  unfold gp5o_16
  have HH := hidden hH3
  clear hH3
  refine wp_storeE 26 _ _ rfl eb (eo + ii * 4) ([.int .u64 r.x0, .int .u64 r.x1, .int .u64 r.x2, .int .u64 r.x3]) (by rfl) (by rfl) (there_bl th BB.out) i4_s (one4 r) rfl (fun wn4 hw => ?_)
  have SN := hidden (HH.out.trans (gb_setCells eb [.int .u64 r.x0, .int .u64 r.x1, .int .u64 r.x2, .int .u64 r.x3] (eo + ii * 4) _))
  have FE := hidden ((⟨_, BB.out, hw⟩ : ∃ wy, Below W.heap.size W wy ∧ _ = wy.setCells eb (eo + ii * 4) [.int .u64 r.x0, .int .u64 r.x1, .int .u64 r.x2, .int .u64 r.x3]))
  rw [← hw] at SN
  clear HH hw
  refine hK.out _ _ SN.out (fun hH4 => ?_)
  clear hK K SN
  have HH := hidden hH4
  have FQ := hidden (HQ.out _ FE.out)
  refine wpAnyH_done (by kernel_rfl) ?_ _
  refine NoPanic.normal ?_
  exact FQ.out
set_option maxHeartbeats 16000000 in
theorem put_any {w0 w : World} {cnt B : Nat → Nat} {g : Nat → Nat → E4} (hT : Tb w0) (hB : Below w0.heap.size w0 w) (hZ : Zn w0.heap.size cnt B g w) (k : E4) (hk : k.ok) (P : Option Addr) (m c : Nat) (f : Nat → Trm) (hm : m ≤ 2932031007402) (hf : ∀ j, j < m → (f j).a.ok) (hq : ∀ j, j < m → Nz cnt (f j).q) (hL : Lt w0 P m f) :
  Calls Tryd.prog 34 #[.agg #[.slice (some ⟨B 0, 0, none⟩) (cnt 0) (cnt 0), .slice (some ⟨B 1, 0, none⟩) (cnt 1) (cnt 1), .slice (some ⟨B 2, 0, none⟩) (cnt 2) (cnt 2), .slice (some ⟨B 3, 0, none⟩) (cnt 3) (cnt 3), .slice (some ⟨B 4, 0, none⟩) (cnt 4) (cnt 4), .slice (some ⟨B 5, 0, none⟩) (cnt 5) (cnt 5)], .slice P m c, .agg #[.int .u64 k.x0, .int .u64 k.x1, .int .u64 k.x2, .int .u64 k.x3]] w fun e w' => e = .returned (.tuple #[]) ∧ ∃ g', Zn w0.heap.size cnt B g' w' ∧ Kz B w w' ∧ Pq cnt g g' k.n (fun val => tot (tq f val) m) := by
 have sB : Hid (∀ j, j < 6 → B j < w.heap.size) := hidden (fun j hj => (hZ.rm j hj).lt)
 have sW : Hid (w0.heap.size ≤ w.heap.size) := hidden hB.size
 have lo := hidden hZ.lo
 have b2 : Below w.heap.size w ((w.alloc (.cells #[.slice (some ⟨B 0, 0, none⟩) (cnt 0) (cnt 0), .slice (some ⟨B 1, 0, none⟩) (cnt 1) (cnt 1), .slice (some ⟨B 2, 0, none⟩) (cnt 2) (cnt 2), .slice (some ⟨B 3, 0, none⟩) (cnt 3) (cnt 3), .slice (some ⟨B 4, 0, none⟩) (cnt 4) (cnt 4), .slice (some ⟨B 5, 0, none⟩) (cnt 5) (cnt 5)] 69)).alloc (.cells #[.int .u64 k.x0, .int .u64 k.x1, .int .u64 k.x2, .int .u64 k.x3] 26)) := bl_alloc2 w (.cells #[.slice (some ⟨B 0, 0, none⟩) (cnt 0) (cnt 0), .slice (some ⟨B 1, 0, none⟩) (cnt 1) (cnt 1), .slice (some ⟨B 2, 0, none⟩) (cnt 2) (cnt 2), .slice (some ⟨B 3, 0, none⟩) (cnt 3) (cnt 3), .slice (some ⟨B 4, 0, none⟩) (cnt 4) (cnt 4), .slice (some ⟨B 5, 0, none⟩) (cnt 5) (cnt 5)] 69) (.cells #[.int .u64 k.x0, .int .u64 k.x1, .int .u64 k.x2, .int .u64 k.x3] 26)
 have Z2 := hidden (hZ.keep b2)
 have K2 := hidden (Kz.of (B := B) b2)
 have NC : Hid (∀ q, q < 6 → ((w.alloc (.cells #[.slice (some ⟨B 0, 0, none⟩) (cnt 0) (cnt 0), .slice (some ⟨B 1, 0, none⟩) (cnt 1) (cnt 1), .slice (some ⟨B 2, 0, none⟩) (cnt 2) (cnt 2), .slice (some ⟨B 3, 0, none⟩) (cnt 3) (cnt 3), .slice (some ⟨B 4, 0, none⟩) (cnt 4) (cnt 4), .slice (some ⟨B 5, 0, none⟩) (cnt 5) (cnt 5)] 69)).alloc (.cells #[.int .u64 k.x0, .int .u64 k.x1, .int .u64 k.x2, .int .u64 k.x3] 26)).cell? ⟨w.heap.size, q, none⟩ = some (.slice (some ⟨B q, 0, none⟩) (cnt q) (cnt q))) := hidden (fun q hq => by
  match q, hq with
  | 0, _ => go_simp
  | 1, _ => go_simp
  | 2, _ => go_simp
  | 3, _ => go_simp
  | 4, _ => go_simp
  | 5, _ => go_simp)
 have q0 : ((w.alloc (.cells #[.slice (some ⟨B 0, 0, none⟩) (cnt 0) (cnt 0), .slice (some ⟨B 1, 0, none⟩) (cnt 1) (cnt 1), .slice (some ⟨B 2, 0, none⟩) (cnt 2) (cnt 2), .slice (some ⟨B 3, 0, none⟩) (cnt 3) (cnt 3), .slice (some ⟨B 4, 0, none⟩) (cnt 4) (cnt 4), .slice (some ⟨B 5, 0, none⟩) (cnt 5) (cnt 5)] 69)).alloc (.cells #[.int .u64 k.x0, .int .u64 k.x1, .int .u64 k.x2, .int .u64 k.x3] 26)).cell? ⟨w.heap.size + 1, 0, none⟩ = some (.int .u64 k.x0) := by go_simp
 have q1 : ((w.alloc (.cells #[.slice (some ⟨B 0, 0, none⟩) (cnt 0) (cnt 0), .slice (some ⟨B 1, 0, none⟩) (cnt 1) (cnt 1), .slice (some ⟨B 2, 0, none⟩) (cnt 2) (cnt 2), .slice (some ⟨B 3, 0, none⟩) (cnt 3) (cnt 3), .slice (some ⟨B 4, 0, none⟩) (cnt 4) (cnt 4), .slice (some ⟨B 5, 0, none⟩) (cnt 5) (cnt 5)] 69)).alloc (.cells #[.int .u64 k.x0, .int .u64 k.x1, .int .u64 k.x2, .int .u64 k.x3] 26)).cell? ⟨w.heap.size + 1, 1, none⟩ = some (.int .u64 k.x1) := by go_simp
 have q2 : ((w.alloc (.cells #[.slice (some ⟨B 0, 0, none⟩) (cnt 0) (cnt 0), .slice (some ⟨B 1, 0, none⟩) (cnt 1) (cnt 1), .slice (some ⟨B 2, 0, none⟩) (cnt 2) (cnt 2), .slice (some ⟨B 3, 0, none⟩) (cnt 3) (cnt 3), .slice (some ⟨B 4, 0, none⟩) (cnt 4) (cnt 4), .slice (some ⟨B 5, 0, none⟩) (cnt 5) (cnt 5)] 69)).alloc (.cells #[.int .u64 k.x0, .int .u64 k.x1, .int .u64 k.x2, .int .u64 k.x3] 26)).cell? ⟨w.heap.size + 1, 2, none⟩ = some (.int .u64 k.x2) := by go_simp
 have q3 : ((w.alloc (.cells #[.slice (some ⟨B 0, 0, none⟩) (cnt 0) (cnt 0), .slice (some ⟨B 1, 0, none⟩) (cnt 1) (cnt 1), .slice (some ⟨B 2, 0, none⟩) (cnt 2) (cnt 2), .slice (some ⟨B 3, 0, none⟩) (cnt 3) (cnt 3), .slice (some ⟨B 4, 0, none⟩) (cnt 4) (cnt 4), .slice (some ⟨B 5, 0, none⟩) (cnt 5) (cnt 5)] 69)).alloc (.cells #[.int .u64 k.x0, .int .u64 k.x1, .int .u64 k.x2, .int .u64 k.x3] 26)).cell? ⟨w.heap.size + 1, 3, none⟩ = some (.int .u64 k.x3) := by go_simp
 have KC := hidden (And.intro q0 (And.intro q1 (And.intro q2 q3)))
 have HB := hidden hB
 have HT := hidden hT
 have HK := hidden hk
 have HM := hidden hm
 have HF := hidden hf
 have HQ := hidden hq
 have HL := hidden hL
 have SZ : Hid (((w.alloc (.cells #[.slice (some ⟨B 0, 0, none⟩) (cnt 0) (cnt 0), .slice (some ⟨B 1, 0, none⟩) (cnt 1) (cnt 1), .slice (some ⟨B 2, 0, none⟩) (cnt 2) (cnt 2), .slice (some ⟨B 3, 0, none⟩) (cnt 3) (cnt 3), .slice (some ⟨B 4, 0, none⟩) (cnt 4) (cnt 4), .slice (some ⟨B 5, 0, none⟩) (cnt 5) (cnt 5)] 69)).alloc (.cells #[.int .u64 k.x0, .int .u64 k.x1, .int .u64 k.x2, .int .u64 k.x3] 26)).heap.size = w.heap.size + 1 + 1) := hidden (by simp only [World.size_alloc])
 clear q0 q1 q2 q3 b2 hB hZ hT hk hm hf hq hL
 go_enter Tryd.func34, Tryd.ntmps34
 go_upto_region 1 with fail
 generalize ((w.alloc (.cells #[.slice (some ⟨B 0, 0, none⟩) (cnt 0) (cnt 0), .slice (some ⟨B 1, 0, none⟩) (cnt 1) (cnt 1), .slice (some ⟨B 2, 0, none⟩) (cnt 2) (cnt 2), .slice (some ⟨B 3, 0, none⟩) (cnt 3) (cnt 3), .slice (some ⟨B 4, 0, none⟩) (cnt 4) (cnt 4), .slice (some ⟨B 5, 0, none⟩) (cnt 5) (cnt 5)] 69)).alloc (.cells #[.int .u64 k.x0, .int .u64 k.x1, .int .u64 k.x2, .int .u64 k.x3] 26)) = w2 at *
 go_upto_region 2 with fail
 go_loopw [11] (fun iv x => ∃ (i : Nat) (g' : Nat → Nat → E4), i ≤ m ∧ iv = .int .i64 (i : Int) ∧ Hid (Zn w0.heap.size cnt B g' x ∧ Kz B w2 x ∧ Pq cnt g g' k.n (fun val => tot (tq f val) i))) (fun i _ => m - (intOf i).toNat)
 case atStart => exact ⟨0, g, by omega, rfl, hidden ⟨Z2.out, Kz.refl _ _, fun val => by show _ = (_ + k.n * 0) % _; rw [Int.mul_zero, Int.add_zero]⟩⟩
 case round =>
  clear Z2
  obtain ⟨i, g', hi, rfl, hS⟩ := hrel
  by_cases hin : i < m
  ·have i0' : (0 : Int) ≤ (i : Int) := by omega
   have i1' : (i : Int) < (m : Int) := by omega
   have w9 : IntKind.i64.wrap ((i : Int) + 1) = (i : Int) + 1 := IntWalk.i64_in _ (by have := HM.out; omega)
   have sz := SZ.out
   have sr := hS.out.2.1.size
   have sw := sW.out
   have KW : Hid (Kz B w wr) := hidden (K2.out.trans hS.out.2.1)
   have BW : Below w0.heap.size w0 wr := below_tr HB.out (KW.out.bel sw lo.out)
   obtain ⟨xb, xo, hPs, hRt⟩ := HL.out
   obtain rfl := hPs (by omega)
   have rt := (hRt (by omega)).keep BW
   have a0 := rt.c0 i hin
   have a1 := rt.c1 i hin
   have a2 := rt.c2 i hin
   have a3 := rt.c3 i hin
   have a4 := rt.c4 i hin
   have a5 := rt.c5 i hin
   have hq := HQ.out i hin
   have oa := HF.out i hin
   obtain ⟨kk, hkk⟩ : ∃ kk : Nat, (f i).q.1 = (kk : Int) := ⟨(f i).q.1.toNat, by have := hq.k0; omega⟩
   obtain ⟨ii, hii⟩ : ∃ ii : Nat, (f i).q.2 = (ii : Int) := ⟨(f i).q.2.toNat, by have := hq.i0; omega⟩
   have k6 : kk < 6 := by have := hq.k1; omega
   have iin : ii < cnt kk := by have := hq.i1; rw [hkk, hii] at this; simp at this; omega
   have en : ∀ val, tq f val i = (f i).a.n * val kk ii := fun val => by unfold tq; rw [hkk, hii]; rfl
   have EN := hidden en
   have oe := hS.out.1.ok kk ii k6 iin
   have nb : ∀ b, w.heap.size ≤ b → ∀ q, q < 6 → b ≠ B q := fun b hb q hq e => by have := sB.out q hq; omega
   have nc := hS.out.2.1.cell (NC.out kk k6) (nb _ (by show w.heap.size ≤ w.heap.size; omega))
   have y0 := hS.out.2.1.cell (KC.out.1) (nb _ (by show w.heap.size ≤ w.heap.size + 1; omega))
   have y1 := hS.out.2.1.cell (KC.out.2.1) (nb _ (by show w.heap.size ≤ w.heap.size + 1; omega))
   have y2 := hS.out.2.1.cell (KC.out.2.2.1) (nb _ (by show w.heap.size ≤ w.heap.size + 1; omega))
   have y3 := hS.out.2.1.cell (KC.out.2.2.2) (nb _ (by show w.heap.size ≤ w.heap.size + 1; omega))
   rw [hkk] at a0
   rw [hii] at a1
   have k0' : (0 : Int) ≤ (kk : Int) := by omega
   have k1' : (kk : Int) < 6 := by omega
   have RR := hidden (hS.out.1.rm kk k6)
   have bb := sB.out kk k6
   have NB := hidden nb
   clear hq rt hRt hPs hkk hii en nb
   generalize (f i).a = p at *
   generalize hev : g' kk ii = ev at *
   have HE := hidden hev
   clear hev
   go_upto_region 4 with fail
   have BA := bl_alloc wr (.cells #[.int .i64 (kk : Int), .int .i64 (ii : Int), .int .u64 p.x0, .int .u64 p.x1, .int .u64 p.x2, .int .u64 p.x3] 77)
   have t0 : (wr.alloc (.cells #[.int .i64 (kk : Int), .int .i64 (ii : Int), .int .u64 p.x0, .int .u64 p.x1, .int .u64 p.x2, .int .u64 p.x3] 77)).cell? ⟨wr.heap.size, 0, none⟩ = some (.int .i64 (kk : Int)) := by go_simp
   have t1 : (wr.alloc (.cells #[.int .i64 (kk : Int), .int .i64 (ii : Int), .int .u64 p.x0, .int .u64 p.x1, .int .u64 p.x2, .int .u64 p.x3] 77)).cell? ⟨wr.heap.size, 1, none⟩ = some (.int .i64 (ii : Int)) := by go_simp
   have t2 : (wr.alloc (.cells #[.int .i64 (kk : Int), .int .i64 (ii : Int), .int .u64 p.x0, .int .u64 p.x1, .int .u64 p.x2, .int .u64 p.x3] 77)).cell? ⟨wr.heap.size, 2, none⟩ = some (.int .u64 p.x0) := by go_simp
   have t3 : (wr.alloc (.cells #[.int .i64 (kk : Int), .int .i64 (ii : Int), .int .u64 p.x0, .int .u64 p.x1, .int .u64 p.x2, .int .u64 p.x3] 77)).cell? ⟨wr.heap.size, 3, none⟩ = some (.int .u64 p.x1) := by go_simp
   have t4 : (wr.alloc (.cells #[.int .i64 (kk : Int), .int .i64 (ii : Int), .int .u64 p.x0, .int .u64 p.x1, .int .u64 p.x2, .int .u64 p.x3] 77)).cell? ⟨wr.heap.size, 4, none⟩ = some (.int .u64 p.x2) := by go_simp
   have t5 : (wr.alloc (.cells #[.int .i64 (kk : Int), .int .i64 (ii : Int), .int .u64 p.x0, .int .u64 p.x1, .int .u64 p.x2, .int .u64 p.x3] 77)).cell? ⟨wr.heap.size, 5, none⟩ = some (.int .u64 p.x3) := by go_simp
   have z0 := cell_keep y0 BA
   have z1 := cell_keep y1 BA
   have z2 := cell_keep y2 BA
   have z3 := cell_keep y3 BA
   have nc2 := cell_keep nc BA
   have R5 := hidden (RR.out.keep BA)
   have Z5 := hidden (hS.out.1.keep BA)
   have K5 := hidden (hS.out.2.1.trans (Kz.of BA))
   have Q5 := hidden hS.out.2.2
   have B5 := hidden (bl_trans BW BA)
   have tbn : wr.heap.size ≠ B kk := by omega
   have kbn : w.heap.size + 1 ≠ B kk := by omega
   clear y0 y1 y2 y3 BW BA a0 a1 a2 a3 a4 a5 hS RR nc sr
   generalize (wr.alloc (.cells #[.int .i64 (kk : Int), .int .i64 (ii : Int), .int .u64 p.x0, .int .u64 p.x1, .int .u64 p.x2, .int .u64 p.x3] 77)) = w5 at *
   generalize wr.heap.size = tb at *
   go_upto_region 5 with fail
   clear nc2 t0
   have C9 : Hid (∀ y, Below w5.heap.size w5 y → _) := hidden (fun y hb => fix (R := lst (p.n * k.n)) (Mul_any p k y (HT.out.keep (bl_trans B5.out hb)) oa HK.out) rfl)
   have C10 : Hid (∀ y, Below w5.heap.size w5 y → _) := hidden (fun y hb => fix (R := lst (ev.n + (lst (p.n * k.n)).n)) (Add_any ev (lst (p.n * k.n)) y (HT.out.keep (bl_trans B5.out hb)) oe (lst_ok _)) rfl)
   simp only [E4.v] at C9 C10
   have rg : w5.rangeAt (B kk) (0 + ii * 4) [.int .u64 ev.x0, .int .u64 ev.x1, .int .u64 ev.x2, .int .u64 ev.x3] := HE.out ▸ R5.out.range4 iin
   have th := R5.out.there4 iin
   refine gp5 _ (w.heap.size + 1) tb ii (B kk) 0 (cnt kk) (cnt kk) ev p k (lst (p.n * k.n)) (lst (ev.n + (lst (p.n * k.n)).n)) _ _ _ _ _ _ _ _ _ _ _ _ _ _ _ _ _ _ _ _ _ _ _ _ _ _ _ _ _ _ _ _ _ _ w5 (by omega) (by omega) tbn kbn rg th t1 t2 t3 t4 t5 z0 z1 z2 z3 C9 C10 (hidden ?_)
   intro wz hz
   have NS : Hid (Zn w0.heap.size cnt B (upd2 g' kk ii (lst (ev.n + (lst (p.n * k.n)).n))) wz ∧ Kz B w2 wz ∧ Pq cnt g (upd2 g' kk ii (lst (ev.n + (lst (p.n * k.n)).n))) k.n (fun val => tot (tq f val) (i + 1))) := hidden (by
    obtain ⟨wy, hy, rfl⟩ := hz
    rw [setCells_S, Nat.zero_add]
    refine ⟨(Z5.out.keep hy).set kk ii k6 iin _ (lst_ok _), K5.out.trans ((Kz.of hy).trans (Kz.gr kk k6 (setS_gb _ _ _ _))), fun val => ?_⟩
    have h1 := DD_set (cnt := cnt) (g := g') (val := val) (k := kk) (i := ii) (z := lst (ev.n + (lst (p.n * k.n)).n)) (d := p.n * k.n) k6 iin (by rw [HE.out, lst_n, emod_emod_L, Int.add_emod, lst_n, emod_emod_L, ← Int.add_emod])
    rw [h1, Int.add_emod, Q5.out val, ← Int.add_emod]
    congr 1
    show _ = _ + k.n * (tot (tq f val) i + tq f val i)
    rw [EN.out val, Int.mul_add, Int.mul_comm p.n k.n, Int.mul_assoc, Int.add_assoc])
   clear hz C9 C10 rg th t1 t2 t3 t4 t5 z0 z1 z2 z3 Z5 K5 Q5 B5 R5 KW
   go_wp2_with fail
   go_roundw
   case rel => exact ⟨i + 1, _, by omega, by go_num, NS⟩
   case measure => simp [intOf]; omega
  ·obtain rfl : i = m := by omega
   have lq : ¬ (i : Int) < (i : Int) := by omega
   have FN : Hid (∃ g', Zn w0.heap.size cnt B g' wr ∧ Kz B w wr ∧ Pq cnt g g' k.n (fun val => tot (tq f val) i)) := hidden ⟨g', hS.out.1, K2.out.trans hS.out.2.1, hS.out.2.2⟩
   clear hS
   go_wp2_with fail
   exact bodyPost_end (v := .tuple #[]) (by simp [results, Tryd.results34, go_sem]) rfl ⟨rfl, FN.out⟩
end Ci
end Go.Proofs.YtimjfndaleccaaaDoor
namespace Go.Proofs.YtimjfndaleccaaaDoor
open Go.RowKit
set_option linter.unusedVariables false
set_option linter.unusedSimpArgs false
open Cm (Wr Tm co bf Ls lf ins Eqm)
namespace Ci
set_option maxRecDepth 100000
set_option maxHeartbeats 4000000
def gtn4o_0 : Oper := { dst := some 15, op := Op.move (Operand.tmp 1), type := 3, pos := "numbers.go:66", after := #[], guard := none }
def gtn4o_1 : Oper := { dst := some 16, op := Op.indexAddr 69 (Operand.tmp 2) (Operand.tmp 15), type := 0, pos := "numbers.go:66", after := #[{ on := 0, ground := Ground.data }], guard := none }
def gtn4o_2 : Oper := { dst := some 17, op := Op.load 23 (Operand.tmp 16), type := 23, pos := "numbers.go:66", after := #[{ on := 1, ground := Ground.data }], guard := none }
def gtn4o_3 : Oper := { dst := some 18, op := Op.move (Operand.tmp 4), type := 3, pos := "numbers.go:66", after := #[], guard := none }
def gtn4o_4 : Oper := { dst := some 19, op := Op.load 26 (Operand.tmp 5), type := 26, pos := "numbers.go:66", after := #[], guard := none }
def gtn4o_5 : Oper := { dst := some 20, op := Op.call { callee := Callee.value (Operand.func 58), args := #[Operand.tmp 19], argTypes := #[26] }, type := 26, pos := "numbers.go:66", after := #[{ on := 4, ground := Ground.data }], guard := none }
def gtn4o_6 : Oper := { dst := some 21, op := Op.indexAddr 23 (Operand.tmp 17) (Operand.tmp 18), type := 0, pos := "numbers.go:66", after := #[{ on := 2, ground := Ground.data }, { on := 3, ground := Ground.data }, { on := 0, ground := Ground.phase }, { on := 1, ground := Ground.phase }, { on := 2, ground := Ground.phase }, { on := 3, ground := Ground.phase }, { on := 4, ground := Ground.phase }, { on := 5, ground := Ground.phase }], guard := none }
def gtn4o_7 : Oper := { dst := none, op := Op.store 26 (Operand.tmp 21) (Operand.tmp 20), type := 0, pos := "numbers.go:66", after := #[{ on := 6, ground := Ground.data }, { on := 5, ground := Ground.data }, { on := 5, ground := Ground.chain }, { on := 0, ground := Ground.phase }, { on := 1, ground := Ground.phase }, { on := 2, ground := Ground.phase }, { on := 3, ground := Ground.phase }, { on := 4, ground := Ground.phase }, { on := 5, ground := Ground.phase }], guard := none }
def gtn4o : Array Oper := #[gtn4o_0, gtn4o_1, gtn4o_2, gtn4o_3, gtn4o_4, gtn4o_5, gtn4o_6, gtn4o_7]
set_option maxRecDepth 100000 in
set_option maxHeartbeats 16000000 in
theorem gtn4 (Q : Exit → Act → World → Prop) (nb tb kk ii eb eo en ec : Nat) (e r : E4) (u0 u3 u6 u7 u8 u9 u10 u11 u12 u13 u14 u15 u16 u17 u18 u19 u20 u21 u22 : Value) (W : World)
  (i0 : (0 : Int) ≤ (kk : Int)) (i1 : (kk : Int) < 6) (j0 : (0 : Int) ≤ (ii : Int)) (j1 : (ii : Int) < (en : Int)) (ne1 : tb ≠ eb) (ne2 : nb ≠ eb) (th : W.there eb (eo + ii * 4) 4)
  (n0 : W.cell? ⟨nb, kk, none⟩ = some (.slice (some ⟨eb, eo, none⟩) en ec)) (t0 : W.cell? ⟨tb, 0, none⟩ = some (.int .u64 e.x0)) (t1 : W.cell? ⟨tb, 1, none⟩ = some (.int .u64 e.x1)) (t2 : W.cell? ⟨tb, 2, none⟩ = some (.int .u64 e.x2)) (t3 : W.cell? ⟨tb, 3, none⟩ = some (.int .u64 e.x3))
  (C5 : Hid (∀ y, Below W.heap.size W y → Calls Tryd.prog 58 #[.agg #[.int .u64 e.x0, .int .u64 e.x1, .int .u64 e.x2, .int .u64 e.x3]] y fun e w' => e = .returned (.agg #[.int .u64 r.x0, .int .u64 r.x1, .int .u64 r.x2, .int .u64 r.x3]) ∧ Below y.heap.size y w'))
  (HQ : Hid (∀ (wz : World), (∃ wy, Below W.heap.size W wy ∧ wz = wy.setCells eb (eo + ii * 4) [.int .u64 r.x0, .int .u64 r.x1, .int .u64 r.x2, .int .u64 r.x3]) → Q .normal ⟨#[u0, .int .i64 (kk : Int), .pointer (some ⟨nb, 0, none⟩), u3, .int .i64 (ii : Int), .pointer (some ⟨tb, 0, none⟩), u6, u7, u8, u9, u10, u11, u12, u13, u14, .int .i64 (kk : Int), .pointer (some ⟨nb, kk, none⟩), .slice (some ⟨eb, eo, none⟩) en ec, .int .i64 (ii : Int), .agg #[.int .u64 e.x0, .int .u64 e.x1, .int .u64 e.x2, .int .u64 e.x3], .agg #[.int .u64 r.x0, .int .u64 r.x1, .int .u64 r.x2, .int .u64 r.x3], .pointer (some ⟨eb, eo + ii * 4, none⟩), u22], []⟩ wz)) : (Code.region 4 gtn4o true).wp Tryd.prog Q ⟨#[u0, .int .i64 (kk : Int), .pointer (some ⟨nb, 0, none⟩), u3, .int .i64 (ii : Int), .pointer (some ⟨tb, 0, none⟩), u6, u7, u8, u9, u10, u11, u12, u13, u14, u15, u16, u17, u18, u19, u20, u21, u22], []⟩ W := by
 have BB := hidden (bl_drew W)
 unfold gtn4o
 refine wp_region_noPanic ?_
 refine wp_region_held_drew (S := fun x => W.grownBy x (some eb)) (by kernel_rfl) (gbI (bl_drew W) _) (fun hH0 => ?_)
 refine tk 0 gtn4o_0 (.int .i64 (kk : Int)) rfl (by kernel_rfl) hH0 rfl (fun w0 hSw => ?_) ?_
 ·(unfold gtn4o_0; clear hSw; go_simp)
 simp only [gtn4o_0, Act.put, sA, sB, sC]
 refine tk 3 gtn4o_3 (.int .i64 (ii : Int)) rfl (by kernel_rfl) hH0 rfl (fun w0 hSw => ?_) ?_
 ·(unfold gtn4o_3; clear hSw; go_simp)
 simp only [gtn4o_3, Act.put, sA, sB, sC]
 refine tk 4 gtn4o_4 (.agg #[.int .u64 e.x0, .int .u64 e.x1, .int .u64 e.x2, .int .u64 e.x3]) rfl (by kernel_rfl) hH0 rfl (fun w0 hSw => ?_) ?_
 ·(unfold gtn4o_4; have hS : W.grownBy w0 (some eb) := hSw; have a0 := hS.cell t0 (fun e => ne1 (Option.some.inj e)); have a1 := hS.cell t1 (fun e => ne1 (Option.some.inj e)); have a2 := hS.cell t2 (fun e => ne1 (Option.some.inj e)); have a3 := hS.cell t3 (fun e => ne1 (Option.some.inj e)); clear hS hSw; go_simp)
 simp only [gtn4o_4, Act.put, sA, sB, sC]
 refine tk 1 gtn4o_1 (.pointer (some ⟨nb, kk, none⟩)) rfl (by kernel_rfl) hH0 rfl (fun w0 hSw => ?_) ?_
 ·(unfold gtn4o_1; clear hSw; go_simp)
 simp only [gtn4o_1, Act.put, sA, sB, sC]
 refine tk 2 gtn4o_2 (.slice (some ⟨eb, eo, none⟩) en ec) rfl (by kernel_rfl) hH0 rfl (fun w0 hSw => ?_) ?_
 ·(unfold gtn4o_2; have hS : W.grownBy w0 (some eb) := hSw; have a0 := hS.cell n0 (fun e => ne2 (Option.some.inj e)); clear hS hSw; go_simp)
 simp only [gtn4o_2, Act.put, sA, sB, sC]
 refine wpAnyH_ready (rs := [5]) (by kernel_rfl) (by simp) ?_
 refine AllReadyH.cons (o := gtn4o_5) rfl (fun K hK => ?_) AllReadyH.nil
 unfold gtn4o_5
 have HH := hidden hH0
 clear hH0
 go_simp
 refine (C5.out _ BB.out).mono ?_
 rintro e wn1 ⟨rfl, hb⟩
 replace BB := hidden (bl_trans BB.out hb)
 have SN := hidden (HH.out.trans (gbI hb _))
 clear HH C5 hb
 go_wp2_with fail
 refine hK.out _ _ SN.out (fun hH1 => ?_)
 clear hK K SN
 refine tk 6 gtn4o_6 (.pointer (some ⟨eb, eo + ii * 4, none⟩)) rfl (by kernel_rfl) hH1 rfl (fun w0 hSw => ?_) ?_
 ·(unfold gtn4o_6; clear hSw; go_simp)
 simp only [gtn4o_6, Act.put, sA, sB, sC]
 refine wpAnyH_ready (rs := [7]) (by kernel_rfl) (by simp) ?_
 refine AllReadyH.cons (o := gtn4o_7) rfl (fun K hK => ?_) AllReadyH.nil
 unfold gtn4o_7
 have HH := hidden hH1
 clear hH1
 refine wp_storeE 26 _ _ rfl eb (eo + ii * 4) ([.int .u64 r.x0, .int .u64 r.x1, .int .u64 r.x2, .int .u64 r.x3]) (by rfl) (by rfl) (there_bl th BB.out) i4_s (one4 r) rfl (fun wn2 hw => ?_)
 have SN := hidden (HH.out.trans (gb_setCells eb [.int .u64 r.x0, .int .u64 r.x1, .int .u64 r.x2, .int .u64 r.x3] (eo + ii * 4) _))
 have FE := hidden ((⟨_, BB.out, hw⟩ : ∃ wy, Below W.heap.size W wy ∧ _ = wy.setCells eb (eo + ii * 4) [.int .u64 r.x0, .int .u64 r.x1, .int .u64 r.x2, .int .u64 r.x3]))
 rw [← hw] at SN
 clear HH hw
 refine hK.out _ _ SN.out (fun hH2 => ?_)
 clear hK K SN
 have HH := hidden hH2
 have FQ := hidden (HQ.out _ FE.out)
 refine wpAnyH_done (by kernel_rfl) ?_ _
 refine NoPanic.normal ?_
 exact FQ.out
def tn (g : Nat → Nat → E4) (kk i a b : Nat) : E4 := if a = kk then (if b < i then lst (-(g a b).n) else g a b) else g a b
theorem tn_0 (g : Nat → Nat → E4) (kk : Nat) : tn g kk 0 = g := by
 funext a b
 unfold tn
 split <;> simp
theorem tn_succ (g : Nat → Nat → E4) (kk i : Nat) : upd2 (tn g kk i) kk i (lst (-(g kk i).n)) = tn g kk (i + 1) := by
 funext a b
 unfold upd2 tn
 by_cases e : a = kk
 ·subst e
  simp only [if_pos]
  by_cases e2 : b = i
  ·subst e2; rw [if_pos rfl, if_pos (by omega)]
  ·rw [if_neg e2]
   by_cases e3 : b < i
   ·rw [if_pos e3, if_pos (by omega)]
   ·rw [if_neg e3, if_neg (by omega)]
 ·simp only [if_neg e]
theorem tn_at (g : Nat → Nat → E4) (kk i : Nat) : tn g kk i kk i = g kk i := by unfold tn; rw [if_pos rfl, if_neg (by omega)]
set_option maxHeartbeats 16000000 in
theorem turn_any {w0 w : World} {cnt B : Nat → Nat} {g : Nat → Nat → E4} (hT : Tb w0) (hB : Below w0.heap.size w0 w) (hZ : Zn w0.heap.size cnt B g w) (kk : Nat) (k6 : kk < 6) (hm : cnt kk ≤ 2932031007402) :
  Calls Tryd.prog 35 #[.agg #[.slice (some ⟨B 0, 0, none⟩) (cnt 0) (cnt 0), .slice (some ⟨B 1, 0, none⟩) (cnt 1) (cnt 1), .slice (some ⟨B 2, 0, none⟩) (cnt 2) (cnt 2), .slice (some ⟨B 3, 0, none⟩) (cnt 3) (cnt 3), .slice (some ⟨B 4, 0, none⟩) (cnt 4) (cnt 4), .slice (some ⟨B 5, 0, none⟩) (cnt 5) (cnt 5)], .int .i64 (kk : Int)] w fun e w' => e = .returned (.tuple #[]) ∧ Zn w0.heap.size cnt B (tn g kk (cnt kk)) w' ∧ Kz B w w' := by
 have sB : Hid (∀ j, j < 6 → B j < w.heap.size) := hidden (fun j hj => (hZ.rm j hj).lt)
 have sW : Hid (w0.heap.size ≤ w.heap.size) := hidden hB.size
 have lo := hidden hZ.lo
 have b2 : Below w.heap.size w (w.alloc (.cells #[.slice (some ⟨B 0, 0, none⟩) (cnt 0) (cnt 0), .slice (some ⟨B 1, 0, none⟩) (cnt 1) (cnt 1), .slice (some ⟨B 2, 0, none⟩) (cnt 2) (cnt 2), .slice (some ⟨B 3, 0, none⟩) (cnt 3) (cnt 3), .slice (some ⟨B 4, 0, none⟩) (cnt 4) (cnt 4), .slice (some ⟨B 5, 0, none⟩) (cnt 5) (cnt 5)] 69)) := bl_alloc w (.cells #[.slice (some ⟨B 0, 0, none⟩) (cnt 0) (cnt 0), .slice (some ⟨B 1, 0, none⟩) (cnt 1) (cnt 1), .slice (some ⟨B 2, 0, none⟩) (cnt 2) (cnt 2), .slice (some ⟨B 3, 0, none⟩) (cnt 3) (cnt 3), .slice (some ⟨B 4, 0, none⟩) (cnt 4) (cnt 4), .slice (some ⟨B 5, 0, none⟩) (cnt 5) (cnt 5)] 69)
 have Z2 := hidden (hZ.keep b2)
 have K2 := hidden (Kz.of (B := B) b2)
 have nc0 : (w.alloc (.cells #[.slice (some ⟨B 0, 0, none⟩) (cnt 0) (cnt 0), .slice (some ⟨B 1, 0, none⟩) (cnt 1) (cnt 1), .slice (some ⟨B 2, 0, none⟩) (cnt 2) (cnt 2), .slice (some ⟨B 3, 0, none⟩) (cnt 3) (cnt 3), .slice (some ⟨B 4, 0, none⟩) (cnt 4) (cnt 4), .slice (some ⟨B 5, 0, none⟩) (cnt 5) (cnt 5)] 69)).cell? ⟨w.heap.size, kk, none⟩ = some (.slice (some ⟨B kk, 0, none⟩) (cnt kk) (cnt kk)) := by
  match kk, k6 with
  | 0, _ => go_simp
  | 1, _ => go_simp
  | 2, _ => go_simp
  | 3, _ => go_simp
  | 4, _ => go_simp
  | 5, _ => go_simp
 have HB := hidden hB
 have HT := hidden hT
 have HM := hidden hm
 have SZ : Hid ((w.alloc (.cells #[.slice (some ⟨B 0, 0, none⟩) (cnt 0) (cnt 0), .slice (some ⟨B 1, 0, none⟩) (cnt 1) (cnt 1), .slice (some ⟨B 2, 0, none⟩) (cnt 2) (cnt 2), .slice (some ⟨B 3, 0, none⟩) (cnt 3) (cnt 3), .slice (some ⟨B 4, 0, none⟩) (cnt 4) (cnt 4), .slice (some ⟨B 5, 0, none⟩) (cnt 5) (cnt 5)] 69)).heap.size = w.heap.size + 1) := hidden (by simp only [World.size_alloc])
 have k0' : (0 : Int) ≤ (kk : Int) := by omega
 have k1' : (kk : Int) < 6 := by omega
 clear b2 hB hZ hT hm
 go_enter Tryd.func35, Tryd.ntmps35
 go_upto_region 1 with fail
 generalize (w.alloc (.cells #[.slice (some ⟨B 0, 0, none⟩) (cnt 0) (cnt 0), .slice (some ⟨B 1, 0, none⟩) (cnt 1) (cnt 1), .slice (some ⟨B 2, 0, none⟩) (cnt 2) (cnt 2), .slice (some ⟨B 3, 0, none⟩) (cnt 3) (cnt 3), .slice (some ⟨B 4, 0, none⟩) (cnt 4) (cnt 4), .slice (some ⟨B 5, 0, none⟩) (cnt 5) (cnt 5)] 69)) = w2 at *
 go_upto_region 2 with fail
 have NC := hidden nc0
 clear nc0
 go_loopw [10] (fun iv x => ∃ i : Nat, i ≤ cnt kk ∧ iv = .int .i64 (i : Int) ∧ Hid (Zn w0.heap.size cnt B (tn g kk i) x ∧ Kz B w2 x)) (fun i _ => cnt kk - (intOf i).toNat)
 case atStart => exact ⟨0, by omega, rfl, hidden ⟨by rw [tn_0]; exact Z2.out, Kz.refl _ _⟩⟩
 case round =>
  clear Z2
  obtain ⟨i, hi, rfl, hS⟩ := hrel
  by_cases hin : i < cnt kk
  ·have i0' : (0 : Int) ≤ (i : Int) := by omega
   have i1' : (i : Int) < ((cnt kk : Nat) : Int) := by omega
   have w9 : IntKind.i64.wrap ((i : Int) + 1) = (i : Int) + 1 := IntWalk.i64_in _ (by have := HM.out; omega)
   have sz := SZ.out
   have sr := hS.out.2.size
   have sw := sW.out
   have KW : Hid (Kz B w wr) := hidden (K2.out.trans hS.out.2)
   have BW : Below w0.heap.size w0 wr := below_tr HB.out (KW.out.bel sw lo.out)
   have oe := hS.out.1.ok kk i k6 hin
   have nb : ∀ b, w.heap.size ≤ b → ∀ q, q < 6 → b ≠ B q := fun b hb q hq e => by have := sB.out q hq; omega
   have nc := hS.out.2.cell NC.out (nb _ (by show w.heap.size ≤ w.heap.size; omega))
   have RR := hidden (hS.out.1.rm kk k6)
   have rr := hS.out.1.rm kk k6
   have y0 := rr.r.c0 i hin
   have y1 := rr.r.c1 i hin
   have y2 := rr.r.c2 i hin
   have y3 := rr.r.c3 i hin
   rw [tn_at] at y0 y1 y2 y3 oe
   rw [Nat.zero_add] at y0 y1 y2 y3
   have bb := sB.out kk k6
   generalize hev : g kk i = ev at *
   have HE := hidden hev
   clear hev nb rr
   go_upto_region 4 with fail
   have BA := bl_alloc wr (.cells #[.int .u64 ev.x0, .int .u64 ev.x1, .int .u64 ev.x2, .int .u64 ev.x3] 26)
   have t0 : (wr.alloc (.cells #[.int .u64 ev.x0, .int .u64 ev.x1, .int .u64 ev.x2, .int .u64 ev.x3] 26)).cell? ⟨wr.heap.size, 0, none⟩ = some (.int .u64 ev.x0) := by go_simp
   have t1 : (wr.alloc (.cells #[.int .u64 ev.x0, .int .u64 ev.x1, .int .u64 ev.x2, .int .u64 ev.x3] 26)).cell? ⟨wr.heap.size, 1, none⟩ = some (.int .u64 ev.x1) := by go_simp
   have t2 : (wr.alloc (.cells #[.int .u64 ev.x0, .int .u64 ev.x1, .int .u64 ev.x2, .int .u64 ev.x3] 26)).cell? ⟨wr.heap.size, 2, none⟩ = some (.int .u64 ev.x2) := by go_simp
   have t3 : (wr.alloc (.cells #[.int .u64 ev.x0, .int .u64 ev.x1, .int .u64 ev.x2, .int .u64 ev.x3] 26)).cell? ⟨wr.heap.size, 3, none⟩ = some (.int .u64 ev.x3) := by go_simp
   have nc2 := cell_keep nc BA
   have R5 := hidden (RR.out.keep BA)
   have Z5 := hidden (hS.out.1.keep BA)
   have K5 := hidden (hS.out.2.trans (Kz.of BA))
   have B5 := hidden (bl_trans BW BA)
   have tbn : wr.heap.size ≠ B kk := by omega
   have nbn : w.heap.size ≠ B kk := by omega
   clear y0 y1 y2 y3 BW BA hS RR nc sr
   generalize (wr.alloc (.cells #[.int .u64 ev.x0, .int .u64 ev.x1, .int .u64 ev.x2, .int .u64 ev.x3] 26)) = w5 at *
   generalize wr.heap.size = tb at *
   have C5 : Hid (∀ y, Below w5.heap.size w5 y → _) := hidden (fun y hb => fix (R := lst (-ev.n)) (Neg_any ev y (HT.out.keep (bl_trans B5.out hb)) oe) rfl)
   simp only [E4.v] at C5
   have th := R5.out.there4 hin
   refine gtn4 _ w.heap.size tb kk i (B kk) 0 (cnt kk) (cnt kk) ev (lst (-ev.n)) _ _ _ _ _ _ _ _ _ _ _ _ _ _ _ _ _ _ _ w5 (by omega) (by omega) (by omega) (by omega) tbn nbn th nc2 t0 t1 t2 t3 C5 (hidden ?_)
   intro wz hz
   have NS : Hid (Zn w0.heap.size cnt B (tn g kk (i + 1)) wz ∧ Kz B w2 wz) := hidden (by
    obtain ⟨wy, hy, rfl⟩ := hz
    rw [setCells_S, Nat.zero_add, ← tn_succ, HE.out]
    exact ⟨(Z5.out.keep hy).set kk i k6 hin _ (lst_ok _), K5.out.trans ((Kz.of hy).trans (Kz.gr kk k6 (setS_gb _ _ _ _)))⟩)
   clear hz C5 th t0 t1 t2 t3 Z5 K5 B5 R5 KW nc2
   go_wp2_with fail
   go_roundw
   case rel => exact ⟨i + 1, by omega, by go_num, NS⟩
   case measure => simp [intOf]; omega
  ·have e : i = cnt kk := by omega
   have lq : ¬ (i : Int) < ((cnt kk : Nat) : Int) := by omega
   have FN : Hid (Zn w0.heap.size cnt B (tn g kk (cnt kk)) wr ∧ Kz B w wr) := hidden ⟨e ▸ hS.out.1, K2.out.trans hS.out.2⟩
   clear hS
   go_wp2_with fail
   exact bodyPost_end (v := .tuple #[]) (by simp [results, Tryd.results35, go_sem]) rfl ⟨rfl, FN.out⟩
end Ci
end Go.Proofs.YtimjfndaleccaaaDoor
namespace Go.Proofs.YtimjfndaleccaaaDoor
open Go.RowKit
set_option linter.unusedVariables false
set_option linter.unusedSimpArgs false
open Cm (Wr Tm co bf Ls lf ins Eqm)
namespace Ci
set_option maxRecDepth 100000
set_option maxHeartbeats 4000000
theorem there_gb' {w w' : World} {b o n r : Nat} (h : w.there b o n) (hg : w.grownBy w' (some r)) (hne : b ≠ r) : w'.there b o n := fun j hj => by
 obtain ⟨h1, h2⟩ := h j hj
 obtain ⟨u, hu⟩ := Option.isSome_iff_exists.1 h1
 have hl := World.block_lt_of_cell? w _ hu
 exact ⟨by rw [hg.cell hu (fun e => hne (Option.some.inj e))]; rfl, gz_frozen hg (fun e => hne (Option.some.inj e)) hl h2⟩
structure Zi (w w3 : World) (m Kg i : Nat) (x : World) : Prop where
 bel : Below w.heap.size w x
 sz : x.heap.size = w3.heap.size + i
 rm : ∀ k, k < i → Rm x (w3.heap.size + k) (cn m Kg k) (fun _ => ⟨0, 0, 0, 0⟩)
 nc : ∀ k, k < 6 → x.cell? ⟨w.heap.size + 1, k, none⟩ = some (if k < i then .slice (some ⟨w3.heap.size + k, 0, none⟩) (cn m Kg k) (cn m Kg k) else .slice none 0 0)
 nt : x.there (w.heap.size + 1) 0 6
 rt : x.there w.heap.size 0 6
 rz : x.rangeAt w.heap.size 0 [.slice none 0 0, .slice none 0 0, .slice none 0 0, .slice none 0 0, .slice none 0 0, .slice none 0 0]
theorem zok4 : (⟨0, 0, 0, 0⟩ : E4).ok := ⟨⟨by decide, by decide⟩, ⟨by decide, by decide⟩, ⟨by decide, by decide⟩, ⟨by decide, by decide⟩⟩
theorem sinfo4 : (Tryd.prog.info? 26).map (fun i => (i.zero, i.size, i.bytes)) = some (some (.agg #[.int .u64 0, .int .u64 0, .int .u64 0, .int .u64 0]), 4, 32) := by kernel_rfl
theorem info_parts4 {i : Option TypeInfo} {z : Value} {a b : Nat} (h : i.map (fun i => (i.zero, i.size, i.bytes)) = some (some z, a, b)) : ∃ i0, i = some i0 ∧ i0.zero = some z ∧ i0.size = a ∧ i0.bytes = b := by
 cases i with
 | none => cases h
 | some i0 =>
  simp only [Option.map_some, Option.some.injEq, Prod.mk.injEq] at h
  exact ⟨i0, rfl, h.1, h.2.1, h.2.2⟩
theorem Zi.next {w w3 : World} {m Kg i : Nat} {x : World} (hw : w.heap.size + 2 ≤ w3.heap.size) (h : Zi w w3 m Kg i x) (hi : i < 6) : Zi w w3 m Kg (i + 1) ((x.alloc (.cells (madeCells #[.int .u64 0, .int .u64 0, .int .u64 0, .int .u64 0] (cn m Kg i * 4)) 26)).setCell ⟨w.heap.size + 1, i, none⟩ (.slice (some ⟨w3.heap.size + i, 0, none⟩) (cn m Kg i) (cn m Kg i))) := by
 have ba := bl_alloc x (.cells (madeCells #[.int .u64 0, .int .u64 0, .int .u64 0, .int .u64 0] (cn m Kg i * 4)) 26)
 have rn := Rm.made x (cn m Kg i) 26
 have sa : (x.alloc (.cells (madeCells #[.int .u64 0, .int .u64 0, .int .u64 0, .int .u64 0] (cn m Kg i * 4)) 26)).heap.size = x.heap.size + 1 := by simp
 generalize x.alloc (.cells (madeCells #[.int .u64 0, .int .u64 0, .int .u64 0, .int .u64 0] (cn m Kg i * 4)) 26) = y at *
 have hg : y.grownBy (y.setCell ⟨w.heap.size + 1, i, none⟩ (.slice (some ⟨w3.heap.size + i, 0, none⟩) (cn m Kg i) (cn m Kg i))) (some (w.heap.size + 1)) := ⟨rfl, rfl, rfl, by rw [World.size_setCell]; exact Nat.le_refl _, fun j _ hj => heap_setCell_other y ⟨w.heap.size + 1, i, none⟩ j _ (fun e => hj (by rw [e]))⟩
 have hsz := h.sz
 refine ⟨(bl_trans h.bel ba).grown hg ((bl_trans h.bel ba).size) (fun j hj => by have := Option.some.inj hj; omega), by rw [World.size_setCell, sa, hsz]; omega, fun k hk => ?_, fun k hk => ?_, ?_, ?_, ?_⟩
 ·by_cases e : k = i
  ·subst e
   rw [hsz] at rn
   exact rn.far hg (by omega)
  ·exact ((h.rm k (by omega)).keep ba).far hg (by omega)
 ·by_cases e : k = i
  ·subst e
   rw [if_pos (by omega)]
   have hs := (there_bl h.nt ba k hk).1
   rw [Nat.zero_add] at hs
   exact World.cell?_setCell_same' _ _ _ hs
  ·rw [setC_ne4 _ _ _ _ _ e, cell_keep (h.nc k hk) ba]
   by_cases e2 : k < i
   ·rw [if_pos e2, if_pos (by omega)]
   ·rw [if_neg e2, if_neg (by omega)]
 ·intro j hj
  obtain ⟨h1, h2⟩ := there_bl h.nt ba j hj
  refine ⟨?_, by rw [World.frozen?_setCell]; exact h2⟩
  by_cases e : 0 + j = i
  ·rw [e] at h1 ⊢
   rw [World.cell?_setCell_same' _ _ _ h1]
   rfl
  ·rw [setC_ne4 _ _ _ _ _ e]
   exact h1
 ·exact there_gb' (there_bl h.rt ba) hg (by omega)
 ·exact fun j u hu => hg.cell (range_bl h.rz ba j u hu) (fun e => by have := Option.some.inj e; simp only at this; omega)
set_option maxHeartbeats 16000000 in
theorem zeros_any {base : Nat} {w : World} {s m Kg : Nat} {vv : Value} {vs : List Value} {Q : List (List Tm)} (h : Sy base w s m Kg vv vs Q) (hK : Kg ≤ 1024) (hm : m ≤ 4096) :
  Calls Tryd.prog 33 #[.pointer (some ⟨s, 0, none⟩)] w fun e w' => ∃ b, e = .returned (.agg #[.slice (some ⟨b + 0, 0, none⟩) (cn m Kg 0) (cn m Kg 0), .slice (some ⟨b + 1, 0, none⟩) (cn m Kg 1) (cn m Kg 1), .slice (some ⟨b + 2, 0, none⟩) (cn m Kg 2) (cn m Kg 2), .slice (some ⟨b + 3, 0, none⟩) (cn m Kg 3) (cn m Kg 3), .slice (some ⟨b + 4, 0, none⟩) (cn m Kg 4) (cn m Kg 4), .slice (some ⟨b + 5, 0, none⟩) (cn m Kg 5) (cn m Kg 5)]) ∧ w.heap.size ≤ b ∧ Zn w.heap.size (cn m Kg) (fun k => b + k) (fun _ _ => ⟨0, 0, 0, 0⟩) w' ∧ Below w.heap.size w w' := by
 have b2 : Below w.heap.size w ((w.alloc (.cells #[.slice none 0 0, .slice none 0 0, .slice none 0 0, .slice none 0 0, .slice none 0 0, .slice none 0 0] 69)).alloc (.cells #[.slice none 0 0, .slice none 0 0, .slice none 0 0, .slice none 0 0, .slice none 0 0, .slice none 0 0] 69)) := bl_alloc2 w (.cells #[.slice none 0 0, .slice none 0 0, .slice none 0 0, .slice none 0 0, .slice none 0 0, .slice none 0 0] 69) (.cells #[.slice none 0 0, .slice none 0 0, .slice none 0 0, .slice none 0 0, .slice none 0 0, .slice none 0 0] 69)
 have C := hidden (counts_any (h.keep b2))
 have n0 : Hid (((w.alloc (.cells #[.slice none 0 0, .slice none 0 0, .slice none 0 0, .slice none 0 0, .slice none 0 0, .slice none 0 0] 69)).alloc (.cells #[.slice none 0 0, .slice none 0 0, .slice none 0 0, .slice none 0 0, .slice none 0 0, .slice none 0 0] 69)).there (w.heap.size + 1) 0 6) := hidden (by
  have := there_newM (w.alloc (.cells #[.slice none 0 0, .slice none 0 0, .slice none 0 0, .slice none 0 0, .slice none 0 0, .slice none 0 0] 69)) [.slice none 0 0, .slice none 0 0, .slice none 0 0, .slice none 0 0, .slice none 0 0, .slice none 0 0] 69
  simpa [World.size_alloc] using this)
 have n1 : Hid (((w.alloc (.cells #[.slice none 0 0, .slice none 0 0, .slice none 0 0, .slice none 0 0, .slice none 0 0, .slice none 0 0] 69)).alloc (.cells #[.slice none 0 0, .slice none 0 0, .slice none 0 0, .slice none 0 0, .slice none 0 0, .slice none 0 0] 69)).rangeAt (w.heap.size + 1) 0 [.slice none 0 0, .slice none 0 0, .slice none 0 0, .slice none 0 0, .slice none 0 0, .slice none 0 0]) := hidden (by
  have := range_newM (w.alloc (.cells #[.slice none 0 0, .slice none 0 0, .slice none 0 0, .slice none 0 0, .slice none 0 0, .slice none 0 0] 69)) [.slice none 0 0, .slice none 0 0, .slice none 0 0, .slice none 0 0, .slice none 0 0, .slice none 0 0] 69
  simpa [World.size_alloc] using this)
 have r0 : Hid (((w.alloc (.cells #[.slice none 0 0, .slice none 0 0, .slice none 0 0, .slice none 0 0, .slice none 0 0, .slice none 0 0] 69)).alloc (.cells #[.slice none 0 0, .slice none 0 0, .slice none 0 0, .slice none 0 0, .slice none 0 0, .slice none 0 0] 69)).there w.heap.size 0 6) := hidden (there_bl (there_newM w [.slice none 0 0, .slice none 0 0, .slice none 0 0, .slice none 0 0, .slice none 0 0, .slice none 0 0] 69) (bl_alloc _ _))
 have r1 : Hid (((w.alloc (.cells #[.slice none 0 0, .slice none 0 0, .slice none 0 0, .slice none 0 0, .slice none 0 0, .slice none 0 0] 69)).alloc (.cells #[.slice none 0 0, .slice none 0 0, .slice none 0 0, .slice none 0 0, .slice none 0 0, .slice none 0 0] 69)).rangeAt w.heap.size 0 [.slice none 0 0, .slice none 0 0, .slice none 0 0, .slice none 0 0, .slice none 0 0, .slice none 0 0]) := hidden (range_bl (range_newM w [.slice none 0 0, .slice none 0 0, .slice none 0 0, .slice none 0 0, .slice none 0 0, .slice none 0 0] 69) (bl_alloc _ _))
 have SZ : Hid (((w.alloc (.cells #[.slice none 0 0, .slice none 0 0, .slice none 0 0, .slice none 0 0, .slice none 0 0, .slice none 0 0] 69)).alloc (.cells #[.slice none 0 0, .slice none 0 0, .slice none 0 0, .slice none 0 0, .slice none 0 0, .slice none 0 0] 69)).heap.size = w.heap.size + 1 + 1) := hidden (by simp only [World.size_alloc])
 have HB := hidden b2
 have HKM := hidden (And.intro hK hm)
 clear b2 h hK hm
 obtain ⟨i0, hi, hz0, hz1, hz2⟩ := info_parts4 sinfo4
 have hmk := fun (w : World) (n : Nat) (hn : n ≤ 4398046510976) => run_make (P := Tryd.prog) w 23 26 i0 (.agg #[.int .u64 0, .int .u64 0, .int .u64 0, .int .u64 0]) (by kernel_rfl) hi hz0 .i64 .i64 (n : Int) (n : Int) (by omega) (Int.le_refl _) (by rw [hz2]; omega) (by omega)
 have tn : ∀ n : Nat, ((n : Int)).toNat = n := fun n => by omega
 simp only [tn, hz1, Value.cells] at hmk
 have HMK := hidden hmk
 clear tn hmk hi hz0 hz1 hz2
 go_enter Tryd.func33, Tryd.ntmps33
 go_upto_region 2 with fail
 generalize ((w.alloc (.cells #[.slice none 0 0, .slice none 0 0, .slice none 0 0, .slice none 0 0, .slice none 0 0, .slice none 0 0] 69)).alloc (.cells #[.slice none 0 0, .slice none 0 0, .slice none 0 0, .slice none 0 0, .slice none 0 0, .slice none 0 0] 69)) = w2 at *
 go_upto_region 3 with (go_at_call 57; refine C.out.mono ?_; rintro e w3 ⟨rfl, hb⟩; have B3 := hidden hb; clear hb C)
 have S3 : Hid (w.heap.size + 2 ≤ w3.heap.size) := hidden (by have := B3.out.size; have := SZ.out; omega)
 have Z0 : Hid (Zi w w3 m Kg 0 w3) := hidden ⟨bl_trans HB.out B3.out, rfl, fun k hk => by omega, fun k hk => by
  rw [if_neg (by omega)]
  have := range_bl n1.out B3.out k (.slice none 0 0) (by match k, hk with | 0, _ => rfl | 1, _ => rfl | 2, _ => rfl | 3, _ => rfl | 4, _ => rfl | 5, _ => rfl)
  rwa [Nat.zero_add] at this, there_bl n0.out B3.out, there_bl r0.out B3.out, range_bl r1.out B3.out⟩
 clear n0 n1 r0 r1 B3 HB
 go_loopw [8] (fun iv x => ∃ i : Nat, i ≤ 6 ∧ iv = .int .i64 (i : Int) ∧ Hid (Zi w w3 m Kg i x)) (fun i _ => 6 - (intOf i).toNat)
 case atStart => exact ⟨0, by omega, rfl, Z0⟩
 case round =>
  clear Z0
  obtain ⟨i, hi6, rfl, hS⟩ := hrel
  by_cases hin : i < 6
  ·have i0' : (0 : Int) ≤ (i : Int) := by omega
   have i1' : (i : Int) < 6 := by omega
   have w9 : IntKind.i64.wrap ((i : Int) + 1) = (i : Int) + 1 := IntWalk.i64_in _ (by omega)
   have NS := hidden (hS.out.next S3.out hin)
   have ix := fun y => ix_run0 m Kg i hin y
   have hmk := HMK.out wr (cn m Kg i) (by
    have := HKM.out
    match i, hin with
    | 0, _ => show 0 ≤ _; omega
    | 1, _ => show 1 ≤ _; omega
    | 2, _ => show Kg ≤ _; omega
    | 3, _ => show Kg ≤ _; omega
    | 4, _ => show Kg ≤ _; omega
    | 5, _ => show m ≤ _; omega)
   have ba := bl_alloc wr (.cells (madeCells #[.int .u64 0, .int .u64 0, .int .u64 0, .int .u64 0] (cn m Kg i * 4)) 26)
   have nc := cell_keep (hS.out.nc i hin) ba
   rw [if_neg (by omega)] at nc
   have nf := (there_bl hS.out.nt ba i hin).2
   rw [Nat.zero_add] at nf
   have ws := hS.out.sz
   rw [← ws] at NS
   clear hS ba ws
   generalize hq : cn m Kg i = q at *
   clear hq
   go_wp2_with fail
   go_roundw
   case rel => exact ⟨i + 1, by omega, by go_num, NS⟩
   case measure => simp [intOf]; omega
  ·obtain rfl : i = 6 := by omega
   have lq : ¬ (6 : Int) < 6 := by omega
   have n0 := hS.out.nc 0 (by omega)
   rw [if_pos (by omega)] at n0
   have z0 : wr.cell? ⟨w.heap.size, 0, none⟩ = some (.slice none 0 0) := hS.out.rz 0 _ rfl
   have f0 := (hS.out.rt 0 (by omega)).2
   have n1 := hS.out.nc 1 (by omega)
   rw [if_pos (by omega)] at n1
   have z1 : wr.cell? ⟨w.heap.size, 1, none⟩ = some (.slice none 0 0) := hS.out.rz 1 _ rfl
   have f1 := (hS.out.rt 1 (by omega)).2
   have n2 := hS.out.nc 2 (by omega)
   rw [if_pos (by omega)] at n2
   have z2 : wr.cell? ⟨w.heap.size, 2, none⟩ = some (.slice none 0 0) := hS.out.rz 2 _ rfl
   have f2 := (hS.out.rt 2 (by omega)).2
   have n3 := hS.out.nc 3 (by omega)
   rw [if_pos (by omega)] at n3
   have z3 : wr.cell? ⟨w.heap.size, 3, none⟩ = some (.slice none 0 0) := hS.out.rz 3 _ rfl
   have f3 := (hS.out.rt 3 (by omega)).2
   have n4 := hS.out.nc 4 (by omega)
   rw [if_pos (by omega)] at n4
   have z4 : wr.cell? ⟨w.heap.size, 4, none⟩ = some (.slice none 0 0) := hS.out.rz 4 _ rfl
   have f4 := (hS.out.rt 4 (by omega)).2
   have n5 := hS.out.nc 5 (by omega)
   rw [if_pos (by omega)] at n5
   have z5 : wr.cell? ⟨w.heap.size, 5, none⟩ = some (.slice none 0 0) := hS.out.rz 5 _ rfl
   have f5 := (hS.out.rt 5 (by omega)).2
   simp only [Nat.zero_add] at f0 f1 f2 f3 f4 f5
   have GS := gb_setCells w.heap.size [.slice (some ⟨w3.heap.size + 0, 0, none⟩) (cn m Kg 0) (cn m Kg 0), .slice (some ⟨w3.heap.size + 1, 0, none⟩) (cn m Kg 1) (cn m Kg 1), .slice (some ⟨w3.heap.size + 2, 0, none⟩) (cn m Kg 2) (cn m Kg 2), .slice (some ⟨w3.heap.size + 3, 0, none⟩) (cn m Kg 3) (cn m Kg 3), .slice (some ⟨w3.heap.size + 4, 0, none⟩) (cn m Kg 4) (cn m Kg 4), .slice (some ⟨w3.heap.size + 5, 0, none⟩) (cn m Kg 5) (cn m Kg 5)] 0 wr
   have FN : Hid (Zn w.heap.size (cn m Kg) (fun k => w3.heap.size + k) (fun _ _ => ⟨0, 0, 0, 0⟩) (wr.setCells w.heap.size 0 [.slice (some ⟨w3.heap.size + 0, 0, none⟩) (cn m Kg 0) (cn m Kg 0), .slice (some ⟨w3.heap.size + 1, 0, none⟩) (cn m Kg 1) (cn m Kg 1), .slice (some ⟨w3.heap.size + 2, 0, none⟩) (cn m Kg 2) (cn m Kg 2), .slice (some ⟨w3.heap.size + 3, 0, none⟩) (cn m Kg 3) (cn m Kg 3), .slice (some ⟨w3.heap.size + 4, 0, none⟩) (cn m Kg 4) (cn m Kg 4), .slice (some ⟨w3.heap.size + 5, 0, none⟩) (cn m Kg 5) (cn m Kg 5)]) ∧ Below w.heap.size w (wr.setCells w.heap.size 0 [.slice (some ⟨w3.heap.size + 0, 0, none⟩) (cn m Kg 0) (cn m Kg 0), .slice (some ⟨w3.heap.size + 1, 0, none⟩) (cn m Kg 1) (cn m Kg 1), .slice (some ⟨w3.heap.size + 2, 0, none⟩) (cn m Kg 2) (cn m Kg 2), .slice (some ⟨w3.heap.size + 3, 0, none⟩) (cn m Kg 3) (cn m Kg 3), .slice (some ⟨w3.heap.size + 4, 0, none⟩) (cn m Kg 4) (cn m Kg 4), .slice (some ⟨w3.heap.size + 5, 0, none⟩) (cn m Kg 5) (cn m Kg 5)])) := hidden ⟨⟨fun k hk => (hS.out.rm k hk).far GS (by have := S3.out; omega), fun i j _ _ hij e => hij (by omega), fun k hk => by have := S3.out; omega, fun k i _ _ => zok4⟩, hS.out.bel.grown GS hS.out.bel.size (fun j hj => by have := Option.some.inj hj; omega)⟩
   have LE : Hid (w.heap.size ≤ w3.heap.size) := hidden (by have := S3.out; omega)
   clear hS GS
   go_wp2_with fail
   exact bodyPost_ret (v := .agg #[.slice (some ⟨w3.heap.size + 0, 0, none⟩) (cn m Kg 0) (cn m Kg 0), .slice (some ⟨w3.heap.size + 1, 0, none⟩) (cn m Kg 1) (cn m Kg 1), .slice (some ⟨w3.heap.size + 2, 0, none⟩) (cn m Kg 2) (cn m Kg 2), .slice (some ⟨w3.heap.size + 3, 0, none⟩) (cn m Kg 3) (cn m Kg 3), .slice (some ⟨w3.heap.size + 4, 0, none⟩) (cn m Kg 4) (cn m Kg 4), .slice (some ⟨w3.heap.size + 5, 0, none⟩) (cn m Kg 5) (cn m Kg 5)]) (by simp [results, Tryd.results33, go_sem, z0, z1, z2, z3, z4, z5]) rfl ⟨w3.heap.size, rfl, LE.out, FN.out⟩
end Ci
end Go.Proofs.YtimjfndaleccaaaDoor
