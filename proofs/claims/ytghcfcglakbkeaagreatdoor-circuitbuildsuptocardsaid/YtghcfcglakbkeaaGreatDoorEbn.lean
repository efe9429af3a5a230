import Derived.Test.YtghcfcglakbkeaaGreatDoorEbm
namespace Go.Proofs.YtghcfcglakbkeaaGreatDoor
open Go.RowKit
set_option linter.unusedVariables false
set_option linter.unusedSimpArgs false
open Cm (Wr Tm co bf Ls lf ins Eqm)
open Xo (Dj own_front own_new Dj.kept wpList_tell)
namespace Ci
set_option maxRecDepth 100000
set_option maxHeartbeats 16000000
def otT : Trm := ⟨(66, 67), ⟨68, 0, 0, 0⟩⟩
structure Lm (w0 : World) (n : Nat) (v1 v2 : Value) (b5 : Nat) (f1 f2 : Nat → Trm) (z : World) : Prop where
 o1 : z.ownsRow w0.heap.size 123 6 v1 n (tvs n f1)
 o2 : z.ownsRow w0.heap.size 123 6 v2 n (tvs n f2)
 dj : Dj v1 v2
 nb : v1.ownBlock ≠ some b5 ∧ v2.ownBlock ≠ some b5
 h5 : z.heap[b5]? = some (.cells otT.cs.toArray 123 (0, 0))
 mr : Mk w0
 bel : Below w0.heap.size w0 z
section
variable {w0 z : World} {n i g c b5 : Nat} {v1 v2 : Value} {f1 f2 f : Nat → Trm}
theorem Lm.put1 (h : Lm w0 n (.slice (some ⟨g, 0, none⟩) n c) v2 b5 (fin i (fun _ => mkT) f) f2 z) (hi : i < n) : Lm w0 n (.slice (some ⟨g, 0, none⟩) n c) v2 b5 (fin (i + 1) (fun _ => mkT) f) f2 (z.setCells g (i * 6) [.int .i64 77, .int .i64 78, .int .u64 79, .int .u64 0, .int .u64 0, .int .u64 0]) := by
 have gb := gb_setCells g [.int .i64 77, .int .i64 78, .int .u64 79, .int .u64 0, .int .u64 0, .int .u64 0] (i * 6) z
 have ho := own_setC [.int .i64 77, .int .i64 78, .int .u64 79, .int .u64 0, .int .u64 0, .int .u64 0] (i * 6) _ _ h.o1
 have e : setL (tvs n (fin i (fun _ => mkT) f)) (i * 6) [.int .i64 77, .int .i64 78, .int .u64 79, .int .u64 0, .int .u64 0, .int .u64 0] = tvs n (fin (i + 1) (fun _ => mkT) f) := tvs_put (g := fun _ => mkT) hi
 rw [e] at ho
 refine ⟨ho, h.o2.kept gb (.inr (fun e => h.dj g rfl e)), h.dj, h.nb, (gb.block b5 (Array.getElem?_eq_some_iff.1 h.h5).1 (fun e => h.nb.1 e.symm)).trans h.h5, h.mr, h.bel.grown gb h.bel.size (fun k hk => ?_)⟩
 obtain rfl := Option.some.inj hk
 exact (h.o1.lt g rfl).1
theorem Lm.put2 (h : Lm w0 n v1 (.slice (some ⟨g, 0, none⟩) n c) b5 f1 (fin i (fun _ => otT) f) z) (hi : i < n) : Lm w0 n v1 (.slice (some ⟨g, 0, none⟩) n c) b5 f1 (fin (i + 1) (fun _ => otT) f) (z.setCells g (i * 6) [.int .i64 66, .int .i64 67, .int .u64 68, .int .u64 0, .int .u64 0, .int .u64 0]) := by
 have gb := gb_setCells g [.int .i64 66, .int .i64 67, .int .u64 68, .int .u64 0, .int .u64 0, .int .u64 0] (i * 6) z
 have ho := own_setC [.int .i64 66, .int .i64 67, .int .u64 68, .int .u64 0, .int .u64 0, .int .u64 0] (i * 6) _ _ h.o2
 have e : setL (tvs n (fin i (fun _ => otT) f)) (i * 6) [.int .i64 66, .int .i64 67, .int .u64 68, .int .u64 0, .int .u64 0, .int .u64 0] = tvs n (fin (i + 1) (fun _ => otT) f) := tvs_put (g := fun _ => otT) hi
 rw [e] at ho
 refine ⟨h.o1.kept gb (.inr (fun e => h.dj g e rfl)), ho, h.dj, h.nb, (gb.block b5 (Array.getElem?_eq_some_iff.1 h.h5).1 (fun e => h.nb.2 e.symm)).trans h.h5, h.mr, h.bel.grown gb h.bel.size (fun k hk => ?_)⟩
 obtain rfl := Option.some.inj hk
 exact (h.o2.lt g rfl).1
end
structure Lo (w0 : World) (n k j : Nat) (v1 x v2 y : Value) (b5 : Nat) (z : World) : Prop where
 gx : Gw w0.heap.size n k mkT v1 x z
 gy : Gw w0.heap.size n j otT v2 y z
 sep : ∀ i, (v1.ownBlock = some i ∨ x.ownBlock = some i) → ¬ (v2.ownBlock = some i ∨ y.ownBlock = some i)
 nb : v1.ownBlock ≠ some b5 ∧ x.ownBlock ≠ some b5 ∧ v2.ownBlock ≠ some b5 ∧ y.ownBlock ≠ some b5
 h5 : z.heap[b5]? = some (.cells otT.cs.toArray 123 (0, 0))
 mr : Mk w0
 bel : Below w0.heap.size w0 z
section
variable {w0 z z2 : World} {n k j b5 : Nat} {v1 x v2 y x2 y2 : Value} {f1 f2 : Nat → Trm}
theorem Lm.lo (h : Lm w0 n v1 v2 b5 (fin n (fun _ => mkT) f1) (fin n (fun _ => otT) f2) z) : Lo w0 n 0 0 v1 v1 v2 v2 b5 z := by
 have o1 := h.o1
 have o2 := h.o2
 rw [fin_all] at o1 o2
 exact ⟨Gw.ofs o1, Gw.ofs o2, fun i h1 h2 => h.dj i (h1.elim id id) (h2.elim id id), ⟨h.nb.1, h.nb.1, h.nb.2, h.nb.2⟩, h.h5, h.mr, h.bel⟩
theorem Lo.keep (h : Lo w0 n k j v1 x v2 y b5 z) (hb : Below z.heap.size z z2) : Lo w0 n k j v1 x v2 y b5 z2 := ⟨h.gx.bl hb, h.gy.bl hb, h.sep, h.nb, hb_bl h.h5 hb, h.mr, bl_trans h.bel hb⟩
theorem Lo.appX (h : Lo w0 n k j v1 x v2 y b5 z) (ho : z2.ownsRow w0.heap.size 123 6 x2 (n + k + 1) (tvs (n + k) (fun _ => mkT) ++ [.int .i64 77, .int .i64 78, .int .u64 79, .int .u64 0, .int .u64 0, .int .u64 0])) (hg : z.grownBy z2 x.ownBlock) (hd : (∃ g cap, x = .slice (some ⟨g, 0, none⟩) (n + k) cap ∧ x2 = .slice (some ⟨g, 0, none⟩) (n + k + 1) cap) ∨ (x2.ownBlock = some z.heap.size ∧ Below z.heap.size z z2)) : Lo w0 n (k + 1) j v1 x2 v2 y b5 z2 := by
 obtain ⟨g1, fr⟩ := h.gx.app (t := mkT) ho hg hd
 have ly := fun i (hi : v2.ownBlock = some i ∨ y.ownBlock = some i) => show i < z.heap.size from hi.elim (fun e => (h.gy.o0.lt i e).2) (fun e => (h.gy.own.lt i e).2)
 refine ⟨g1, h.gy.kept hg (fun i hi => ⟨fun e => h.sep i (.inr hi) (.inr e), fun e => h.sep i (.inr hi) (.inl e)⟩), fun i h1 h2 => ?_, ⟨h.nb.1, fun e => ?_, h.nb.2.2⟩, (hg.block b5 (Array.getElem?_eq_some_iff.1 h.h5).1 (fun e => h.nb.2.1 e.symm)).trans h.h5, h.mr, h.bel.grown hg h.bel.size (fun i hi => (h.gx.own.lt i hi).1)⟩
 ·rcases h1 with e | e
  ·exact h.sep i (.inl e) h2
  ·rcases fr i e with e2 | e2
   ·exact h.sep i (.inr e2) h2
   ·have := ly i h2
    omega
 ·rcases fr b5 e with e2 | e2
  ·exact h.nb.2.1 e2
  ·have := (Array.getElem?_eq_some_iff.1 h.h5).1
   omega
theorem Lo.appY (h : Lo w0 n k j v1 x v2 y b5 z) (ho : z2.ownsRow w0.heap.size 123 6 y2 (n + j + 1) (tvs (n + j) (fun _ => otT) ++ [.int .i64 66, .int .i64 67, .int .u64 68, .int .u64 0, .int .u64 0, .int .u64 0])) (hg : z.grownBy z2 y.ownBlock) (hd : (∃ g cap, y = .slice (some ⟨g, 0, none⟩) (n + j) cap ∧ y2 = .slice (some ⟨g, 0, none⟩) (n + j + 1) cap) ∨ (y2.ownBlock = some z.heap.size ∧ Below z.heap.size z z2)) : Lo w0 n k (j + 1) v1 x v2 y2 b5 z2 := by
 obtain ⟨g1, fr⟩ := h.gy.app (t := otT) ho hg hd
 have ly := fun i (hi : v1.ownBlock = some i ∨ x.ownBlock = some i) => show i < z.heap.size from hi.elim (fun e => (h.gx.o0.lt i e).2) (fun e => (h.gx.own.lt i e).2)
 refine ⟨h.gx.kept hg (fun i hi => ⟨fun e => h.sep i (.inr e) (.inr hi), fun e => h.sep i (.inl e) (.inr hi)⟩), g1, fun i h1 h2 => ?_, ⟨h.nb.1, h.nb.2.1, h.nb.2.2.1, fun e => ?_⟩, (hg.block b5 (Array.getElem?_eq_some_iff.1 h.h5).1 (fun e => h.nb.2.2.2 e.symm)).trans h.h5, h.mr, h.bel.grown hg h.bel.size (fun i hi => (h.gy.own.lt i hi).1)⟩
 ·rcases h2 with e | e
  ·exact h.sep i h1 (.inl e)
  ·rcases fr i e with e2 | e2
   ·exact h.sep i h1 (.inr e2)
   ·have := ly i h1
    omega
 ·rcases fr b5 e with e2 | e2
  ·exact h.nb.2.2.2 e2
  ·have := (Array.getElem?_eq_some_iff.1 h.h5).1
   omega
end
theorem own_some40 {w : World} {base n : Nat} {v : Value} {xs : List Value} (h : w.ownsRow base 123 6 v (n + 40) xs) : ∃ g c : Nat, v = .slice (some ⟨g, 0, none⟩) (n + 40) c := by
 rcases h.2 with ⟨_, h2⟩ | ⟨g, c, cur, h1, _⟩
 ·omega
 ·exact ⟨g, c, h1⟩
theorem lone_any {w0 x : World} {v1 v2 : Value} {n : Nat} {f1 f2 : Nat → Trm} (hM : Mk w0) (hb : Below w0.heap.size w0 x) (o1 : x.ownsRow w0.heap.size 123 6 v1 n (tvs n f1)) (o2 : x.ownsRow w0.heap.size 123 6 v2 n (tvs n f2)) (dj : Dj v1 v2) (hn : n ≤ 1099511627776) :
  Calls Tryz.prog 38 #[v1, v2] x fun e y => e = .returned (.bool true) ∧ Below w0.heap.size w0 y := by
 have BX := bl_alloc x (.cells #[.int .i64 66, .int .i64 67, .int .u64 68, .int .u64 0, .int .u64 0, .int .u64 0] 123)
 have L0 : Hid (Lm w0 n v1 v2 x.heap.size (fin 0 (fun _ => mkT) f1) (fin 0 (fun _ => otT) f2) (x.alloc (.cells #[.int .i64 66, .int .i64 67, .int .u64 68, .int .u64 0, .int .u64 0, .int .u64 0] 123))) := Hn (by
  refine ⟨own_keepT o1 BX, own_keepT o2 BX, dj, ⟨fun e => by have := (o1.lt _ e).2; omega, fun e => by have := (o2.lt _ e).2; omega⟩, heap_alloc_new x _, hM, bl_trans hb BX⟩)
 obtain ⟨P1, c1, rfl, _, p1⟩ := own_shT o1
 obtain ⟨P2, c2, rfl, _, p2⟩ := own_shT o2
 have HP1 := Hn p1
 have HP2 := Hn p2
 have HN := Hn hn
 clear hM hb o1 o2 dj hn p1 p2 BX
 go_enter Tryz.func38, Tryz.ntmps38
 go_upto_region 3 with fail
 obtain ⟨b5, hb5⟩ : ∃ b5, x.heap.size = b5 := ⟨_, rfl⟩
 rw [hb5] at L0 ⊢
 obtain ⟨x1, hx1⟩ : ∃ x1, (x.alloc (.cells #[.int .i64 66, .int .i64 67, .int .u64 68, .int .u64 0, .int .u64 0, .int .u64 0] 123)) = x1 := ⟨_, rfl⟩
 rw [hx1] at L0 ⊢
 clear hx1 hb5
 go_loopw [6] (fun iv z => ∃ i : Nat, i ≤ n ∧ iv = .int .i64 (i : Int) ∧ Hid (Lm w0 n (.slice P1 n c1) (.slice P2 n c2) b5 (fin i (fun _ => mkT) f1) (fin 0 (fun _ => otT) f2) z)) (fun i _ => n - (intOf i).toNat)
 case atStart => exact ⟨0, by omega, rfl, L0⟩
 case round =>
  clear L0
  obtain ⟨i, hi, rfl, hS⟩ := hrel
  by_cases hini : i < n
  ·have i1 : (i : Int) < (n : Int) := by omega
   have i0 : (0 : Int) ≤ (i : Int) := by omega
   have w9i : IntKind.i64.wrap ((i : Int) + 1) = (i : Int) + 1 := IntWalk.i64_in _ (by have := HN.out; omega)
   obtain ⟨g, rfl⟩ := HP1.out (by omega)
   have TH := Hn (th_arr (o := i * 6) (k := 6) (own_arr hS.out.o1) (by omega))
   have mk := hS.out.mr.keep hS.out.bel
   have m0 := mk.m0
   have m1 := mk.m1
   have m2 := mk.m2
   have m3 := mk.m3
   have m4 := mk.m4
   have m5 := mk.m5
   clear mk
   go_wp2_with (refine wpList_stA rfl 123 _ _ rfl g (i * 6) [.int .i64 77, .int .i64 78, .int .u64 79, .int .u64 0, .int .u64 0, .int .u64 0] (by go_simp) rfl TH.out i6T (by simp [Value.oneCell']) rfl ?_; intro y2 hw; have NS := Hn (hS.out.put1 hini); rw [← hw] at NS; clear hw hS TH)
   go_roundw
   case rel => exact ⟨i + 1, by omega, by go_num, NS⟩
   case measure => simp [intOf]; omega
  ·have ei : i = n := by omega
   have lqi : ¬ (i : Int) < (n : Int) := by omega
   have L0 := hS
   rw [ei] at L0
   clear hS
   go_upto_region 7 with fail
   go_loopw [7] (fun iv z => ∃ q : Nat, q ≤ n ∧ iv = .int .i64 (q : Int) ∧ Hid (Lm w0 n (.slice P1 n c1) (.slice P2 n c2) b5 (fin n (fun _ => mkT) f1) (fin q (fun _ => otT) f2) z)) (fun q _ => n - (intOf q).toNat)
   case atStart => exact ⟨0, by omega, rfl, L0⟩
   case round =>
    clear L0
    obtain ⟨q, hq, rfl, hS⟩ := hrel
    by_cases hinq : q < n
    ·have q1 : (q : Int) < (n : Int) := by omega
     have q0 : (0 : Int) ≤ (q : Int) := by omega
     have w9q : IntKind.i64.wrap ((q : Int) + 1) = (q : Int) + 1 := IntWalk.i64_in _ (by have := HN.out; omega)
     obtain ⟨g, rfl⟩ := HP2.out (by omega)
     have TH := Hn (th_arr (o := q * 6) (k := 6) (own_arr hS.out.o2) (by omega))
     have q0 : wr.cell? ⟨b5, 0, none⟩ = some (.int .i64 66) := cell_of_row wr b5 0 _ _ (0, 0) hS.out.h5
     have q1 : wr.cell? ⟨b5, 1, none⟩ = some (.int .i64 67) := cell_of_row wr b5 1 _ _ (0, 0) hS.out.h5
     have q2 : wr.cell? ⟨b5, 2, none⟩ = some (.int .u64 68) := cell_of_row wr b5 2 _ _ (0, 0) hS.out.h5
     have q3 : wr.cell? ⟨b5, 3, none⟩ = some (.int .u64 0) := cell_of_row wr b5 3 _ _ (0, 0) hS.out.h5
     have q4 : wr.cell? ⟨b5, 4, none⟩ = some (.int .u64 0) := cell_of_row wr b5 4 _ _ (0, 0) hS.out.h5
     have q5 : wr.cell? ⟨b5, 5, none⟩ = some (.int .u64 0) := cell_of_row wr b5 5 _ _ (0, 0) hS.out.h5
     go_wp2_with (refine wpList_stA rfl 123 _ _ rfl g (q * 6) [.int .i64 66, .int .i64 67, .int .u64 68, .int .u64 0, .int .u64 0, .int .u64 0] (by go_simp) rfl TH.out i6T (by simp [Value.oneCell']) rfl ?_; intro y2 hw; have NS := Hn (hS.out.put2 hinq); rw [← hw] at NS; clear hw hS TH)
     go_roundw
     case rel => exact ⟨q + 1, by omega, by go_num, NS⟩
     case measure => simp [intOf]; omega
    ·have eq : q = n := by omega
     have lqq : ¬ (q : Int) < (n : Int) := by omega
     have L0 := hS
     rw [eq] at L0
     clear hS
     go_upto_region 12 with fail
     have L1 := Hn L0.out.lo
     clear L0
     have T1 : Hid (Tryz.prog.underlying 38 = some (.slice 123)) := Hn (by kernel_rfl)
     have HI : Hid (Tryz.prog.info? 123 = some (Tryz.prog.info? 123).get!) := Hn (by kernel_rfl)
     have HZ0 : Hid ((Tryz.prog.info? 123).get!.zero = some (.agg #[.int .i64 0, .int .i64 0, .int .u64 0, .int .u64 0, .int .u64 0, .int .u64 0])) := Hn (by kernel_rfl)
     have HZ1 : Hid ((Tryz.prog.info? 123).get!.size = 6) := Hn (by kernel_rfl)
     have HZ2 : Hid ((Tryz.prog.info? 123).get!.bytes = 48) := Hn (by kernel_rfl)
     go_loopw [8, 9, 10] (fun xv yv kv z => ∃ k : Nat, k ≤ 40 ∧ kv = .int .i64 (k : Int) ∧ Hid (Lo w0 n k k (.slice P1 n c1) xv (.slice P2 n c2) yv b5 z)) (fun _ _ k _ => 40 - (intOf k).toNat)
     case atStart => exact ⟨0, by omega, rfl, L1⟩
     case round =>
      clear L1
      obtain ⟨k, hk, rfl, hS⟩ := hrel
      by_cases hin : k < 40
      ·have k1 : (k : Int) < 40 := by omega
       have k0 : (0 : Int) ≤ (k : Int) := by omega
       have w9 : IntKind.i64.wrap ((k : Int) + 1) = (k : Int) + 1 := IntWalk.i64_in _ (by omega)
       have mk := hS.out.mr.keep hS.out.bel
       have m0 := mk.m0
       have m1 := mk.m1
       have m2 := mk.m2
       have m3 := mk.m3
       have m4 := mk.m4
       have m5 := mk.m5
       clear mk
       have A1 := Hn (hS.out.keep (bl_alloc wr (.cells #[.int .i64 77, .int .i64 78, .int .u64 79, .int .u64 0, .int .u64 0, .int .u64 0] 123)))
       have A2 := Hn (cells_newT wr [.int .i64 77, .int .i64 78, .int .u64 79, .int .u64 0, .int .u64 0, .int .u64 0] 123)
       have A3 : Hid (∀ u ∈ ([.int .i64 77, .int .i64 78, .int .u64 79, .int .u64 0, .int .u64 0, .int .u64 0] : List Value), u.oneCell' = true) := Hn (by simp [Value.oneCell'])
       have A4 : Hid (n + k + 1 ≤ maxLen) := Hn (by have := HN.out; unfold maxLen; omega)
       have A5 : Hid ((n + k + 1) * 48 ≤ 140737488355328) := Hn (by have := HN.out; omega)
       have A6 : Hid (w0.heap.size ≤ (wr.alloc (.cells #[.int .i64 77, .int .i64 78, .int .u64 79, .int .u64 0, .int .u64 0, .int .u64 0] 123)).heap.size) := Hn (by have := A1.out.bel.size; omega)
       go_upto_region 15 with (at_builtin; refine wpList_tell rfl _ _ 38 rfl w0.heap.size 123 _ (.agg #[.int .i64 0, .int .i64 0, .int .u64 0, .int .u64 0, .int .u64 0, .int .u64 0]) 6 48 T1.out HI.out HZ0.out HZ1.out HZ2.out rfl (by decide) _ _ _ (by rfl) A1.out.gx.own ⟨wr.heap.size, 0, none⟩ [.int .i64 77, .int .i64 78, .int .u64 79, .int .u64 0, .int .u64 0, .int .u64 0] rfl rfl A2.out A3.out A4.out A5.out A6.out ?_; intro x2 w3 ho3 hg3 ht3; have NX := Hn (A1.out.appX ho3 hg3 ht3); clear ho3 hg3 ht3)
       clear A1 A2 A3 A6 hS m0 m1 m2 m3 m4 m5
       have B1 := Hn (NX.out.keep (bl_alloc w3 (.cells #[.int .i64 66, .int .i64 67, .int .u64 68, .int .u64 0, .int .u64 0, .int .u64 0] 123)))
       have B2 := Hn (cells_newT w3 [.int .i64 66, .int .i64 67, .int .u64 68, .int .u64 0, .int .u64 0, .int .u64 0] 123)
       have B3 : Hid (∀ u ∈ ([.int .i64 66, .int .i64 67, .int .u64 68, .int .u64 0, .int .u64 0, .int .u64 0] : List Value), u.oneCell' = true) := Hn (by simp [Value.oneCell'])
       have B6 : Hid (w0.heap.size ≤ (w3.alloc (.cells #[.int .i64 66, .int .i64 67, .int .u64 68, .int .u64 0, .int .u64 0, .int .u64 0] 123)).heap.size) := Hn (by have := B1.out.bel.size; omega)
       have q0 : w3.cell? ⟨b5, 0, none⟩ = some (.int .i64 66) := cell_of_row w3 b5 0 _ _ (0, 0) NX.out.h5
       have q1 : w3.cell? ⟨b5, 1, none⟩ = some (.int .i64 67) := cell_of_row w3 b5 1 _ _ (0, 0) NX.out.h5
       have q2 : w3.cell? ⟨b5, 2, none⟩ = some (.int .u64 68) := cell_of_row w3 b5 2 _ _ (0, 0) NX.out.h5
       have q3 : w3.cell? ⟨b5, 3, none⟩ = some (.int .u64 0) := cell_of_row w3 b5 3 _ _ (0, 0) NX.out.h5
       have q4 : w3.cell? ⟨b5, 4, none⟩ = some (.int .u64 0) := cell_of_row w3 b5 4 _ _ (0, 0) NX.out.h5
       have q5 : w3.cell? ⟨b5, 5, none⟩ = some (.int .u64 0) := cell_of_row w3 b5 5 _ _ (0, 0) NX.out.h5
       go_wp2_with (at_builtin; refine wpList_tell rfl _ _ 38 rfl w0.heap.size 123 _ (.agg #[.int .i64 0, .int .i64 0, .int .u64 0, .int .u64 0, .int .u64 0, .int .u64 0]) 6 48 T1.out HI.out HZ0.out HZ1.out HZ2.out rfl (by decide) _ _ _ (by rfl) B1.out.gy.own ⟨w3.heap.size, 0, none⟩ [.int .i64 66, .int .i64 67, .int .u64 68, .int .u64 0, .int .u64 0, .int .u64 0] rfl rfl B2.out B3.out A4.out A5.out B6.out ?_; intro y2 w4 ho4 hg4 ht4; have NY := Hn (B1.out.appY ho4 hg4 ht4); clear ho4 hg4 ht4)
       clear B1 B2 B3 B6 A4 A5 NX
       go_roundw
       case rel => exact ⟨k + 1, by omega, by go_num, NY⟩
       case measure => simp [intOf]; omega
      ·have ek : k = 40 := by omega
       have lqk : ¬ (k : Int) < 40 := by omega
       have L1 := hS
       rw [ek] at L1
       clear hS T1 HI HZ0 HZ1 HZ2
       obtain ⟨gxr, cxr, hx40⟩ := own_some40 L1.out.gx.own
       obtain ⟨gyr, cyr, hy40⟩ := own_some40 L1.out.gy.own
       subst hx40 hy40
       go_upto_region 17 with fail
       have NP : Hid (∀ y, (Op.equalIn 9999 41 (.agg #[.int .u64 79, .int .u64 0, .int .u64 0, .int .u64 0]) (.agg #[.int .u64 79, .int .u64 0, .int .u64 0, .int .u64 0])).run Tryz.prog y = .ok true y) := Hn (fun y => self9 ⟨79, 0, 0, 0⟩ y)
       have NR : Hid (∀ y, (Op.equalIn 9999 41 (.agg #[.int .u64 68, .int .u64 0, .int .u64 0, .int .u64 0]) (.agg #[.int .u64 68, .int .u64 0, .int .u64 0, .int .u64 0])).run Tryz.prog y = .ok true y) := Hn (fun y => self9 ⟨68, 0, 0, 0⟩ y)
       go_loopw [11] (fun iv z => ∃ s : Nat, s ≤ n + 40 ∧ iv = .int .i64 (s : Int) ∧ Hid (Lo w0 n 40 40 (.slice P1 n c1) (.slice (some ⟨gxr, 0, none⟩) (n + 40) cxr) (.slice P2 n c2) (.slice (some ⟨gyr, 0, none⟩) (n + 40) cyr) b5 z)) (fun s _ => n + 40 - (intOf s).toNat)
       case atStart => exact ⟨0, by omega, rfl, L1⟩
       case round =>
        clear L1
        obtain ⟨s, hs, rfl, hS⟩ := hrel
        by_cases hins : s < n + 40
        ·have s1 : (s : Int) < ((n + 40 : Nat) : Int) := by omega
         have s0 : (0 : Int) ≤ (s : Int) := by omega
         have w9s : IntKind.i64.wrap ((s : Int) + 1) = (s : Int) + 1 := IntWalk.i64_in _ (by have := HN.out; omega)
         have rx := own_rt hS.out.gx.own
         have ry := own_rt hS.out.gy.own
         have mk := hS.out.mr.keep hS.out.bel
         have h5 := hS.out.h5
         go_upto_region 19 with fail
         by_cases hsn : s < n
         ·have s2 : (s : Int) < (n : Int) := by omega
          obtain ⟨g1, rfl⟩ := HP1.out (by omega)
          obtain ⟨g2, rfl⟩ := HP2.out (by omega)
          have r1 := own_rt hS.out.gx.o0
          have r2 := own_rt hS.out.gy.o0
          refine ln19a _ gxr 0 gyr 0 b5 (n + 40) n cxr cyr c1 c2 s 77 78 66 67 ⟨79, 0, 0, 0⟩ ⟨68, 0, 0, 0⟩ g1 0 g2 0 _ _ _ _ _ _ _ _ _ _ _ _ _ _ _ _ _ _ _ _ _ _ _ _ _ _ _ _ _ _ _ _ _ _ _ _ _ _ _ _ _ _ _ _ _ _ _ _ _ _ _ _ _ _ _ _ _ _ _ _ _ _ _ _ _ _ _ _ _ _ _ _ _ _ _ _ _ _ _ _ _ _ _ _ _ wr s0 s1 s2 (rx.c0 s hins) (rx.c1 s hins) (rx.c2 s hins) (rx.c3 s hins) (rx.c4 s hins) (rx.c5 s hins) mk.m0 mk.m1 mk.m2 mk.m3 mk.m4 mk.m5 (ry.c0 s hins) (ry.c1 s hins) (ry.c2 s hins) (ry.c3 s hins) (ry.c4 s hins) (ry.c5 s hins) (cell_of_row wr b5 0 _ _ (0, 0) h5) (cell_of_row wr b5 1 _ _ (0, 0) h5) (cell_of_row wr b5 2 _ _ (0, 0) h5) (cell_of_row wr b5 3 _ _ (0, 0) h5) (cell_of_row wr b5 4 _ _ (0, 0) h5) (cell_of_row wr b5 5 _ _ (0, 0) h5) (r1.c0 s hsn) (r1.c1 s hsn) (r1.c2 s hsn) (r1.c3 s hsn) (r1.c4 s hsn) (r1.c5 s hsn) (r2.c0 s hsn) (r2.c1 s hsn) (r2.c2 s hsn) (r2.c3 s hsn) (r2.c4 s hsn) (r2.c5 s hsn) NP NR (Hn ?_)
          intro wz hb
          have NS := Hn (hS.out.keep hb)
          clear hb hS rx ry mk h5 r1 r2
          go_wp2_with fail
          go_roundw
          case rel => exact ⟨s + 1, by omega, by go_num, NS⟩
          case measure => simp [intOf]; omega
         ·have s2 : ¬ (s : Int) < (n : Int) := by omega
          refine ln19b _ gxr 0 gyr 0 b5 (n + 40) n cxr cyr c1 c2 s 77 78 66 67 ⟨79, 0, 0, 0⟩ ⟨68, 0, 0, 0⟩ P1 P2 _ _ _ _ _ _ _ _ _ _ _ _ _ _ _ _ _ _ _ _ _ _ _ _ _ _ _ _ _ _ _ _ _ _ _ _ _ _ _ _ _ _ _ _ _ _ _ _ _ _ _ _ _ _ _ _ _ _ _ _ _ _ _ _ _ _ _ _ _ _ _ _ _ _ _ _ _ _ _ _ _ _ _ _ _ wr s0 s1 s2 (rx.c0 s hins) (rx.c1 s hins) (rx.c2 s hins) (rx.c3 s hins) (rx.c4 s hins) (rx.c5 s hins) mk.m0 mk.m1 mk.m2 mk.m3 mk.m4 mk.m5 (ry.c0 s hins) (ry.c1 s hins) (ry.c2 s hins) (ry.c3 s hins) (ry.c4 s hins) (ry.c5 s hins) (cell_of_row wr b5 0 _ _ (0, 0) h5) (cell_of_row wr b5 1 _ _ (0, 0) h5) (cell_of_row wr b5 2 _ _ (0, 0) h5) (cell_of_row wr b5 3 _ _ (0, 0) h5) (cell_of_row wr b5 4 _ _ (0, 0) h5) (cell_of_row wr b5 5 _ _ (0, 0) h5) NP NR (Hn ?_)
          intro wz hb
          have NS := Hn (hS.out.keep hb)
          clear hb hS rx ry mk h5
          go_wp2_with fail
          go_roundw
          case rel => exact ⟨s + 1, by omega, by go_num, NS⟩
          case measure => simp [intOf]; omega
        ·have es : s = n + 40 := by omega
         have lqs : ¬ (s : Int) < ((n + 40 : Nat) : Int) := by omega
         have RB : Hid (Below w0.heap.size w0 wr) := Hn hS.out.bel
         clear hS
         go_wp2_with fail
         exact bodyPost_ret (v := .bool true) (by simp [results, Tryz.results38, go_sem]) rfl ⟨rfl, RB.out⟩
end Ci
end Go.Proofs.YtghcfcglakbkeaaGreatDoor
