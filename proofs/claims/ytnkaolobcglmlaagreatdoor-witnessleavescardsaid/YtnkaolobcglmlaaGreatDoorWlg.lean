import Derived.Test.YtnkaolobcglmlaaGreatDoorWlf
namespace Go.Proofs.YtnkaolobcglmlaaGreatDoor
open Go.RowKit
set_option linter.unusedVariables false
set_option linter.unusedSimpArgs false
open Cm (Wr Tm co bf Ls lf ins Eqm)
namespace Ci
set_option maxRecDepth 100000
set_option maxHeartbeats 8000000
def ud {α : Type} (f : Nat → α) (i : Nat) (v : α) : Nat → α := fun k => if k = i then v else f k
theorem ud_same {α : Type} (f : Nat → α) (i : Nat) (v : α) : ud f i v i = v := if_pos rfl
theorem ud_ne {α : Type} (f : Nat → α) {i k : Nat} (v : α) (h : k ≠ i) : ud f i v k = f k := if_neg h
def tyM (i : Nat) : TypeId := if i < 4 then 64 else 62
theorem tyM_ne (i : Nat) : tyM i ≠ 41 := by unfold tyM; split <;> decide
def arM (t r : Nat) (n : Nat → Nat) (p : Nat → Option Addr) (c : Nat → Nat) : Array Value := #[.pointer (some ⟨t, 0, none⟩), .pointer (some ⟨r, 0, none⟩), .slice (p 0) (n 0) (c 0), .slice (p 1) (n 1) (c 1), .slice (p 2) (n 2) (c 2), .slice (p 3) (n 3) (c 3), .slice (p 4) (n 4) (c 4), .slice (p 5) (n 5) (c 5), .slice (p 6) (n 6) (c 6), .slice (p 7) (n 7) (c 7)]
theorem arM_at (t r : Nat) (n : Nat → Nat) (p : Nat → Option Addr) (c : Nat → Nat) {i : Nat} (hi : i < 8) : (arM t r n p c)[2 + i]? = some (.slice (p i) (n i) (c i)) := by
 have : i = 0 ∨ i = 1 ∨ i = 2 ∨ i = 3 ∨ i = 4 ∨ i = 5 ∨ i = 6 ∨ i = 7 := by omega
 rcases this with rfl | rfl | rfl | rfl | rfl | rfl | rfl | rfl <;> rfl
theorem arM_set (t r : Nat) (n : Nat → Nat) (p : Nat → Option Addr) (c : Nat → Nat) {i : Nat} (hi : i < 8) (P : Option Addr) (m d : Nat) : (arM t r n p c).setIfInBounds (2 + i) (.slice P m d) = arM t r (ud n i m) (ud p i P) (ud c i d) := by
 have : i = 0 ∨ i = 1 ∨ i = 2 ∨ i = 3 ∨ i = 4 ∨ i = 5 ∨ i = 6 ∨ i = 7 := by omega
 rcases this with rfl | rfl | rfl | rfl | rfl | rfl | rfl | rfl <;> rfl
structure Md (b0 : Nat) (x : World) (mb t r : Nat) (n : Nat → Nat) (p : Nat → Option Addr) (c : Nat → Nat) (Z : Nat → List Int) : Prop where
 hm : x.heap[mb]? = some (.cells (arM t r n p c) 41 (0, 0))
 ow : ∀ i, i < 8 → x.ownsRow b0 (tyM i) 4 (.slice (p i) (n i) (c i)) (n i) (ssl (Z i))
 dj : ∀ i j, i < 8 → j < 8 → i ≠ j → ∀ k, (Value.slice (p i) (n i) (c i)).ownBlock = some k → (Value.slice (p j) (n j) (c j)).ownBlock ≠ some k
 bm : b0 ≤ mb
theorem Md.keep {b0 : Nat} {x y : World} {mb t r : Nat} {n : Nat → Nat} {p : Nat → Option Addr} {c : Nat → Nat} {Z : Nat → List Int} (h : Md b0 x mb t r n p c Z) (hb : Below x.heap.size x y) : Md b0 y mb t r n p c Z := ⟨(hb.block _ (Array.getElem?_eq_some_iff.1 h.hm).1).trans h.hm, fun i hi => own_keepT (h.ow i hi) hb, h.dj, h.bm⟩
structure Ok4 (mb b0 : Nat) (x y : World) : Prop where
 bl : Below b0 x y
 ot : ∀ (k : Nat) (cur : Array Value) (e : TypeId), x.heap[k]? = some (.cells cur e (0, 0)) → (e = 41 → k ≠ mb) → e ≠ 64 → e ≠ 62 → y.heap[k]? = some (.cells cur e (0, 0))
theorem Ok4.trans {mb b0 : Nat} {x y z : World} (h : Ok4 mb b0 x y) (k : Ok4 mb b0 y z) : Ok4 mb b0 x z := ⟨⟨k.bl.os.trans h.bl.os, k.bl.tape.trans h.bl.tape, k.bl.output.trans h.bl.output, Nat.le_trans h.bl.size k.bl.size, fun i hi => (k.bl.block i hi).trans (h.bl.block i hi)⟩, fun i cur e h1 h2 h3 h4 => k.ot i cur e (h.ot i cur e h1 h2 h3 h4) h2 h3 h4⟩
theorem Ok4.of {mb b0 : Nat} {x y : World} (h : Below x.heap.size x y) (hb : b0 ≤ x.heap.size) : Ok4 mb b0 x y := ⟨⟨h.os, h.tape, h.output, h.size, fun i hi => h.block i (Nat.lt_of_lt_of_le hi hb)⟩, fun k cur e hk _ _ _ => (h.block k (Array.getElem?_eq_some_iff.1 hk).1).trans hk⟩
theorem Md.put {b0 : Nat} {x y : World} {mb t r : Nat} {n : Nat → Nat} {p : Nat → Option Addr} {c : Nat → Nat} {Z : Nat → List Int} (h : Md b0 x mb t r n p c Z) {i : Nat} (hi : i < 8) {P4 : Option Addr} {c4 : Nat} {z : Int} (hf : Fy mb (.slice (p i) (n i) (c i)) mb x y) (hz : y.heap[mb]? = some (.cells ((arM t r n p c).setIfInBounds (2 + i) (.slice P4 (n i + 1) c4)) 41 (0, 0)) ∧ y.ownsRow b0 (tyM i) 4 (.slice P4 (n i + 1) c4) (n i + 1) (ssl (Z i) ++ [.int .u64 (lst z).x0, .int .u64 (lst z).x1, .int .u64 (lst z).x2, .int .u64 (lst z).x3])) (hn : ∀ k, (Value.slice P4 (n i + 1) c4).ownBlock = some k → (Value.slice (p i) (n i) (c i)).ownBlock = some k ∨ x.heap.size ≤ k) : Md b0 y mb t r (ud n i (n i + 1)) (ud p i P4) (ud c i c4) (ud Z i (Z i ++ [z])) ∧ Ok4 mb b0 x y := by
 have own : ∀ j, j < 8 → j ≠ i → y.ownsRow b0 (tyM j) 4 (.slice (p j) (n j) (c j)) (n j) (ssl (Z j)) := fun j hj hne => ⟨(h.ow j hj).1, by
  rcases (h.ow j hj).2 with h0 | ⟨g, d, cur, h1, h2, h3, h4⟩
  ·exact .inl h0
  ·refine .inr ⟨g, d, cur, h1, h2, ?_, h4⟩
   have gm : g ≠ mb := fun e => by
    subst e
    rw [h.hm] at h3
    simp only [Option.some.injEq, Obj.cells.injEq] at h3
    exact tyM_ne j h3.2.1.symm
   exact (hf.block g (Array.getElem?_eq_some_iff.1 h3).1 gm (h.dj j i hj hi hne g (by rw [h1]; rfl)) gm).trans h3⟩
 refine ⟨⟨by rw [← arM_set t r n p c hi]; exact hz.1, fun j hj => ?_, fun j k hj hk hne b hb => ?_, h.bm⟩, ⟨⟨hf.os, hf.tape, hf.output, hf.size, fun k hk => ?_⟩, fun k cur e hk h1 h2 h3 => ?_⟩⟩
 ·by_cases e : j = i
  ·subst e
   rw [ud_same, ud_same, ud_same, ud_same, ssl_app]
   exact hz.2
  ·rw [ud_ne _ _ e, ud_ne _ _ e, ud_ne _ _ e, ud_ne _ _ e]
   exact own j hj e
 ·by_cases ej : j = i
  ·subst ej
   rw [ud_same, ud_same, ud_same] at hb
   rw [ud_ne _ _ (Ne.symm hne), ud_ne _ _ (Ne.symm hne), ud_ne _ _ (Ne.symm hne)]
   rcases hn b hb with h' | h'
   ·exact h.dj j k hj hk hne b h'
   ·intro e; have := ((h.ow k hk).lt b e).2; omega
  ·rw [ud_ne _ _ ej, ud_ne _ _ ej, ud_ne _ _ ej] at hb
   by_cases ek : k = i
   ·subst ek
    rw [ud_same, ud_same, ud_same]
    intro e
    rcases hn b e with h' | h'
    ·exact h.dj j k hj hk hne b hb h'
    ·have := ((h.ow j hj).lt b hb).2; omega
   ·rw [ud_ne _ _ ek, ud_ne _ _ ek, ud_ne _ _ ek]
    exact h.dj j k hj hk hne b hb
 ·have hm := h.bm
  by_cases hx : k < x.heap.size
  ·exact hf.block k hx (by omega) (fun e => by have := ((h.ow i hi).lt k e).1; omega) (by omega)
  ·have := (Array.getElem?_eq_some_iff.1 h.hm).1; omega
 ·refine (hf.block k (Array.getElem?_eq_some_iff.1 hk).1 (fun e' => ?_) (fun e' => ?_) (fun e' => ?_)).trans hk
  ·subst e'
   rw [h.hm] at hk
   simp only [Option.some.injEq, Obj.cells.injEq] at hk
   exact h1 hk.2.1.symm rfl
  ·obtain ⟨cur2, q2⟩ := own_blk (h.ow i hi) e'
   rw [q2] at hk
   simp only [Option.some.injEq, Obj.cells.injEq] at hk
   have e2 := hk.2.1
   unfold tyM at e2
   split at e2
   ·exact h2 e2.symm
   ·exact h3 e2.symm
  ·subst e'
   rw [h.hm] at hk
   simp only [Option.some.injEq, Obj.cells.injEq] at hk
   exact h1 hk.2.1.symm rfl
theorem ud_le {n n' : Nat → Nat} {i M : Nat} (e : n' = ud n i (n i + 1)) (h : ∀ j, j < 8 → n j ≤ M) : ∀ j, j < 8 → n' j ≤ M + 1 := fun j hj => by
 rw [e]
 unfold ud
 by_cases q : j = i
 ·rw [if_pos q, ← q]; have := h j hj; omega
 ·rw [if_neg q]; have := h j hj; omega
def Bs3 (x : World) (B : Nat) (z : Int) (mb : Nat) (n : Nat → Nat) (p : Nat → Option Addr) (c : Nat → Nat) : Prop := x.heap[B]? = some (.cells #[.int .u64 (lst z).x0, .int .u64 (lst z).x1, .int .u64 (lst z).x2, .int .u64 (lst z).x3] 62 (0, 0)) ∧ B ≠ mb ∧ ∀ i, i < 8 → (Value.slice (p i) (n i) (c i)).ownBlock ≠ some B
theorem Bs3.keep {x y : World} {B mb : Nat} {z : Int} {n : Nat → Nat} {p : Nat → Option Addr} {c : Nat → Nat} (h : Bs3 x B z mb n p c) (hb : Below x.heap.size x y) : Bs3 y B z mb n p c := ⟨(hb.block _ (Array.getElem?_eq_some_iff.1 h.1).1).trans h.1, h.2⟩
theorem Bs3.at {x : World} {B mb : Nat} {z : Int} {n : Nat → Nat} {p : Nat → Option Addr} {c : Nat → Nat} (h : Bs3 x B z mb n p c) : x.cell? ⟨B, 0, none⟩ = some (.int .u64 (lst z).x0) ∧ x.cell? ⟨B, 1, none⟩ = some (.int .u64 (lst z).x1) ∧ x.cell? ⟨B, 2, none⟩ = some (.int .u64 (lst z).x2) ∧ x.cell? ⟨B, 3, none⟩ = some (.int .u64 (lst z).x3) :=
 ⟨cell_of_row x B 0 _ 62 (0, 0) h.1, cell_of_row x B 1 _ 62 (0, 0) h.1, cell_of_row x B 2 _ 62 (0, 0) h.1, cell_of_row x B 3 _ 62 (0, 0) h.1⟩
theorem stp {b0 : Nat} {x y : World} {mb t r : Nat} {n : Nat → Nat} {p : Nat → Option Addr} {c : Nat → Nat} {Z : Nat → List Int} (h : Md b0 x mb t r n p c Z) {i : Nat} (hi : i < 8) {P4 : Option Addr} {c4 : Nat} {z : Int} (hf : Fy mb (.slice (p i) (n i) (c i)) mb x y) (hz : y.heap[mb]? = some (.cells ((arM t r n p c).setIfInBounds (2 + i) (.slice P4 (n i + 1) c4)) 41 (0, 0)) ∧ y.ownsRow b0 (tyM i) 4 (.slice P4 (n i + 1) c4) (n i + 1) (ssl (Z i) ++ [.int .u64 (lst z).x0, .int .u64 (lst z).x1, .int .u64 (lst z).x2, .int .u64 (lst z).x3])) (hn : ∀ k, (Value.slice P4 (n i + 1) c4).ownBlock = some k → (Value.slice (p i) (n i) (c i)).ownBlock = some k ∨ x.heap.size ≤ k) :
  ∃ n' p' c' Z', Md b0 y mb t r n' p' c' Z' ∧ Ok4 mb b0 x y ∧ (n' = ud n i (n i + 1)) ∧ ∀ B z, Bs3 x B z mb n p c → Bs3 y B z mb n' p' c' := by
 obtain ⟨h1, h2⟩ := h.put hi hf hz hn
 refine ⟨_, _, _, _, h1, h2, rfl, fun B z hB => ⟨(hf.block B (Array.getElem?_eq_some_iff.1 hB.1).1 hB.2.1 (hB.2.2 i hi) hB.2.1).trans hB.1, hB.2.1, fun j hj e => ?_⟩⟩
 by_cases ej : j = i
 ·subst ej
  rw [ud_same, ud_same, ud_same] at e
  rcases hn B e with h' | h'
  ·exact hB.2.2 j hj h'
  ·have := (Array.getElem?_eq_some_iff.1 hB.1).1; omega
 ·rw [ud_ne _ _ ej, ud_ne _ _ ej, ud_ne _ _ ej] at e
  exact hB.2.2 j hj e
def MdP (b0 : Nat) (w : World) (mb t r : Nat) (n : Nat → Nat) (w' : World) : Prop := ∃ n' p' c' Z', Md b0 w' mb t r n' p' c' Z' ∧ Ok4 mb b0 w w' ∧ ∀ i, i < 8 → n' i = if i = 3 ∨ i = 7 then n i else n i + 1
theorem mput_any {b0 : Nat} {w : World} {mb t r : Nat} {n : Nat → Nat} {p : Nat → Option Addr} {c : Nat → Nat} {Z : Nat → List Int} (h : Md b0 w mb t r n p c Z) (hn : ∀ i, i < 8 → n i ≤ 1048570) (hb : b0 ≤ w.heap.size) (l q : Int) : Calls Tryz.prog 15 #[.pointer (some ⟨mb, 0, none⟩), .agg #[.int .u64 (lst l).x0, .int .u64 (lst l).x1, .int .u64 (lst l).x2, .int .u64 (lst l).x3], .agg #[.int .u64 (lst q).x0, .int .u64 (lst q).x1, .int .u64 (lst q).x2, .int .u64 (lst q).x3]] w fun e w' => e = .returned (.tuple #[]) ∧ MdP b0 w mb t r n w' := by
 have hlt := (Array.getElem?_eq_some_iff.1 h.hm).1
 have BA := hidden (bl_trans (bl_alloc w (.cells #[.int .u64 (lst l).x0, .int .u64 (lst l).x1, .int .u64 (lst l).x2, .int .u64 (lst l).x3] 62)) (bl_alloc _ (.cells #[.int .u64 (lst q).x0, .int .u64 (lst q).x1, .int .u64 (lst q).x2, .int .u64 (lst q).x3] 62)))
 have X0 : Hid (Bs3 ((w.alloc (.cells #[.int .u64 (lst l).x0, .int .u64 (lst l).x1, .int .u64 (lst l).x2, .int .u64 (lst l).x3] 62)).alloc (.cells #[.int .u64 (lst q).x0, .int .u64 (lst q).x1, .int .u64 (lst q).x2, .int .u64 (lst q).x3] 62)) w.heap.size l mb n p c ∧ Bs3 ((w.alloc (.cells #[.int .u64 (lst l).x0, .int .u64 (lst l).x1, .int .u64 (lst l).x2, .int .u64 (lst l).x3] 62)).alloc (.cells #[.int .u64 (lst q).x0, .int .u64 (lst q).x1, .int .u64 (lst q).x2, .int .u64 (lst q).x3] 62)) (w.heap.size + 1) q mb n p c) := hidden ⟨⟨by simp only [World.alloc, Array.getElem?_push, Array.size_push]; (repeat first | rw [if_pos trivial] | rw [if_pos rfl] | rw [if_neg (by omega)]), by omega, fun i hi e => by have := ((h.ow i hi).lt _ e).2; omega⟩, ⟨by simp only [World.alloc, Array.getElem?_push, Array.size_push]; (repeat first | rw [if_pos trivial] | rw [if_pos rfl] | rw [if_neg (by omega)]), by omega, fun i hi e => by have := ((h.ow i hi).lt _ e).2; omega⟩⟩
 have HL := hidden (fun i hi k hk => ((h.ow i hi).lt k hk).2)
 have M0 := hidden (h.keep BA.out)
 have HN := hidden hn
 have HB := hidden hb
 have CM := hidden (fun y => rMul_any l q y)
 clear h hn hb
 go_enter Tryz.func15, Tryz.ntmps15
 go_upto_region 1 with fail
 generalize ((w.alloc (.cells #[.int .u64 (lst l).x0, .int .u64 (lst l).x1, .int .u64 (lst l).x2, .int .u64 (lst l).x3] 62)).alloc (.cells #[.int .u64 (lst q).x0, .int .u64 (lst q).x1, .int .u64 (lst q).x2, .int .u64 (lst q).x3] 62)) = w1 at *
 obtain ⟨g0, g1, g2, g3⟩ := X0.out.1.at
 obtain ⟨k0, k1, k2, k3⟩ := X0.out.2.at
 simp only [E4.v] at CM
 go_upto_region 2 with (go_at_call 35; refine (CM.out _).mono ?_; rintro e w2 ⟨rfl, hb⟩; have B2 := hidden hb; clear hb)
 clear CM g0 g1 g2 g3 k0 k1 k2 k3
 have BN := bl_alloc w2 (.cells #[.int .u64 (lst (l * q)).x0, .int .u64 (lst (l * q)).x1, .int .u64 (lst (l * q)).x2, .int .u64 (lst (l * q)).x3] 62)
 have zz : w.heap.size ≤ w2.heap.size := Nat.le_trans BA.out.size B2.out.size
 have M1 := hidden ((M0.out.keep B2.out).keep BN)
 have X4 := hidden ((X0.out.1.keep B2.out).keep BN)
 have X5 := hidden ((X0.out.2.keep B2.out).keep BN)
 have X6 : Hid (Bs3 (w2.alloc (.cells #[.int .u64 (lst (l * q)).x0, .int .u64 (lst (l * q)).x1, .int .u64 (lst (l * q)).x2, .int .u64 (lst (l * q)).x3] 62)) w2.heap.size (l * q) mb n p c) := hidden ⟨heap_alloc_new w2 _, by omega, fun i hi e => by have := HL.out i hi _ e; omega⟩
 have K1 := hidden (Ok4.of (mb := mb) (bl_trans (bl_trans BA.out B2.out) BN) HB.out)
 have SZ : Hid (b0 ≤ (w2.alloc (.cells #[.int .u64 (lst (l * q)).x0, .int .u64 (lst (l * q)).x1, .int .u64 (lst (l * q)).x2, .int .u64 (lst (l * q)).x3] 62)).heap.size) := hidden (Nat.le_trans HB.out (bl_trans (bl_trans BA.out B2.out) BN).size)
 clear M0 X0 BN B2 BA HL zz
 generalize w2.alloc (.cells #[.int .u64 (lst (l * q)).x0, .int .u64 (lst (l * q)).x1, .int .u64 (lst (l * q)).x2, .int .u64 (lst (l * q)).x3] 62) = v1 at *
 generalize w2.heap.size = ob at *
 obtain ⟨a0, a1, a2, a3⟩ := X4.out.at
 refine pu2 _ mb w.heap.size b0 (n 4) (c 4) (p 4) (arM t r n p c) (lst l) (ssl (Z 4)) _ _ _ _ _ _ _ _ _ _ _ _ _ _ _ _ _ _ _ _ _ _ _ _ _ _ _ _ _ _ _ _ _ _ _ _ _ _ _ _ _ _ _ _ _ _ _ _ _ _ _ _ _ _ _ _ _ _ _ _ _ _ _ _ _ _ _ _ _ _ _ _ _ _ _ _ _ _ _ _ v1 X4.out.2.1 (X4.out.2.2 4 (by omega)) a0 a1 a2 a3 M1.out.hm (hidden (arM_at t r n p c (i := 4) (by omega))) (M1.out.ow 4 (by omega)) (hidden (by have := HN.out 4 (by omega); omega)) SZ (hidden ?_)
 intro v2 Q4 d4 tb hf hz hw
 clear a0 a1 a2 a3
 obtain ⟨n1, p1, c1, Z1, mm, kk, en, bb⟩ := stp M1.out (i := 4) (z := l) (by omega) hf hz hw
 have SZ2 : Hid (b0 ≤ v2.heap.size) := hidden (Nat.le_trans SZ.out hf.size)
 have E1 := hidden en
 have N1 := hidden (ud_le en HN.out)
 replace M1 := hidden mm
 replace K1 := hidden (K1.out.trans kk)
 replace X4 := hidden (bb _ _ X4.out)
 replace X5 := hidden (bb _ _ X5.out)
 replace X6 := hidden (bb _ _ X6.out)
 clear SZ
 have SZ := SZ2
 clear SZ2 hf hz hw mm kk en bb
 go_upto_region 3 with fail
 obtain ⟨a0, a1, a2, a3⟩ := X5.out.at
 refine pu3 _ mb (w.heap.size + 1) b0 (n1 5) (c1 5) (p1 5) (arM t r n1 p1 c1) (lst q) (ssl (Z1 5)) _ _ _ _ _ _ _ _ _ _ _ _ _ _ _ _ _ _ _ _ _ _ _ _ _ _ _ _ _ _ _ _ _ _ _ _ _ _ _ _ _ _ _ _ _ _ _ _ _ _ _ _ _ _ _ _ _ _ _ _ _ _ _ _ _ _ _ _ _ _ _ _ _ _ _ _ _ _ _ _ v2 X5.out.2.1 (X5.out.2.2 5 (by omega)) a0 a1 a2 a3 M1.out.hm (hidden (arM_at t r n1 p1 c1 (i := 5) (by omega))) (M1.out.ow 5 (by omega)) (hidden (by have := N1.out 5 (by omega); omega)) SZ (hidden ?_)
 intro v3 Q4 d4 tb hf hz hw
 clear a0 a1 a2 a3
 obtain ⟨n2, p2, c2, Z2, mm, kk, en, bb⟩ := stp M1.out (i := 5) (z := q) (by omega) hf hz hw
 have SZ2 : Hid (b0 ≤ v3.heap.size) := hidden (Nat.le_trans SZ.out hf.size)
 have E2 := hidden en
 have N2 := hidden (ud_le en N1.out)
 replace M1 := hidden mm
 replace K1 := hidden (K1.out.trans kk)
 replace X4 := hidden (bb _ _ X4.out)
 replace X5 := hidden (bb _ _ X5.out)
 replace X6 := hidden (bb _ _ X6.out)
 clear SZ
 have SZ := SZ2
 clear SZ2 hf hz hw mm kk en bb
 go_upto_region 4 with fail
 obtain ⟨a0, a1, a2, a3⟩ := X6.out.at
 refine pu4 _ mb ob b0 (n2 6) (c2 6) (p2 6) (arM t r n2 p2 c2) (lst (l * q)) (ssl (Z2 6)) _ _ _ _ _ _ _ _ _ _ _ _ _ _ _ _ _ _ _ _ _ _ _ _ _ _ _ _ _ _ _ _ _ _ _ _ _ _ _ _ _ _ _ _ _ _ _ _ _ _ _ _ _ _ _ _ _ _ _ _ _ _ _ _ _ _ _ _ _ _ _ _ _ _ _ _ _ _ _ _ v3 X6.out.2.1 (X6.out.2.2 6 (by omega)) a0 a1 a2 a3 M1.out.hm (hidden (arM_at t r n2 p2 c2 (i := 6) (by omega))) (M1.out.ow 6 (by omega)) (hidden (by have := N2.out 6 (by omega); omega)) SZ (hidden ?_)
 intro v4 Q4 d4 tb hf hz hw
 clear a0 a1 a2 a3
 obtain ⟨n3, p3, c3, Z3, mm, kk, en, bb⟩ := stp M1.out (i := 6) (z := (l * q)) (by omega) hf hz hw
 have SZ2 : Hid (b0 ≤ v4.heap.size) := hidden (Nat.le_trans SZ.out hf.size)
 have E3 := hidden en
 have N3 := hidden (ud_le en N2.out)
 replace M1 := hidden mm
 replace K1 := hidden (K1.out.trans kk)
 replace X4 := hidden (bb _ _ X4.out)
 replace X5 := hidden (bb _ _ X5.out)
 replace X6 := hidden (bb _ _ X6.out)
 clear SZ
 have SZ := SZ2
 clear SZ2 hf hz hw mm kk en bb
 go_upto_region 5 with fail
 obtain ⟨a0, a1, a2, a3⟩ := X4.out.at
 refine pu5 _ mb w.heap.size b0 (n3 0) (c3 0) (p3 0) (arM t r n3 p3 c3) (lst l) (ssl (Z3 0)) _ _ _ _ _ _ _ _ _ _ _ _ _ _ _ _ _ _ _ _ _ _ _ _ _ _ _ _ _ _ _ _ _ _ _ _ _ _ _ _ _ _ _ _ _ _ _ _ _ _ _ _ _ _ _ _ _ _ _ _ _ _ _ _ _ _ _ _ _ _ _ _ _ _ _ _ _ _ _ _ v4 X4.out.2.1 (X4.out.2.2 0 (by omega)) a0 a1 a2 a3 M1.out.hm (hidden (arM_at t r n3 p3 c3 (i := 0) (by omega))) (M1.out.ow 0 (by omega)) (hidden (by have := N3.out 0 (by omega); omega)) SZ (hidden ?_)
 intro v5 Q4 d4 tb hf hz hw
 clear a0 a1 a2 a3
 obtain ⟨n4, p4, c4, Z4, mm, kk, en, bb⟩ := stp M1.out (i := 0) (z := l) (by omega) hf hz hw
 have SZ2 : Hid (b0 ≤ v5.heap.size) := hidden (Nat.le_trans SZ.out hf.size)
 have E4 := hidden en
 have N4 := hidden (ud_le en N3.out)
 replace M1 := hidden mm
 replace K1 := hidden (K1.out.trans kk)
 replace X4 := hidden (bb _ _ X4.out)
 replace X5 := hidden (bb _ _ X5.out)
 replace X6 := hidden (bb _ _ X6.out)
 clear SZ
 have SZ := SZ2
 clear SZ2 hf hz hw mm kk en bb
 go_upto_region 6 with fail
 obtain ⟨a0, a1, a2, a3⟩ := X5.out.at
 refine pu6 _ mb (w.heap.size + 1) b0 (n4 1) (c4 1) (p4 1) (arM t r n4 p4 c4) (lst q) (ssl (Z4 1)) _ _ _ _ _ _ _ _ _ _ _ _ _ _ _ _ _ _ _ _ _ _ _ _ _ _ _ _ _ _ _ _ _ _ _ _ _ _ _ _ _ _ _ _ _ _ _ _ _ _ _ _ _ _ _ _ _ _ _ _ _ _ _ _ _ _ _ _ _ _ _ _ _ _ _ _ _ _ _ _ v5 X5.out.2.1 (X5.out.2.2 1 (by omega)) a0 a1 a2 a3 M1.out.hm (hidden (arM_at t r n4 p4 c4 (i := 1) (by omega))) (M1.out.ow 1 (by omega)) (hidden (by have := N4.out 1 (by omega); omega)) SZ (hidden ?_)
 intro v6 Q4 d4 tb hf hz hw
 clear a0 a1 a2 a3
 obtain ⟨n5, p5, c5, Z5, mm, kk, en, bb⟩ := stp M1.out (i := 1) (z := q) (by omega) hf hz hw
 have SZ2 : Hid (b0 ≤ v6.heap.size) := hidden (Nat.le_trans SZ.out hf.size)
 have E5 := hidden en
 have N5 := hidden (ud_le en N4.out)
 replace M1 := hidden mm
 replace K1 := hidden (K1.out.trans kk)
 replace X4 := hidden (bb _ _ X4.out)
 replace X5 := hidden (bb _ _ X5.out)
 replace X6 := hidden (bb _ _ X6.out)
 clear SZ
 have SZ := SZ2
 clear SZ2 hf hz hw mm kk en bb
 go_upto_region 7 with fail
 obtain ⟨a0, a1, a2, a3⟩ := X6.out.at
 refine pu7 _ mb ob b0 (n5 2) (c5 2) (p5 2) (arM t r n5 p5 c5) (lst (l * q)) (ssl (Z5 2)) _ _ _ _ _ _ _ _ _ _ _ _ _ _ _ _ _ _ _ _ _ _ _ _ _ _ _ _ _ _ _ _ _ _ _ _ _ _ _ _ _ _ _ _ _ _ _ _ _ _ _ _ _ _ _ _ _ _ _ _ _ _ _ _ _ _ _ _ _ _ _ _ _ _ _ _ _ _ _ _ v6 X6.out.2.1 (X6.out.2.2 2 (by omega)) a0 a1 a2 a3 M1.out.hm (hidden (arM_at t r n5 p5 c5 (i := 2) (by omega))) (M1.out.ow 2 (by omega)) (hidden (by have := N5.out 2 (by omega); omega)) SZ (hidden ?_)
 intro v7 Q4 d4 tb hf hz hw
 clear a0 a1 a2 a3
 obtain ⟨n6, p6, c6, Z6, mm, kk, en, bb⟩ := stp M1.out (i := 2) (z := (l * q)) (by omega) hf hz hw
 have SZ2 : Hid (b0 ≤ v7.heap.size) := hidden (Nat.le_trans SZ.out hf.size)
 have E6 := hidden en
 have N6 := hidden (ud_le en N5.out)
 replace M1 := hidden mm
 replace K1 := hidden (K1.out.trans kk)
 replace X4 := hidden (bb _ _ X4.out)
 replace X5 := hidden (bb _ _ X5.out)
 replace X6 := hidden (bb _ _ X6.out)
 clear SZ
 have SZ := SZ2
 clear SZ2 hf hz hw mm kk en bb
 have FN : Hid (MdP b0 w mb t r n v7) := hidden ⟨_, _, _, _, M1.out, K1.out, fun i hi => by
  have : i = 0 ∨ i = 1 ∨ i = 2 ∨ i = 3 ∨ i = 4 ∨ i = 5 ∨ i = 6 ∨ i = 7 := by omega
  rcases this with rfl | rfl | rfl | rfl | rfl | rfl | rfl | rfl <;> simp [E6.out, E5.out, E4.out, E3.out, E2.out, E1.out, ud]⟩
 clear M1 K1 X4 X5 X6 SZ
 go_wp2_with fail
 exact bodyPost_end (v := .tuple #[]) (by simp [results, Tryz.results15, go_sem]) rfl ⟨rfl, FN.out⟩
end Ci
end Go.Proofs.YtnkaolobcglmlaaGreatDoor
