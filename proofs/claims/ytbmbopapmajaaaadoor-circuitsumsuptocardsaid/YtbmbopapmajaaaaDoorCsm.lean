import Derived.Test.YtbmbopapmajaaaaDoorCsk
import Derived.Test.YtbmbopapmajaaaaDoorCxa
namespace Go.Proofs.YtbmbopapmajaaaaDoor
open Go.RowKit
set_option linter.unusedVariables false
set_option linter.unusedSimpArgs false
open Cm (Wr Tm co bf Ls lf ins Eqm)
namespace Ci
open Xo
set_option maxRecDepth 100000
set_option maxHeartbeats 4000000

theorem glN_sc (n : Nat) (f : Nat → Trm) : glN n f = sc (-1) (glL n f) := by
  simp [glN, glL, sc, List.map_map, Function.comp_def, Int.mul_neg]
theorem glM_sc (k : E4) (n : Nat) (f : Nat → Trm) : glM k n f = sc k.n (glL n f) := by
  simp [glM, glL, sc, List.map_map, Function.comp_def, Int.mul_comm]
theorem sub_is (A : List Tm) (n : Nat) (f : Nat → Trm) : lf Sm.L (A ++ glN n f) = lf Sm.L (A ++ lf Sm.L (sc (-1) (glL n f))) := Cm.lf_congr L0 (fun q => by
  rw [Cm.co_app, Cm.co_app, glN_sc, Int.add_emod, ← Cm.lf_eqm (sc (-1) (glL n f)) q, ← Int.add_emod])
theorem const_is (k : E4) : lf Sm.L (glM k 1 oneT) = lf Sm.L [((1, 0), k.n)] := by
  have h1 : (lst 1).n = 1 := by rw [lst_n]; decide
  simp [glM, oneT, List.range_succ, h1]
theorem lf_len (X : List Tm) : (lf Sm.L X).length ≤ X.length := by
  have := fold_len Sm.L X []
  unfold lf
  simpa using this
theorem sc_length (kn : Int) (X : List Tm) : (sc kn X).length = X.length := sc_len kn X
/-- lists that were answered one after another: a sum, where it lies, its room -/
abbrev Z3 := List Tm × Option Addr × Nat
def zv (z : Z3) : Value := .slice z.2.1 z.1.length z.2.2
structure Ac (T : TypeId) (w0 : World) (Zs : List Z3) (w : World) : Prop where
  bel : Below w0.heap.size w0 w
  rows : ∀ (i : Nat) (z : Z3), Zs[i]? = some z → w.ownsRow w0.heap.size T 6 (zv z) z.1.length (tls z.1)
  dj : ∀ (i j : Nat) (y z : Z3), Zs[i]? = some y → Zs[j]? = some z → i ≠ j → Dj (zv y) (zv z)
theorem Ac.none (T : TypeId) {w0 w : World} (h : Below w0.heap.size w0 w) : Ac T w0 [] w := ⟨h, fun i z h => by simp at h, fun i j y z h => by simp at h⟩
theorem Ac.keep {T : TypeId} {w0 w w' : World} {Zs : List Z3} (h : Ac T w0 Zs w) (hb : Below w.heap.size w w') : Ac T w0 Zs w' := ⟨bl_trans h.bel hb, fun i z hz => own_keepT (h.rows i z hz) hb, h.dj⟩
theorem Ac.next {T : TypeId} {w0 w w' : World} {Zs : List Z3} (h : Ac T w0 Zs w) {X : List Tm} {P : Option Addr} {c : Nat} (ho : w'.ownsRow w.heap.size T 6 (.slice P X.length c) X.length (tls X)) (hb : Below w.heap.size w w') : Ac T w0 (Zs ++ [(X, P, c)]) w' := by
  have hnew : ∀ (i : Nat) (z : Z3), Zs[i]? = some z → Dj (.slice P X.length c) (zv z) := fun i z hz k hk e => by
    have a1 := (ho.lt k hk).1
    have a2 := ((h.rows i z hz).lt k e).2
    omega
  refine ⟨bl_trans h.bel hb, fun i z hz => ?_, fun i j y z hy hz hij => ?_⟩
  · rcases Nat.lt_or_ge i Zs.length with hi | hi
    · rw [List.getElem?_append_left hi] at hz
      exact own_keepT (h.rows i z hz) hb
    · rw [List.getElem?_append_right hi] at hz
      have h0 : i - Zs.length = 0 := by have := (List.getElem?_eq_some_iff.1 hz).1; simp at this; omega
      rw [h0] at hz
      simp only [List.getElem?_cons_zero, Option.some.injEq] at hz
      subst hz
      exact own_monoT ho h.bel.size
  · have lst1 : ∀ (i : Nat) (z : Z3), (Zs ++ [(X, P, c)])[i]? = some z → (i < Zs.length ∧ Zs[i]? = some z) ∨ (i = Zs.length ∧ z = (X, P, c)) := fun i z hz => by
      rcases Nat.lt_or_ge i Zs.length with hi | hi
      · rw [List.getElem?_append_left hi] at hz
        exact .inl ⟨hi, hz⟩
      · rw [List.getElem?_append_right hi] at hz
        have h0 : i - Zs.length = 0 := by have := (List.getElem?_eq_some_iff.1 hz).1; simp at this; omega
        rw [h0] at hz
        simp only [List.getElem?_cons_zero, Option.some.injEq] at hz
        exact .inr ⟨by omega, hz.symm⟩
    rcases lst1 i y hy with ⟨h1, h2⟩ | ⟨h1, h2⟩ <;> rcases lst1 j z hz with ⟨h3, h4⟩ | ⟨h3, h4⟩
    · exact h.dj i j y z h2 h4 hij
    · subst h4
      exact (hnew i y h2).symm
    · subst h2
      exact hnew j z h4
    · omega
theorem own_new7 {base : Nat} (w : World) (T : TypeId) (cs : List Value) (h : cs.length = 7) (hb : base ≤ w.heap.size) : (w.alloc (.cells cs.toArray T)).ownsRow base T 1 (.slice (some ⟨w.heap.size, 0, none⟩) 7 7) 7 cs :=
  ⟨by omega, .inr ⟨w.heap.size, 7, cs.toArray, rfl, hb, heap_alloc_new w _, Nat.le_refl _, by unfold maxLen; omega, by simp [h], by rw [show cs.toArray.toList = cs from rfl, Nat.mul_one, ← h, List.take_length]⟩⟩
/-- an answer, told with its shape -/
def Lz (T : TypeId) (y : World) (X : List Tm) (e : Ending) (w' : World) : Prop := ∃ P c, e = .returned (.slice P X.length c) ∧ w'.ownsRow y.heap.size T 6 (.slice P X.length c) X.length (tls X) ∧ Below y.heap.size y w'
theorem lq_z {y : World} {X : List Tm} {e : Ending} {w' : World} (h : ∃ v, e = .returned v ∧ Lq y X v w') : Lz 49 y X e w' := by
  obtain ⟨v, he, ho, hb, _⟩ := h
  obtain ⟨P, c, rfl, _⟩ := own_shT ho
  exact ⟨P, c, he, ho, hb⟩
theorem dl_z {y : World} {X : List Tm} {e : Ending} {w' : World} (h : ∃ v, e = .returned v ∧ Dl y X v w') : Lz 52 y X e w' := by
  obtain ⟨v, he, ho, hb⟩ := h
  obtain ⟨P, c, rfl, _⟩ := own_shT ho
  exact ⟨P, c, he, ho, hb⟩
theorem build7P_run (p0 p1 p2 p3 p4 p5 p6 : Option Addr) (n0 n1 n2 n3 n4 n5 n6 c0 c1 c2 c3 c4 c5 c6 : Nat) (w : World) : (Instr.buildSlice 36 7 #[(0, .slice p0 n0 c0), (1, .slice p1 n1 c1), (2, .slice p2 n2 c2), (3, .slice p3 n3 c3), (4, .slice p4 n4 c4), (5, .slice p5 n5 c5), (6, .slice p6 n6 c6)]).run Tryd.prog w = .ok (.slice (some ⟨w.heap.size, 0, none⟩) 7 7) (w.alloc (.cells #[.slice p0 n0 c0, .slice p1 n1 c1, .slice p2 n2 c2, .slice p3 n3 c3, .slice p4 n4 c4, .slice p5 n5 c5, .slice p6 n6 c6] 23)) := by kernel_rfl
theorem build7P {w : World} {o : Oper} {a : Act} {K : Act → World → Prop} {Q : Exit → Act → World → Prop} (x0 x1 x2 x3 x4 x5 x6 : Operand) (ho : o.op = .buildSlice 36 7 #[(0, x0), (1, x1), (2, x2), (3, x3), (4, x4), (5, x5), (6, x6)]) (p0 p1 p2 p3 p4 p5 p6 : Option Addr) (n0 n1 n2 n3 n4 n5 n6 c0 c1 c2 c3 c4 c5 c6 : Nat) (h0 : a.eval x0 = .slice p0 n0 c0) (h1 : a.eval x1 = .slice p1 n1 c1) (h2 : a.eval x2 = .slice p2 n2 c2) (h3 : a.eval x3 = .slice p3 n3 c3) (h4 : a.eval x4 = .slice p4 n4 c4) (h5 : a.eval x5 = .slice p5 n5 c5) (h6 : a.eval x6 = .slice p6 n6 c6)
    (h : ∀ (tb : Nat) (wq : World), tb = w.heap.size → wq = w.alloc (.cells #[.slice p0 n0 c0, .slice p1 n1 c1, .slice p2 n2 c2, .slice p3 n3 c3, .slice p4 n4 c4, .slice p5 n5 c5, .slice p6 n6 c6] 23) → K (a.put o.dst (.slice (some ⟨tb, 0, none⟩) 7 7)) wq) : o.wp Tryd.prog a w K Q := by
  have hr := build7P_run p0 p1 p2 p3 p4 p5 p6 n0 n1 n2 n3 n4 n5 n6 c0 c1 c2 c3 c4 c5 c6 w
  unfold Oper.wp execOp
  simp only [ho, Sem.run_bind, Sem.run_pure, Result.andThen_ok, List.map_toArray, List.map_cons, List.map_nil, h0, h1, h2, h3, h4, h5, h6, hr]
  exact h _ _ rfl rfl
theorem build7R_run (p0 p1 p2 p3 p4 p5 p6 : Option Addr) (n0 n1 n2 n3 n4 n5 n6 c0 c1 c2 c3 c4 c5 c6 : Nat) (w : World) : (Instr.buildSlice 45 7 #[(0, .slice p0 n0 c0), (1, .slice p1 n1 c1), (2, .slice p2 n2 c2), (3, .slice p3 n3 c3), (4, .slice p4 n4 c4), (5, .slice p5 n5 c5), (6, .slice p6 n6 c6)]).run Tryd.prog w = .ok (.slice (some ⟨w.heap.size, 0, none⟩) 7 7) (w.alloc (.cells #[.slice p0 n0 c0, .slice p1 n1 c1, .slice p2 n2 c2, .slice p3 n3 c3, .slice p4 n4 c4, .slice p5 n5 c5, .slice p6 n6 c6] 31)) := by kernel_rfl
theorem build7R {w : World} {o : Oper} {a : Act} {K : Act → World → Prop} {Q : Exit → Act → World → Prop} (x0 x1 x2 x3 x4 x5 x6 : Operand) (ho : o.op = .buildSlice 45 7 #[(0, x0), (1, x1), (2, x2), (3, x3), (4, x4), (5, x5), (6, x6)]) (p0 p1 p2 p3 p4 p5 p6 : Option Addr) (n0 n1 n2 n3 n4 n5 n6 c0 c1 c2 c3 c4 c5 c6 : Nat) (h0 : a.eval x0 = .slice p0 n0 c0) (h1 : a.eval x1 = .slice p1 n1 c1) (h2 : a.eval x2 = .slice p2 n2 c2) (h3 : a.eval x3 = .slice p3 n3 c3) (h4 : a.eval x4 = .slice p4 n4 c4) (h5 : a.eval x5 = .slice p5 n5 c5) (h6 : a.eval x6 = .slice p6 n6 c6)
    (h : ∀ (tb : Nat) (wq : World), tb = w.heap.size → wq = w.alloc (.cells #[.slice p0 n0 c0, .slice p1 n1 c1, .slice p2 n2 c2, .slice p3 n3 c3, .slice p4 n4 c4, .slice p5 n5 c5, .slice p6 n6 c6] 31) → K (a.put o.dst (.slice (some ⟨tb, 0, none⟩) 7 7)) wq) : o.wp Tryd.prog a w K Q := by
  have hr := build7R_run p0 p1 p2 p3 p4 p5 p6 n0 n1 n2 n3 n4 n5 n6 c0 c1 c2 c3 c4 c5 c6 w
  unfold Oper.wp execOp
  simp only [ho, Sem.run_bind, Sem.run_pure, Result.andThen_ok, List.map_toArray, List.map_cons, List.map_nil, h0, h1, h2, h3, h4, h5, h6, hr]
  exact h _ _ rfl rfl

theorem one7 {vs : List Value} (h : ∀ u ∈ vs, ∃ P n c, u = .slice P n c) : ∀ u ∈ vs, u.oneCell' = true := fun u hu => by
  obtain ⟨P, n, c, rfl⟩ := h u hu
  rfl
end Ci
end Go.Proofs.YtbmbopapmajaaaaDoor
