import Derived.Test.YtghcfcglakbkeaaGreatDoorCmj
namespace Go.Proofs.YtghcfcglakbkeaaGreatDoor
open Go.RowKit
set_option linter.unusedVariables false
set_option linter.unusedSimpArgs false
open Cm (Wr Tm co bf Ls lf ins Eqm)
namespace Ci
set_option maxRecDepth 100000
set_option maxHeartbeats 4000000
theorem below_other {w w1 w2 : World} (hb : Below w.heap.size w w1) {b o : Nat} {u : Value} (h : w1.grownBy w2 (some b)) (hl : w.heap.size ≤ b) : Below w.heap.size w w2 := hb.grown h hb.size (fun k hk => by obtain rfl := Option.some.inj hk; exact hl)
theorem Sy.far {base : Nat} {w : World} {s m Kg : Nat} {v : Value} {vs : List Value} {Q : List (List Tm)} (h : Sy base w s m Kg v vs Q) {w' : World} {b : Nat} (hs : w.heap.size ≤ b) {w1 : World} (h1 : Sy base w1 s m Kg v vs Q) (hb : Below w.heap.size w w1) (hg : w1.grownBy w' (some b)) : Sy base w' s m Kg v vs Q := by
 have hb2 := below_other (o := 0) (u := .bool true) hb hg hs
 exact h.keep hb2
theorem bl_cell {n : Nat} {w w' : World} (h : Below n w w') {b o : Nat} {u : Value} (hb : n ≤ b) : Below n w (w'.setCell ⟨b, o, none⟩ u) :=
 ⟨h.os, h.tape, h.output, by rw [World.size_setCell]; exact h.size, fun k hk => (heap_setCell_other w' ⟨b, o, none⟩ k u (by show k ≠ b; omega)).trans (h.block k hk)⟩
theorem gb_below {w w2 w3 : World} {s : Nat} (hg : w.grownBy w2 (some s)) (hb : Below w.heap.size w2 w3) : w.grownBy w3 (some s) :=
 ⟨hb.os.trans hg.os, hb.tape.trans hg.tape, hb.output.trans hg.output, Nat.le_trans hg.size hb.size, fun i hi hn => (hb.block i hi).trans (hg.block i hi hn)⟩
theorem own_under {w w2 w3 : World} {b1 b2 sz : Nat} {e : TypeId} {u : Value} {n n2 : Nat} {xs ys : List Value} (h0 : w.ownsRow b1 e sz u n xs) (h : w2.ownsRow b2 e sz u n2 ys) (hb : Below w.heap.size w2 w3) : w3.ownsRow b2 e sz u n2 ys := ⟨h.1, by
 rcases h.2 with h' | ⟨g, c, cur, h1, h2, h3, h4⟩
 ·exact .inl h'
 ·have := (h0.lt g (by rw [h1]; rfl)).2
  exact .inr ⟨g, c, cur, h1, h2, (hb.block g this).trans h3, h4⟩⟩
theorem Sy.under {base : Nat} {w : World} {s m Kg : Nat} {v : Value} {vs : List Value} {Q : List (List Tm)} (h : Sy base w s m Kg v vs Q) {w2 w3 : World} {K2 : Nat} (h2 : Sy base w2 s m K2 v vs Q) (hb : Below w.heap.size w2 w3) : Sy base w3 s m K2 v vs Q :=
 ⟨(hb.block s h.lt).trans h2.h, own_under h.row h2.row hb, fun i X hX => by
  obtain ⟨u, h1, h3⟩ := h.ls i X hX
  obtain ⟨u', h1', h3'⟩ := h2.ls i X hX
  rw [h1] at h1'
  obtain rfl := Option.some.inj h1'
  exact ⟨u, h1, own_under h3 h3' hb⟩, h.bs, h.sm⟩
theorem Gate_ok {base : Nat} {w : World} {s m Kg : Nat} {v : Value} {vs : List Value} {Q : List (List Tm)} (h : Sy base w s m Kg v vs Q) (hK : Kg < 1024) : Calls Tryz.prog 23 #[.pointer (some ⟨s, 0, none⟩)] w fun e w' => e = .returned (tup 2 Kg 3 Kg 4 Kg 0) ∧ Sy base w' s m (Kg + 1) v vs Q ∧ w.grownBy w' (some s) := by
 have BA := bl_alloc3 w (.cells #[.int .i64 0, .int .i64 0] 79) (.cells #[.int .i64 0, .int .i64 0] 79) (.cells #[.int .i64 0, .int .i64 0] 79)
 have hlt := h.lt
 have h1 := h.keep BA
 have C := Hn (none_any h1)
 have c1 := h1.c1
 have fs := h1.fz 1
 have l0 : ¬ (1024 : Int) ≤ (Kg : Int) := by omega
 have w9 : IntKind.i64.wrap ((Kg : Int) + 1) = (Kg : Int) + 1 := IntWalk.i64_in _ (by omega)
 have c00 : (((w.alloc (.cells #[.int .i64 0, .int .i64 0] 79)).alloc (.cells #[.int .i64 0, .int .i64 0] 79)).alloc (.cells #[.int .i64 0, .int .i64 0] 79)).cell? ⟨w.heap.size, 0, none⟩ = some (.int .i64 0) := by go_simp
 have f00 : (((w.alloc (.cells #[.int .i64 0, .int .i64 0] 79)).alloc (.cells #[.int .i64 0, .int .i64 0] 79)).alloc (.cells #[.int .i64 0, .int .i64 0] 79)).frozen? ⟨w.heap.size, 0, none⟩ = false := by go_simp
 have c01 : (((w.alloc (.cells #[.int .i64 0, .int .i64 0] 79)).alloc (.cells #[.int .i64 0, .int .i64 0] 79)).alloc (.cells #[.int .i64 0, .int .i64 0] 79)).cell? ⟨w.heap.size, 1, none⟩ = some (.int .i64 0) := by go_simp
 have f01 : (((w.alloc (.cells #[.int .i64 0, .int .i64 0] 79)).alloc (.cells #[.int .i64 0, .int .i64 0] 79)).alloc (.cells #[.int .i64 0, .int .i64 0] 79)).frozen? ⟨w.heap.size, 1, none⟩ = false := by go_simp
 have c10 : (((w.alloc (.cells #[.int .i64 0, .int .i64 0] 79)).alloc (.cells #[.int .i64 0, .int .i64 0] 79)).alloc (.cells #[.int .i64 0, .int .i64 0] 79)).cell? ⟨w.heap.size + 1, 0, none⟩ = some (.int .i64 0) := by go_simp
 have f10 : (((w.alloc (.cells #[.int .i64 0, .int .i64 0] 79)).alloc (.cells #[.int .i64 0, .int .i64 0] 79)).alloc (.cells #[.int .i64 0, .int .i64 0] 79)).frozen? ⟨w.heap.size + 1, 0, none⟩ = false := by go_simp
 have c11 : (((w.alloc (.cells #[.int .i64 0, .int .i64 0] 79)).alloc (.cells #[.int .i64 0, .int .i64 0] 79)).alloc (.cells #[.int .i64 0, .int .i64 0] 79)).cell? ⟨w.heap.size + 1, 1, none⟩ = some (.int .i64 0) := by go_simp
 have f11 : (((w.alloc (.cells #[.int .i64 0, .int .i64 0] 79)).alloc (.cells #[.int .i64 0, .int .i64 0] 79)).alloc (.cells #[.int .i64 0, .int .i64 0] 79)).frozen? ⟨w.heap.size + 1, 1, none⟩ = false := by go_simp
 have c20 : (((w.alloc (.cells #[.int .i64 0, .int .i64 0] 79)).alloc (.cells #[.int .i64 0, .int .i64 0] 79)).alloc (.cells #[.int .i64 0, .int .i64 0] 79)).cell? ⟨w.heap.size + 1 + 1, 0, none⟩ = some (.int .i64 0) := by go_simp
 have f20 : (((w.alloc (.cells #[.int .i64 0, .int .i64 0] 79)).alloc (.cells #[.int .i64 0, .int .i64 0] 79)).alloc (.cells #[.int .i64 0, .int .i64 0] 79)).frozen? ⟨w.heap.size + 1 + 1, 0, none⟩ = false := by go_simp
 have c21 : (((w.alloc (.cells #[.int .i64 0, .int .i64 0] 79)).alloc (.cells #[.int .i64 0, .int .i64 0] 79)).alloc (.cells #[.int .i64 0, .int .i64 0] 79)).cell? ⟨w.heap.size + 1 + 1, 1, none⟩ = some (.int .i64 0) := by go_simp
 have f21 : (((w.alloc (.cells #[.int .i64 0, .int .i64 0] 79)).alloc (.cells #[.int .i64 0, .int .i64 0] 79)).alloc (.cells #[.int .i64 0, .int .i64 0] 79)).frozen? ⟨w.heap.size + 1 + 1, 1, none⟩ = false := by go_simp
 have G0 := Hn (gbI BA (some s))
 have S1 := Hn h1
 have HS := Hn h
 have SZ : Hid ((((w.alloc (.cells #[.int .i64 0, .int .i64 0] 79)).alloc (.cells #[.int .i64 0, .int .i64 0] 79)).alloc (.cells #[.int .i64 0, .int .i64 0] 79)).heap.size = w.heap.size + 1 + 1 + 1) := Hn (by simp)
 clear h hK BA h1
 go_enter Tryz.func23, Tryz.ntmps23
 go_upto_region 5 with (go_at_call 44; refine C.out.mono ?_; rintro e w1 ⟨rfl, rfl⟩)
 clear C
 generalize (((w.alloc (.cells #[.int .i64 0, .int .i64 0] 79)).alloc (.cells #[.int .i64 0, .int .i64 0] 79)).alloc (.cells #[.int .i64 0, .int .i64 0] 79)) = w1 at *
 go_upto_region 7 with fail
 have SG := Hn (Sy.gate S1.out)
 have G1 := Hn (gb_tr G0.out (gb_cell w1 s 1 (.int .i64 ((Kg : Int) + 1))))
 have d00 : (w1.setCell ⟨s, 1, none⟩ (.int .i64 ((Kg : Int) + 1))).cell? ⟨w.heap.size, 0, none⟩ = some (.int .i64 0) := by rw [World.cell?_setCell_far _ _ _ _ (by simp; omega)]; exact c00
 have g00 : (w1.setCell ⟨s, 1, none⟩ (.int .i64 ((Kg : Int) + 1))).frozen? ⟨w.heap.size, 0, none⟩ = false := by rw [World.frozen?_setCell]; exact f00
 have d01 : (w1.setCell ⟨s, 1, none⟩ (.int .i64 ((Kg : Int) + 1))).cell? ⟨w.heap.size, 1, none⟩ = some (.int .i64 0) := by rw [World.cell?_setCell_far _ _ _ _ (by simp; omega)]; exact c01
 have g01 : (w1.setCell ⟨s, 1, none⟩ (.int .i64 ((Kg : Int) + 1))).frozen? ⟨w.heap.size, 1, none⟩ = false := by rw [World.frozen?_setCell]; exact f01
 have d10 : (w1.setCell ⟨s, 1, none⟩ (.int .i64 ((Kg : Int) + 1))).cell? ⟨w.heap.size + 1, 0, none⟩ = some (.int .i64 0) := by rw [World.cell?_setCell_far _ _ _ _ (by simp; omega)]; exact c10
 have g10 : (w1.setCell ⟨s, 1, none⟩ (.int .i64 ((Kg : Int) + 1))).frozen? ⟨w.heap.size + 1, 0, none⟩ = false := by rw [World.frozen?_setCell]; exact f10
 have d11 : (w1.setCell ⟨s, 1, none⟩ (.int .i64 ((Kg : Int) + 1))).cell? ⟨w.heap.size + 1, 1, none⟩ = some (.int .i64 0) := by rw [World.cell?_setCell_far _ _ _ _ (by simp; omega)]; exact c11
 have g11 : (w1.setCell ⟨s, 1, none⟩ (.int .i64 ((Kg : Int) + 1))).frozen? ⟨w.heap.size + 1, 1, none⟩ = false := by rw [World.frozen?_setCell]; exact f11
 have d20 : (w1.setCell ⟨s, 1, none⟩ (.int .i64 ((Kg : Int) + 1))).cell? ⟨w.heap.size + 1 + 1, 0, none⟩ = some (.int .i64 0) := by rw [World.cell?_setCell_far _ _ _ _ (by simp; omega)]; exact c20
 have g20 : (w1.setCell ⟨s, 1, none⟩ (.int .i64 ((Kg : Int) + 1))).frozen? ⟨w.heap.size + 1 + 1, 0, none⟩ = false := by rw [World.frozen?_setCell]; exact f20
 have d21 : (w1.setCell ⟨s, 1, none⟩ (.int .i64 ((Kg : Int) + 1))).cell? ⟨w.heap.size + 1 + 1, 1, none⟩ = some (.int .i64 0) := by rw [World.cell?_setCell_far _ _ _ _ (by simp; omega)]; exact c21
 have g21 : (w1.setCell ⟨s, 1, none⟩ (.int .i64 ((Kg : Int) + 1))).frozen? ⟨w.heap.size + 1 + 1, 1, none⟩ = false := by rw [World.frozen?_setCell]; exact f21
 have SZ2 : Hid ((w1.setCell ⟨s, 1, none⟩ (.int .i64 ((Kg : Int) + 1))).heap.size = w.heap.size + 1 + 1 + 1) := Hn (by rw [World.size_setCell]; exact SZ.out)
 clear c00 c01 f00 f01 c10 c11 f10 f11 c20 c21 f20 f21 c1 fs
 generalize (w1.setCell ⟨s, 1, none⟩ (.int .i64 ((Kg : Int) + 1))) = w2 at *
 have HL := Hn hlt
 go_wp2_with fail
 have BW : Below w.heap.size w2 ((((((w2.setCell ⟨w.heap.size, 0, none⟩ (.int .i64 2)).setCell ⟨w.heap.size, 1, none⟩ (.int .i64 (Kg : Int))).setCell ⟨w.heap.size + 1, 0, none⟩ (.int .i64 3)).setCell ⟨w.heap.size + 1, 1, none⟩ (.int .i64 (Kg : Int))).setCell ⟨w.heap.size + 1 + 1, 0, none⟩ (.int .i64 4)).setCell ⟨w.heap.size + 1 + 1, 1, none⟩ (.int .i64 (Kg : Int))) := bl_cell (bl_cell (bl_cell (bl_cell (bl_cell (bl_cell (Below.refl _ _) (by omega)) (by omega)) (by omega)) (by omega)) (by omega)) (by omega)
 refine bodyPost_ret (v := tup 2 Kg 3 Kg 4 Kg 0) (by simp [results, Tryz.results23, go_sem, d00, d01, d10, d11, d20, d21, tup]) rfl ⟨rfl, Sy.under HS.out SG.out BW, gb_below G1.out BW⟩
theorem llinfo : (Tryz.prog.info? 38) = some (Tryz.prog.info? 38).get! := by kernel_rfl
structure Fz (s : Nat) (v : Value) (w w' : World) : Prop where
 os : w'.os = w.os
 tape : w'.tape = w.tape
 output : w'.output = w.output
 size : w.heap.size ≤ w'.heap.size
 block : ∀ i, i < w.heap.size → i ≠ s → v.ownBlock ≠ some i → w'.heap[i]? = w.heap[i]?
theorem Fz.below {s : Nat} {v : Value} {w w' : World} (h : Fz s v w w') {n : Nat} (hn : n ≤ w.heap.size) (hs : n ≤ s) (hv : ∀ k, v.ownBlock = some k → n ≤ k) : Below n w w' :=
 ⟨h.os, h.tape, h.output, h.size, fun k hk => h.block k (by omega) (by omega) (fun e => by have := hv k e; omega)⟩
theorem Sy.vb {base : Nat} {w : World} {s m Kg : Nat} {v : Value} {vs : List Value} {Q : List (List Tm)} (h : Sy base w s m Kg v vs Q) : ∀ k, v.ownBlock = some k → base ≤ k ∧ k < w.heap.size := fun k hk => h.row.lt k hk
theorem Sy.more {base : Nat} {w : World} {s m Kg : Nat} {v : Value} {vs : List Value} {Q : List (List Tm)} (h : Sy base w s m Kg v vs Q) {w1 w2 : World} {u v' : Value} {X : List Tm} (hb : Below w.heap.size w w1) (hu : w1.ownsRow 0 123 6 u X.length (tls X)) (hX : Ls Sm.L X) (ho : w2.ownsRow base 38 1 v' (Q.length + 1) (vs ++ [u])) (hg : w1.grownBy w2 v.ownBlock) :
  Sy base (w2.setCell ⟨s, 2, none⟩ v') s m Kg v' (vs ++ [u]) (Q ++ [X]) ∧ Fz s v w (w2.setCell ⟨s, 2, none⟩ v') := by
 have h1 := h.keep hb
 have hvs : vs.length = Q.length := by have := h.row.1; omega
 have hne : some s ≠ v.ownBlock := fun e => by
  rcases h.row.2 with ⟨e1, _⟩ | ⟨g, c, cur, e1, _, k1, _⟩
  ·rw [e1] at e; cases e
  ·rw [e1] at e
   simp only [Value.ownBlock, Option.some.injEq] at e
   subst e
   rw [h.h] at k1
   simp only [Option.some.injEq, Obj.cells.injEq] at k1
   exact absurd k1.2.1 (by decide)
 have hs2 : w2.heap[s]? = some (.cells #[.int .i64 (m : Int), .int .i64 (Kg : Int), v, .bool true] 27 (0, 0)) := (hg.block s h1.lt hne).trans h1.h
 have hgs := gb_cell w2 s 2 v'
 have hT : ∀ {b1 n : Nat} {u : Value} {xs : List Value}, w1.ownsRow b1 123 6 u n xs → w2.ownsRow b1 123 6 u n xs := fun {b1 n u xs} ho1 => ⟨ho1.1, by
  rcases ho1.2 with h' | ⟨g, c, cur, e1, e2, e3, e4⟩
  ·exact .inl h'
  ·refine .inr ⟨g, c, cur, e1, e2, (hg.block g (Array.getElem?_eq_some_iff.1 e3).1 (fun e => ?_)).trans e3, e4⟩
   rcases h1.row.2 with ⟨f1, _⟩ | ⟨g', c', cur', f1, _, k1, _⟩
   ·rw [f1] at e; cases e
   ·rw [f1] at e
    simp only [Value.ownBlock, Option.some.injEq] at e
    subst e
    rw [k1] at e3
    simp only [Option.some.injEq, Obj.cells.injEq] at e3
    exact absurd e3.2.1 (by decide)⟩
 refine ⟨⟨?_, ?_, ?_, h.bs, ?_⟩, ⟨?_, ?_, ?_, ?_, ?_⟩⟩
 ·have := heap_setCell_same w2 s 2 _ 27 v' hs2
  rw [this]
  rfl
 ·rw [List.length_append, List.length_singleton]
  exact own_keepS ho hs2 (by decide) hgs
 ·intro i Y hY
  by_cases hi : i < Q.length
  ·rw [List.getElem?_append_left hi] at hY
   obtain ⟨u', a1, a2⟩ := h1.ls i Y hY
   exact ⟨u', by rw [List.getElem?_append_left (by omega)]; exact a1, own_keepS (hT a2) hs2 (by decide) hgs⟩
  ·rw [List.getElem?_append_right (by omega)] at hY
   have hi0 : i - Q.length = 0 := by
    have := (List.getElem?_eq_some_iff.1 hY).1
    simp at this
    omega
   rw [hi0] at hY
   simp only [List.getElem?_cons_zero, Option.some.injEq] at hY
   subst hY
   refine ⟨u, ?_, own_keepS (hT hu) hs2 (by decide) hgs⟩
   rw [List.getElem?_append_right (by omega), show i - vs.length = 0 by omega]
   rfl
 ·intro Y hY
  rcases List.mem_append.1 hY with hY | hY
  ·exact h.sm Y hY
  ·rw [List.mem_singleton.1 hY]; exact hX
 ·exact hgs.os.trans (hg.os.trans hb.os)
 ·exact hgs.tape.trans (hg.tape.trans hb.tape)
 ·exact hgs.output.trans (hg.output.trans hb.output)
 ·exact Nat.le_trans hb.size (Nat.le_trans hg.size hgs.size)
 ·intro i hi his hiv
  rw [hgs.block i (Nat.lt_of_lt_of_le hi (Nat.le_trans hb.size hg.size)) (fun e => his (Option.some.inj e)), hg.block i (Nat.lt_of_lt_of_le hi hb.size) (fun e => hiv e.symm), hb.block i hi]
theorem ins_len (L : Int) (t : Tm) : ∀ X : List Tm, (ins L X t).length ≤ X.length + 1
 | [] => by unfold ins; split <;> simp
 | x :: X => by
  unfold ins
  split
  ·split
   ·simp; omega
   ·simp
  ·split
   ·split <;> simp
   ·have := ins_len L t X
    simp
    omega
theorem lf_len_le (X : List Tm) : (lf Sm.L X).length ≤ X.length := by
 unfold lf
 have : ∀ (Y Z : List Tm), (Y.foldl (ins Sm.L) Z).length ≤ Z.length + Y.length := by
  intro Y
  induction Y with
  | nil => intro Z; simp
  | cons y Y ih => intro Z; have h1 := ih (ins Sm.L Z y); have h2 := ins_len Sm.L y Z; simp; omega
 simpa using this X []
theorem rq_more {base : Nat} {w : World} {s m Kg : Nat} {v : Value} {vs : List Value} {Q : List (List Tm)} (h : Sy base w s m Kg v vs Q) {w1 w2 : World} {v' : Value} {X : List Tm} {P1 : Option Addr} {nq xl c1 : Nat} (hb : Below w.heap.size w w1) (hu : w1.ownsRow 0 123 6 (.slice P1 xl c1) xl (tls X)) (hX : Ls Sm.L X) (hq : Q.length = nq) (hx : X.length = xl) (ho : w2.ownsRow base 38 1 v' (nq + 1) (vs ++ [.slice P1 xl c1])) (hg : w1.grownBy w2 v.ownBlock) :
  Sy base (w2.setCell ⟨s, 2, none⟩ v') s m Kg v' (vs ++ [.slice P1 xl c1]) (Q ++ [X]) ∧ Fz s v w (w2.setCell ⟨s, 2, none⟩ v') := by
 subst hq
 subst hx
 exact h.more hb hu hX ho hg
theorem own_sh1 {w : World} {base n : Nat} {t : TypeId} {v : Value} {xs : List Value} (h : w.ownsRow base t 1 v n xs) : ∃ (P : Option Addr) (c : Nat), v = .slice P n c := by
 rcases h.2 with ⟨h1, h2⟩ | ⟨g, c, cur, h1, _⟩
 ·exact ⟨none, 0, by rw [h1, h2]⟩
 ·exact ⟨_, c, h1⟩
theorem ne_row2 {base : Nat} {w : World} {s n : Nat} {v : Value} {vs : List Value} {arr : Array Value} (h : w.heap[s]? = some (.cells arr 27 (0, 0))) (ho : w.ownsRow base 38 1 v n vs) : some s ≠ v.ownBlock := fun e => by
 rcases ho.2 with ⟨e1, _⟩ | ⟨g, c, cur, e1, _, k1, _⟩
 ·rw [e1] at e; cases e
 ·rw [e1] at e
  simp only [Value.ownBlock, Option.some.injEq] at e
  subst e
  rw [h] at k1
  simp only [Option.some.injEq, Obj.cells.injEq] at k1
  exact absurd k1.2.1 (by decide)
theorem cell_row2 {base : Nat} {w w4 : World} {o : Obj} {s n : Nat} {v : Value} {vs : List Value} {a b d : Value} (h : w.heap[s]? = some (.cells #[a, b, v, d] 27 (0, 0))) (ho : w.ownsRow base 38 1 v n vs) (hg : (w.alloc o).grownBy w4 v.ownBlock) : w4.cell? ⟨s, 2, none⟩ = some v := by
 have hl := (Array.getElem?_eq_some_iff.1 h).1
 have h2 : w4.heap[s]? = some (.cells #[a, b, v, d] 27 (0, 0)) := (hg.block s (by simp; omega) (ne_row2 h ho)).trans ((heap_alloc_old w o hl).trans h)
 exact cell_of_row w4 s 2 _ 27 (0, 0) h2
theorem fz_row2 {base : Nat} {w w4 : World} {o : Obj} {s n : Nat} {v : Value} {vs : List Value} {a b d : Value} (h : w.heap[s]? = some (.cells #[a, b, v, d] 27 (0, 0))) (ho : w.ownsRow base 38 1 v n vs) (hg : (w.alloc o).grownBy w4 v.ownBlock) : w4.frozen? ⟨s, 2, none⟩ = false := by
 have hl := (Array.getElem?_eq_some_iff.1 h).1
 have h2 : w4.heap[s]? = some (.cells #[a, b, v, d] 27 (0, 0)) := (hg.block s (by simp; omega) (ne_row2 h ho)).trans ((heap_alloc_old w o hl).trans h)
 unfold World.frozen?
 rw [h2]
 simp
theorem Require_wire {base : Nat} {w : World} {s m Kg : Nat} {v : Value} {vs : List Value} {Q : List (List Tm)} (h : Sy base w s m Kg v vs Q) (hT : Tb w) (P : Option Addr) (n c : Nat) (f : Nat → Trm) (hn : n ≤ 2932031007402) (hf : ∀ k, k < n → (f k).a.ok) (hL : Lt w P n f) (hw : nm m Kg (lf Sm.L (glL n f)).length (ft (lf Sm.L (glL n f))) = false) :
  Calls Tryz.prog 27 #[.pointer (some ⟨s, 0, none⟩), .slice P n c] w fun e w' => e = .returned (.int .i64 200) ∧ Below w.heap.size w w' := by
 have C0 := Hn (none_any h)
 have C1 := Hn (Least_lin P n c f w hT hn hf hL)
 have XL := Hn (lf_len_le (glL n f))
 have GL : Hid ((glL n f).length = n) := Hn (by simp [glL])
 generalize lf Sm.L (glL n f) = X at *
 have C2 := Hn (fun y P' c' (hy : Below w.heap.size w y) (ho : y.ownsRow w.heap.size 123 6 (.slice P' X.length c') X.length (tls X)) => names_any (h.keep hy) P' X.length c' (ft X) (by have := XL.out; have := GL.out; omega) (own_lts ho))
 rw [hw] at C2
 have HS := Hn h
 obtain ⟨Pv, cv, hv, hlc, hpv⟩ := h.shape
 clear hT hn hf hL hw h hlc hpv
 go_enter Tryz.func27, Tryz.ntmps27
 go_upto_region 4 with (first | (go_at_call 44; refine C0.out.mono ?_; rintro e w0 ⟨rfl, rfl⟩) | (go_at_call 69; refine C1.out.mono ?_; rintro e w1 ⟨u, rfl, hq1⟩; have Q1 := Hn hq1; clear hq1))
 clear C0 C1
 obtain ⟨P1, c1, e1, _, _⟩ := own_shT Q1.out.1
 subst e1
 have C3 := Hn (C2.out w1 P1 c1 Q1.out.2.1 Q1.out.1)
 clear C2
 go_wp2_with (first | (go_at_call 63; refine C3.out.mono ?_; rintro e w2 ⟨rfl, hb⟩; have B2 := Hn (bl_trans Q1.out.2.1 hb); clear hb))
 refine bodyPost_ret (v := .int .i64 200) (by simp [results, Tryz.results27, go_sem]) rfl ⟨rfl, B2.out⟩
theorem Require_full {base : Nat} {w : World} {s m Kg : Nat} {v : Value} {vs : List Value} {Q : List (List Tm)} (h : Sy base w s m Kg v vs Q) (hT : Tb w) (P : Option Addr) (n c : Nat) (f : Nat → Trm) (hn : n ≤ 2932031007402) (hf : ∀ k, k < n → (f k).a.ok) (hL : Lt w P n f) (hw : nm m Kg (lf Sm.L (glL n f)).length (ft (lf Sm.L (glL n f))) = true) (hq : 4096 ≤ Q.length) :
  Calls Tryz.prog 27 #[.pointer (some ⟨s, 0, none⟩), .slice P n c] w fun e w' => e = .returned (.int .i64 201) ∧ Below w.heap.size w w' := by
 have C0 := Hn (none_any h)
 have C1 := Hn (Least_lin P n c f w hT hn hf hL)
 have XL := Hn (lf_len_le (glL n f))
 have GL : Hid ((glL n f).length = n) := Hn (by simp [glL])
 generalize lf Sm.L (glL n f) = X at *
 have C2 := Hn (fun y P' c' (hy : Below w.heap.size w y) (ho : y.ownsRow w.heap.size 123 6 (.slice P' X.length c') X.length (tls X)) => names_any (h.keep hy) P' X.length c' (ft X) (by have := XL.out; have := GL.out; omega) (own_lts ho))
 rw [hw] at C2
 have HS := Hn h
 obtain ⟨Pv, cv, hv, hlc, hpv⟩ := h.shape
 have HQ := Hn hq
 clear hT hn hf hL hw h hlc hpv hq
 go_enter Tryz.func27, Tryz.ntmps27
 go_upto_region 4 with (first | (go_at_call 44; refine C0.out.mono ?_; rintro e w0 ⟨rfl, rfl⟩) | (go_at_call 69; refine C1.out.mono ?_; rintro e w1 ⟨u, rfl, hq1⟩; have Q1 := Hn hq1; clear hq1))
 clear C0 C1
 obtain ⟨P1, c1, e1, _, _⟩ := own_shT Q1.out.1
 subst e1
 have C3 := Hn (C2.out w1 P1 c1 Q1.out.2.1 Q1.out.1)
 clear C2
 go_upto_region 6 with (first | (go_at_call 63; refine C3.out.mono ?_; rintro e w2 ⟨rfl, hb⟩; have B2 := Hn (bl_trans Q1.out.2.1 hb); have B3 := Hn hb; clear hb))
 clear C3
 have s2 := HS.out.keep B2.out
 have k2 := s2.c2
 have z2 := s2.fz 2
 have QL : Hid (Q.length ≤ 4398046510976 ∨ True) := Hn (.inr trivial)
 subst hv
 have l9 : (4096 : Int) ≤ (Q.length : Int) := by have := HQ.out; omega
 generalize Q.length = nq at *
 go_wp2_with fail
 refine bodyPost_ret (v := .int .i64 201) (by simp [results, Tryz.results27, go_sem]) rfl ⟨rfl, B2.out⟩
end Ci
end Go.Proofs.YtghcfcglakbkeaaGreatDoor
