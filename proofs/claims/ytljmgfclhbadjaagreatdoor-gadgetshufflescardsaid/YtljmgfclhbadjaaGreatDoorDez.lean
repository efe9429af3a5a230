import Derived.Test.YtljmgfclhbadjaaGreatDoorTk
import Derived.Test.YtljmgfclhbadjaaGreatDoorDks
namespace Go.Proofs.YtljmgfclhbadjaaGreatDoor
open Go.RowKit
set_option linter.unusedVariables false
set_option linter.unusedSimpArgs false
open Cm (Wr Tm co bf Ls lf ins Eqm)
namespace Ci
set_option maxRecDepth 100000
set_option maxHeartbeats 16000000
section
variable {S : Nat → Prop} {d m K q b : Nat} {Q : List (List Tm)} {vv : Value} {vs : List Value} {R : Nat → Sl} {e : Int} {x y : World}
theorem dnumber_any (h : Dz S d m K Q q b vv vs R e x) (P : Option Addr) (n c : Nat) (f : Nat → Trm) (hn : n ≤ 2932031007402) (hf : ∀ k, k < n → (f k).a.ok) (hL : Lt x P n f) :
  Calls Tryz.prog 33 #[.pointer (some ⟨d, 0, none⟩), .slice P n c] x fun e' w' => K1P R m K (lf Sm.L (glL n f)) x e' w' := by
 have BL := bl_alloc x (.cells #[.int .u64 0, .int .u64 0, .int .u64 0, .int .u64 0] 53)
 have H0 := Hn (h.keep BL)
 have HL := Hn (And.intro hn (And.intro hf (hL.keep BL)))
 have TH : Hid ((x.alloc (.cells #[.int .u64 0, .int .u64 0, .int .u64 0, .int .u64 0] 53)).there x.heap.size 0 4) := Hn (there_newM x [.int .u64 0, .int .u64 0, .int .u64 0, .int .u64 0] 53)
 have B0 := Hn BL
 have DL : Hid (d < x.heap.size) := Hn (h.ob.lt d h.pd)
 have RL : Hid (x.heap.size < (x.alloc (.cells #[.int .u64 0, .int .u64 0, .int .u64 0, .int .u64 0] 53)).heap.size) := Hn (by simp)
 clear h BL hn hf hL
 go_enter Tryz.func33, Tryz.ntmps33
 go_upto_region 1 with fail
 obtain ⟨x1, hx1⟩ : ∃ x1, x.alloc (.cells #[.int .u64 0, .int .u64 0, .int .u64 0, .int .u64 0] 53) = x1 := ⟨_, rfl⟩
 rw [hx1] at H0 HL TH B0 RL ⊢
 clear hx1
 have KN : Hid (∀ y, Below x1.heap.size x1 y → Calls Tryz.prog 137 #[.pointer (some ⟨q, 0, none⟩), .slice P n c, .pointer (some ⟨b, 0, none⟩)] y fun e w' => K1P R m K (lf Sm.L (glL n f)) y e w') := Hn (fun y hy => known1_any y ((H0.out.keep hy).ob) ((H0.out.keep hy).tq.1) ((H0.out.keep hy).sy) P n c f HL.out.1 HL.out.2.1 (HL.out.2.2.keep hy))
 go_upto_region 3 with (go_at_call 41; refine (dnone_any H0.out).mono ?_; rintro e' w1 ⟨rfl, rfl⟩)
 generalize hz : evS (nmR R) m K (lf Sm.L (glL n f)) = z
 have HZ := Hn hz
 obtain ⟨tb, ht⟩ : ∃ tb, decide (evE (nmR R) m K (lf Sm.L (glL n f)) = 0) = tb := ⟨_, rfl⟩
 have HT := Hn ht
 clear hz ht
 refine dnu3 _ d q b x.heap.size P n c z tb _ _ _ _ _ _ _ _ _ _ _ _ _ _ _ _ _ _ _ w1 ⟨H0.out.c 0, H0.out.c 1, DL.out, RL.out, TH.out, Hn (fun y hy => (KN.out y hy).mono (fun e' w' h => ⟨by rw [h.1, HZ.out, HT.out], h.2⟩))⟩ (Hn ?_)
 rintro w3 ⟨w2, hb2, hw⟩
 have B2 := Hn hb2
 have HW := Hn hw
 clear hw hb2
 go_wp2_with fail
 have cs := World.rangeAt_setCells_same w2 x.heap.size 0 [.int .u64 z.x0, .int .u64 z.x1, .int .u64 z.x2, .int .u64 z.x3] (there_bl TH.out B2.out)
 have gb := gb_setCells x.heap.size [.int .u64 z.x0, .int .u64 z.x1, .int .u64 z.x2, .int .u64 z.x3] 0 w2
 rw [← show w3 = w2.setCells x.heap.size 0 [.int .u64 z.x0, .int .u64 z.x1, .int .u64 z.x2, .int .u64 z.x3] from HW.out] at cs gb
 have e0 := cs 0 _ rfl
 have e1 := cs 1 _ rfl
 have e2 := cs 2 _ rfl
 have e3 := cs 3 _ rfl
 simp only [Nat.zero_add] at e0 e1 e2 e3
 have b0 := B0.out.size
 have b2 := B2.out.size
 refine bodyPost_ret (v := .tuple #[.agg #[.int .u64 z.x0, .int .u64 z.x1, .int .u64 z.x2, .int .u64 z.x3], .bool tb]) (by simp [results, Tryz.results33, go_sem, e0, e1, e2, e3]) rfl ⟨by rw [HZ.out, HT.out], ?_⟩
 exact below_tr (below_tr B0.out (B2.out.mono b0)) (below_grown gb (by omega) (fun k hk => by rw [← Option.some.inj hk]; exact Nat.le_refl _))
end
end Ci
end Go.Proofs.YtljmgfclhbadjaaGreatDoor
namespace Go.Proofs.YtljmgfclhbadjaaGreatDoor
open Go.RowKit
set_option linter.unusedVariables false
set_option linter.unusedSimpArgs false
open Cm (Wr Tm co bf Ls lf ins Eqm)
namespace Ci
set_option maxRecDepth 100000
set_option maxHeartbeats 16000000
theorem SysClone_newA {base : Nat} {w : World} {s m Kg : Nat} {v : Value} {vs : List Value} {Q : List (List Tm)} (h : Sy base w s m Kg v vs Q) (hq : Q.length ≤ 4096) : Calls Tryz.prog 42 #[.pointer (some ⟨s, 0, none⟩)] w fun e w' => e = .returned (.pointer (some ⟨w.heap.size, 0, none⟩)) ∧ (∃ v', Sy w.heap.size w' w.heap.size m Kg v' vs Q) ∧ Below w.heap.size w w' := by
 have C0 := Hn (none_any h)
 obtain ⟨PQ, cQ, rfl, _, _⟩ := h.shape
 have BA := bl_alloc w (.cells #[.int .i64 (m : Int), .int .i64 (Kg : Int), .slice PQ Q.length cQ, .bool true] 113)
 have C1 := Hn (cloneL_any (w.alloc (.cells #[.int .i64 (m : Int), .int .i64 (Kg : Int), .slice PQ Q.length cQ, .bool true] 113)) (own_keepT h.row BA) hq h.ones)
 have k0 := h.c0
 have k1 := h.c1
 have k2 := h.c2
 have k3 := h.c3
 have HB := Hn BA
 have HH := Hn h
 have hnew := heap_alloc_new w (.cells #[.int .i64 (m : Int), .int .i64 (Kg : Int), .slice PQ Q.length cQ, .bool true] 113)
 have HNW := Hn hnew
 have e2 : (w.alloc (.cells #[.int .i64 (m : Int), .int .i64 (Kg : Int), .slice PQ Q.length cQ, .bool true] 113)).cell? ⟨w.heap.size, 2, none⟩ = some (.slice PQ Q.length cQ) := by go_simp
 have f2 : (w.alloc (.cells #[.int .i64 (m : Int), .int .i64 (Kg : Int), .slice PQ Q.length cQ, .bool true] 113)).frozen? ⟨w.heap.size, 2, none⟩ = false := by go_simp
 have SZ : Hid (w.heap.size < (w.alloc (.cells #[.int .i64 (m : Int), .int .i64 (Kg : Int), .slice PQ Q.length cQ, .bool true] 113)).heap.size) := Hn (by simp)
 have k2n := cell_keep k2 BA
 have HBS := Hn h.bs
 have HLT := Hn h.lt
 clear h BA hq hnew
 generalize hqn : Q.length = nq at *
 have HQN := Hn hqn
 clear hqn
 go_enter Tryz.func42, Tryz.ntmps42
 go_upto_region 3 with (go_at_call 43; refine C0.out.mono ?_; rintro e w1 ⟨rfl, hw1⟩; have hw2 := hw1.symm; clear hw1; subst hw2)
 clear C0
 go_upto_region 4 with fail
 clear k0 k1 k2 k3
 generalize w.alloc (.cells #[.int .i64 (m : Int), .int .i64 (Kg : Int), .slice PQ nq cQ, .bool true] 113) = w2 at *
 go_wp2_with (go_at_call 94; refine C1.out.mono ?_; rintro e w3 ⟨P3, c3, rfl, ho, hb⟩; have HO := Hn ho; have B3 := Hn hb; have e3 := cell_keep e2 hb; have f3 := (hb.frozen (p := ⟨w.heap.size, 2, none⟩) SZ.out).trans f2; clear ho hb e2 f2)
 have hs3 : w3.heap[w.heap.size]? = some (.cells #[.int .i64 (m : Int), .int .i64 (Kg : Int), .slice PQ nq cQ, .bool true] 113 (0, 0)) := (B3.out.block _ SZ.out).trans HNW.out
 have BF : Below w.heap.size w (w3.setCell ⟨w.heap.size, 2, none⟩ (.slice P3 nq c3)) := bl_cell (bl_trans HB.out B3.out) (Nat.le_refl _)
 refine bodyPost_ret (v := .pointer (some ⟨w.heap.size, 0, none⟩)) (by simp [results, Tryz.results42, go_sem]) rfl ⟨rfl, ⟨.slice P3 nq c3, ?_⟩, BF⟩
 have hk := HH.out.keep BF
 refine ⟨?_, ?_, hk.ls, ?_, hk.sm⟩
 ·have := heap_setCell_same w3 w.heap.size 2 _ 113 (.slice P3 nq c3) hs3
  simpa using this
 ·rw [HQN.out]
  exact own_keepS (own_monoT HO.out (by have := HB.out.size; omega)) hs3 (by decide) (gb_cell w3 w.heap.size 2 _)
 ·exact Nat.le_refl _
theorem SysClone_new {base : Nat} {w : World} {s m Kg : Nat} {v : Value} {vs : List Value} {Q : List (List Tm)} (h : Sy base w s m Kg v vs Q) (hq : Q.length ≤ 4096) : Calls Tryz.prog 42 #[.pointer (some ⟨s, 0, none⟩)] w fun e w' => e = .returned (.pointer (some ⟨w.heap.size, 0, none⟩)) ∧ (∃ v' vs', Sy w.heap.size w' w.heap.size m Kg v' vs' Q) ∧ Below w.heap.size w w' :=
 (SysClone_newA h hq).mono (fun e w' h => ⟨h.1, by obtain ⟨v', h1⟩ := h.2.1; exact ⟨v', vs, h1⟩, h.2.2⟩)
def DsP (m K : Nat) (Q : List (List Tm)) (x : World) (e : Ending) (w' : World) : Prop := ∃ q' v' vs', e = .returned (.pointer (some ⟨q', 0, none⟩)) ∧ Sy x.heap.size w' q' m K v' vs' Q ∧ Below x.heap.size x w'
section
variable {S : Nat → Prop} {d m K q b : Nat} {Q : List (List Tm)} {vv : Value} {vs : List Value} {R : Nat → Sl} {e : Int} {x y : World}
theorem dsystem_any (h : Dz S d m K Q q b vv vs R e x) :
  Calls Tryz.prog 14 #[.pointer (some ⟨d, 0, none⟩)] x fun e' w' => DsP m K Q x e' w' := by
 have H0 := Hn h
 have C1 := Hn (SysClone_new h.sy h.wk.q)
 have c0 := h.c 0
 clear h
 go_enter Tryz.func14, Tryz.ntmps14
 go_wp2_with (first | (go_at_call 41; refine (dnone_any H0.out).mono ?_; rintro e' w1 ⟨rfl, hw1⟩; have hw2 := hw1.symm; clear hw1; subst hw2) | (go_at_call 42; refine C1.out.mono ?_; rintro e' w2 ⟨rfl, ⟨v', vs', hsy⟩, hb⟩; have HS := Hn hsy; have B2 := Hn hb; clear hsy hb c0))
 exact bodyPost_ret (v := .pointer (some ⟨x.heap.size, 0, none⟩)) (by simp [results, Tryz.results14, go_sem]) rfl ⟨x.heap.size, v', vs', rfl, HS.out, B2.out⟩
end
end Ci
end Go.Proofs.YtljmgfclhbadjaaGreatDoor
namespace Go.Proofs.YtljmgfclhbadjaaGreatDoor
open Go.RowKit
set_option linter.unusedVariables false
set_option linter.unusedSimpArgs false
open Cm (Wr Tm co bf Ls lf ins Eqm)
namespace Ci
set_option maxRecDepth 100000
set_option maxHeartbeats 16000000
section
variable {S : Nat → Prop} {d m K q b : Nat} {Q : List (List Tm)} {vv : Value} {vs : List Value} {R : Nat → Sl} {e : Int} {x y : World}
def LqP (X : List Tm) (x : World) (e : Ending) (w' : World) : Prop := ∃ v, e = .returned (.tuple #[v, .int .i64 0]) ∧ Lq x X v w'
theorem dvalue_any (h : Dz S d m K Q q b vv vs R e x) (j : Nat) (hj : j < m) :
  Calls Tryz.prog 31 #[.pointer (some ⟨d, 0, none⟩), .int .i64 (j : Int)] x fun e' w' => LqP [((5, (j : Int)), 1)] x e' w' := by
 have H0 := Hn h
 have HJ := Hn hj
 clear h hj
 go_enter Tryz.func31, Tryz.ntmps31
 have c0 := H0.out.c 0
 have l0 : ¬ (j : Int) < 0 := by omega
 have l1 : ¬ (m : Int) ≤ (j : Int) := by have := HJ.out; omega
 have lz : j < m := HJ.out
 go_wp2_with (first | (go_at_call 41; refine (dnone_any H0.out).mono ?_; rintro e' w1 ⟨rfl, hw1⟩; have hw2 := hw1.symm; clear hw1; subst hw2) | (go_at_call 79; refine (Values_any H0.out.sy).mono ?_; rintro e' w1 ⟨rfl, hw1⟩; have hw2 := hw1.symm; clear hw1; subst hw2) | (go_at_call 80; refine (Of_any (5, (j : Int)) _).mono ?_; rintro e' w2 ⟨v, rfl, hl⟩; have HL := Hn hl; clear hl))
 exact bodyPost_ret (v := .tuple #[v, .int .i64 0]) (by simp [results, Tryz.results31, go_sem]) rfl ⟨v, rfl, HL.out⟩
end
end Ci
end Go.Proofs.YtljmgfclhbadjaaGreatDoor
