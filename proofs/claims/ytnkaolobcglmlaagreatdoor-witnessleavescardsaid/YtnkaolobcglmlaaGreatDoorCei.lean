import Derived.Test.YtnkaolobcglmlaaGreatDoorTk
import Derived.Test.YtnkaolobcglmlaaGreatDoorCea
import Derived.Test.YtnkaolobcglmlaaGreatDoorSnum
import Derived.Test.YtnkaolobcglmlaaGreatDoorCmo
namespace Go.Proofs.YtnkaolobcglmlaaGreatDoor
open Go.RowKit
set_option linter.unusedVariables false
set_option linter.unusedSimpArgs false
open Cm (Wr Tm co bf Ls lf ins Eqm)
namespace Ci
set_option maxRecDepth 100000
set_option maxHeartbeats 4000000
theorem cloneL_any {base n : Nat} {v : Value} {vs : List Value} (w : World) (ho : w.ownsRow base 67 1 v n vs) (hn : n ≤ 4096) (h1 : ∀ u ∈ vs, u.oneCell' = true) : Calls Tryz.prog 90 #[v] w fun e w' => ∃ P c, e = .returned (.slice P n c) ∧ w'.ownsRow w.heap.size 67 1 (.slice P n c) n vs ∧ Below w.heap.size w w' := by
 have eqn := fun (a : Option Addr) (l c : Nat) (w : World) => Lib.run_eql_slice_nil (P := Tryz.prog) w 92 67 a l c 0 0 (by kernel_rfl)
 rcases ho.2 with ⟨rfl, rfl⟩ | ⟨g, c, cur, rfl, _, hh, hnc, _⟩
 ·have e0 : vs = [] := List.eq_nil_of_length_eq_zero (by have := ho.1; omega)
  subst e0
  clear ho h1 hn
  go_enter Tryz.func90, Tryz.ntmps90
  go_wp2_with fail
  refine bodyPost_ret (v := .slice none 0 0) (by simp [results, Tryz.results90, go_sem]) rfl ⟨none, 0, rfl, World.ownsRow_nil _ _ _ _, Below.refl _ _⟩
 ·have HN := hidden hn
  have HI : Hid ((Tryz.prog.info? 67) = some (Tryz.prog.info? 67).get!) := hidden (by kernel_rfl)
  have HZ0 : Hid ((Tryz.prog.info? 67).get!.zero = some (.slice none 0 0)) := hidden (by kernel_rfl)
  have HZ1 : Hid ((Tryz.prog.info? 67).get!.size = 1) := hidden (by kernel_rfl)
  have HZ2 : Hid ((Tryz.prog.info? 67).get!.bytes = 24) := hidden (by kernel_rfl)
  have T1 : Hid (Tryz.prog.underlying 92 = some (.slice 67)) := hidden (by kernel_rfl)
  have O0 := hidden (World.ownsRow_made (base := w.heap.size) (e := 67) (size := 1) w #[] 0 (Nat.le_refl _) (by unfold maxLen; omega) rfl)
  have B0 := hidden (bl_alloc w (.cells #[] 67))
  have HC : Hid (∀ j u, vs[j]? = some u → (w.alloc (.cells #[] 67)).cell? ((⟨g, 0, none⟩ : Addr).add j) = some u) := hidden (fun j u hu => by
   have := ho.cells (g := g) rfl j u hu
   rw [Addr.add_mid] at this ⊢
   exact cell_keep this (bl_alloc w _))
  have HL : Hid (vs.length = n * 1) := hidden ho.1
  have H1 := hidden h1
  clear ho hn h1 hh hnc
  go_enter Tryz.func90, Tryz.ntmps90
  go_wp2_with (first | (at_builtin; have x4 : 0 + n ≤ maxLen := (by have := HN.out; unfold maxLen; omega); have x5 : (0 + n) * 24 ≤ 140737488355328 := (by have := HN.out; omega); refine wpList_append_own_at _ rfl _ _ 92 rfl w.heap.size 67 _ _ 1 24 T1.out HI.out HZ0.out HZ1.out HZ2.out rfl (by decide) _ 0 [] rfl O0.out ⟨g, 0, none⟩ n c vs rfl HL.out HC.out H1.out x4 x5 B0.out.size ?_; intro v2 w2 ho hg _ _; have HO := hidden ho; have HG := hidden hg; clear ho hg x4 x5))
  have ho2 := HO.out
  rw [Nat.zero_add, List.nil_append] at ho2
  obtain ⟨P2, c2, e2, _⟩ : ∃ (P : Option Addr) (c : Nat), v2 = .slice P n c ∧ True := by
   rcases ho2.2 with ⟨h1, h2⟩ | ⟨g, c, cur, h1, _⟩
   ·exact ⟨none, 0, by rw [h1, h2], trivial⟩
   ·exact ⟨_, c, h1, trivial⟩
  subst e2
  refine bodyPost_ret (v := .slice P2 n c2) (by simp [results, Tryz.results90, go_sem]) rfl ⟨P2, c2, rfl, ho2, ?_⟩
  exact B0.out.grown HG.out B0.out.size (fun k hk => by obtain rfl := Option.some.inj hk; exact Nat.le_refl _)
theorem Sy.ones {base : Nat} {w : World} {s m Kg : Nat} {v : Value} {vs : List Value} {Q : List (List Tm)} (h : Sy base w s m Kg v vs Q) : ∀ u ∈ vs, u.oneCell' = true := fun u hu => by
 obtain ⟨i, hi⟩ := List.mem_iff_getElem?.1 hu
 have hl : i < Q.length := by have := h.row.1; have := (List.getElem?_eq_some_iff.1 hi).1; omega
 obtain ⟨u', hu', ho⟩ := h.ls i Q[i] (by simp [hl])
 rw [hi] at hu'
 obtain rfl := Option.some.inj hu'
 obtain ⟨P, c, rfl, _⟩ := own_shT ho
 rfl
theorem SysClone_any {base : Nat} {w : World} {s m Kg : Nat} {v : Value} {vs : List Value} {Q : List (List Tm)} (h : Sy base w s m Kg v vs Q) (hq : Q.length ≤ 4096) : Calls Tryz.prog 81 #[.pointer (some ⟨s, 0, none⟩)] w fun e w' => e = .returned (.pointer (some ⟨w.heap.size, 0, none⟩)) ∧ (∃ v' vs', Sy base w' w.heap.size m Kg v' vs' Q) ∧ Below w.heap.size w w' := by
 have C0 := hidden (none_any h)
 obtain ⟨PQ, cQ, rfl, _, _⟩ := h.shape
 have BA := bl_alloc w (.cells #[.int .i64 (m : Int), .int .i64 (Kg : Int), .slice PQ Q.length cQ, .bool true] 94)
 have C1 := hidden (cloneL_any (w.alloc (.cells #[.int .i64 (m : Int), .int .i64 (Kg : Int), .slice PQ Q.length cQ, .bool true] 94)) (own_keepT h.row BA) hq h.ones)
 have k0 := h.c0
 have k1 := h.c1
 have k2 := h.c2
 have k3 := h.c3
 have HB := hidden BA
 have HH := hidden h
 have hnew := heap_alloc_new w (.cells #[.int .i64 (m : Int), .int .i64 (Kg : Int), .slice PQ Q.length cQ, .bool true] 94)
 have HNW := hidden hnew
 have e2 : (w.alloc (.cells #[.int .i64 (m : Int), .int .i64 (Kg : Int), .slice PQ Q.length cQ, .bool true] 94)).cell? ⟨w.heap.size, 2, none⟩ = some (.slice PQ Q.length cQ) := by go_simp
 have f2 : (w.alloc (.cells #[.int .i64 (m : Int), .int .i64 (Kg : Int), .slice PQ Q.length cQ, .bool true] 94)).frozen? ⟨w.heap.size, 2, none⟩ = false := by go_simp
 have SZ : Hid (w.heap.size < (w.alloc (.cells #[.int .i64 (m : Int), .int .i64 (Kg : Int), .slice PQ Q.length cQ, .bool true] 94)).heap.size) := hidden (by simp)
 have k2n := cell_keep k2 BA
 have HBS := hidden h.bs
 have HLT := hidden h.lt
 clear h BA hq hnew
 generalize hqn : Q.length = nq at *
 have HQN := hidden hqn
 clear hqn
 go_enter Tryz.func81, Tryz.ntmps81
 go_upto_region 3 with (go_at_call 25; refine C0.out.mono ?_; rintro e w1 ⟨rfl, hw1⟩; have hw2 := hw1.symm; clear hw1; subst hw2)
 clear C0
 go_upto_region 4 with fail
 clear k0 k1 k2 k3
 generalize w.alloc (.cells #[.int .i64 (m : Int), .int .i64 (Kg : Int), .slice PQ nq cQ, .bool true] 94) = w2 at *
 go_wp2_with (go_at_call 90; refine C1.out.mono ?_; rintro e w3 ⟨P3, c3, rfl, ho, hb⟩; have HO := hidden ho; have B3 := hidden hb; have e3 := cell_keep e2 hb; have f3 := (hb.frozen (p := ⟨w.heap.size, 2, none⟩) SZ.out).trans f2; clear ho hb e2 f2)
 have hs3 : w3.heap[w.heap.size]? = some (.cells #[.int .i64 (m : Int), .int .i64 (Kg : Int), .slice PQ nq cQ, .bool true] 94 (0, 0)) := (B3.out.block _ SZ.out).trans HNW.out
 have BF : Below w.heap.size w (w3.setCell ⟨w.heap.size, 2, none⟩ (.slice P3 nq c3)) := bl_cell (bl_trans HB.out B3.out) (Nat.le_refl _)
 refine bodyPost_ret (v := .pointer (some ⟨w.heap.size, 0, none⟩)) (by simp [results, Tryz.results81, go_sem]) rfl ⟨rfl, ⟨.slice P3 nq c3, vs, ?_⟩, BF⟩
 have hk := HH.out.keep BF
 refine ⟨?_, ?_, hk.ls, ?_, hk.sm⟩
 ·have := heap_setCell_same w3 w.heap.size 2 _ 94 (.slice P3 nq c3) hs3
  simpa using this
 ·rw [HQN.out]
  exact own_keepS (own_monoT HO.out (by have := HBS.out; have := HLT.out; have := HB.out.size; omega)) hs3 (by decide) (gb_cell w3 w.heap.size 2 _)
 ·have := HBS.out; have := HLT.out; omega
end Ci
end Go.Proofs.YtnkaolobcglmlaaGreatDoor
