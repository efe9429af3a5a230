import Derived.Test.YtnkaolobcglmlaaGreatDoorWln
namespace Go.Proofs.YtnkaolobcglmlaaGreatDoor
open Go.RowKit
set_option linter.unusedVariables false
set_option linter.unusedSimpArgs false
open Cm (Wr Tm co bf Ls lf ins Eqm)
namespace Ci
set_option maxRecDepth 100000
set_option maxHeartbeats 16000000
theorem ud_37 {n : Nat → Nat} {j : Nat} (h : ∀ i, i < 8 → n i = j) (i : Nat) (hi : i < 8) : ud (ud n 3 (n 3 + 1)) 7 (ud n 3 (n 3 + 1) 7 + 1) i = if i = 3 ∨ i = 7 then j + 1 else j := by
 have h1 := h i hi
 have h2 := h 3 (by omega)
 have h3 := h 7 (by omega)
 unfold ud
 by_cases e7 : i = 7
 ·subst e7
  simp [h3]
 ·by_cases e3 : i = 3
  ·subst e3
   simp [h2]
  ·simp [e7, e3, h1]
theorem Md.new {b0 : Nat} {w : World} (t r : Nat) (hb : b0 ≤ w.heap.size) : Md b0 (w.alloc (.cells #[.pointer (some ⟨t, 0, none⟩), .pointer (some ⟨r, 0, none⟩), .slice none 0 0, .slice none 0 0, .slice none 0 0, .slice none 0 0, .slice none 0 0, .slice none 0 0, .slice none 0 0, .slice none 0 0] 41)) w.heap.size t r (fun _ => 0) (fun _ => none) (fun _ => 0) (fun _ => []) :=
 ⟨heap_alloc_new w _, fun i hi => own_nil _ _ _ _, fun i j _ _ _ k hk => by simp [Value.ownBlock] at hk, hb⟩
def WbP (w : World) (e : Ending) (w' : World) : Prop := ∃ t r m K Q1 Q2 n p c, e = .returned (.tuple #[.agg (arM t r n p c), .bool true]) ∧ PD w t r m K K Q1 Q2 w' ∧ Q2.length = Q1.length ∧ Q1.length ≤ 20 ∧ K ≤ 4
theorem wbuild_any (cs : Array Value) (w : World) (hT : Tb w) {Pv Pf Po : Option Addr} {nv cv nf cf no co : Nat} {V F : Nat → E4} {D : Nat → Int} {A B : Nat → Prl} (hc : Wc w cs Pv Pf Po nv cv nf cf no co V F D A B) :
  Calls Tryz.prog 4 #[.agg cs] w fun e w' => WbP w e w' := by
 have BA := hidden (bl_trans (bl_alloc w (.cells cs 31)) (bl_alloc _ (.cells #[.pointer none, .pointer none, .slice none 0 0, .slice none 0 0, .slice none 0 0, .slice none 0 0, .slice none 0 0, .slice none 0 0, .slice none 0 0, .slice none 0 0] 41)))
 have HH1 : Hid (((w.alloc (.cells cs 31)).alloc (.cells #[.pointer none, .pointer none, .slice none 0 0, .slice none 0 0, .slice none 0 0, .slice none 0 0, .slice none 0 0, .slice none 0 0, .slice none 0 0, .slice none 0 0] 41)).heap[w.heap.size]? = some (.cells cs 31 (0, 0)) ∧ ((w.alloc (.cells cs 31)).alloc (.cells #[.pointer none, .pointer none, .slice none 0 0, .slice none 0 0, .slice none 0 0, .slice none 0 0, .slice none 0 0, .slice none 0 0, .slice none 0 0, .slice none 0 0] 41)).heap[w.heap.size + 1]? = some (.cells #[.pointer none, .pointer none, .slice none 0 0, .slice none 0 0, .slice none 0 0, .slice none 0 0, .slice none 0 0, .slice none 0 0, .slice none 0 0, .slice none 0 0] 41 (0, 0))) := hidden (by refine ⟨?_, ?_⟩ <;> simp only [World.alloc, Array.getElem?_push, Array.size_push] <;> (repeat first | rw [if_pos trivial] | rw [if_pos rfl] | rw [if_neg (by omega)]))
 have HT0 := hidden hT
 have HT := hidden (hT.keep BA.out)
 have HC := hidden hc
 clear hT hc
 go_enter Tryz.func4, Tryz.ntmps4
 go_upto_region 1 with fail
 generalize ((w.alloc (.cells cs 31)).alloc (.cells #[.pointer none, .pointer none, .slice none 0 0, .slice none 0 0, .slice none 0 0, .slice none 0 0, .slice none 0 0, .slice none 0 0, .slice none 0 0, .slice none 0 0] 41)) = w1 at *
 have z67 : w1.cell? ⟨w.heap.size, 67, none⟩ = some (.slice Pv nv cv) := (cell_of_row w1 w.heap.size 67 _ 31 (0, 0) HH1.out.1).trans HC.out.h67
 go_upto_if 26 with fail
 clear z67
 go_cut [4] (fun vx wx => vx = .int .i64 ((min nv 2 : Nat) : Int) ∧ wx = w1)
 case first =>
  by_cases h : 2 < nv
  ·have h2 : (nv : Int) > 2 := by omega
   go_wp2_with fail
   go_meet
   exact ⟨by rw [Nat.min_eq_right (by omega)]; rfl, rfl⟩
  ·have h2 : ¬ (nv : Int) > 2 := by omega
   go_wp2_with fail
   go_meet
   exact ⟨by rw [Nat.min_eq_left (by omega)], rfl⟩
 case rest =>
 obtain ⟨rfl, rfl⟩ := hcut
 obtain ⟨m, hm⟩ : ∃ m, min nv 2 = m := ⟨_, rfl⟩
 have M2 : Hid (m ≤ 2 ∧ m ≤ nv) := hidden (by omega)
 rw [hm]
 clear hm
 have C1 := hidden (New_any m wc HT.out (by have := M2.out; omega))
 have C2 := hidden (fun y => dNew_any m y (by have := M2.out; omega))
 go_upto_region 5 with (go_at_call 12; refine C1.out.mono ?_; rintro e w2 ⟨rfl, h2⟩; have N2 := hidden h2; clear h2)
 clear C1
 replace C2 := hidden (C2.out w2)
 have K2 : Hid (Below wc.heap.size wc w2) := hidden (by obtain ⟨_, _, _, _, hb⟩ := N2.out; exact hb)
 have P3 : Hid (∀ z, NuD w2 w2.heap.size m m z → PD w wc.heap.size w2.heap.size m m m (enl m) (enl m) z ∧ Below w2.heap.size w2 z) := hidden (fun z hz => ⟨pd_new (by have := M2.out; omega) BA.out N2.out hz, by obtain ⟨_, _, _, _, hb⟩ := hz; exact hb⟩)
 clear N2
 go_upto_region 6 with (go_at_call 13; refine C2.out.mono ?_; rintro e w3 ⟨rfl, h3⟩; have N3 := hidden (P3.out _ h3); clear h3 P3)
 clear C2
 have H3 : Hid (w3.heap[w.heap.size]? = some (.cells cs 31 (0, 0)) ∧ w3.heap[w.heap.size + 1]? = some (.cells #[.pointer none, .pointer none, .slice none 0 0, .slice none 0 0, .slice none 0 0, .slice none 0 0, .slice none 0 0, .slice none 0 0, .slice none 0 0, .slice none 0 0] 41 (0, 0))) := hidden (by have k := bl_trans K2.out N3.out.2; exact ⟨(k.block _ (Array.getElem?_eq_some_iff.1 HH1.out.1).1).trans HH1.out.1, (k.block _ (Array.getElem?_eq_some_iff.1 HH1.out.2).1).trans HH1.out.2⟩)
 replace N3 := hidden N3.out.1
 clear HH1 K2
 generalize wc.heap.size = t at *
 generalize w2.heap.size = r at *
 go_upto_region 9 with fail
 have S3 : Hid (w.heap.size + 1 < w3.heap.size) := hidden (Array.getElem?_eq_some_iff.1 H3.out.2).1
 have B4 := bl_alloc w3 (.cells #[.pointer (some ⟨t, 0, none⟩), .pointer (some ⟨r, 0, none⟩), .slice none 0 0, .slice none 0 0, .slice none 0 0, .slice none 0 0, .slice none 0 0, .slice none 0 0, .slice none 0 0, .slice none 0 0] 41)
 have J0 : Hid (Bd w cs t r m w3.heap.size (w.heap.size + 1) m (enl m) (enl m) (fun _ => 0) (fun _ => none) (fun _ => 0) (fun _ => []) (w3.alloc (.cells #[.pointer (some ⟨t, 0, none⟩), .pointer (some ⟨r, 0, none⟩), .slice none 0 0, .slice none 0 0, .slice none 0 0, .slice none 0 0, .slice none 0 0, .slice none 0 0, .slice none 0 0, .slice none 0 0] 41))) := hidden ⟨N3.out.keep B4, Md.new t r N3.out.bl.size, (B4.block _ (Array.getElem?_eq_some_iff.1 H3.out.1).1).trans H3.out.1, ⟨_, (B4.block _ (Array.getElem?_eq_some_iff.1 H3.out.2).1).trans H3.out.2, rfl⟩, by have := S3.out; omega, by omega⟩
 clear B4 H3 N3
 generalize (w3.alloc (.cells #[.pointer (some ⟨t, 0, none⟩), .pointer (some ⟨r, 0, none⟩), .slice none 0 0, .slice none 0 0, .slice none 0 0, .slice none 0 0, .slice none 0 0, .slice none 0 0, .slice none 0 0, .slice none 0 0] 41)) = w4 at *
 generalize w3.heap.size = mb at *
 obtain ⟨rb, hrb⟩ : ∃ rb, w.heap.size + 1 = rb := ⟨_, rfl⟩
 rw [hrb] at J0
 simp only [hrb]
 have RB := hidden hrb
 clear hrb S3
 go_upto_region 10 with fail
 go_loopw [10] (fun jv w' => ∃ j : Nat, j ≤ m ∧ jv = .int .i64 (j : Int) ∧ Hid (∃ n p c Z, Bd w cs t r m mb rb m (enl m) (enl m) n p c Z w' ∧ ∀ i, i < 8 → n i = j)) (fun j _ => m - (intOf j).toNat)
 case atStart => exact ⟨0, by omega, rfl, hidden ⟨_, _, _, _, J0.out, fun _ _ => rfl⟩⟩
 case round =>
  clear J0
  obtain ⟨j, hj, rfl, hR⟩ := hrel
  obtain ⟨n, p, c, Z, hB, hn⟩ := hR.out
  have BD := hidden hB
  have HN := hidden hn
  clear hR hB hn
  by_cases hjm : j < m
  ·have j1 : (j : Int) < (m : Int) := by omega
   have j0 : (0 : Int) ≤ (j : Int) := by omega
   have w9 : IntKind.i64.wrap ((j : Int) + 1) = (j : Int) + 1 := IntWalk.i64_in _ (by have := M2.out; omega)
   have z67 : wr.cell? ⟨w.heap.size, 67, none⟩ = some (.slice Pv nv cv) := (BD.out.c1 67).trans HC.out.h67
   have jv : (j : Int) < (nv : Int) := by have := M2.out; omega
   obtain ⟨vb, vo, ev, rv, ov⟩ : ∃ b o, Pv = some ⟨b, o, none⟩ ∧ Rl4 w b o nv V ∧ ∀ k, k < nv → (V k).ok := by rcases HC.out.v with h | h; exact absurd h (by omega); exact h
   subst ev
   have jn : j < nv := by omega
   have y0 := cell_keep (rv.c0 j jn) BD.out.pd.bl
   have y1 := cell_keep (rv.c1 j jn) BD.out.pd.bl
   have y2 := cell_keep (rv.c2 j jn) BD.out.pd.bl
   have y3 := cell_keep (rv.c3 j jn) BD.out.pd.bl
   have CL := hidden (fun y => rlst (V j) y (ov j jn))
   clear rv ov
   generalize V j = a at *
   go_upto_region 13 with (go_at_call 14; refine (CL.out _).mono ?_; rintro e w5 ⟨rfl, hb⟩; have B5 := hidden hb; clear hb CL)
   have BN := bl_alloc w5 (.cells #[.int .u64 (lst a.n).x0, .int .u64 (lst a.n).x1, .int .u64 (lst a.n).x2, .int .u64 (lst a.n).x3] 62)
   have sM := (Array.getElem?_eq_some_iff.1 BD.out.md.hm).1
   have X1 : Hid (Bs3 (w5.alloc (.cells #[.int .u64 (lst a.n).x0, .int .u64 (lst a.n).x1, .int .u64 (lst a.n).x2, .int .u64 (lst a.n).x3] 62)) w5.heap.size a.n mb n p c) := hidden ⟨heap_alloc_new w5 _, by have := B5.out.size; omega, fun i hi e => by have := ((BD.out.md.ow i hi).lt _ e).2; have := B5.out.size; omega⟩
   have D1 := hidden ((BD.out.keep B5.out).keep BN)
   clear BN B5 BD y0 y1 y2 y3 z67 sM
   generalize w5.alloc (.cells #[.int .u64 (lst a.n).x0, .int .u64 (lst a.n).x1, .int .u64 (lst a.n).x2, .int .u64 (lst a.n).x3] 62) = w6 at *
   generalize w5.heap.size = vB at *
   have SZ : Hid (w.heap.size ≤ w6.heap.size) := hidden D1.out.pd.bl.size
   have HN0 : Hid (n 3 ≤ 1000) := hidden (by have := HN.out 3 (by omega); have := M2.out; omega)
   obtain ⟨a0, a1, a2, a3⟩ := X1.out.at
   have mc : w6.cell? ⟨mb, 5, none⟩ = some (.slice (p 3) (n 3) (c 3)) := (cell_of_row w6 mb 5 _ 41 (0, 0) D1.out.md.hm).trans (arM_at t r n p c (i := 3) (by omega))
   have HI : Hid ((Tryz.prog.info? 64) = some (Tryz.prog.info? 64).get!) := hidden (by kernel_rfl)
   have HZ0 : Hid ((Tryz.prog.info? 64).get!.zero = some (.agg #[.int .u64 0, .int .u64 0, .int .u64 0, .int .u64 0])) := hidden (by kernel_rfl)
   have HZ1 : Hid ((Tryz.prog.info? 64).get!.size = 4) := hidden (by kernel_rfl)
   have HZ2 : Hid ((Tryz.prog.info? 64).get!.bytes = 32) := hidden (by kernel_rfl)
   have T1 : Hid (Tryz.prog.underlying 34 = some (.slice 64)) := hidden (by kernel_rfl)
   go_upto_region 14 with (at_builtin; have q1 : (w6.alloc (.cells #[.int .u64 (lst a.n).x0, .int .u64 (lst a.n).x1, .int .u64 (lst a.n).x2, .int .u64 (lst a.n).x3] 64)).ownsRow w.heap.size 64 4 (.slice (p 3) (n 3) (c 3)) (n 3) (ssl (Z 3)) := own_keepT (D1.out.md.ow 3 (by omega)) (bl_alloc w6 (.cells #[.int .u64 (lst a.n).x0, .int .u64 (lst a.n).x1, .int .u64 (lst a.n).x2, .int .u64 (lst a.n).x3] 64)); have q2 := cells_newT w6 [.int .u64 (lst a.n).x0, .int .u64 (lst a.n).x1, .int .u64 (lst a.n).x2, .int .u64 (lst a.n).x3] 64; have q3 := four_any (lst a.n); have q4 : n 3 + 1 ≤ maxLen := (by have := HN0.out; unfold maxLen; omega); have q5 : (n 3 + 1) * 32 ≤ 140737488355328 := (by have := HN0.out; omega); have q6 : w.heap.size ≤ (w6.alloc (.cells #[.int .u64 (lst a.n).x0, .int .u64 (lst a.n).x1, .int .u64 (lst a.n).x2, .int .u64 (lst a.n).x3] 64)).heap.size := (by have := SZ.out; simp; omega); refine wpList_append_own_at _ rfl _ _ 34 rfl w.heap.size 64 _ _ 4 32 T1.out HI.out HZ0.out HZ1.out HZ2.out rfl (by decide) _ (n 3) (ssl (Z 3)) rfl q1 ⟨w6.heap.size, 0, none⟩ 1 1 [.int .u64 (lst a.n).x0, .int .u64 (lst a.n).x1, .int .u64 (lst a.n).x2, .int .u64 (lst a.n).x3] rfl rfl q2 q3 q4 q5 q6 ?_; intro v4 w7 ho4 hg4 _ hat; obtain ⟨P4, c4, e4, _⟩ := own_sh2 ho4; subst e4; have V4 := hidden (vstep D1.out.md (i := 3) (by omega) hg4 ho4 hat); obtain ⟨st1, st2⟩ := md_store D1.out.md (i := 3) (by omega) hg4; clear ho4 hg4 hat q1 q2 q3 q4 q5 q6)
   have V5 : Hid (VsP w.heap.size w6 (w7.setCell ⟨mb, 5, none⟩ (.slice P4 (n 3 + 1) c4)) mb t r 3 n p c) := V4
   clear V4 st1 st2 a0 a1 a2 a3 mc SZ
   generalize w7.setCell ⟨mb, 5, none⟩ (.slice P4 (n 3 + 1) c4) = w7s at *
   obtain ⟨n1, p1, c1, Z1, mm, kk, en, bb⟩ := V5.out
   have D2 := hidden (D1.out.ok4 kk mm)
   replace X1 := hidden (bb _ _ X1.out)
   have E1 := hidden en
   clear V5 D1 mm kk en bb HI HZ0 HZ1 HZ2 T1
   have SZ : Hid (w.heap.size ≤ w7s.heap.size) := hidden D2.out.pd.bl.size
   have HN1 : Hid (n1 7 ≤ 1000) := hidden (by have e7 := HN.out 7 (by omega); rw [E1.out, ud_ne _ _ (by omega), e7]; have := M2.out; omega)
   obtain ⟨a0, a1, a2, a3⟩ := X1.out.at
   have mc : w7s.cell? ⟨mb, 9, none⟩ = some (.slice (p1 7) (n1 7) (c1 7)) := (cell_of_row w7s mb 9 _ 41 (0, 0) D2.out.md.hm).trans (arM_at t r n1 p1 c1 (i := 7) (by omega))
   have HI : Hid ((Tryz.prog.info? 62) = some (Tryz.prog.info? 62).get!) := hidden (by kernel_rfl)
   have HZ0 : Hid ((Tryz.prog.info? 62).get!.zero = some (.agg #[.int .u64 0, .int .u64 0, .int .u64 0, .int .u64 0])) := hidden (by kernel_rfl)
   have HZ1 : Hid ((Tryz.prog.info? 62).get!.size = 4) := hidden (by kernel_rfl)
   have HZ2 : Hid ((Tryz.prog.info? 62).get!.bytes = 32) := hidden (by kernel_rfl)
   have T1 : Hid (Tryz.prog.underlying 37 = some (.slice 62)) := hidden (by kernel_rfl)
   go_upto_region 15 with (at_builtin; have q1 : (w7s.alloc (.cells #[.int .u64 (lst a.n).x0, .int .u64 (lst a.n).x1, .int .u64 (lst a.n).x2, .int .u64 (lst a.n).x3] 62)).ownsRow w.heap.size 62 4 (.slice (p1 7) (n1 7) (c1 7)) (n1 7) (ssl (Z1 7)) := own_keepT (D2.out.md.ow 7 (by omega)) (bl_alloc w7s (.cells #[.int .u64 (lst a.n).x0, .int .u64 (lst a.n).x1, .int .u64 (lst a.n).x2, .int .u64 (lst a.n).x3] 62)); have q2 := cells_newT w7s [.int .u64 (lst a.n).x0, .int .u64 (lst a.n).x1, .int .u64 (lst a.n).x2, .int .u64 (lst a.n).x3] 62; have q3 := four_any (lst a.n); have q4 : n1 7 + 1 ≤ maxLen := (by have := HN1.out; unfold maxLen; omega); have q5 : (n1 7 + 1) * 32 ≤ 140737488355328 := (by have := HN1.out; omega); have q6 : w.heap.size ≤ (w7s.alloc (.cells #[.int .u64 (lst a.n).x0, .int .u64 (lst a.n).x1, .int .u64 (lst a.n).x2, .int .u64 (lst a.n).x3] 62)).heap.size := (by have := SZ.out; simp; omega); refine wpList_append_own_at _ rfl _ _ 37 rfl w.heap.size 62 _ _ 4 32 T1.out HI.out HZ0.out HZ1.out HZ2.out rfl (by decide) _ (n1 7) (ssl (Z1 7)) rfl q1 ⟨w7s.heap.size, 0, none⟩ 1 1 [.int .u64 (lst a.n).x0, .int .u64 (lst a.n).x1, .int .u64 (lst a.n).x2, .int .u64 (lst a.n).x3] rfl rfl q2 q3 q4 q5 q6 ?_; intro v4 w8 ho4 hg4 _ hat; obtain ⟨P4, c4, e4, _⟩ := own_sh2 ho4; subst e4; have V4 := hidden (vstep D2.out.md (i := 7) (by omega) hg4 ho4 hat); obtain ⟨st1, st2⟩ := md_store D2.out.md (i := 7) (by omega) hg4; clear ho4 hg4 hat q1 q2 q3 q4 q5 q6)
   have V5 : Hid (VsP w.heap.size w7s (w8.setCell ⟨mb, 9, none⟩ (.slice P4 (n1 7 + 1) c4)) mb t r 7 n1 p1 c1) := V4
   clear V4 st1 st2 a0 a1 a2 a3 mc SZ
   generalize w8.setCell ⟨mb, 9, none⟩ (.slice P4 (n1 7 + 1) c4) = w8s at *
   obtain ⟨n2, p2, c2, Z2, mm, kk, en, bb⟩ := V5.out
   have D3 := hidden (D2.out.ok4 kk mm)
   replace X1 := hidden (bb _ _ X1.out)
   have E2 := hidden en
   clear V5 D2 mm kk en bb HI HZ0 HZ1 HZ2 T1
   have SZ : Hid (w.heap.size ≤ w8s.heap.size) := hidden D3.out.pd.bl.size
   have HN2 : Hid (∀ i, i < 8 → n2 i = if i = 3 ∨ i = 7 then j + 1 else j) := hidden (fun i hi => by rw [E2.out, E1.out]; exact ud_37 HN.out i hi)
   clear E1 E2 HN HN1 HN0
   go_upto_region 16 with fail
   have BN := bl_alloc w8s (.cells #[.int .u64 0, .int .u64 0, .int .u64 0, .int .u64 0] 62)
   have X2 : Hid (Bs3 (w8s.alloc (.cells #[.int .u64 0, .int .u64 0, .int .u64 0, .int .u64 0] 62)) w8s.heap.size 0 mb n2 p2 c2) := hidden ⟨by rw [zero_lst]; exact heap_alloc_new w8s _, by have := (Array.getElem?_eq_some_iff.1 D3.out.md.hm).1; omega, fun i hi e => by have := ((D3.out.md.ow i hi).lt _ e).2; omega⟩
   have V8 : Hid (vB < w8s.heap.size) := hidden (Array.getElem?_eq_some_iff.1 X1.out.1).1
   replace X1 := hidden (X1.out.keep BN)
   have D4 := hidden (D3.out.keep BN)
   have L8 : Hid (∀ y, Below w8s.heap.size w8s y → Bd w cs t r m mb rb m (enl m) (enl m) n2 p2 c2 Z2 y) := hidden (fun y hy => D3.out.keep hy)
   have N8 : Hid (w8s.heap.size ≠ mb ∧ ∀ i, i < 8 → (Value.slice (p2 i) (n2 i) (c2 i)).ownBlock ≠ some w8s.heap.size) := hidden X2.out.2
   have BW := hidden BN
   have VB : Hid (vB ≠ w8s.heap.size) := hidden (by have := V8.out; omega)
   clear BN D3 SZ
   generalize w8s.alloc (.cells #[.int .u64 0, .int .u64 0, .int .u64 0, .int .u64 0] 62) = w9 at *
   have z68 : w9.cell? ⟨w.heap.size, 68, none⟩ = some (.slice Pf nf cf) := (D4.out.c1 68).trans HC.out.h68
   go_upto_if 83 with fail
   go_cut [] (fun wx => Hid (Bd w cs t r m mb rb m (enl m) (enl m) n2 p2 c2 Z2 wx ∧ Bs3 wx vB a.n mb n2 p2 c2 ∧ ∃ z, Bs3 wx w8s.heap.size z mb n2 p2 c2))
   case first =>
    by_cases hf : j < nf
    ·have hf2 : (j : Int) < (nf : Int) := by omega
     obtain ⟨fb, fo, ef, rf, of⟩ : ∃ b o, Pf = some ⟨b, o, none⟩ ∧ Rl4 w b o nf F ∧ ∀ k, k < nf → (F k).ok := by rcases HC.out.f with h | h; exact absurd h (by omega); exact h
     subst ef
     have y0 := cell_keep (rf.c0 j hf) D4.out.pd.bl
     have y1 := cell_keep (rf.c1 j hf) D4.out.pd.bl
     have y2 := cell_keep (rf.c2 j hf) D4.out.pd.bl
     have y3 := cell_keep (rf.c3 j hf) D4.out.pd.bl
     have CL := hidden (fun y => rlst (F j) y (of j hf))
     clear rf of
     generalize F j = b at *
     go_wp2_with (first | (go_at_call 14; refine (CL.out _).mono ?_; rintro e w10 ⟨rfl, hb⟩; have B10 := hidden hb; have H10 := (hb.block _ (Array.getElem?_eq_some_iff.1 X2.out.1).1).trans X2.out.1; have q0 := cell_of_row w10 w8s.heap.size 0 _ 62 (0, 0) H10; have q1 := cell_of_row w10 w8s.heap.size 1 _ 62 (0, 0) H10; have q2 := cell_of_row w10 w8s.heap.size 2 _ 62 (0, 0) H10; have q3 := cell_of_row w10 w8s.heap.size 3 _ 62 (0, 0) H10; have fz : ∀ j, w10.frozen? ⟨w8s.heap.size, j, none⟩ = false := (fun j => by unfold World.frozen?; rw [H10]; simp); have f0 := fz 0; have f1 := fz 1; have f2 := fz 2; have f3 := fz 3; simp only [List.getElem?_toArray, List.getElem?_cons_zero, List.getElem?_cons_succ] at q0 q1 q2 q3; have HH10 := hidden H10; clear hb CL H10 fz))
     have KK : Hid (Bd w cs t r m mb rb m (enl m) (enl m) n2 p2 c2 Z2 (w10.setCells w8s.heap.size 0 [.int .u64 (lst b.n).x0, .int .u64 (lst b.n).x1, .int .u64 (lst b.n).x2, .int .u64 (lst b.n).x3]) ∧ Bs3 (w10.setCells w8s.heap.size 0 [.int .u64 (lst b.n).x0, .int .u64 (lst b.n).x1, .int .u64 (lst b.n).x2, .int .u64 (lst b.n).x3]) vB a.n mb n2 p2 c2 ∧ ∃ z, Bs3 (w10.setCells w8s.heap.size 0 [.int .u64 (lst b.n).x0, .int .u64 (lst b.n).x1, .int .u64 (lst b.n).x2, .int .u64 (lst b.n).x3]) w8s.heap.size z mb n2 p2 c2) := hidden (by
      have gb := gb_setCells w8s.heap.size [.int .u64 (lst b.n).x0, .int .u64 (lst b.n).x1, .int .u64 (lst b.n).x2, .int .u64 (lst b.n).x3] 0 w10
      have bl : Below w8s.heap.size w8s (w10.setCells w8s.heap.size 0 [.int .u64 (lst b.n).x0, .int .u64 (lst b.n).x1, .int .u64 (lst b.n).x2, .int .u64 (lst b.n).x3]) := (bl_trans BW.out B10.out).grown gb (bl_trans BW.out B10.out).size (fun k hk => by have := Option.some.inj hk; omega)
      have vl : vB ≠ w8s.heap.size := fun e => VB.out e
      exact ⟨L8.out _ bl, ⟨(gb.block vB (by have := (Array.getElem?_eq_some_iff.1 (X1.out.keep B10.out).1).1; exact this) (fun e => vl (Option.some.inj e))).trans (X1.out.keep B10.out).1, X1.out.2⟩, _, ⟨set4h (p := lst 0) (t := lst b.n) HH10.out, N8.out⟩⟩)
     go_meet
     exact KK
    ·have hf2 : ¬ (j : Int) < (nf : Int) := by omega
     go_wp2_with fail
     go_meet
     exact hidden ⟨D4.out, X1.out, _, X2.out⟩
   case rest =>
   obtain ⟨d5, x5, z, x6⟩ := hcut.out
   have D5 := hidden d5
   have X5 := hidden x5
   have X6 := hidden x6
   clear d5 x5 x6 hcut D4 X1 X2 L8 N8 BW z68 VB V8
   have CP := hidden (mput_any D5.out.md (fun i hi => by have h0 := HN2.out i hi; have h1 := M2.out; split at h0 <;> omega) D5.out.pd.bl.size a.n z)
   obtain ⟨a0, a1, a2, a3⟩ := X5.out.at
   obtain ⟨b0, b1, b2, b3⟩ := X6.out.at
   go_upto_region 11 with (go_at_call 15; refine CP.out.mono ?_; rintro e w11 ⟨rfl, hp⟩; have P11 := hidden hp; clear hp CP)
   have PN : Hid (∃ n p c Z, Bd w cs t r m mb rb m (enl m) (enl m) n p c Z w11 ∧ ∀ i, i < 8 → n i = j + 1) := hidden (by obtain ⟨n3, p3, c3, Z3, mm, kk, en⟩ := P11.out; exact ⟨n3, p3, c3, Z3, D5.out.ok4 kk mm, fun i hi => by rw [en i hi, HN2.out i hi]; split <;> rfl⟩)
   clear P11 D5 X5 X6 HN2 a0 a1 a2 a3 b0 b1 b2 b3
   go_wp2_with fail
   go_roundw
   case rel => exact ⟨j + 1, by omega, by go_num, PN⟩
   case measure => simp [intOf]; omega
  ·obtain rfl : j = m := by omega
   have lq : ¬ (j : Int) < (j : Int) := by omega
   have J2 : Hid (∃ K Q1 Q2 n p c Z, Bd w cs t r j mb rb K Q1 Q2 n p c Z wr ∧ (∀ i, i < 8 → n i = if i = 3 ∨ i = 7 then j else K) ∧ Q2.length = Q1.length ∧ Q1.length ≤ 2 + 2 * 0 ∧ K ≤ 4) := hidden ⟨j, _, _, n, p, c, Z, BD.out, fun i hi => by rw [HN.out i hi]; split <;> rfl, rfl, by rw [enl_len]; have := M2.out; omega, by have := M2.out; omega⟩
   clear BD HN
   go_upto_region 20 with fail
   generalize wr = wl at *
   go_loopw [6, 8, 13] (fun ev fv iv w' => ev = .int .i64 0 ∧ fv = .int .i64 0 ∧ ∃ i : Nat, i ≤ 6 ∧ iv = .int .i64 (i : Int) ∧ Hid (∃ K Q1 Q2 n p c Z, Bd w cs t r j mb rb K Q1 Q2 n p c Z w' ∧ (∀ i, i < 8 → n i = if i = 3 ∨ i = 7 then j else K) ∧ Q2.length = Q1.length ∧ Q1.length ≤ 2 + 2 * i ∧ K ≤ 4)) (fun _ _ i _ => 6 - (intOf i).toNat)
   case atStart => exact ⟨rfl, rfl, 0, by omega, rfl, J2⟩
   case round =>
    clear J2
    obtain ⟨rfl, rfl, i, hi, rfl, hR⟩ := hrel
    obtain ⟨K, Q1, Q2, n, p, c, Z, hB, hn, hq, hl, hk⟩ := hR.out
    have BD := hidden hB
    have HN := hidden hn
    have HQ := hidden (And.intro hq (And.intro hl hk))
    clear hR hB hn hq hl hk
    have z70 : wr.cell? ⟨w.heap.size, 70, none⟩ = some (.slice Po no co) := (BD.out.c1 70).trans HC.out.h70
    by_cases hin : i < no ∧ i < 6
    ·have i1 : (i : Int) < (no : Int) := by omega
     have i6 : (i : Int) < 6 := by omega
     have i0 : (0 : Int) ≤ (i : Int) := by omega
     have w9 : IntKind.i64.wrap ((i : Int) + 1) = (i : Int) + 1 := IntWalk.i64_in _ (by omega)
     obtain ⟨ob, oo, eo, ro⟩ : ∃ b o, Po = some ⟨b, o, none⟩ ∧ Ops w b o no D A B := by rcases HC.out.o with h | h; exact absurd h (by omega); exact h
     subst eo
     have y0 := cell_keep (ro.c0 i hin.1) BD.out.pd.bl
     have y1 := cell_keep (ro.c1 i hin.1) BD.out.pd.bl
     have y2 := cell_keep (ro.c2 i hin.1) BD.out.pd.bl
     have RA := hidden ((ro.la i hin.1).keep BD.out.pd.bl)
     have RB2 := hidden ((ro.lb i hin.1).keep BD.out.pd.bl)
     clear ro
     generalize D i = dd at *
     generalize A i = Ai at *
     generalize B i = Bi at *
     obtain ⟨qa, ka, ca, xa, ga⟩ := Ai
     obtain ⟨qb, kb, cb, xb, gb⟩ := Bi
     simp only at y1 y2 RA RB2
     have CS : Hid (∀ (q : Option Addr) (k c : Nat) (a : Nat → Int) (g : Nat → E4) (y : World), Below wr.heap.size wr y → Prt y q k a g → Calls Tryz.prog 16 #[.pointer (some ⟨r, 0, none⟩), .slice q k c] y fun e w' => ∃ k va vb, e = .returned (.tuple #[va, vb]) ∧ k ≤ 8 ∧ Sw2 y.heap.size j K k va vb w' ∧ Below y.heap.size y w') := hidden (fun q k c a g y hy hP => by obtain ⟨b2, v2, s2, d2, l2⟩ := (BD.out.keep hy).pd.d; exact sums_any d2 (by have := M2.out; omega) (by have := HQ.out.2.2; omega) q k c a g hP)
     have CA := hidden (CS.out qa ka ca xa ga wr (Below.refl _ _) RA.out)
     go_upto_region 23 with (go_at_call 16; refine CA.out.mono ?_; rintro e w5 ⟨k1, va, vx, rfl, hk1, hs1, hb1⟩; have K1 := hidden hk1; have S1 := hidden hs1; have B5 := hidden hb1; clear hk1 hs1 hb1 CA)
     replace z70 := cell_keep z70 B5.out
     replace y0 := cell_keep y0 B5.out
     replace y1 := cell_keep y1 B5.out
     replace y2 := cell_keep y2 B5.out
     have CB := hidden (CS.out qb kb cb xb gb w5 B5.out (RB2.out.keep B5.out))
     clear CS RA RB2
     obtain ⟨f1, oa1, ox1, ok1⟩ := S1.out
     obtain ⟨Pa, cA, ea, _, _⟩ := own_shT oa1
     obtain ⟨Px, cX, ex, _, _⟩ := own_shT ox1
     subst ea
     subst ex
     have OA := hidden oa1
     have OX := hidden ox1
     have F1 := hidden ok1
     clear oa1 ox1 ok1 S1
     go_upto_region 24 with (go_at_call 16; refine CB.out.mono ?_; rintro e w6 ⟨k2, va, vx, rfl, hk1, hs1, hb1⟩; have K2 := hidden hk1; have S2 := hidden hs1; have B6 := hidden hb1; clear hk1 hs1 hb1 CB)
     replace z70 := cell_keep z70 B6.out
     replace y0 := cell_keep y0 B6.out
     clear y1 y2
     obtain ⟨f2, ob1, oy1, ok2⟩ := S2.out
     obtain ⟨Pb, cB, eb, _, _⟩ := own_shT ob1
     obtain ⟨Py, cY, ey, _, _⟩ := own_shT oy1
     subst eb
     subst ey
     replace OA := hidden (own_keepT OA.out B6.out)
     replace OX := hidden (own_keepT OX.out B6.out)
     have OB := hidden (own_monoT ob1 B5.out.size)
     have OY := hidden (own_monoT oy1 B5.out.size)
     have F2 := hidden ok2
     clear ob1 oy1 ok2 S2
     have B7 := hidden (bl_trans B5.out B6.out)
     clear B5 B6
     have AG := hidden (fun y (hy : Below wr.heap.size wr y) => And.intro ((BD.out.keep hy).pd.d) ((BD.out.md.keep hy).ag (K := K) (m := j) (by rw [HN.out 4 (by omega)]; rfl) (by rw [HN.out 5 (by omega)]; rfl) (by rw [HN.out 6 (by omega)]; rfl) (by rw [HN.out 7 (by omega)]; rfl)))
     have CE : Hid (∀ (k : Nat) (f : Nat → Trm) (P : Option Addr) (c0 : Nat) (y : World), k ≤ 8 → Below wr.heap.size wr y → (∀ q, q < k → (f q).a.ok ∧ hs j K (f q).q = true) → y.ownsRow wr.heap.size 86 6 (.slice P k c0) k (tls (glL k f)) → Calls Tryz.prog 17 #[.pointer (some ⟨r, 0, none⟩), .agg #[.slice (p 4) K (c 4), .slice (p 5) K (c 5), .slice (p 6) K (c 6), .slice (p 7) j (c 7)], .slice P k c0] y fun e w' => (∃ z : Int, e = .returned (.tuple #[.agg #[.int .u64 (lst z).x0, .int .u64 (lst z).x1, .int .u64 (lst z).x2, .int .u64 (lst z).x3], .int .i64 0])) ∧ Below y.heap.size y w') := hidden (fun k f P c0 y hk hy hf ho => by obtain ⟨⟨b2, v2, s2, d2, l2⟩, ag⟩ := AG.out y hy; have lq := own_lts (X := glL k f) (by rw [glL_len]; exact ho); rw [glL_len] at lq; have q := Eval_any d2 _ _ _ _ _ _ _ _ ag P c0 (glL k f) (by rw [glL_len]; omega) (by rw [glL_len]; exact lq) (gl_hs fun q hq => (hf q hq).2); rw [glL_len] at q; exact q)
     have M4 := hidden (fun y (hy : Below wr.heap.size wr y) => (BD.out.md.keep hy).hm)
     have mc : ∀ y, Below wr.heap.size wr y → y.cell? ⟨mb, 6, none⟩ = some (.slice (p 4) K (c 4)) ∧ y.cell? ⟨mb, 7, none⟩ = some (.slice (p 5) K (c 5)) ∧ y.cell? ⟨mb, 8, none⟩ = some (.slice (p 6) K (c 6)) ∧ y.cell? ⟨mb, 9, none⟩ = some (.slice (p 7) j (c 7)) := fun y hy => by have h := fun q => cell_of_row y mb q _ 41 (0, 0) (M4.out y hy); have e4 := HN.out 4 (by omega); have e5 := HN.out 5 (by omega); have e6 := HN.out 6 (by omega); have e7 := HN.out 7 (by omega); simp at e4 e5 e6 e7; refine ⟨?_, ?_, ?_, ?_⟩ <;> rw [h] <;> simp [arM, e4, e5, e6, e7]
     have MC := hidden mc
     clear mc M4
     obtain ⟨m6, m7, m8, m9⟩ := MC.out w6 B7.out
     have C1 := hidden (CE.out k1 f1 Px cX w6 K1.out B7.out F1.out OX.out)
     go_upto_region 25 with (go_at_call 17; refine C1.out.mono ?_; rintro e w7 ⟨⟨z1, rfl⟩, hb⟩; have B8 := hidden hb; clear hb C1)
     have BN := bl_alloc w7 (.cells #[.int .u64 (lst z1).x0, .int .u64 (lst z1).x1, .int .u64 (lst z1).x2, .int .u64 (lst z1).x3] 62)
     have zz : wr.heap.size ≤ w7.heap.size := (bl_trans B7.out B8.out).size
     have X1 : Hid (Bs3 (w7.alloc (.cells #[.int .u64 (lst z1).x0, .int .u64 (lst z1).x1, .int .u64 (lst z1).x2, .int .u64 (lst z1).x3] 62)) w7.heap.size z1 mb n p c) := hidden ⟨heap_alloc_new w7 _, by have := (Array.getElem?_eq_some_iff.1 BD.out.md.hm).1; omega, fun i hi e => by have := ((BD.out.md.ow i hi).lt _ e).2; omega⟩
     replace OA := hidden (own_keepT (own_keepT OA.out B8.out) BN)
     replace OX := hidden (own_keepT (own_keepT OX.out B8.out) BN)
     replace OB := hidden (own_keepT (own_keepT OB.out B8.out) BN)
     replace OY := hidden (own_keepT (own_keepT OY.out B8.out) BN)
     replace z70 := cell_keep (cell_keep z70 B8.out) BN
     replace y0 := cell_keep (cell_keep y0 B8.out) BN
     replace B7 := hidden (bl_trans (bl_trans B7.out B8.out) BN)
     clear BN zz B8 m6 m7 m8 m9
     generalize w7.alloc (.cells #[.int .u64 (lst z1).x0, .int .u64 (lst z1).x1, .int .u64 (lst z1).x2, .int .u64 (lst z1).x3] 62) = w8 at *
     generalize w7.heap.size = kB at *
     obtain ⟨m6, m7, m8, m9⟩ := MC.out w8 B7.out
     have C1 := hidden (CE.out k2 f2 Py cY w8 K2.out B7.out F2.out OY.out)
     go_upto_region 26 with (go_at_call 17; refine C1.out.mono ?_; rintro e w9 ⟨⟨z2, rfl⟩, hb⟩; have B8 := hidden hb; clear hb C1)
     have BN := bl_alloc w9 (.cells #[.int .u64 (lst z2).x0, .int .u64 (lst z2).x1, .int .u64 (lst z2).x2, .int .u64 (lst z2).x3] 62)
     have zz : wr.heap.size ≤ w9.heap.size := (bl_trans B7.out B8.out).size
     have X2 : Hid (Bs3 (w9.alloc (.cells #[.int .u64 (lst z2).x0, .int .u64 (lst z2).x1, .int .u64 (lst z2).x2, .int .u64 (lst z2).x3] 62)) w9.heap.size z2 mb n p c) := hidden ⟨heap_alloc_new w9 _, by have := (Array.getElem?_eq_some_iff.1 BD.out.md.hm).1; omega, fun i hi e => by have := ((BD.out.md.ow i hi).lt _ e).2; omega⟩
     replace OA := hidden (own_keepT (own_keepT OA.out B8.out) BN)
     replace OX := hidden (own_keepT (own_keepT OX.out B8.out) BN)
     replace OB := hidden (own_keepT (own_keepT OB.out B8.out) BN)
     replace OY := hidden (own_keepT (own_keepT OY.out B8.out) BN)
     replace z70 := cell_keep (cell_keep z70 B8.out) BN
     replace y0 := cell_keep (cell_keep y0 B8.out) BN
     replace B7 := hidden (bl_trans (bl_trans B7.out B8.out) BN)
     replace X1 := hidden ((X1.out.keep B8.out).keep BN)
     clear BN zz B8 m6 m7 m8 m9 CE MC AG
     generalize w9.alloc (.cells #[.int .u64 (lst z2).x0, .int .u64 (lst z2).x1, .int .u64 (lst z2).x2, .int .u64 (lst z2).x3] 62) = w10 at *
     generalize w9.heap.size = lB at *
     have D1 := hidden (BD.out.keep B7.out)
     have WS : Hid (w.heap.size ≤ wr.heap.size) := hidden BD.out.pd.bl.size
     have DK := hidden (fun y (hy : Below wr.heap.size wr y) => BD.out.keep hy)
     clear BD
     go_upto_region 27 with fail
     clear z70 y0
     by_cases d1 : dd = 1
     ·subst d1
      obtain ⟨yb, yv, ys, dy, yl⟩ := D1.out.pd.d
      have rK := dy.c1
      clear dy yl
      by_cases hK4 : 4 ≤ K
      ·have hK5 : (K : Int) ≥ 4 := by omega
       have PN : Hid (∃ K Q1 Q2 n p c Z, Bd w cs t r j mb rb K Q1 Q2 n p c Z w10 ∧ (∀ i, i < 8 → n i = if i = 3 ∨ i = 7 then j else K) ∧ Q2.length = Q1.length ∧ Q1.length ≤ 2 + 2 * (i + 1) ∧ K ≤ 4) := hidden ⟨K, Q1, Q2, n, p, c, Z, D1.out, HN.out, HQ.out.1, by have := HQ.out.2.1; omega, HQ.out.2.2⟩
       clear D1 HN HQ OA OX OB OY F1 F2 K1 K2 X1 X2 B7 DK
       go_wp2_with fail
       go_roundw
       case rel => exact ⟨rfl, rfl, i + 1, by omega, by go_num, PN⟩
       case measure => simp [intOf]; omega
      ·have hK5 : ¬ (K : Int) ≥ 4 := by omega
       go_upto_region 29 with fail
       clear rK DK
       have C1 := D1.out.pd.pMul HT0.out Pa Pb k1 cA k2 cB f1 f2 (by have := K1.out; omega) (by have := K2.out; omega) F1.out F2.out (own_lt OA.out) (own_lt OB.out) (by have := HQ.out.2.1; omega) (by omega)
       unfold tup at C1
       replace C1 := hidden C1
       go_upto_region 30 with (go_at_call 18; refine C1.out.mono ?_; rintro e w11 ⟨rfl, ⟨R1, hR1, hp⟩, ho⟩; have RL1 := hidden hR1; have P11 := hidden hp; have O11 := hidden ho; clear hR1 hp ho C1)
       have C2 := P11.out.dMul Px Py cX cY (glL k1 f1) (glL k2 f2) (by rw [glL_len]; have := K1.out; omega) (by rw [glL_len]; have := K2.out; omega) (by rw [glL_len]; exact own_monoT (O11.out.own OX.out (by decide) (by decide)) (Nat.zero_le _)) (by rw [glL_len]; exact own_monoT (O11.out.own OY.out (by decide) (by decide)) (Nat.zero_le _)) (gl_hs fun q hq => (F1.out q hq).2) (gl_hs fun q hq => (F2.out q hq).2) (by have := HQ.out.1; have := HQ.out.2.1; omega) (by omega)
       rw [glL_len, glL_len] at C2
       unfold tup at C2
       replace C2 := hidden C2
       go_upto_region 31 with (go_at_call 19; refine C2.out.mono ?_; rintro e w12 ⟨rfl, ⟨R2, hR2, hp⟩, ho⟩; have RL2 := hidden hR2; have P12 := hidden hp; have O12 := hidden ho; clear hR2 hp ho C2)
       have D2 := hidden (D1.out.two O11.out O12.out P12.out)
       replace X1 := hidden ((X1.out.ok2 O11.out (by decide) (by decide)).ok2 O12.out (by decide) (by decide))
       replace X2 := hidden ((X2.out.ok2 O11.out (by decide) (by decide)).ok2 O12.out (by decide) (by decide))
       clear P11 P12 O11 O12 D1 OA OX OB OY F1 F2 K1 K2 B7
       have CP := hidden (mput_any D2.out.md (fun i hi => by have h0 := HN.out i hi; have h1 := M2.out; have h2 := HQ.out.2.2; split at h0 <;> omega) D2.out.pd.bl.size z1 z2)
       obtain ⟨a0, a1, a2, a3⟩ := X1.out.at
       obtain ⟨b0, b1, b2, b3⟩ := X2.out.at
       go_upto_region 40 with (go_at_call 15; refine CP.out.mono ?_; rintro e w13 ⟨rfl, hp⟩; have P13 := hidden hp; clear hp CP)
       have PN : Hid (∃ K Q1 Q2 n p c Z, Bd w cs t r j mb rb K Q1 Q2 n p c Z w13 ∧ (∀ i, i < 8 → n i = if i = 3 ∨ i = 7 then j else K) ∧ Q2.length = Q1.length ∧ Q1.length ≤ 2 + 2 * (i + 1) ∧ K ≤ 4) := hidden (by obtain ⟨n3, p3, c3, Z3, mm, kk, en⟩ := P13.out; exact ⟨K + 1, R1, R2, n3, p3, c3, Z3, D2.out.ok4 kk mm, fun i hi => by rw [en i hi, HN.out i hi]; split <;> rfl, by rw [RL1.out, RL2.out, HQ.out.1], by have := HQ.out.2.1; rw [RL1.out]; omega, by omega⟩)
       clear P13 D2 X1 X2 HN HQ RL1 RL2 a0 a1 a2 a3 b0 b1 b2 b3
       go_wp2_with fail
       go_roundw
       case rel => exact ⟨rfl, rfl, i + 1, by omega, by go_num, PN⟩
       case measure => simp [intOf]; omega
     by_cases d2 : dd = 2
     ·subst d2
      go_upto_region 33 with fail
      obtain ⟨a0, a1, a2, a3⟩ := X1.out.at
      have CN := hidden (fun y => rNeg_any z1 y)
      simp only [E4.v] at CN
      have HI : Hid ((Tryz.prog.info? 84) = some (Tryz.prog.info? 84).get!) := hidden (by kernel_rfl)
      have HZ0 : Hid ((Tryz.prog.info? 84).get!.zero = some (.agg #[.int .i64 0, .int .i64 0, .int .u64 0, .int .u64 0, .int .u64 0, .int .u64 0])) := hidden (by kernel_rfl)
      have HZ1 : Hid ((Tryz.prog.info? 84).get!.size = 6) := hidden (by kernel_rfl)
      have HZ2 : Hid ((Tryz.prog.info? 84).get!.bytes = 48) := hidden (by kernel_rfl)
      have T1 : Hid (Tryz.prog.underlying 67 = some (.slice 84)) := hidden (by kernel_rfl)
      go_upto_region 34 with (first | (go_at_call 20; refine (CN.out _).mono ?_; rintro e w11 ⟨rfl, hb⟩; replace OA := hidden (own_keepT OA.out hb); replace OX := hidden (own_keepT OX.out hb); replace X1 := hidden (X1.out.keep hb); replace B7 := hidden (bl_trans B7.out hb); clear hb a0 a1 a2 a3) | (at_builtin; have q1 := own_keepT OA.out (bl_alloc w11 (.cells #[.int .i64 1, .int .i64 0, .int .u64 (lst (-z1)).x0, .int .u64 (lst (-z1)).x1, .int .u64 (lst (-z1)).x2, .int .u64 (lst (-z1)).x3] 84)); have q2 := cells_newT w11 [.int .i64 1, .int .i64 0, .int .u64 (lst (-z1)).x0, .int .u64 (lst (-z1)).x1, .int .u64 (lst (-z1)).x2, .int .u64 (lst (-z1)).x3] 84; have q3 : ∀ u ∈ ([.int .i64 1, .int .i64 0, .int .u64 (lst (-z1)).x0, .int .u64 (lst (-z1)).x1, .int .u64 (lst (-z1)).x2, .int .u64 (lst (-z1)).x3] : List Value), u.oneCell' = true := six_any _ _ _ _ _ _; have q4 : k1 + 1 ≤ maxLen := (by have := K1.out; unfold maxLen; omega); have q5 : (k1 + 1) * 48 ≤ 140737488355328 := (by have := K1.out; omega); have q6 : wr.heap.size ≤ (w11.alloc (.cells #[.int .i64 1, .int .i64 0, .int .u64 (lst (-z1)).x0, .int .u64 (lst (-z1)).x1, .int .u64 (lst (-z1)).x2, .int .u64 (lst (-z1)).x3] 84)).heap.size := (by have := B7.out.size; simp; omega); refine wpList_append_own_at _ rfl _ _ 67 rfl wr.heap.size 84 _ _ 6 48 T1.out HI.out HZ0.out HZ1.out HZ2.out rfl (by decide) _ k1 (tvs k1 f1) rfl q1 ⟨w11.heap.size, 0, none⟩ 1 1 [.int .i64 1, .int .i64 0, .int .u64 (lst (-z1)).x0, .int .u64 (lst (-z1)).x1, .int .u64 (lst (-z1)).x2, .int .u64 (lst (-z1)).x3] rfl rfl q2 q3 q4 q5 q6 ?_; intro v4 w12 ho4 hg4 _ _; have A4 := hidden ho4; have NOX := hidden (own_gr (own_keepT OX.out (bl_alloc w11 (.cells #[.int .i64 1, .int .i64 0, .int .u64 (lst (-z1)).x0, .int .u64 (lst (-z1)).x1, .int .u64 (lst (-z1)).x2, .int .u64 (lst (-z1)).x3] 84))) q1 (by decide) hg4); have NX1 : Hid (Bs3 w12 kB z1 mb n p c) := hidden ⟨blk_gr (X1.out.keep (bl_alloc w11 (.cells #[.int .i64 1, .int .i64 0, .int .u64 (lst (-z1)).x0, .int .u64 (lst (-z1)).x1, .int .u64 (lst (-z1)).x2, .int .u64 (lst (-z1)).x3] 84))).1 q1 (by decide) hg4, X1.out.2⟩; have B12 : Hid (Below wr.heap.size wr w12) := hidden ((bl_trans B7.out (bl_alloc w11 (.cells #[.int .i64 1, .int .i64 0, .int .u64 (lst (-z1)).x0, .int .u64 (lst (-z1)).x1, .int .u64 (lst (-z1)).x2, .int .u64 (lst (-z1)).x3] 84))).grown hg4 (bl_trans B7.out (bl_alloc w11 (.cells #[.int .i64 1, .int .i64 0, .int .u64 (lst (-z1)).x0, .int .u64 (lst (-z1)).x1, .int .u64 (lst (-z1)).x2, .int .u64 (lst (-z1)).x3] 84))).size (fun k' hk' => (q1.lt k' hk').1)); clear ho4 hg4 q1 q2 q3 q4 q5 q6))
      obtain ⟨P4, c4, e4, _, _⟩ := own_shT A4.out
      subst e4
      clear OA OX B7 X1 HI HZ0 HZ1 HZ2 T1
      obtain ⟨a0, a1, a2, a3⟩ := NX1.out.at
      have HI : Hid ((Tryz.prog.info? 86) = some (Tryz.prog.info? 86).get!) := hidden (by kernel_rfl)
      have HZ0 : Hid ((Tryz.prog.info? 86).get!.zero = some (.agg #[.int .i64 0, .int .i64 0, .int .u64 0, .int .u64 0, .int .u64 0, .int .u64 0])) := hidden (by kernel_rfl)
      have HZ1 : Hid ((Tryz.prog.info? 86).get!.size = 6) := hidden (by kernel_rfl)
      have HZ2 : Hid ((Tryz.prog.info? 86).get!.bytes = 48) := hidden (by kernel_rfl)
      have T1 : Hid (Tryz.prog.underlying 69 = some (.slice 86)) := hidden (by kernel_rfl)
      have OX := hidden NOX.out
      have OA := hidden A4.out
      have B7 := hidden B12.out
      have X1 := hidden NX1.out
      clear NOX A4 B12 NX1
      go_upto_region 35 with (first | (go_at_call 20; refine (CN.out _).mono ?_; rintro e w13 ⟨rfl, hb⟩; replace OA := hidden (own_keepT OA.out hb); replace OX := hidden (own_keepT OX.out hb); replace X1 := hidden (X1.out.keep hb); replace B7 := hidden (bl_trans B7.out hb); clear hb a0 a1 a2 a3) | (at_builtin; have q1 := own_keepT OX.out (bl_alloc w13 (.cells #[.int .i64 1, .int .i64 0, .int .u64 (lst (-z1)).x0, .int .u64 (lst (-z1)).x1, .int .u64 (lst (-z1)).x2, .int .u64 (lst (-z1)).x3] 86)); have q2 := cells_newT w13 [.int .i64 1, .int .i64 0, .int .u64 (lst (-z1)).x0, .int .u64 (lst (-z1)).x1, .int .u64 (lst (-z1)).x2, .int .u64 (lst (-z1)).x3] 86; have q3 : ∀ u ∈ ([.int .i64 1, .int .i64 0, .int .u64 (lst (-z1)).x0, .int .u64 (lst (-z1)).x1, .int .u64 (lst (-z1)).x2, .int .u64 (lst (-z1)).x3] : List Value), u.oneCell' = true := six_any _ _ _ _ _ _; have q4 : k1 + 1 ≤ maxLen := (by have := K1.out; unfold maxLen; omega); have q5 : (k1 + 1) * 48 ≤ 140737488355328 := (by have := K1.out; omega); have q6 : wr.heap.size ≤ (w13.alloc (.cells #[.int .i64 1, .int .i64 0, .int .u64 (lst (-z1)).x0, .int .u64 (lst (-z1)).x1, .int .u64 (lst (-z1)).x2, .int .u64 (lst (-z1)).x3] 86)).heap.size := (by have := B7.out.size; simp; omega); refine wpList_append_own_at _ rfl _ _ 69 rfl wr.heap.size 86 _ _ 6 48 T1.out HI.out HZ0.out HZ1.out HZ2.out rfl (by decide) _ k1 (tls (glL k1 f1)) rfl q1 ⟨w13.heap.size, 0, none⟩ 1 1 [.int .i64 1, .int .i64 0, .int .u64 (lst (-z1)).x0, .int .u64 (lst (-z1)).x1, .int .u64 (lst (-z1)).x2, .int .u64 (lst (-z1)).x3] rfl rfl q2 q3 q4 q5 q6 ?_; intro v5 w14 ho4 hg4 _ _; have A5 := hidden ho4; have NOA := hidden (own_gr (own_keepT OA.out (bl_alloc w13 (.cells #[.int .i64 1, .int .i64 0, .int .u64 (lst (-z1)).x0, .int .u64 (lst (-z1)).x1, .int .u64 (lst (-z1)).x2, .int .u64 (lst (-z1)).x3] 86))) q1 (by decide) hg4); have NX1 : Hid (Bs3 w14 kB z1 mb n p c) := hidden ⟨blk_gr (X1.out.keep (bl_alloc w13 (.cells #[.int .i64 1, .int .i64 0, .int .u64 (lst (-z1)).x0, .int .u64 (lst (-z1)).x1, .int .u64 (lst (-z1)).x2, .int .u64 (lst (-z1)).x3] 86))).1 q1 (by decide) hg4, X1.out.2⟩; have B14 : Hid (Below wr.heap.size wr w14) := hidden ((bl_trans B7.out (bl_alloc w13 (.cells #[.int .i64 1, .int .i64 0, .int .u64 (lst (-z1)).x0, .int .u64 (lst (-z1)).x1, .int .u64 (lst (-z1)).x2, .int .u64 (lst (-z1)).x3] 86))).grown hg4 (bl_trans B7.out (bl_alloc w13 (.cells #[.int .i64 1, .int .i64 0, .int .u64 (lst (-z1)).x0, .int .u64 (lst (-z1)).x1, .int .u64 (lst (-z1)).x2, .int .u64 (lst (-z1)).x3] 86))).size (fun k' hk' => (q1.lt k' hk').1)); clear ho4 hg4 q1 q2 q3 q4 q5 q6))
      obtain ⟨P5, c5, e5, _, _⟩ := own_shT A5.out
      subst e5
      clear OA OX B7 X1 HI HZ0 HZ1 HZ2 T1 X2 OB OY F2 K2 CN
      obtain ⟨g1, hg1⟩ : ∃ g1, updT f1 k1 ⟨(1, 0), lst (-z1)⟩ = g1 := ⟨_, rfl⟩
      have G1 : Hid (∀ q, q < k1 + 1 → (g1 q).a.ok ∧ hs j K (g1 q).q = true) := hidden (by rw [← hg1]; exact upd_all (p := fun t => t.a.ok ∧ hs j K t.q = true) F1.out ⟨lst_ok _, rfl⟩)
      have OA2 := hidden (show w14.ownsRow wr.heap.size 84 6 (.slice P4 (k1 + 1) c4) (k1 + 1) (tvs (k1 + 1) g1) by rw [← hg1, tvs_upd]; exact NOA.out)
      have OX2 := hidden (show w14.ownsRow wr.heap.size 86 6 (.slice P5 (k1 + 1) c5) (k1 + 1) (tls (glL (k1 + 1) g1)) by rw [← hg1, glL_upd, tls_snoc]; have e := A5.out; unfold tmOf Trm.cs; simp only [lst_n']; exact e)
      have D2 := hidden (DK.out w14 B14.out)
      clear NOA A5 B14 F1 D1 DK hg1
      have C1 := D2.out.pd.pRequire HT0.out P4 (k1 + 1) c4 g1 (by have := K1.out; omega) (fun q hq => (G1.out q hq).1) (own_lt OA2.out)
      obtain ⟨r1, r2⟩ := rqE_ok (m := j) (K := K) (Q := Q1) (gl_hs fun q hq => (G1.out q hq).2) (by have := HQ.out.2.1; omega)
      rw [r1] at C1
      have RL1 := hidden r2
      clear r1 r2
      replace C1 := hidden C1
      go_upto_region 36 with (go_at_call 9; refine C1.out.mono ?_; rintro e w15 ⟨rfl, hp, ho⟩; have P11 := hidden hp; have O11 := hidden ho; clear hp ho C1)
      have C2 := P11.out.dRequire P5 c5 (glL (k1 + 1) g1) (by rw [glL_len]; have := K1.out; omega) (by rw [glL_len]; have q := own_lts (X := glL (k1 + 1) g1) (by rw [glL_len]; exact O11.out.own OX2.out (by decide) (by decide)); rw [glL_len] at q; exact q)
      rw [glL_len] at C2
      obtain ⟨r1, r2⟩ := rqE_ok (m := j) (K := K) (Q := Q2) (gl_hs fun q hq => (G1.out q hq).2) (by have := HQ.out.1; have := HQ.out.2.1; omega)
      rw [r1] at C2
      have RL2 := hidden r2
      clear r1 r2
      replace C2 := hidden C2
      go_upto_region 40 with (go_at_call 10; refine C2.out.mono ?_; rintro e w16 ⟨rfl, hp, ho⟩; have P12 := hidden hp; have O12 := hidden ho; clear hp ho C2)
      have PN : Hid (∃ K Q1 Q2 n p c Z, Bd w cs t r j mb rb K Q1 Q2 n p c Z w16 ∧ (∀ i, i < 8 → n i = if i = 3 ∨ i = 7 then j else K) ∧ Q2.length = Q1.length ∧ Q1.length ≤ 2 + 2 * (i + 1) ∧ K ≤ 4) := hidden ⟨K, _, _, n, p, c, Z, D2.out.two O11.out O12.out P12.out, HN.out, by rw [RL1.out, RL2.out, HQ.out.1], by have := HQ.out.2.1; rw [RL1.out]; omega, HQ.out.2.2⟩
      clear P11 P12 O11 O12 RL1 RL2 D2 HN HQ
      clear OA2 OX2 G1 K1
      go_wp2_with fail
      go_roundw
      case rel => exact ⟨rfl, rfl, i + 1, by omega, by go_num, PN⟩
      case measure => simp [intOf]; omega
     by_cases d3 : dd = 3
     ·subst d3
      go_upto_region 38 with fail
      clear X1 X2 OB OY F2 K2 B7
      have C1 := D1.out.pd.pRequire HT0.out Pa (k1) cA f1 (by have := K1.out; omega) (fun q hq => (F1.out q hq).1) (own_lt OA.out)
      obtain ⟨r1, r2⟩ := rqE_ok (m := j) (K := K) (Q := Q1) (gl_hs fun q hq => (F1.out q hq).2) (by have := HQ.out.2.1; omega)
      rw [r1] at C1
      have RL1 := hidden r2
      clear r1 r2
      replace C1 := hidden C1
      go_upto_region 39 with (go_at_call 9; refine C1.out.mono ?_; rintro e w15 ⟨rfl, hp, ho⟩; have P11 := hidden hp; have O11 := hidden ho; clear hp ho C1)
      have C2 := P11.out.dRequire Px cX (glL (k1) f1) (by rw [glL_len]; have := K1.out; omega) (by rw [glL_len]; have q := own_lts (X := glL (k1) f1) (by rw [glL_len]; exact O11.out.own OX.out (by decide) (by decide)); rw [glL_len] at q; exact q)
      rw [glL_len] at C2
      obtain ⟨r1, r2⟩ := rqE_ok (m := j) (K := K) (Q := Q2) (gl_hs fun q hq => (F1.out q hq).2) (by have := HQ.out.1; have := HQ.out.2.1; omega)
      rw [r1] at C2
      have RL2 := hidden r2
      clear r1 r2
      replace C2 := hidden C2
      go_upto_region 40 with (go_at_call 10; refine C2.out.mono ?_; rintro e w16 ⟨rfl, hp, ho⟩; have P12 := hidden hp; have O12 := hidden ho; clear hp ho C2)
      have PN : Hid (∃ K Q1 Q2 n p c Z, Bd w cs t r j mb rb K Q1 Q2 n p c Z w16 ∧ (∀ i, i < 8 → n i = if i = 3 ∨ i = 7 then j else K) ∧ Q2.length = Q1.length ∧ Q1.length ≤ 2 + 2 * (i + 1) ∧ K ≤ 4) := hidden ⟨K, _, _, n, p, c, Z, D1.out.two O11.out O12.out P12.out, HN.out, by rw [RL1.out, RL2.out, HQ.out.1], by have := HQ.out.2.1; rw [RL1.out]; omega, HQ.out.2.2⟩
      clear P11 P12 O11 O12 RL1 RL2 D1 HN HQ
      clear OA OX F1 K1 DK
      go_wp2_with fail
      go_roundw
      case rel => exact ⟨rfl, rfl, i + 1, by omega, by go_num, PN⟩
      case measure => simp [intOf]; omega
     have PN : Hid (∃ K Q1 Q2 n p c Z, Bd w cs t r j mb rb K Q1 Q2 n p c Z w10 ∧ (∀ i, i < 8 → n i = if i = 3 ∨ i = 7 then j else K) ∧ Q2.length = Q1.length ∧ Q1.length ≤ 2 + 2 * (i + 1) ∧ K ≤ 4) := hidden ⟨K, Q1, Q2, n, p, c, Z, D1.out, HN.out, HQ.out.1, by have := HQ.out.2.1; omega, HQ.out.2.2⟩
     clear D1 HN HQ OA OX OB OY F1 F2 K1 K2 X1 X2 B7 DK
     go_wp2_with fail
     go_roundw
     case rel => exact ⟨rfl, rfl, i + 1, by omega, by go_num, PN⟩
     case measure => simp [intOf]; omega
    ·have hg : (i < no ∧ ¬ i < 6) ∨ ¬ i < no := by omega
     have E0 : Hid (arM t r n p c = arM t r n p c) := hidden rfl
     obtain ⟨cur, rb1, rb2⟩ := BD.out.hr
     have RB3 := hidden (And.intro rb1 rb2)
     clear rb1 rb2
     have OK4 : Hid (∀ y, wr.grownBy y (some rb) → PD w t r j K K Q1 Q2 y) := hidden (fun y hy => BD.out.pd.ok4 (ok4_of hy BD.out.lr BD.out.pd.bl.size RB3.out.1))
     have CG : Hid (∀ y, wr.grownBy y (some rb) → Calls Tryz.prog 21 #[.pointer (some ⟨t, 0, none⟩)] y fun e w' => e = .returned (.int .i64 (K : Int)) ∧ Below y.heap.size y w') := hidden (fun y hy => by obtain ⟨_, _, _, sy, _⟩ := (OK4.out y hy).p; exact (Gates_any sy).mono fun e w' ⟨he, hw⟩ => ⟨he, by rw [hw]; exact Below.refl _ _⟩)
     have CR : Hid (∀ y, wr.grownBy y (some rb) → Calls Tryz.prog 22 #[.pointer (some ⟨t, 0, none⟩)] y fun e w' => e = .returned (.int .i64 (Q1.length : Int)) ∧ Below y.heap.size y w') := hidden (fun y hy => by obtain ⟨_, _, _, sy, _⟩ := (OK4.out y hy).p; exact (Requires_any sy).mono fun e w' ⟨he, hw⟩ => ⟨he, by rw [hw]; exact Below.refl _ _⟩)
     obtain ⟨yb, yv, ys, dy, yl⟩ := BD.out.pd.d
     obtain ⟨Pv2, cv2, ev2, _, _⟩ := dy.shape
     subst ev2
     have x1 := dy.c1
     have x2 := dy.c2
     have rne : r ≠ rb := fun e => by have := dy.h; rw [e, RB3.out.1] at this; simp only [Option.some.injEq, Obj.cells.injEq] at this; exact absurd this.2.1 (by decide)
     rw [HQ.out.1] at x2
     have RN := hidden rne
     clear dy yl rne
     have RM := hidden (show wr.rangeAt mb 0 (arM t r n p c).toList from fun q v hv => by have := cell_of_row wr mb q _ 41 (0, 0) BD.out.md.hm; rw [Nat.zero_add, this]; rw [← Array.getElem?_toList]; exact hv)
     have TH := hidden (show wr.there rb 0 10 from fun q hq => ⟨by rw [Nat.zero_add, cell_of_row wr rb q _ 41 (0, 0) RB3.out.1]; have := RB3.out.2; simp; omega, by unfold World.frozen?; rw [RB3.out.1]; simp⟩)
     have LST : Hid ((arM t r n p c).toList.length = 10) := hidden rfl
     have ONE : Hid ((arM t r n p c).toList.toArray.all (·.oneCell') = true) := hidden (by simp [arM, Value.oneCell'])
     generalize hcs : (arM t r n p c).toList = cs0 at *
     rcases hg with ⟨g1, g2⟩ | g1
     ·have i1 : (i : Int) < (no : Int) := by omega
      have i6 : ¬ (i : Int) < 6 := by omega
      go_upto_region 42 with fail
      refine bu42 _ mb rb t r K Q1.length cv2 Pv2 cs0 _ _ _ _ _ _ _ _ _ _ _ _ _ _ _ _ _ _ _ _ _ _ _ _ _ _ _ _ _ _ _ _ _ _ _ _ _ _ _ _ _ _ _ _ _ _ _ _ _ _ _ _ _ _ _ _ _ _ _ _ _ _ _ _ _ _ _ _ _ _ _ _ _ _ _ _ _ _ _ _ _ _ _ _ _ _ _ _ _ _ _ _ _ _ _ _ _ _ _ _ _ _ _ _ _ _ _ _ _ _ _ _ _ _ _ _ _ _ _ _ _ _ _ _ _ _ _ _ _ _ _ _ _ _ _ _ _ _ _ _ _ _ _ _ _ _ _ _ _ _ _ _ _ _ _ _ _ _ _ _ _ _ _ _ _ _ _ _ _ _ _ _ _ _ _ _ _ _ _ _ _ _ _ _ _ _ _ _ _ _ _ _ _ _ _ _ _ _ _ _ _ _ _ _ _ _ _ _ _ _ _ _ _ _ _ _ _ _ _ _ _ _ _ _ _ _ _ wr CG CR RM.out x1 x2 (hidden (fun e => BD.out.ne (Option.some.inj e).symm)) (hidden (fun e => RN.out (Option.some.inj e))) LST ONE TH.out (hidden ?_)
      intro wz hg2 hr2
      have HF := hidden hr2
      have PF := hidden (OK4.out wz hg2)
      clear hg2 hr2
      subst hcs
      have r0 := HF.out 0 _ rfl
      have r1 := HF.out 1 _ rfl
      have r2 := HF.out 2 _ rfl
      have r3 := HF.out 3 _ rfl
      have r4 := HF.out 4 _ rfl
      have r5 := HF.out 5 _ rfl
      have r6 := HF.out 6 _ rfl
      have r7 := HF.out 7 _ rfl
      have r8 := HF.out 8 _ rfl
      have r9 := HF.out 9 _ rfl
      simp only [Nat.zero_add] at r0 r1 r2 r3 r4 r5 r6 r7 r8 r9
      go_wp2_with fail
      refine bodyPost_ret (v := .tuple #[.agg (arM t r n p c), .bool true]) (by simp [results, Tryz.results4, go_sem, arM, r0, r1, r2, r3, r4, r5, r6, r7, r8, r9]) rfl ⟨t, r, j, K, Q1, Q2, n, p, c, rfl, PF.out, HQ.out.1, by have := HQ.out.2.1; omega, HQ.out.2.2⟩
     ·have i1 : ¬ (i : Int) < (no : Int) := by omega
      go_upto_region 42 with fail
      refine bu42 _ mb rb t r K Q1.length cv2 Pv2 cs0 _ _ _ _ _ _ _ _ _ _ _ _ _ _ _ _ _ _ _ _ _ _ _ _ _ _ _ _ _ _ _ _ _ _ _ _ _ _ _ _ _ _ _ _ _ _ _ _ _ _ _ _ _ _ _ _ _ _ _ _ _ _ _ _ _ _ _ _ _ _ _ _ _ _ _ _ _ _ _ _ _ _ _ _ _ _ _ _ _ _ _ _ _ _ _ _ _ _ _ _ _ _ _ _ _ _ _ _ _ _ _ _ _ _ _ _ _ _ _ _ _ _ _ _ _ _ _ _ _ _ _ _ _ _ _ _ _ _ _ _ _ _ _ _ _ _ _ _ _ _ _ _ _ _ _ _ _ _ _ _ _ _ _ _ _ _ _ _ _ _ _ _ _ _ _ _ _ _ _ _ _ _ _ _ _ _ _ _ _ _ _ _ _ _ _ _ _ _ _ _ _ _ _ _ _ _ _ _ _ _ _ _ _ _ _ _ _ _ _ _ _ _ _ _ _ _ _ wr CG CR RM.out x1 x2 (hidden (fun e => BD.out.ne (Option.some.inj e).symm)) (hidden (fun e => RN.out (Option.some.inj e))) LST ONE TH.out (hidden ?_)
      intro wz hg2 hr2
      have HF := hidden hr2
      have PF := hidden (OK4.out wz hg2)
      clear hg2 hr2
      subst hcs
      have r0 := HF.out 0 _ rfl
      have r1 := HF.out 1 _ rfl
      have r2 := HF.out 2 _ rfl
      have r3 := HF.out 3 _ rfl
      have r4 := HF.out 4 _ rfl
      have r5 := HF.out 5 _ rfl
      have r6 := HF.out 6 _ rfl
      have r7 := HF.out 7 _ rfl
      have r8 := HF.out 8 _ rfl
      have r9 := HF.out 9 _ rfl
      simp only [Nat.zero_add] at r0 r1 r2 r3 r4 r5 r6 r7 r8 r9
      go_wp2_with fail
      refine bodyPost_ret (v := .tuple #[.agg (arM t r n p c), .bool true]) (by simp [results, Tryz.results4, go_sem, arM, r0, r1, r2, r3, r4, r5, r6, r7, r8, r9]) rfl ⟨t, r, j, K, Q1, Q2, n, p, c, rfl, PF.out, HQ.out.1, by have := HQ.out.2.1; omega, HQ.out.2.2⟩
end Ci
end Go.Proofs.YtnkaolobcglmlaaGreatDoor
