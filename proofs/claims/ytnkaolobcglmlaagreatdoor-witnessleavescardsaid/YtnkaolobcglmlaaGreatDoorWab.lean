import Derived.Test.YtnkaolobcglmlaaGreatDoorTk
import Derived.Test.YtnkaolobcglmlaaGreatDoorDye
import Derived.Test.YtnkaolobcglmlaaGreatDoorArz
import Derived.Test.YtnkaolobcglmlaaGreatDoorCmo
namespace Go.Proofs.YtnkaolobcglmlaaGreatDoor
open Go.RowKit
set_option linter.unusedVariables false
set_option linter.unusedSimpArgs false
open Cm (Wr Tm co bf Ls lf ins Eqm)
namespace Ci
set_option maxRecDepth 100000
set_option maxHeartbeats 8000000
def N3 (a b c i : Nat) : Prop := i ≠ a ∧ i ≠ b ∧ i ≠ c
structure K3 (a b c : Nat) (w w' : World) : Prop where
 os : w'.os = w.os
 tape : w'.tape = w.tape
 output : w'.output = w.output
 size : w.heap.size ≤ w'.heap.size
 block : ∀ i, i < w.heap.size → N3 a b c i → w'.heap[i]? = w.heap[i]?
section
variable {a b c : Nat} {w w' w2 : World}
theorem K3.of (h : Below w.heap.size w w') : K3 a b c w w' := ⟨h.os, h.tape, h.output, h.size, fun i hi _ => h.block i hi⟩
theorem K3.trans (h : K3 a b c w w') (k : K3 a b c w' w2) : K3 a b c w w2 := ⟨k.os.trans h.os, k.tape.trans h.tape, k.output.trans h.output, Nat.le_trans h.size k.size, fun i hi hn => (k.block i (Nat.lt_of_lt_of_le hi h.size) hn).trans (h.block i hi hn)⟩
theorem K3.bl (h : K3 a b c w w') (k : Below w'.heap.size w' w2) : K3 a b c w w2 := h.trans (K3.of k)
theorem K3.gr (h : K3 a b c w w') {r : Nat} (k : w'.grownBy w2 (some r)) (hr : r = a ∨ r = b ∨ r = c) : K3 a b c w w2 := h.trans ⟨k.os, k.tape, k.output, k.size, fun i hi hn => k.block i hi (fun e => by
 have := Option.some.inj e
 obtain ⟨h1, h2, h3⟩ := hn
 omega)⟩
theorem K3.cell (h : K3 a b c w w') {i o : Nat} {v : Value} (hc : w.cell? ⟨i, o, none⟩ = some v) (hn : N3 a b c i) : w'.cell? ⟨i, o, none⟩ = some v := by
 rw [World.cell?_of_block (h.block i (World.block_lt_of_cell? w _ hc) hn)]; exact hc
end
theorem i2R : (Tryz.prog.info? 51).map (·.size) = some 2 := by kernel_rfl
theorem there_setM {w : World} {b n : Nat} (h : w.there b 0 n) (c : Nat) (vs : List Value) : (w.setCells c 0 vs).there b 0 n := fun j hj => by
 obtain ⟨h1, h2⟩ := h j hj
 have key : ∀ (vs : List Value) (o : Nat) (w : World), ((w.cell? ⟨b, 0 + j, none⟩).isSome = true ∧ w.frozen? ⟨b, 0 + j, none⟩ = false) → (((w.setCells c o vs).cell? ⟨b, 0 + j, none⟩).isSome = true ∧ (w.setCells c o vs).frozen? ⟨b, 0 + j, none⟩ = false) := by
  intro vs
  induction vs with
  | nil => intro o w h; exact h
  | cons u us ih =>
   intro o w h
   refine ih (o + 1) _ ⟨?_, by rw [World.frozen?_setCell]; exact h.2⟩
   obtain ⟨x, hx⟩ := Option.isSome_iff_exists.1 h.1
   obtain ⟨v', hv⟩ := cell?_setCell_some (p := ⟨c, o, none⟩) (x := u) hx
   rw [hv]
   rfl
 exact key vs 0 w ⟨h1, h2⟩
def dm9o_0 : Oper := { dst := some 71, op := Op.load 51 (Operand.tmp 12), type := 51, pos := "circuit.go:192", after := #[], guard := none }
def dm9o_1 : Oper := { dst := some 72, op := Op.load 51 (Operand.tmp 13), type := 51, pos := "circuit.go:192", after := #[{ on := 4, ground := Ground.gcOnly Departure.lateStores }], guard := none }
def dm9o_2 : Oper := { dst := some 73, op := Op.load 51 (Operand.tmp 14), type := 51, pos := "circuit.go:192", after := #[{ on := 5, ground := Ground.gcOnly Departure.lateStores }], guard := none }
def dm9o_3 : Oper := { dst := some 74, op := Op.move (Operand.tmp 15), type := 48, pos := "circuit.go:192", after := #[{ on := 6, ground := Ground.gcOnly Departure.lateStores }], guard := none }
def dm9o_4 : Oper := { dst := none, op := Op.store 51 (Operand.tmp 6) (Operand.tmp 71), type := 0, pos := "circuit.go:192", after := #[{ on := 0, ground := Ground.data }, { on := 0, ground := Ground.phase }, { on := 1, ground := Ground.textOnly Departure.lateStores }, { on := 2, ground := Ground.textOnly Departure.lateStores }, { on := 3, ground := Ground.textOnly Departure.lateStores }], guard := none }
def dm9o_5 : Oper := { dst := none, op := Op.store 51 (Operand.tmp 7) (Operand.tmp 72), type := 0, pos := "circuit.go:192", after := #[{ on := 1, ground := Ground.data }, { on := 4, ground := Ground.chain }, { on := 0, ground := Ground.phase }, { on := 1, ground := Ground.phase }, { on := 2, ground := Ground.textOnly Departure.lateStores }, { on := 3, ground := Ground.textOnly Departure.lateStores }, { on := 4, ground := Ground.phase }], guard := none }
def dm9o_6 : Oper := { dst := none, op := Op.store 51 (Operand.tmp 8) (Operand.tmp 73), type := 0, pos := "circuit.go:192", after := #[{ on := 2, ground := Ground.data }, { on := 5, ground := Ground.chain }, { on := 0, ground := Ground.phase }, { on := 1, ground := Ground.phase }, { on := 2, ground := Ground.phase }, { on := 3, ground := Ground.textOnly Departure.lateStores }, { on := 4, ground := Ground.phase }, { on := 5, ground := Ground.phase }], guard := none }
def dm9o_7 : Oper := { dst := some 9, op := Op.assign (Operand.tmp 74), type := 48, pos := "circuit.go:192", after := #[{ on := 3, ground := Ground.data }, { on := 6, ground := Ground.chain }, { on := 0, ground := Ground.phase }, { on := 1, ground := Ground.phase }, { on := 2, ground := Ground.phase }, { on := 3, ground := Ground.phase }, { on := 4, ground := Ground.phase }, { on := 5, ground := Ground.phase }, { on := 6, ground := Ground.phase }], guard := none }
def dm9o : Array Oper := #[dm9o_0, dm9o_1, dm9o_2, dm9o_3, dm9o_4, dm9o_5, dm9o_6, dm9o_7]
set_option maxRecDepth 100000 in
set_option maxHeartbeats 16000000 in
theorem dm9 (Q : Exit → Act → World → Prop) (t6 t7 t8 B1 B2 B3 : Nat) (p0 q0 p1 q1 p2 q2 : Int) (E : Value) (u0 u1 u2 u3 u4 u5 u9 u10 u11 u16 u17 u18 u19 u20 u21 u22 u23 u24 u25 u26 u27 u28 u29 u30 u31 u32 u33 u34 u35 u36 u37 u38 u39 u40 u41 u42 u43 u44 u45 u46 u47 u48 u49 u50 u51 u52 u53 u54 u55 u56 u57 u58 u59 u60 u61 u62 u63 u64 u65 u66 u67 u68 u69 u70 u71 u72 u73 u74 : Value) (W : World)
  (na : N3 t6 t7 t8 B1) (nb : N3 t6 t7 t8 B2) (nc : N3 t6 t7 t8 B3) (h6 : W.there t6 0 2) (h7 : W.there t7 0 2) (h8 : W.there t8 0 2)
  (a0 : W.cell? ⟨B1, 0, none⟩ = some (.int .i64 p0)) (a1 : W.cell? ⟨B1, 1, none⟩ = some (.int .i64 q0)) (b0 : W.cell? ⟨B2, 0, none⟩ = some (.int .i64 p1)) (b1 : W.cell? ⟨B2, 1, none⟩ = some (.int .i64 q1)) (c0 : W.cell? ⟨B3, 0, none⟩ = some (.int .i64 p2)) (c1 : W.cell? ⟨B3, 1, none⟩ = some (.int .i64 q2))
  (HQ : Hid (∀ (wz : World), (∃ wv, (∃ wx, (∃ wy, Below W.heap.size W wy ∧ wx = wy.setCells t6 0 [.int .i64 p0, .int .i64 q0]) ∧ wv = wx.setCells t7 0 [.int .i64 p1, .int .i64 q1]) ∧ wz = wv.setCells t8 0 [.int .i64 p2, .int .i64 q2]) → K3 t6 t7 t8 W wz → Q .normal ⟨#[u0, u1, u2, u3, u4, u5, .pointer (some ⟨t6, 0, none⟩), .pointer (some ⟨t7, 0, none⟩), .pointer (some ⟨t8, 0, none⟩), E, u10, u11, .pointer (some ⟨B1, 0, none⟩), .pointer (some ⟨B2, 0, none⟩), .pointer (some ⟨B3, 0, none⟩), E, u16, u17, u18, u19, u20, u21, u22, u23, u24, u25, u26, u27, u28, u29, u30, u31, u32, u33, u34, u35, u36, u37, u38, u39, u40, u41, u42, u43, u44, u45, u46, u47, u48, u49, u50, u51, u52, u53, u54, u55, u56, u57, u58, u59, u60, u61, u62, u63, u64, u65, u66, u67, u68, u69, u70, .agg #[.int .i64 p0, .int .i64 q0], .agg #[.int .i64 p1, .int .i64 q1], .agg #[.int .i64 p2, .int .i64 q2], E], []⟩ wz)) : (Code.region 9 dm9o true).wp Tryz.prog Q ⟨#[u0, u1, u2, u3, u4, u5, .pointer (some ⟨t6, 0, none⟩), .pointer (some ⟨t7, 0, none⟩), .pointer (some ⟨t8, 0, none⟩), u9, u10, u11, .pointer (some ⟨B1, 0, none⟩), .pointer (some ⟨B2, 0, none⟩), .pointer (some ⟨B3, 0, none⟩), E, u16, u17, u18, u19, u20, u21, u22, u23, u24, u25, u26, u27, u28, u29, u30, u31, u32, u33, u34, u35, u36, u37, u38, u39, u40, u41, u42, u43, u44, u45, u46, u47, u48, u49, u50, u51, u52, u53, u54, u55, u56, u57, u58, u59, u60, u61, u62, u63, u64, u65, u66, u67, u68, u69, u70, u71, u72, u73, u74], []⟩ W := by
 have BB := hidden (bl_drew W)
 have TH6 := hidden (there_bl h6 (bl_drew W))
 have TH7 := hidden (there_bl h7 (bl_drew W))
 have TH8 := hidden (there_bl h8 (bl_drew W))
 clear h6 h7 h8
 unfold dm9o
 refine wp_region_noPanic ?_
 refine wp_region_held_drew (S := fun x => K3 t6 t7 t8 W x) (by kernel_rfl) (K3.of (bl_drew W)) (fun hH0 => ?_)
 refine tk 0 dm9o_0 (.agg #[.int .i64 p0, .int .i64 q0]) rfl (by kernel_rfl) hH0 rfl (fun w0 hSw => ?_) ?_
 ·(unfold dm9o_0; have hS : K3 t6 t7 t8 W w0 := hSw; have a0 := hS.cell a0 na; have a1 := hS.cell a1 na; clear hS hSw; go_simp)
 simp only [dm9o_0, Act.put, sA, sB, sC]
 refine tk 1 dm9o_1 (.agg #[.int .i64 p1, .int .i64 q1]) rfl (by kernel_rfl) hH0 rfl (fun w0 hSw => ?_) ?_
 ·(unfold dm9o_1; have hS : K3 t6 t7 t8 W w0 := hSw; have a0 := hS.cell b0 nb; have a1 := hS.cell b1 nb; clear hS hSw; go_simp)
 simp only [dm9o_1, Act.put, sA, sB, sC]
 refine tk 2 dm9o_2 (.agg #[.int .i64 p2, .int .i64 q2]) rfl (by kernel_rfl) hH0 rfl (fun w0 hSw => ?_) ?_
 ·(unfold dm9o_2; have hS : K3 t6 t7 t8 W w0 := hSw; have a0 := hS.cell c0 nc; have a1 := hS.cell c1 nc; clear hS hSw; go_simp)
 simp only [dm9o_2, Act.put, sA, sB, sC]
 refine tk 3 dm9o_3 (E) rfl (by kernel_rfl) hH0 rfl (fun w0 hSw => ?_) ?_
 ·(unfold dm9o_3; clear hSw; go_simp)
 simp only [dm9o_3, Act.put, sA, sB, sC]
 refine wpAnyH_ready (rs := [4]) (by kernel_rfl) (by simp) ?_
 refine AllReadyH.cons (o := dm9o_4) rfl (fun K hK => ?_) AllReadyH.nil
 unfold dm9o_4
 have HH := hidden hH0
 clear hH0
 refine wp_storeE 51 _ _ rfl t6 0 ([.int .i64 p0, .int .i64 q0]) (by rfl) (by rfl) TH6.out i2R (one2 _ _) rfl (fun wn1 hw => ?_)
 have SN := hidden (HH.out.gr (gb_setCells t6 [.int .i64 p0, .int .i64 q0] 0 _) (by omega))
 replace TH7 := hidden (there_setM TH7.out t6 [.int .i64 p0, .int .i64 q0])
 replace TH8 := hidden (there_setM TH8.out t6 [.int .i64 p0, .int .i64 q0])
 have F1 := hidden ((⟨_, BB.out, hw⟩ : ∃ wy, Below W.heap.size W wy ∧ _ = wy.setCells t6 0 [.int .i64 p0, .int .i64 q0]))
 rw [← hw] at SN TH7 TH8
 clear HH hw
 refine hK.out _ _ SN.out (fun hH1 => ?_)
 clear hK K SN
 refine wpAnyH_ready (rs := [5]) (by kernel_rfl) (by simp) ?_
 refine AllReadyH.cons (o := dm9o_5) rfl (fun K hK => ?_) AllReadyH.nil
 unfold dm9o_5
 have HH := hidden hH1
 clear hH1
 refine wp_storeE 51 _ _ rfl t7 0 ([.int .i64 p1, .int .i64 q1]) (by rfl) (by rfl) TH7.out i2R (one2 _ _) rfl (fun wn2 hw => ?_)
 have SN := hidden (HH.out.gr (gb_setCells t7 [.int .i64 p1, .int .i64 q1] 0 _) (by omega))
 replace TH8 := hidden (there_setM TH8.out t7 [.int .i64 p1, .int .i64 q1])
 have F2 := hidden ((⟨_, F1.out, hw⟩ : ∃ wy, (∃ wx, Below W.heap.size W wx ∧ wy = wx.setCells t6 0 [.int .i64 p0, .int .i64 q0]) ∧ _ = wy.setCells t7 0 [.int .i64 p1, .int .i64 q1]))
 rw [← hw] at SN TH8
 clear HH hw
 refine hK.out _ _ SN.out (fun hH2 => ?_)
 clear hK K SN
 refine wpAnyH_ready (rs := [6]) (by kernel_rfl) (by simp) ?_
 refine AllReadyH.cons (o := dm9o_6) rfl (fun K hK => ?_) AllReadyH.nil
 unfold dm9o_6
 have HH := hidden hH2
 clear hH2
 refine wp_storeE 51 _ _ rfl t8 0 ([.int .i64 p2, .int .i64 q2]) (by rfl) (by rfl) TH8.out i2R (one2 _ _) rfl (fun wn3 hw => ?_)
 have SN := hidden (HH.out.gr (gb_setCells t8 [.int .i64 p2, .int .i64 q2] 0 _) (by omega))
 have F3 := hidden ((⟨_, F2.out, hw⟩ : ∃ wy, (∃ wv, (∃ wx, Below W.heap.size W wx ∧ wv = wx.setCells t6 0 [.int .i64 p0, .int .i64 q0]) ∧ wy = wv.setCells t7 0 [.int .i64 p1, .int .i64 q1]) ∧ _ = wy.setCells t8 0 [.int .i64 p2, .int .i64 q2]))
 rw [← hw] at SN
 clear HH hw
 refine hK.out _ _ SN.out (fun hH3 => ?_)
 clear hK K SN
 refine tk 7 dm9o_7 (E) rfl (by kernel_rfl) hH3 rfl (fun w0 hSw => ?_) ?_
 ·(unfold dm9o_7; clear hSw; go_simp)
 simp only [dm9o_7, Act.put, sA, sB, sC]
 have HH := hidden hH3
 have FQ := hidden (HQ.out _ F3.out HH.out)
 refine wpAnyH_done (by kernel_rfl) ?_ _
 refine NoPanic.normal ?_
 exact FQ.out
def T3 (a : Nat) (x : World) : Prop := x.heap[a]? = some (.cells #[.int .i64 0, .int .i64 0] 51 (0, 0)) ∧ x.heap[a + 1]? = some (.cells #[.int .i64 0, .int .i64 0] 51 (0, 0)) ∧ x.heap[a + 1 + 1]? = some (.cells #[.int .i64 0, .int .i64 0] 51 (0, 0))
theorem T3.keep {a : Nat} {x y : World} (h : T3 a x) (hb : Below x.heap.size x y) : T3 a y := ⟨(hb.block _ (Array.getElem?_eq_some_iff.1 h.1).1).trans h.1, (hb.block _ (Array.getElem?_eq_some_iff.1 h.2.1).1).trans h.2.1, (hb.block _ (Array.getElem?_eq_some_iff.1 h.2.2).1).trans h.2.2⟩
theorem T3.fy {a s : Nat} {v : Value} {x y : World} (h : T3 a x) (hf : Fy s v s x y) (hs : s < a) (hv : ∀ k, v.ownBlock = some k → k < a) : T3 a y :=
 ⟨(hf.block _ (Array.getElem?_eq_some_iff.1 h.1).1 (by omega) (fun e => by have := hv _ e; omega) (by omega)).trans h.1, (hf.block _ (Array.getElem?_eq_some_iff.1 h.2.1).1 (by omega) (fun e => by have := hv _ e; omega) (by omega)).trans h.2.1, (hf.block _ (Array.getElem?_eq_some_iff.1 h.2.2).1 (by omega) (fun e => by have := hv _ e; omega) (by omega)).trans h.2.2⟩
theorem T3.gr {a s : Nat} {x y : World} (h : T3 a x) (hf : x.grownBy y (some s)) (hs : s < a) : T3 a y :=
 ⟨(hf.block _ (Array.getElem?_eq_some_iff.1 h.1).1 (fun e => by have := Option.some.inj e; omega)).trans h.1, (hf.block _ (Array.getElem?_eq_some_iff.1 h.2.1).1 (fun e => by have := Option.some.inj e; omega)).trans h.2.1, (hf.block _ (Array.getElem?_eq_some_iff.1 h.2.2).1 (fun e => by have := Option.some.inj e; omega)).trans h.2.2⟩
theorem th_of {a : Nat} {x : World} (h : x.heap[a]? = some (.cells #[.int .i64 0, .int .i64 0] 51 (0, 0))) : x.there a 0 2 := fun j hj => by
 have hc := cell_of_row x a (0 + j) _ 51 (0, 0) h
 refine ⟨?_, ?_⟩
 ·rw [hc]
  have : j = 0 ∨ j = 1 := by omega
  rcases this with rfl | rfl <;> rfl
 ·unfold World.frozen?
  rw [h]
  simp
theorem T3.new (w : World) : T3 w.heap.size ((((w).alloc (.cells #[.int .i64 0, .int .i64 0] 51)).alloc (.cells #[.int .i64 0, .int .i64 0] 51)).alloc (.cells #[.int .i64 0, .int .i64 0] 51)) := by
 refine ⟨?_, ?_, ?_⟩ <;> simp only [World.alloc, Array.getElem?_push, Array.size_push] <;> (repeat first | rw [if_pos trivial] | rw [if_pos rfl] | rw [if_neg (by omega)])
theorem set3 {W wz : World} {a : Nat} {p0 q0 p1 q1 p2 q2 : Int} (h : T3 a W) (hz : ∃ wv, (∃ wx, (∃ wy, Below W.heap.size W wy ∧ wx = wy.setCells a 0 [.int .i64 p0, .int .i64 q0]) ∧ wv = wx.setCells (a + 1) 0 [.int .i64 p1, .int .i64 q1]) ∧ wz = wv.setCells (a + 1 + 1) 0 [.int .i64 p2, .int .i64 q2]) :
  (wz.cell? ⟨a, 0, none⟩ = some (.int .i64 p0) ∧ wz.cell? ⟨a, 1, none⟩ = some (.int .i64 q0)) ∧ (wz.cell? ⟨a + 1, 0, none⟩ = some (.int .i64 p1) ∧ wz.cell? ⟨a + 1, 1, none⟩ = some (.int .i64 q1)) ∧ (wz.cell? ⟨a + 1 + 1, 0, none⟩ = some (.int .i64 p2) ∧ wz.cell? ⟨a + 1 + 1, 1, none⟩ = some (.int .i64 q2)) := by
 obtain ⟨wv, ⟨wx, ⟨wy, hb, rfl⟩, rfl⟩, rfl⟩ := hz
 have k := h.keep hb
 have t6 := th_of k.1
 have t7 := there_setM (th_of k.2.1) a [.int .i64 p0, .int .i64 q0]
 have t8 := there_setM (there_setM (th_of k.2.2) a [.int .i64 p0, .int .i64 q0]) (a + 1) [.int .i64 p1, .int .i64 q1]
 refine ⟨⟨?_, ?_⟩, ⟨?_, ?_⟩, ⟨?_, ?_⟩⟩
 ·rw [World.cell?_setCells_out _ _ _ _ _ (fun e => by simp at e; omega), World.cell?_setCells_out _ _ _ _ _ (fun e => by simp at e)]
  exact (World.cell?_setCells_in a [.int .i64 p0, .int .i64 q0] 0 _ (fun j hj => (t6 j hj).1) 0 (by simp)).trans rfl
 ·rw [World.cell?_setCells_out _ _ _ _ _ (fun e => by simp at e; omega), World.cell?_setCells_out _ _ _ _ _ (fun e => by simp at e)]
  exact (World.cell?_setCells_in a [.int .i64 p0, .int .i64 q0] 0 _ (fun j hj => (t6 j hj).1) 1 (by simp)).trans rfl
 ·rw [World.cell?_setCells_out _ _ _ _ _ (fun e => by simp at e)]
  exact (World.cell?_setCells_in (a + 1) [.int .i64 p1, .int .i64 q1] 0 _ (fun j hj => (t7 j hj).1) 0 (by simp)).trans rfl
 ·rw [World.cell?_setCells_out _ _ _ _ _ (fun e => by simp at e)]
  exact (World.cell?_setCells_in (a + 1) [.int .i64 p1, .int .i64 q1] 0 _ (fun j hj => (t7 j hj).1) 1 (by simp)).trans rfl
 ·exact (World.cell?_setCells_in (a + 1 + 1) [.int .i64 p2, .int .i64 q2] 0 _ (fun j hj => (t8 j hj).1) 0 (by simp)).trans rfl
 ·exact (World.cell?_setCells_in (a + 1 + 1) [.int .i64 p2, .int .i64 q2] 0 _ (fun j hj => (t8 j hj).1) 1 (by simp)).trans rfl
theorem own_k3 {a : Nat} {x y : World} {b1 sz : Nat} {e : TypeId} {u : Value} {n : Nat} {xs : List Value} (h : T3 a x) (hk : K3 a (a + 1) (a + 1 + 1) x y) (ho : x.ownsRow b1 e sz u n xs) (he : e ≠ 51) : y.ownsRow b1 e sz u n xs := ⟨ho.1, by
 rcases ho.2 with h0 | ⟨g, c, cur, h1, h2, h3, h4⟩
 ·exact .inl h0
 ·refine .inr ⟨g, c, cur, h1, h2, (hk.block g (Array.getElem?_eq_some_iff.1 h3).1 ⟨fun e' => ?_, fun e' => ?_, fun e' => ?_⟩).trans h3, h4⟩
  ·subst e'; have := h.1.symm.trans h3; simp only [Option.some.injEq, Obj.cells.injEq] at this; exact he this.2.1.symm
  ·subst e'; have := h.2.1.symm.trans h3; simp only [Option.some.injEq, Obj.cells.injEq] at this; exact he this.2.1.symm
  ·subst e'; have := h.2.2.symm.trans h3; simp only [Option.some.injEq, Obj.cells.injEq] at this; exact he this.2.1.symm⟩
theorem Dy.k3 {base : Nat} {w : World} {s m Kg : Nat} {v : Value} {vs : List Value} {Q : List (List Tm)} {a : Nat} {y : World} (h : Dy base w s m Kg v vs Q) (t : T3 a w) (hk : K3 a (a + 1) (a + 1 + 1) w y) (hs : s < a) : Dy base y s m Kg v vs Q :=
 ⟨(hk.block s h.lt ⟨by omega, by omega, by omega⟩).trans h.h, own_k3 t hk h.row (by decide), fun i X hX => by obtain ⟨u, h1, h2⟩ := h.ls i X hX; exact ⟨u, h1, own_k3 t hk h2 (by decide)⟩, h.bs, h.sm⟩
theorem dMultiply_ok {base : Nat} {w : World} {s m Kg : Nat} {v : Value} {vs : List Value} {Q : List (List Tm)} (h : Dy base w s m Kg v vs Q) (Pa Pb : Option Addr) (ca cb : Nat) (A B : List Tm) (hna : A.length ≤ 1048576) (hnb : B.length ≤ 1048576) (ha : w.ownsRow 0 86 6 (.slice Pa A.length ca) A.length (tls A)) (hb : w.ownsRow 0 86 6 (.slice Pb B.length cb) B.length (tls B)) (hwa : nm m Kg (lf Sm.L A).length (ft (lf Sm.L A)) = true) (hwb : nm m Kg (lf Sm.L B).length (ft (lf Sm.L B)) = true) (hq : Q.length ≤ 4094) (hK : Kg < 1024) :
  Calls Tryz.prog 19 #[.pointer (some ⟨s, 0, none⟩), .slice Pa A.length ca, .slice Pb B.length cb] w fun e w' => e = .returned (tup 2 Kg 3 Kg 4 Kg 0) ∧ ∃ v' vs' Q', Q'.length = Q.length + 2 ∧ Dy base w' s m (Kg + 1) v' vs' Q' ∧ Fz s v w w' := by
 have BA := hidden (bl_alloc3 w (.cells #[.int .i64 0, .int .i64 0] 51) (.cells #[.int .i64 0, .int .i64 0] 51) (.cells #[.int .i64 0, .int .i64 0] 51))
 have T0 := hidden (T3.new w)
 have C0 := hidden (fun y (hy : Below w.heap.size w y) => Known_any (h.keep hy) Pa ca A (by omega) (own_lts (own_keepT ha hy)))
 have C1 := hidden (fun y (hy : Below w.heap.size w y) => Known_any (h.keep hy) Pb cb B (by omega) (own_lts (own_keepT hb hy)))
 rw [hwa] at C0
 rw [hwb] at C1
 obtain ⟨Pv, cv, hv, hlc, hpv⟩ := h.shape
 have HV := hidden (fun k hk => (h.vb k hk).2)
 have HLT := hidden h.lt
 subst hv
 have LA := hidden (And.intro hna ha)
 have LB := hidden (And.intro hnb hb)
 have HS := hidden h
 generalize hea : A.length = na at *
 generalize heb : B.length = nb at *
 generalize hnq : Q.length = nq at *
 have EA := hidden hea
 have EB := hidden heb
 have HNQ := hidden hnq
 have HQ := hidden hq
 clear h ha hb hwa hwb hna hnb hea heb hnq hlc hpv hq
 go_enter Tryz.func19, Tryz.ntmps19
 go_upto_region 1 with fail
 generalize ((((w).alloc (.cells #[.int .i64 0, .int .i64 0] 51)).alloc (.cells #[.int .i64 0, .int .i64 0] 51)).alloc (.cells #[.int .i64 0, .int .i64 0] 51)) = w0 at *
 replace C0 := hidden (C0.out w0 BA.out)
 go_upto_region 2 with (go_at_call 28; refine C0.out.mono ?_; rintro e w1 ⟨rfl, hbb⟩; have B1 := hidden (bl_trans BA.out hbb); have T1 := hidden (T0.out.keep hbb); clear hbb)
 replace C1 := hidden (C1.out w1 B1.out)
 clear C0 T0 BA
 go_upto_region 3 with (go_at_call 28; refine C1.out.mono ?_; rintro e w2 ⟨rfl, hbb⟩; have B2 := hidden (bl_trans B1.out hbb); have T2 := hidden (T1.out.keep hbb); clear hbb)
 clear C1 T1 B1
 have SY2 := hidden (HS.out.keep B2.out)
 have k1 := SY2.out.c1
 have k2 := SY2.out.c2
 have l8 : ¬ (1024 : Int) ≤ (Kg : Int) := by omega
 have l9 : ¬ (4094 : Int) < (nq : Int) := by have := HQ.out; omega
 go_upto_region 7 with fail
 clear k1 k2
 have C3 := dGate_ok SY2.out hK
 simp only [tup] at C3
 replace C3 := hidden C3
 go_upto_region 8 with (go_at_call 8; refine C3.out.mono ?_; rintro e w3 ⟨rfl, hsy, hgg⟩; have SY3 := hidden hsy; have G3 := hidden hgg; have T4 := hidden (T2.out.gr hgg HLT.out); clear hsy hgg)
 clear C3 T2
 have BN := bl_alloc3 w3 (.cells #[.int .i64 2, .int .i64 (Kg : Int)] 51) (.cells #[.int .i64 3, .int .i64 (Kg : Int)] 51) (.cells #[.int .i64 4, .int .i64 (Kg : Int)] 51)
 have a00 : (((w3.alloc (.cells #[.int .i64 2, .int .i64 (Kg : Int)] 51)).alloc (.cells #[.int .i64 3, .int .i64 (Kg : Int)] 51)).alloc (.cells #[.int .i64 4, .int .i64 (Kg : Int)] 51)).cell? ⟨w3.heap.size, 0, none⟩ = some (.int .i64 2) := by go_simp
 have a01 : (((w3.alloc (.cells #[.int .i64 2, .int .i64 (Kg : Int)] 51)).alloc (.cells #[.int .i64 3, .int .i64 (Kg : Int)] 51)).alloc (.cells #[.int .i64 4, .int .i64 (Kg : Int)] 51)).cell? ⟨w3.heap.size, 1, none⟩ = some (.int .i64 (Kg : Int)) := by go_simp
 have a10 : (((w3.alloc (.cells #[.int .i64 2, .int .i64 (Kg : Int)] 51)).alloc (.cells #[.int .i64 3, .int .i64 (Kg : Int)] 51)).alloc (.cells #[.int .i64 4, .int .i64 (Kg : Int)] 51)).cell? ⟨w3.heap.size + 1, 0, none⟩ = some (.int .i64 3) := by go_simp
 have a11 : (((w3.alloc (.cells #[.int .i64 2, .int .i64 (Kg : Int)] 51)).alloc (.cells #[.int .i64 3, .int .i64 (Kg : Int)] 51)).alloc (.cells #[.int .i64 4, .int .i64 (Kg : Int)] 51)).cell? ⟨w3.heap.size + 1, 1, none⟩ = some (.int .i64 (Kg : Int)) := by go_simp
 have a20 : (((w3.alloc (.cells #[.int .i64 2, .int .i64 (Kg : Int)] 51)).alloc (.cells #[.int .i64 3, .int .i64 (Kg : Int)] 51)).alloc (.cells #[.int .i64 4, .int .i64 (Kg : Int)] 51)).cell? ⟨w3.heap.size + 1 + 1, 0, none⟩ = some (.int .i64 4) := by go_simp
 have a21 : (((w3.alloc (.cells #[.int .i64 2, .int .i64 (Kg : Int)] 51)).alloc (.cells #[.int .i64 3, .int .i64 (Kg : Int)] 51)).alloc (.cells #[.int .i64 4, .int .i64 (Kg : Int)] 51)).cell? ⟨w3.heap.size + 1 + 1, 1, none⟩ = some (.int .i64 (Kg : Int)) := by go_simp
 generalize (((w3.alloc (.cells #[.int .i64 2, .int .i64 (Kg : Int)] 51)).alloc (.cells #[.int .i64 3, .int .i64 (Kg : Int)] 51)).alloc (.cells #[.int .i64 4, .int .i64 (Kg : Int)] 51)) = w4 at *
 have SY4 := hidden (SY3.out.keep BN)
 have T5 := hidden (T4.out.keep BN)
 have Z3 : w.heap.size ≤ w3.heap.size := Nat.le_trans B2.out.size G3.out.size
 have ns := HLT.out
 have nv : ∀ k, w3.heap.size ≤ k → (Value.slice Pv nq cv).ownBlock ≠ some k := fun k hk e => by have := HV.out k e; omega
 have FZ4 : Hid (Fz s (.slice Pv nq cv) w w4) := hidden ⟨BN.os.trans (G3.out.os.trans B2.out.os), BN.tape.trans (G3.out.tape.trans B2.out.tape), BN.output.trans (G3.out.output.trans B2.out.output), Nat.le_trans Z3 BN.size, fun i hi h1 h2 => by
  rw [BN.block i (Nat.lt_of_lt_of_le hi Z3), G3.out.block i (Nat.lt_of_lt_of_le hi B2.out.size) (fun e => h1 (Option.some.inj e))]
  exact B2.out.block i hi⟩
 have OA := hidden (own_fz FZ4.out HS.out.h HS.out.row LA.out.2 (by decide) (by decide))
 have OB := hidden (own_fz FZ4.out HS.out.h HS.out.row LB.out.2 (by decide) (by decide))
 have RA : ∀ y, Fy s (.slice Pv nq cv) s w4 y → Lt y Pa A.length (ft A) := fun y hy => own_lts (by rw [EA.out]; exact own_fz (Fz.mk hy.os hy.tape hy.output hy.size (fun i hi h1 h2 => hy.block i hi h1 h2 h1)) SY4.out.h SY4.out.row OA.out (by decide) (by decide))
 have RB : ∀ y, Fy s (.slice Pv nq cv) s w4 y → Lt y Pb B.length (ft B) := fun y hy => own_lts (by rw [EB.out]; exact own_fz (Fz.mk hy.os hy.tape hy.output hy.size (fun i hi h1 h2 => hy.block i hi h1 h2 h1)) SY4.out.h SY4.out.row OB.out (by decide) (by decide))
 refine dm8 _ base s m (Kg + 1) nq cv _ _ w3.heap.size (w3.heap.size + 1) na ca nb cb Pv Pa Pb 2 (Kg : Int) 3 (Kg : Int) vs Q (lf Sm.L ([((2, (Kg : Int)), 1)] ++ lf Sm.L (sc (-1) A))) (lf Sm.L ([((3, (Kg : Int)), 1)] ++ lf Sm.L (sc (-1) B))) _ _ _ _ _ _ _ _ _ _ _ _ _ _ _ _ _ _ _ _ _ _ _ _ _ _ _ _ _ _ _ _ _ _ _ _ _ _ _ _ _ _ _ _ _ _ _ _ _ _ _ _ _ _ _ _ _ _ _ _ _ _ _ _ _ _ _ _ _ _ w4 SY4.out HNQ (hidden (by have := HQ.out; omega)) (hidden rfl) (hidden rfl) (hidden (Cm.lf_ls L0 _)) (hidden (Cm.lf_ls L0 _)) (by omega) (nv _ (Nat.le_refl _)) (by omega) (nv _ (by omega)) a00 a01 a10 a11 (hidden (fun y => dOf_sl (2, (Kg : Int)) y)) (hidden (fun P c y hy h1 => by have C := dSub_sl (2, (Kg : Int)) P Pa c ca A y (by rw [EA.out]; exact LA.out.1) h1 (RA y hy); rw [EA.out] at C; exact C)) (hidden (fun y => dOf_sl (3, (Kg : Int)) y)) (hidden (fun P c y hy h1 => by have C := dSub_sl (3, (Kg : Int)) P Pb c cb B y (by rw [EB.out]; exact LB.out.1) h1 (RB y hy); rw [EB.out] at C; exact C)) (hidden ?_)
 intro wz O1 O2 R1 R2 P4 o1 o2 e1 e2 c4 tb hf hsy
 have T6 := hidden (T5.out.fy hf HLT.out HV.out)
 have b00 := hf.cl a00 (by omega) (nv _ (Nat.le_refl _)) (by omega)
 have b01 := hf.cl a01 (by omega) (nv _ (Nat.le_refl _)) (by omega)
 have b10 := hf.cl a10 (by omega) (nv _ (by omega)) (by omega)
 have b11 := hf.cl a11 (by omega) (nv _ (by omega)) (by omega)
 have b20 := hf.cl a20 (by omega) (nv _ (by omega)) (by omega)
 have b21 := hf.cl a21 (by omega) (nv _ (by omega)) (by omega)
 have z3 : w.heap.size + 1 + 1 < w3.heap.size := (Array.getElem?_eq_some_iff.1 T4.out.2.2).1
 have FZ5 : Hid (Fz s (.slice Pv nq cv) w wz) := hidden ⟨hf.os.trans FZ4.out.os, hf.tape.trans FZ4.out.tape, hf.output.trans FZ4.out.output, Nat.le_trans FZ4.out.size hf.size, fun i hi h1 h2 => (hf.block i (Nat.lt_of_lt_of_le hi FZ4.out.size) h1 h2 h1).trans (FZ4.out.block i hi h1 h2)⟩
 have SY6 := hidden hsy
 clear hsy hf RA RB OA OB a00 a01 a10 a11 a20 a21 SY4 SY3 SY2 T5 T4 FZ4 BN G3 B2 nv
 go_upto_region 9 with fail
 refine dm9 _ w.heap.size (w.heap.size + 1) (w.heap.size + 1 + 1) w3.heap.size (w3.heap.size + 1) (w3.heap.size + 1 + 1) 2 (Kg : Int) 3 (Kg : Int) 4 (Kg : Int) (.int .i64 0) _ _ _ _ _ _ _ _ _ _ _ _ _ _ _ _ _ _ _ _ _ _ _ _ _ _ _ _ _ _ _ _ _ _ _ _ _ _ _ _ _ _ _ _ _ _ _ _ _ _ _ _ _ _ _ _ _ _ _ _ _ _ _ _ _ _ _ _ wz ⟨by omega, by omega, by omega⟩ ⟨by omega, by omega, by omega⟩ ⟨by omega, by omega, by omega⟩ (th_of T6.out.1) (th_of T6.out.2.1) (th_of T6.out.2.2) b00 b01 b10 b11 b20 b21 (hidden ?_)
 intro wy h3 hk
 obtain ⟨⟨d00, d01⟩, ⟨d10, d11⟩, d20, d21⟩ := set3 T6.out h3
 have SY7 := hidden (SY6.out.k3 T6.out hk HLT.out)
 have FZ7 : Hid (Fz s (.slice Pv nq cv) w wy) := hidden ⟨hk.os.trans FZ5.out.os, hk.tape.trans FZ5.out.tape, hk.output.trans FZ5.out.output, Nat.le_trans FZ5.out.size hk.size, fun i hi h1 h2 => (hk.block i (Nat.lt_of_lt_of_le hi FZ5.out.size) ⟨by omega, by omega, by omega⟩).trans (FZ5.out.block i hi h1 h2)⟩
 clear h3 hk b00 b01 b10 b11 b20 b21 SY6 FZ5 T6
 go_wp2_with fail
 refine bodyPost_ret (v := tup 2 Kg 3 Kg 4 Kg 0) (by simp [results, Tryz.results19, go_sem, d00, d01, d10, d11, d20, d21, tup]) rfl ⟨rfl, _, _, _, ?_, SY7.out, FZ7.out⟩
 rw [List.length_append, HNQ.out]
 rfl
end Ci
end Go.Proofs.YtnkaolobcglmlaaGreatDoor
namespace Go.Proofs.YtnkaolobcglmlaaGreatDoor
open Go.RowKit
set_option linter.unusedVariables false
set_option linter.unusedSimpArgs false
open Cm (Wr Tm co bf lf ins Eqm)
namespace Ci
set_option maxRecDepth 100000
set_option maxHeartbeats 8000000
theorem At_any (n : Nat) (i : Int) (w : World) (hn : 0 < n) (hn2 : n ≤ 100000) (h0 : -9223372036854775808 ≤ i) (h1 : i ≤ 9223372036854775807) : Calls Tryz.prog 6 #[.int .i64 i, .int .i64 (n : Int)] w fun e w' => ∃ r : Nat, e = .returned (.int .i64 (r : Int)) ∧ r < n ∧ w' = w := by
 have C : Hid (Calls Tryz.prog 24 #[.int .i64 i, .int .i64 (n : Int)] w fun e w' => ∃ r : Nat, e = .returned (.int .i64 (r : Int)) ∧ r < n ∧ w' = w) := hidden (by
  have hp : (0 : Int) < (n : Int) := by omega
  have t1 : -(n : Int) < i.tmod n := by have := Int.lt_tmod_of_pos i hp; omega
  have t2 : i.tmod n < n := Int.tmod_lt_of_pos i hp
  have n0 : ¬ n = 0 := by omega
  obtain ⟨t, ht⟩ : ∃ t, i.tmod n = t := ⟨_, rfl⟩
  rw [ht] at t1 t2
  have t7 : IntKind.i64.wrap t = t := IntWalk.i64_in _ (by omega)
  have dv : ∀ x : World, (Op.intDiv .rem .i64 i (n : Int)).run Tryz.prog x = .ok (.int .i64 t) x := fun x => by simp [Op.intDiv, ht, t7, n0, go_sem]
  have s0 : (0 : Int) ≤ (t + (n : Int)).tmod n := Int.tmod_nonneg _ (by omega)
  have s2 : (t + (n : Int)).tmod n < n := Int.tmod_lt_of_pos _ hp
  obtain ⟨u, hu⟩ : ∃ u, t + (n : Int) = u := ⟨_, rfl⟩
  have w9 : IntKind.i64.wrap (t + (n : Int)) = u := by rw [IntWalk.i64_in _ (by omega)]; exact hu
  rw [hu] at s0 s2
  obtain ⟨k, hk⟩ : ∃ k, u.tmod n = k := ⟨_, rfl⟩
  rw [hk] at s0 s2
  have k7 : IntKind.i64.wrap k = k := IntWalk.i64_in _ (by omega)
  have dw : ∀ x : World, (Op.intDiv .rem .i64 u (n : Int)).run Tryz.prog x = .ok (.int .i64 k) x := fun x => by simp [Op.intDiv, hk, k7, n0, go_sem]
  have HT := hidden ht
  have HW : Hid (wrap64 (t + (n : Int)) = u) := hidden (by rw [← hu]; unfold wrap64; omega)
  have HK := hidden hk
  clear ht t7 hu hk k7
  go_enter Tryz.func24, Tryz.ntmps24
  go_wp2_with fail
  refine bodyPost_ret (v := .int .i64 k) (by simp [results, Tryz.results24, go_sem]; rw [HT.out, HW.out]; exact HK.out) rfl ⟨k.toNat, by rw [Int.toNat_of_nonneg (by omega)], by omega, rfl⟩)
 clear hn hn2 h0 h1
 go_enter Tryz.func6, Tryz.ntmps6
 go_wp2_with (go_at_call 24; refine C.out.mono ?_; rintro e w1 ⟨r, rfl, hr, rfl⟩; have HR := hidden hr; clear hr)
 refine bodyPost_ret (v := .int .i64 (r : Int)) (by simp [results, Tryz.results6, go_sem]) rfl ⟨r, rfl, HR.out, rfl⟩
def wls (X : List Wr) : List Value := X.flatMap fun q => [.int .i64 q.1, .int .i64 q.2]
theorem wls_app (X Y : List Wr) : wls (X ++ Y) = wls X ++ wls Y := by simp [wls]
def Wl (w : World) (X : List Wr) (v : Value) (w' : World) : Prop := w'.ownsRow w.heap.size 51 2 v X.length (wls X) ∧ Below w.heap.size w w'
theorem wls_at : ∀ (X : List Wr) (j : Nat) (q : Wr), X[j]? = some q → (wls X)[j * 2]? = some (.int .i64 q.1) ∧ (wls X)[j * 2 + 1]? = some (.int .i64 q.2)
 | [], j, q, h => by simp at h
 | x :: X, 0, q, h => by
  simp only [List.getElem?_cons_zero, Option.some.injEq] at h
  subst h
  exact ⟨rfl, rfl⟩
 | x :: X, j + 1, q, h => by
  simp only [List.getElem?_cons_succ] at h
  obtain ⟨h1, h2⟩ := wls_at X j q h
  have e : wls (x :: X) = .int .i64 x.1 :: .int .i64 x.2 :: wls X := rfl
  rw [e, show (j + 1) * 2 = j * 2 + 1 + 1 by omega]
  simp only [List.getElem?_cons_succ]
  exact ⟨h1, h2⟩
theorem Wl.at {w w' : World} {X : List Wr} {b c : Nat} {q : Wr} {j : Nat} (h : Wl w X (.slice (some ⟨b, 0, none⟩) X.length c) w') (hj : X[j]? = some q) : w'.cell? ⟨b, j * 2, none⟩ = some (.int .i64 q.1) ∧ w'.cell? ⟨b, j * 2 + 1, none⟩ = some (.int .i64 q.2) := by
 obtain ⟨h1, h2⟩ := wls_at X j q hj
 have hc := h.1.cells rfl
 have k1 := hc _ _ h1
 have k2 := hc _ _ h2
 rw [Addr.add_lit, Nat.zero_add] at k1 k2
 exact ⟨k1, k2⟩
theorem hs_b {m Kg j : Nat} (k : Int) (hk : k = 2 ∨ k = 3 ∨ k = 4) (h : j < Kg) : hs m Kg (k, (j : Int)) = true := by
 unfold hs
 rcases hk with rfl | rfl | rfl <;> (simp only [Bool.and_eq_true, decide_eq_true_eq]; exact ⟨by omega, by omega, by omega, (by omega : (j : Int) < (Kg : Int))⟩)
theorem hs_v {m Kg j : Nat} (h : j < m) : hs m Kg (5, (j : Int)) = true := by
 unfold hs
 simp only [Bool.and_eq_true, decide_eq_true_eq]
 exact ⟨by omega, by omega, by omega, (by omega : (j : Int) < (m : Int))⟩
theorem own_sh2 {w : World} {base n s : Nat} {t : TypeId} {v : Value} {xs : List Value} (h : w.ownsRow base t s v n xs) : ∃ (P : Option Addr) (c : Nat), v = .slice P n c ∧ n ≤ c := by
 rcases h.2 with ⟨h1, h2⟩ | ⟨g, c, cur, h1, _, _, h4, _⟩
 ·exact ⟨none, 0, by rw [h1, h2], by omega⟩
 ·exact ⟨_, c, h1, h4⟩
theorem wires_any {base : Nat} {w : World} {s m Kg : Nat} {v : Value} {vs : List Value} {Q : List (List Tm)} (h : Dy base w s m Kg v vs Q) (hm : m ≤ 16) (hK : Kg ≤ 1024) : Calls Tryz.prog 36 #[.pointer (some ⟨s, 0, none⟩)] w fun e w' => ∃ X v, e = .returned v ∧ Wl w X v w' ∧ 0 < X.length ∧ X.length ≤ 4000 ∧ ∀ q ∈ X, hs m Kg q = true := by
 have HI : Hid ((Tryz.prog.info? 51) = some (Tryz.prog.info? 51).get!) := hidden (by kernel_rfl)
 have HZ0 : Hid ((Tryz.prog.info? 51).get!.zero = some (.agg #[.int .i64 0, .int .i64 0])) := hidden (by kernel_rfl)
 have HZ1 : Hid ((Tryz.prog.info? 51).get!.size = 2) := hidden (by kernel_rfl)
 have HZ2 : Hid ((Tryz.prog.info? 51).get!.bytes = 16) := hidden (by kernel_rfl)
 have T1 : Hid (Tryz.prog.underlying 106 = some (.slice 51)) := hidden (by kernel_rfl)
 have HS := hidden h
 have HM := hidden hm
 have HK := hidden hK
 have W0 : Hid (Wl w [(1, 0)] (.slice (some ⟨w.heap.size, 0, none⟩) 1 1) (w.alloc (.cells #[.int .i64 1, .int .i64 0] 51)) ∧ 1 ≤ ([(1, 0)] : List Wr).length ∧ ([(1, 0)] : List Wr).length = 1 + 3 * 0 ∧ ∀ q ∈ ([(1, 0)] : List Wr), hs m Kg q = true) := hidden ⟨⟨⟨rfl, .inr ⟨w.heap.size, 1, #[.int .i64 1, .int .i64 0], rfl, Nat.le_refl _, heap_alloc_new w _, Nat.le_refl _, by unfold maxLen; decide, rfl, rfl⟩⟩, bl_alloc w _⟩, by simp, by simp, fun q hq => by simp at hq; subst hq; rfl⟩
 clear h hm hK
 go_enter Tryz.func36, Tryz.ntmps36
 go_upto_region 2 with fail
 generalize w.alloc (.cells #[.int .i64 1, .int .i64 0] 51) = w1 at *
 generalize Value.slice (some ⟨w.heap.size, 0, none⟩) 1 1 = v1 at *
 go_upto_region 3 with fail
 go_loopw [3, 4] (fun lv iv w' => ∃ i : Nat, i ≤ Kg ∧ iv = .int .i64 (i : Int) ∧ Hid (∃ X, Wl w X lv w' ∧ 1 ≤ X.length ∧ X.length = 1 + 3 * i ∧ ∀ q ∈ X, hs m Kg q = true)) (fun _ i _ => Kg - (intOf i).toNat)
 case atStart => exact ⟨0, by omega, rfl, hidden ⟨_, W0.out⟩⟩
 case round =>
  clear W0
  obtain ⟨i, hi, rfl, hR⟩ := hrel
  obtain ⟨X, hW, h1, h2, h3⟩ := hR.out
  have XL : Hid (X.length ≤ 3100) := hidden (by have := HK.out; omega)
  have XE := hidden h2
  have XO := hidden h1
  have XA := hidden h3
  replace hW := hidden hW
  clear hR h1 h2 h3
  have c1 := (HS.out.keep hW.out.2).c1
  by_cases hin : i < Kg
  ·have i1 : (i : Int) < (Kg : Int) := by omega
   have w9 : IntKind.i64.wrap ((i : Int) + 1) = (i : Int) + 1 := IntWalk.i64_in _ (by have := HK.out; omega)
   go_wp2_with (first | (at_builtin; have q1 := own_keepT hW.out.1 (bl_alloc wr (.cells #[.int .i64 2, .int .i64 (i : Int), .int .i64 3, .int .i64 (i : Int), .int .i64 4, .int .i64 (i : Int)] 51)); have q2 := cells_newT wr [.int .i64 2, .int .i64 (i : Int), .int .i64 3, .int .i64 (i : Int), .int .i64 4, .int .i64 (i : Int)] 51; have q3 : ∀ u ∈ ([.int .i64 2, .int .i64 (i : Int), .int .i64 3, .int .i64 (i : Int), .int .i64 4, .int .i64 (i : Int)] : List Value), u.oneCell' = true := (by simp [Value.oneCell']); have q4 : X.length + 3 ≤ maxLen := (by have := XL.out; unfold maxLen; omega); have q5 : (X.length + 3) * 16 ≤ 140737488355328 := (by have := XL.out; omega); have q6 : w.heap.size ≤ (wr.alloc (.cells #[.int .i64 2, .int .i64 (i : Int), .int .i64 3, .int .i64 (i : Int), .int .i64 4, .int .i64 (i : Int)] 51)).heap.size := (by have := hW.out.2.size; simp; omega); refine wpList_append_own_at _ rfl _ _ 106 rfl w.heap.size 51 _ _ 2 16 T1.out HI.out HZ0.out HZ1.out HZ2.out rfl (by decide) _ X.length (wls X) rfl q1 ⟨wr.heap.size, 0, none⟩ 3 3 [.int .i64 2, .int .i64 (i : Int), .int .i64 3, .int .i64 (i : Int), .int .i64 4, .int .i64 (i : Int)] rfl rfl q2 q3 q4 q5 q6 ?_; intro v4 w4 ho4 hg4 _ _; have O4 := hidden ho4; have B4 : Hid (Below w.heap.size w w4) := hidden ((bl_trans hW.out.2 (bl_alloc wr (.cells #[.int .i64 2, .int .i64 (i : Int), .int .i64 3, .int .i64 (i : Int), .int .i64 4, .int .i64 (i : Int)] 51))).grown hg4 (bl_trans hW.out.2 (bl_alloc wr (.cells #[.int .i64 2, .int .i64 (i : Int), .int .i64 3, .int .i64 (i : Int), .int .i64 4, .int .i64 (i : Int)] 51))).size (fun k' hk' => (q1.lt k' hk').1)); clear ho4 hg4 q1 q2 q3 q4 q5 q6))
   have PN : Hid (∃ X, Wl w X v4 w4 ∧ 1 ≤ X.length ∧ X.length = 1 + 3 * (i + 1) ∧ ∀ q ∈ X, hs m Kg q = true) := hidden ⟨X ++ [(2, (i : Int)), (3, (i : Int)), (4, (i : Int))], ⟨by rw [wls_app, List.length_append]; exact O4.out, B4.out⟩, by have := XO.out; rw [List.length_append]; omega, by have := XE.out; rw [List.length_append]; simp; omega, fun q hq => by
    rcases List.mem_append.1 hq with hq | hq
    ·exact XA.out q hq
    ·simp only [List.mem_cons, List.not_mem_nil, or_false] at hq
     rcases hq with rfl | rfl | rfl
     ·exact hs_b 2 (by omega) hin
     ·exact hs_b 3 (by omega) hin
     ·exact hs_b 4 (by omega) hin⟩
   clear O4 B4 hW XL XE XO XA c1
   go_roundw
   case rel => exact ⟨i + 1, by omega, by go_num, PN⟩
   case measure => simp [intOf]; omega
  ·obtain rfl : i = Kg := by omega
   have lq : ¬ (i : Int) < (i : Int) := by omega
   have W2 : Hid (∃ X, Wl w X u3 wr ∧ 1 ≤ X.length ∧ X.length = 1 + 3 * i + 0 ∧ ∀ q ∈ X, hs m i q = true) := hidden ⟨X, hW.out, XO.out, by have := XE.out; omega, XA.out⟩
   clear hW XL XE XO XA X
   go_upto_region 7 with fail
   clear c1
   generalize wr = w2 at *
   generalize u3 = v2 at *
   go_loopw [3, 5] (fun lv jv w' => ∃ j : Nat, j ≤ m ∧ jv = .int .i64 (j : Int) ∧ Hid (∃ X, Wl w X lv w' ∧ 1 ≤ X.length ∧ X.length = 1 + 3 * i + j ∧ ∀ q ∈ X, hs m i q = true)) (fun _ j _ => m - (intOf j).toNat)
   case atStart => exact ⟨0, by omega, rfl, W2⟩
   case round =>
    clear W2
    obtain ⟨j, hj, rfl, hR⟩ := hrel
    obtain ⟨X, hW, h1, h2, h3⟩ := hR.out
    have XL : Hid (X.length ≤ 3100) := hidden (by have := HK.out; have := HM.out; omega)
    have XE := hidden h2
    have XO := hidden h1
    have XA := hidden h3
    replace hW := hidden hW
    clear hR h1 h2 h3
    have c0 := (HS.out.keep hW.out.2).c0
    by_cases hjm : j < m
    ·have j1 : (j : Int) < (m : Int) := by omega
     have w9 : IntKind.i64.wrap ((j : Int) + 1) = (j : Int) + 1 := IntWalk.i64_in _ (by have := HM.out; omega)
     go_wp2_with (first | (at_builtin; have q1 := own_keepT hW.out.1 (bl_alloc wr (.cells #[.int .i64 5, .int .i64 (j : Int)] 51)); have q2 := cells_newT wr [.int .i64 5, .int .i64 (j : Int)] 51; have q3 : ∀ u ∈ ([.int .i64 5, .int .i64 (j : Int)] : List Value), u.oneCell' = true := (by simp [Value.oneCell']); have q4 : X.length + 1 ≤ maxLen := (by have := XL.out; unfold maxLen; omega); have q5 : (X.length + 1) * 16 ≤ 140737488355328 := (by have := XL.out; omega); have q6 : w.heap.size ≤ (wr.alloc (.cells #[.int .i64 5, .int .i64 (j : Int)] 51)).heap.size := (by have := hW.out.2.size; simp; omega); refine wpList_append_own_at _ rfl _ _ 106 rfl w.heap.size 51 _ _ 2 16 T1.out HI.out HZ0.out HZ1.out HZ2.out rfl (by decide) _ X.length (wls X) rfl q1 ⟨wr.heap.size, 0, none⟩ 1 1 [.int .i64 5, .int .i64 (j : Int)] rfl rfl q2 q3 q4 q5 q6 ?_; intro v4 w4 ho4 hg4 _ _; have O4 := hidden ho4; have B4 : Hid (Below w.heap.size w w4) := hidden ((bl_trans hW.out.2 (bl_alloc wr (.cells #[.int .i64 5, .int .i64 (j : Int)] 51))).grown hg4 (bl_trans hW.out.2 (bl_alloc wr (.cells #[.int .i64 5, .int .i64 (j : Int)] 51))).size (fun k' hk' => (q1.lt k' hk').1)); clear ho4 hg4 q1 q2 q3 q4 q5 q6))
     have PN : Hid (∃ X, Wl w X v4 w4 ∧ 1 ≤ X.length ∧ X.length = 1 + 3 * i + (j + 1) ∧ ∀ q ∈ X, hs m i q = true) := hidden ⟨X ++ [(5, (j : Int))], ⟨by rw [wls_app, List.length_append]; exact O4.out, B4.out⟩, by have := XO.out; rw [List.length_append]; omega, by have := XE.out; rw [List.length_append]; simp; omega, fun q hq => by
      rcases List.mem_append.1 hq with hq | hq
      ·exact XA.out q hq
      ·simp only [List.mem_cons, List.not_mem_nil, or_false] at hq
       subst hq
       exact hs_v hjm⟩
     clear O4 B4 hW XL XE XO XA c0
     go_roundw
     case rel => exact ⟨j + 1, by omega, by go_num, PN⟩
     case measure => simp [intOf]; omega
    ·obtain rfl : j = m := by omega
     have lq2 : ¬ (j : Int) < (j : Int) := by omega
     obtain ⟨P2, c2, e2, _⟩ := own_sh2 hW.out.1
     subst e2
     go_wp2_with fail
     refine bodyPost_ret (v := .slice P2 X.length c2) (by simp [results, Tryz.results36, go_sem]) rfl ⟨X, _, rfl, hW.out, by have := XO.out; omega, by have := XL.out; omega, fun a b hq => XA.out (a, b) hq⟩
end Ci
end Go.Proofs.YtnkaolobcglmlaaGreatDoor
