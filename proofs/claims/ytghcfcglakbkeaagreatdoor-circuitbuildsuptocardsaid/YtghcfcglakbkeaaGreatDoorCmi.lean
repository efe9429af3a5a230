import Derived.Test.YtghcfcglakbkeaaGreatDoorCmh
import Derived.Deep.MidRow
namespace Go.Proofs.YtghcfcglakbkeaaGreatDoor
set_option maxRecDepth 100000
set_option maxHeartbeats 16000000
open Go.RowKit
set_option linter.unusedVariables false
set_option linter.unusedSimpArgs false
open Cm (Wr Tm co bf Ls lf ins Eqm)
namespace Ci
theorem wp_storeE {P : Program} {op : Oper} {a : Act} {w : World} {Kg : Act → World → Prop} {Q : Exit → Act → World → Prop} (ty : TypeId) (x y : Operand) (ho : op.op = .store ty x y) (b o : Nat) (cs : List Value) (hx : a.eval x = .pointer (some ⟨b, o, none⟩)) (hy : a.eval y = .agg cs.toArray) (ht : w.there b o cs.length) (hi : (P.info? ty).map (·.size) = some cs.length) (h1 : cs.toArray.all (·.oneCell') = true) (hd : op.dst = none)
  (h : ∀ w', w' = w.setCells b o cs → Kg a w') : op.wp P a w Kg Q := by
 refine wp_store_mid ty x y ho b o cs.toArray hx hy (by simpa using ht) (by simpa using hi) h1 ?_
 have := h _ rfl
 simpa [hd, Act.put] using this
theorem there_newM (w : World) (cs : List Value) (t : TypeId) : (w.alloc (.cells cs.toArray t)).there w.heap.size 0 cs.length := fun j hj => by
 refine ⟨?_, by go_simp⟩
 rw [cell_of_row _ _ (0 + j) cs.toArray t (0, 0) (heap_alloc_new w _), Nat.zero_add]
 simp [hj]
theorem there_bl {w w' : World} {b o n : Nat} (h : w.there b o n) (hb : Below w.heap.size w w') : w'.there b o n := fun j hj => by
 obtain ⟨h1, h2⟩ := h j hj
 obtain ⟨v, hv⟩ := Option.isSome_iff_exists.1 h1
 have hl := World.block_lt_of_cell? w _ hv
 exact ⟨by rw [cell_keep hv hb]; rfl, (hb.frozen (p := ⟨b, o + j, none⟩) hl).trans h2⟩
theorem gb_setCells (b : Nat) : ∀ (cs : List Value) (o : Nat) (w : World), w.grownBy (w.setCells b o cs) (some b)
 | [], _, w => World.grownBy.refl _ _
 | c :: cs, o, w => gb_tr (show w.grownBy (w.setCell ⟨b, o, none⟩ c) (some b) from ⟨rfl, rfl, rfl, by simp [World.setCell], fun i _ hi => heap_setCell_other w ⟨b, o, none⟩ i c (fun e => hi (by rw [e]))⟩) (gb_setCells b cs (o + 1) (w.setCell ⟨b, o, none⟩ c))
theorem run_index_arrC {P : Program} {w : World} {t e : TypeId} {n : Nat} {cs : Array Value} {k : IntKind} {i : Nat} {v : Value} (h : P.underlying t = some (.array n e)) (hp : P.plainKey e = true) {x : TypeInfo} (hinfo : P.info? e = some x) (hc : P.cellsOf e = 1) (hn : (i : Int) < n) (hv : cs[i]? = some v) :
  (Instr.index t (.agg cs) (.int k i)).run P w = .ok v w := by
 have hr : 0 ≤ (i : Int) ∧ (i : Int) < (n : Int) := by omega
 have hsz := run_sizeOf w hinfo
 rw [hc] at hsz
 simp only [Instr.index, run_underlying h, asIntOf, Sem.run_bind, Sem.run_pure, Result.andThen_ok, if_pos hr, hsz, Int.toNat_natCast, Nat.mul_one, run_part_plain w hp hv]
structure Sy (base : Nat) (w : World) (s m Kg : Nat) (v : Value) (vs : List Value) (Q : List (List Tm)) : Prop where
 h : w.heap[s]? = some (.cells #[.int .i64 (m : Int), .int .i64 (Kg : Int), v, .bool true] 27 (0, 0))
 row : w.ownsRow base 38 1 v Q.length vs
 ls : ∀ (i : Nat) (X : List Tm), Q[i]? = some X → ∃ u, vs[i]? = some u ∧ w.ownsRow 0 123 6 u X.length (tls X)
 bs : base ≤ s
 sm : ∀ X ∈ Q, Ls Sm.L X
section
variable {base : Nat} {w : World} {s m Kg : Nat} {v : Value} {vs : List Value} {Q : List (List Tm)}
theorem Sy.cell (h : Sy base w s m Kg v vs Q) (j : Nat) : w.cell? ⟨s, j, none⟩ = (#[.int .i64 (m : Int), .int .i64 (Kg : Int), v, .bool true] : Array Value)[j]? := cell_of_row w s j _ 27 (0, 0) h.h
theorem Sy.c0 (h : Sy base w s m Kg v vs Q) : w.cell? ⟨s, 0, none⟩ = some (.int .i64 (m : Int)) := h.cell 0
theorem Sy.c1 (h : Sy base w s m Kg v vs Q) : w.cell? ⟨s, 1, none⟩ = some (.int .i64 (Kg : Int)) := h.cell 1
theorem Sy.c2 (h : Sy base w s m Kg v vs Q) : w.cell? ⟨s, 2, none⟩ = some v := h.cell 2
theorem Sy.c3 (h : Sy base w s m Kg v vs Q) : w.cell? ⟨s, 3, none⟩ = some (.bool true) := h.cell 3
theorem Sy.fz (h : Sy base w s m Kg v vs Q) (j : Nat) : w.frozen? ⟨s, j, none⟩ = false := by
 unfold World.frozen?
 rw [h.h]
 simp
theorem Sy.lt (h : Sy base w s m Kg v vs Q) : s < w.heap.size := (Array.getElem?_eq_some_iff.1 h.h).1
theorem Sy.keep (h : Sy base w s m Kg v vs Q) {w' : World} (hb : Below w.heap.size w w') : Sy base w' s m Kg v vs Q :=
 ⟨(hb.block s h.lt).trans h.h, own_keepT h.row hb, fun i X hX => by obtain ⟨u, h1, h2⟩ := h.ls i X hX; exact ⟨u, h1, own_keepT h2 hb⟩, h.bs, h.sm⟩
theorem Sy.shape (h : Sy base w s m Kg v vs Q) : ∃ P c, v = .slice P Q.length c ∧ Q.length ≤ c ∧ (0 < Q.length → ∃ g, P = some ⟨g, 0, none⟩) := by
 rcases h.row.2 with ⟨h1, h2⟩ | ⟨g, c, cur, h1, _, _, h4, _⟩
 ·exact ⟨none, 0, by rw [h1, h2], by omega, fun h => by omega⟩
 ·exact ⟨_, c, h1, h4, fun _ => ⟨g, rfl⟩⟩
theorem Sy.map (h : Sy base w s m Kg v vs Q) {w' : World} {b : Nat} {M : List Tm} (hM : Mp w b M) (hg : w.grownBy w' (some b)) : Sy base w' s m Kg v vs Q :=
 ⟨(hg.block s h.lt (fun e => Mp.nob hM _ _ _ (by rw [← Option.some.inj e]; exact h.h))).trans h.h, own_keepM h.row hg (Mp.nob hM), fun i X hX => by obtain ⟨u, h1, h2⟩ := h.ls i X hX; exact ⟨u, h1, own_keepM h2 hg (Mp.nob hM)⟩, h.bs, h.sm⟩
end
theorem none_any {base : Nat} {w : World} {s m Kg : Nat} {v : Value} {vs : List Value} {Q : List (List Tm)} (h : Sy base w s m Kg v vs Q) : Calls Tryz.prog 44 #[.pointer (some ⟨s, 0, none⟩)] w fun e w' => e = .returned (.bool false) ∧ w' = w := by
 have c3 := h.c3
 clear h
 go_enter Tryz.func44, Tryz.ntmps44
 go_wp2_with fail
 refine bodyPost_ret (v := .bool false) (by simp [results, Tryz.results44, go_sem]) rfl ⟨rfl, rfl⟩
theorem Gates_any {base : Nat} {w : World} {s m Kg : Nat} {v : Value} {vs : List Value} {Q : List (List Tm)} (h : Sy base w s m Kg v vs Q) : Calls Tryz.prog 29 #[.pointer (some ⟨s, 0, none⟩)] w fun e w' => e = .returned (.int .i64 (Kg : Int)) ∧ w' = w := by
 have C := Hn (none_any h)
 have c1 := h.c1
 clear h
 go_enter Tryz.func29, Tryz.ntmps29
 go_wp2_with (go_at_call 44; refine C.out.mono ?_; rintro e w1 ⟨rfl, rfl⟩)
 refine bodyPost_ret (v := .int .i64 (Kg : Int)) (by simp [results, Tryz.results29, go_sem]) rfl ⟨rfl, rfl⟩
theorem Requires_any {base : Nat} {w : World} {s m Kg : Nat} {v : Value} {vs : List Value} {Q : List (List Tm)} (h : Sy base w s m Kg v vs Q) : Calls Tryz.prog 31 #[.pointer (some ⟨s, 0, none⟩)] w fun e w' => e = .returned (.int .i64 (Q.length : Int)) ∧ w' = w := by
 have C := Hn (none_any h)
 have c2 := h.c2
 obtain ⟨P, c, rfl, _, _⟩ := h.shape
 clear h
 generalize Q.length = n at *
 go_enter Tryz.func31, Tryz.ntmps31
 go_wp2_with (go_at_call 44; refine C.out.mono ?_; rintro e w1 ⟨rfl, rfl⟩)
 refine bodyPost_ret (v := .int .i64 (n : Int)) (by simp [results, Tryz.results31, go_sem]) rfl ⟨rfl, rfl⟩
theorem i6_s : (Tryz.prog.info? 146).map (·.size) = some 6 := by kernel_rfl
theorem one6 (m Kg : Nat) : ([.int .i64 0, .int .i64 1, .int .i64 (Kg : Int), .int .i64 (Kg : Int), .int .i64 (Kg : Int), .int .i64 (m : Int)] : List Value).toArray.all (·.oneCell') = true := by simp [Value.oneCell']
def pCmi0 : String := "circuit.go:37"
def pCmi1 : String := "circuit.go:42"
def cn1o_0 : Oper := oO 3 (Op.move (Operand.tmp 0)) 23 pCmi0 #[]
def cn1o_1 : Oper := oO 4 (Op.nilCheck (Operand.tmp 3)) 0 pCmi0 #[DD 0]
def cn1o_2 : Oper := oO 5 (Op.fieldAddr 27 (Operand.tmp 4) 1) 0 pCmi0 #[DD 1]
def cn1o_3 : Oper := oO 6 (Op.load 3 (Operand.tmp 5)) 3 pCmi0 #[DD 2]
def cn1o_4 : Oper := oO 7 (Op.move (Operand.tmp 0)) 23 pCmi0 #[]
def cn1o_5 : Oper := oO 8 (Op.nilCheck (Operand.tmp 7)) 0 pCmi0 #[DD 4]
def cn1o_6 : Oper := oO 9 (Op.fieldAddr 27 (Operand.tmp 8) 1) 0 pCmi0 #[DD 5]
def cn1o_7 : Oper := oO 10 (Op.load 3 (Operand.tmp 9)) 3 pCmi0 #[DD 6]
def cn1o_8 : Oper := oO 11 (Op.move (Operand.tmp 0)) 23 pCmi0 #[]
def cn1o_9 : Oper := oO 12 (Op.nilCheck (Operand.tmp 11)) 0 pCmi0 #[DD 8]
def cn1o_10 : Oper := oO 13 (Op.fieldAddr 27 (Operand.tmp 12) 1) 0 pCmi0 #[DD 9]
def cn1o_11 : Oper := oO 14 (Op.load 3 (Operand.tmp 13)) 3 pCmi0 #[DD 10]
def cn1o_12 : Oper := oO 15 (Op.move (Operand.tmp 0)) 23 pCmi0 #[]
def cn1o_13 : Oper := oO 16 (Op.nilCheck (Operand.tmp 15)) 0 pCmi0 #[DD 12]
def cn1o_14 : Oper := oO 17 (Op.fieldAddr 27 (Operand.tmp 16) 0) 0 pCmi0 #[DD 13]
def cn1o_15 : Oper := oO 18 (Op.load 3 (Operand.tmp 17)) 3 pCmi0 #[DD 14]
def cn1o_16 : Oper := oO 19 (Op.build 146 #[(1, Operand.const (Value.int IntKind.i64 1)), (2, Operand.tmp 6), (3, Operand.tmp 10), (4, Operand.tmp 14), (5, Operand.tmp 18)]) 146 pCmi0 #[DD 3, DD 7, DD 11, DD 15]
def cn1o_17 : Oper := oN (Op.store 146 (Operand.tmp 2) (Operand.tmp 19)) pCmi0 #[DD 16, PH 0, PH 1, PH 2, PH 3, PH 4, PH 5, PH 6, PH 7, PH 8, PH 9, PH 10, PH 11, PH 12, PH 13, PH 14, PH 15, PH 16]
def cn1o : Array Oper := #[cn1o_0, cn1o_1, cn1o_2, cn1o_3, cn1o_4, cn1o_5, cn1o_6, cn1o_7, cn1o_8, cn1o_9, cn1o_10, cn1o_11, cn1o_12, cn1o_13, cn1o_14, cn1o_15, cn1o_16, cn1o_17]
theorem cn1 (Q : Exit → Act → World → Prop) (s T m Kg : Nat) (u1 u3 u4 u5 u6 u7 u8 u9 aa ab ad ae af ag ah ai aj ak : Value) (W : World)
  (neT : some s ≠ some T) (c0 : W.cell? ⟨s, 0, none⟩ = some (.int .i64 (m : Int))) (c1 : W.cell? ⟨s, 1, none⟩ = some (.int .i64 (Kg : Int))) (th : W.there T 0 6)
  (HQ : Hid (∀ (wz : World), W.grownBy wz (some T) → (∃ wy, World.there wy T 0 6 ∧ wz = wy.setCells T 0 [.int .i64 0, .int .i64 1, .int .i64 (Kg : Int), .int .i64 (Kg : Int), .int .i64 (Kg : Int), .int .i64 (m : Int)]) → Q .normal ⟨#[.pointer (some ⟨s, 0, none⟩), u1, .pointer (some ⟨T, 0, none⟩), .pointer (some ⟨s, 0, none⟩), .pointer (some ⟨s, 0, none⟩), .pointer (some ⟨s, 1, none⟩), .int .i64 (Kg : Int), .pointer (some ⟨s, 0, none⟩), .pointer (some ⟨s, 0, none⟩), .pointer (some ⟨s, 1, none⟩), .int .i64 (Kg : Int), .pointer (some ⟨s, 0, none⟩), .pointer (some ⟨s, 0, none⟩), .pointer (some ⟨s, 1, none⟩), .int .i64 (Kg : Int), .pointer (some ⟨s, 0, none⟩), .pointer (some ⟨s, 0, none⟩), .pointer (some ⟨s, 0, none⟩), .int .i64 (m : Int), .agg #[.int .i64 0, .int .i64 1, .int .i64 (Kg : Int), .int .i64 (Kg : Int), .int .i64 (Kg : Int), .int .i64 (m : Int)]], []⟩ wz)) : (Code.region 1 cn1o true).wp Tryz.prog Q ⟨#[.pointer (some ⟨s, 0, none⟩), u1, .pointer (some ⟨T, 0, none⟩), u3, u4, u5, u6, u7, u8, u9, aa, ab, ad, ae, af, ag, ah, ai, aj, ak], []⟩ W := by
 have TH := Hn (there_bl th (bl_drew W))
 clear th
 unfold cn1o
 refine wp_region_noPanic ?_
 refine wp_region_held_drew (S := fun x => W.grownBy x (some T)) (by kernel_rfl) (gbI (bl_drew W) _) (fun hH0 => ?_)
 refine tj 0 cn1o_0 (.pointer (some ⟨s, 0, none⟩)) hH0 (fun w0 hSw => ?_) ?_
 ·(unfold cn1o_0 oO; clear hSw; go_simp)
 simp only [cn1o_0, oO, Act.put, sA, sB, sC]
 refine tj 4 cn1o_4 (.pointer (some ⟨s, 0, none⟩)) hH0 (fun w0 hSw => ?_) ?_
 ·(unfold cn1o_4 oO; clear hSw; go_simp)
 simp only [cn1o_4, oO, Act.put, sA, sB, sC]
 refine tj 8 cn1o_8 (.pointer (some ⟨s, 0, none⟩)) hH0 (fun w0 hSw => ?_) ?_
 ·(unfold cn1o_8 oO; clear hSw; go_simp)
 simp only [cn1o_8, oO, Act.put, sA, sB, sC]
 refine tj 12 cn1o_12 (.pointer (some ⟨s, 0, none⟩)) hH0 (fun w0 hSw => ?_) ?_
 ·(unfold cn1o_12 oO; clear hSw; go_simp)
 simp only [cn1o_12, oO, Act.put, sA, sB, sC]
 refine tj 1 cn1o_1 (.pointer (some ⟨s, 0, none⟩)) hH0 (fun w0 hSw => ?_) ?_
 ·(unfold cn1o_1 oO; clear hSw; go_simp)
 simp only [cn1o_1, oO, Act.put, sA, sB, sC]
 refine tj 5 cn1o_5 (.pointer (some ⟨s, 0, none⟩)) hH0 (fun w0 hSw => ?_) ?_
 ·(unfold cn1o_5 oO; clear hSw; go_simp)
 simp only [cn1o_5, oO, Act.put, sA, sB, sC]
 refine tj 9 cn1o_9 (.pointer (some ⟨s, 0, none⟩)) hH0 (fun w0 hSw => ?_) ?_
 ·(unfold cn1o_9 oO; clear hSw; go_simp)
 simp only [cn1o_9, oO, Act.put, sA, sB, sC]
 refine tj 13 cn1o_13 (.pointer (some ⟨s, 0, none⟩)) hH0 (fun w0 hSw => ?_) ?_
 ·(unfold cn1o_13 oO; clear hSw; go_simp)
 simp only [cn1o_13, oO, Act.put, sA, sB, sC]
 refine tj 2 cn1o_2 (.pointer (some ⟨s, 1, none⟩)) hH0 (fun w0 hSw => ?_) ?_
 ·(unfold cn1o_2 oO; clear hSw; go_simp)
 simp only [cn1o_2, oO, Act.put, sA, sB, sC]
 refine tj 6 cn1o_6 (.pointer (some ⟨s, 1, none⟩)) hH0 (fun w0 hSw => ?_) ?_
 ·(unfold cn1o_6 oO; clear hSw; go_simp)
 simp only [cn1o_6, oO, Act.put, sA, sB, sC]
 refine tj 10 cn1o_10 (.pointer (some ⟨s, 1, none⟩)) hH0 (fun w0 hSw => ?_) ?_
 ·(unfold cn1o_10 oO; clear hSw; go_simp)
 simp only [cn1o_10, oO, Act.put, sA, sB, sC]
 refine tj 14 cn1o_14 (.pointer (some ⟨s, 0, none⟩)) hH0 (fun w0 hSw => ?_) ?_
 ·(unfold cn1o_14 oO; clear hSw; go_simp)
 simp only [cn1o_14, oO, Act.put, sA, sB, sC]
 refine tj 3 cn1o_3 (.int .i64 (Kg : Int)) hH0 (fun w0 hSw => ?_) ?_
 ·(unfold cn1o_3 oO; have hS : W.grownBy w0 (some T) := hSw; have a0 := hS.cell c1 neT; clear hS hSw; go_simp)
 simp only [cn1o_3, oO, Act.put, sA, sB, sC]
 refine tj 7 cn1o_7 (.int .i64 (Kg : Int)) hH0 (fun w0 hSw => ?_) ?_
 ·(unfold cn1o_7 oO; have hS : W.grownBy w0 (some T) := hSw; have a0 := hS.cell c1 neT; clear hS hSw; go_simp)
 simp only [cn1o_7, oO, Act.put, sA, sB, sC]
 refine tj 11 cn1o_11 (.int .i64 (Kg : Int)) hH0 (fun w0 hSw => ?_) ?_
 ·(unfold cn1o_11 oO; have hS : W.grownBy w0 (some T) := hSw; have a0 := hS.cell c1 neT; clear hS hSw; go_simp)
 simp only [cn1o_11, oO, Act.put, sA, sB, sC]
 refine tj 15 cn1o_15 (.int .i64 (m : Int)) hH0 (fun w0 hSw => ?_) ?_
 ·(unfold cn1o_15 oO; have hS : W.grownBy w0 (some T) := hSw; have a0 := hS.cell c0 neT; clear hS hSw; go_simp)
 simp only [cn1o_15, oO, Act.put, sA, sB, sC]
 refine tj 16 cn1o_16 (.agg #[.int .i64 0, .int .i64 1, .int .i64 (Kg : Int), .int .i64 (Kg : Int), .int .i64 (Kg : Int), .int .i64 (m : Int)]) hH0 (fun w0 hSw => ?_) ?_
 ·(unfold cn1o_16 oO; clear hSw; go_simp)
 simp only [cn1o_16, oO, Act.put, sA, sB, sC]
 refine ar [17] ?_
 refine ac cn1o_17 (fun K hK => ?_) AllReadyH.nil
 unfold cn1o_17 oN
 have HH := Hn hH0
 clear hH0
 refine wp_storeE 146 _ _ rfl T 0 ([.int .i64 0, .int .i64 1, .int .i64 (Kg : Int), .int .i64 (Kg : Int), .int .i64 (Kg : Int), .int .i64 (m : Int)]) (by rfl) (by rfl) TH.out i6_s (one6 _ _) rfl (fun wn1 hw => ?_)
 have SN := Hn (gb_tr HH.out (gb_setCells T [.int .i64 0, .int .i64 1, .int .i64 (Kg : Int), .int .i64 (Kg : Int), .int .i64 (Kg : Int), .int .i64 (m : Int)] 0 _))
 have FE := Hn ((⟨_, TH.out, hw⟩ : ∃ wy, World.there wy T 0 6 ∧ _ = wy.setCells T 0 [.int .i64 0, .int .i64 1, .int .i64 (Kg : Int), .int .i64 (Kg : Int), .int .i64 (Kg : Int), .int .i64 (m : Int)]))
 rw [← hw] at SN
 clear HH hw
 refine hK.out _ _ SN.out (fun hH1 => ?_)
 clear hK K SN
 have HH := Hn hH1
 have FQ := Hn (HQ.out _ HH.out FE.out)
 refine wpAnyH_done (by kernel_rfl) ?_ _
 refine NoPanic.normal ?_
 exact FQ.out
theorem counts_any {base : Nat} {w : World} {s m Kg : Nat} {v : Value} {vs : List Value} {Q : List (List Tm)} (h : Sy base w s m Kg v vs Q) : Calls Tryz.prog 83 #[.pointer (some ⟨s, 0, none⟩)] w fun e w' => e = .returned (.agg #[.int .i64 0, .int .i64 1, .int .i64 (Kg : Int), .int .i64 (Kg : Int), .int .i64 (Kg : Int), .int .i64 (m : Int)]) ∧ Below w.heap.size w w' := by
 have BA := bl_alloc w (.cells #[.int .i64 0, .int .i64 0, .int .i64 0, .int .i64 0, .int .i64 0, .int .i64 0] 146)
 have c0 := cell_keep h.c0 BA
 have c1 := cell_keep h.c1 BA
 have hlt := h.lt
 have th := there_newM w [.int .i64 0, .int .i64 0, .int .i64 0, .int .i64 0, .int .i64 0, .int .i64 0] 146
 have neT : some s ≠ some w.heap.size := fun e => by have := Option.some.inj e; omega
 have HB := Hn BA
 clear h BA hlt
 go_enter Tryz.func83, Tryz.ntmps83
 go_upto_region 1 with fail
 simp only [List.length_cons, List.length_nil] at th
 generalize w.alloc (.cells #[.int .i64 0, .int .i64 0, .int .i64 0, .int .i64 0, .int .i64 0, .int .i64 0] 146) = w1 at *
 refine cn1 _ s w.heap.size m Kg _ _ _ _ _ _ _ _ _ _ _ _ _ _ _ _ _ _ w1 neT c0 c1 th (Hn ?_)
 rintro wz hg ⟨wy, hty, hwz⟩
 have R := World.rangeAt_setCells_same wy w.heap.size 0 [.int .i64 0, .int .i64 1, .int .i64 (Kg : Int), .int .i64 (Kg : Int), .int .i64 (Kg : Int), .int .i64 (m : Int)] hty
 rw [← hwz] at R
 have r0 := R 0 _ rfl
 have r1 := R 1 _ rfl
 have r2 := R 2 _ rfl
 have r3 := R 3 _ rfl
 have r4 := R 4 _ rfl
 have r5 := R 5 _ rfl
 simp only [Nat.zero_add] at r0 r1 r2 r3 r4 r5
 have HG := Hn hg
 clear R hwz hg c0 c1 th hty
 go_wp2_with fail
 refine bodyPost_ret (v := .agg #[.int .i64 0, .int .i64 1, .int .i64 (Kg : Int), .int .i64 (Kg : Int), .int .i64 (Kg : Int), .int .i64 (m : Int)]) (by simp [results, Tryz.results83, go_sem, r0, r1, r2, r3, r4, r5]) rfl ⟨rfl, ?_⟩
 exact HB.out.grown HG.out HB.out.size (fun k hk => by obtain rfl := Option.some.inj hk; exact Nat.le_refl _)
def ct (m Kg : Nat) : Nat → Int
 | 1 => 1 | 2 => Kg | 3 => Kg | 4 => Kg | 5 => m | _ => 0
def hs (m Kg : Nat) (q : Wr) : Bool := decide (1 ≤ q.1) && (decide (q.1 < 6) && (decide (0 ≤ q.2) && decide (q.2 < ct m Kg q.1.toNat)))
def hs1ao_0 : Oper := oO 5 (Op.fieldAddr 79 (Operand.tmp 3) 0) 0 pCmi1 #[]
def hs1ao_1 : Oper := oO 6 (Op.load 3 (Operand.tmp 5)) 3 pCmi1 #[DD 0]
def hs1ao_2 : Oper := oO 7 (Op.binOp BinOp.geq 3 (Operand.tmp 6) (Operand.const (Value.int IntKind.i64 1)) 3) 4 pCmi1 #[DD 1]
def hs1ao_3 : Oper := oO 8 (Op.move (Operand.tmp 7)) 4 pCmi1 #[DD 2]
def hs1ao_4 : Oper := { dst := some 9, op := Op.fieldAddr 79 (Operand.tmp 3) 0, type := 0, pos := "circuit.go:42", after := #[GU 3], guard := some (3, true) }
def hs1ao_5 : Oper := { dst := some 10, op := Op.load 3 (Operand.tmp 9), type := 3, pos := "circuit.go:42", after := #[DD 4, GU 3], guard := some (3, true) }
def hs1ao_6 : Oper := { dst := some 11, op := Op.binOp BinOp.lss 3 (Operand.tmp 10) (Operand.const (Value.int IntKind.i64 6)) 3, type := 4, pos := "circuit.go:42", after := #[DD 5, GU 3], guard := some (3, true) }
def hs1ao_7 : Oper := oO 12 (Op.pick (Operand.tmp 8) (Operand.tmp 11) (Operand.const (Value.bool false))) 4 pCmi1 #[DD 3, DD 6]
def hs1ao_8 : Oper := oO 13 (Op.move (Operand.tmp 12)) 4 pCmi1 #[DD 7, CH 3]
def hs1ao_9 : Oper := { dst := some 14, op := Op.fieldAddr 79 (Operand.tmp 3) 1, type := 0, pos := "circuit.go:42", after := #[GU 8], guard := some (8, true) }
def hs1ao_10 : Oper := { dst := some 15, op := Op.load 3 (Operand.tmp 14), type := 3, pos := "circuit.go:42", after := #[DD 9, GU 8], guard := some (8, true) }
def hs1ao_11 : Oper := { dst := some 16, op := Op.binOp BinOp.geq 3 (Operand.tmp 15) (Operand.const (Value.int IntKind.i64 0)) 3, type := 4, pos := "circuit.go:42", after := #[DD 10, GU 8], guard := some (8, true) }
def hs1ao_12 : Oper := oO 17 (Op.pick (Operand.tmp 13) (Operand.tmp 16) (Operand.const (Value.bool false))) 4 pCmi1 #[DD 8, DD 11]
def hs1ao_13 : Oper := oO 18 (Op.move (Operand.tmp 17)) 4 pCmi1 #[DD 12, CH 8]
def hs1ao_14 : Oper := { dst := some 19, op := Op.fieldAddr 79 (Operand.tmp 3) 1, type := 0, pos := "circuit.go:42", after := #[GU 13], guard := some (13, true) }
def hs1ao_15 : Oper := { dst := some 20, op := Op.load 3 (Operand.tmp 19), type := 3, pos := "circuit.go:42", after := #[DD 14, GU 13], guard := some (13, true) }
def hs1ao_16 : Oper := { dst := some 21, op := Op.move (Operand.tmp 0), type := 23, pos := "circuit.go:42", after := #[GU 13], guard := some (13, true) }
def hs1ao_17 : Oper := { dst := some 22, op := Op.call { callee := Callee.value (Operand.func 83), args := #[Operand.tmp 21], argTypes := #[23] }, type := 146, pos := "circuit.go:42", after := #[DD 16, CH 13, GU 13], guard := some (13, true) }
def hs1ao_18 : Oper := { dst := some 23, op := Op.fieldAddr 79 (Operand.tmp 3) 0, type := 0, pos := "circuit.go:42", after := #[GU 13], guard := some (13, true) }
def hs1ao_19 : Oper := { dst := some 24, op := Op.load 3 (Operand.tmp 23), type := 3, pos := "circuit.go:42", after := #[DD 18, GU 13], guard := some (13, true) }
def hs1ao_20 : Oper := { dst := some 25, op := Op.index 146 (Operand.tmp 22) (Operand.tmp 24), type := 3, pos := "circuit.go:42", after := #[DD 17, DD 19, GU 13], guard := some (13, true) }
def hs1ao_21 : Oper := { dst := some 26, op := Op.binOp BinOp.lss 3 (Operand.tmp 20) (Operand.tmp 25) 3, type := 4, pos := "circuit.go:42", after := #[DD 15, DD 20, GU 13], guard := some (13, true) }
def hs1ao_22 : Oper := oO 27 (Op.pick (Operand.tmp 18) (Operand.tmp 26) (Operand.const (Value.bool false))) 4 pCmi1 #[DD 13, DD 21]
def hs1ao_23 : Oper := oO 4 (Op.assign (Operand.tmp 27)) 4 pCmi1 #[DD 22, CH 17, PH 0, PH 1, PH 2, PH 3, PH 4, PH 5, PH 6, PH 7, PH 8, PH 9, PH 10, PH 11, PH 12, PH 13, PH 14, PH 15, PH 16, PH 17, PH 18, PH 19, PH 20, PH 21, PH 22]
def hs1ao : Array Oper := #[hs1ao_0, hs1ao_1, hs1ao_2, hs1ao_3, hs1ao_4, hs1ao_5, hs1ao_6, hs1ao_7, hs1ao_8, hs1ao_9, hs1ao_10, hs1ao_11, hs1ao_12, hs1ao_13, hs1ao_14, hs1ao_15, hs1ao_16, hs1ao_17, hs1ao_18, hs1ao_19, hs1ao_20, hs1ao_21, hs1ao_22, hs1ao_23]
theorem hs1a (Q : Exit → Act → World → Prop) (s T m Kg : Nat) (qk qi : Int) (u1 u2 u4 u5 u6 u7 u8 u9 aa ab ad ae af ag ah ai aj ak al am an ao ap aq au av : Value) (W : World)
  (t0 : W.cell? ⟨T, 0, none⟩ = some (.int .i64 qk)) (t1 : W.cell? ⟨T, 1, none⟩ = some (.int .i64 qi)) (l1 : ¬ 1 ≤ qk)
  (HQ : Hid (∀ (wz : World), Below W.heap.size W wz → Q .normal ⟨#[.pointer (some ⟨s, 0, none⟩), u1, u2, .pointer (some ⟨T, 0, none⟩), .bool false, .pointer (some ⟨T, 0, none⟩), .int .i64 qk, .bool false, .bool false, undef, undef, undef, .bool false, .bool false, undef, undef, undef, .bool false, .bool false, undef, undef, undef, undef, undef, undef, undef, undef, .bool false], []⟩ wz)) : (Code.region 1 hs1ao true).wp Tryz.prog Q ⟨#[.pointer (some ⟨s, 0, none⟩), u1, u2, .pointer (some ⟨T, 0, none⟩), u4, u5, u6, u7, u8, u9, aa, ab, ad, ae, af, ag, ah, ai, aj, ak, al, am, an, ao, ap, aq, au, av], []⟩ W := by
 unfold hs1ao
 refine wp_region_noPanic ?_
 refine wp_region_held_drew (S := fun x => Below W.heap.size W x) (by kernel_rfl) (bl_drew W) (fun hH0 => ?_)
 refine tj 0 hs1ao_0 (.pointer (some ⟨T, 0, none⟩)) hH0 (fun w0 hSw => ?_) ?_
 ·(unfold hs1ao_0 oO; clear hSw; go_simp)
 simp only [hs1ao_0, oO, Act.put, sA, sB, sC]
 refine tj 1 hs1ao_1 (.int .i64 qk) hH0 (fun w0 hSw => ?_) ?_
 ·(unfold hs1ao_1 oO; have hS : Below W.heap.size W w0 := hSw; have a0 := cell_keep t0 hS; clear hS hSw; go_simp)
 simp only [hs1ao_1, oO, Act.put, sA, sB, sC]
 refine tj 2 hs1ao_2 (.bool false) hH0 (fun w0 hSw => ?_) ?_
 ·(unfold hs1ao_2 oO; clear hSw; go_simp)
 simp only [hs1ao_2, oO, Act.put, sA, sB, sC]
 refine tj 3 hs1ao_3 (.bool false) hH0 (fun w0 hSw => ?_) ?_
 ·(unfold hs1ao_3 oO; clear hSw; go_simp)
 simp only [hs1ao_3, oO, Act.put, sA, sB, sC]
 refine wpAnyH_take (i := 4) (oi := hs1ao_4) (v := undef) rfl (by kernel_rfl) (by kernel_rfl) (by kernel_rfl) (fun _ _ _ h => h) (Or.inr ⟨by rfl, rfl⟩) hH0 ?_
 simp only [hs1ao_4, Act.put, sA, sB, sC]
 refine wpAnyH_take (i := 5) (oi := hs1ao_5) (v := undef) rfl (by kernel_rfl) (by kernel_rfl) (by kernel_rfl) (fun _ _ _ h => h) (Or.inr ⟨by rfl, rfl⟩) hH0 ?_
 simp only [hs1ao_5, Act.put, sA, sB, sC]
 refine wpAnyH_take (i := 6) (oi := hs1ao_6) (v := undef) rfl (by kernel_rfl) (by kernel_rfl) (by kernel_rfl) (fun _ _ _ h => h) (Or.inr ⟨by rfl, rfl⟩) hH0 ?_
 simp only [hs1ao_6, Act.put, sA, sB, sC]
 refine tj 7 hs1ao_7 (.bool false) hH0 (fun w0 hSw => ?_) ?_
 ·(unfold hs1ao_7 oO; clear hSw; go_simp)
 simp only [hs1ao_7, oO, Act.put, sA, sB, sC]
 refine tj 8 hs1ao_8 (.bool false) hH0 (fun w0 hSw => ?_) ?_
 ·(unfold hs1ao_8 oO; clear hSw; go_simp)
 simp only [hs1ao_8, oO, Act.put, sA, sB, sC]
 refine wpAnyH_take (i := 9) (oi := hs1ao_9) (v := undef) rfl (by kernel_rfl) (by kernel_rfl) (by kernel_rfl) (fun _ _ _ h => h) (Or.inr ⟨by rfl, rfl⟩) hH0 ?_
 simp only [hs1ao_9, Act.put, sA, sB, sC]
 refine wpAnyH_take (i := 10) (oi := hs1ao_10) (v := undef) rfl (by kernel_rfl) (by kernel_rfl) (by kernel_rfl) (fun _ _ _ h => h) (Or.inr ⟨by rfl, rfl⟩) hH0 ?_
 simp only [hs1ao_10, Act.put, sA, sB, sC]
 refine wpAnyH_take (i := 11) (oi := hs1ao_11) (v := undef) rfl (by kernel_rfl) (by kernel_rfl) (by kernel_rfl) (fun _ _ _ h => h) (Or.inr ⟨by rfl, rfl⟩) hH0 ?_
 simp only [hs1ao_11, Act.put, sA, sB, sC]
 refine tj 12 hs1ao_12 (.bool false) hH0 (fun w0 hSw => ?_) ?_
 ·(unfold hs1ao_12 oO; clear hSw; go_simp)
 simp only [hs1ao_12, oO, Act.put, sA, sB, sC]
 refine tj 13 hs1ao_13 (.bool false) hH0 (fun w0 hSw => ?_) ?_
 ·(unfold hs1ao_13 oO; clear hSw; go_simp)
 simp only [hs1ao_13, oO, Act.put, sA, sB, sC]
 refine wpAnyH_take (i := 14) (oi := hs1ao_14) (v := undef) rfl (by kernel_rfl) (by kernel_rfl) (by kernel_rfl) (fun _ _ _ h => h) (Or.inr ⟨by rfl, rfl⟩) hH0 ?_
 simp only [hs1ao_14, Act.put, sA, sB, sC]
 refine wpAnyH_take (i := 16) (oi := hs1ao_16) (v := undef) rfl (by kernel_rfl) (by kernel_rfl) (by kernel_rfl) (fun _ _ _ h => h) (Or.inr ⟨by rfl, rfl⟩) hH0 ?_
 simp only [hs1ao_16, Act.put, sA, sB, sC]
 refine wpAnyH_take (i := 18) (oi := hs1ao_18) (v := undef) rfl (by kernel_rfl) (by kernel_rfl) (by kernel_rfl) (fun _ _ _ h => h) (Or.inr ⟨by rfl, rfl⟩) hH0 ?_
 simp only [hs1ao_18, Act.put, sA, sB, sC]
 refine wpAnyH_take (i := 15) (oi := hs1ao_15) (v := undef) rfl (by kernel_rfl) (by kernel_rfl) (by kernel_rfl) (fun _ _ _ h => h) (Or.inr ⟨by rfl, rfl⟩) hH0 ?_
 simp only [hs1ao_15, Act.put, sA, sB, sC]
 refine wpAnyH_take (i := 19) (oi := hs1ao_19) (v := undef) rfl (by kernel_rfl) (by kernel_rfl) (by kernel_rfl) (fun _ _ _ h => h) (Or.inr ⟨by rfl, rfl⟩) hH0 ?_
 simp only [hs1ao_19, Act.put, sA, sB, sC]
 refine ar [17] ?_
 refine ac hs1ao_17 (fun K hK => ?_) AllReadyH.nil
 unfold hs1ao_17
 refine Eq.mpr (if_neg (by exact fun h => Bool.false_ne_true h)) ?_
 refine hK.out _ _ hH0 (fun hzz => ?_)
 clear hK K hzz
 simp only [Act.put, sA, sB, sC]
 refine wpAnyH_take (i := 20) (oi := hs1ao_20) (v := undef) rfl (by kernel_rfl) (by kernel_rfl) (by kernel_rfl) (fun _ _ _ h => h) (Or.inr ⟨by rfl, rfl⟩) hH0 ?_
 simp only [hs1ao_20, Act.put, sA, sB, sC]
 refine wpAnyH_take (i := 21) (oi := hs1ao_21) (v := undef) rfl (by kernel_rfl) (by kernel_rfl) (by kernel_rfl) (fun _ _ _ h => h) (Or.inr ⟨by rfl, rfl⟩) hH0 ?_
 simp only [hs1ao_21, Act.put, sA, sB, sC]
 refine tj 22 hs1ao_22 (.bool false) hH0 (fun w0 hSw => ?_) ?_
 ·(unfold hs1ao_22 oO; clear hSw; go_simp)
 simp only [hs1ao_22, oO, Act.put, sA, sB, sC]
 refine tj 23 hs1ao_23 (.bool false) hH0 (fun w0 hSw => ?_) ?_
 ·(unfold hs1ao_23 oO; clear hSw; go_simp)
 simp only [hs1ao_23, oO, Act.put, sA, sB, sC]
 have HH := Hn hH0
 have FQ := Hn (HQ.out _ HH.out)
 refine wpAnyH_done (by kernel_rfl) ?_ _
 refine NoPanic.normal ?_
 exact FQ.out
def hs1bo : Array Oper := #[hs1ao_0,
 hs1ao_1,
 hs1ao_2,
 hs1ao_3,
 hs1ao_4,
 hs1ao_5,
 hs1ao_6,
 hs1ao_7,
 hs1ao_8,
 hs1ao_9,
 hs1ao_10,
 hs1ao_11,
 hs1ao_12,
 hs1ao_13,
 hs1ao_14,
 hs1ao_15,
 hs1ao_16,
 hs1ao_17,
 hs1ao_18,
 hs1ao_19,
 hs1ao_20,
 hs1ao_21,
 hs1ao_22,
 hs1ao_23]
theorem hs1b (Q : Exit → Act → World → Prop) (s T m Kg : Nat) (qk qi : Int) (u1 u2 u4 u5 u6 u7 u8 u9 aa ab ad ae af ag ah ai aj ak al am an ao ap aq au av : Value) (W : World)
  (t0 : W.cell? ⟨T, 0, none⟩ = some (.int .i64 qk)) (t1 : W.cell? ⟨T, 1, none⟩ = some (.int .i64 qi)) (l1 : 1 ≤ qk) (l2 : ¬ qk < 6)
  (HQ : Hid (∀ (wz : World), Below W.heap.size W wz → Q .normal ⟨#[.pointer (some ⟨s, 0, none⟩), u1, u2, .pointer (some ⟨T, 0, none⟩), .bool false, .pointer (some ⟨T, 0, none⟩), .int .i64 qk, .bool true, .bool true, .pointer (some ⟨T, 0, none⟩), .int .i64 qk, .bool false, .bool false, .bool false, undef, undef, undef, .bool false, .bool false, undef, undef, undef, undef, undef, undef, undef, undef, .bool false], []⟩ wz)) : (Code.region 1 hs1bo true).wp Tryz.prog Q ⟨#[.pointer (some ⟨s, 0, none⟩), u1, u2, .pointer (some ⟨T, 0, none⟩), u4, u5, u6, u7, u8, u9, aa, ab, ad, ae, af, ag, ah, ai, aj, ak, al, am, an, ao, ap, aq, au, av], []⟩ W := by
 unfold hs1bo
 refine wp_region_noPanic ?_
 refine wp_region_held_drew (S := fun x => Below W.heap.size W x) (by kernel_rfl) (bl_drew W) (fun hH0 => ?_)
 refine tj 0 hs1ao_0 (.pointer (some ⟨T, 0, none⟩)) hH0 (fun w0 hSw => ?_) ?_
 ·(unfold hs1ao_0 oO; clear hSw; go_simp)
 simp only [hs1ao_0, oO, Act.put, sA, sB, sC]
 refine tj 1 hs1ao_1 (.int .i64 qk) hH0 (fun w0 hSw => ?_) ?_
 ·(unfold hs1ao_1 oO; have hS : Below W.heap.size W w0 := hSw; have a0 := cell_keep t0 hS; clear hS hSw; go_simp)
 simp only [hs1ao_1, oO, Act.put, sA, sB, sC]
 refine tj 2 hs1ao_2 (.bool true) hH0 (fun w0 hSw => ?_) ?_
 ·(unfold hs1ao_2 oO; clear hSw; go_simp)
 simp only [hs1ao_2, oO, Act.put, sA, sB, sC]
 refine tj 3 hs1ao_3 (.bool true) hH0 (fun w0 hSw => ?_) ?_
 ·(unfold hs1ao_3 oO; clear hSw; go_simp)
 simp only [hs1ao_3, oO, Act.put, sA, sB, sC]
 refine tj 4 hs1ao_4 (.pointer (some ⟨T, 0, none⟩)) hH0 (fun w0 hSw => ?_) ?_
 ·(unfold hs1ao_4; clear hSw; go_simp)
 simp only [hs1ao_4, Act.put, sA, sB, sC]
 refine tj 5 hs1ao_5 (.int .i64 qk) hH0 (fun w0 hSw => ?_) ?_
 ·(unfold hs1ao_5; have hS : Below W.heap.size W w0 := hSw; have a0 := cell_keep t0 hS; clear hS hSw; go_simp)
 simp only [hs1ao_5, Act.put, sA, sB, sC]
 refine tj 6 hs1ao_6 (.bool false) hH0 (fun w0 hSw => ?_) ?_
 ·(unfold hs1ao_6; clear hSw; go_simp)
 simp only [hs1ao_6, Act.put, sA, sB, sC]
 refine tj 7 hs1ao_7 (.bool false) hH0 (fun w0 hSw => ?_) ?_
 ·(unfold hs1ao_7 oO; clear hSw; go_simp)
 simp only [hs1ao_7, oO, Act.put, sA, sB, sC]
 refine tj 8 hs1ao_8 (.bool false) hH0 (fun w0 hSw => ?_) ?_
 ·(unfold hs1ao_8 oO; clear hSw; go_simp)
 simp only [hs1ao_8, oO, Act.put, sA, sB, sC]
 refine wpAnyH_take (i := 9) (oi := hs1ao_9) (v := undef) rfl (by kernel_rfl) (by kernel_rfl) (by kernel_rfl) (fun _ _ _ h => h) (Or.inr ⟨by rfl, rfl⟩) hH0 ?_
 simp only [hs1ao_9, Act.put, sA, sB, sC]
 refine wpAnyH_take (i := 10) (oi := hs1ao_10) (v := undef) rfl (by kernel_rfl) (by kernel_rfl) (by kernel_rfl) (fun _ _ _ h => h) (Or.inr ⟨by rfl, rfl⟩) hH0 ?_
 simp only [hs1ao_10, Act.put, sA, sB, sC]
 refine wpAnyH_take (i := 11) (oi := hs1ao_11) (v := undef) rfl (by kernel_rfl) (by kernel_rfl) (by kernel_rfl) (fun _ _ _ h => h) (Or.inr ⟨by rfl, rfl⟩) hH0 ?_
 simp only [hs1ao_11, Act.put, sA, sB, sC]
 refine tj 12 hs1ao_12 (.bool false) hH0 (fun w0 hSw => ?_) ?_
 ·(unfold hs1ao_12 oO; clear hSw; go_simp)
 simp only [hs1ao_12, oO, Act.put, sA, sB, sC]
 refine tj 13 hs1ao_13 (.bool false) hH0 (fun w0 hSw => ?_) ?_
 ·(unfold hs1ao_13 oO; clear hSw; go_simp)
 simp only [hs1ao_13, oO, Act.put, sA, sB, sC]
 refine wpAnyH_take (i := 14) (oi := hs1ao_14) (v := undef) rfl (by kernel_rfl) (by kernel_rfl) (by kernel_rfl) (fun _ _ _ h => h) (Or.inr ⟨by rfl, rfl⟩) hH0 ?_
 simp only [hs1ao_14, Act.put, sA, sB, sC]
 refine wpAnyH_take (i := 16) (oi := hs1ao_16) (v := undef) rfl (by kernel_rfl) (by kernel_rfl) (by kernel_rfl) (fun _ _ _ h => h) (Or.inr ⟨by rfl, rfl⟩) hH0 ?_
 simp only [hs1ao_16, Act.put, sA, sB, sC]
 refine wpAnyH_take (i := 18) (oi := hs1ao_18) (v := undef) rfl (by kernel_rfl) (by kernel_rfl) (by kernel_rfl) (fun _ _ _ h => h) (Or.inr ⟨by rfl, rfl⟩) hH0 ?_
 simp only [hs1ao_18, Act.put, sA, sB, sC]
 refine wpAnyH_take (i := 15) (oi := hs1ao_15) (v := undef) rfl (by kernel_rfl) (by kernel_rfl) (by kernel_rfl) (fun _ _ _ h => h) (Or.inr ⟨by rfl, rfl⟩) hH0 ?_
 simp only [hs1ao_15, Act.put, sA, sB, sC]
 refine wpAnyH_take (i := 19) (oi := hs1ao_19) (v := undef) rfl (by kernel_rfl) (by kernel_rfl) (by kernel_rfl) (fun _ _ _ h => h) (Or.inr ⟨by rfl, rfl⟩) hH0 ?_
 simp only [hs1ao_19, Act.put, sA, sB, sC]
 refine ar [17] ?_
 refine ac hs1ao_17 (fun K hK => ?_) AllReadyH.nil
 unfold hs1ao_17
 refine Eq.mpr (if_neg (by exact fun h => Bool.false_ne_true h)) ?_
 refine hK.out _ _ hH0 (fun hzz => ?_)
 clear hK K hzz
 simp only [Act.put, sA, sB, sC]
 refine wpAnyH_take (i := 20) (oi := hs1ao_20) (v := undef) rfl (by kernel_rfl) (by kernel_rfl) (by kernel_rfl) (fun _ _ _ h => h) (Or.inr ⟨by rfl, rfl⟩) hH0 ?_
 simp only [hs1ao_20, Act.put, sA, sB, sC]
 refine wpAnyH_take (i := 21) (oi := hs1ao_21) (v := undef) rfl (by kernel_rfl) (by kernel_rfl) (by kernel_rfl) (fun _ _ _ h => h) (Or.inr ⟨by rfl, rfl⟩) hH0 ?_
 simp only [hs1ao_21, Act.put, sA, sB, sC]
 refine tj 22 hs1ao_22 (.bool false) hH0 (fun w0 hSw => ?_) ?_
 ·(unfold hs1ao_22 oO; clear hSw; go_simp)
 simp only [hs1ao_22, oO, Act.put, sA, sB, sC]
 refine tj 23 hs1ao_23 (.bool false) hH0 (fun w0 hSw => ?_) ?_
 ·(unfold hs1ao_23 oO; clear hSw; go_simp)
 simp only [hs1ao_23, oO, Act.put, sA, sB, sC]
 have HH := Hn hH0
 have FQ := Hn (HQ.out _ HH.out)
 refine wpAnyH_done (by kernel_rfl) ?_ _
 refine NoPanic.normal ?_
 exact FQ.out
def hs1co : Array Oper := #[hs1ao_0,
 hs1ao_1,
 hs1ao_2,
 hs1ao_3,
 hs1ao_4,
 hs1ao_5,
 hs1ao_6,
 hs1ao_7,
 hs1ao_8,
 hs1ao_9,
 hs1ao_10,
 hs1ao_11,
 hs1ao_12,
 hs1ao_13,
 hs1ao_14,
 hs1ao_15,
 hs1ao_16,
 hs1ao_17,
 hs1ao_18,
 hs1ao_19,
 hs1ao_20,
 hs1ao_21,
 hs1ao_22,
 hs1ao_23]
theorem hs1c (Q : Exit → Act → World → Prop) (s T m Kg : Nat) (qk qi : Int) (u1 u2 u4 u5 u6 u7 u8 u9 aa ab ad ae af ag ah ai aj ak al am an ao ap aq au av : Value) (W : World)
  (t0 : W.cell? ⟨T, 0, none⟩ = some (.int .i64 qk)) (t1 : W.cell? ⟨T, 1, none⟩ = some (.int .i64 qi)) (l1 : 1 ≤ qk) (l2 : qk < 6) (l3 : ¬ 0 ≤ qi)
  (HQ : Hid (∀ (wz : World), Below W.heap.size W wz → Q .normal ⟨#[.pointer (some ⟨s, 0, none⟩), u1, u2, .pointer (some ⟨T, 0, none⟩), .bool false, .pointer (some ⟨T, 0, none⟩), .int .i64 qk, .bool true, .bool true, .pointer (some ⟨T, 0, none⟩), .int .i64 qk, .bool true, .bool true, .bool true, .pointer (some ⟨T, 1, none⟩), .int .i64 qi, .bool false, .bool false, .bool false, undef, undef, undef, undef, undef, undef, undef, undef, .bool false], []⟩ wz)) : (Code.region 1 hs1co true).wp Tryz.prog Q ⟨#[.pointer (some ⟨s, 0, none⟩), u1, u2, .pointer (some ⟨T, 0, none⟩), u4, u5, u6, u7, u8, u9, aa, ab, ad, ae, af, ag, ah, ai, aj, ak, al, am, an, ao, ap, aq, au, av], []⟩ W := by
 unfold hs1co
 refine wp_region_noPanic ?_
 refine wp_region_held_drew (S := fun x => Below W.heap.size W x) (by kernel_rfl) (bl_drew W) (fun hH0 => ?_)
 refine tj 0 hs1ao_0 (.pointer (some ⟨T, 0, none⟩)) hH0 (fun w0 hSw => ?_) ?_
 ·(unfold hs1ao_0 oO; clear hSw; go_simp)
 simp only [hs1ao_0, oO, Act.put, sA, sB, sC]
 refine tj 1 hs1ao_1 (.int .i64 qk) hH0 (fun w0 hSw => ?_) ?_
 ·(unfold hs1ao_1 oO; have hS : Below W.heap.size W w0 := hSw; have a0 := cell_keep t0 hS; clear hS hSw; go_simp)
 simp only [hs1ao_1, oO, Act.put, sA, sB, sC]
 refine tj 2 hs1ao_2 (.bool true) hH0 (fun w0 hSw => ?_) ?_
 ·(unfold hs1ao_2 oO; clear hSw; go_simp)
 simp only [hs1ao_2, oO, Act.put, sA, sB, sC]
 refine tj 3 hs1ao_3 (.bool true) hH0 (fun w0 hSw => ?_) ?_
 ·(unfold hs1ao_3 oO; clear hSw; go_simp)
 simp only [hs1ao_3, oO, Act.put, sA, sB, sC]
 refine tj 4 hs1ao_4 (.pointer (some ⟨T, 0, none⟩)) hH0 (fun w0 hSw => ?_) ?_
 ·(unfold hs1ao_4; clear hSw; go_simp)
 simp only [hs1ao_4, Act.put, sA, sB, sC]
 refine tj 5 hs1ao_5 (.int .i64 qk) hH0 (fun w0 hSw => ?_) ?_
 ·(unfold hs1ao_5; have hS : Below W.heap.size W w0 := hSw; have a0 := cell_keep t0 hS; clear hS hSw; go_simp)
 simp only [hs1ao_5, Act.put, sA, sB, sC]
 refine tj 6 hs1ao_6 (.bool true) hH0 (fun w0 hSw => ?_) ?_
 ·(unfold hs1ao_6; clear hSw; go_simp)
 simp only [hs1ao_6, Act.put, sA, sB, sC]
 refine tj 7 hs1ao_7 (.bool true) hH0 (fun w0 hSw => ?_) ?_
 ·(unfold hs1ao_7 oO; clear hSw; go_simp)
 simp only [hs1ao_7, oO, Act.put, sA, sB, sC]
 refine tj 8 hs1ao_8 (.bool true) hH0 (fun w0 hSw => ?_) ?_
 ·(unfold hs1ao_8 oO; clear hSw; go_simp)
 simp only [hs1ao_8, oO, Act.put, sA, sB, sC]
 refine tj 9 hs1ao_9 (.pointer (some ⟨T, 1, none⟩)) hH0 (fun w0 hSw => ?_) ?_
 ·(unfold hs1ao_9; clear hSw; go_simp)
 simp only [hs1ao_9, Act.put, sA, sB, sC]
 refine tj 10 hs1ao_10 (.int .i64 qi) hH0 (fun w0 hSw => ?_) ?_
 ·(unfold hs1ao_10; have hS : Below W.heap.size W w0 := hSw; have a0 := cell_keep t1 hS; clear hS hSw; go_simp)
 simp only [hs1ao_10, Act.put, sA, sB, sC]
 refine tj 11 hs1ao_11 (.bool false) hH0 (fun w0 hSw => ?_) ?_
 ·(unfold hs1ao_11; clear hSw; go_simp)
 simp only [hs1ao_11, Act.put, sA, sB, sC]
 refine tj 12 hs1ao_12 (.bool false) hH0 (fun w0 hSw => ?_) ?_
 ·(unfold hs1ao_12 oO; clear hSw; go_simp)
 simp only [hs1ao_12, oO, Act.put, sA, sB, sC]
 refine tj 13 hs1ao_13 (.bool false) hH0 (fun w0 hSw => ?_) ?_
 ·(unfold hs1ao_13 oO; clear hSw; go_simp)
 simp only [hs1ao_13, oO, Act.put, sA, sB, sC]
 refine wpAnyH_take (i := 14) (oi := hs1ao_14) (v := undef) rfl (by kernel_rfl) (by kernel_rfl) (by kernel_rfl) (fun _ _ _ h => h) (Or.inr ⟨by rfl, rfl⟩) hH0 ?_
 simp only [hs1ao_14, Act.put, sA, sB, sC]
 refine wpAnyH_take (i := 16) (oi := hs1ao_16) (v := undef) rfl (by kernel_rfl) (by kernel_rfl) (by kernel_rfl) (fun _ _ _ h => h) (Or.inr ⟨by rfl, rfl⟩) hH0 ?_
 simp only [hs1ao_16, Act.put, sA, sB, sC]
 refine wpAnyH_take (i := 18) (oi := hs1ao_18) (v := undef) rfl (by kernel_rfl) (by kernel_rfl) (by kernel_rfl) (fun _ _ _ h => h) (Or.inr ⟨by rfl, rfl⟩) hH0 ?_
 simp only [hs1ao_18, Act.put, sA, sB, sC]
 refine wpAnyH_take (i := 15) (oi := hs1ao_15) (v := undef) rfl (by kernel_rfl) (by kernel_rfl) (by kernel_rfl) (fun _ _ _ h => h) (Or.inr ⟨by rfl, rfl⟩) hH0 ?_
 simp only [hs1ao_15, Act.put, sA, sB, sC]
 refine wpAnyH_take (i := 19) (oi := hs1ao_19) (v := undef) rfl (by kernel_rfl) (by kernel_rfl) (by kernel_rfl) (fun _ _ _ h => h) (Or.inr ⟨by rfl, rfl⟩) hH0 ?_
 simp only [hs1ao_19, Act.put, sA, sB, sC]
 refine ar [17] ?_
 refine ac hs1ao_17 (fun K hK => ?_) AllReadyH.nil
 unfold hs1ao_17
 refine Eq.mpr (if_neg (by exact fun h => Bool.false_ne_true h)) ?_
 refine hK.out _ _ hH0 (fun hzz => ?_)
 clear hK K hzz
 simp only [Act.put, sA, sB, sC]
 refine wpAnyH_take (i := 20) (oi := hs1ao_20) (v := undef) rfl (by kernel_rfl) (by kernel_rfl) (by kernel_rfl) (fun _ _ _ h => h) (Or.inr ⟨by rfl, rfl⟩) hH0 ?_
 simp only [hs1ao_20, Act.put, sA, sB, sC]
 refine wpAnyH_take (i := 21) (oi := hs1ao_21) (v := undef) rfl (by kernel_rfl) (by kernel_rfl) (by kernel_rfl) (fun _ _ _ h => h) (Or.inr ⟨by rfl, rfl⟩) hH0 ?_
 simp only [hs1ao_21, Act.put, sA, sB, sC]
 refine tj 22 hs1ao_22 (.bool false) hH0 (fun w0 hSw => ?_) ?_
 ·(unfold hs1ao_22 oO; clear hSw; go_simp)
 simp only [hs1ao_22, oO, Act.put, sA, sB, sC]
 refine tj 23 hs1ao_23 (.bool false) hH0 (fun w0 hSw => ?_) ?_
 ·(unfold hs1ao_23 oO; clear hSw; go_simp)
 simp only [hs1ao_23, oO, Act.put, sA, sB, sC]
 have HH := Hn hH0
 have FQ := Hn (HQ.out _ HH.out)
 refine wpAnyH_done (by kernel_rfl) ?_ _
 refine NoPanic.normal ?_
 exact FQ.out
def hs1do : Array Oper := #[hs1ao_0,
 hs1ao_1,
 hs1ao_2,
 hs1ao_3,
 hs1ao_4,
 hs1ao_5,
 hs1ao_6,
 hs1ao_7,
 hs1ao_8,
 hs1ao_9,
 hs1ao_10,
 hs1ao_11,
 hs1ao_12,
 hs1ao_13,
 hs1ao_14,
 hs1ao_15,
 hs1ao_16,
 hs1ao_17,
 hs1ao_18,
 hs1ao_19,
 hs1ao_20,
 hs1ao_21,
 hs1ao_22,
 hs1ao_23]
theorem hs1d (Q : Exit → Act → World → Prop) (s T m Kg : Nat) (qk qi : Int) (cc : Int) (rr : Bool) (u1 u2 u4 u5 u6 u7 u8 u9 aa ab ad ae af ag ah ai aj ak al am an ao ap aq au av : Value) (W : World)
  (t0 : W.cell? ⟨T, 0, none⟩ = some (.int .i64 qk)) (t1 : W.cell? ⟨T, 1, none⟩ = some (.int .i64 qi)) (l1 : 1 ≤ qk) (l2 : qk < 6) (l3 : 0 ≤ qi)
  (lr : decide (qi < cc) = rr) (IX : Hid (∀ y, (Instr.index 146 (.agg #[.int .i64 0, .int .i64 1, .int .i64 (Kg : Int), .int .i64 (Kg : Int), .int .i64 (Kg : Int), .int .i64 (m : Int)]) (.int .i64 qk)).run Tryz.prog y = .ok (.int .i64 cc) y))
  (C : Hid (∀ y, Below W.heap.size W y → Calls Tryz.prog 83 #[.pointer (some ⟨s, 0, none⟩)] y fun e w' => e = .returned (.agg #[.int .i64 0, .int .i64 1, .int .i64 (Kg : Int), .int .i64 (Kg : Int), .int .i64 (Kg : Int), .int .i64 (m : Int)]) ∧ Below y.heap.size y w'))
  (HQ : Hid (∀ (wz : World), Below W.heap.size W wz → Q .normal ⟨#[.pointer (some ⟨s, 0, none⟩), u1, u2, .pointer (some ⟨T, 0, none⟩), .bool rr, .pointer (some ⟨T, 0, none⟩), .int .i64 qk, .bool true, .bool true, .pointer (some ⟨T, 0, none⟩), .int .i64 qk, .bool true, .bool true, .bool true, .pointer (some ⟨T, 1, none⟩), .int .i64 qi, .bool true, .bool true, .bool true, .pointer (some ⟨T, 1, none⟩), .int .i64 qi, .pointer (some ⟨s, 0, none⟩), .agg #[.int .i64 0, .int .i64 1, .int .i64 (Kg : Int), .int .i64 (Kg : Int), .int .i64 (Kg : Int), .int .i64 (m : Int)], .pointer (some ⟨T, 0, none⟩), .int .i64 qk, .int .i64 cc, .bool rr, .bool rr], []⟩ wz)) : (Code.region 1 hs1do true).wp Tryz.prog Q ⟨#[.pointer (some ⟨s, 0, none⟩), u1, u2, .pointer (some ⟨T, 0, none⟩), u4, u5, u6, u7, u8, u9, aa, ab, ad, ae, af, ag, ah, ai, aj, ak, al, am, an, ao, ap, aq, au, av], []⟩ W := by
 unfold hs1do
 refine wp_region_noPanic ?_
 refine wp_region_held_drew (S := fun x => Below W.heap.size W x) (by kernel_rfl) (bl_drew W) (fun hH0 => ?_)
 refine tj 0 hs1ao_0 (.pointer (some ⟨T, 0, none⟩)) hH0 (fun w0 hSw => ?_) ?_
 ·(unfold hs1ao_0 oO; clear hSw; go_simp)
 simp only [hs1ao_0, oO, Act.put, sA, sB, sC]
 refine tj 1 hs1ao_1 (.int .i64 qk) hH0 (fun w0 hSw => ?_) ?_
 ·(unfold hs1ao_1 oO; have hS : Below W.heap.size W w0 := hSw; have a0 := cell_keep t0 hS; clear hS hSw; go_simp)
 simp only [hs1ao_1, oO, Act.put, sA, sB, sC]
 refine tj 2 hs1ao_2 (.bool true) hH0 (fun w0 hSw => ?_) ?_
 ·(unfold hs1ao_2 oO; clear hSw; go_simp)
 simp only [hs1ao_2, oO, Act.put, sA, sB, sC]
 refine tj 3 hs1ao_3 (.bool true) hH0 (fun w0 hSw => ?_) ?_
 ·(unfold hs1ao_3 oO; clear hSw; go_simp)
 simp only [hs1ao_3, oO, Act.put, sA, sB, sC]
 refine tj 4 hs1ao_4 (.pointer (some ⟨T, 0, none⟩)) hH0 (fun w0 hSw => ?_) ?_
 ·(unfold hs1ao_4; clear hSw; go_simp)
 simp only [hs1ao_4, Act.put, sA, sB, sC]
 refine tj 5 hs1ao_5 (.int .i64 qk) hH0 (fun w0 hSw => ?_) ?_
 ·(unfold hs1ao_5; have hS : Below W.heap.size W w0 := hSw; have a0 := cell_keep t0 hS; clear hS hSw; go_simp)
 simp only [hs1ao_5, Act.put, sA, sB, sC]
 refine tj 6 hs1ao_6 (.bool true) hH0 (fun w0 hSw => ?_) ?_
 ·(unfold hs1ao_6; clear hSw; go_simp)
 simp only [hs1ao_6, Act.put, sA, sB, sC]
 refine tj 7 hs1ao_7 (.bool true) hH0 (fun w0 hSw => ?_) ?_
 ·(unfold hs1ao_7 oO; clear hSw; go_simp)
 simp only [hs1ao_7, oO, Act.put, sA, sB, sC]
 refine tj 8 hs1ao_8 (.bool true) hH0 (fun w0 hSw => ?_) ?_
 ·(unfold hs1ao_8 oO; clear hSw; go_simp)
 simp only [hs1ao_8, oO, Act.put, sA, sB, sC]
 refine tj 9 hs1ao_9 (.pointer (some ⟨T, 1, none⟩)) hH0 (fun w0 hSw => ?_) ?_
 ·(unfold hs1ao_9; clear hSw; go_simp)
 simp only [hs1ao_9, Act.put, sA, sB, sC]
 refine tj 10 hs1ao_10 (.int .i64 qi) hH0 (fun w0 hSw => ?_) ?_
 ·(unfold hs1ao_10; have hS : Below W.heap.size W w0 := hSw; have a0 := cell_keep t1 hS; clear hS hSw; go_simp)
 simp only [hs1ao_10, Act.put, sA, sB, sC]
 refine tj 11 hs1ao_11 (.bool true) hH0 (fun w0 hSw => ?_) ?_
 ·(unfold hs1ao_11; clear hSw; go_simp)
 simp only [hs1ao_11, Act.put, sA, sB, sC]
 refine tj 12 hs1ao_12 (.bool true) hH0 (fun w0 hSw => ?_) ?_
 ·(unfold hs1ao_12 oO; clear hSw; go_simp)
 simp only [hs1ao_12, oO, Act.put, sA, sB, sC]
 refine tj 13 hs1ao_13 (.bool true) hH0 (fun w0 hSw => ?_) ?_
 ·(unfold hs1ao_13 oO; clear hSw; go_simp)
 simp only [hs1ao_13, oO, Act.put, sA, sB, sC]
 refine tj 14 hs1ao_14 (.pointer (some ⟨T, 1, none⟩)) hH0 (fun w0 hSw => ?_) ?_
 ·(unfold hs1ao_14; clear hSw; go_simp)
 simp only [hs1ao_14, Act.put, sA, sB, sC]
 refine tj 16 hs1ao_16 (.pointer (some ⟨s, 0, none⟩)) hH0 (fun w0 hSw => ?_) ?_
 ·(unfold hs1ao_16; clear hSw; go_simp)
 simp only [hs1ao_16, Act.put, sA, sB, sC]
 refine tj 18 hs1ao_18 (.pointer (some ⟨T, 0, none⟩)) hH0 (fun w0 hSw => ?_) ?_
 ·(unfold hs1ao_18; clear hSw; go_simp)
 simp only [hs1ao_18, Act.put, sA, sB, sC]
 refine tj 15 hs1ao_15 (.int .i64 qi) hH0 (fun w0 hSw => ?_) ?_
 ·(unfold hs1ao_15; have hS : Below W.heap.size W w0 := hSw; have a0 := cell_keep t1 hS; clear hS hSw; go_simp)
 simp only [hs1ao_15, Act.put, sA, sB, sC]
 refine tj 19 hs1ao_19 (.int .i64 qk) hH0 (fun w0 hSw => ?_) ?_
 ·(unfold hs1ao_19; have hS : Below W.heap.size W w0 := hSw; have a0 := cell_keep t0 hS; clear hS hSw; go_simp)
 simp only [hs1ao_19, Act.put, sA, sB, sC]
 refine ar [17] ?_
 refine ac hs1ao_17 (fun K hK => ?_) AllReadyH.nil
 unfold hs1ao_17
 have HH := Hn hH0
 clear hH0
 go_simp
 refine (C.out _ HH.out).mono ?_
 rintro e wn1 ⟨rfl, hb⟩
 have SN := Hn (bl_trans HH.out hb)
 clear HH C hb
 go_wp2_with fail
 refine hK.out _ _ SN.out (fun hH1 => ?_)
 clear hK K SN
 refine tj 20 hs1ao_20 (.int .i64 cc) hH1 (fun w0 hSw => ?_) ?_
 ·(unfold hs1ao_20; clear hSw; have a0 := IX.out w0; go_simp)
 simp only [hs1ao_20, Act.put, sA, sB, sC]
 refine tj 21 hs1ao_21 (.bool rr) hH1 (fun w0 hSw => ?_) ?_
 ·(unfold hs1ao_21; clear hSw; subst lr; go_simp)
 simp only [hs1ao_21, Act.put, sA, sB, sC]
 refine tj 22 hs1ao_22 (.bool rr) hH1 (fun w0 hSw => ?_) ?_
 ·(unfold hs1ao_22 oO; clear hSw; go_simp)
 simp only [hs1ao_22, oO, Act.put, sA, sB, sC]
 refine tj 23 hs1ao_23 (.bool rr) hH1 (fun w0 hSw => ?_) ?_
 ·(unfold hs1ao_23 oO; clear hSw; go_simp)
 simp only [hs1ao_23, oO, Act.put, sA, sB, sC]
 have HH := Hn hH1
 have FQ := Hn (HQ.out _ HH.out)
 refine wpAnyH_done (by kernel_rfl) ?_ _
 refine NoPanic.normal ?_
 exact FQ.out
theorem ix_run (m Kg : Nat) (qk : Int) (h1 : 1 ≤ qk) (h2 : qk < 6) (y : World) : (Instr.index 146 (.agg #[.int .i64 0, .int .i64 1, .int .i64 (Kg : Int), .int .i64 (Kg : Int), .int .i64 (Kg : Int), .int .i64 (m : Int)]) (.int .i64 qk)).run Tryz.prog y = .ok (.int .i64 (ct m Kg qk.toNat)) y := by
 obtain ⟨i, rfl⟩ : ∃ i : Nat, qk = (i : Int) := ⟨qk.toNat, by omega⟩
 have hi : Tryz.prog.info? 3 = some (Tryz.prog.info? 3).get! := by kernel_rfl
 refine run_index_arrC (n := 6) (e := 3) (by kernel_rfl) (by kernel_rfl) hi (by kernel_rfl) (by omega) ?_
 rw [Int.toNat_natCast]
 have : i = 1 ∨ i = 2 ∨ i = 3 ∨ i = 4 ∨ i = 5 := by omega
 rcases this with rfl | rfl | rfl | rfl | rfl <;> rfl
theorem has_any {base : Nat} {w : World} {s m Kg : Nat} {v : Value} {vs : List Value} {Q : List (List Tm)} (h : Sy base w s m Kg v vs Q) (q : Wr) : Calls Tryz.prog 113 #[.pointer (some ⟨s, 0, none⟩), .agg #[.int .i64 q.1, .int .i64 q.2]] w fun e w' => e = .returned (.bool (hs m Kg q)) ∧ Below w.heap.size w w' := by
 obtain ⟨qk, qi⟩ := q
 simp only
 have HB := Hn (bl_alloc w (.cells #[.int .i64 qk, .int .i64 qi] 79))
 have C := Hn (fun y (hy : Below w.heap.size w y) => counts_any (h.keep hy))
 have t0 : (w.alloc (.cells #[.int .i64 qk, .int .i64 qi] 79)).cell? ⟨w.heap.size, 0, none⟩ = some (.int .i64 qk) := by go_simp
 have t1 : (w.alloc (.cells #[.int .i64 qk, .int .i64 qi] 79)).cell? ⟨w.heap.size, 1, none⟩ = some (.int .i64 qi) := by go_simp
 clear h
 obtain ⟨R, hR⟩ : ∃ R, hs m Kg (qk, qi) = R := ⟨_, rfl⟩
 rw [hR]
 have HR := Hn hR
 clear hR
 go_enter Tryz.func113, Tryz.ntmps113
 go_upto_region 1 with fail
 generalize (w.alloc (.cells #[.int .i64 qk, .int .i64 qi] 79)) = w1 at *
 by_cases l1 : 1 ≤ qk
 ·by_cases l2 : qk < 6
  ·by_cases l3 : 0 ≤ qi
   ·have E : hs m Kg (qk, qi) = decide (qi < ct m Kg qk.toNat) := by unfold hs; simp [l1, l2, l3]
    rw [HR.out] at E
    replace E := Hn E
    have IX := Hn (ix_run m Kg qk l1 l2)
    have C2 := Hn (fun y (hy : Below w1.heap.size w1 y) => C.out y (bl_trans HB.out hy))
    clear C HR
    refine hs1d _ s w.heap.size m Kg qk qi (ct m Kg qk.toNat) R _ _ _ _ _ _ _ _ _ _ _ _ _ _ _ _ _ _ _ _ _ _ _ _ _ _ w1 t0 t1 l1 l2 l3 E.out.symm IX C2 (Hn ?_)
    intro wz hz
    have HZ := Hn (bl_trans HB.out hz)
    clear hz t0 t1 C2 IX E
    go_wp2_with fail
    refine bodyPost_ret (v := .bool R) (by simp [results, Tryz.results113, go_sem]) rfl ⟨rfl, HZ.out⟩
   ·have E : R = false := by rw [← HR.out]; unfold hs; simp [l1, l2, l3]
    subst E
    refine hs1c _ s w.heap.size m Kg qk qi _ _ _ _ _ _ _ _ _ _ _ _ _ _ _ _ _ _ _ _ _ _ _ _ _ _ w1 t0 t1 l1 l2 l3 (Hn ?_)
    intro wz hz
    have HZ := Hn (bl_trans HB.out hz)
    clear hz t0 t1 C
    go_wp2_with fail
    refine bodyPost_ret (v := .bool false) (by simp [results, Tryz.results113, go_sem]) rfl ⟨rfl, HZ.out⟩
  ·have E : R = false := by rw [← HR.out]; unfold hs; simp [l1, l2]
   subst E
   refine hs1b _ s w.heap.size m Kg qk qi _ _ _ _ _ _ _ _ _ _ _ _ _ _ _ _ _ _ _ _ _ _ _ _ _ _ w1 t0 t1 l1 l2 (Hn ?_)
   intro wz hz
   have HZ := Hn (bl_trans HB.out hz)
   clear hz t0 t1 C
   go_wp2_with fail
   refine bodyPost_ret (v := .bool false) (by simp [results, Tryz.results113, go_sem]) rfl ⟨rfl, HZ.out⟩
 ·have E : R = false := by rw [← HR.out]; unfold hs; simp [l1]
  subst E
  refine hs1a _ s w.heap.size m Kg qk qi _ _ _ _ _ _ _ _ _ _ _ _ _ _ _ _ _ _ _ _ _ _ _ _ _ _ w1 t0 t1 l1 (Hn ?_)
  intro wz hz
  have HZ := Hn (bl_trans HB.out hz)
  clear hz t0 t1 C
  go_wp2_with fail
  refine bodyPost_ret (v := .bool false) (by simp [results, Tryz.results113, go_sem]) rfl ⟨rfl, HZ.out⟩
end Ci
end Go.Proofs.YtghcfcglakbkeaaGreatDoor
