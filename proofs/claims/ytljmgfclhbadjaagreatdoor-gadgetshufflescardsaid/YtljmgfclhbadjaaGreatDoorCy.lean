import Derived.Test.YtljmgfclhbadjaaGreatDoorTk
import Derived.Test.YtljmgfclhbadjaaGreatDoorCsl
namespace Go.Proofs.YtljmgfclhbadjaaGreatDoor
open Go.RowKit
set_option linter.unusedVariables false
set_option linter.unusedSimpArgs false
open Cm (Wr Tm co bf Ls lf ins Eqm)
namespace Ci
instance : Inhabited Trm := ⟨⟨(0, 0), ⟨0, 0, 0, 0⟩⟩⟩
def cfT (x y : Trm) : Int := cw x.q y.q
theorem lt_cf (x y : Trm) : Go.Proofs.ltOf cfT x y = bf x.q y.q := by
 unfold Go.Proofs.ltOf cfT
 by_cases h : bf x.q y.q = true
 ·rw [h]; exact decide_eq_true ((cw_neg _ _).2 h)
 ·rw [Bool.not_eq_true] at h
  rw [h]
  exact decide_eq_false (fun e => by rw [(cw_neg _ _).1 e] at h; cases h)
theorem swoT : Go.Sort.SWO (Go.Proofs.ltOf cfT) where
 irrefl x := by rw [lt_cf]; exact Cm.bf_irrefl _
 trans x y z h1 h2 := by rw [lt_cf] at *; exact Cm.bf_trans h1 h2
 ntrans x y z h1 h2 := by
  rw [lt_cf] at *
  have h1' : ¬ (bf x.q y.q = true) := by simp [h1]
  have h2' : ¬ (bf y.q z.q = true) := by simp [h2]
  have h3 : ¬ (bf x.q z.q = true) := by
   rw [Cm.bf_iff] at *
   omega
  simpa using h3
theorem cs_len (x : Trm) : x.cs.length = 6 := rfl
theorem cs_one (x : Trm) : ∀ v ∈ x.cs, v.oneCell' = true := by
 intro v hv
 simp only [Trm.cs, List.mem_cons, List.not_mem_nil, or_false] at hv
 rcases hv with rfl | rfl | rfl | rfl | rfl | rfl <;> rfl
theorem flat_get : ∀ (D : List Trm) (j : Nat), j < D.length * 6 → (D.flatMap Trm.cs)[j]? = some ((D.getD (j / 6) default).cs[j % 6]!)
 | [], j, h => by simp at h
 | x :: D, j, h => by
  rw [List.flatMap_cons]
  by_cases hj : j < 6
  ·rw [List.getElem?_append_left (by rw [cs_len]; exact hj), show j / 6 = 0 by omega, show j % 6 = j by omega]
   have : j < x.cs.length := by rw [cs_len]; exact hj
   rw [List.getElem?_eq_getElem this]
   simp [this]
  ·rw [List.getElem?_append_right (by rw [cs_len]; omega), cs_len, flat_get D (j - 6) (by simp at h; omega)]
   rw [show j / 6 = (j - 6) / 6 + 1 by omega, show j % 6 = (j - 6) % 6 by omega]
   simp
theorem flat_len (D : List Trm) : (D.flatMap Trm.cs).length = D.length * 6 := by
 induction D with
 | nil => rfl
 | cons x D ih => rw [List.flatMap_cons, List.length_append, ih, cs_len]; simp; omega
theorem arr_get (D : List Trm) (i : Nat) : D.toArray[i]! = D.getD i default := by
 simp [List.getD_eq_getElem?_getD]
theorem flatK_get (D : List Trm) (j : Nat) (h : j < D.length * 6) : (Go.Sort.flatK Trm.cs 6 D.toArray)[j]! = (D.getD (j / 6) default).cs[j % 6]! := by
 rw [Go.Sort.get_flatK _ _ _ _ (by simpa using h), arr_get]
theorem own_holds {w : World} {base g c : Nat} {t : TypeId} {D : List Trm} (h : w.ownsRow base t 6 (.slice (some ⟨g, 0, none⟩) D.length c) D.length (D.flatMap Trm.cs)) : Go.Sort.HoldsK Trm.cs 6 w g 0 D.toArray := by
 intro j hj
 rw [Go.Sort.size_flatK, List.size_toArray] at hj
 refine ⟨?_, ?_⟩
 ·have := h.cells (g := g) rfl j _ (flat_get D j hj)
  rw [Addr.add_mid] at this
  rw [this, flatK_get D j hj]
  rfl
 ·have := h.frozenAt (g := g) (0 + j)
  exact this
theorem sort_grown (w : World) (g n : Nat) (D : List Trm) (os : Array Obj) : w.grownBy (Go.Proofs.sortWorldK Trm.cs 6 w g 0 n D.toArray os) (some g) := by
 refine ⟨rfl, rfl, rfl, ?_, ?_⟩
 ·show w.heap.size ≤ ((Go.Sort.putRowK Trm.cs 6 (Go.Sort.ahead w n) g 0 D.toArray).heap ++ os).size
  rw [Array.size_append]
  have : (Go.Sort.putRowK Trm.cs 6 (Go.Sort.ahead w n) g 0 D.toArray).heap.size = w.heap.size := by
   show (w.heap.modify g _).size = _
   simp
  omega
 ·intro i hi hne
  show ((w.heap.modify g _) ++ os)[i]? = w.heap[i]?
  rw [Array.getElem?_append_left (by simpa using hi), Array.getElem?_modify, if_neg (fun e => hne (by rw [e]))]
theorem sort_own {w : World} {base g c n : Nat} {t : TypeId} {D D' : List Trm} {os : Array Obj} (h : w.ownsRow base t 6 (.slice (some ⟨g, 0, none⟩) D.length c) D.length (D.flatMap Trm.cs)) (hl : D'.length = D.length) :
  (Go.Proofs.sortWorldK Trm.cs 6 w g 0 n D'.toArray os).ownsRow base t 6 (.slice (some ⟨g, 0, none⟩) D.length c) D.length (D'.flatMap Trm.cs) := by
 refine ⟨by rw [flat_len, hl], ?_⟩
 rcases h.2 with ⟨h', _⟩ | ⟨g', c', cur, h', hb, hg, hnc, hcm, hcs, ht⟩
 ·simp at h'
 ·simp only [Value.slice.injEq, Option.some.injEq, Addr.mk.injEq, and_true, true_and] at h'
  obtain ⟨rfl, rfl⟩ := h'
  have hlt := (Array.getElem?_eq_some_iff.1 hg).1
  refine .inr ⟨g, c, Go.Sort.putCells id 0 (Go.Sort.flatK Trm.cs 6 D'.toArray) cur, rfl, hb, ?_, hnc, hcm, by simp [Go.Sort.putCells, hcs], ?_⟩
  ·show ((w.heap.modify g _) ++ os)[g]? = _
   rw [Array.getElem?_append_left (by simpa using hlt), Array.getElem?_modify, if_pos rfl, hg]
   rfl
  ·refine List.ext_getElem? (fun j => ?_)
   by_cases hj : j < D.length * 6
   ·have hjc : j < cur.size := by rw [hcs]; exact Nat.lt_of_lt_of_le hj (Nat.mul_le_mul_right 6 hnc)
    rw [List.getElem?_take_of_lt hj, flat_get D' j (by rw [hl]; exact hj), Array.getElem?_toList]
    unfold Go.Sort.putCells
    rw [Array.getElem?_mapIdx, Array.getElem?_eq_getElem hjc, Option.map_some]
    rw [if_pos ⟨Nat.zero_le _, by rw [Go.Sort.size_flatK, List.size_toArray, hl]; omega⟩, Nat.sub_zero, flatK_get D' j (by rw [hl]; exact hj)]
    rfl
   ·rw [List.getElem?_eq_none (by rw [List.length_take]; omega), List.getElem?_eq_none (by rw [flat_len, hl]; omega)]
theorem cmpT (blk off size : Nat) (w : World) : Go.Proofs.CmpLays Tryz.prog 226 #[] Trm.cs 6 cfT blk off size w :=
 fun m os dk _ x y => by
  have := told1_any x y (Go.Proofs.sortWorldK Trm.cs 6 w blk off m dk os)
  exact this.mono fun e w' ⟨he, n, os', hw⟩ => ⟨he, n, os', hw⟩
theorem lenT (n : Nat) (w : World) (h : n < 4611686018427387904) : Calls Tryz.prog 251 #[.int .u64 (n : Int)] w fun e w' => e = .returned (.int .i64 (Go.Lib.bitLen n : Nat)) ∧ w' = w := by
 have h := Go.Proofs.Any.bits_Len (Go.Proofs.SlLaysF0.n15.bits (P := Tryz.prog) (ρ := pdqT_ren) { pdqT with }) (n : Int) w (by omega) (by omega)
 rw [Int.toNat_natCast] at h
 exact h
def So (w : World) (base g n c : Nat) (t : TypeId) (D : List Trm) (w' : World) : Prop := w.grownBy w' (some g) ∧ ∃ D' : List Trm, D'.Perm D ∧ D'.Pairwise (fun x y => bf y.q x.q = false) ∧ w'.ownsRow base t 6 (.slice (some ⟨g, 0, none⟩) n c) n (D'.flatMap Trm.cs)
theorem get_default (D : List Trm) (i : Nat) (h : i < D.length) : D.toArray[i]! = D[i] := by simp [h]
theorem so_of {w w' : World} {base g c : Nat} {t : TypeId} {D : List Trm} {E : Array Trm} (h : w.ownsRow base t 6 (.slice (some ⟨g, 0, none⟩) D.length c) D.length (D.flatMap Trm.cs))
  (hp : Go.Sort.PermIn 0 D.length D.toArray E) (hs : Go.Sort.SortedIn (Go.Proofs.ltOf cfT) 0 D.length E) (hw : Go.Proofs.SWK Trm.cs 6 w g 0 E w') : So w base g D.length c t D w' := by
 obtain ⟨n, os, rfl⟩ := hw
 obtain ⟨D', rfl⟩ : ∃ D' : List Trm, E = D'.toArray := ⟨E.toList, by simp⟩
 have hl : D'.length = D.length := by have := hp.1; simpa using this
 have hperm : D'.Perm D := by
  have := hp.2.2
  rw [show D'.toArray.extract 0 D.length = D'.toArray by rw [← hl]; simp, show D.toArray.extract 0 D.length = D.toArray by simp] at this
  simpa using this
 refine ⟨sort_grown w g n D' os, D', hperm, ?_, sort_own h hl⟩
 rw [List.pairwise_iff_getElem]
 intro i j hi hj hij
 have := hs i j (Nat.zero_le _) hij (by omega)
 rw [get_default D' j hj, get_default D' i hi, lt_cf] at this
 exact this
set_option maxRecDepth 100000 in
set_option maxHeartbeats 4000000 in
theorem sort_any (g c base : Nat) (D : List Trm) (w : World) (ho : w.ownsRow base 55 6 (.slice (some ⟨g, 0, none⟩) D.length c) D.length (D.flatMap Trm.cs)) (hn : D.length < 4611686018427387904) :
  Calls Tryz.prog 225 #[.slice (some ⟨g, 0, none⟩) D.length c, .func (.func 226) #[] #[]] w fun e w' => e = .returned (.tuple #[]) ∧ So w base g D.length c 55 D w' := by
 have hg : g < w.heap.size := (ho.lt g rfl).2
 have hH := own_holds ho
 have eg : ∀ args w, (callFunc 226 args).run Tryz.prog w = .ok (.enter 226 args) w := Go.Proofs.enters_of Tryz.func226 (by kernel_rfl) rfl
 have hlim : Go.Lib.bitLen D.length < 4611686018427387904 := Nat.lt_of_le_of_lt (Go.Lib.bitLen_le D.length 62 (by omega) (by omega)) (by omega)
 have hp := Go.Proofs.AnyQ.pdqsortCmpFunc_all (P := Tryz.prog) (ρ := pdqT_ren) pdqT 6 Tryz.isAgg55 Tryz.sizeOf55 Trm.cs cfT 226 #[] swoT g 0 c D.toArray w eg (cmpT g 0 D.toArray.size w) ⟨cs_len, cs_one, hH, hg⟩ (D.length + 1) 0 D.length (Go.Lib.bitLen D.length) D.toArray w (by omega) rfl (Go.Proofs.SWK.start hH) (Nat.zero_le _) (by simp) (by simpa using hn) hlim (Or.inl rfl)
 have hs := Go.Sort.pdq_sorts (Go.Proofs.ltOf cfT) swoT D.toArray 0 D.length (Go.Lib.bitLen D.length) true true (Nat.zero_le _) (by simp) (Or.inl rfl)
 have hp2 : Calls Tryz.prog 252 #[.slice (some ⟨g, 0, none⟩) D.length c, .int .i64 0, .int .i64 (D.length : Int), .int .i64 (Go.Lib.bitLen D.length : Nat), .func (.func 226) #[] #[]] w fun e w' => e = .returned (.tuple #[]) ∧ So w base g D.length c 55 D w' := by
  have h3 := hp.mono (R' := fun e w' => e = .returned (.tuple #[]) ∧ So w base g D.length c 55 D w') (fun e w' ⟨he, hw⟩ => ⟨he, so_of ho hs.1 hs.2 hw⟩)
  change Calls Tryz.prog 252 _ _ _ at h3
  simpa using h3
 have hl := lenT D.length w hn
 have wr : IntKind.u64.wrap (D.length : Int) = D.length := by simp [IntKind.wrap, IntKind.bits, IntKind.signed]; omega
 have C1 := Hn hl
 have C2 := Hn hp2
 clear hp hs hp2 hl hH ho hg eg
 generalize hG : So w base g D.length c 55 D = R at *
 clear hG
 generalize Go.Lib.bitLen D.length = bl at *
 generalize D.length = n at *
 go_enter Tryz.func225, Tryz.ntmps225
 go_wp2_with (first | (go_at_call 251; refine C1.out.mono ?_; rintro e w1 ⟨rfl, rfl⟩) | (go_at_call 252; refine C2.out.mono ?_; rintro e w1 ⟨rfl, h1⟩))
 go_end0
 exact ⟨rfl, h1⟩
end Ci
end Go.Proofs.YtljmgfclhbadjaaGreatDoor
namespace Go.Proofs.YtljmgfclhbadjaaGreatDoor
open Go.RowKit
set_option linter.unusedVariables false
set_option linter.unusedSimpArgs false
open Cm (Wr Tm co bf Ls lf ins Eqm)
open Go.ChangeMaps (setBlock heap_setBlock_same heap_setBlock_other)
namespace Ci
set_option maxRecDepth 100000
set_option maxHeartbeats 4000000
theorem ins_nil (w : World) : Calls Tryz.prog 263 #[.slice none 0 0, .int .i64 0, .int .i64 0, .func (.func 226) #[] #[]] w fun e w' => e = .returned (.tuple #[]) ∧ w' = w := by
 go_enter Tryz.func263, Tryz.ntmps263
 go_wp2_with fail
 go_loopw [8] (fun iv w' => w' = w ∧ iv = .int .i64 1) (fun _ _ => 0)
 case atStart => exact ⟨rfl, rfl⟩
 case round =>
  obtain ⟨rfl, rfl⟩ := hrel
  go_wp2_with fail
  go_end0
  exact ⟨rfl, rfl⟩
theorem pdq_nil (w : World) : Calls Tryz.prog 252 #[.slice none 0 0, .int .i64 0, .int .i64 0, .int .i64 0, .func (.func 226) #[] #[]] w fun e w' => e = .returned (.tuple #[]) ∧ w' = w := by
 have C := Hn (ins_nil w)
 go_enter Tryz.func252, Tryz.ntmps252
 go_wp2_with fail
 go_loopw [1, 2] (fun av bv w' => w' = w ∧ av = .int .i64 0 ∧ bv = .int .i64 0) (fun _ _ _ => 0)
 case atStart => exact ⟨rfl, rfl, rfl⟩
 case round =>
  obtain ⟨rfl, rfl, rfl⟩ := hrel
  go_wp2_with (go_at_call 263; refine C.out.mono ?_; rintro e w1 ⟨rfl, rfl⟩)
  refine bodyPost_ret (v := .tuple #[]) (by simp [results, Tryz.results252, go_sem]) rfl ⟨rfl, rfl⟩
theorem sort_nil (w : World) : Calls Tryz.prog 225 #[.slice none 0 0, .func (.func 226) #[] #[]] w fun e w' => e = .returned (.tuple #[]) ∧ w' = w := by
 have C1 := Hn (lenT 0 w (by omega))
 have e0 : Go.Lib.bitLen 0 = 0 := by decide
 rw [e0] at C1
 have C2 := Hn (pdq_nil w)
 go_enter Tryz.func225, Tryz.ntmps225
 go_wp2_with (first | (go_at_call 251; refine C1.out.mono ?_; rintro e w1 ⟨rfl, rfl⟩) | (go_at_call 252; refine C2.out.mono ?_; rintro e w1 ⟨rfl, rfl⟩))
 go_end0
 exact ⟨rfl, rfl⟩
def Eqc (S M : List Tm) : Prop := ∀ q, co S q = co M q
section
variable (w : World) {ops : Array Oper} {rest : List Oper} {o : Oper} {a : Act} {Q : Exit → Act → World → Prop}
theorem wpList_rangeC (hg : o.guard = none) (m : Operand) (hop : o.op = Op.range 184 m) (b : Nat) (M : List Tm) (hm : a.eval m = .map (some b)) (h : Mp w b M)
  (hK : ∀ w', Rg w' b w.heap.size M [] → Below w.heap.size w w' → wpList Tryz.prog ops Q rest (a.put o.dst (.pointer (some ⟨w.heap.size, 0, none⟩))) w') : wpList Tryz.prog ops Q (o :: rest) a w := by
 refine wpList_plain hg fun K' hK' => ?_
 obtain ⟨w', hrun, r1, r2⟩ := h.range
 unfold Oper.wp
 simp [execOp, hop, hm, hrun, Result.andThen]
 exact hK' _ _ (hK w' r1 r2)
theorem wpList_nextC (hg : o.guard = none) (it : Operand) (hop : o.op = Op.next it false) (b r : Nat) (M S : List Tm) (hit : a.eval it = .pointer (some ⟨r, 0, none⟩)) (h : Rg w b r M S)
  (hDone : Eqc S M → wpList Tryz.prog ops Q rest (a.put o.dst (.tuple #[.bool false])) w)
  (hMore : ∀ (qk qi n : Int) (z : E4) (w' : World), lst n = z → Rg w' b r M (S ++ [((qk, qi), n)]) → S.length < M.length → w.grownBy w' (some r) → (Instr.entry (.pointer (some ⟨r, 0, none⟩))).run Tryz.prog w' = .ok (.tuple #[.agg #[.int .i64 qk, .int .i64 qi], .agg #[.int .u64 z.x0, .int .u64 z.x1, .int .u64 z.x2, .int .u64 z.x3]]) w' → wpList Tryz.prog ops Q rest (a.put o.dst (.tuple #[.bool true, .agg #[.int .i64 qk, .int .i64 qi], .agg #[.int .u64 z.x0, .int .u64 z.x1, .int .u64 z.x2, .int .u64 z.x3]])) w') :
  wpList Tryz.prog ops Q (o :: rest) a w := by
 refine wpList_plain hg fun K' hK' => ?_
 unfold Oper.wp
 rcases h.next o.type with ⟨h0, hrun⟩ | ⟨x, w', hrun, h1, h2, h3, h4⟩
 ·simp [execOp, hop, hit, hrun, Result.andThen]
  exact hK' _ _ (hDone h0)
 ·obtain ⟨⟨qk, qi⟩, n⟩ := x
  have hk := hMore qk qi n (lst n) w' rfl h1 h2 h3 h4
  clear hMore hDone
  simp only [wv, E4.v] at hrun
  generalize lst n = z at *
  simp [execOp, hop, hit, hrun, Result.andThen]
  exact hK' _ _ hk
theorem run_clearC {w : World} {b : Nat} {M : List Tm} (h : Mp w b M) (ty : TypeId) : ∃ w', (Builtin.clear_ #[184] ty #[.map (some b)]).run Tryz.prog w = .ok (.tuple #[]) w' ∧ Mp w' b [] ∧ w.grownBy w' (some b) := by
 obtain ⟨es, clock, hb, hm⟩ := h
 have ht : Tryz.prog.underlying 184 = some (.map 52 53) := by kernel_rfl
 refine ⟨setBlock w b (.map #[] clock), ?_, ⟨#[], clock, heap_setBlock_same hb _, me_nil clock⟩, grown_block hb _⟩
 simp [Builtin.clear_, Sem.run_bind, run_underlying ht, MapKept.run_getObj_map hb, MapKept.run_setObj_map _ hb, Result.andThen, setBlock]
end
theorem Rg.left {w : World} {b r : Nat} {M S : List Tm} (h : Rg w b r M S) : w.rangeLeft b r + S.length = M.length := by
 obtain ⟨es, clock, seen, c0, h1, h2, h3, h4, h5, h6, h7, h8, h9⟩ := h
 unfold World.rangeLeft
 rw [h1, h3]
 simp only
 omega
def nz (S : List Tm) : List Tm := S.filter fun x => decide (x.2 ≠ 0)
theorem nz_app (S : List Tm) (x : Tm) : nz (S ++ [x]) = if x.2 = 0 then nz S else nz S ++ [x] := by
 unfold nz
 rw [List.filter_append]
 by_cases h : x.2 = 0 <;> simp [h]
theorem nz_le (S : List Tm) : (nz S).length ≤ S.length := List.length_filter_le _ _
theorem nz_co (S : List Tm) (q : Wr) : co (nz S) q = co S q := by
 induction S with
 | nil => rfl
 | cons x S ih =>
  unfold nz at *
  by_cases h : x.2 = 0
  ·rw [List.filter_cons_of_neg (by simp [h]), ih, Cm.co_cons, h]; split <;> omega
  ·rw [List.filter_cons_of_pos (by simp [h]), Cm.co_cons, Cm.co_cons, ih]
theorem Rg.own {w : World} {b r : Nat} {M S : List Tm} (h : Rg w b r M S) {base : Nat} {t : TypeId} {v : Value} {n : Nat} {xs : List Value} (ho : w.ownsRow base t 6 v n xs) {w' : World} (hg : w.grownBy w' v.ownBlock) : Rg w' b r M S := by
 have hne : ∀ k o, w.heap[k]? = some o → (∀ cs e fr, o ≠ .cells cs e fr) → some k ≠ v.ownBlock := fun k o hk hn e => by
  rcases ho.2 with ⟨rfl, -⟩ | ⟨g, c, cur, rfl, _, k1, _⟩
  ·cases e
  ·simp only [Value.ownBlock, Option.some.injEq] at e
   subst e
   rw [k1] at hk
   exact hn _ _ _ (Option.some.inj hk).symm
 have hb : some b ≠ v.ownBlock := by
  obtain ⟨es, clock, seen, c0, h1, h2, h3, _⟩ := h
  exact hne b _ h1 (by simp)
 have hr : some r ≠ v.ownBlock := by
  obtain ⟨es, clock, seen, c0, h1, h2, h3, _⟩ := h
  exact hne r _ h3 (by simp)
 exact h.grown hg hb hr
theorem own_keepT {w1 w2 : World} {base s : Nat} {e : TypeId} {v : Value} {n : Nat} {xs : List Value} (h : w1.ownsRow base e s v n xs) (hb : Below w1.heap.size w1 w2) : w2.ownsRow base e s v n xs := ⟨h.1, by
 rcases h.2 with h0 | ⟨g, c, cur, h1, h2, h3, h4⟩
 ·exact .inl h0
 ·exact .inr ⟨g, c, cur, h1, h2, (hb.block g (Array.getElem?_eq_some_iff.1 h3).1).trans h3, h4⟩⟩
theorem own_keepM {w1 w2 : World} {base s b : Nat} {e : TypeId} {v : Value} {n : Nat} {xs : List Value} (h : w1.ownsRow base e s v n xs) (hg : w1.grownBy w2 (some b)) (hn : ∀ cs t fr, w1.heap[b]? ≠ some (.cells cs t fr)) : w2.ownsRow base e s v n xs := ⟨h.1, by
 rcases h.2 with h0 | ⟨g, c, cur, h1, h2, h3, h4⟩
 ·exact .inl h0
 ·exact .inr ⟨g, c, cur, h1, h2, (hg.block g (Array.getElem?_eq_some_iff.1 h3).1 (fun e => hn _ _ _ (by rw [← Option.some.inj e]; exact h3))).trans h3, h4⟩⟩
theorem Rg.nor {w : World} {b r : Nat} {M S : List Tm} (h : Rg w b r M S) : ∀ cs t fr, w.heap[r]? ≠ some (.cells cs t fr) := fun cs t fr e => by
 obtain ⟨es, clock, seen, c0, h1, h2, h3, _⟩ := h
 rw [h3] at e; cases e
theorem Mp.nob {w : World} {b : Nat} {M : List Tm} (h : Mp w b M) : ∀ cs t fr, w.heap[b]? ≠ some (.cells cs t fr) := fun cs t fr e => by
 obtain ⟨es, clock, h1, _⟩ := h
 rw [h1] at e; cases e
theorem own_nilT (w : World) (base : Nat) : w.ownsRow base 55 6 (.slice none 0 0) (nz []).length (tls (nz [])) := World.ownsRow_nil _ _ _ _
theorem tinfo : (Tryz.prog.info? 55) = some (Tryz.prog.info? 55).get! := by kernel_rfl
structure Tr (w : World) (b r : Nat) (M S : List Tm) (v : Value) (w' : World) : Prop where
 rg : Rg w' b r M S
 own : w'.ownsRow w.heap.size 55 6 v (nz S).length (tls (nz S))
 bel : Below w.heap.size w w'
 rl : w.heap.size ≤ r
def Td (w : World) (b : Nat) (M : List Tm) (v : Value) (w' : World) : Prop := ∃ X : List Tm, w'.ownsRow w.heap.size 55 6 v X.length (tls X) ∧ Ls Sm.L X ∧ (∀ p, co X p = co M p) ∧ X.length ≤ M.length ∧ Mp w' b [] ∧ w.grownBy w' (some b)
theorem flat_tls (X : List Tm) : (X.map tmOf).flatMap Trm.cs = tls X := by rw [tls_map, List.flatMap_map]
theorem cells_newT (w : World) (cs : List Value) (t : TypeId) : ∀ j u, cs[j]? = some u → (w.alloc (.cells cs.toArray t)).cell? ((⟨w.heap.size, 0, none⟩ : Addr).add j) = some u := by
 intro j u hu
 rw [Addr.add_mid, Nat.zero_add, cell_of_row (w.alloc (.cells cs.toArray t)) w.heap.size j cs.toArray t (0, 0) (heap_alloc_new w _)]
 simpa using hu
theorem six_one (a b : Int) (z : E4) : ∀ u ∈ ([.int .i64 a, .int .i64 b, .int .u64 z.x0, .int .u64 z.x1, .int .u64 z.x2, .int .u64 z.x3] : List Value), u.oneCell' = true := by
 intro v hv
 simp only [List.mem_cons, List.not_mem_nil, or_false] at hv
 rcases hv with rfl | rfl | rfl | rfl | rfl | rfl <;> rfl
theorem told_bel {w w2 w3 w4 : World} {t : TypeId} {v : Value} {n : Nat} {xs : List Value} (h2 : Below w.heap.size w w2) (h3 : Below w2.heap.size w2 w3) (ho : w2.ownsRow w.heap.size t 6 v n xs) (hg : w3.grownBy w4 v.ownBlock) : Below w.heap.size w w4 := by
 have h := h2.trans (h3.mono h2.size)
 exact h.grown hg h.size (fun k hk => (ho.lt k hk).1)
theorem nz_mem {S : List Tm} {x : Tm} (h : x ∈ nz S) : x ∈ S ∧ x.2 ≠ 0 := by
 unfold nz at h
 have := List.mem_filter.1 h
 exact ⟨this.1, by simpa using this.2⟩
def unT (t : Trm) : Tm := (t.q, t.a.n)
theorem un_tm (x : Tm) (h : 0 ≤ x.2 ∧ x.2 < Sm.L) : unT (tmOf x) = x := by
 unfold unT tmOf
 refine Prod.ext rfl ?_
 show (lst x.2).n = x.2
 rw [lst_n, Int.emod_eq_of_lt h.1 h.2]
theorem Rg.mem {w : World} {b r : Nat} {M S : List Tm} (h : Rg w b r M S) : (∀ x ∈ S, 0 ≤ x.2 ∧ x.2 < Sm.L) ∧ S.Pairwise (fun x y => x.1 ≠ y.1) := by
 obtain ⟨es, clock, seen, c0, h1, h2, h3, h4, h5, h6, h7, h8, h9⟩ := h
 exact ⟨h9, h7⟩
theorem told_end0 {w wr w7 : World} {b r : Nat} {M S : List Tm} (hrg : Rg wr b r M S) (hb : Below w.heap.size w wr) (hd : Eqc S M) (h0 : (nz S).length = 0) (hm : Mp w7 b []) (hg : wr.grownBy w7 (some b)) : Td w b M (.slice none 0 0) w7 := by
 have e : nz S = [] := List.length_eq_zero_iff.1 h0
 refine ⟨[], World.ownsRow_nil _ _ _ _, Cm.ls_nil _, fun p => ?_, by simp, hm, gb_tr (gbI hb _) hg⟩
 rw [← hd p, ← nz_co S p, e]
theorem told_end {w wr w7 w8 : World} {b r g k c : Nat} {M S : List Tm} (hrg : Rg wr b r M S) (hb : Below w.heap.size w wr) (hd : Eqc S M) (hk : (nz S).length = k) (hm : Mp w7 b []) (hg : wr.grownBy w7 (some b)) (ho7 : w7.ownsRow w.heap.size 55 6 (.slice (some ⟨g, 0, none⟩) k c) k (tls (nz S))) (hs : So w7 w.heap.size g k c 55 ((nz S).map tmOf) w8) : Td w b M (.slice (some ⟨g, 0, none⟩) k c) w8 := by
 obtain ⟨hg8, D', hp, hs, ho⟩ := hs
 have hz := Rg.mem hrg
 have hin : ∀ x ∈ nz S, 0 ≤ x.2 ∧ x.2 < Sm.L := fun x hx => hz.1 x (nz_mem hx).1
 have hX : (D'.map unT).Perm (nz S) := by
  have := hp.map unT
  rw [List.map_map, List.map_congr_left (f := unT ∘ tmOf) (g := id) (fun x hx => un_tm x (hin x hx)), List.map_id] at this
  exact this
 have hD : (D'.map unT).map tmOf = D' := by
  rw [List.map_map]
  have : ∀ t ∈ D', (tmOf ∘ unT) t = t := fun t ht => by
   obtain ⟨x, hx, rfl⟩ := List.mem_map.1 (hp.mem_iff.1 ht)
   show tmOf (unT (tmOf x)) = tmOf x
   rw [un_tm x (hin x hx)]
  rw [List.map_congr_left (g := id) this, List.map_id]
 have hlen : (D'.map unT).length = k := by rw [hX.length_eq, hk]
 have hgb : g ≠ b := fun e => by
  rcases ho7.2 with ⟨h', _⟩ | ⟨g', c', cur, h', h1, h2, _⟩
  ·simp at h'
  ·simp only [Value.slice.injEq, Option.some.injEq, Addr.mk.injEq, and_true, true_and] at h'
   obtain ⟨rfl, rfl⟩ := h'
   subst e
   exact Mp.nob hm _ _ _ h2
 have hbg : w.heap.size ≤ g := (ho.lt g rfl).1
 refine ⟨D'.map unT, ?_, ⟨?_, ?_⟩, ?_, ?_, hm.grown hg8 (fun e => hgb (Option.some.inj e).symm), World.grownBy.andThen (gb_tr (gbI hb _) hg) hg8 (fun j hj => .inl (by obtain rfl := Option.some.inj hj; exact hbg))⟩
 ·rw [hlen, ← flat_tls, hD]; exact ho
 ·have h1 : (D'.map unT).Pairwise (fun x y => bf y.1 x.1 = false) := by
   rw [List.pairwise_map]
   exact hs
  have h2 : (D'.map unT).Pairwise (fun x y => x.1 ≠ y.1) := (hX.pairwise_iff (fun h => Ne.symm h)).2 (List.Pairwise.filter _ hz.2)
  refine (h1.and h2).imp (fun {x y} h => ?_)
  cases e : bf x.1 y.1 with
  | true => rfl
  | false => exact absurd (Cm.bf_tri _ _ e h.1) h.2
 ·intro x hx
  have hx1 := hX.mem_iff.1 hx
  have := hin x hx1
  have := (nz_mem hx1).2
  omega
 ·intro p
  rw [Cm.co_perm hX, nz_co, hd p]
 ·have := hrg.le
  have := nz_le S
  rw [hlen, ← hk]
  omega
theorem told_any (b : Nat) (M : List Tm) (w : World) (hT : Tb w) (hM : Mp w b M) (hn : M.length ≤ 2932031007402) :
  Calls Tryz.prog 173 #[.map (some b)] w fun e w' => ∃ v : Value, e = .returned v ∧ Td w b M v w' := by
 have HM := Hn hM
 have HT := Hn hT
 have HN := Hn hn
 have HI := Hn tinfo
 have HZ0 : Hid ((Tryz.prog.info? 55).get!.zero = some (.agg #[.int .i64 0, .int .i64 0, .int .u64 0, .int .u64 0, .int .u64 0, .int .u64 0])) := Hn (by kernel_rfl)
 have HZ1 : Hid ((Tryz.prog.info? 55).get!.size = 6) := Hn (by kernel_rfl)
 have HZ2 : Hid ((Tryz.prog.info? 55).get!.bytes = 48) := Hn (by kernel_rfl)
 have T1 : Hid (Tryz.prog.underlying 50 = some (.slice 55)) := Hn (by kernel_rfl)
 clear hM hT hn
 go_enter Tryz.func173, Tryz.ntmps173
 go_wp2_with (first | (at_range; refine wpList_rangeC _ rfl _ rfl b M rfl HM.out ?_; intro w0 hrg hb0; have TR := Hn (⟨hrg, own_nilT w0 w.heap.size, hb0, Nat.le_refl _⟩ : Tr w b w.heap.size M [] (.slice none 0 0) w0); clear hrg hb0))
 go_frame
 generalize hr : w.heap.size = r at TR ⊢
 clear hr
 go_loopw [3] (fun v w' => ∃ S, Hid (Tr w b r M S v w')) (fun _ w' => w'.rangeLeft b r)
 case atStart => exact ⟨[], TR⟩
 case round =>
  clear TR
  obtain ⟨S, hS⟩ := hrel
  have hrg := hS.out.rg
  go_wp2_with (first | (at_next; refine wpList_nextC _ rfl _ rfl b r M S rfl hrg ?_ ?_))
  ·intro hdone
   have HD := Hn hdone
   have OW := hS.out.own
   have RB := hS.out.bel
   have RM := hS.out.rg.mp
   have RL := Hn hS.out.rl
   have HW := Hn (And.intro hS.out.rg (And.intro OW (And.intro RB RM)))
   clear hdone hrg hS RB
   rcases OW.2 with ⟨hv, h0⟩ | ⟨g, c, cur, hv, hg1, hg2, -⟩
   ·have C := Hn sort_nil
    clear OW
    subst hv
    obtain ⟨w7, hcl, hm7, hg7⟩ := run_clearC RM 0
    have M7 := Hn hm7
    have G7 := Hn hg7
    clear hm7 hg7 RM
    go_wp2_with (first | (go_at_call 225; refine (C.out _).mono ?_; rintro e w8 ⟨rfl, rfl⟩))
    refine bodyPost_ret (v := .slice none 0 0) (by simp [results, Tryz.results173, go_sem]) rfl ⟨_, rfl, ?_⟩
    exact told_end0 HW.out.1 HW.out.2.2.1 HD.out h0 M7.out G7.out
   ·subst hv
    have hl : (nz S).length = ((nz S).map tmOf).length := by simp
    have hn62 : ((nz S).map tmOf).length < 4611686018427387904 := by have := nz_le S; have := HW.out.1.le; have := HN.out; simp; omega
    have C := Hn (fun w' (h : w'.ownsRow w.heap.size 55 6 (.slice (some ⟨g, 0, none⟩) (nz S).length c) (nz S).length (tls (nz S))) => sort_any g c w.heap.size ((nz S).map tmOf) w' (by rw [← hl, flat_tls]; exact h) hn62)
    have HL := Hn hl
    rw [← hl] at C
    clear OW hg1 hg2 hl hn62 cur
    have NB := Hn (Mp.nob RM)
    generalize hk : (nz S).length = k at *
    have HK := Hn hk
    clear hk
    obtain ⟨w7, hcl, hm7, hg7⟩ := run_clearC RM 0
    have M7 := Hn hm7
    have G7 := Hn hg7
    have O7 := Hn (own_keepM HW.out.2.1 hg7 NB.out)
    clear hm7 hg7 RM
    go_wp2_with (first | (go_at_call 225; refine (C.out _ O7.out).mono ?_; rintro e w8 ⟨rfl, h8⟩; have S8 := Hn h8; clear h8))
    refine bodyPost_ret (v := .slice (some ⟨g, 0, none⟩) k c) (by simp [results, Tryz.results173, go_sem]) rfl ⟨_, rfl, ?_⟩
    exact told_end HW.out.1 HW.out.2.2.1 HD.out HK.out M7.out G7.out O7.out S8.out
  ·intro qk qi n z w2 hz hrg2 hlt hg2 hen
   have HR2 := Hn hrg2
   have ho2 := own_keepM hS.out.own hg2 (Rg.nor hrg)
   have hb2 : Below w.heap.size w w2 := hS.out.bel.grown hg2 hS.out.bel.size (fun k hk => by obtain rfl := Option.some.inj hk; exact hS.out.rl)
   have O2 := Hn ho2
   have B2 := Hn hb2
   have LT := Hn (And.intro hlt (And.intro (Rg.left hrg) (Rg.left hrg2)))
   have RL := Hn hS.out.rl
   have ZN : Hid (lst n = z) := Hn hz
   have NR : Hid (0 ≤ n ∧ n < Sm.L) := Hn (by
    obtain ⟨es, clock, seen, c0, h1, h2, h3, h4, h5, h6, h7, h8, h9⟩ := hrg2
    exact h9 ((qk, qi), n) (by simp))
   have OK := Hn (show z.ok from hz ▸ lst_ok n)
   have T2 := Hn (HT.out.keep hb2)
   have HS := hS
   clear hz hrg2 hlt hg2 ho2 hb2 hS hrg
   have zn : z.n % Sm.L = n := by rw [← ZN.out, lst_n, Int.emod_emod_of_dvd _ (Int.dvd_refl _)]; exact Int.emod_eq_of_lt NR.out.1 NR.out.2
   by_cases h0 : n = 0
   ·have IZ := Hn (fun v T => IsZero_any z v T OK.out)
    have ed : decide (z.n % Sm.L = 0) = true := decide_eq_true (by rw [zn, h0])
    rw [ed] at IZ
    simp only [E4.v] at IZ
    have EN := Hn (show nz (S ++ [((qk, qi), n)]) = nz S by rw [nz_app, if_pos h0])
    clear ed zn h0
    go_wp2_with (first | (go_at_call 61; refine (IZ.out _ (T2.out.keep (bl_alloc2 _ _ _))).mono ?_; rintro e w3 ⟨rfl, hb⟩; have B3 := Hn (bl_trans (bl_alloc2 _ _ _) hb); clear hb))
    go_roundw
    case rel => exact ⟨S ++ [((qk, qi), n)], Hn ⟨HR2.out.keep B3.out, by rw [EN.out]; exact own_keepT O2.out B3.out, Below.trans B2.out (B3.out.mono B2.out.size), RL.out⟩⟩
    case measure =>
     have l1 := Rg.left (HR2.out.keep B3.out)
     have l2 := LT.out.2.1
     simp only [List.length_append, List.length_singleton] at l1
     omega
   ·have IZ := Hn (fun v T => IsZero_any z v T OK.out)
    have ed : decide (z.n % Sm.L = 0) = false := decide_eq_false (by rw [zn]; exact h0)
    rw [ed] at IZ
    simp only [E4.v] at IZ
    have EN := Hn (show nz (S ++ [((qk, qi), n)]) = nz S ++ [((qk, qi), n)] by rw [nz_app, if_neg h0])
    have KL : Hid ((nz S).length + 1 ≤ 2932031007402) := Hn (by have := nz_le S; have := LT.out.1; have := HN.out; omega)
    have TE : Hid ((tmOf ((qk, qi), n)).cs = [.int .i64 qk, .int .i64 qi, .int .u64 z.x0, .int .u64 z.x1, .int .u64 z.x2, .int .u64 z.x3]) := Hn (by unfold tmOf Trm.cs; rw [ZN.out])
    clear ed zn h0
    generalize hk : (nz S).length = k at *
    have HK := Hn hk
    clear hk
    go_wp2_with (first | (go_at_call 61; refine (IZ.out _ (T2.out.keep (bl_alloc2 _ _ _))).mono ?_; rintro e w3 ⟨rfl, hb⟩; have B3 := Hn (bl_trans (bl_alloc2 _ _ _) hb); have y0 : w3.cell? ⟨w2.heap.size, 0, none⟩ = some (.int .i64 qk) := cell_keep (by go_simp) hb; have y1 : w3.cell? ⟨w2.heap.size, 1, none⟩ = some (.int .i64 qi) := cell_keep (by go_simp) hb; have z0 : w3.cell? ⟨w2.heap.size + 1, 0, none⟩ = some (.int .u64 z.x0) := cell_keep (by go_simp) hb; have z1 : w3.cell? ⟨w2.heap.size + 1, 1, none⟩ = some (.int .u64 z.x1) := cell_keep (by go_simp) hb; have z2 : w3.cell? ⟨w2.heap.size + 1, 2, none⟩ = some (.int .u64 z.x2) := cell_keep (by go_simp) hb; have z3 : w3.cell? ⟨w2.heap.size + 1, 3, none⟩ = some (.int .u64 z.x3) := cell_keep (by go_simp) hb; clear hb) | (at_builtin; refine wpList_append_own_at _ rfl _ _ 50 rfl w.heap.size 55 _ _ 6 48 T1.out HI.out HZ0.out HZ1.out HZ2.out rfl (by decide) _ k (tls (nz S)) rfl (own_keepT O2.out (bl_trans B3.out (bl_alloc _ _))) ⟨w3.heap.size, 0, none⟩ 1 1 [.int .i64 qk, .int .i64 qi, .int .u64 z.x0, .int .u64 z.x1, .int .u64 z.x2, .int .u64 z.x3] rfl rfl (cells_newT _ _ _) (six_one _ _ _) (by have := KL.out; unfold maxLen; omega) (by have := KL.out; omega) (by have := B2.out.size; have := B3.out.size; simp; omega) ?_; intro v4 w4 ho4 hg4 _ _; have O4 := Hn ho4; have G4 := Hn hg4; clear ho4 hg4))
    have R4 := Hn (Rg.own (HR2.out.keep (bl_trans B3.out (bl_alloc w3 (.cells #[.int .i64 qk, .int .i64 qi, .int .u64 z.x0, .int .u64 z.x1, .int .u64 z.x2, .int .u64 z.x3] 55)))) (own_keepT O2.out (bl_trans B3.out (bl_alloc w3 (.cells #[.int .i64 qk, .int .i64 qi, .int .u64 z.x0, .int .u64 z.x1, .int .u64 z.x2, .int .u64 z.x3] 55)))) G4.out)
    go_roundw
    case rel => exact ⟨S ++ [((qk, qi), n)], Hn ⟨R4.out, by rw [EN.out, tls_snoc, TE.out, List.length_append, List.length_singleton, HK.out]; exact O4.out, told_bel B2.out (bl_trans B3.out (bl_alloc _ _)) O2.out G4.out, RL.out⟩⟩
    case measure =>
     have l1 := Rg.left R4.out
     have l2 := LT.out.2.1
     simp only [List.length_append, List.length_singleton] at l1
     omega
end Ci
end Go.Proofs.YtljmgfclhbadjaaGreatDoor
namespace Go.Proofs.YtljmgfclhbadjaaGreatDoor
set_option maxRecDepth 100000
set_option maxHeartbeats 16000000
open Go.RowKit
set_option linter.unusedVariables false
set_option linter.unusedSimpArgs false
open Cm (Wr Tm co bf Ls lf ins Eqm)
namespace Ci
theorem L0 : (0 : Int) < Sm.L := by decide
def Sq (w : World) (b : Nat) (X : List Tm) (v : Value) (w' : World) : Prop := w'.ownsRow w.heap.size 55 6 v X.length (tls X) ∧ Mp w' b [] ∧ w.grownBy w' (some b) ∧ Ls Sm.L X
def Lq (w : World) (X : List Tm) (v : Value) (w' : World) : Prop := w'.ownsRow w.heap.size 55 6 v X.length (tls X) ∧ Below w.heap.size w w' ∧ Ls Sm.L X
theorem own_monoT {w : World} {base base' s : Nat} {e : TypeId} {v : Value} {n : Nat} {xs : List Value} (h : w.ownsRow base e s v n xs) (hb : base' ≤ base) : w.ownsRow base' e s v n xs := by
 refine ⟨h.1, ?_⟩
 rcases h.2 with h | ⟨g, c, cur, h1, h2, h3⟩
 ·exact .inl h
 ·exact .inr ⟨g, c, cur, h1, Nat.le_trans hb h2, h3⟩
theorem sq_of {w w1 w2 w3 : World} {b n1 n2 : Nat} {X Y M1 M2 : List Tm} {v : Value} (h1 : w.grownBy w1 (some b)) (q1 : ∀ p, co M1 p % Sm.L = (co [] p + co X p) % Sm.L) (h2 : w1.grownBy w2 (some b)) (q2 : ∀ p, co M2 p % Sm.L = (co M1 p + co Y p) % Sm.L) (hT : Td w2 b M2 v w3) : Sq w b (lf Sm.L (X ++ Y)) v w3 := by
 obtain ⟨Z, ho, hl, hc, _, hm, hg⟩ := hT
 have e : Z = lf Sm.L (X ++ Y) := Cm.lf_only L0 hl (fun p => by
  rw [hc p, q2 p, Int.add_emod, q1 p, ← Int.add_emod, Cm.co_app, Cm.co_nil]
  congr 1
  omega)
 subst e
 exact ⟨own_monoT ho (gb_tr h1 h2).size, hm, gb_tr (gb_tr h1 h2) hg, hl⟩
theorem sq_one {w w1 w3 : World} {b : Nat} {X M1 : List Tm} {v : Value} (h1 : w.grownBy w1 (some b)) (q1 : ∀ p, co M1 p % Sm.L = (co [] p + co X p) % Sm.L) (hT : Td w1 b M1 v w3) : Sq w b (lf Sm.L X) v w3 := by
 obtain ⟨Z, ho, hl, hc, _, hm, hg⟩ := hT
 have e : Z = lf Sm.L X := Cm.lf_only L0 hl (fun p => by
  rw [hc p, q1 p, Cm.co_nil]
  congr 1
  omega)
 subst e
 exact ⟨own_monoT ho h1.size, hm, gb_tr h1 hg, hl⟩
theorem lq_of {w : World} {X : List Tm} {v : Value} {w' : World} (h : Sq (w.alloc (.map #[] 0)) w.heap.size X v w') : Lq w X v w' := by
 obtain ⟨ho, hm, hg, hl⟩ := h
 have hs : (w.alloc (.map #[] 0)).heap.size = w.heap.size + 1 := by simp
 exact ⟨own_monoT ho (by omega), (bl_alloc w _).grown hg (by omega) (fun k hk => by obtain rfl := Option.some.inj hk; exact Nat.le_refl _), hl⟩
theorem sum_any (P Q : Option Addr) (n c m d b : Nat) (f g : Nat → Trm) (w : World) (hT : Tb w) (hn : n + m ≤ 2932031007402) (hf : ∀ k, k < n → (f k).a.ok) (hg : ∀ k, k < m → (g k).a.ok) (hL : Lt w P n f) (hL2 : Lt w Q m g) (hM : Mp w b []) :
  Calls Tryz.prog 97 #[.map (some b), .slice P n c, .slice Q m d] w fun e w' => ∃ v, e = .returned v ∧ Sq w b (lf Sm.L (glL n f ++ glL m g)) v w' := by
 have C1 := Hn (putL_any P n c b [] f w hT (by omega) hf hL hM)
 have C2 := Hn (fun w' M' (hg' : w.grownBy w' (some b)) (h : Mp w' b M') => putL_any Q m d b M' g w' (mp_tb hM hg' hT) (by omega) hg (mp_lt hM hg' hL2) h)
 have C3 := Hn (fun w' M' (hg' : w.grownBy w' (some b)) (h : Mp w' b M') (hl : M'.length ≤ 2932031007402) => told_any b M' w' (mp_tb hM hg' hT) h hl)
 have HN := Hn hn
 clear hn hT hf hg hL hL2 hM
 generalize glL n f = X at *
 generalize glL m g = Y at *
 go_enter Tryz.func97, Tryz.ntmps97
 go_upto_region 2 with (first | (go_at_call 172; refine C1.out.mono ?_; rintro e w1 ⟨rfl, h1⟩; have P1 := Hn h1; clear h1))
 clear C1
 obtain ⟨g1, M1, m1, q1, l1⟩ := P1.out
 have G1 := Hn g1
 have Q1 := Hn q1
 have K1 := Hn l1
 have C4 := Hn (C2.out w1 M1 g1 m1)
 clear C2 g1 q1 l1 m1 P1
 go_upto_region 3 with (first | (go_at_call 172; refine C4.out.mono ?_; rintro e w2 ⟨rfl, h2⟩; have P2 := Hn h2; clear h2))
 clear C4
 obtain ⟨g2, M2, m2, q2, l2⟩ := P2.out
 have G2 := Hn g2
 have Q2 := Hn q2
 have C5 := Hn (C3.out w2 M2 (gb_tr G1.out g2) m2 (by have := K1.out; have := HN.out; simp at *; omega))
 clear C3 g2 q2 l2 m2 P2
 go_wp2_with (first | (go_at_call 173; refine C5.out.mono ?_; rintro e w3 ⟨v, rfl, h3⟩; have P3 := Hn h3; clear h3))
 refine bodyPost_ret (v := v) (by simp [results, Tryz.results97, go_sem]) rfl ⟨v, rfl, ?_⟩
 exact sq_of (n1 := n) (n2 := m) G1.out Q1.out G2.out Q2.out P3.out
theorem difference_any (P Q : Option Addr) (n c m d b : Nat) (f g : Nat → Trm) (w : World) (hT : Tb w) (hn : n + m ≤ 2932031007402) (hf : ∀ k, k < n → (f k).a.ok) (hg : ∀ k, k < m → (g k).a.ok) (hL : Lt w P n f) (hL2 : Lt w Q m g) (hM : Mp w b []) :
  Calls Tryz.prog 214 #[.map (some b), .slice P n c, .slice Q m d] w fun e w' => ∃ v, e = .returned v ∧ Sq w b (lf Sm.L (glL n f ++ glN m g)) v w' := by
 have C1 := Hn (putL_any P n c b [] f w hT (by omega) hf hL hM)
 have C2 := Hn (fun w' M' (hg' : w.grownBy w' (some b)) (h : Mp w' b M') => putN_any Q m d b M' g w' (mp_tb hM hg' hT) (by omega) hg (mp_lt hM hg' hL2) h)
 have C3 := Hn (fun w' M' (hg' : w.grownBy w' (some b)) (h : Mp w' b M') (hl : M'.length ≤ 2932031007402) => told_any b M' w' (mp_tb hM hg' hT) h hl)
 have HN := Hn hn
 clear hn hT hf hg hL hL2 hM
 generalize glL n f = X at *
 generalize glN m g = Y at *
 go_enter Tryz.func214, Tryz.ntmps214
 go_upto_region 2 with (first | (go_at_call 172; refine C1.out.mono ?_; rintro e w1 ⟨rfl, h1⟩; have P1 := Hn h1; clear h1))
 clear C1
 obtain ⟨g1, M1, m1, q1, l1⟩ := P1.out
 have G1 := Hn g1
 have Q1 := Hn q1
 have K1 := Hn l1
 have C4 := Hn (C2.out w1 M1 g1 m1)
 clear C2 g1 q1 l1 m1 P1
 go_upto_region 3 with (first | (go_at_call 172; refine C4.out.mono ?_; rintro e w2 ⟨rfl, h2⟩; have P2 := Hn h2; clear h2))
 clear C4
 obtain ⟨g2, M2, m2, q2, l2⟩ := P2.out
 have G2 := Hn g2
 have Q2 := Hn q2
 have C5 := Hn (C3.out w2 M2 (gb_tr G1.out g2) m2 (by have := K1.out; have := HN.out; simp at *; omega))
 clear C3 g2 q2 l2 m2 P2
 go_wp2_with (first | (go_at_call 173; refine C5.out.mono ?_; rintro e w3 ⟨v, rfl, h3⟩; have P3 := Hn h3; clear h3))
 refine bodyPost_ret (v := v) (by simp [results, Tryz.results214, go_sem]) rfl ⟨v, rfl, ?_⟩
 exact sq_of (n1 := n) (n2 := m) G1.out Q1.out G2.out Q2.out P3.out
theorem Times_any (P : Option Addr) (n c : Nat) (f : Nat → Trm) (k : E4) (w : World) (hT : Tb w) (hn : n ≤ 2932031007402) (hk : k.ok) (hf : ∀ k, k < n → (f k).a.ok) (hL : Lt w P n f) :
  Calls Tryz.prog 159 #[.slice P n c, .agg #[.int .u64 k.x0, .int .u64 k.x1, .int .u64 k.x2, .int .u64 k.x3]] w fun e w' => ∃ v, e = .returned v ∧ Lq w (lf Sm.L (glM k n f)) v w' := by
 have hmm := @run_makeMap Tryz.prog
 have BA := bl_alloc w (.cells #[.int .u64 k.x0, .int .u64 k.x1, .int .u64 k.x2, .int .u64 k.x3] 53)
 have C1 := Hn (fun w' (hb : Below w.heap.size w w') => putM_any k P n c w'.heap.size [] f (w'.alloc (.map #[] 0)) (hT.keep (bl_trans hb (bl_alloc _ _))) (by omega) hk hf (hL.keep (bl_trans hb (bl_alloc _ _))) (Mp.made w'))
 have C3 := Hn (fun w' w2 (b : Nat) M' (hb : Below w.heap.size w w') (hg' : (w'.alloc (.map #[] 0)).grownBy w2 (some w'.heap.size)) (h : Mp w2 w'.heap.size M') (hl : M'.length ≤ 2932031007402) => told_any w'.heap.size M' w2 (mp_tb (Mp.made w') hg' (hT.keep (bl_trans hb (bl_alloc _ _)))) h hl)
 have HN := Hn hn
 have HB := Hn BA
 clear hn hT hf hL BA hk
 generalize glM k n f = X at *
 go_enter Tryz.func159, Tryz.ntmps159
 go_upto_region 2 with fail
 have kc0 : ((w.alloc (.cells #[.int .u64 k.x0, .int .u64 k.x1, .int .u64 k.x2, .int .u64 k.x3] 53)).alloc (.map #[] 0)).cell? ⟨w.heap.size, 0, none⟩ = some (.int .u64 k.x0) := by go_simp
 have kc1 : ((w.alloc (.cells #[.int .u64 k.x0, .int .u64 k.x1, .int .u64 k.x2, .int .u64 k.x3] 53)).alloc (.map #[] 0)).cell? ⟨w.heap.size, 1, none⟩ = some (.int .u64 k.x1) := by go_simp
 have kc2 : ((w.alloc (.cells #[.int .u64 k.x0, .int .u64 k.x1, .int .u64 k.x2, .int .u64 k.x3] 53)).alloc (.map #[] 0)).cell? ⟨w.heap.size, 2, none⟩ = some (.int .u64 k.x2) := by go_simp
 have kc3 : ((w.alloc (.cells #[.int .u64 k.x0, .int .u64 k.x1, .int .u64 k.x2, .int .u64 k.x3] 53)).alloc (.map #[] 0)).cell? ⟨w.heap.size, 3, none⟩ = some (.int .u64 k.x3) := by go_simp
 have es : w.heap.size + 1 = (w.alloc (.cells #[.int .u64 k.x0, .int .u64 k.x1, .int .u64 k.x2, .int .u64 k.x3] 53)).heap.size := by simp
 rw [es]
 clear es
 generalize w.alloc (.cells #[.int .u64 k.x0, .int .u64 k.x1, .int .u64 k.x2, .int .u64 k.x3] 53) = w1 at *
 have C2 := Hn (C1.out w1 HB.out)
 clear C1
 go_upto_region 3 with (first | (go_at_call 172; refine C2.out.mono ?_; rintro e w2 ⟨rfl, h1⟩; have P1 := Hn h1; clear h1))
 clear C2 kc0 kc1 kc2 kc3
 obtain ⟨g1, M1, m1, q1, l1⟩ := P1.out
 have G1 := Hn g1
 have Q1 := Hn q1
 have C5 := Hn (C3.out w1 w2 0 M1 HB.out g1 m1 (by have := HN.out; simp at l1; omega))
 clear C3 g1 q1 l1 m1 P1
 go_wp2_with (first | (go_at_call 173; refine C5.out.mono ?_; rintro e w3 ⟨v, rfl, h3⟩; have P3 := Hn h3; clear h3))
 refine bodyPost_ret (v := v) (by simp [results, Tryz.results159, go_sem]) rfl ⟨v, rfl, ?_⟩
 have h := lq_of (sq_one G1.out Q1.out P3.out)
 exact ⟨own_monoT h.1 HB.out.size, bl_trans HB.out h.2.1, h.2.2⟩
theorem Least_lin (P : Option Addr) (n c : Nat) (f : Nat → Trm) (w : World) (hT : Tb w) (hn : n ≤ 2932031007402) (hf : ∀ k, k < n → (f k).a.ok) (hL : Lt w P n f) :
  Calls Tryz.prog 47 #[.slice P n c] w fun e w' => ∃ v, e = .returned v ∧ Lq w (lf Sm.L (glL n f)) v w' := by
 have hmm := @run_makeMap Tryz.prog
 have C := sum_any P none n c 0 0 w.heap.size f f (w.alloc (.map #[] 0)) (hT.keep (bl_alloc _ _)) (by omega) hf (fun k hk => by omega) (hL.keep (bl_alloc _ _)) (Lt.none _ _) (Mp.made w)
 have e0 : glL n f ++ glL 0 f = glL n f := by simp [glL]
 rw [e0] at C
 clear e0
 replace C := Hn C
 clear hn hf hL hT
 generalize lf Sm.L (glL n f) = Y at *
 go_enter Tryz.func47, Tryz.ntmps47
 go_wp2_with (first | (go_at_call 97; refine C.out.mono ?_; rintro e w3 ⟨v, rfl, h3⟩; have P3 := Hn h3; clear h3))
 refine bodyPost_ret (v := v) (by simp [results, Tryz.results47, go_sem]) rfl ⟨v, rfl, ?_⟩
 exact lq_of P3.out
theorem Add_lin (P Q : Option Addr) (n c m d : Nat) (f g : Nat → Trm) (w : World) (hT : Tb w) (hn : n + m ≤ 2932031007402) (hf : ∀ k, k < n → (f k).a.ok) (hg : ∀ k, k < m → (g k).a.ok) (hL : Lt w P n f) (hL2 : Lt w Q m g) :
  Calls Tryz.prog 155 #[.slice P n c, .slice Q m d] w fun e w' => ∃ v, e = .returned v ∧ Lq w (lf Sm.L (glL n f ++ glL m g)) v w' := by
 have hmm := @run_makeMap Tryz.prog
 have C := sum_any P Q n c m d w.heap.size f g (w.alloc (.map #[] 0)) (hT.keep (bl_alloc _ _)) hn hf hg (hL.keep (bl_alloc _ _)) (hL2.keep (bl_alloc _ _)) (Mp.made w)
 replace C := Hn C
 clear hn hf hg hL hL2 hT
 generalize lf Sm.L (glL n f ++ glL m g) = Y at *
 go_enter Tryz.func155, Tryz.ntmps155
 go_wp2_with (first | (go_at_call 97; refine C.out.mono ?_; rintro e w3 ⟨v, rfl, h3⟩; have P3 := Hn h3; clear h3))
 refine bodyPost_ret (v := v) (by simp [results, Tryz.results155, go_sem]) rfl ⟨v, rfl, ?_⟩
 exact lq_of P3.out
theorem Sub_lin (P Q : Option Addr) (n c m d : Nat) (f g : Nat → Trm) (w : World) (hT : Tb w) (hn : n + m ≤ 2932031007402) (hf : ∀ k, k < n → (f k).a.ok) (hg : ∀ k, k < m → (g k).a.ok) (hL : Lt w P n f) (hL2 : Lt w Q m g) :
  Calls Tryz.prog 148 #[.slice P n c, .slice Q m d] w fun e w' => ∃ v, e = .returned v ∧ Lq w (lf Sm.L (glL n f ++ glN m g)) v w' := by
 have hmm := @run_makeMap Tryz.prog
 have C := difference_any P Q n c m d w.heap.size f g (w.alloc (.map #[] 0)) (hT.keep (bl_alloc _ _)) hn hf hg (hL.keep (bl_alloc _ _)) (hL2.keep (bl_alloc _ _)) (Mp.made w)
 replace C := Hn C
 clear hn hf hg hL hL2 hT
 generalize lf Sm.L (glL n f ++ glN m g) = Y at *
 go_enter Tryz.func148, Tryz.ntmps148
 go_wp2_with (first | (go_at_call 214; refine C.out.mono ?_; rintro e w3 ⟨v, rfl, h3⟩; have P3 := Hn h3; clear h3))
 refine bodyPost_ret (v := v) (by simp [results, Tryz.results148, go_sem]) rfl ⟨v, rfl, ?_⟩
 exact lq_of P3.out
theorem buildT (qk qi : Int) (w : World) : (Instr.buildSlice 50 1 #[(0, .agg #[.int .i64 qk, .int .i64 qi, .int .u64 1, .int .u64 0, .int .u64 0, .int .u64 0])]).run Tryz.prog w = .ok (.slice (some ⟨w.heap.size, 0, none⟩) 1 1) (w.alloc (.cells #[.int .i64 qk, .int .i64 qi, .int .u64 1, .int .u64 0, .int .u64 0, .int .u64 0] 55)) := by kernel_rfl
theorem wp_buildT {w : World} {o : Oper} {a : Act} {K : Act → World → Prop} {Q : Exit → Act → World → Prop} (x0 : Operand) (ho : o.op = .buildSlice 50 1 #[(0, x0)]) (qk qi : Int) (h0 : a.eval x0 = .agg #[.int .i64 qk, .int .i64 qi, .int .u64 1, .int .u64 0, .int .u64 0, .int .u64 0]) (h : ∀ (tb : Nat) (wq : World), tb = w.heap.size → wq = w.alloc (.cells #[.int .i64 qk, .int .i64 qi, .int .u64 1, .int .u64 0, .int .u64 0, .int .u64 0] 55) → K (a.put o.dst (.slice (some ⟨tb, 0, none⟩) 1 1)) wq) : o.wp Tryz.prog a w K Q := by
 have hr := buildT qk qi w
 unfold Oper.wp execOp
 simp only [ho, Sem.run_bind, Sem.run_pure, Result.andThen_ok, List.map_toArray, List.map_cons, List.map_nil, h0, hr]
 exact h _ _ rfl rfl
theorem own_newT {base : Nat} (w : World) (qk qi : Int) (hb : base ≤ w.heap.size) : (w.alloc (.cells #[.int .i64 qk, .int .i64 qi, .int .u64 1, .int .u64 0, .int .u64 0, .int .u64 0] 55)).ownsRow base 55 6 (.slice (some ⟨w.heap.size, 0, none⟩) 1 1) 1 [.int .i64 qk, .int .i64 qi, .int .u64 1, .int .u64 0, .int .u64 0, .int .u64 0] :=
 ⟨rfl, .inr ⟨w.heap.size, 1, #[.int .i64 qk, .int .i64 qi, .int .u64 1, .int .u64 0, .int .u64 0, .int .u64 0], rfl, hb, heap_alloc_new w _, Nat.le_refl _, by unfold maxLen; omega, rfl, rfl⟩⟩
def of1o_0 : Oper := oO 3 (Op.load 52 (Operand.tmp 1)) 52 "lin.go:78" #[]
def of1o_1 : Oper := oO 4 (Op.call { callee := Callee.value (Operand.func 120), args := #[Operand.const (Value.int IntKind.u64 1)], argTypes := #[25] }) 53 "lin.go:78" #[]
def of1o_2 : Oper := oO 5 (Op.build 55 #[(0, Operand.tmp 3), (1, Operand.tmp 4)]) 55 "lin.go:78" #[DD 0, DD 1]
def of1o_3 : Oper := oO 6 (Op.buildSlice 50 1 #[(0, Operand.tmp 5)]) 50 "lin.go:78" #[DD 2]
def of1o_4 : Oper := oO 2 (Op.assign (Operand.tmp 6)) 50 "lin.go:78" #[DD 3, CH 1, PH 0, PH 1, PH 2, PH 3]
def of1o : Array Oper := #[of1o_0, of1o_1, of1o_2, of1o_3, of1o_4]
theorem of1 (Q : Exit → Act → World → Prop) (T : Nat) (qk qi : Int) (u0 u2 u3 u4 u5 u6 : Value) (W : World)
  (t0 : W.cell? ⟨T, 0, none⟩ = some (.int .i64 qk)) (t1 : W.cell? ⟨T, 1, none⟩ = some (.int .i64 qi))
  (C1 : Hid (∀ y, Calls Tryz.prog 120 #[.int .u64 1] y fun e w' => e = .returned (.agg #[.int .u64 1, .int .u64 0, .int .u64 0, .int .u64 0]) ∧ Below y.heap.size y w'))
  (HQ : Hid (∀ (wz : World) (tb : Nat), Below W.heap.size W wz → wz.ownsRow W.heap.size 55 6 (.slice (some ⟨tb, 0, none⟩) 1 1) 1 [.int .i64 qk, .int .i64 qi, .int .u64 1, .int .u64 0, .int .u64 0, .int .u64 0] → Q .normal ⟨#[u0, .pointer (some ⟨T, 0, none⟩), .slice (some ⟨tb, 0, none⟩) 1 1, .agg #[.int .i64 qk, .int .i64 qi], .agg #[.int .u64 1, .int .u64 0, .int .u64 0, .int .u64 0], .agg #[.int .i64 qk, .int .i64 qi, .int .u64 1, .int .u64 0, .int .u64 0, .int .u64 0], .slice (some ⟨tb, 0, none⟩) 1 1], []⟩ wz)) : (Code.region 1 of1o true).wp Tryz.prog Q ⟨#[u0, .pointer (some ⟨T, 0, none⟩), u2, u3, u4, u5, u6], []⟩ W := by
 unfold of1o
 refine wp_region_noPanic ?_
 refine wp_region_held_drew (S := fun x => Below W.heap.size W x) (by kernel_rfl) (bl_drew W) (fun hH0 => ?_)
 refine tj 0 of1o_0 (.agg #[.int .i64 qk, .int .i64 qi]) hH0 (fun w0 hSw => ?_) ?_
 ·(unfold of1o_0 oO; have hS : Below W.heap.size W w0 := hSw; have a0 := cell_keep t0 hS; have a1 := cell_keep t1 hS; clear hS hSw; go_simp)
 simp only [of1o_0, oO, Act.put, sA, sB, sC]
 refine ar [1] ?_
 refine ac of1o_1 (fun K hK => ?_) AllReadyH.nil
 unfold of1o_1 oO
 have HH := Hn hH0
 clear hH0
 go_simp
 refine (C1.out _).mono ?_
 rintro e wn1 ⟨rfl, hb⟩
 have SN := Hn (bl_trans HH.out hb)
 clear HH C1 hb
 go_wp2_with fail
 refine hK.out _ _ SN.out (fun hH1 => ?_)
 clear hK K SN
 refine tj 2 of1o_2 (.agg #[.int .i64 qk, .int .i64 qi, .int .u64 1, .int .u64 0, .int .u64 0, .int .u64 0]) hH1 (fun w0 hSw => ?_) ?_
 ·(unfold of1o_2 oO; clear hSw; go_simp)
 simp only [of1o_2, oO, Act.put, sA, sB, sC]
 refine ar [3] ?_
 refine ac of1o_3 (fun K hK => ?_) AllReadyH.nil
 unfold of1o_3 oO
 have HH := Hn hH1
 clear hH1
 refine wp_buildT _ rfl qk qi rfl (fun tb wn2 htb hwq => ?_)
 have SN := Hn (by rw [hwq]; exact bl_trans HH.out (bl_alloc _ _) : Below W.heap.size W wn2)
 have OW := Hn ((by rw [htb, hwq]; exact own_newT _ _ _ HH.out.size : wn2.ownsRow W.heap.size 55 6 (.slice (some ⟨tb, 0, none⟩) 1 1) 1 [.int .i64 qk, .int .i64 qi, .int .u64 1, .int .u64 0, .int .u64 0, .int .u64 0]))
 clear HH htb hwq
 simp only [Act.put, sA, sB, sC]
 refine hK.out _ _ SN.out (fun hH2 => ?_)
 clear hK K SN
 refine tj 4 of1o_4 (.slice (some ⟨tb, 0, none⟩) 1 1) hH2 (fun w0 hSw => ?_) ?_
 ·(unfold of1o_4 oO; clear hSw; go_simp)
 simp only [of1o_4, oO, Act.put, sA, sB, sC]
 have HH := Hn hH2
 have FQ := Hn (HQ.out _ tb HH.out OW.out)
 refine wpAnyH_done (by kernel_rfl) ?_ _
 refine NoPanic.normal ?_
 exact FQ.out
theorem one_is : lst 1 = ⟨1, 0, 0, 0⟩ := int_is 1 (by unfold Sm.Wd; omega)
theorem tls_of (q : Wr) : tls [(q, 1)] = [.int .i64 q.1, .int .i64 q.2, .int .u64 1, .int .u64 0, .int .u64 0, .int .u64 0] := by
 rw [tls_map]
 simp [tmOf, Trm.cs, one_is]
theorem ls_of (q : Wr) : Ls Sm.L [(q, 1)] := ⟨by simp, fun x hx => by rw [List.mem_singleton.1 hx]; exact ⟨(by decide : (0 : Int) < 1), (by decide : (1 : Int) < Sm.L)⟩⟩
theorem Of_any (q : Wr) (w : World) : Calls Tryz.prog 80 #[.agg #[.int .i64 q.1, .int .i64 q.2]] w fun e w' => ∃ v, e = .returned v ∧ Lq w [(q, 1)] v w' := by
 have C := fun y => fix (R := ⟨1, 0, 0, 0⟩) (Int_any 1 y (by unfold Sm.Wd; omega)) one_is
 simp only [E4.v] at C
 have C1 := Hn C
 clear C
 have HL := Hn (ls_of q)
 have HE := Hn (tls_of q)
 obtain ⟨qk, qi⟩ := q
 simp only at HE ⊢
 have HB := Hn (bl_alloc w (.cells #[.int .i64 qk, .int .i64 qi] 52))
 go_enter Tryz.func80, Tryz.ntmps80
 go_upto_region 1 with fail
 have t0 : (w.alloc (.cells #[.int .i64 qk, .int .i64 qi] 52)).cell? ⟨w.heap.size, 0, none⟩ = some (.int .i64 qk) := by go_simp
 have t1 : (w.alloc (.cells #[.int .i64 qk, .int .i64 qi] 52)).cell? ⟨w.heap.size, 1, none⟩ = some (.int .i64 qi) := by go_simp
 generalize w.alloc (.cells #[.int .i64 qk, .int .i64 qi] 52) = w1 at *
 refine of1 _ w.heap.size qk qi _ _ _ _ _ _ w1 t0 t1 C1 (Hn ?_)
 intro wz tb hb ho
 have B1 := Hn hb
 have O1 := Hn ho
 clear C1 t0 t1 hb ho
 go_wp2_with fail
 refine bodyPost_ret (v := .slice (some ⟨tb, 0, none⟩) 1 1) (by simp [results, Tryz.results80, go_sem]) rfl ⟨_, rfl, ?_⟩
 exact ⟨by rw [HE.out]; exact own_monoT O1.out HB.out.size, bl_trans HB.out B1.out, HL.out⟩
theorem of_lt (q : Wr) (w : World) : Calls Tryz.prog 80 #[.agg #[.int .i64 q.1, .int .i64 q.2]] w fun e w' => ∃ P c, e = .returned (.slice P 1 c) ∧ Lt w' P 1 (fun _ => ⟨q, lst 1⟩) ∧ Below w.heap.size w w' :=
 (Of_any q w).mono fun e w' ⟨v, he, ho, hb, _⟩ => by
  obtain ⟨P, c, e1, _, _⟩ := own_shT ho
  subst e1
  refine ⟨P, c, he, ?_, hb⟩
  have := own_lts (X := [(q, 1)]) ho
  exact this.congr (fun k hk => by obtain rfl : k = 0 := (by simp at hk; omega); rfl)
def oneT : Nat → Trm := fun _ => ⟨(1, 0), lst 1⟩
def co1o_0 : Oper := oO 3 (Op.build 52 #[(0, Operand.const (Value.int IntKind.i64 1))]) 52 "lin.go:81" #[]
def co1o_1 : Oper := oO 4 (Op.call { callee := Callee.value (Operand.func 80), args := #[Operand.tmp 3], argTypes := #[52] }) 50 "lin.go:81" #[DD 0]
def co1o_2 : Oper := oO 5 (Op.load 53 (Operand.tmp 1)) 53 "lin.go:81" #[]
def co1o_3 : Oper := oO 6 (Op.call { callee := Callee.value (Operand.func 159), args := #[Operand.tmp 4, Operand.tmp 5], argTypes := #[50, 53] }) 50 "lin.go:81" #[DD 1, DD 2, CH 1]
def co1o_4 : Oper := oO 2 (Op.assign (Operand.tmp 6)) 50 "lin.go:81" #[DD 3, CH 3, PH 0, PH 1, PH 2, PH 3]
def co1o : Array Oper := #[co1o_0, co1o_1, co1o_2, co1o_3, co1o_4]
theorem co1 (Q : Exit → Act → World → Prop) (T : Nat) (k : E4) (X : List Tm) (u0 u2 u3 u4 u5 u6 : Value) (W : World)
  (t0 : W.cell? ⟨T, 0, none⟩ = some (.int .u64 k.x0)) (t1 : W.cell? ⟨T, 1, none⟩ = some (.int .u64 k.x1)) (t2 : W.cell? ⟨T, 2, none⟩ = some (.int .u64 k.x2)) (t3 : W.cell? ⟨T, 3, none⟩ = some (.int .u64 k.x3))
  (C1 : Hid (∀ y, Below W.heap.size W y → Calls Tryz.prog 80 #[.agg #[.int .i64 1, .int .i64 0]] y fun e w' => ∃ P c, e = .returned (.slice P 1 c) ∧ Lt w' P 1 oneT ∧ Below y.heap.size y w'))
  (C3 : Hid (∀ P c y, Below W.heap.size W y → Lt y P 1 oneT → Calls Tryz.prog 159 #[.slice P 1 c, .agg #[.int .u64 k.x0, .int .u64 k.x1, .int .u64 k.x2, .int .u64 k.x3]] y fun e w' => ∃ v, e = .returned v ∧ Lq y X v w'))
  (HQ : Hid (∀ (wz y : World) (P : Option Addr) (c : Nat) (v : Value), Below W.heap.size W y ∧ Lq y X v wz → Q .normal ⟨#[u0, .pointer (some ⟨T, 0, none⟩), v, .agg #[.int .i64 1, .int .i64 0], .slice P 1 c, .agg #[.int .u64 k.x0, .int .u64 k.x1, .int .u64 k.x2, .int .u64 k.x3], v], []⟩ wz)) : (Code.region 1 co1o true).wp Tryz.prog Q ⟨#[u0, .pointer (some ⟨T, 0, none⟩), u2, u3, u4, u5, u6], []⟩ W := by
 unfold co1o
 refine wp_region_noPanic ?_
 refine wp_region_held_drew (S := fun x => Below W.heap.size W x) (by kernel_rfl) (bl_drew W) (fun hH0 => ?_)
 refine tj 0 co1o_0 (.agg #[.int .i64 1, .int .i64 0]) hH0 (fun w0 hSw => ?_) ?_
 ·(unfold co1o_0 oO; clear hSw; go_simp)
 simp only [co1o_0, oO, Act.put, sA, sB, sC]
 refine tj 2 co1o_2 (.agg #[.int .u64 k.x0, .int .u64 k.x1, .int .u64 k.x2, .int .u64 k.x3]) hH0 (fun w0 hSw => ?_) ?_
 ·(unfold co1o_2 oO; have hS : Below W.heap.size W w0 := hSw; have a0 := cell_keep t0 hS; have a1 := cell_keep t1 hS; have a2 := cell_keep t2 hS; have a3 := cell_keep t3 hS; clear hS hSw; go_simp)
 simp only [co1o_2, oO, Act.put, sA, sB, sC]
 refine ar [1] ?_
 refine ac co1o_1 (fun K hK => ?_) AllReadyH.nil
 unfold co1o_1 oO
 have HH := Hn hH0
 clear hH0
 go_simp
 refine (C1.out _ HH.out).mono ?_
 rintro e wn1 ⟨P, c, rfl, hl, hb⟩
 have SN := Hn (bl_trans HH.out hb)
 have LT := Hn (hl)
 clear HH C1 hb hl
 go_wp2_with fail
 refine hK.out _ _ SN.out (fun hH1 => ?_)
 clear hK K SN
 refine ar [3] ?_
 refine ac co1o_3 (fun K hK => ?_) AllReadyH.nil
 unfold co1o_3 oO
 have HH := Hn hH1
 clear hH1
 go_simp
 refine (C3.out P c _ HH.out LT.out).mono ?_
 rintro e wn2 ⟨v, rfl, hq⟩
 have SN := Hn (bl_trans HH.out hq.2.1)
 have LQ := Hn (And.intro HH.out hq)
 clear HH C3 hq LT
 go_wp2_with fail
 refine hK.out _ _ SN.out (fun hH2 => ?_)
 clear hK K SN
 refine tj 4 co1o_4 (v) hH2 (fun w0 hSw => ?_) ?_
 ·(unfold co1o_4 oO; clear hSw; go_simp)
 simp only [co1o_4, oO, Act.put, sA, sB, sC]
 have HH := Hn hH2
 have FQ := Hn (HQ.out _ _ P c v LQ.out)
 refine wpAnyH_done (by kernel_rfl) ?_ _
 refine NoPanic.normal ?_
 exact FQ.out
theorem Const_any (k : E4) (w : World) (hT : Tb w) (hk : k.ok) : Calls Tryz.prog 88 #[.agg #[.int .u64 k.x0, .int .u64 k.x1, .int .u64 k.x2, .int .u64 k.x3]] w fun e w' => ∃ v, e = .returned v ∧ Lq w (lf Sm.L (glM k 1 oneT)) v w' := by
 have HB := Hn (bl_alloc w (.cells #[.int .u64 k.x0, .int .u64 k.x1, .int .u64 k.x2, .int .u64 k.x3] 53))
 have C1 := Hn (fun y => of_lt (1, 0) y)
 simp only at C1
 have C2 := Hn (fun P c y (hT : Tb y) (h : Lt y P 1 oneT) => Times_any P 1 c oneT k y hT (by omega) hk (fun _ _ => lst_ok 1) h)
 have HT := Hn hT
 clear hT hk
 generalize lf Sm.L (glM k 1 oneT) = X at *
 go_enter Tryz.func88, Tryz.ntmps88
 go_upto_region 1 with fail
 have t0 : (w.alloc (.cells #[.int .u64 k.x0, .int .u64 k.x1, .int .u64 k.x2, .int .u64 k.x3] 53)).cell? ⟨w.heap.size, 0, none⟩ = some (.int .u64 k.x0) := by go_simp
 have t1 : (w.alloc (.cells #[.int .u64 k.x0, .int .u64 k.x1, .int .u64 k.x2, .int .u64 k.x3] 53)).cell? ⟨w.heap.size, 1, none⟩ = some (.int .u64 k.x1) := by go_simp
 have t2 : (w.alloc (.cells #[.int .u64 k.x0, .int .u64 k.x1, .int .u64 k.x2, .int .u64 k.x3] 53)).cell? ⟨w.heap.size, 2, none⟩ = some (.int .u64 k.x2) := by go_simp
 have t3 : (w.alloc (.cells #[.int .u64 k.x0, .int .u64 k.x1, .int .u64 k.x2, .int .u64 k.x3] 53)).cell? ⟨w.heap.size, 3, none⟩ = some (.int .u64 k.x3) := by go_simp
 generalize w.alloc (.cells #[.int .u64 k.x0, .int .u64 k.x1, .int .u64 k.x2, .int .u64 k.x3] 53) = w1 at *
 refine co1 _ w.heap.size k X _ _ _ _ _ _ w1 t0 t1 t2 t3 (Hn (fun y _ => C1.out y)) (Hn (fun P c y hy hl => C2.out P c y (HT.out.keep (bl_trans HB.out hy)) hl)) (Hn ?_)
 intro wz y P c v hz
 have HZ := Hn hz
 clear hz C1 C2 t0 t1 t2 t3
 go_wp2_with fail
 refine bodyPost_ret (v := v) (by simp [results, Tryz.results88, go_sem]) rfl ⟨v, rfl, ?_⟩
 have hy := bl_trans HB.out HZ.out.1
 exact ⟨own_monoT HZ.out.2.1 hy.size, bl_trans hy HZ.out.2.2.1, HZ.out.2.2.2⟩
end Ci
end Go.Proofs.YtljmgfclhbadjaaGreatDoor
