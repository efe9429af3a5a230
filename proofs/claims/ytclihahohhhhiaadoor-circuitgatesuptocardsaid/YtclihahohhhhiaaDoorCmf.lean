import Derived.Test.YtclihahohhhhiaaDoorCsl
namespace Go.Proofs.YtclihahohhhhiaaDoor
open Go.RowKit
set_option linter.unusedVariables false
set_option linter.unusedSimpArgs false
open Cm (Wr Tm co bf Ls lf ins Eqm)
namespace Ci
instance : Inhabited Trm := ⟨⟨(0, 0), ⟨0, 0, 0, 0⟩⟩⟩
def cfT (x y : Trm) : Int := cw x.q y.q
theorem lt_cf (x y : Trm) : Go.Proofs.ltOf cfT x y = bf x.q y.q := by
 unfold Go.Proofs.ltOf cfT
 by_cases h : bf x.q y.q = true
 ·rw [h]; exact decide_eq_true ((cw_neg _ _).2 h)
 ·rw [Bool.not_eq_true] at h
  rw [h]
  exact decide_eq_false (fun e => by rw [(cw_neg _ _).1 e] at h; cases h)
theorem swoT : Go.Sort.SWO (Go.Proofs.ltOf cfT) where
 irrefl x := by rw [lt_cf]; exact Cm.bf_irrefl _
 trans x y z h1 h2 := by rw [lt_cf] at *; exact Cm.bf_trans h1 h2
 ntrans x y z h1 h2 := by
  rw [lt_cf] at *
  have h1' : ¬ (bf x.q y.q = true) := by simp [h1]
  have h2' : ¬ (bf y.q z.q = true) := by simp [h2]
  have h3 : ¬ (bf x.q z.q = true) := by
   rw [Cm.bf_iff] at *
   omega
  simpa using h3
theorem cs_len (x : Trm) : x.cs.length = 6 := rfl
theorem cs_one (x : Trm) : ∀ v ∈ x.cs, v.oneCell' = true := by
 intro v hv
 simp only [Trm.cs, List.mem_cons, List.not_mem_nil, or_false] at hv
 rcases hv with rfl | rfl | rfl | rfl | rfl | rfl <;> rfl
theorem flat_get : ∀ (D : List Trm) (j : Nat), j < D.length * 6 → (D.flatMap Trm.cs)[j]? = some ((D.getD (j / 6) default).cs[j % 6]!)
 | [], j, h => by simp at h
 | x :: D, j, h => by
  rw [List.flatMap_cons]
  by_cases hj : j < 6
  ·rw [List.getElem?_append_left (by rw [cs_len]; exact hj), show j / 6 = 0 by omega, show j % 6 = j by omega]
   have : j < x.cs.length := by rw [cs_len]; exact hj
   rw [List.getElem?_eq_getElem this]
   simp [this]
  ·rw [List.getElem?_append_right (by rw [cs_len]; omega), cs_len, flat_get D (j - 6) (by simp at h; omega)]
   rw [show j / 6 = (j - 6) / 6 + 1 by omega, show j % 6 = (j - 6) % 6 by omega]
   simp
theorem flat_len (D : List Trm) : (D.flatMap Trm.cs).length = D.length * 6 := by
 induction D with
 | nil => rfl
 | cons x D ih => rw [List.flatMap_cons, List.length_append, ih, cs_len]; simp; omega
theorem arr_get (D : List Trm) (i : Nat) : D.toArray[i]! = D.getD i default := by
 simp [List.getD_eq_getElem?_getD]
theorem flatK_get (D : List Trm) (j : Nat) (h : j < D.length * 6) : (Go.Sort.flatK Trm.cs 6 D.toArray)[j]! = (D.getD (j / 6) default).cs[j % 6]! := by
 rw [Go.Sort.get_flatK _ _ _ _ (by simpa using h), arr_get]
theorem own_holds {w : World} {base g c : Nat} {t : TypeId} {D : List Trm} (h : w.ownsRow base t 6 (.slice (some ⟨g, 0, none⟩) D.length c) D.length (D.flatMap Trm.cs)) : Go.Sort.HoldsK Trm.cs 6 w g 0 D.toArray := by
 intro j hj
 rw [Go.Sort.size_flatK, List.size_toArray] at hj
 refine ⟨?_, ?_⟩
 ·have := h.cells (g := g) rfl j _ (flat_get D j hj)
  rw [Addr.add_mid] at this
  rw [this, flatK_get D j hj]
  rfl
 ·have := h.frozenAt (g := g) (0 + j)
  exact this
theorem sort_grown (w : World) (g n : Nat) (D : List Trm) (os : Array Obj) : w.grownBy (Go.Proofs.sortWorldK Trm.cs 6 w g 0 n D.toArray os) (some g) := by
 refine ⟨rfl, rfl, rfl, ?_, ?_⟩
 ·show w.heap.size ≤ ((Go.Sort.putRowK Trm.cs 6 (Go.Sort.ahead w n) g 0 D.toArray).heap ++ os).size
  rw [Array.size_append]
  have : (Go.Sort.putRowK Trm.cs 6 (Go.Sort.ahead w n) g 0 D.toArray).heap.size = w.heap.size := by
   show (w.heap.modify g _).size = _
   simp
  omega
 ·intro i hi hne
  show ((w.heap.modify g _) ++ os)[i]? = w.heap[i]?
  rw [Array.getElem?_append_left (by simpa using hi), Array.getElem?_modify, if_neg (fun e => hne (by rw [e]))]
theorem sort_own {w : World} {base g c n : Nat} {t : TypeId} {D D' : List Trm} {os : Array Obj} (h : w.ownsRow base t 6 (.slice (some ⟨g, 0, none⟩) D.length c) D.length (D.flatMap Trm.cs)) (hl : D'.length = D.length) :
  (Go.Proofs.sortWorldK Trm.cs 6 w g 0 n D'.toArray os).ownsRow base t 6 (.slice (some ⟨g, 0, none⟩) D.length c) D.length (D'.flatMap Trm.cs) := by
 refine ⟨by rw [flat_len, hl], ?_⟩
 rcases h.2 with ⟨h', _⟩ | ⟨g', c', cur, h', hb, hg, hnc, hcm, hcs, ht⟩
 ·simp at h'
 ·simp only [Value.slice.injEq, Option.some.injEq, Addr.mk.injEq, and_true, true_and] at h'
  obtain ⟨rfl, rfl⟩ := h'
  have hlt := (Array.getElem?_eq_some_iff.1 hg).1
  refine .inr ⟨g, c, Go.Sort.putCells id 0 (Go.Sort.flatK Trm.cs 6 D'.toArray) cur, rfl, hb, ?_, hnc, hcm, by simp [Go.Sort.putCells, hcs], ?_⟩
  ·show ((w.heap.modify g _) ++ os)[g]? = _
   rw [Array.getElem?_append_left (by simpa using hlt), Array.getElem?_modify, if_pos rfl, hg]
   rfl
  ·refine List.ext_getElem? (fun j => ?_)
   by_cases hj : j < D.length * 6
   ·have hjc : j < cur.size := by rw [hcs]; exact Nat.lt_of_lt_of_le hj (Nat.mul_le_mul_right 6 hnc)
    rw [List.getElem?_take_of_lt hj, flat_get D' j (by rw [hl]; exact hj), Array.getElem?_toList]
    unfold Go.Sort.putCells
    rw [Array.getElem?_mapIdx, Array.getElem?_eq_getElem hjc, Option.map_some]
    rw [if_pos ⟨Nat.zero_le _, by rw [Go.Sort.size_flatK, List.size_toArray, hl]; omega⟩, Nat.sub_zero, flatK_get D' j (by rw [hl]; exact hj)]
    rfl
   ·rw [List.getElem?_eq_none (by rw [List.length_take]; omega), List.getElem?_eq_none (by rw [flat_len, hl]; omega)]
theorem cmpT (blk off size : Nat) (w : World) : Go.Proofs.CmpLays Tryd.prog 64 #[] Trm.cs 6 cfT blk off size w :=
 fun m os dk _ x y => by
  have := told1_any x y (Go.Proofs.sortWorldK Trm.cs 6 w blk off m dk os)
  exact this.mono fun e w' ⟨he, n, os', hw⟩ => ⟨he, n, os', hw⟩
theorem lenT (n : Nat) (w : World) (h : n < 4611686018427387904) : Calls Tryd.prog 69 #[.int .u64 (n : Int)] w fun e w' => e = .returned (.int .i64 (Go.Lib.bitLen n : Nat)) ∧ w' = w := by
 have h := Go.Proofs.Any.bits_Len (Go.Proofs.SlLaysF0.n15.bits (P := Tryd.prog) (ρ := pdqT_ren) { pdqT with }) (n : Int) w (by omega) (by omega)
 rw [Int.toNat_natCast] at h
 exact h
def So (w : World) (base g n c : Nat) (t : TypeId) (D : List Trm) (w' : World) : Prop := w.grownBy w' (some g) ∧ ∃ D' : List Trm, D'.Perm D ∧ D'.Pairwise (fun x y => bf y.q x.q = false) ∧ w'.ownsRow base t 6 (.slice (some ⟨g, 0, none⟩) n c) n (D'.flatMap Trm.cs)
theorem get_default (D : List Trm) (i : Nat) (h : i < D.length) : D.toArray[i]! = D[i] := by simp [h]
theorem so_of {w w' : World} {base g c : Nat} {t : TypeId} {D : List Trm} {E : Array Trm} (h : w.ownsRow base t 6 (.slice (some ⟨g, 0, none⟩) D.length c) D.length (D.flatMap Trm.cs))
  (hp : Go.Sort.PermIn 0 D.length D.toArray E) (hs : Go.Sort.SortedIn (Go.Proofs.ltOf cfT) 0 D.length E) (hw : Go.Proofs.SWK Trm.cs 6 w g 0 E w') : So w base g D.length c t D w' := by
 obtain ⟨n, os, rfl⟩ := hw
 obtain ⟨D', rfl⟩ : ∃ D' : List Trm, E = D'.toArray := ⟨E.toList, by simp⟩
 have hl : D'.length = D.length := by have := hp.1; simpa using this
 have hperm : D'.Perm D := by
  have := hp.2.2
  rw [show D'.toArray.extract 0 D.length = D'.toArray by rw [← hl]; simp, show D.toArray.extract 0 D.length = D.toArray by simp] at this
  simpa using this
 refine ⟨sort_grown w g n D' os, D', hperm, ?_, sort_own h hl⟩
 rw [List.pairwise_iff_getElem]
 intro i j hi hj hij
 have := hs i j (Nat.zero_le _) hij (by omega)
 rw [get_default D' j hj, get_default D' i hi, lt_cf] at this
 exact this
set_option maxRecDepth 100000 in
set_option maxHeartbeats 4000000 in
theorem sort_any (g c base : Nat) (D : List Trm) (w : World) (ho : w.ownsRow base 69 6 (.slice (some ⟨g, 0, none⟩) D.length c) D.length (D.flatMap Trm.cs)) (hn : D.length < 4611686018427387904) :
  Calls Tryd.prog 63 #[.slice (some ⟨g, 0, none⟩) D.length c, .func (.func 64) #[] #[]] w fun e w' => e = .returned (.tuple #[]) ∧ So w base g D.length c 69 D w' := by
 have hg : g < w.heap.size := (ho.lt g rfl).2
 have hH := own_holds ho
 have eg : ∀ args w, (callFunc 64 args).run Tryd.prog w = .ok (.enter 64 args) w := Go.Proofs.enters_of Tryd.func64 (by kernel_rfl) rfl
 have hlim : Go.Lib.bitLen D.length < 4611686018427387904 := Nat.lt_of_le_of_lt (Go.Lib.bitLen_le D.length 62 (by omega) (by omega)) (by omega)
 have hp := Go.Proofs.AnyQ.pdqsortCmpFunc_all (P := Tryd.prog) (ρ := pdqT_ren) pdqT 6 Tryd.isAgg69 Tryd.sizeOf69 Trm.cs cfT 64 #[] swoT g 0 c D.toArray w eg (cmpT g 0 D.toArray.size w) ⟨cs_len, cs_one, hH, hg⟩ (D.length + 1) 0 D.length (Go.Lib.bitLen D.length) D.toArray w (by omega) rfl (Go.Proofs.SWK.start hH) (Nat.zero_le _) (by simp) (by simpa using hn) hlim (Or.inl rfl)
 have hs := Go.Sort.pdq_sorts (Go.Proofs.ltOf cfT) swoT D.toArray 0 D.length (Go.Lib.bitLen D.length) true true (Nat.zero_le _) (by simp) (Or.inl rfl)
 have hp2 : Calls Tryd.prog 68 #[.slice (some ⟨g, 0, none⟩) D.length c, .int .i64 0, .int .i64 (D.length : Int), .int .i64 (Go.Lib.bitLen D.length : Nat), .func (.func 64) #[] #[]] w fun e w' => e = .returned (.tuple #[]) ∧ So w base g D.length c 69 D w' := by
  have h3 := hp.mono (R' := fun e w' => e = .returned (.tuple #[]) ∧ So w base g D.length c 69 D w') (fun e w' ⟨he, hw⟩ => ⟨he, so_of ho hs.1 hs.2 hw⟩)
  change Calls Tryd.prog 68 _ _ _ at h3
  simpa using h3
 have hl := lenT D.length w hn
 have wr : IntKind.u64.wrap (D.length : Int) = D.length := by simp [IntKind.wrap, IntKind.bits, IntKind.signed]; omega
 have C1 := hidden hl
 have C2 := hidden hp2
 clear hp hs hp2 hl hH ho hg eg
 generalize hG : So w base g D.length c 69 D = R at *
 clear hG
 generalize Go.Lib.bitLen D.length = bl at *
 generalize D.length = n at *
 go_enter Tryd.func63, Tryd.ntmps63
 go_wp2_with (first | (go_at_call 69; refine C1.out.mono ?_; rintro e w1 ⟨rfl, rfl⟩) | (go_at_call 68; refine C2.out.mono ?_; rintro e w1 ⟨rfl, h1⟩))
 go_end0
 exact ⟨rfl, h1⟩
end Ci
end Go.Proofs.YtclihahohhhhiaaDoor
