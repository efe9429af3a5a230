import Derived.Test.YthngomhhafoamaaGreatDoorJz
import Derived.Test.YthngomhhafoamaaGreatDoorPz
import Derived.Test.YthngomhhafoamaaGreatDoorFz
import Derived.Test.YthngomhhafoamaaGreatDoorCmo
set_option linter.unusedVariables false
set_option linter.unusedSimpArgs false
set_option maxRecDepth 100000
set_option maxHeartbeats 4000000
namespace Go.Proofs.YthngomhhafoamaaGreatDoor
open Go.RowKit
open Cm (Wr Tm co bf Ls lf ins Eqm)
open Tr (vn vn_len nm_ok nm_all)
namespace Ci
def pN (most : Nat) (bs : List UInt8) : Option (Nat × List UInt8) := if (Tr.nm bs most).2.2 = 0 then some ((Tr.nm bs most).1, bs.drop (Tr.nm bs most).2.1) else none
theorem pN_some {most n : Nat} {bs r : List UInt8} (h : pN most bs = some (n, r)) : bs = vn n ++ r ∧ n ≤ most ∧ n < 2 ^ 64 := by
 unfold pN at h
 split at h
 ·rename_i h0
  obtain ⟨a, b, c, d, _⟩ := nm_ok bs most h0
  simp only [Option.some.injEq, Prod.mk.injEq] at h
  obtain ⟨rfl, rfl⟩ := h
  exact ⟨by rw [← d, List.take_append_drop], b, a⟩
 ·cases h
theorem pN_vn (n most : Nat) (r : List UInt8) (h : n < 2 ^ 64) (hm : n ≤ most) : pN most (vn n ++ r) = some (n, r) := by
 unfold pN
 rw [nm_all n most r h hm]
 simp
def pC (most : Nat) (bs : List UInt8) : Option (Nat × List UInt8) := if (Tr.ct bs most).2.2 = 0 then some ((Tr.ct bs most).1, bs.drop (Tr.ct bs most).2.1) else none
theorem pC_some {most n : Nat} {bs r : List UInt8} (h : pC most bs = some (n, r)) : bs = vn n ++ r ∧ n ≤ most ∧ n < 2 ^ 64 := by
 unfold pC at h
 split at h
 ·rename_i h0
  by_cases h1 : (Tr.nm bs 18446744073709551615).2.2 = 0
  ·by_cases h2 : most < (Tr.nm bs 18446744073709551615).1
   ·rw [Tr.ct_more h1 h2] at h0
    simp at h0
   ·rw [Tr.ct_ok h1 h2] at h
    obtain ⟨a, b, c, d, _⟩ := nm_ok bs _ h1
    simp only [Option.some.injEq, Prod.mk.injEq] at h
    obtain ⟨rfl, rfl⟩ := h
    exact ⟨by rw [← d, List.take_append_drop], by omega, a⟩
  ·rw [Tr.ct_bad h1] at h0
   exact absurd h0 h1
 ·cases h
theorem pC_vn (n most : Nat) (r : List UInt8) (h : n < 2 ^ 64) (hm : n ≤ most) : pC most (vn n ++ r) = some (n, r) := by
 have h1 := nm_all n 18446744073709551615 r h (by omega)
 unfold pC
 rw [Tr.ct_ok (by rw [h1]) (by rw [h1]; exact Nat.not_lt.2 hm), h1]
 simp
theorem zi_bd2 (l : List UInt8) : ∀ z ∈ zi l, 0 ≤ z ∧ z ≤ 255 := fun z hz => by
 obtain ⟨b, _, rfl⟩ := List.mem_map.1 hz
 have := b.toNat_lt
 omega
theorem kb32_dn {l : List UInt8} (h : l.length = 32) : kb32 (dn l) = l := by
 refine List.ext_getElem? fun j => ?_
 unfold kb32 dn
 rw [List.getElem?_map]
 by_cases hj : j < 32
 ·rw [List.getElem?_range hj, List.getElem?_eq_getElem (by omega)]
  simp only [Option.map_some, Option.some.injEq]
  have g := num_get (zi l) j (zi_bd2 l)
  have e : byt (num (zi l) : Int) j = ((l[j]'(by omega)).toNat : Int) := by
   unfold byt
   have g2 : (zi l).getD j 0 = ((l[j]'(by omega)).toNat : Int) := by simp [zi, List.getD_eq_getElem?_getD, h, hj]
   rw [← g2, g]
   simp
  rw [e]
  simp
 ·rw [List.getElem?_eq_none (by simp; omega), List.getElem?_eq_none (by omega)]
  rfl
theorem kb32_len (N : Int) : (kb32 N).length = 32 := by simp [kb32]
theorem zi_kb32 (N : Int) : zi (kb32 N) = bytes N := by
 unfold zi kb32 bytes
 rw [List.map_map]
 refine List.map_congr_left fun j hj => ?_
 have : 0 ≤ byt N j ∧ byt N j < 256 := by unfold byt; omega
 simp only [Function.comp_apply]
 rw [UInt8.toNat_ofNat']
 omega
theorem dn_kb32 {c : Int} (h0 : 0 ≤ c) (h1 : c < Sm.L) : dn (kb32 c) = c := by
 unfold dn
 rw [zi_kb32]
 have := num_bytes_L c
 rw [Int.emod_eq_of_lt h0 h1] at this
 exact this
def pS (bs : List UInt8) : Option (Int × List UInt8) := if 32 ≤ bs.length ∧ dn (bs.take 32) < Sm.L then some (dn (bs.take 32), bs.drop 32) else none
theorem pS_some {bs r : List UInt8} {c : Int} (h : pS bs = some (c, r)) : bs = kb32 c ++ r ∧ 0 ≤ c ∧ c < Sm.L := by
 unfold pS at h
 split at h
 ·rename_i h0
  simp only [Option.some.injEq, Prod.mk.injEq] at h
  obtain ⟨rfl, rfl⟩ := h
  exact ⟨by rw [kb32_dn (by rw [List.length_take]; omega), List.take_append_drop], dn_ge _, h0.2⟩
 ·cases h
theorem pS_kb (c : Int) (r : List UInt8) (h0 : 0 ≤ c) (h1 : c < Sm.L) : pS (kb32 c ++ r) = some (c, r) := by
 unfold pS
 have e : (kb32 c ++ r).take 32 = kb32 c := by rw [List.take_append_of_le_length (by rw [kb32_len]; omega), List.take_of_length_le (by rw [kb32_len]; omega)]
 have e2 : (kb32 c ++ r).drop 32 = r := by rw [List.drop_append_of_le_length (by rw [kb32_len]; omega), List.drop_eq_nil_of_le (by rw [kb32_len]; omega)]; rfl
 rw [e, e2, dn_kb32 h0 h1, if_pos ⟨by rw [List.length_append, kb32_len]; omega, h1⟩]
def pT (bs : List UInt8) : Option (Tm × List UInt8) :=
 match pN 5 bs with
 | none => none
 | some (k, b1) =>
  match pN 1024 b1 with
  | none => none
  | some (i, b2) =>
   match pS b2 with
   | none => none
   | some (c, b3) => some ((((k : Int), (i : Int)), c), b3)
def okT (x : Tm) : Prop := (0 ≤ x.1.1 ∧ x.1.1 ≤ 5) ∧ (0 ≤ x.1.2 ∧ x.1.2 ≤ 1024) ∧ 0 ≤ x.2 ∧ x.2 < Sm.L
theorem tmB_ok {x : Tm} (h : okT x) : tmB x = vn x.1.1.toNat ++ vn x.1.2.toNat ++ kb32 x.2 := by
 unfold tmB
 rw [lst_n, emod_emod_L, Int.emod_eq_of_lt h.2.2.1 h.2.2.2]
theorem pT_some {bs r : List UInt8} {x : Tm} (h : pT bs = some (x, r)) : bs = tmB x ++ r ∧ okT x := by
 unfold pT at h
 split at h
 ·cases h
 ·rename_i k b1 h1
  split at h
  ·cases h
  ·rename_i i b2 h2
   split at h
   ·cases h
   ·rename_i c b3 h3
    simp only [Option.some.injEq, Prod.mk.injEq] at h
    obtain ⟨rfl, rfl⟩ := h
    obtain ⟨e1, k1, _⟩ := pN_some h1
    obtain ⟨e2, k2, _⟩ := pN_some h2
    obtain ⟨e3, k3, k4⟩ := pS_some h3
    have ok : okT (((k : Int), (i : Int)), c) := ⟨⟨by simp, by simp; omega⟩, ⟨by simp, by simp; omega⟩, k3, k4⟩
    refine ⟨?_, ok⟩
    rw [tmB_ok ok, e1, e2, e3]
    simp
theorem pT_of {bs b1 b2 b3 : List UInt8} {k i : Nat} {c : Int} (h1 : pN 5 bs = some (k, b1)) (h2 : pN 1024 b1 = some (i, b2)) (h3 : pS b2 = some (c, b3)) : pT bs = some ((((k : Int), (i : Int)), c), b3) := by
 unfold pT
 rw [h1]
 simp only
 rw [h2]
 simp only
 rw [h3]
theorem pT_tmB {x : Tm} (r : List UInt8) (h : okT x) : pT (tmB x ++ r) = some (x, r) := by
 rw [tmB_ok h]
 obtain ⟨⟨k, i⟩, c⟩ := x
 obtain ⟨⟨a0, a1⟩, ⟨b0, b1⟩, c0, c1⟩ := h
 simp only at a0 a1 b0 b1 c0 c1 ⊢
 obtain ⟨kn, rfl⟩ : ∃ kn : Nat, k = (kn : Int) := ⟨k.toNat, (Int.toNat_of_nonneg a0).symm⟩
 obtain ⟨iN, rfl⟩ : ∃ iN : Nat, i = (iN : Int) := ⟨i.toNat, (Int.toNat_of_nonneg b0).symm⟩
 rw [List.append_assoc, List.append_assoc, Int.toNat_natCast, Int.toNat_natCast]
 have k64 : kn < 2 ^ 64 := Nat.lt_of_le_of_lt (show kn ≤ 5 by omega) (by decide)
 have i64 : iN < 2 ^ 64 := Nat.lt_of_le_of_lt (show iN ≤ 1024 by omega) (by decide)
 exact pT_of (pN_vn kn 5 _ k64 (by omega)) (pN_vn iN 1024 _ i64 (by omega)) (pS_kb c r c0 c1)
def pR {α : Type} (p : List UInt8 → Option (α × List UInt8)) : Nat → List UInt8 → Option (List α × List UInt8)
 | 0, bs => some ([], bs)
 | n + 1, bs =>
  match pR p n bs with
  | none => none
  | some (xs, r) =>
   match p r with
   | none => none
   | some (x, r') => some (xs ++ [x], r')
theorem pR_none {α : Type} {p : List UInt8 → Option (α × List UInt8)} {n k : Nat} {bs : List UInt8} (h : pR p n bs = none) (hk : n ≤ k) : pR p k bs = none := by
 obtain ⟨d, rfl⟩ : ∃ d, k = n + d := ⟨k - n, by omega⟩
 induction d with
 | zero => exact h
 | succ d ih => rw [← Nat.add_assoc, pR, ih (by omega)]
theorem pR_some {α : Type} {p : List UInt8 → Option (α × List UInt8)} {f : α → List UInt8} {ok : α → Prop} (hp : ∀ bs x r, p bs = some (x, r) → bs = f x ++ r ∧ ok x) : ∀ (n : Nat) (bs : List UInt8) (xs : List α) (r : List UInt8), pR p n bs = some (xs, r) → bs = xs.flatMap f ++ r ∧ xs.length = n ∧ ∀ x ∈ xs, ok x
 | 0, bs, xs, r, h => by
  simp only [pR, Option.some.injEq, Prod.mk.injEq] at h
  obtain ⟨rfl, rfl⟩ := h
  simp
 | n + 1, bs, xs, r, h => by
  rw [pR] at h
  split at h
  ·cases h
  ·rename_i ys r1 h1
   split at h
   ·cases h
   ·rename_i y r2 h2
    simp only [Option.some.injEq, Prod.mk.injEq] at h
    obtain ⟨rfl, rfl⟩ := h
    obtain ⟨e1, l1, o1⟩ := pR_some hp n bs ys r1 h1
    obtain ⟨e2, o2⟩ := hp r1 y r2 h2
    refine ⟨by rw [e1, e2]; simp, by simp [l1], fun x hx => ?_⟩
    rcases List.mem_append.1 hx with hx | hx
    ·exact o1 x hx
    ·rw [List.mem_singleton.1 hx]; exact o2
theorem pR_all {α : Type} {p : List UInt8 → Option (α × List UInt8)} {f : α → List UInt8} {ok : α → Prop} (hp : ∀ x r, ok x → p (f x ++ r) = some (x, r)) : ∀ (n : Nat) (xs : List α) (r : List UInt8), xs.length = n → (∀ x ∈ xs, ok x) → pR p n (xs.flatMap f ++ r) = some (xs, r)
 | 0, xs, r, hl, _ => by
  rw [List.length_eq_zero_iff.1 hl]
  rfl
 | n + 1, xs, r, hl, ho => by
  obtain ⟨ys, y, rfl⟩ : ∃ ys y, xs = ys ++ [y] := ⟨xs.dropLast, xs.getLast (by intro e; rw [e] at hl; simp at hl), (List.dropLast_concat_getLast _).symm⟩
  have hl' : ys.length = n := by simpa using hl
  have e : (ys ++ [y]).flatMap f ++ r = ys.flatMap f ++ (f y ++ r) := by simp
  rw [e, pR, pR_all hp n ys (f y ++ r) hl' (fun x hx => ho x (by simp [hx]))]
  simp only
  rw [hp y r (ho y (by simp))]
def pL {α : Type} (p : List UInt8 → Option (α × List UInt8)) (most : Nat) (bs : List UInt8) : Option (List α × List UInt8) :=
 match pC most bs with
 | none => none
 | some (n, r) => pR p n r
theorem pL_some {α : Type} {p : List UInt8 → Option (α × List UInt8)} {f : α → List UInt8} {ok : α → Prop} (hp : ∀ bs x r, p bs = some (x, r) → bs = f x ++ r ∧ ok x) {most : Nat} {bs r : List UInt8} {xs : List α} (h : pL p most bs = some (xs, r)) : bs = vn xs.length ++ xs.flatMap f ++ r ∧ xs.length ≤ most ∧ ∀ x ∈ xs, ok x := by
 unfold pL at h
 split at h
 ·cases h
 ·rename_i n r1 h1
  obtain ⟨e1, l1, _⟩ := pC_some h1
  obtain ⟨e2, l2, o2⟩ := pR_some hp n r1 xs r h
  exact ⟨by rw [e1, e2, l2, List.append_assoc], by omega, o2⟩
theorem pL_all {α : Type} {p : List UInt8 → Option (α × List UInt8)} {f : α → List UInt8} {ok : α → Prop} (hp : ∀ x r, ok x → p (f x ++ r) = some (x, r)) {most : Nat} (xs : List α) (r : List UInt8) (hm : xs.length ≤ most) (h64 : xs.length < 2 ^ 64) (ho : ∀ x ∈ xs, ok x) : pL p most (vn xs.length ++ xs.flatMap f ++ r) = some (xs, r) := by
 unfold pL
 rw [List.append_assoc, pC_vn _ _ _ h64 hm]
 exact pR_all hp xs.length xs r rfl ho
noncomputable def pX (m K : Nat) (bs : List UInt8) : Option (List Tm × List UInt8) :=
 match pL pT 3089 bs with
 | none => none
 | some (X, r) => @ite _ (Ls Sm.L X ∧ ∀ x ∈ X, hs m K x.1 = true) (Classical.propDecidable _) (some (X, r)) none
def okX (m K : Nat) (X : List Tm) : Prop := X.length ≤ 3089 ∧ Ls Sm.L X ∧ ∀ x ∈ X, hs m K x.1 = true
theorem hs_okT {m K : Nat} (hm : m ≤ 16) (hK : K ≤ 1024) {X : List Tm} (h : okX m K X) : ∀ x ∈ X, okT x := fun x hx => by
 have h1 := h.2.2 x hx
 have h2 := h.2.1.nz x hx
 obtain ⟨kk, ii, hk, hi⟩ : ∃ kk ii : Nat, x.1.1 = (kk : Int) ∧ x.1.2 = (ii : Int) := by
  unfold hs at h1
  simp only [Bool.and_eq_true, decide_eq_true_eq] at h1
  exact ⟨x.1.1.toNat, x.1.2.toNat, by omega, by omega⟩
 unfold hs at h1
 simp only [Bool.and_eq_true, decide_eq_true_eq] at h1
 obtain ⟨a1, a2, a3, a4⟩ := h1
 refine ⟨⟨by omega, by omega⟩, ⟨by omega, ?_⟩, by omega, h2.2⟩
 have : x.1.1 = 1 ∨ x.1.1 = 2 ∨ x.1.1 = 3 ∨ x.1.1 = 4 ∨ x.1.1 = 5 := by omega
 have e : ct m K x.1.1.toNat ≤ 1024 := by
  rcases this with e | e | e | e | e <;> rw [e] <;> simp [Ci.ct] <;> omega
 omega
theorem pX_some {m K : Nat} {bs r : List UInt8} {X : List Tm} (h : pX m K bs = some (X, r)) : bs = xsB X ++ r ∧ okX m K X := by
 unfold pX at h
 split at h
 ·cases h
 ·rename_i Y r1 h1
  split at h
  ·rename_i h2
   simp only [Option.some.injEq, Prod.mk.injEq] at h
   obtain ⟨rfl, rfl⟩ := h
   obtain ⟨e, l, _⟩ := pL_some (f := tmB) (ok := okT) (fun _ _ _ h => pT_some h) h1
   exact ⟨by rw [e]; rfl, l, h2.1, h2.2⟩
  ·cases h
theorem pX_all {m K : Nat} (hm : m ≤ 16) (hK : K ≤ 1024) (X : List Tm) (r : List UInt8) (h : okX m K X) : pX m K (xsB X ++ r) = some (X, r) := by
 unfold pX xsB
 rw [pL_all (f := tmB) (ok := okT) (fun x r h => pT_tmB r h) X r h.1 (by have := h.1; omega) (hs_okT hm hK h)]
 simp only
 rw [if_pos h.2]
noncomputable def pY (bs : List UInt8) : Option (Nat × Nat × List (List Tm)) :=
 match pN 16 bs with
 | none => none
 | some (m, b1) =>
  match pN 1024 b1 with
  | none => none
  | some (K, b2) =>
   match pL (pX m K) 4096 b2 with
   | none => none
   | some (Q, b3) => @ite _ (b3 = [] ∧ Q.take m = enl m) (Classical.propDecidable _) (some (m, K, Q)) none
def okY (m K : Nat) (Q : List (List Tm)) : Prop := m ≤ 16 ∧ K ≤ 1024 ∧ Q.length ≤ 4096 ∧ (∀ X ∈ Q, okX m K X) ∧ Q.take m = enl m
theorem pY_all {m K : Nat} {Q : List (List Tm)} (h : okY m K Q) : pY (enB m K Q) = some (m, K, Q) := by
 obtain ⟨hm, hK, hq, ho, he⟩ := h
 have e : enB m K Q = vn m ++ (vn K ++ (vn Q.length ++ Q.flatMap xsB ++ [])) := by unfold enB; simp
 unfold pY
 rw [e, pN_vn m 16 _ (by omega) hm]
 simp only
 rw [pN_vn K 1024 _ (by omega) hK]
 simp only
 rw [pL_all (f := xsB) (ok := okX m K) (fun x r h => pX_all hm hK x r h) Q [] hq (by omega) ho]
 simp only
 rw [if_pos ⟨trivial, he⟩]
end Ci
end Go.Proofs.YthngomhhafoamaaGreatDoor
namespace Go.Proofs.YthngomhhafoamaaGreatDoor
open Go.RowKit
open Cm (Wr Tm co bf Ls lf ins Eqm)
namespace Ci
theorem ft_at {X : List Tm} {i : Nat} (h : i < X.length) : ft X i = ⟨X[i].1, lst X[i].2⟩ := by
 unfold ft tmOf
 simp [List.getD_eq_getElem?_getD, h]
theorem lst_zero_iff {c : Int} (h0 : 0 ≤ c) (h1 : c < Sm.L) : (lst c).same ⟨0, 0, 0, 0⟩ = true ↔ c = 0 := by
 have e : (⟨0, 0, 0, 0⟩ : E4) = zero4 := rfl
 rw [e, E4.same_iff, ← zero_lst]
 constructor
 ·intro h
  have h2 := congrArg E4.n h
  rw [lst_n, lst_n, Int.emod_eq_of_lt h0 h1] at h2
  simpa using h2
 ·intro h
  rw [h]
theorem chain_pair {X : List Tm} (st : ∀ i (hi : i + 1 < X.length), bf (X[i]'(by omega)).1 X[i + 1].1 = true) : X.Pairwise (fun x y => bf x.1 y.1 = true) := by
 rw [List.pairwise_iff_getElem]
 intro i j hi hj hij
 obtain ⟨d, rfl⟩ : ∃ d, j = i + 1 + d := ⟨j - i - 1, by omega⟩
 induction d with
 | zero => exact st i hj
 | succ d ih => exact Cm.bf_trans (ih (by omega) (by omega)) (st (i + 1 + d) (by omega))
theorem il_iff {X : List Tm} (ok : ∀ x ∈ X, okT x) : (!an (bdT (ft X)) X.length) = true ↔ Ls Sm.L X := by
 constructor
 ·intro h
  have hf : an (bdT (ft X)) X.length = false := by simpa using h
  have key := an_at hf
  have nz : ∀ i (hi : i < X.length), 0 < X[i].2 ∧ X[i].2 < Sm.L := fun i hi => by
   have k := key i hi
   obtain ⟨_, _, c0, c1⟩ := ok _ (List.getElem_mem hi)
   unfold bdT at k
   rw [ft_at hi] at k
   simp only [Bool.or_eq_false_iff] at k
   have : ¬ X[i].2 = 0 := fun e => by
    have := (lst_zero_iff c0 c1).2 e
    rw [k.1] at this
    cases this
   omega
  refine ⟨?_, fun x hx => by obtain ⟨i, hi, rfl⟩ := List.mem_iff_getElem.1 hx; exact nz i hi⟩
  have st : ∀ i (hi : i + 1 < X.length), bf (X[i]'(by omega)).1 X[i + 1].1 = true := fun i hi => by
   have k := key (i + 1) hi
   unfold bdT at k
   rw [show i + 1 - 1 = i by omega, ft_at hi, ft_at (show i < X.length by omega)] at k
   simp only [Bool.or_eq_false_iff] at k
   have k2 := k.2
   simp at k2
   exact (cw_neg _ _).1 k2
  exact chain_pair st
 ·intro h
  have : an (bdT (ft X)) X.length = false := an_false (fun i hi => by
   unfold bdT
   rw [ft_at hi]
   have nz := h.nz _ (List.getElem_mem hi)
   have h1 : (lst X[i].2).same ⟨0, 0, 0, 0⟩ = false := by
    cases hs : (lst X[i].2).same ⟨0, 0, 0, 0⟩ with
    | false => rfl
    | true => have := (lst_zero_iff (by omega) nz.2).1 hs; omega
   rw [h1]
   by_cases h0 : 0 < i
   ·rw [ft_at (show i - 1 < X.length by omega)]
    have := List.pairwise_iff_getElem.1 h.up (i - 1) i (by omega) hi (by omega)
    have := (cw_neg _ _).2 this
    simp
    intro _
    exact this
   ·simp [h0])
  rw [this]
  rfl
theorem nmX_iff {m K : Nat} {X : List Tm} : nm m K X.length (ft X) = true ↔ ∀ x ∈ X, hs m K x.1 = true := by
 constructor
 ·intro h x hx
  cases hh : hs m K x.1 with
  | true => rfl
  | false => rw [nm_false hx hh] at h; cases h
 ·exact nm_true
end Ci
end Go.Proofs.YthngomhhafoamaaGreatDoor
