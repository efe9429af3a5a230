import Derived.Test.YthngomhhafoamaaGreatDoorKx
import Derived.Test.YthngomhhafoamaaGreatDoorAz
import Derived.Laws.Strings
set_option linter.unusedVariables false
set_option linter.unusedSimpArgs false
set_option maxRecDepth 100000
set_option maxHeartbeats 16000000
namespace Go.Proofs.YthngomhhafoamaaGreatDoor
open Go.RowKit
open Cm (Wr Tm co bf Ls lf ins Eqm)
namespace Ci
theorem EncB_any {base : Nat} {w : World} {s m Kg : Nat} {vv : Value} {vs : List Value} {Q : List (List Tm)} (h : Sy base w s m Kg vv vs Q) (hW : Wk m Kg Q) (hT : Tb w) (hm : m ≤ 1024) :
  Calls Tryz.prog 13 #[.pointer (some ⟨s, 0, none⟩)] w fun e w' => ∃ p1 c1, e = .returned (.slice p1 (enB m Kg Q).length c1) ∧ Tr.By w' p1 c1 (enB m Kg Q) ∧ Below w.heap.size w w' :=
 (SysEncode_any h hW hT hm).mono fun e w' ⟨v, he, ho, hb⟩ => by
  obtain ⟨P, c, e1, hB⟩ := Tr.own_by ho
  subst e1
  exact ⟨P, c, he, hB, hb⟩
theorem sbl (l : List UInt8) : (Tr.sb l).toList = l := by
 rw [ByteArray.toList_eq]
 simp [Tr.sb]
theorem enB_more {m K : Nat} {Q : List (List Tm)} {X : List Tm} (h : okY m K Q) (h' : okY m K (Q ++ [X])) : ¬ (Tr.sb (enB m K (Q ++ [X]))).toList = (Tr.sb (enB m K Q)).toList := by
 rw [sbl, sbl]
 intro e
 have := congrArg List.length (enB_inj h' h e).2.2
 simp at this
end Ci
end Go.Proofs.YthngomhhafoamaaGreatDoor
namespace Go.Proofs.YthngomhhafoamaaGreatDoor
open Go.RowKit
open Cm (Wr Tm co bf Ls lf ins Eqm)
namespace Ci
def RqA (base : Nat) (w : World) (s m Kg : Nat) (v : Value) (vs : List Value) (Q : List (List Tm)) (X : List Tm) (w' : World) : Prop := ∃ v' u, Sy base w' s m Kg v' (vs ++ [u]) (Q ++ [X]) ∧ Fz s v w w' ∧ (∀ k, u.ownBlock = some k → w.heap.size ≤ k) ∧ ∀ k, v'.ownBlock = some k → v.ownBlock = some k ∨ w.heap.size ≤ k
theorem v4_of {w w2 : World} {o : Obj} {v4 v : Value} (hb : Below w.heap.size w w2) (h : v4.ownBlock = v.ownBlock ∨ v4.ownBlock = some (w2.alloc o).heap.size) : ∀ k, v4.ownBlock = some k → v.ownBlock = some k ∨ w.heap.size ≤ k := fun k hk => by
 rcases h with e | e
 ·rw [e] at hk; exact .inl hk
 ·rw [e] at hk
  have h9 := Option.some.inj hk
  have h8 := hb.size
  simp at h9
  exact .inr (by omega)
theorem Require_okA {base : Nat} {w : World} {s m Kg : Nat} {v : Value} {vs : List Value} {Q : List (List Tm)} (h : Sy base w s m Kg v vs Q) (hT : Tb w) (P : Option Addr) (n c : Nat) (f : Nat → Trm) (hn : n ≤ 2932031007402) (hf : ∀ k, k < n → (f k).a.ok) (hL : Lt w P n f) (hw : nm m Kg (lf Sm.L (glL n f)).length (ft (lf Sm.L (glL n f))) = true) (hq : Q.length < 4096) :
  Calls Tryz.prog 18 #[.pointer (some ⟨s, 0, none⟩), .slice P n c] w fun e w' => e = .returned (.int .i64 0) ∧ RqA base w s m Kg v vs Q (lf Sm.L (glL n f)) w' := by
 have C0 := Hn (none_any h)
 have C1 := Hn (Least_lin P n c f w hT hn hf hL)
 have XL := Hn (lf_len_le (glL n f))
 have GL : Hid ((glL n f).length = n) := Hn (by simp [glL])
 generalize lf Sm.L (glL n f) = X at *
 have C2 := Hn (fun y P' c' (hy : Below w.heap.size w y) (ho : y.ownsRow w.heap.size 77 6 (.slice P' X.length c') X.length (tls X)) => names_any (h.keep hy) P' X.length c' (ft X) (by have := XL.out; have := GL.out; omega) (own_lts ho))
 rw [hw] at C2
 have HS := Hn h
 obtain ⟨Pv, cv, hv, hlc, hpv⟩ := h.shape
 have HQ := Hn hq
 clear hT hn hf hL hw h hlc hpv hq
 go_enter Tryz.func18, Tryz.ntmps18
 go_upto_region 4 with (first | (go_at_call 38; refine C0.out.mono ?_; rintro e w0 ⟨rfl, rfl⟩) | (go_at_call 31; refine C1.out.mono ?_; rintro e w1 ⟨u, rfl, hq1⟩; have Q1 := Hn hq1; clear hq1))
 clear C0 C1
 obtain ⟨P1, c1, e1, _, _⟩ := own_shT Q1.out.1
 subst e1
 have C3 := Hn (C2.out w1 P1 c1 Q1.out.2.1 Q1.out.1)
 clear C2
 go_upto_region 6 with (first | (go_at_call 49; refine C3.out.mono ?_; rintro e w2 ⟨rfl, hb⟩; have B2 := Hn (bl_trans Q1.out.2.1 hb); have B3 := Hn hb; clear hb))
 clear C3
 have s2 := HS.out.keep B2.out
 have k2 := s2.c2
 have z2 := s2.fz 2
 have QL : Hid (Q.length ≤ 4398046510976 ∨ True) := Hn (.inr trivial)
 subst hv
 have l9 : ¬ (4096 : Int) ≤ (Q.length : Int) := by have := HQ.out; omega
 have O2 := Hn s2.row
 have HI := Hn llinfo
 have HZ0 : Hid ((Tryz.prog.info? 24).get!.zero = some (.slice none 0 0)) := Hn (by kernel_rfl)
 have HZ1 : Hid ((Tryz.prog.info? 24).get!.size = 1) := Hn (by kernel_rfl)
 have HZ2 : Hid ((Tryz.prog.info? 24).get!.bytes = 24) := Hn (by kernel_rfl)
 have T1 : Hid (Tryz.prog.underlying 70 = some (.slice 24)) := Hn (by kernel_rfl)
 have BS : Hid (base ≤ w2.heap.size) := Hn (by have := s2.lt; have := s2.bs; omega)
 have UO := Hn (own_keepT Q1.out.1 B3.out)
 have s2h := Hn s2.h
 clear s2
 generalize hnq : Q.length = nq at *
 have HNQ := Hn hnq
 generalize hxl : X.length = xl at *
 have HXL := Hn hxl
 clear hnq hxl
 go_upto_region 8 with fail
 go_wp2_with (first | (at_builtin; have x1 := own_keepT O2.out (bl_alloc w2 (.cells #[.slice P1 xl c1] 24)); have x2 := cells_newT w2 [.slice P1 xl c1] 24; have x3 : ∀ u ∈ ([.slice P1 xl c1] : List Value), u.oneCell' = true := (by simp [Value.oneCell']); have x4 : nq + 1 ≤ maxLen := (by have := HQ.out; unfold maxLen; omega); have x5 : (nq + 1) * 24 ≤ 140737488355328 := (by have := HQ.out; omega); have x6 : base ≤ (w2.alloc (.cells #[.slice P1 xl c1] 24)).heap.size := (by have := BS.out; simp; omega); refine wpList_append_own_at _ rfl _ _ 70 rfl base 24 _ _ 1 24 T1.out HI.out HZ0.out HZ1.out HZ2.out rfl (by decide) _ nq vs rfl x1 ⟨w2.heap.size, 0, none⟩ 1 1 [.slice P1 xl c1] rfl rfl x2 x3 x4 x5 x6 ?_; intro v4 w4 ho4 hg4 _ hv4; have V4 := Hn (v4_of B2.out hv4); clear hv4; obtain ⟨P4, c4, e4⟩ := own_sh1 ho4; subst e4; have O4 := Hn ho4; have G4 := Hn hg4; have k4 : w4.cell? ⟨s, 2, none⟩ = some (.slice Pv nq cv) := cell_row2 s2h.out O2.out hg4; have z4 : w4.frozen? ⟨s, 2, none⟩ = false := fz_row2 s2h.out O2.out hg4; clear ho4 hg4 x1 x2 x3 x4 x5 x6))
 refine bodyPost_ret (v := .int .i64 0) (by simp [results, Tryz.results18, go_sem]) rfl ⟨rfl, ?_⟩
 have UO2 : (w2.alloc (.cells #[.slice P1 xl c1] 24)).ownsRow 0 77 6 (.slice P1 X.length c1) X.length (tls X) := by rw [HXL.out]; exact own_monoT (own_keepT UO.out (bl_alloc _ _)) (Nat.zero_le _)
 rw [HXL.out] at UO2
 rw [HNQ.out]
 have hh := rq_more HS.out (bl_trans B2.out (bl_alloc _ _)) UO2 Q1.out.2.2 HNQ.out HXL.out O4.out G4.out
 exact ⟨.slice P4 (nq + 1) c4, _, hh.1, hh.2, fun k hk => (UO.out.lt k hk).1, V4.out⟩
section
variable {b1 b2 s t m K m2 K2 : Nat} {v v2 : Value} {vs vs2 : List Value} {Q Q2 : List (List Tm)} {x y : World}
theorem Sy.row_ne (h : Sy b1 x s m K v vs Q) (h2 : Sy b2 x t m2 K2 v2 vs2 Q2) : v2.ownBlock ≠ some s := fun e => ne_row2 h.h h2.row e.symm
theorem Sy.sum_ne (h : Sy b1 x s m K v vs Q) {u : Value} {n : Nat} {xs : List Value} (hu : x.ownsRow 0 77 6 u n xs) : u.ownBlock ≠ some s ∧ ∀ k, u.ownBlock = some k → v.ownBlock ≠ some k := by
 rcases hu.2 with ⟨e1, _⟩ | ⟨g, c, cur, e1, _, k1, _⟩
 ·rw [e1]
  exact ⟨fun e => (by cases e), fun k e => (by cases e)⟩
 ·rw [e1]
  refine ⟨fun e => ?_, fun k e => ?_⟩
  ·simp only [Value.ownBlock, Option.some.injEq] at e
   subst e
   rw [h.h] at k1
   simp only [Option.some.injEq, Obj.cells.injEq] at k1
   exact absurd k1.2.1 (by decide)
  ·simp only [Value.ownBlock, Option.some.injEq] at e
   subst e
   rcases h.row.2 with ⟨f1, _⟩ | ⟨g', c', cur', f1, _, k2, _⟩
   ·rw [f1]; intro e; cases e
   ·rw [f1]
    intro e
    simp only [Value.ownBlock, Option.some.injEq] at e
    subst e
    rw [k1] at k2
    simp only [Option.some.injEq, Obj.cells.injEq] at k2
    exact absurd k2.2.1 (by decide)
theorem own_fz {b n sz : Nat} {e : TypeId} {u : Value} {xs : List Value} (hu : x.ownsRow b e sz u n xs) (hf : Fz s v x y) (h1 : u.ownBlock ≠ some s) (h2 : ∀ k, u.ownBlock = some k → v.ownBlock ≠ some k) : y.ownsRow b e sz u n xs := ⟨hu.1, by
 rcases hu.2 with h | ⟨g, c, cur, e1, e2, e3, e4⟩
 ·exact .inl h
 ·rw [e1] at h1 h2
  exact .inr ⟨g, c, cur, e1, e2, (hf.block g (Array.getElem?_eq_some_iff.1 e3).1 (fun e => h1 (by rw [← e]; rfl)) (h2 g rfl)).trans e3, e4⟩⟩
theorem Sy.aside (h2 : Sy b2 x t m2 K2 v2 vs2 Q2) (h : Sy b1 x s m K v vs Q) (hf : Fz s v x y) (hst : t ≠ s) (hv : ∀ k, v2.ownBlock = some k → v.ownBlock ≠ some k) : Sy b2 y t m2 K2 v2 vs2 Q2 := by
 refine ⟨(hf.block t h2.lt hst (h2.row_ne h)).trans h2.h, own_fz h2.row hf (h.row_ne h2) hv, fun i X hX => ?_, h2.bs, h2.sm⟩
 obtain ⟨u, a1, a2⟩ := h2.ls i X hX
 exact ⟨u, a1, own_fz a2 hf (h.sum_ne a2).1 (h.sum_ne a2).2⟩
theorem Fz.gr (h : x.grownBy y (some s)) : Fz s v x y := ⟨h.os, h.tape, h.output, h.size, fun i hi his _ => h.block i hi (fun e => his (Option.some.inj e))⟩
end
def Tw (w0 : World) (s t m K : Nat) (Q : List (List Tm)) (x : World) : Prop := ∃ b1 v vs b2 v2 vs2, Sy b1 x s m K v vs Q ∧ Sy b2 x t m K v2 vs2 Q ∧ w0.heap.size ≤ b1 ∧ w0.heap.size ≤ b2 ∧ t ≠ s ∧ (∀ k, v2.ownBlock = some k → v.ownBlock ≠ some k) ∧ Below w0.heap.size w0 x
theorem Tw.keep {w0 x y : World} {s t m K : Nat} {Q : List (List Tm)} (h : Tw w0 s t m K Q x) (hb : Below x.heap.size x y) : Tw w0 s t m K Q y := by
 obtain ⟨b1, v, vs, b2, v2, vs2, h1, h2, h3, h4, h5, h6, h7⟩ := h
 exact ⟨b1, v, vs, b2, v2, vs2, h1.keep hb, h2.keep hb, h3, h4, h5, h6, bl_trans h7 hb⟩
theorem Tw.make {w0 x y : World} {s t m K : Nat} {Q : List (List Tm)} {v2 : Value} {vs2 : List Value} (h : Ts w0 s m K Q x) (h2 : Sy x.heap.size y t m K v2 vs2 Q) (hb : Below x.heap.size x y) : Tw w0 s t m K Q y := by
 obtain ⟨b1, v, vs, h1, h3, h4, _⟩ := h
 refine ⟨b1, v, vs, x.heap.size, v2, vs2, h1.keep hb, h2, h3, h4.size, ?_, fun k hk e => ?_, bl_trans h4 hb⟩
 ·have := h1.lt
  have := h2.bs
  omega
 ·have := (h1.vb k e).2
  have := (h2.vb k hk).1
  omega
end Ci
end Go.Proofs.YthngomhhafoamaaGreatDoor
namespace Go.Proofs.YthngomhhafoamaaGreatDoor
open Go.RowKit
open Cm (Wr Tm co bf Ls lf ins Eqm)
namespace Ci
def Ty (w0 : World) (m s K1 : Nat) (Q1 : List (List Tm)) (t K2 : Nat) (Q2 : List (List Tm)) (x : World) : Prop := ∃ b1 v vs b2 v2 vs2, Sy b1 x s m K1 v vs Q1 ∧ Sy b2 x t m K2 v2 vs2 Q2 ∧ w0.heap.size ≤ b1 ∧ w0.heap.size ≤ b2 ∧ t ≠ s ∧ (∀ k, v2.ownBlock = some k → v.ownBlock ≠ some k) ∧ Below w0.heap.size w0 x
section
variable {w0 x y : World} {m s t K1 K2 : Nat} {Q1 Q2 : List (List Tm)}
theorem Ty.swap (h : Ty w0 m s K1 Q1 t K2 Q2 x) : Ty w0 m t K2 Q2 s K1 Q1 x := by
 obtain ⟨b1, v, vs, b2, v2, vs2, h1, h2, h3, h4, h5, h6, h7⟩ := h
 exact ⟨b2, v2, vs2, b1, v, vs, h2, h1, h4, h3, fun e => h5 e.symm, fun k hk e => h6 k e hk, h7⟩
theorem Ty.keep (h : Ty w0 m s K1 Q1 t K2 Q2 x) (hb : Below x.heap.size x y) : Ty w0 m s K1 Q1 t K2 Q2 y := by
 obtain ⟨b1, v, vs, b2, v2, vs2, h1, h2, h3, h4, h5, h6, h7⟩ := h
 exact ⟨b1, v, vs, b2, v2, vs2, h1.keep hb, h2.keep hb, h3, h4, h5, h6, bl_trans h7 hb⟩
theorem Ty.bl (h : Ty w0 m s K1 Q1 t K2 Q2 x) : Below w0.heap.size w0 x := by
 obtain ⟨b1, v, vs, b2, v2, vs2, h1, h2, h3, h4, h5, h6, h7⟩ := h
 exact h7
theorem Ty.fst (h : Ty w0 m s K1 Q1 t K2 Q2 x) : ∃ b v vs, Sy b x s m K1 v vs Q1 := by
 obtain ⟨b1, v, vs, b2, v2, vs2, h1, _⟩ := h
 exact ⟨b1, v, vs, h1⟩
theorem Tw.ty {K : Nat} {Q : List (List Tm)} (h : Tw w0 s t m K Q x) : Ty w0 m s K Q t K Q x := h
theorem tyReq (h : Ty w0 m s K1 Q1 t K2 Q2 x) (hT : Tb x) (P : Option Addr) (n c : Nat) (f : Nat → Trm) (hn : n ≤ 2932031007402) (hf : ∀ k, k < n → (f k).a.ok) (hL : Lt x P n f) (hw : nm m K1 (lf Sm.L (glL n f)).length (ft (lf Sm.L (glL n f))) = true) (hq : Q1.length < 4096) :
  Calls Tryz.prog 18 #[.pointer (some ⟨s, 0, none⟩), .slice P n c] x fun e w' => e = .returned (.int .i64 0) ∧ Ty w0 m s K1 (Q1 ++ [lf Sm.L (glL n f)]) t K2 Q2 w' := by
 obtain ⟨b1, v, vs, b2, v2, vs2, h1, h2, h3, h4, h5, h6, h7⟩ := h
 refine (Require_okA h1 hT P n c f hn hf hL hw hq).mono fun e w' ⟨he, v', u, hs, hz, _, hv⟩ => ⟨he, b1, v', vs ++ [u], b2, v2, vs2, hs, h2.aside h1 hz h5 h6, h3, h4, h5, fun k hk e1 => ?_, ?_⟩
 ·rcases hv k e1 with e2 | e2
  ·exact h6 k hk e2
  ·have := (h2.vb k hk).2
   omega
 ·exact h7.trans (hz.below h7.size (Nat.le_trans h3 h1.bs) (fun k hk => Nat.le_trans h3 (h1.vb k hk).1))
theorem tyGate (h : Ty w0 m s K1 Q1 t K2 Q2 x) (hK : K1 < 1024) :
  Calls Tryz.prog 12 #[.pointer (some ⟨s, 0, none⟩)] x fun e w' => e = .returned (tup 2 K1 3 K1 4 K1 0) ∧ Ty w0 m s (K1 + 1) Q1 t K2 Q2 w' := by
 obtain ⟨b1, v, vs, b2, v2, vs2, h1, h2, h3, h4, h5, h6, h7⟩ := h
 refine (Gate_ok h1 hK).mono fun e w' ⟨he, hs, hg⟩ => ?_
 have hz : Fz s v x w' := Fz.gr hg
 exact ⟨he, b1, v, vs, b2, v2, vs2, hs, h2.aside h1 hz h5 h6, h3, h4, h5, h6, h7.trans (hz.below h7.size (Nat.le_trans h3 h1.bs) (fun k hk => Nat.le_trans h3 (h1.vb k hk).1))⟩
end
end Ci
end Go.Proofs.YthngomhhafoamaaGreatDoor
namespace Go.Proofs.YthngomhhafoamaaGreatDoor
open Go.RowKit
open Cm (Wr Tm co bf Ls lf ins Eqm)
namespace Ci
def rqE (m K : Nat) (Q : List (List Tm)) (X : List Tm) : Int := if nm m K X.length (ft X) = true then (if Q.length < 4096 then 0 else 201) else 200
def rqQ (m K : Nat) (Q : List (List Tm)) (X : List Tm) : List (List Tm) := if rqE m K Q X = 0 then Q ++ [X] else Q
def gtV (K : Nat) : Value := if K < 1024 then tup 2 K 3 K 4 K 0 else tup 0 0 0 0 0 0 201
def gtK (K : Nat) : Nat := if K < 1024 then K + 1 else K
section
variable {w0 x y : World} {m s t K1 K2 K : Nat} {Q Q1 Q2 : List (List Tm)} {X : List Tm}
theorem rq_ok (h : rqE m K Q X = 0) : nm m K X.length (ft X) = true ∧ Q.length < 4096 := by
 unfold rqE at h
 split at h
 ·split at h
  ·exact ⟨by assumption, by assumption⟩
  ·cases h
 ·cases h
theorem okY_rq (h : okY m K Q) (hX : Ls Sm.L X) (hl : X.length ≤ 2932031007402) : okY m K (rqQ m K Q X) := by
 unfold rqQ
 split
 ·rename_i e
  obtain ⟨h1, h2⟩ := rq_ok e
  refine okY_of ((wk_of h).req h1 hl h2) h.1 fun Y hY => ?_
  rcases List.mem_append.1 hY with hY | hY
  ·exact (h.2.2.2.1 Y hY).2.1
  ·rw [List.mem_singleton.1 hY]; exact hX
 ·exact h
theorem okY_gate (h : okY m K Q) : okY m (gtK K) Q := by
 unfold gtK
 split
 ·rename_i e
  exact okY_of ((wk_of h).gate e) h.1 fun Y hY => (h.2.2.2.1 Y hY).2.1
 ·exact h
theorem rq_same (h : ¬ rqE m K Q X = 0) : rqQ m K Q X = Q := by
 unfold rqQ
 rw [if_neg h]
theorem tyGateE (h : Ty w0 m s K1 Q1 t K2 Q2 x) :
  Calls Tryz.prog 12 #[.pointer (some ⟨s, 0, none⟩)] x fun e w' => e = .returned (gtV K1) ∧ Ty w0 m s (gtK K1) Q1 t K2 Q2 w' := by
 obtain ⟨b, v, vs, h1⟩ := h.fst
 unfold gtV gtK
 by_cases hK : K1 < 1024
 ·rw [if_pos hK, if_pos hK]
  exact tyGate h hK
 ·rw [if_neg hK, if_neg hK]
  exact (Gate_full h1 (by omega)).mono fun e w' ⟨a, b⟩ => ⟨a, h.keep b⟩
end
end Ci
end Go.Proofs.YthngomhhafoamaaGreatDoor
namespace Go.Proofs.YthngomhhafoamaaGreatDoor
open Go.RowKit
open Cm (Wr Tm co bf Ls lf ins Eqm)
open Tr (vn_len)
namespace Ci
theorem enB_short {m K : Nat} {Q : List (List Tm)} (h : okY m K Q) : (enB m K Q).length ≤ 2 ^ 40 := by
 have h1 := flatm_len xsB 160638 Q (fun X hX => by
  have h2 := xsB_len X
  have h3 := (h.2.2.2.1 X hX).1
  omega)
 have h4 := vn_len m
 have h5 := vn_len K
 have h6 := vn_len Q.length
 have h7 := h.2.2.1
 unfold enB
 rw [List.length_append, List.length_append, List.length_append]
 omega
theorem eqB_self {X : List Tm} (h : Ls Sm.L X) : eqB X X = true := (eqB_iff h h).2 rfl
end Ci
end Go.Proofs.YthngomhhafoamaaGreatDoor
