import Derived.Test.YtlijigolfggcfaaDoorHt
namespace Go.Proofs.YtlijigolfggcfaaDoor
open Go.RowKit
set_option linter.unusedVariables false
/-- what sameLines looks at in the program's set -/
structure K4 (w : World) (T : Nat) (b f q : E4) (Gv Hv : Value) (T3 : Nat) : Prop where
  r : w.rangeAt T 0 (gs14 b f q Gv Hv)
  lt : T < w.heap.size
  lt3' : T3 < w.heap.size
theorem K4.keep {w w' : World} {T T3 : Nat} {b f q : E4} {Gv Hv : Value} (h : K4 w T b f q Gv Hv T3) (hb : Below w.heap.size w w') : K4 w' T b f q Gv Hv T3 := ⟨range_keepO h.r hb h.lt, Nat.lt_of_lt_of_le h.lt hb.size, Nat.lt_of_lt_of_le h.lt3' hb.size⟩
theorem k3_of {w : World} {T : Nat} {y0 y1 y2 : E4} {Gv Hv : Value} {big : List Value} (h : w.rangeAt T 0 big) (hb : big = hdl y0 y1 y2 ++ [Gv, Hv]) : K3 w T Gv Hv (el y0) (el y1) (el y2) := by
  subst hb
  refine ⟨by have := h 79 Gv rfl; simpa using this, by have := h 80 Hv rfl; simpa using this, fun j v hv => ?_, fun j v hv => ?_, fun j v hv => ?_⟩
  all_goals
    have hj : j < 26 := (List.getElem?_eq_some_iff.1 hv).1
  · have := h (1 + j) v (by
      rw [List.getElem?_append_left (by rw [hdl_len]; omega)]
      unfold hdl
      rw [show 1 + j = j + 1 by omega, List.getElem?_cons_succ, List.append_assoc, List.getElem?_append_left (by rw [el_len]; exact hj)]
      exact hv)
    simpa using this
  · have := h (27 + j) v (by
      rw [List.getElem?_append_left (by rw [hdl_len]; omega)]
      unfold hdl
      rw [show 27 + j = (26 + j) + 1 by omega, List.getElem?_cons_succ, List.append_assoc, List.getElem?_append_right (by rw [el_len]; omega), el_len, List.getElem?_append_left (by rw [el_len]; omega), show 26 + j - 26 = j by omega]
      exact hv)
    simpa using this
  · have := h (53 + j) v (by
      rw [List.getElem?_append_left (by rw [hdl_len]; omega)]
      unfold hdl
      rw [show 53 + j = (52 + j) + 1 by omega, List.getElem?_cons_succ, List.append_assoc, List.getElem?_append_right (by rw [el_len]; omega), el_len, List.getElem?_append_right (by rw [el_len]; omega), el_len, show 52 + j - 26 - 26 = j by omega]
      exact hv)
    simpa using this
theorem K4.c0 {w : World} {T T3 : Nat} {b f q : E4} {Gv Hv : Value} (h : K4 w T b f q Gv Hv T3) : w.cell? ⟨T, 0, none⟩ = some (.int .u64 b.x0) := by have := h.r 0 (.int .u64 b.x0) rfl; simpa using this
theorem K4.c1 {w : World} {T T3 : Nat} {b f q : E4} {Gv Hv : Value} (h : K4 w T b f q Gv Hv T3) : w.cell? ⟨T, 1, none⟩ = some (.int .u64 b.x1) := by have := h.r 1 (.int .u64 b.x1) rfl; simpa using this
theorem K4.c2 {w : World} {T T3 : Nat} {b f q : E4} {Gv Hv : Value} (h : K4 w T b f q Gv Hv T3) : w.cell? ⟨T, 2, none⟩ = some (.int .u64 b.x2) := by have := h.r 2 (.int .u64 b.x2) rfl; simpa using this
theorem K4.c3 {w : World} {T T3 : Nat} {b f q : E4} {Gv Hv : Value} (h : K4 w T b f q Gv Hv T3) : w.cell? ⟨T, 3, none⟩ = some (.int .u64 b.x3) := by have := h.r 3 (.int .u64 b.x3) rfl; simpa using this
theorem K4.c4 {w : World} {T T3 : Nat} {b f q : E4} {Gv Hv : Value} (h : K4 w T b f q Gv Hv T3) : w.cell? ⟨T, 4, none⟩ = some (.int .u64 f.x0) := by have := h.r 4 (.int .u64 f.x0) rfl; simpa using this
theorem K4.c5 {w : World} {T T3 : Nat} {b f q : E4} {Gv Hv : Value} (h : K4 w T b f q Gv Hv T3) : w.cell? ⟨T, 5, none⟩ = some (.int .u64 f.x1) := by have := h.r 5 (.int .u64 f.x1) rfl; simpa using this
theorem K4.c6 {w : World} {T T3 : Nat} {b f q : E4} {Gv Hv : Value} (h : K4 w T b f q Gv Hv T3) : w.cell? ⟨T, 6, none⟩ = some (.int .u64 f.x2) := by have := h.r 6 (.int .u64 f.x2) rfl; simpa using this
theorem K4.c7 {w : World} {T T3 : Nat} {b f q : E4} {Gv Hv : Value} (h : K4 w T b f q Gv Hv T3) : w.cell? ⟨T, 7, none⟩ = some (.int .u64 f.x3) := by have := h.r 7 (.int .u64 f.x3) rfl; simpa using this
theorem K4.c8 {w : World} {T T3 : Nat} {b f q : E4} {Gv Hv : Value} (h : K4 w T b f q Gv Hv T3) : w.cell? ⟨T, 8, none⟩ = some (.int .u64 q.x0) := by have := h.r 8 (.int .u64 q.x0) rfl; simpa using this
theorem K4.c9 {w : World} {T T3 : Nat} {b f q : E4} {Gv Hv : Value} (h : K4 w T b f q Gv Hv T3) : w.cell? ⟨T, 9, none⟩ = some (.int .u64 q.x1) := by have := h.r 9 (.int .u64 q.x1) rfl; simpa using this
theorem K4.c10 {w : World} {T T3 : Nat} {b f q : E4} {Gv Hv : Value} (h : K4 w T b f q Gv Hv T3) : w.cell? ⟨T, 10, none⟩ = some (.int .u64 q.x2) := by have := h.r 10 (.int .u64 q.x2) rfl; simpa using this
theorem K4.c11 {w : World} {T T3 : Nat} {b f q : E4} {Gv Hv : Value} (h : K4 w T b f q Gv Hv T3) : w.cell? ⟨T, 11, none⟩ = some (.int .u64 q.x3) := by have := h.r 11 (.int .u64 q.x3) rfl; simpa using this
theorem K4.c12 {w : World} {T T3 : Nat} {b f q : E4} {Gv Hv : Value} (h : K4 w T b f q Gv Hv T3) : w.cell? ⟨T, 12, none⟩ = some Gv := by have := h.r 12 Gv rfl; simpa using this
theorem K4.c13 {w : World} {T T3 : Nat} {b f q : E4} {Gv Hv : Value} (h : K4 w T b f q Gv Hv T3) : w.cell? ⟨T, 13, none⟩ = some Hv := by have := h.r 13 Hv rfl; simpa using this
set_option maxRecDepth 100000 in
set_option maxHeartbeats 16000000 in
theorem lines_same (b f q : E4) (P1 P2 PE1 PE2 : Option Addr) (n1 c1 n2 c2 d1 d2 B1 B2 : Nat) (fG fH : Nat → E4) (w : World) (hT : Tb w) (ob : b.ok) (of : f.ok) (oq : q.ok) (h1 : n1 ≤ 1048576) (h2 : n2 ≤ 1048576) (oG : ∀ k, k < n1 → (fG k).ok) (oH : ∀ k, k < n2 → (fH k).ok)
    (r1 : w.ownsRow B1 29 4 (.slice P1 n1 c1) n1 (svs n1 fG)) (r2 : w.ownsRow B1 29 4 (.slice P2 n2 c2) n2 (svs n2 fH)) (e1 : w.ownsRow B2 44 26 (.slice PE1 n1 d1) n1 (evs n1 (lf fG))) (e2 : w.ownsRow B2 44 26 (.slice PE2 n2 d2) n2 (evs n2 (lf fH))) :
    Calls Tryd.prog 8 #[.agg (gs14 b f q (.slice P1 n1 c1) (.slice P2 n2 c2)).toArray, .agg (hdl (lst b.n) (lst f.n) (lst q.n) ++ [Value.slice PE1 n1 d1, Value.slice PE2 n2 d2]).toArray] w fun e w' => e = .returned (.bool true) ∧ Below w.heap.size w w' := by
  have HN1 := hidden h1
  have HN2 := hidden h2
  have HOG := hidden oG
  have HOH := hidden oH
  obtain ⟨cs, hcs⟩ : ∃ l, l = gs14 b f q (.slice P1 n1 c1) (.slice P2 n2 c2) := ⟨_, rfl⟩
  obtain ⟨big, hbig⟩ : ∃ l, l = (hdl (lst b.n) (lst f.n) (lst q.n) ++ [Value.slice PE1 n1 d1, Value.slice PE2 n2 d2]) := ⟨_, rfl⟩
  rw [← hcs, ← hbig]
  have M1 := (Bx1.new w cs 32).keep (bl_alloc _ (.cells big.toArray 47)) (show w.heap.size < (w.alloc (.cells cs.toArray 32)).heap.size by simp)
  have M2 := Bx1.new (w.alloc (.cells cs.toArray 32)) big 47
  simp only [World.size_alloc] at M2
  have B0 := bl_alloc2 w (.cells cs.toArray 32) (.cells big.toArray 47)
  have SZ : ((w.alloc (.cells cs.toArray 32)).alloc (.cells big.toArray 47)).heap.size = w.heap.size + 2 := by simp
  generalize hW : (w.alloc (.cells cs.toArray 32)).alloc (.cells big.toArray 47) = W at M1 M2 B0 SZ
  have KS : Hid (K4 W w.heap.size b f q (.slice P1 n1 c1) (.slice P2 n2 c2) (w.heap.size + 1)) := hidden ⟨by rw [← hcs]; exact M1.r, by omega, by omega⟩
  have KT : Hid (K3 W (w.heap.size + 1) (.slice PE1 n1 d1) (.slice PE2 n2 d2) (el (lst b.n)) (el (lst f.n)) (el (lst q.n))) := hidden (k3_of M2.r hbig)
  have KSW := KS
  have KTW := KT
  have TW := hidden (hT.keep B0)
  have R1 := hidden (own_keepL r1 B0)
  have R2 := hidden (own_keepL r2 B0)
  have E1 := hidden (own_keepL e1 B0)
  have E2 := hidden (own_keepL e2 B0)
  have HB0 := hidden B0
  have F0 : Hid (∀ x : World, Below W.heap.size W x → Calls Tryd.prog 11 #[.agg #[.int .u64 b.x0, .int .u64 b.x1, .int .u64 b.x2, .int .u64 b.x3], .agg (el (lst b.n)).toArray] x fun e w' => e = .returned (.bool true) ∧ Below x.heap.size x w') := hidden (fun x hb => isLine_any b x (TW.out.keep hb) ob)
  have F1 : Hid (∀ x : World, Below W.heap.size W x → Calls Tryd.prog 11 #[.agg #[.int .u64 f.x0, .int .u64 f.x1, .int .u64 f.x2, .int .u64 f.x3], .agg (el (lst f.n)).toArray] x fun e w' => e = .returned (.bool true) ∧ Below x.heap.size x w') := hidden (fun x hb => isLine_any f x (TW.out.keep hb) of)
  have F2 : Hid (∀ x : World, Below W.heap.size W x → Calls Tryd.prog 11 #[.agg #[.int .u64 q.x0, .int .u64 q.x1, .int .u64 q.x2, .int .u64 q.x3], .agg (el (lst q.n)).toArray] x fun e w' => e = .returned (.bool true) ∧ Below x.heap.size x w') := hidden (fun x hb => isLine_any q x (TW.out.keep hb) oq)
  have IE0 := hidden (el_i (lst b.n))
  have IE1 := hidden (el_i (lst f.n))
  have IE2 := hidden (el_i (lst q.n))
  have UE : Hid (Tryd.prog.underlying 44 = _) := hidden Tryd.underlying44
  have BW := hidden (Below.refl W.heap.size W)
  clear hcs hbig M1 M2 B0 SZ r1 r2 e1 e2 h1 h2 oG oH ob of oq hT
  generalize el (lst b.n) = q0 at KT KTW F0 IE0
  generalize el (lst f.n) = q1 at KT KTW F1 IE1
  generalize el (lst q.n) = q2 at KT KTW F2 IE2
  have x0 := KS.out.c0
  have x1 := KS.out.c1
  have x2 := KS.out.c2
  have x3 := KS.out.c3
  have x4 := KS.out.c4
  have x5 := KS.out.c5
  have x6 := KS.out.c6
  have x7 := KS.out.c7
  have x8 := KS.out.c8
  have x9 := KS.out.c9
  have x10 := KS.out.c10
  have x11 := KS.out.c11
  have x12 := KS.out.c12
  have x13 := KS.out.c13
  have e79 := KT.out.1
  have e80 := KT.out.2.1
  go_enter Tryd.func8, Tryd.ntmps8
  go_upto_region 4 with (first | refine wpList_loadG (by rfl) 44 _ rfl (w.heap.size + 1) 1 (by rfl) q0 _ KT.out.2.2.1 UE.out rfl IE0.out ?_ | refine wpList_loadG (by rfl) 44 _ rfl (w.heap.size + 1) 27 (by rfl) q1 _ KT.out.2.2.2.1 UE.out rfl IE1.out ?_ | refine wpList_loadG (by rfl) 44 _ rfl (w.heap.size + 1) 53 (by rfl) q2 _ KT.out.2.2.2.2 UE.out rfl IE2.out ?_ | (go_at_call 11; refine (F0.out _ BW.out).mono ?_; rintro e wa ⟨rfl, ha⟩; clear x0 x1 x2 x3 x4 x5 x6 x7 x8 x9 x10 x11 x12 x13 e79 e80; replace KT := hidden (k3_keep KT.out ha KS.out.lt3'); replace KS := hidden (KS.out.keep ha); replace BW := hidden (bl_trans BW.out ha); have x0 := KS.out.c0; have x1 := KS.out.c1; have x2 := KS.out.c2; have x3 := KS.out.c3; have x4 := KS.out.c4; have x5 := KS.out.c5; have x6 := KS.out.c6; have x7 := KS.out.c7; have x8 := KS.out.c8; have x9 := KS.out.c9; have x10 := KS.out.c10; have x11 := KS.out.c11; have x12 := KS.out.c12; have x13 := KS.out.c13; have e79 := KT.out.1; have e80 := KT.out.2.1; clear ha F0) | (go_at_call 11; refine (F1.out _ BW.out).mono ?_; rintro e wa ⟨rfl, ha⟩; clear x0 x1 x2 x3 x4 x5 x6 x7 x8 x9 x10 x11 x12 x13 e79 e80; replace KT := hidden (k3_keep KT.out ha KS.out.lt3'); replace KS := hidden (KS.out.keep ha); replace BW := hidden (bl_trans BW.out ha); have x0 := KS.out.c0; have x1 := KS.out.c1; have x2 := KS.out.c2; have x3 := KS.out.c3; have x4 := KS.out.c4; have x5 := KS.out.c5; have x6 := KS.out.c6; have x7 := KS.out.c7; have x8 := KS.out.c8; have x9 := KS.out.c9; have x10 := KS.out.c10; have x11 := KS.out.c11; have x12 := KS.out.c12; have x13 := KS.out.c13; have e79 := KT.out.1; have e80 := KT.out.2.1; clear ha F1) | (go_at_call 11; refine (F2.out _ BW.out).mono ?_; rintro e wa ⟨rfl, ha⟩; clear x0 x1 x2 x3 x4 x5 x6 x7 x8 x9 x10 x11 x12 x13 e79 e80; replace KT := hidden (k3_keep KT.out ha KS.out.lt3'); replace KS := hidden (KS.out.keep ha); replace BW := hidden (bl_trans BW.out ha); have x0 := KS.out.c0; have x1 := KS.out.c1; have x2 := KS.out.c2; have x3 := KS.out.c3; have x4 := KS.out.c4; have x5 := KS.out.c5; have x6 := KS.out.c6; have x7 := KS.out.c7; have x8 := KS.out.c8; have x9 := KS.out.c9; have x10 := KS.out.c10; have x11 := KS.out.c11; have x12 := KS.out.c12; have x13 := KS.out.c13; have e79 := KT.out.1; have e80 := KT.out.2.1; clear ha F2))
  clear x0 x1 x2 x3 x4 x5 x6 x7 x8 x9 x10 x11 x12 x13 e79 e80 KS KT
  go_loopw [5] (fun kv w' => ∃ k : Nat, k ≤ n1 ∧ kv = .int .i64 (k : Int) ∧ Hid (Below W.heap.size W w')) (fun k _ => n1 - (intOf k).toNat)
  case atStart => exact ⟨0, by omega, rfl, BW⟩
  case round =>
    clear BW
    obtain ⟨k, hk, rfl, BW⟩ := hrel
    have KS2 := hidden (KSW.out.keep BW.out)
    have x12 := KS2.out.c12
    by_cases hkn : k < n1
    · obtain ⟨g1, gE1, e1, e2, hs6⟩ := s6_of (T2 := w.heap.size) (T3 := w.heap.size + 1) (fo := 12) (so := 79) hkn KS2.out.c12 (k3_keep KTW.out BW.out KSW.out.lt3').1 (own_keepL R1.out BW.out) (own_keepL E1.out BW.out)
      subst e1
      subst e2
      have HS6 := hidden hs6
      have CL : Hid (∀ x : World, Below wr.heap.size wr x → Calls Tryd.prog 11 #[.agg #[.int .u64 (fG k).x0, .int .u64 (fG k).x1, .int .u64 (fG k).x2, .int .u64 (fG k).x3], .agg (el (lf fG k)).toArray] x fun e w' => e = .returned (.bool true) ∧ Below x.heap.size x w') := hidden (fun x hb => isLine_any (fG k) x (TW.out.keep (bl_trans BW.out hb)) (HOG.out k hkn))
      have k0 : (0 : Int) ≤ (k : Int) := by omega
      have k1 : (k : Int) < (n1 : Int) := by omega
      have w9 : IntKind.i64.wrap ((k : Int) + 1) = (k : Int) + 1 := IntWalk.i64_in _ (by have := HN1.out; omega)
      clear hs6
      go_upto_region 6 with fail
      refine sl6 _ (w.heap.size) (w.heap.size + 1) g1 c1 gE1 d1 n1 k (fG k) (lf fG k) _ _ _ _ _ _ _ _ _ _ _ _ _ _ _ _ _ _ _ _ _ _ _ _ _ _ _ _ _ _ _ _ _ _ _ _ _ _ _ _ _ _ _ _ _ _ _ _ _ _ _ _ _ _ _ _ _ _ _ _ _ _ _ _ _ _ _ _ _ _ _ _ _ _ _ _ _ _ _ _ _ _ wr hkn HS6.out CL (hidden (fun wz hbz => ?_))
      have BZ := hidden (bl_trans BW.out hbz)
      clear hbz HS6 CL x12
      go_wp2_with fail
      go_roundw
      case rel => exact ⟨k + 1, by omega, by go_num, BZ⟩
      case measure => simp [intOf]; omega
    · have lq : ¬ (k : Int) < (n1 : Int) := by omega
      go_upto_region 9 with fail
      clear lq x12 hkn hk
      go_loopw [6] (fun kv w' => ∃ k : Nat, k ≤ n2 ∧ kv = .int .i64 (k : Int) ∧ Hid (Below W.heap.size W w')) (fun k _ => n2 - (intOf k).toNat)
      case atStart => exact ⟨0, by omega, rfl, BW⟩
      case round =>
        clear BW
        obtain ⟨k, hk, rfl, BW⟩ := hrel
        have KS2 := hidden (KSW.out.keep BW.out)
        have x13 := KS2.out.c13
        by_cases hkn : k < n2
        · obtain ⟨g1, gE1, e1, e2, hs6⟩ := s6_of (T2 := w.heap.size) (T3 := w.heap.size + 1) (fo := 13) (so := 80) hkn KS2.out.c13 (k3_keep KTW.out BW.out KSW.out.lt3').2.1 (own_keepL R2.out BW.out) (own_keepL E2.out BW.out)
          subst e1
          subst e2
          have HS6 := hidden hs6
          have CL : Hid (∀ x : World, Below wr.heap.size wr x → Calls Tryd.prog 11 #[.agg #[.int .u64 (fH k).x0, .int .u64 (fH k).x1, .int .u64 (fH k).x2, .int .u64 (fH k).x3], .agg (el (lf fH k)).toArray] x fun e w' => e = .returned (.bool true) ∧ Below x.heap.size x w') := hidden (fun x hb => isLine_any (fH k) x (TW.out.keep (bl_trans BW.out hb)) (HOH.out k hkn))
          have k0 : (0 : Int) ≤ (k : Int) := by omega
          have k1 : (k : Int) < (n2 : Int) := by omega
          have w9 : IntKind.i64.wrap ((k : Int) + 1) = (k : Int) + 1 := IntWalk.i64_in _ (by have := HN2.out; omega)
          clear hs6
          go_upto_region 11 with fail
          refine sl11 _ (w.heap.size) (w.heap.size + 1) g1 c2 gE1 d2 n2 k (fH k) (lf fH k) _ _ _ _ _ _ _ _ _ _ _ _ _ _ _ _ _ _ _ _ _ _ _ _ _ _ _ _ _ _ _ _ _ _ _ _ _ _ _ _ _ _ _ _ _ _ _ _ _ _ _ _ _ _ _ _ _ _ _ _ _ _ _ _ _ _ _ _ _ _ _ _ _ _ _ _ _ _ _ _ _ _ wr hkn HS6.out CL (hidden (fun wz hbz => ?_))
          have BZ := hidden (bl_trans BW.out hbz)
          clear hbz HS6 CL x13
          go_wp2_with fail
          go_roundw
          case rel => exact ⟨k + 1, by omega, by go_num, BZ⟩
          case measure => simp [intOf]; omega
        · have lq : ¬ (k : Int) < (n2 : Int) := by omega
          go_wp2_with fail
          refine bodyPost_ret (v := .bool true) (by simp [results, Tryd.results8, go_sem]) rfl ⟨rfl, bl_trans HB0.out BW.out⟩
end Go.Proofs.YtlijigolfggcfaaDoor
