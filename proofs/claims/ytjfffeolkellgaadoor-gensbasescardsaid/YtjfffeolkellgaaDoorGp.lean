import Derived.Test.YtjfffeolkellgaaDoorGn
namespace Go.Proofs.YtjfffeolkellgaaDoor
open Go.RowKit
/-- the two sets, as the law keeps them -/
structure T8 (w : World) (A D : Nat) (a0 a1 a2 a3 a4 : Value) (q0 q1 q2 : List Value) (Gv Hv : Value) : Prop where
  c0 : w.cell? ⟨A, 0, none⟩ = some a0
  c1 : w.cell? ⟨A, 1, none⟩ = some a1
  c2 : w.cell? ⟨A, 2, none⟩ = some a2
  c3 : w.cell? ⟨A, 3, none⟩ = some a3
  c4 : w.cell? ⟨A, 4, none⟩ = some a4
  lt : D < w.heap.size
  r0 : w.rangeAt D 1 q0
  r1 : w.rangeAt D 27 q1
  r2 : w.rangeAt D 53 q2
  d3 : w.cell? ⟨D, 79, none⟩ = some Gv
  d4 : w.cell? ⟨D, 80, none⟩ = some Hv
theorem T8.keep {w w' : World} {A D : Nat} {a0 a1 a2 a3 a4 : Value} {q0 q1 q2 : List Value} {Gv Hv : Value} (h : T8 w A D a0 a1 a2 a3 a4 q0 q1 q2 Gv Hv) (hb : Below w.heap.size w w') : T8 w' A D a0 a1 a2 a3 a4 q0 q1 q2 Gv Hv :=
  ⟨cell_keep h.c0 hb, cell_keep h.c1 hb, cell_keep h.c2 hb, cell_keep h.c3 hb, cell_keep h.c4 hb, Nat.lt_of_lt_of_le h.lt hb.size, range_keepO h.r0 hb h.lt, range_keepO h.r1 hb h.lt, range_keepO h.r2 hb h.lt, cell_keep h.d3 hb, cell_keep h.d4 hb⟩
theorem range_mid {w : World} {b : Nat} {cs : List Value} (h : w.rangeAt b 0 cs) (o n : Nat) : w.rangeAt b o ((cs.drop o).take n) := fun j v hv => by
  have := h (o + j) v (by
    rw [List.getElem?_take] at hv
    split at hv
    · rwa [List.getElem?_drop] at hv
    · cases hv)
  rwa [Nat.zero_add] at this
theorem T8.of {w : World} {A D : Nat} {a0 a1 a2 a3 a4 x : Value} {q0 q1 q2 : List Value} {Gv Hv : Value} (c0 : w.cell? ⟨A, 0, none⟩ = some a0) (c1 : w.cell? ⟨A, 1, none⟩ = some a1) (c2 : w.cell? ⟨A, 2, none⟩ = some a2) (c3 : w.cell? ⟨A, 3, none⟩ = some a3) (c4 : w.cell? ⟨A, 4, none⟩ = some a4) (lt : D < w.heap.size)
    (h0 : q0.length = 26) (h1 : q1.length = 26) (h2 : q2.length = 26) (h : w.rangeAt D 0 ((x :: (q0 ++ q1 ++ q2)) ++ [Gv, Hv])) : T8 w A D a0 a1 a2 a3 a4 q0 q1 q2 Gv Hv := by
  have g : ∀ j, ((x :: (q0 ++ q1 ++ q2)) ++ [Gv, Hv])[j + 1]? = (q0 ++ (q1 ++ (q2 ++ [Gv, Hv])))[j]? := fun j => by simp
  refine ⟨c0, c1, c2, c3, c4, lt, fun j v hv => ?_, fun j v hv => ?_, fun j v hv => ?_, ?_, ?_⟩
  · have hj : j < 26 := by have := (List.getElem?_eq_some_iff.1 hv).1; omega
    have := h (j + 1) v (by rw [g, List.getElem?_append_left (by omega)]; exact hv)
    rwa [show 0 + (j + 1) = 1 + j by omega] at this
  · have hj : j < 26 := by have := (List.getElem?_eq_some_iff.1 hv).1; omega
    have := h (26 + j + 1) v (by rw [g, List.getElem?_append_right (by omega), h0, show 26 + j - 26 = j by omega, List.getElem?_append_left (by omega)]; exact hv)
    rwa [show 0 + (26 + j + 1) = 27 + j by omega] at this
  · have hj : j < 26 := by have := (List.getElem?_eq_some_iff.1 hv).1; omega
    have := h (52 + j + 1) v (by rw [g, List.getElem?_append_right (by omega), h0, List.getElem?_append_right (by omega), h1, show 52 + j - 26 - 26 = j by omega, List.getElem?_append_left (by omega)]; exact hv)
    rwa [show 0 + (52 + j + 1) = 53 + j by omega] at this
  · have := h (78 + 1) Gv (by rw [g, List.getElem?_append_right (by omega), h0, List.getElem?_append_right (by omega), h1, List.getElem?_append_right (by omega), h2]; rfl)
    exact this
  · have := h (79 + 1) Hv (by rw [g, List.getElem?_append_right (by omega), h0, List.getElem?_append_right (by omega), h1, List.getElem?_append_right (by omega), h2]; rfl)
    exact this
theorem isFree_zero (w : World) (hT : Tb w) : Calls Tryd.prog 7 #[.agg #[.slice none 0 0], .agg ze.toArray] w fun e w' => e = .returned (.bool true) ∧ Below w.heap.size w w' :=
  isFree_any none none 0 0 0 ze (fun _ => ⟨0, 0, 0, 0⟩) w hT (by omega) ⟨0, 0, fun h => absurd h (by omega), fun h => absurd h (by omega)⟩ ⟨0, 0, fun h => absurd h (by omega), fun h => absurd h (by omega)⟩ (fun k h => absurd h (by omega)) rfl
set_option maxRecDepth 100000 in
set_option maxHeartbeats 8000000 in
theorem bases_no (n : Int) (w : World) (hT : Tb w) (hn : n < 0 ∨ 64 < n) :
    Calls Tryd.prog 3 #[.int .i64 n] w fun e w' => e = .returned (.bool true) ∧ Below w.heap.size w w' := by
  have C1 := hidden (basis_no n w hn)
  have C2 := hidden (fun w => rbasis_no n w hn)
  have TBL := hidden (fun (w' : World) (hb : Below w.heap.size w w') => hT.keep hb)
  have CZ := hidden (fun w h => isFree_zero w h)
  have hzv := zv81
  have I8 := hidden sinfo81
  have IE : Hid ((Tryd.prog.info? 42).map (·.size) = some ze.length) := hidden einfoG
  have UE : Hid (Tryd.prog.underlying 42 = _) := hidden Tryd.underlying42
  have OZ := hidden zs_one
  clear hT hn
  go_enter Tryd.func3, Tryd.ntmps3
  go_upto_region 3 with (first
    | (go_at_call 5; refine (C1.out).mono ?_; rintro e w1 ⟨rfl, hb1⟩; have HB1 := hidden hb1; have G1 := hidden (Gs.five w1 27); clear hb1 C1)
    | (go_at_call 6; refine (C2.out _).mono ?_; rintro e w2 ⟨rfl, hb2⟩; have HB2 := hidden hb2; have TH2 := hidden (show (w2.alloc (.cells zs.toArray 45)).there w2.heap.size 0 zs.toArray.size from (Bx1.new w2 zs 45).t); clear hb2 C2)
    | (refine wpList_store_mid rfl 45 _ _ rfl w2.heap.size 0 zs.toArray (by rfl) (by rfl) TH2.out I8.out OZ.out ?_; rw [List.toList_toArray]; have BS := below_setCellsM (w0 := w2) w2.heap.size zs 0 (bl_alloc w2 (.cells zs.toArray 45)) (Nat.le_refl _); have MS := (Bx1.new w2 zs 45).set (ds := zs) rfl; have GW := (G1.out.keep HB2.out).keep BS; have TT : Hid (T8 ((w2.alloc (.cells zs.toArray 45)).setCells w2.heap.size 0 zs) w1.heap.size w2.heap.size (.slice none 0 0) (.slice none 0 0) (.slice none 0 0) (.slice none 0 0) (.slice none 0 0) ze ze ze (.slice none 0 0) (.slice none 0 0)) := hidden (T8.of (x := .int .i64 0) (GW.c 0 (by omega)) (GW.c 1 (by omega)) (GW.c 2 (by omega)) (GW.c 3 (by omega)) (GW.c 4 (by omega)) (by rw [size_setCellsM]; simp) rfl rfl rfl MS.r); have BB := hidden (bl_trans (bl_trans HB1.out (bl_trans (bl_alloc w1 _) HB2.out)) BS); clear BS MS GW G1 HB1 HB2 TH2; generalize (w2.alloc (.cells zs.toArray 45)).setCells w2.heap.size 0 zs = W at TT BB ⊢; generalize w2.heap.size = D at TT ⊢; generalize w1.heap.size = A at TT ⊢))
  have e0 := TT.out.c0; have e1 := TT.out.c1; have e2 := TT.out.c2; have e3 := TT.out.c3; have e4 := TT.out.c4; have e5 := TT.out.d3; have e6 := TT.out.d4
  go_wp2_with (first | refine wpList_loadG (by rfl) 42 _ rfl D 1 (by rfl) ze _ TT.out.r0 UE.out rfl IE.out ?_ | refine wpList_loadG (by rfl) 42 _ rfl D 27 (by rfl) ze _ TT.out.r1 UE.out rfl IE.out ?_ | refine wpList_loadG (by rfl) 42 _ rfl D 53 (by rfl) ze _ TT.out.r2 UE.out rfl IE.out ?_ | (go_at_call 7; refine (CZ.out _ (TBL.out _ BB.out)).mono ?_; rintro e wa ⟨rfl, ha⟩; replace TT := hidden (TT.out.keep ha); replace BB := hidden (bl_trans BB.out ha); have e0 := TT.out.c0; have e1 := TT.out.c1; have e2 := TT.out.c2; have e3 := TT.out.c3; have e4 := TT.out.c4; have e5 := TT.out.d3; have e6 := TT.out.d4; clear ha))
  go_loopw [7] (fun kv w' => kv = .int .i64 0 ∧ Hid (T8 w' A D (.slice none 0 0) (.slice none 0 0) (.slice none 0 0) (.slice none 0 0) (.slice none 0 0) ze ze ze (.slice none 0 0) (.slice none 0 0)) ∧ Hid (Below w.heap.size w w')) (fun _ _ => 0)
  case atStart => exact ⟨rfl, TT, BB⟩
  case round =>
    obtain ⟨rfl, hT, hB⟩ := hrel
    have e3 := hT.out.c3
    go_wp2_with fail
    refine bodyPost_ret (v := .bool true) (by simp [results, Tryd.results3, go_sem]) rfl ⟨rfl, hB.out⟩
end Go.Proofs.YtjfffeolkellgaaDoor
