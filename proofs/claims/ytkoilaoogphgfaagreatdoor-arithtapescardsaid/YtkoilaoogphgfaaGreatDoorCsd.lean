import Derived.Test.YtkoilaoogphgfaaGreatDoorCsc
import Derived.Test.YtkoilaoogphgfaaGreatDoorSrm
namespace Go.Proofs.YtkoilaoogphgfaaGreatDoor
open Go.RowKit
set_option linter.unusedVariables false
set_option linter.unusedSimpArgs false
open Cm (Wr Tm co bf Ls lf ins Eqm)
namespace Ci
set_option maxRecDepth 100000
set_option maxHeartbeats 4000000
theorem ins_lenD (L : Int) (t : Tm) : ∀ X : List Tm, (ins L X t).length ≤ X.length + 1
 | [] => by unfold ins; split <;> simp
 | x :: X => by
  have := ins_lenD L t X
  unfold ins
  split
  ·split <;> simp <;> omega
  ·split
   ·split <;> simp <;> omega
   ·simp; omega
theorem fold_len (L : Int) (Y : List Tm) : ∀ X : List Tm, (Y.foldl (ins L) X).length ≤ X.length + Y.length := by
 induction Y with
 | nil => intro X; simp
 | cons y Y ih =>
  intro X
  have := ih (ins L X y)
  have := ins_lenD L y X
  simp only [List.foldl_cons, List.length_cons]
  omega
theorem fold_take {Y : List Tm} {i : Nat} {x : Tm} (L : Int) (X : List Tm) (h : Y[i]? = some x) : (Y.take (i + 1)).foldl (ins L) X = ins L ((Y.take i).foldl (ins L) X) x := by
 rw [List.take_add_one, h, List.foldl_append]
 rfl
theorem Dl.keep {w w' w2 : World} {X : List Tm} {v : Value} (h : Dl w X v w') (hb : Below w'.heap.size w' w2) : Dl w X v w2 := ⟨own_keepT h.1 hb, bl_trans h.2 hb⟩
theorem Dl.under {w w1 w2 : World} {X : List Tm} {v : Value} (hb : Below w.heap.size w w1) (h : Dl w1 X v w2) : Dl w X v w2 := ⟨own_monoT h.1 hb.size, bl_trans hb h.2⟩
theorem Dl.shape {w w' : World} {X : List Tm} {v : Value} (h : Dl w X v w') : ∃ P c, v = .slice P X.length c ∧ Lt w' P X.length (ft X) := by
 obtain ⟨P, c, rfl, _, _⟩ := own_shT h.1
 exact ⟨P, c, rfl, own_lts h.1⟩
theorem dLeast_any (P : Option Addr) (c : Nat) (Y : List Tm) (w : World) (hn : Y.length ≤ 2932031007400) (hL : Lt w P Y.length (ft Y)) :
  Calls Tryz.prog 29 #[.slice P Y.length c] w fun e w' => ∃ v, e = .returned v ∧ Dl w (lf Sm.L Y) v w' := by
 have HS := hidden hn
 have HL := hidden hL
 have D0 : Hid (Dl w ((Y.take 0).foldl (ins Sm.L) []) (.slice none 0 0) w) := hidden ⟨World.ownsRow_nil _ _ _ _, Below.refl _ _⟩
 clear hn hL
 go_enter Tryz.func29, Tryz.ntmps29
 go_upto_region 3 with fail
 go_loopw [3, 4] (fun v iv w' => ∃ i : Nat, i ≤ Y.length ∧ iv = .int .i64 (i : Int) ∧ Hid (Dl w ((Y.take i).foldl (ins Sm.L) []) v w')) (fun _ i _ => Y.length - (intOf i).toNat)
 case atStart => exact ⟨0, by omega, rfl, D0⟩
 case round =>
  clear D0
  obtain ⟨i, hi, rfl, hR⟩ := hrel
  by_cases hin : i < Y.length
  ·obtain ⟨P1, c1, rfl, hl1⟩ := hR.out.shape
   have i1 : (i : Int) < (Y.length : Int) := by omega
   have i0 : (0 : Int) ≤ (i : Int) := by omega
   have w9 : IntKind.i64.wrap ((i : Int) + 1) = (i : Int) + 1 := IntWalk.i64_in _ (by have := HS.out; omega)
   obtain ⟨sb, so, hPs, hRt⟩ := HL.out
   obtain rfl := hPs (by omega)
   have rt := (hRt (by omega))
   obtain ⟨x, hx⟩ : ∃ x, Y[i]? = some x := ⟨Y[i], by simp [hin]⟩
   have fx := ft_at hx
   have hb := hR.out.2
   have a0 := cell_keep (rt.c0 i hin) hb
   have a1 := cell_keep (rt.c1 i hin) hb
   have a2 := cell_keep (rt.c2 i hin) hb
   have a3 := cell_keep (rt.c3 i hin) hb
   have a4 := cell_keep (rt.c4 i hin) hb
   have a5 := cell_keep (rt.c5 i hin) hb
   rw [fx] at a0 a1 a2 a3 a4 a5
   clear rt hRt hPs fx hb
   simp only [tmOf] at a0 a1 a2 a3 a4 a5
   obtain ⟨⟨xk, xi⟩, xm⟩ := x
   simp only at a0 a1 a2 a3 a4 a5
   have C := put_any P1 c1 _ (xk, xi) xm wr (by have := fold_len Sm.L (Y.take i) []; have := HS.out; simp at *; omega) hl1
   rw [← fold_take Sm.L [] hx] at C
   simp only at C
   obtain ⟨p, hp⟩ : ∃ p, lst xm = p := ⟨_, rfl⟩
   rw [hp] at C a2 a3 a4 a5
   replace C := hidden C
   clear hp hx hl1
   obtain ⟨F1, hF1⟩ : ∃ F1, (Y.take (i + 1)).foldl (ins Sm.L) [] = F1 := ⟨_, rfl⟩
   rw [hF1] at C
   have HF1 := hidden hF1
   clear hF1
   go_wp2_with (first | (go_at_call 45; refine C.out.mono ?_; rintro e w2 ⟨v2, rfl, h2⟩; have PN := hidden (Dl.under hR.out.2 h2); clear h2))
   clear hR C
   go_roundw
   case rel => exact ⟨i + 1, by omega, by go_num, by rw [HF1.out]; exact PN⟩
   case measure => simp [intOf]; omega
  ·obtain rfl : i = Y.length := by omega
   have lq : ¬ (Y.length : Int) < (Y.length : Int) := by omega
   have hF := hR.out
   rw [List.take_length] at hF
   have DF := hidden hF
   obtain ⟨P1, c1, rfl, _⟩ := hF.shape
   clear hF hR
   go_wp2_with fail
   exact bodyPost_ret (v := .slice P1 _ c1) (by simp [results, Tryz.results29, go_sem]) rfl ⟨_, rfl, DF.out⟩
theorem dAdd_any (P Q : Option Addr) (c d : Nat) (A Y : List Tm) (w : World) (hn : A.length + Y.length ≤ 2932031007400) (hL : Lt w P A.length (ft A)) (hL2 : Lt w Q Y.length (ft Y)) :
  Calls Tryz.prog 55 #[.slice P A.length c, .slice Q Y.length d] w fun e w' => ∃ v, e = .returned v ∧ Dl w (lf Sm.L (A ++ Y)) v w' := by
 have HS := hidden hn
 have HA : Hid ((lf Sm.L A).length ≤ A.length) := hidden (by have := fold_len Sm.L A []; simpa [lf] using this)
 have HL := hidden hL2
 have C0 := hidden (dLeast_any P c A w (by omega) hL)
 rw [← Cm.lf_app]
 clear hn hL hL2
 go_enter Tryz.func55, Tryz.ntmps55
 go_upto_region 3 with (go_at_call 29; refine C0.out.mono ?_; rintro e w1 ⟨v1, rfl, h1⟩; have D0 : Hid (Dl w ((Y.take 0).foldl (ins Sm.L) (lf Sm.L A)) v1 w1) := hidden h1; clear h1)
 clear C0
 go_loopw [5, 6] (fun v iv w' => ∃ i : Nat, i ≤ Y.length ∧ iv = .int .i64 (i : Int) ∧ Hid (Dl w ((Y.take i).foldl (ins Sm.L) (lf Sm.L A)) v w')) (fun _ i _ => Y.length - (intOf i).toNat)
 case atStart => exact ⟨0, by omega, rfl, D0⟩
 case round =>
  clear D0
  obtain ⟨i, hi, rfl, hR⟩ := hrel
  by_cases hin : i < Y.length
  ·obtain ⟨P1, c1, rfl, hl1⟩ := hR.out.shape
   have i1 : (i : Int) < (Y.length : Int) := by omega
   have i0 : (0 : Int) ≤ (i : Int) := by omega
   have w9 : IntKind.i64.wrap ((i : Int) + 1) = (i : Int) + 1 := IntWalk.i64_in _ (by have := HS.out; omega)
   obtain ⟨sb, so, hPs, hRt⟩ := HL.out
   obtain rfl := hPs (by omega)
   have rt := (hRt (by omega))
   obtain ⟨x, hx⟩ : ∃ x, Y[i]? = some x := ⟨Y[i], by simp [hin]⟩
   have fx := ft_at hx
   have hb := hR.out.2
   have a0 := cell_keep (rt.c0 i hin) hb
   have a1 := cell_keep (rt.c1 i hin) hb
   have a2 := cell_keep (rt.c2 i hin) hb
   have a3 := cell_keep (rt.c3 i hin) hb
   have a4 := cell_keep (rt.c4 i hin) hb
   have a5 := cell_keep (rt.c5 i hin) hb
   rw [fx] at a0 a1 a2 a3 a4 a5
   clear rt hRt hPs fx hb
   simp only [tmOf] at a0 a1 a2 a3 a4 a5
   obtain ⟨⟨xk, xi⟩, xm⟩ := x
   simp only at a0 a1 a2 a3 a4 a5
   have C := put_any P1 c1 _ (xk, xi) xm wr (by have := fold_len Sm.L (Y.take i) (lf Sm.L A); have := HS.out; have := HA.out; simp only [List.length_take] at *; omega) hl1
   rw [← fold_take Sm.L (lf Sm.L A) hx] at C
   simp only at C
   obtain ⟨p, hp⟩ : ∃ p, lst xm = p := ⟨_, rfl⟩
   rw [hp] at C a2 a3 a4 a5
   replace C := hidden C
   clear hp hx hl1
   obtain ⟨F1, hF1⟩ : ∃ F1, (Y.take (i + 1)).foldl (ins Sm.L) (lf Sm.L A) = F1 := ⟨_, rfl⟩
   rw [hF1] at C
   have HF1 := hidden hF1
   clear hF1
   go_wp2_with (first | (go_at_call 45; refine C.out.mono ?_; rintro e w2 ⟨v2, rfl, h2⟩; have PN := hidden (Dl.under hR.out.2 h2); clear h2))
   clear hR C
   go_roundw
   case rel => exact ⟨i + 1, by omega, by go_num, by rw [HF1.out]; exact PN⟩
   case measure => simp [intOf]; omega
  ·obtain rfl : i = Y.length := by omega
   have lq : ¬ (Y.length : Int) < (Y.length : Int) := by omega
   have hF := hR.out
   rw [List.take_length] at hF
   have DF := hidden hF
   obtain ⟨P1, c1, rfl, _⟩ := hF.shape
   clear hF hR
   go_wp2_with fail
   exact bodyPost_ret (v := .slice P1 _ c1) (by simp [results, Tryz.results55, go_sem]) rfl ⟨_, rfl, DF.out⟩
end Ci
end Go.Proofs.YtkoilaoogphgfaaGreatDoor
