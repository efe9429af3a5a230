import Derived.Test.YtclihahohhhhiaaDoorCek
namespace Go.Proofs.YtclihahohhhhiaaDoor
open Go.RowKit
set_option linter.unusedVariables false
set_option linter.unusedSimpArgs false
open Cm (Wr Tm co bf Ls lf ins Eqm)
namespace Ci
set_option maxRecDepth 100000
def TsV (w : World) (t m K : Nat) (Q : List (List Tm)) (x : World) : Prop := Ts w t m K Q x ∧ m ≤ 16
theorem Scl.keep {w w' : World} {P : Option Addr} {n : Nat} {g : Nat → Stp} (h : Scl w P n g) (hb : Below w.heap.size w w') : Scl w' P n g := by
 obtain ⟨sb, so, h1, h2⟩ := h
 exact ⟨sb, so, h1, fun hn => ⟨fun k hk => cell_keep ((h2 hn).c0 k hk) hb, fun k hk => cell_keep ((h2 hn).c1 k hk) hb, fun k hk => cell_keep ((h2 hn).c2 k hk) hb, fun k hk => ((h2 hn).la k hk).keep hb, fun k hk => ((h2 hn).lb k hk).keep hb⟩⟩
set_option maxHeartbeats 16000000 in
theorem makes_tell (i : Int) (P : Option Addr) (n c : Nat) (g : Nat → Stp) (w : World) (hT : Tb w) (i0 : -9223372036854775808 ≤ i) (i1 : i ≤ 9223372036854775807) (hn : n ≤ 1048576) (hS : Scl w P n g) :
  Calls Tryd.prog 5 #[.int .i64 i, .slice P n c] w fun e w' => ∃ t m K Q, e = .returned (.pointer (some ⟨t, 0, none⟩)) ∧ TsV w t m K Q w' := by
 have CA := hidden (around_any 17 i w (.inl rfl) i0 i1)
 have HT := hidden hT
 have HS := hidden hS
 have HN := hidden hn
 clear i0 i1 hT hS hn
 go_enter Tryd.func5, Tryd.ntmps5
 go_upto_region 2 with (first | (go_at_call 26; refine CA.out.mono ?_; rintro e w1 ⟨m, rfl, hm, hw1⟩; have hw2 := hw1.symm; clear hw1; subst hw2; have HM := hidden hm; have C1 := hidden (New_any m w HT.out (by omega)); clear hm CA) | (go_at_call 20; refine C1.out.mono ?_; rintro e w2 ⟨rfl, hn⟩; have N1 := hidden (tsNew (by have := HM.out; omega) (Below.refl _ _) hn); clear hn C1))
 generalize w.heap.size = t0 at N1 ⊢
 go_upto_region 5 with fail
 go_loopw [5, 7] (fun sv iv w' => ∃ (i t K : Nat) (Q : List (List Tm)), i ≤ n ∧ sv = .pointer (some ⟨t, 0, none⟩) ∧ iv = .int .i64 (i : Int) ∧ Hid (Ts w t m K Q w')) (fun _ i _ => n - (intOf i).toNat)
 case atStart => exact ⟨0, _, _, _, by omega, rfl, rfl, N1⟩
 case round =>
  clear N1
  obtain ⟨i, t, K, Q, hi, rfl, rfl, hTs⟩ := hrel
  by_cases hin : i < n
  ·have i1 : (i : Int) < (n : Int) := by omega
   have i0 : (0 : Int) ≤ (i : Int) := by omega
   have w9 : IntKind.i64.wrap ((i : Int) + 1) = (i : Int) + 1 := IntWalk.i64_in _ (by have := HN.out; omega)
   obtain ⟨sb, so, hPs, hSc⟩ := HS.out
   obtain rfl := hPs (by omega)
   have sc := hSc (by omega)
   have hlt : sb < w.heap.size := World.block_lt_of_cell? w _ (sc.c0 i hin)
   have a0 := cell_keep (sc.c0 i hin) hTs.out.bl
   have a1 := cell_keep (sc.c1 i hin) hTs.out.bl
   have c1 := sc.c1 i hin
   have c2 := sc.c2 i hin
   have LA := hidden (sc.la i hin)
   have LB := hidden (sc.lb i hin)
   clear sc hSc hPs
   generalize (g i).a = a at *
   generalize (g i).b = b at *
   generalize (g i).q = q at *
   go_upto_region 8 with fail
   by_cases q1 : q = 1
   ·subst q1
    have C := hidden (tsGate hTs.out)
    clear a1 c1 c2
    go_wp2_with (go_at_call 27; refine C.out.mono ?_; rintro e w3 ⟨v3, rfl, K', Q', h3⟩; have N3 := hidden h3; clear h3)
    go_roundw
    case rel => exact ⟨i + 1, _, _, _, by omega, rfl, by go_num, N3⟩
    case measure => simp [intOf]; omega
   ·by_cases q2 : q = 2
    ·subst q2
     have C := hidden (tsMultiply HT.out (hTs.out.keep (bl_drew _)) a b (LA.out.keep (bl_trans hTs.out.bl (bl_drew _))) (LB.out.keep (bl_trans hTs.out.bl (bl_drew _))))
     have RB : Hid (∀ x, (∃ K' Q', Ts w t m K' Q' x) → Below w.heap.size w x) := hidden (fun x ⟨_, _, h⟩ => h.bl)
     go_upto_region 11 with fail
     refine mk11 _ sb so n c i t a b w (fun x => ∃ K' Q', Ts w t m K' Q' x) _ _ _ _ _ _ _ _ _ _ _ _ _ _ _ _ _ _ _ _ _ _ _ _ _ _ _ _ _ _ _ _ _ _ _ _ _ _ _ _ _ _ _ _ _ _ _ _ _ _ _ _ _ _ _ _ wr i0 i1 hlt (hidden hTs.out.bl) c1 c2 C RB (hidden ?_)
     rintro wz vr ⟨K', Q', h3⟩
     have N3 := hidden h3
     clear h3 C RB a0 a1 c1 c2
     go_wp2_with fail
     go_roundw
     case rel => exact ⟨i + 1, _, _, _, by omega, rfl, by go_num, N3⟩
     case measure => simp [intOf]; omega
    ·by_cases q3 : q = 3
     ·subst q3
      have C := hidden (tsRequire HT.out hTs.out a (LA.out.keep hTs.out.bl))
      clear c1 c2
      go_wp2_with (go_at_call 21; refine C.out.mono ?_; rintro e w3 ⟨v3, rfl, K', Q', h3⟩; have N3 := hidden h3; clear h3)
      go_roundw
      case rel => exact ⟨i + 1, _, _, _, by omega, rfl, by go_num, N3⟩
      case measure => simp [intOf]; omega
     ·by_cases q4 : q = 4
      ·subst q4
       have C := hidden (tsClone hTs.out)
       clear c1 c2 a1
       go_wp2_with (go_at_call 28; refine C.out.mono ?_; rintro e w3 ⟨t', rfl, h3⟩; have N3 := hidden h3; clear h3)
       go_roundw
       case rel => exact ⟨i + 1, _, _, _, by omega, rfl, by go_num, N3⟩
       case measure => simp [intOf]; omega
      ·clear c1 c2 a1
       go_wp2_with fail
       go_roundw
       case rel => exact ⟨i + 1, _, _, _, by omega, rfl, by go_num, hTs⟩
       case measure => simp [intOf]; omega
  ·obtain rfl : i = n := by omega
   have lq : ¬ (i : Int) < (i : Int) := by omega
   go_wp2_with fail
   refine bodyPost_ret (v := .pointer (some ⟨t, 0, none⟩)) (by simp [results, Tryd.results5, go_sem]) rfl ⟨t, rfl, m, K, Q, hTs.out, by have := HM.out; omega⟩
end Ci
end Go.Proofs.YtclihahohhhhiaaDoor
