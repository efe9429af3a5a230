import Derived.Test.YtapieajkmpnmoaaGreatDoorGf
import Derived.Test.YtapieajkmpnmoaaGreatDoorSsm2
import Derived.Test.YtapieajkmpnmoaaGreatDoorSdg
import Derived.Deep.RegionHeld3
import Derived.Laws.Small
namespace Go.Proofs.YtapieajkmpnmoaaGreatDoor
open Go.RowKit
set_option linter.unusedVariables false
theorem gbI {w w' : World} (h : Below w.heap.size w w') (row : Option Nat) : w.grownBy w' row := ⟨h.os, h.tape, h.output, h.size, fun k hk _ => h.block k hk⟩
theorem below_transI {n : Nat} {w1 w2 w3 : World} (h1 : Below n w1 w2) (h2 : Below n w2 w3) : Below n w1 w3 := ⟨h2.os.trans h1.os, h2.tape.trans h1.tape, h2.output.trans h1.output, Nat.le_trans h1.size h2.size, fun k hk => (h2.block k hk).trans (h1.block k hk)⟩
theorem bl_drewO (w : World) : Below w.heap.size w w.drew := Below.drew (Below.refl _ _)
/-- an element of Free: what stands in each place -/
def Fr (w : World) (V : Value) (x : Nat → Int) : Prop := ∃ (P : Option Addr) (n c : Nat) (g : Nat → E4), V = .agg #[.slice P n c] ∧ Lm w P n g ∧ n ≤ 4398046510976 ∧ (∀ i, i < n → (g i).ok ∧ lst (g i).n = lst (x i)) ∧ (∀ i, n ≤ i → lst (x i) = zero4)
theorem Fr.keep {w w' : World} {V : Value} {x : Nat → Int} (h : Fr w V x) (hb : Below w.heap.size w w') : Fr w' V x := by
  obtain ⟨P, n, c, g, h1, h2, h3⟩ := h
  exact ⟨P, n, c, g, h1, h2.keep hb, h3⟩
theorem Fr.congr {w : World} {V : Value} {x y : Nat → Int} (h : Fr w V x) (e : ∀ i, lst (x i) = lst (y i)) : Fr w V y := by
  obtain ⟨P, n, c, g, h1, h2, h3, h4, h5⟩ := h
  exact ⟨P, n, c, g, h1, h2, h3, fun i hi => ⟨(h4 i hi).1, (h4 i hi).2.trans (e i)⟩, fun i hi => (e i).symm.trans (h5 i hi)⟩
theorem Fr.zero (w : World) : Fr w (.agg #[.slice none 0 0]) (fun _ => 0) := ⟨none, 0, 0, fun _ => zero4, rfl, ⟨0, 0, fun h => by omega, fun h => by omega⟩, by omega, fun i hi => by omega, fun i _ => zero_lst⟩
set_option maxRecDepth 100000 in
set_option maxHeartbeats 8000000 in
theorem fat_in (P : Option Addr) (n c : Nat) (g : Nat → E4) (i : Nat) (w : World) (hP : Lm w P n g) (hi : i < n) (hn : n ≤ 4398046510976) :
    Calls Tryz.prog 136 #[.agg #[.slice P n c], .int .i64 i] w fun e w' => e = .returned (g i).v ∧ Below w.heap.size w w' := by
  obtain ⟨sb, so, h1, h2⟩ := hP.keep (bl_alloc2 w (.cells #[.slice P n c] 32) (.cells #[.int .u64 0, .int .u64 0, .int .u64 0, .int .u64 0] 25))
  obtain rfl := h1 (by omega)
  have rx := h2 (by omega)
  have x0 := rx.c0 i hi; have x1 := rx.c1 i hi; have x2 := rx.c2 i hi; have x3 := rx.c3 i hi
  have B0 := hidden (bl_set4 (w := w) (b := w.heap.size + 1) (.int .u64 (g i).x0) (.int .u64 (g i).x1) (.int .u64 (g i).x2) (.int .u64 (g i).x3) (bl_alloc2 w (.cells #[.slice (some ⟨sb, so, none⟩) n c] 32) (.cells #[.int .u64 0, .int .u64 0, .int .u64 0, .int .u64 0] 25)) (by omega))
  have i0 : (0 : Int) ≤ (i : Int) := by omega
  have i1 : (i : Int) < (n : Int) := by omega
  unfold E4.v
  generalize g i = z at *
  clear rx h1 h2 hP hi hn
  go_enter Tryz.func136, Tryz.ntmps136
  go_wp2_with fail
  refine bodyPost_ret (v := .agg #[.int .u64 z.x0, .int .u64 z.x1, .int .u64 z.x2, .int .u64 z.x3]) (by simp [results, Tryz.results136, go_sem]) rfl ⟨rfl, bl_alloc2 _ _ _⟩
set_option maxRecDepth 100000 in
set_option maxHeartbeats 8000000 in
theorem fat_out (P : Option Addr) (n c : Nat) (i : Nat) (w : World) (hi : n ≤ i) (hn : i ≤ 4398046510976) :
    Calls Tryz.prog 136 #[.agg #[.slice P n c], .int .i64 i] w fun e w' => e = .returned zero4.v ∧ Below w.heap.size w w' := by
  have B0 := hidden (bl_alloc2 w (.cells #[.slice P n c] 32) (.cells #[.int .u64 0, .int .u64 0, .int .u64 0, .int .u64 0] 25))
  have i1 : ¬ (i : Int) < (n : Int) := by omega
  have z : zero4.v = .agg #[.int .u64 0, .int .u64 0, .int .u64 0, .int .u64 0] := rfl
  rw [z]
  clear z hi hn
  go_enter Tryz.func136, Tryz.ntmps136
  go_wp2_with fail
  refine bodyPost_ret (v := .agg #[.int .u64 0, .int .u64 0, .int .u64 0, .int .u64 0]) (by simp [results, Tryz.results136, go_sem]) rfl ⟨rfl, B0.out⟩
/-- what stands in a place -/
theorem fat_any (V : Value) (x : Nat → Int) (i : Nat) (w : World) (h : Fr w V x) (hi : i ≤ 4398046510976) :
    Calls Tryz.prog 136 #[V, .int .i64 i] w fun e w' => ∃ z : E4, e = .returned z.v ∧ z.ok ∧ lst z.n = lst (x i) ∧ Below w.heap.size w w' := by
  obtain ⟨P, n, c, g, rfl, h2, h3, h4, h5⟩ := h
  by_cases hin : i < n
  · refine (fat_in P n c g i w h2 hin h3).mono ?_
    rintro e w' ⟨rfl, hb⟩
    exact ⟨g i, rfl, (h4 i hin).1, (h4 i hin).2, hb⟩
  · refine (fat_out P n c i w (by omega) hi).mono ?_
    rintro e w' ⟨rfl, hb⟩
    exact ⟨zero4, rfl, z4ok, by rw [h5 i (by omega), z4n, zero_lst], hb⟩
set_option maxRecDepth 100000 in
set_option maxHeartbeats 8000000 in
theorem shorn_any (b n c : Nat) (g : Nat → E4) (w : World) (hT : Tb w) (hn : n ≤ 4398046510976) (hc : n ≤ c) (hR : Rl w b 0 n g) (hg : ∀ i, i < n → (g i).ok) :
    Calls Tryz.prog 139 #[.slice (some ⟨b, 0, none⟩) n c] w fun e w' => ∃ m : Nat, e = .returned (.slice (some ⟨b, 0, none⟩) m c) ∧ m ≤ n ∧ (∀ i, m ≤ i → i < n → lst (g i).n = zero4) ∧ Below w.heap.size w w' := by
  have HT := hidden hT
  have HR := hidden hR
  have HG := hidden hg
  have HN : Hid (n ≤ 4398046510976 ∧ n ≤ c) := hidden ⟨hn, hc⟩
  clear hT hR hg hn hc
  go_enter Tryz.func139, Tryz.ntmps139
  go_wp2_with fail
  go_loopw [3] (fun iv' w' => ∃ k : Nat, k ≤ n ∧ iv' = .int .i64 k ∧ Hid (∀ i, k ≤ i → i < n → lst (g i).n = zero4) ∧ Hid (Below w.heap.size w w')) (fun i _ => (intOf i).toNat)
  case atStart => exact ⟨n, Nat.le_refl _, rfl, hidden (fun i h1 h2 => by omega), hidden (Below.refl _ _)⟩
  case round =>
    obtain ⟨k, hk, rfl, hZ, hB⟩ := hrel
    by_cases hk0 : k = 0
    · subst hk0
      have q0 : ¬ (0 : Int) < ((0 : Nat) : Int) := by omega
      have c0 : ((0 : Nat) : Int) ≤ (c : Int) := by omega
      go_wp2_with fail
      refine bodyPost_ret (v := .slice (some ⟨b, 0, none⟩) 0 c) (by simp [results, Tryz.results139, go_sem]) rfl ⟨0, rfl, Nat.zero_le _, hZ.out, hB.out⟩
    · obtain ⟨j, rfl⟩ : ∃ j, k = j + 1 := ⟨k - 1, by omega⟩
      have p0 : (0 : Int) < ((j + 1 : Nat) : Int) := by omega
      have p1 : (0 : Int) < (j : Int) + 1 := by omega
      have wj : IntKind.i64.wrap (j : Int) = (j : Int) := IntWalk.i64_in _ (by have := HN.out; omega)
      have wk : IntKind.i64.wrap ((j : Int) + 1 - 1) = (j : Int) := by rw [show (j : Int) + 1 - 1 = (j : Int) by omega]; exact wj
      have j0 : (0 : Int) ≤ (j : Int) := by omega
      have j1 : (j : Int) < (n : Int) := by omega
      have rx := HR.out.keep hB.out
      have x0 := rx.c0 j (by omega); have x1 := rx.c1 j (by omega); have x2 := rx.c2 j (by omega); have x3 := rx.c3 j (by omega)
      have zok := HG.out j (by omega)
      simp only [Nat.zero_add] at x0 x1 x2 x3
      obtain ⟨z, hz⟩ : ∃ z, g j = z := ⟨_, rfl⟩
      rw [hz] at x0 x1 x2 x3 zok
      have HZ := hidden hz
      have IZ := hidden (fun w T => IsZero_any z w T zok)
      have T0 := hidden (HT.out.keep hB.out)
      have LJ : Hid (j < n) := hidden (by omega)
      simp only [E4.v] at IZ
      clear rx hz zok hk hk0
      by_cases h0 : z.n % Sm.L = 0
      · rw [show decide (z.n % Sm.L = 0) = true from decide_eq_true h0] at IZ
        have H0 : Hid (lst z.n = zero4) := hidden ((zero_is z.n).2 h0)
        clear h0
        go_wp2_with (first | (go_at_call 128; refine (IZ.out _ T0.out).mono ?_; rintro e w1 ⟨rfl, hb1⟩; have B1 := hidden (bl_trans hB.out hb1); clear hb1))
        go_roundw
        case rel => exact ⟨j, by have := LJ.out; omega, by go_num, hidden (fun i h1 h2 => by
          by_cases e : i = j
          · subst e; rw [HZ.out]; exact H0.out
          · exact hZ.out i (by omega) h2), B1⟩
        case measure => (simp only [intOf]; omega)
      · rw [show decide (z.n % Sm.L = 0) = false from decide_eq_false h0] at IZ
        clear h0
        have c1 : ((j + 1 : Nat) : Int) ≤ (c : Int) := by have := HN.out; have := LJ.out; omega
        have c2 : (j : Int) + 1 ≤ (c : Int) := by have := HN.out; have := LJ.out; omega
        have c3 : ((j : Int) + 1).toNat = j + 1 := by omega
        have c4 : (0 : Int) ≤ (j : Int) + 1 := by omega
        go_wp2_with (first | (go_at_call 128; refine (IZ.out _ T0.out).mono ?_; rintro e w1 ⟨rfl, hb1⟩; have B1 := hidden (bl_trans hB.out hb1); clear hb1))
        refine bodyPost_ret (v := .slice (some ⟨b, 0, none⟩) (j + 1) c) (by simp [results, Tryz.results139, go_sem]) rfl ⟨j + 1, rfl, by have := LJ.out; omega, hZ.out, B1.out⟩
end Go.Proofs.YtapieajkmpnmoaaGreatDoor
namespace Go.Proofs.YtapieajkmpnmoaaGreatDoor
open Go.RowKit
set_option linter.unusedVariables false
/-- an answer that is an element of Free, in new memory -/
def Fq (w w' : World) (e : Ending) (x : Nat → Int) : Prop := ∃ A m c : Nat, e = .returned (.agg #[.slice (some ⟨A, 0, none⟩) m c]) ∧ w.heap.size ≤ A ∧ Fr w' (.agg #[.slice (some ⟨A, 0, none⟩) m c]) x ∧ Below w.heap.size w w'
theorem setS_far0 (w : World) (b o : Nat) (x : E4) (a : Addr) (h : a.block ≠ b) : (setS w b o x).cell? a = w.cell? a := by
  unfold setS
  rw [World.cell?_setCell_far _ _ _ _ (fun e => h e.symm), World.cell?_setCell_far _ _ _ _ (fun e => h e.symm), World.cell?_setCell_far _ _ _ _ (fun e => h e.symm), World.cell?_setCell_far _ _ _ _ (fun e => h e.symm)]
set_option maxRecDepth 100000 in
set_option maxHeartbeats 8000000 in
theorem spread_Add (m : Nat) (h : Nat → Int) (A B : Nat) (w : World) (hT : Tb w) (hm : m ≤ 4398046510976) (hC : ∀ i, i < m → ∀ x, Below w.heap.size w x → Calls Tryz.prog 135 #[.int .i64 (i : Int), .pointer (some ⟨A, 0, none⟩), .pointer (some ⟨B, 0, none⟩)] x fun e w' => e = .returned (lst (h i)).v ∧ Below x.heap.size x w') :
    Calls Tryz.prog 134 #[.int .i64 (m : Int), .func (.func 135) #[] #[.pointer (some ⟨A, 0, none⟩), .pointer (some ⟨B, 0, none⟩)]] w fun e w' => Fq w w' e (fun i => if i < m then h i else 0) := by
  have nn0 : (0 : Int) ≤ (m : Int) := by omega
  obtain ⟨i0, hi, hz0, hz1, hz2⟩ := info_parts sinfoG
  have hmk := fun w => run_make (P := Tryz.prog) w 22 25 i0 (.agg #[.int .u64 0, .int .u64 0, .int .u64 0, .int .u64 0]) (by kernel_rfl) hi hz0 .i64 .i64 (m : Int) (m : Int) (by omega) (Int.le_refl _) (by rw [hz2]; omega) (by omega)
  have tn : ((m : Int)).toNat = m := by omega
  simp only [tn, hz1, Value.cells] at hmk
  clear tn
  have R0 := hidden (Rm.made (w.alloc (.cells #[.slice none 0 0] 32)) m 25)
  have B0 := hidden (bl_alloc2 w (.cells #[.slice none 0 0] 32) (.cells (madeCells #[.int .u64 0, .int .u64 0, .int .u64 0, .int .u64 0] (m * 4)) 25))
  have K0 : Hid (((w.alloc (.cells #[.slice none 0 0] 32)).alloc (.cells (madeCells #[.int .u64 0, .int .u64 0, .int .u64 0, .int .u64 0] (m * 4)) 25)).cell? ⟨w.heap.size, 0, none⟩ = some (.slice none 0 0)) := hidden (cell_keep (by rw [cell_of_row _ _ _ _ _ (0, 0) (heap_alloc_new w _)]; rfl) (bl_alloc _ _))
  have KF : Hid (((w.alloc (.cells #[.slice none 0 0] 32)).alloc (.cells (madeCells #[.int .u64 0, .int .u64 0, .int .u64 0, .int .u64 0] (m * 4)) 25)).frozen? ⟨w.heap.size, 0, none⟩ = false) := hidden (by go_simp)
  simp only [World.size_alloc] at R0
  have HM := hidden hm
  have HC := hidden hC
  have HT := hidden hT
  clear hi hz0 hz1 hz2 hm hC hT
  go_enter Tryz.func134, Tryz.ntmps134
  go_upto_region 2 with fail
  generalize ((w.alloc (.cells #[.slice none 0 0] 32)).alloc (.cells (madeCells #[.int .u64 0, .int .u64 0, .int .u64 0, .int .u64 0] (m * 4)) 25)) = w1 at *
  clear hmk
  go_wp2_with fail
  go_loopw [11] (fun iv w' => ∃ i : Nat, i ≤ m ∧ iv = .int .i64 i ∧ Hid (Rm w' (w.heap.size + 1) m (fun j => if j < i then lst (h j) else ⟨0, 0, 0, 0⟩)) ∧ Hid (Below w.heap.size w w') ∧ Hid (w'.cell? ⟨w.heap.size, 0, none⟩ = some (.slice none 0 0)) ∧ Hid (w'.frozen? ⟨w.heap.size, 0, none⟩ = false)) (fun i _ => m - (intOf i).toNat)
  case atStart => exact ⟨0, by omega, rfl, hidden R0.out, B0, K0, KF⟩
  case round =>
    clear R0 B0 K0 KF
    obtain ⟨i, hi, rfl, R0, B0, K0, KF⟩ := hrel
    by_cases hin : i < m
    · have ii0 : (0 : Int) ≤ (i : Int) := by omega
      have ii1 : (i : Int) < (m : Int) := by omega
      have w9 : IntKind.i64.wrap ((i : Int) + 1) = (i : Int) + 1 := IntWalk.i64_in _ (by have := HM.out; omega)
      have CC := hidden (HC.out i hin wr B0.out)
      obtain ⟨z, hz⟩ : ∃ z, lst (h i) = z := ⟨_, rfl⟩
      have HZ := hidden hz
      rw [hz] at CC
      have HIN := hidden hin
      simp only [E4.v] at CC
      clear hz hin
      go_wp2_with (first | (go_at_call 135; refine CC.out.mono ?_; rintro e wa ⟨rfl, ha⟩; have RM := R0.out.keep ha; have b0 := RM.r.c0 i HIN.out; have b1 := RM.r.c1 i HIN.out; have b2 := RM.r.c2 i HIN.out; have b3 := RM.r.c3 i HIN.out; have f0 := RM.fr (i * 4) (by have := HIN.out; omega); have f1 := RM.fr (i * 4 + 1) (by have := HIN.out; omega); have f2 := RM.fr (i * 4 + 2) (by have := HIN.out; omega); have f3 := RM.fr (i * 4 + 3) (by have := HIN.out; omega); rw [Nat.zero_add] at b0 b1 b2 b3; have RN := hidden (RM.set i HIN.out z); have BN := hidden (setS_bel (o := i * 4) (x := z) (bl_trans B0.out ha) (show w.heap.size ≤ w.heap.size + 1 by omega)); have KN : Hid ((setS wa (w.heap.size + 1) (i * 4) z).cell? ⟨w.heap.size, 0, none⟩ = some (.slice none 0 0)) := hidden ((setS_far0 wa (w.heap.size + 1) (i * 4) z ⟨w.heap.size, 0, none⟩ (by simp)).trans (cell_keep K0.out ha)); have KG : Hid ((setS wa (w.heap.size + 1) (i * 4) z).frozen? ⟨w.heap.size, 0, none⟩ = false) := hidden (by rw [setS_frozen]; exact ((bcell ha).2 w.heap.size 0 (World.block_lt_of_cell? wr _ K0.out)).trans KF.out); clear ha RM CC R0 B0 K0 KF; unfold setS at RN BN KN KG; generalize (if i < i then lst (h i) else (⟨0, 0, 0, 0⟩ : E4)) = zz at *))
      go_roundw
      case rel => exact ⟨i + 1, by have := HIN.out; omega, by go_num, hidden (by
        have e : (fun j => if j = i then z else if j < i then lst (h j) else (⟨0, 0, 0, 0⟩ : E4)) = (fun j => if j < i + 1 then lst (h j) else ⟨0, 0, 0, 0⟩) := by
          funext j
          by_cases e1 : j = i
          · subst e1; rw [if_pos rfl, if_pos (by omega)]; exact HZ.out.symm
          · rw [if_neg e1]
            by_cases e2 : j < i
            · rw [if_pos e2, if_pos (by omega)]
            · rw [if_neg e2, if_neg (by omega)]
        rw [← e]; exact RN.out), BN, KN, KG⟩
      case measure => have := HIN.out; simp [intOf]; omega
    · have hin : m = i := by omega
      subst hin
      have lq : ¬ (m : Int) < (m : Int) := by omega
      have SH := hidden (shorn_any (w.heap.size + 1) m m _ wr (HT.out.keep B0.out) HM.out (Nat.le_refl _) R0.out.r (fun i hi => by
        show (if i < m then lst (h i) else (⟨0, 0, 0, 0⟩ : E4)).ok
        rw [if_pos hi]; exact lst_ok _))
      go_wp2_with (first | (go_at_call 139; refine SH.out.mono ?_; rintro e wa ⟨mm, rfl, hmm, hz, ha⟩; have RL := hidden (R0.out.r.keep ha); have BA := hidden (bl_trans B0.out ha); have k0 := cell_keep K0.out ha; have kf := ((bcell ha).2 w.heap.size 0 (World.block_lt_of_cell? wr _ K0.out)).trans KF.out; have HZ := hidden hz; have HMM := hidden hmm; clear hz hmm ha SH))
      refine bodyPost_ret (v := .agg #[.slice (some ⟨w.heap.size + 1, 0, none⟩) mm m]) (by simp [results, Tryz.results134, go_sem, k0]) rfl ⟨w.heap.size + 1, mm, m, rfl, by omega, ⟨some ⟨w.heap.size + 1, 0, none⟩, mm, m, _, rfl, ⟨w.heap.size + 1, 0, fun _ => rfl, fun _ => (RL.out.far _ (by simp)).less HMM.out⟩, by have := HM.out; have := HMM.out; omega, fun i hi => ?_, fun i hi => ?_⟩, BA.out.setCell (Nat.le_refl _) _⟩
      · have h1 : i < m := Nat.lt_of_lt_of_le hi HMM.out
        show (if i < m then lst (h i) else (⟨0, 0, 0, 0⟩ : E4)).ok ∧ lst (if i < m then lst (h i) else (⟨0, 0, 0, 0⟩ : E4)).n = lst (if i < m then h i else 0)
        rw [if_pos h1, if_pos h1]
        exact ⟨lst_ok _, lst_n' _⟩
      · show lst (if i < m then h i else 0) = zero4
        by_cases h1 : i < m
        · have := HZ.out i hi h1
          simp only [if_pos h1] at this
          rw [if_pos h1, ← this, lst_n']
        · rw [if_neg h1]; exact zero_lst
set_option maxRecDepth 100000 in
set_option maxHeartbeats 8000000 in
theorem spread_Neg (m : Nat) (h : Nat → Int) (A : Nat) (w : World) (hT : Tb w) (hm : m ≤ 4398046510976) (hC : ∀ i, i < m → ∀ x, Below w.heap.size w x → Calls Tryz.prog 137 #[.int .i64 (i : Int), .pointer (some ⟨A, 0, none⟩)] x fun e w' => e = .returned (lst (h i)).v ∧ Below x.heap.size x w') :
    Calls Tryz.prog 134 #[.int .i64 (m : Int), .func (.func 137) #[] #[.pointer (some ⟨A, 0, none⟩)]] w fun e w' => Fq w w' e (fun i => if i < m then h i else 0) := by
  have nn0 : (0 : Int) ≤ (m : Int) := by omega
  obtain ⟨i0, hi, hz0, hz1, hz2⟩ := info_parts sinfoG
  have hmk := fun w => run_make (P := Tryz.prog) w 22 25 i0 (.agg #[.int .u64 0, .int .u64 0, .int .u64 0, .int .u64 0]) (by kernel_rfl) hi hz0 .i64 .i64 (m : Int) (m : Int) (by omega) (Int.le_refl _) (by rw [hz2]; omega) (by omega)
  have tn : ((m : Int)).toNat = m := by omega
  simp only [tn, hz1, Value.cells] at hmk
  clear tn
  have R0 := hidden (Rm.made (w.alloc (.cells #[.slice none 0 0] 32)) m 25)
  have B0 := hidden (bl_alloc2 w (.cells #[.slice none 0 0] 32) (.cells (madeCells #[.int .u64 0, .int .u64 0, .int .u64 0, .int .u64 0] (m * 4)) 25))
  have K0 : Hid (((w.alloc (.cells #[.slice none 0 0] 32)).alloc (.cells (madeCells #[.int .u64 0, .int .u64 0, .int .u64 0, .int .u64 0] (m * 4)) 25)).cell? ⟨w.heap.size, 0, none⟩ = some (.slice none 0 0)) := hidden (cell_keep (by rw [cell_of_row _ _ _ _ _ (0, 0) (heap_alloc_new w _)]; rfl) (bl_alloc _ _))
  have KF : Hid (((w.alloc (.cells #[.slice none 0 0] 32)).alloc (.cells (madeCells #[.int .u64 0, .int .u64 0, .int .u64 0, .int .u64 0] (m * 4)) 25)).frozen? ⟨w.heap.size, 0, none⟩ = false) := hidden (by go_simp)
  simp only [World.size_alloc] at R0
  have HM := hidden hm
  have HC := hidden hC
  have HT := hidden hT
  clear hi hz0 hz1 hz2 hm hC hT
  go_enter Tryz.func134, Tryz.ntmps134
  go_upto_region 2 with fail
  generalize ((w.alloc (.cells #[.slice none 0 0] 32)).alloc (.cells (madeCells #[.int .u64 0, .int .u64 0, .int .u64 0, .int .u64 0] (m * 4)) 25)) = w1 at *
  clear hmk
  go_wp2_with fail
  go_loopw [11] (fun iv w' => ∃ i : Nat, i ≤ m ∧ iv = .int .i64 i ∧ Hid (Rm w' (w.heap.size + 1) m (fun j => if j < i then lst (h j) else ⟨0, 0, 0, 0⟩)) ∧ Hid (Below w.heap.size w w') ∧ Hid (w'.cell? ⟨w.heap.size, 0, none⟩ = some (.slice none 0 0)) ∧ Hid (w'.frozen? ⟨w.heap.size, 0, none⟩ = false)) (fun i _ => m - (intOf i).toNat)
  case atStart => exact ⟨0, by omega, rfl, hidden R0.out, B0, K0, KF⟩
  case round =>
    clear R0 B0 K0 KF
    obtain ⟨i, hi, rfl, R0, B0, K0, KF⟩ := hrel
    by_cases hin : i < m
    · have ii0 : (0 : Int) ≤ (i : Int) := by omega
      have ii1 : (i : Int) < (m : Int) := by omega
      have w9 : IntKind.i64.wrap ((i : Int) + 1) = (i : Int) + 1 := IntWalk.i64_in _ (by have := HM.out; omega)
      have CC := hidden (HC.out i hin wr B0.out)
      obtain ⟨z, hz⟩ : ∃ z, lst (h i) = z := ⟨_, rfl⟩
      have HZ := hidden hz
      rw [hz] at CC
      have HIN := hidden hin
      simp only [E4.v] at CC
      clear hz hin
      go_wp2_with (first | (go_at_call 137; refine CC.out.mono ?_; rintro e wa ⟨rfl, ha⟩; have RM := R0.out.keep ha; have b0 := RM.r.c0 i HIN.out; have b1 := RM.r.c1 i HIN.out; have b2 := RM.r.c2 i HIN.out; have b3 := RM.r.c3 i HIN.out; have f0 := RM.fr (i * 4) (by have := HIN.out; omega); have f1 := RM.fr (i * 4 + 1) (by have := HIN.out; omega); have f2 := RM.fr (i * 4 + 2) (by have := HIN.out; omega); have f3 := RM.fr (i * 4 + 3) (by have := HIN.out; omega); rw [Nat.zero_add] at b0 b1 b2 b3; have RN := hidden (RM.set i HIN.out z); have BN := hidden (setS_bel (o := i * 4) (x := z) (bl_trans B0.out ha) (show w.heap.size ≤ w.heap.size + 1 by omega)); have KN : Hid ((setS wa (w.heap.size + 1) (i * 4) z).cell? ⟨w.heap.size, 0, none⟩ = some (.slice none 0 0)) := hidden ((setS_far0 wa (w.heap.size + 1) (i * 4) z ⟨w.heap.size, 0, none⟩ (by simp)).trans (cell_keep K0.out ha)); have KG : Hid ((setS wa (w.heap.size + 1) (i * 4) z).frozen? ⟨w.heap.size, 0, none⟩ = false) := hidden (by rw [setS_frozen]; exact ((bcell ha).2 w.heap.size 0 (World.block_lt_of_cell? wr _ K0.out)).trans KF.out); clear ha RM CC R0 B0 K0 KF; unfold setS at RN BN KN KG; generalize (if i < i then lst (h i) else (⟨0, 0, 0, 0⟩ : E4)) = zz at *))
      go_roundw
      case rel => exact ⟨i + 1, by have := HIN.out; omega, by go_num, hidden (by
        have e : (fun j => if j = i then z else if j < i then lst (h j) else (⟨0, 0, 0, 0⟩ : E4)) = (fun j => if j < i + 1 then lst (h j) else ⟨0, 0, 0, 0⟩) := by
          funext j
          by_cases e1 : j = i
          · subst e1; rw [if_pos rfl, if_pos (by omega)]; exact HZ.out.symm
          · rw [if_neg e1]
            by_cases e2 : j < i
            · rw [if_pos e2, if_pos (by omega)]
            · rw [if_neg e2, if_neg (by omega)]
        rw [← e]; exact RN.out), BN, KN, KG⟩
      case measure => have := HIN.out; simp [intOf]; omega
    · have hin : m = i := by omega
      subst hin
      have lq : ¬ (m : Int) < (m : Int) := by omega
      have SH := hidden (shorn_any (w.heap.size + 1) m m _ wr (HT.out.keep B0.out) HM.out (Nat.le_refl _) R0.out.r (fun i hi => by
        show (if i < m then lst (h i) else (⟨0, 0, 0, 0⟩ : E4)).ok
        rw [if_pos hi]; exact lst_ok _))
      go_wp2_with (first | (go_at_call 139; refine SH.out.mono ?_; rintro e wa ⟨mm, rfl, hmm, hz, ha⟩; have RL := hidden (R0.out.r.keep ha); have BA := hidden (bl_trans B0.out ha); have k0 := cell_keep K0.out ha; have kf := ((bcell ha).2 w.heap.size 0 (World.block_lt_of_cell? wr _ K0.out)).trans KF.out; have HZ := hidden hz; have HMM := hidden hmm; clear hz hmm ha SH))
      refine bodyPost_ret (v := .agg #[.slice (some ⟨w.heap.size + 1, 0, none⟩) mm m]) (by simp [results, Tryz.results134, go_sem, k0]) rfl ⟨w.heap.size + 1, mm, m, rfl, by omega, ⟨some ⟨w.heap.size + 1, 0, none⟩, mm, m, _, rfl, ⟨w.heap.size + 1, 0, fun _ => rfl, fun _ => (RL.out.far _ (by simp)).less HMM.out⟩, by have := HM.out; have := HMM.out; omega, fun i hi => ?_, fun i hi => ?_⟩, BA.out.setCell (Nat.le_refl _) _⟩
      · have h1 : i < m := Nat.lt_of_lt_of_le hi HMM.out
        show (if i < m then lst (h i) else (⟨0, 0, 0, 0⟩ : E4)).ok ∧ lst (if i < m then lst (h i) else (⟨0, 0, 0, 0⟩ : E4)).n = lst (if i < m then h i else 0)
        rw [if_pos h1, if_pos h1]
        exact ⟨lst_ok _, lst_n' _⟩
      · show lst (if i < m then h i else 0) = zero4
        by_cases h1 : i < m
        · have := HZ.out i hi h1
          simp only [if_pos h1] at this
          rw [if_pos h1, ← this, lst_n']
        · rw [if_neg h1]; exact zero_lst
set_option maxRecDepth 100000 in
set_option maxHeartbeats 8000000 in
theorem spread_Times (m : Nat) (h : Nat → Int) (A B : Nat) (w : World) (hT : Tb w) (hm : m ≤ 4398046510976) (hC : ∀ i, i < m → ∀ x, Below w.heap.size w x → Calls Tryz.prog 138 #[.int .i64 (i : Int), .pointer (some ⟨A, 0, none⟩), .pointer (some ⟨B, 0, none⟩)] x fun e w' => e = .returned (lst (h i)).v ∧ Below x.heap.size x w') :
    Calls Tryz.prog 134 #[.int .i64 (m : Int), .func (.func 138) #[] #[.pointer (some ⟨A, 0, none⟩), .pointer (some ⟨B, 0, none⟩)]] w fun e w' => Fq w w' e (fun i => if i < m then h i else 0) := by
  have nn0 : (0 : Int) ≤ (m : Int) := by omega
  obtain ⟨i0, hi, hz0, hz1, hz2⟩ := info_parts sinfoG
  have hmk := fun w => run_make (P := Tryz.prog) w 22 25 i0 (.agg #[.int .u64 0, .int .u64 0, .int .u64 0, .int .u64 0]) (by kernel_rfl) hi hz0 .i64 .i64 (m : Int) (m : Int) (by omega) (Int.le_refl _) (by rw [hz2]; omega) (by omega)
  have tn : ((m : Int)).toNat = m := by omega
  simp only [tn, hz1, Value.cells] at hmk
  clear tn
  have R0 := hidden (Rm.made (w.alloc (.cells #[.slice none 0 0] 32)) m 25)
  have B0 := hidden (bl_alloc2 w (.cells #[.slice none 0 0] 32) (.cells (madeCells #[.int .u64 0, .int .u64 0, .int .u64 0, .int .u64 0] (m * 4)) 25))
  have K0 : Hid (((w.alloc (.cells #[.slice none 0 0] 32)).alloc (.cells (madeCells #[.int .u64 0, .int .u64 0, .int .u64 0, .int .u64 0] (m * 4)) 25)).cell? ⟨w.heap.size, 0, none⟩ = some (.slice none 0 0)) := hidden (cell_keep (by rw [cell_of_row _ _ _ _ _ (0, 0) (heap_alloc_new w _)]; rfl) (bl_alloc _ _))
  have KF : Hid (((w.alloc (.cells #[.slice none 0 0] 32)).alloc (.cells (madeCells #[.int .u64 0, .int .u64 0, .int .u64 0, .int .u64 0] (m * 4)) 25)).frozen? ⟨w.heap.size, 0, none⟩ = false) := hidden (by go_simp)
  simp only [World.size_alloc] at R0
  have HM := hidden hm
  have HC := hidden hC
  have HT := hidden hT
  clear hi hz0 hz1 hz2 hm hC hT
  go_enter Tryz.func134, Tryz.ntmps134
  go_upto_region 2 with fail
  generalize ((w.alloc (.cells #[.slice none 0 0] 32)).alloc (.cells (madeCells #[.int .u64 0, .int .u64 0, .int .u64 0, .int .u64 0] (m * 4)) 25)) = w1 at *
  clear hmk
  go_wp2_with fail
  go_loopw [11] (fun iv w' => ∃ i : Nat, i ≤ m ∧ iv = .int .i64 i ∧ Hid (Rm w' (w.heap.size + 1) m (fun j => if j < i then lst (h j) else ⟨0, 0, 0, 0⟩)) ∧ Hid (Below w.heap.size w w') ∧ Hid (w'.cell? ⟨w.heap.size, 0, none⟩ = some (.slice none 0 0)) ∧ Hid (w'.frozen? ⟨w.heap.size, 0, none⟩ = false)) (fun i _ => m - (intOf i).toNat)
  case atStart => exact ⟨0, by omega, rfl, hidden R0.out, B0, K0, KF⟩
  case round =>
    clear R0 B0 K0 KF
    obtain ⟨i, hi, rfl, R0, B0, K0, KF⟩ := hrel
    by_cases hin : i < m
    · have ii0 : (0 : Int) ≤ (i : Int) := by omega
      have ii1 : (i : Int) < (m : Int) := by omega
      have w9 : IntKind.i64.wrap ((i : Int) + 1) = (i : Int) + 1 := IntWalk.i64_in _ (by have := HM.out; omega)
      have CC := hidden (HC.out i hin wr B0.out)
      obtain ⟨z, hz⟩ : ∃ z, lst (h i) = z := ⟨_, rfl⟩
      have HZ := hidden hz
      rw [hz] at CC
      have HIN := hidden hin
      simp only [E4.v] at CC
      clear hz hin
      go_wp2_with (first | (go_at_call 138; refine CC.out.mono ?_; rintro e wa ⟨rfl, ha⟩; have RM := R0.out.keep ha; have b0 := RM.r.c0 i HIN.out; have b1 := RM.r.c1 i HIN.out; have b2 := RM.r.c2 i HIN.out; have b3 := RM.r.c3 i HIN.out; have f0 := RM.fr (i * 4) (by have := HIN.out; omega); have f1 := RM.fr (i * 4 + 1) (by have := HIN.out; omega); have f2 := RM.fr (i * 4 + 2) (by have := HIN.out; omega); have f3 := RM.fr (i * 4 + 3) (by have := HIN.out; omega); rw [Nat.zero_add] at b0 b1 b2 b3; have RN := hidden (RM.set i HIN.out z); have BN := hidden (setS_bel (o := i * 4) (x := z) (bl_trans B0.out ha) (show w.heap.size ≤ w.heap.size + 1 by omega)); have KN : Hid ((setS wa (w.heap.size + 1) (i * 4) z).cell? ⟨w.heap.size, 0, none⟩ = some (.slice none 0 0)) := hidden ((setS_far0 wa (w.heap.size + 1) (i * 4) z ⟨w.heap.size, 0, none⟩ (by simp)).trans (cell_keep K0.out ha)); have KG : Hid ((setS wa (w.heap.size + 1) (i * 4) z).frozen? ⟨w.heap.size, 0, none⟩ = false) := hidden (by rw [setS_frozen]; exact ((bcell ha).2 w.heap.size 0 (World.block_lt_of_cell? wr _ K0.out)).trans KF.out); clear ha RM CC R0 B0 K0 KF; unfold setS at RN BN KN KG; generalize (if i < i then lst (h i) else (⟨0, 0, 0, 0⟩ : E4)) = zz at *))
      go_roundw
      case rel => exact ⟨i + 1, by have := HIN.out; omega, by go_num, hidden (by
        have e : (fun j => if j = i then z else if j < i then lst (h j) else (⟨0, 0, 0, 0⟩ : E4)) = (fun j => if j < i + 1 then lst (h j) else ⟨0, 0, 0, 0⟩) := by
          funext j
          by_cases e1 : j = i
          · subst e1; rw [if_pos rfl, if_pos (by omega)]; exact HZ.out.symm
          · rw [if_neg e1]
            by_cases e2 : j < i
            · rw [if_pos e2, if_pos (by omega)]
            · rw [if_neg e2, if_neg (by omega)]
        rw [← e]; exact RN.out), BN, KN, KG⟩
      case measure => have := HIN.out; simp [intOf]; omega
    · have hin : m = i := by omega
      subst hin
      have lq : ¬ (m : Int) < (m : Int) := by omega
      have SH := hidden (shorn_any (w.heap.size + 1) m m _ wr (HT.out.keep B0.out) HM.out (Nat.le_refl _) R0.out.r (fun i hi => by
        show (if i < m then lst (h i) else (⟨0, 0, 0, 0⟩ : E4)).ok
        rw [if_pos hi]; exact lst_ok _))
      go_wp2_with (first | (go_at_call 139; refine SH.out.mono ?_; rintro e wa ⟨mm, rfl, hmm, hz, ha⟩; have RL := hidden (R0.out.r.keep ha); have BA := hidden (bl_trans B0.out ha); have k0 := cell_keep K0.out ha; have kf := ((bcell ha).2 w.heap.size 0 (World.block_lt_of_cell? wr _ K0.out)).trans KF.out; have HZ := hidden hz; have HMM := hidden hmm; clear hz hmm ha SH))
      refine bodyPost_ret (v := .agg #[.slice (some ⟨w.heap.size + 1, 0, none⟩) mm m]) (by simp [results, Tryz.results134, go_sem, k0]) rfl ⟨w.heap.size + 1, mm, m, rfl, by omega, ⟨some ⟨w.heap.size + 1, 0, none⟩, mm, m, _, rfl, ⟨w.heap.size + 1, 0, fun _ => rfl, fun _ => (RL.out.far _ (by simp)).less HMM.out⟩, by have := HM.out; have := HMM.out; omega, fun i hi => ?_, fun i hi => ?_⟩, BA.out.setCell (Nat.le_refl _) _⟩
      · have h1 : i < m := Nat.lt_of_lt_of_le hi HMM.out
        show (if i < m then lst (h i) else (⟨0, 0, 0, 0⟩ : E4)).ok ∧ lst (if i < m then lst (h i) else (⟨0, 0, 0, 0⟩ : E4)).n = lst (if i < m then h i else 0)
        rw [if_pos h1, if_pos h1]
        exact ⟨lst_ok _, lst_n' _⟩
      · show lst (if i < m then h i else 0) = zero4
        by_cases h1 : i < m
        · have := HZ.out i hi h1
          simp only [if_pos h1] at this
          rw [if_pos h1, ← this, lst_n']
        · rw [if_neg h1]; exact zero_lst
end Go.Proofs.YtapieajkmpnmoaaGreatDoor
namespace Go.Proofs.YtapieajkmpnmoaaGreatDoor
open Go.RowKit
set_option linter.unusedVariables false
theorem bl_drew (w : World) : Below w.heap.size w w.drew := Below.drew (Below.refl _ _)
set_option linter.unusedVariables false
theorem gb_setCells (b : Nat) : ∀ (vs : List Value) (o : Nat) (w : World), w.grownBy (w.setCells b o vs) (some b)
  | [], _, w => World.grownBy.refl _ _
  | v :: vs, o, w => by
    rw [World.setCells]
    have h1 : w.grownBy (w.setCell ⟨b, o, none⟩ v) (some b) := ⟨rfl, rfl, rfl, by simp, fun k _ hk => heap_setCell_other w ⟨b, o, none⟩ k v (fun e => hk (by simp [e]))⟩
    exact h1.trans (gb_setCells b vs (o + 1) _)
theorem wp_allocX {T : TypeId} (zs : List Value) (hz : ∀ w, (zeroValue T).run Tryz.prog w = .ok (.agg zs.toArray) w) {o : Oper} {a : Act} {w : World} {K : Act → World → Prop} {Q : Exit → Act → World → Prop} (ho : o.op = .alloc T) (h : ∀ (A : Nat) (wq : World), A = w.heap.size → Below w.heap.size w wq → wq.there A 0 zs.length → wq.rangeAt A 0 zs → K (a.put o.dst (.pointer (some ⟨A, 0, none⟩))) wq) : o.wp Tryz.prog a w K Q := by
  have hk := h w.heap.size (w.alloc (.cells zs.toArray T)) rfl (bl_alloc _ _) (there_newM w zs T) (range_newM w zs T)
  have hz' := hz w
  clear h hz
  generalize zs = z at hz' hk
  unfold Oper.wp execOp
  simp [ho, Instr.alloc, hz']
  exact hk
def z4 : List Value := [.int .u64 0, .int .u64 0, .int .u64 0, .int .u64 0]
theorem zv_s (w : World) : (zeroValue 25).run Tryz.prog w = .ok (.agg z4.toArray) w := by kernel_rfl
theorem i4_s : (Tryz.prog.info? 25).map (·.size) = some 4 := by kernel_rfl
theorem one4 (p : E4) : ([.int .u64 p.x0, .int .u64 p.x1, .int .u64 p.x2, .int .u64 p.x3] : List Value).toArray.all (·.oneCell') = true := by simp [Value.oneCell']
theorem Tb.keep0 {w w' : World} {b : Nat} (h : Tb w) (hg : w.grownBy w' (some b)) (hb : 0 ≠ b) : Tb w' := by
  have k : ∀ {j : Nat} {v : Value}, w.cell? ⟨0, j, none⟩ = some v → w'.cell? ⟨0, j, none⟩ = some v := fun hc => hg.cell hc (fun e => hb (Option.some.inj e))
  obtain ⟨h0, h1, h2, h3, h4, h5, h6, h7, h8, h9, h10, h11⟩ := h
  exact ⟨k h0, k h1, k h2, k h3, k h4, k h5, k h6, k h7, k h8, k h9, k h10, k h11⟩
def fa1o : Array Oper := #[{ dst := some 5, op := Op.load 32 (Operand.tmp 1), type := 32, pos := "free.go:16", after := #[], guard := none },
  { dst := some 6, op := Op.move (Operand.tmp 0), type := 3, pos := "free.go:16", after := #[], guard := none },
  { dst := some 7, op := Op.call { callee := Callee.value (Operand.func 136), args := #[Operand.tmp 5, Operand.tmp 6], argTypes := #[32, 3] }, type := 25, pos := "free.go:16", after := #[{ on := 0, ground := Ground.data }, { on := 1, ground := Ground.data }], guard := none },
  { dst := some 8, op := Op.load 32 (Operand.tmp 2), type := 32, pos := "free.go:16", after := #[], guard := none },
  { dst := some 9, op := Op.move (Operand.tmp 0), type := 3, pos := "free.go:16", after := #[], guard := none },
  { dst := some 10, op := Op.call { callee := Callee.value (Operand.func 136), args := #[Operand.tmp 8, Operand.tmp 9], argTypes := #[32, 3] }, type := 25, pos := "free.go:16", after := #[{ on := 3, ground := Ground.data }, { on := 4, ground := Ground.data }, { on := 2, ground := Ground.chain }], guard := none },
  { dst := some 11, op := Op.call { callee := Callee.value (Operand.func 24), args := #[Operand.tmp 7, Operand.tmp 10], argTypes := #[25, 25] }, type := 25, pos := "free.go:16", after := #[{ on := 2, ground := Ground.data }, { on := 5, ground := Ground.data }, { on := 5, ground := Ground.chain }], guard := none },
  { dst := none, op := Op.store 25 (Operand.tmp 4) (Operand.tmp 11), type := 0, pos := "free.go:16", after := #[{ on := 6, ground := Ground.data }, { on := 6, ground := Ground.chain }, { on := 0, ground := Ground.phase }, { on := 1, ground := Ground.phase }, { on := 2, ground := Ground.phase }, { on := 3, ground := Ground.phase }, { on := 4, ground := Ground.phase }, { on := 5, ground := Ground.phase }, { on := 6, ground := Ground.phase }], guard := none }]
set_option maxRecDepth 100000 in
set_option maxHeartbeats 16000000 in
theorem fa1 (Q : Exit → Act → World → Prop) (T1 T2 T4 : Nat) (P Q0 : Option Addr) (n c n2 c2 i : Nat) (r : E4) (PA PB : E4 → Prop) (u3 u5 u6 u7 u8 u9 u10 u11 : Value) (W : World)
    (ne_ca : T1 ≠ T4) (ne_cb : T2 ≠ T4) (ht : W.there T4 0 4) (ca0 : W.cell? ⟨T1, 0, none⟩ = some (.slice P n c)) (cb0 : W.cell? ⟨T2, 0, none⟩ = some (.slice Q0 n2 c2))
    (C2 : Hid (∀ x, W.grownBy x (some T4) → Calls Tryz.prog 136 #[.agg #[.slice P n c], .int .i64 (i : Int)] x fun e w' => ∃ z : E4, e = .returned (.agg #[.int .u64 z.x0, .int .u64 z.x1, .int .u64 z.x2, .int .u64 z.x3]) ∧ PA z ∧ Below x.heap.size x w'))
    (C5 : Hid (∀ x, W.grownBy x (some T4) → Calls Tryz.prog 136 #[.agg #[.slice Q0 n2 c2], .int .i64 (i : Int)] x fun e w' => ∃ z : E4, e = .returned (.agg #[.int .u64 z.x0, .int .u64 z.x1, .int .u64 z.x2, .int .u64 z.x3]) ∧ PB z ∧ Below x.heap.size x w'))
    (C6 : Hid (∀ (x : World) (z y : E4), W.grownBy x (some T4) → PA z → PB y → Calls Tryz.prog 24 #[.agg #[.int .u64 z.x0, .int .u64 z.x1, .int .u64 z.x2, .int .u64 z.x3], .agg #[.int .u64 y.x0, .int .u64 y.x1, .int .u64 y.x2, .int .u64 y.x3]] x fun e w' => e = .returned (.agg #[.int .u64 r.x0, .int .u64 r.x1, .int .u64 r.x2, .int .u64 r.x3]) ∧ Below x.heap.size x w'))
    (HQ : Hid (∀ (z y : E4) (wz : World), W.grownBy wz (some T4) → wz.rangeAt T4 0 [.int .u64 r.x0, .int .u64 r.x1, .int .u64 r.x2, .int .u64 r.x3] → Q .normal ⟨#[.int .i64 (i : Int), .pointer (some ⟨T1, 0, none⟩), .pointer (some ⟨T2, 0, none⟩), u3, .pointer (some ⟨T4, 0, none⟩), .agg #[.slice P n c], .int .i64 (i : Int), .agg #[.int .u64 z.x0, .int .u64 z.x1, .int .u64 z.x2, .int .u64 z.x3], .agg #[.slice Q0 n2 c2], .int .i64 (i : Int), .agg #[.int .u64 y.x0, .int .u64 y.x1, .int .u64 y.x2, .int .u64 y.x3], .agg #[.int .u64 r.x0, .int .u64 r.x1, .int .u64 r.x2, .int .u64 r.x3]], []⟩ wz)) : (Code.region 1 fa1o true).wp Tryz.prog Q ⟨#[.int .i64 (i : Int), .pointer (some ⟨T1, 0, none⟩), .pointer (some ⟨T2, 0, none⟩), u3, .pointer (some ⟨T4, 0, none⟩), u5, u6, u7, u8, u9, u10, u11], []⟩ W := by
  have TH := hidden (there_keepM ht (bl_drew W))
  clear ht
  unfold fa1o
  refine wp_region_noPanic ?_
  refine wp_region_held_drew (S := fun x => W.grownBy x (some T4)) (by kernel_rfl) (gbI (bl_drew W) _) (fun hH0 => ?_)
  refine wpAnyH_take (i := 0) (oi := { dst := some 5, op := Op.load 32 (Operand.tmp 1), type := 32, pos := "free.go:16", after := #[], guard := none }) (v := .agg #[.slice P n c]) rfl (by kernel_rfl) (by kernel_rfl) (by kernel_rfl) (fun _ _ _ h => h) (Or.inl ⟨by rfl, fun w0 hSw => ?_⟩) hH0 ?_
  · (have hS : W.grownBy w0 (some T4) := hSw; have a0 := hS.cell ca0 (fun e => ne_ca (Option.some.inj e)); clear hS hSw; go_simp)
  simp only [Act.put, List.setIfInBounds_toArray, List.set_cons_zero, List.set_cons_succ]
  refine wpAnyH_take (i := 1) (oi := { dst := some 6, op := Op.move (Operand.tmp 0), type := 3, pos := "free.go:16", after := #[], guard := none }) (v := .int .i64 (i : Int)) rfl (by kernel_rfl) (by kernel_rfl) (by kernel_rfl) (fun _ _ _ h => h) (Or.inl ⟨by rfl, fun w0 hSw => ?_⟩) hH0 ?_
  · (clear hSw; go_simp)
  simp only [Act.put, List.setIfInBounds_toArray, List.set_cons_zero, List.set_cons_succ]
  refine wpAnyH_take (i := 3) (oi := { dst := some 8, op := Op.load 32 (Operand.tmp 2), type := 32, pos := "free.go:16", after := #[], guard := none }) (v := .agg #[.slice Q0 n2 c2]) rfl (by kernel_rfl) (by kernel_rfl) (by kernel_rfl) (fun _ _ _ h => h) (Or.inl ⟨by rfl, fun w0 hSw => ?_⟩) hH0 ?_
  · (have hS : W.grownBy w0 (some T4) := hSw; have a0 := hS.cell cb0 (fun e => ne_cb (Option.some.inj e)); clear hS hSw; go_simp)
  simp only [Act.put, List.setIfInBounds_toArray, List.set_cons_zero, List.set_cons_succ]
  refine wpAnyH_take (i := 4) (oi := { dst := some 9, op := Op.move (Operand.tmp 0), type := 3, pos := "free.go:16", after := #[], guard := none }) (v := .int .i64 (i : Int)) rfl (by kernel_rfl) (by kernel_rfl) (by kernel_rfl) (fun _ _ _ h => h) (Or.inl ⟨by rfl, fun w0 hSw => ?_⟩) hH0 ?_
  · (clear hSw; go_simp)
  simp only [Act.put, List.setIfInBounds_toArray, List.set_cons_zero, List.set_cons_succ]
  refine wpAnyH_ready (rs := [2]) (by kernel_rfl) (by simp) ?_
  refine AllReadyH.cons (o := { dst := some 7, op := Op.call { callee := Callee.value (Operand.func 136), args := #[Operand.tmp 5, Operand.tmp 6], argTypes := #[32, 3] }, type := 25, pos := "free.go:16", after := #[{ on := 0, ground := Ground.data }, { on := 1, ground := Ground.data }], guard := none }) rfl (fun K hK => ?_) AllReadyH.nil
  have HH := hidden hH0
  clear hH0
  go_simp
  refine (C2.out _ HH.out).mono ?_
  rintro e wn1 ⟨z, rfl, hz, hb⟩
  have PZ := hidden (hz)
  replace TH := hidden (there_keepM TH.out hb)
  have SN := hidden (HH.out.trans (gbI hb _))
  clear HH hb C2 hz
  go_wp2_with fail
  refine hK.out _ _ SN.out (fun hH1 => ?_)
  clear hK K SN
  refine wpAnyH_ready (rs := [5]) (by kernel_rfl) (by simp) ?_
  refine AllReadyH.cons (o := { dst := some 10, op := Op.call { callee := Callee.value (Operand.func 136), args := #[Operand.tmp 8, Operand.tmp 9], argTypes := #[32, 3] }, type := 25, pos := "free.go:16", after := #[{ on := 3, ground := Ground.data }, { on := 4, ground := Ground.data }, { on := 2, ground := Ground.chain }], guard := none }) rfl (fun K hK => ?_) AllReadyH.nil
  have HH := hidden hH1
  clear hH1
  go_simp
  refine (C5.out _ HH.out).mono ?_
  rintro e wn2 ⟨y, rfl, hy, hb⟩
  have PY := hidden (hy)
  replace TH := hidden (there_keepM TH.out hb)
  have SN := hidden (HH.out.trans (gbI hb _))
  clear HH hb C5 hy
  go_wp2_with fail
  refine hK.out _ _ SN.out (fun hH2 => ?_)
  clear hK K SN
  refine wpAnyH_ready (rs := [6]) (by kernel_rfl) (by simp) ?_
  refine AllReadyH.cons (o := { dst := some 11, op := Op.call { callee := Callee.value (Operand.func 24), args := #[Operand.tmp 7, Operand.tmp 10], argTypes := #[25, 25] }, type := 25, pos := "free.go:16", after := #[{ on := 2, ground := Ground.data }, { on := 5, ground := Ground.data }, { on := 5, ground := Ground.chain }], guard := none }) rfl (fun K hK => ?_) AllReadyH.nil
  have HH := hidden hH2
  clear hH2
  go_simp
  refine (C6.out _ z y HH.out PZ.out PY.out).mono ?_
  rintro e wn3 ⟨rfl, hb⟩
  replace TH := hidden (there_keepM TH.out hb)
  have SN := hidden (HH.out.trans (gbI hb _))
  clear HH hb C6
  go_wp2_with fail
  refine hK.out _ _ SN.out (fun hH3 => ?_)
  clear hK K SN
  have HH := hidden hH3
  clear hH3
  refine wpAnyH_ready (rs := [7]) (by kernel_rfl) (by simp) ?_
  refine AllReadyH.cons (o := { dst := none, op := Op.store 25 (Operand.tmp 4) (Operand.tmp 11), type := 0, pos := "free.go:16", after := #[{ on := 6, ground := Ground.data }, { on := 6, ground := Ground.chain }, { on := 0, ground := Ground.phase }, { on := 1, ground := Ground.phase }, { on := 2, ground := Ground.phase }, { on := 3, ground := Ground.phase }, { on := 4, ground := Ground.phase }, { on := 5, ground := Ground.phase }, { on := 6, ground := Ground.phase }], guard := none }) rfl (fun K hK => ?_) AllReadyH.nil
  refine wp_store_mid 25 _ _ rfl T4 0 ([.int .u64 r.x0, .int .u64 r.x1, .int .u64 r.x2, .int .u64 r.x3]).toArray (by rfl) (by rfl) TH.out i4_s (one4 r) ?_
  have FQ := hidden (HQ.out z y _ (HH.out.trans (gb_setCells T4 _ 0 _)) (World.rangeAt_setCells_same _ T4 0 _ TH.out))
  refine hK.out _ _ (HH.out.trans (gb_setCells T4 _ 0 _)) (fun hF => ?_)
  clear hK K HH
  refine wpAnyH_done (by kernel_rfl) ?_ _
  refine NoPanic.normal ?_
  exact FQ.out
theorem lst_two {a b c d : Int} (h1 : lst a = lst c) (h2 : lst b = lst d) : lst (a + b) = lst (c + d) := by
  rw [← lst_add, h1, lst_add, ← lst_add', h2, lst_add']
theorem lst_twoM {a b c d : Int} (h1 : lst a = lst c) (h2 : lst b = lst d) : lst (a * b) = lst (c * d) := by
  rw [← lst_mul, h1, lst_mul, ← lst_mul', h2, lst_mul']
theorem lst_oneN {a c : Int} (h1 : lst a = lst c) : lst (-a) = lst (-c) := by
  rw [← lst_neg, h1, lst_neg]
theorem Fr.keepG {w w' : World} {V : Value} {x : Nat → Int} (h : Fr w V x) (b : Nat) (hb : w.grownBy w' (some b)) (hn : ∀ (P : Option Addr) (n c : Nat), V = .agg #[.slice P n c] → 0 < n → ∀ a, P = some a → a.block ≠ b) : Fr w' V x := by
  obtain ⟨P, n, c, g, rfl, h2, h3⟩ := h
  obtain ⟨sb, so, h4, h5⟩ := h2
  refine ⟨P, n, c, g, rfl, ⟨sb, so, h4, fun hp => ?_⟩, h3⟩
  have ne := hn P n c rfl hp _ (h4 hp)
  have r := h5 hp
  have k : ∀ {j : Nat} {v : Value}, w.cell? ⟨sb, j, none⟩ = some v → w'.cell? ⟨sb, j, none⟩ = some v := fun hc => hb.cell hc (fun e => ne (Option.some.inj e))
  exact ⟨fun i hi => k (r.c0 i hi), fun i hi => k (r.c1 i hi), fun i hi => k (r.c2 i hi), fun i hi => k (r.c3 i hi)⟩
set_option maxRecDepth 100000 in
set_option maxHeartbeats 8000000 in
theorem add1_any (T1 T2 : Nat) (P Q0 : Option Addr) (n c n2 c2 i : Nat) (f g : Nat → Int) (w : World) (hT : Tb w) (hi : i ≤ 4398046510976) (ca : w.cell? ⟨T1, 0, none⟩ = some (.slice P n c)) (cb : w.cell? ⟨T2, 0, none⟩ = some (.slice Q0 n2 c2)) (hf : Fr w (.agg #[.slice P n c]) f) (hg : Fr w (.agg #[.slice Q0 n2 c2]) g) :
    Calls Tryz.prog 135 #[.int .i64 (i : Int), .pointer (some ⟨T1, 0, none⟩), .pointer (some ⟨T2, 0, none⟩)] w fun e w' => e = .returned (lst (f i + g i)).v ∧ Below w.heap.size w w' := by
  have l1 := World.block_lt_of_cell? w _ ca
  have l2 := World.block_lt_of_cell? w _ cb
  have l3 := World.block_lt_of_cell? w _ hT.1
  have B0 := bl_alloc w (.cells z4.toArray 25)
  have ht : (w.alloc (.cells z4.toArray 25)).there w.heap.size 0 4 := there_newM w z4 25
  have AL : ∀ x, (w.alloc (.cells z4.toArray 25)).grownBy x (some w.heap.size) → Below w.heap.size w x := fun x hx => B0.grown hx B0.size (fun j hj => by obtain rfl := Option.some.inj hj; omega)
  have ALH := hidden AL
  have ca0 := cell_keep ca B0
  have cb0 := cell_keep cb B0
  obtain ⟨r, hr⟩ : ∃ r, lst (f i + g i) = r := ⟨_, rfl⟩
  rw [hr]
  have C2 := hidden (fun x (hx : (w.alloc (.cells z4.toArray 25)).grownBy x (some w.heap.size)) => fat_any _ f i x (hf.keep (AL x hx)) hi)
  have C5 := hidden (fun x (hx : (w.alloc (.cells z4.toArray 25)).grownBy x (some w.heap.size)) => fat_any _ g i x (hg.keep (AL x hx)) hi)
  have C6 := hidden (fun x (z y : E4) (hx : (w.alloc (.cells z4.toArray 25)).grownBy x (some w.heap.size)) (hz : z.ok ∧ lst z.n = lst (f i)) (hy : y.ok ∧ lst y.n = lst (g i)) => fix (Add_any z y x (hT.keep (AL x hx)) hz.1 hy.1) ((lst_two hz.2 hy.2).trans hr))
  clear AL hf hg
  unfold z4 at *
  unfold E4.v at *
  go_enter Tryz.func135, Tryz.ntmps135
  go_upto_region 1 with fail
  generalize (w.alloc (.cells [.int .u64 0, .int .u64 0, .int .u64 0, .int .u64 0].toArray 25)) = w1 at *
  refine fa1 _ T1 T2 w.heap.size P Q0 n c n2 c2 i r (fun z => z.ok ∧ lst z.n = lst (f i)) (fun z => z.ok ∧ lst z.n = lst (g i)) _ _ _ _ _ _ _ _ w1 (by simp only at l1; omega) (by simp only at l2; omega) ht ca0 cb0 (hidden (fun x hx => (C2.out x hx).mono (by rintro e w' ⟨z, h1, h2, h3, h4⟩; exact ⟨z, h1, ⟨h2, h3⟩, h4⟩))) (hidden (fun x hx => (C5.out x hx).mono (by rintro e w' ⟨z, h1, h2, h3, h4⟩; exact ⟨z, h1, ⟨h2, h3⟩, h4⟩))) C6 (hidden ?_)
  intro z y wz hgz hrz
  have LD := hidden (run_loadVar_mid (P := Tryz.prog) wz w.heap.size 0 25 [.int .u64 r.x0, .int .u64 r.x1, .int .u64 r.x2, .int .u64 r.x3] _ hrz Tryz.underlying25 rfl i4_s)
  have BF := hidden (ALH.out wz hgz)
  clear hrz hgz C2 C5 C6 ALH ca0 cb0 ht B0
  go_wp2_with fail
  refine bodyPost_ret (v := .agg [.int .u64 r.x0, .int .u64 r.x1, .int .u64 r.x2, .int .u64 r.x3].toArray) (results_cellM Tryz.results135 _ _ _ _ _ (by rfl) LD.out) rfl ⟨rfl, BF.out⟩
end Go.Proofs.YtapieajkmpnmoaaGreatDoor
namespace Go.Proofs.YtapieajkmpnmoaaGreatDoor
open Go.RowKit
set_option linter.unusedVariables false
theorem lst_ifO {m i : Nat} {h : Nat → Int} {x : Int} (h1 : i < m → lst (h i) = lst x) (h2 : m ≤ i → lst x = zero4) : lst (if i < m then h i else 0) = lst x := by
  by_cases e : i < m
  · rw [if_pos e]; exact h1 e
  · rw [if_neg e, zero_lst, h2 (by omega)]
set_option maxRecDepth 100000 in
set_option maxHeartbeats 8000000 in
theorem neg1_any (T1 sb so n c i : Nat) (g : Nat → E4) (x : Int) (w : World) (hT : Tb w) (hn : n ≤ 4398046510976) (hi : i < n) (ca : w.cell? ⟨T1, 0, none⟩ = some (.slice (some ⟨sb, so, none⟩) n c)) (hR : Rl w sb so n g) (ho : (g i).ok) (hx : lst (g i).n = lst x) :
    Calls Tryz.prog 137 #[.int .i64 (i : Int), .pointer (some ⟨T1, 0, none⟩)] w fun e w' => e = .returned (lst (-x)).v ∧ Below w.heap.size w w' := by
  have B0 := hidden (bl_alloc w (.cells #[.int .u64 0, .int .u64 0, .int .u64 0, .int .u64 0] 25))
  have ca0 := cell_keep ca B0.out
  have rx := hR.keep B0.out
  have x0 := rx.c0 i hi; have x1 := rx.c1 i hi; have x2 := rx.c2 i hi; have x3 := rx.c3 i hi
  have i0 : (0 : Int) ≤ (i : Int) := by omega
  have i1 : (i : Int) < (n : Int) := by omega
  obtain ⟨r, hr⟩ : ∃ r, lst (-x) = r := ⟨_, rfl⟩
  rw [hr]
  have CN := hidden (fun x T => fix (Neg_any (g i) x T ho) ((lst_oneN hx).trans hr))
  generalize g i = z at *
  have T0 := hidden (hT.keep B0.out)
  have Z0 : Hid ((w.alloc (.cells #[.int .u64 0, .int .u64 0, .int .u64 0, .int .u64 0] 25)).cell? ⟨w.heap.size, 0, none⟩ = some (.int .u64 0) ∧ (w.alloc (.cells #[.int .u64 0, .int .u64 0, .int .u64 0, .int .u64 0] 25)).frozen? ⟨w.heap.size, 0, none⟩ = false) := hidden ⟨by go_simp, by go_simp⟩
  have Z1 : Hid ((w.alloc (.cells #[.int .u64 0, .int .u64 0, .int .u64 0, .int .u64 0] 25)).cell? ⟨w.heap.size, 1, none⟩ = some (.int .u64 0) ∧ (w.alloc (.cells #[.int .u64 0, .int .u64 0, .int .u64 0, .int .u64 0] 25)).frozen? ⟨w.heap.size, 1, none⟩ = false) := hidden ⟨by go_simp, by go_simp⟩
  have Z2 : Hid ((w.alloc (.cells #[.int .u64 0, .int .u64 0, .int .u64 0, .int .u64 0] 25)).cell? ⟨w.heap.size, 2, none⟩ = some (.int .u64 0) ∧ (w.alloc (.cells #[.int .u64 0, .int .u64 0, .int .u64 0, .int .u64 0] 25)).frozen? ⟨w.heap.size, 2, none⟩ = false) := hidden ⟨by go_simp, by go_simp⟩
  have Z3 : Hid ((w.alloc (.cells #[.int .u64 0, .int .u64 0, .int .u64 0, .int .u64 0] 25)).cell? ⟨w.heap.size, 3, none⟩ = some (.int .u64 0) ∧ (w.alloc (.cells #[.int .u64 0, .int .u64 0, .int .u64 0, .int .u64 0] 25)).frozen? ⟨w.heap.size, 3, none⟩ = false) := hidden ⟨by go_simp, by go_simp⟩
  unfold E4.v at *
  clear rx hx hr ho hn hi ca hR hT
  go_enter Tryz.func137, Tryz.ntmps137
  go_upto_region 1 with fail
  go_wp2_with (first | (go_at_call 21; refine (CN.out _ (by first | exact T0.out | exact T0.out.keep (bl_drewO _))).mono ?_; rintro e wa ⟨rfl, ha'⟩; have ha : Below (w.alloc (.cells #[.int .u64 0, .int .u64 0, .int .u64 0, .int .u64 0] 25)).heap.size (w.alloc (.cells #[.int .u64 0, .int .u64 0, .int .u64 0, .int .u64 0] 25)) wa := (by first | exact ha' | exact bl_trans (bl_drewO _) ha'); have y0 := cell_keep Z0.out.1 ha; have v0 := ((bcell ha).2 w.heap.size 0 (World.block_lt_of_cell? _ _ Z0.out.1)).trans Z0.out.2; have y1 := cell_keep Z1.out.1 ha; have v1 := ((bcell ha).2 w.heap.size 1 (World.block_lt_of_cell? _ _ Z1.out.1)).trans Z1.out.2; have y2 := cell_keep Z2.out.1 ha; have v2 := ((bcell ha).2 w.heap.size 2 (World.block_lt_of_cell? _ _ Z2.out.1)).trans Z2.out.2; have y3 := cell_keep Z3.out.1 ha; have v3 := ((bcell ha).2 w.heap.size 3 (World.block_lt_of_cell? _ _ Z3.out.1)).trans Z3.out.2; have BA := hidden (bl_trans B0.out ha); clear ha ha'))
  all_goals (refine bodyPost_ret (v := .agg #[.int .u64 r.x0, .int .u64 r.x1, .int .u64 r.x2, .int .u64 r.x3]) (by simp [results, Tryz.results137, go_sem, y0, y1, y2, y3]) rfl ⟨rfl, bl_set4 (w := w) (b := w.heap.size) _ _ _ _ BA.out (Nat.le_refl _)⟩)
def ft1o : Array Oper := #[{ dst := some 5, op := Op.fieldAddr 32 (Operand.tmp 1) 0, type := 0, pos := "free.go:29", after := #[], guard := none },
  { dst := some 6, op := Op.load 22 (Operand.tmp 5), type := 22, pos := "free.go:29", after := #[{ on := 0, ground := Ground.data }], guard := none },
  { dst := some 7, op := Op.move (Operand.tmp 0), type := 3, pos := "free.go:29", after := #[], guard := none },
  { dst := some 8, op := Op.indexAddr 22 (Operand.tmp 6) (Operand.tmp 7), type := 0, pos := "free.go:29", after := #[{ on := 1, ground := Ground.data }, { on := 2, ground := Ground.data }], guard := none },
  { dst := some 9, op := Op.load 25 (Operand.tmp 8), type := 25, pos := "free.go:29", after := #[{ on := 3, ground := Ground.data }], guard := none },
  { dst := some 10, op := Op.load 25 (Operand.tmp 2), type := 25, pos := "free.go:29", after := #[], guard := none },
  { dst := some 11, op := Op.call { callee := Callee.value (Operand.func 25), args := #[Operand.tmp 9, Operand.tmp 10], argTypes := #[25, 25] }, type := 25, pos := "free.go:29", after := #[{ on := 4, ground := Ground.data }, { on := 5, ground := Ground.data }], guard := none },
  { dst := none, op := Op.store 25 (Operand.tmp 4) (Operand.tmp 11), type := 0, pos := "free.go:29", after := #[{ on := 6, ground := Ground.data }, { on := 6, ground := Ground.chain }, { on := 0, ground := Ground.phase }, { on := 1, ground := Ground.phase }, { on := 2, ground := Ground.phase }, { on := 3, ground := Ground.phase }, { on := 4, ground := Ground.phase }, { on := 5, ground := Ground.phase }, { on := 6, ground := Ground.phase }], guard := none }]
set_option maxRecDepth 100000 in
set_option maxHeartbeats 16000000 in
theorem ft1 (Q : Exit → Act → World → Prop) (T1 T2 T4 sb so n c i : Nat) (z k r : E4) (u3 u5 u6 u7 u8 u9 u10 u11 : Value) (W : World)
    (ne_ca : T1 ≠ T4) (ne_cx : sb ≠ T4) (ne_ck : T2 ≠ T4) (ht : W.there T4 0 4) (i0 : (0 : Int) ≤ (i : Int)) (i1 : (i : Int) < (n : Int)) (ca0 : W.cell? ⟨T1, 0, none⟩ = some (.slice (some ⟨sb, so, none⟩) n c))
    (cx0 : W.cell? ⟨sb, so + i * 4, none⟩ = some (.int .u64 z.x0)) (cx1 : W.cell? ⟨sb, so + i * 4 + 1, none⟩ = some (.int .u64 z.x1)) (cx2 : W.cell? ⟨sb, so + i * 4 + 2, none⟩ = some (.int .u64 z.x2)) (cx3 : W.cell? ⟨sb, so + i * 4 + 3, none⟩ = some (.int .u64 z.x3)) (ck0 : W.cell? ⟨T2, 0, none⟩ = some (.int .u64 k.x0)) (ck1 : W.cell? ⟨T2, 1, none⟩ = some (.int .u64 k.x1)) (ck2 : W.cell? ⟨T2, 2, none⟩ = some (.int .u64 k.x2)) (ck3 : W.cell? ⟨T2, 3, none⟩ = some (.int .u64 k.x3))
    (C6 : Hid (∀ x, W.grownBy x (some T4) → Calls Tryz.prog 25 #[.agg #[.int .u64 z.x0, .int .u64 z.x1, .int .u64 z.x2, .int .u64 z.x3], .agg #[.int .u64 k.x0, .int .u64 k.x1, .int .u64 k.x2, .int .u64 k.x3]] x fun e w' => e = .returned (.agg #[.int .u64 r.x0, .int .u64 r.x1, .int .u64 r.x2, .int .u64 r.x3]) ∧ Below x.heap.size x w'))
    (HQ : Hid (∀ (wz : World), W.grownBy wz (some T4) → wz.rangeAt T4 0 [.int .u64 r.x0, .int .u64 r.x1, .int .u64 r.x2, .int .u64 r.x3] → Q .normal ⟨#[.int .i64 (i : Int), .pointer (some ⟨T1, 0, none⟩), .pointer (some ⟨T2, 0, none⟩), u3, .pointer (some ⟨T4, 0, none⟩), .pointer (some ⟨T1, 0, none⟩), .slice (some ⟨sb, so, none⟩) n c, .int .i64 (i : Int), .pointer (some ⟨sb, so + i * 4, none⟩), .agg #[.int .u64 z.x0, .int .u64 z.x1, .int .u64 z.x2, .int .u64 z.x3], .agg #[.int .u64 k.x0, .int .u64 k.x1, .int .u64 k.x2, .int .u64 k.x3], .agg #[.int .u64 r.x0, .int .u64 r.x1, .int .u64 r.x2, .int .u64 r.x3]], []⟩ wz)) : (Code.region 1 ft1o true).wp Tryz.prog Q ⟨#[.int .i64 (i : Int), .pointer (some ⟨T1, 0, none⟩), .pointer (some ⟨T2, 0, none⟩), u3, .pointer (some ⟨T4, 0, none⟩), u5, u6, u7, u8, u9, u10, u11], []⟩ W := by
  have TH := hidden (there_keepM ht (bl_drew W))
  clear ht
  unfold ft1o
  refine wp_region_noPanic ?_
  refine wp_region_held_drew (S := fun x => W.grownBy x (some T4)) (by kernel_rfl) (gbI (bl_drew W) _) (fun hH0 => ?_)
  refine wpAnyH_take (i := 0) (oi := { dst := some 5, op := Op.fieldAddr 32 (Operand.tmp 1) 0, type := 0, pos := "free.go:29", after := #[], guard := none }) (v := .pointer (some ⟨T1, 0, none⟩)) rfl (by kernel_rfl) (by kernel_rfl) (by kernel_rfl) (fun _ _ _ h => h) (Or.inl ⟨by rfl, fun w0 hSw => ?_⟩) hH0 ?_
  · (clear hSw; go_simp)
  simp only [Act.put, List.setIfInBounds_toArray, List.set_cons_zero, List.set_cons_succ]
  refine wpAnyH_take (i := 1) (oi := { dst := some 6, op := Op.load 22 (Operand.tmp 5), type := 22, pos := "free.go:29", after := #[{ on := 0, ground := Ground.data }], guard := none }) (v := .slice (some ⟨sb, so, none⟩) n c) rfl (by kernel_rfl) (by kernel_rfl) (by kernel_rfl) (fun _ _ _ h => h) (Or.inl ⟨by rfl, fun w0 hSw => ?_⟩) hH0 ?_
  · (have hS : W.grownBy w0 (some T4) := hSw; have a0 := hS.cell ca0 (fun e => ne_ca (Option.some.inj e)); clear hS hSw; go_simp)
  simp only [Act.put, List.setIfInBounds_toArray, List.set_cons_zero, List.set_cons_succ]
  refine wpAnyH_take (i := 2) (oi := { dst := some 7, op := Op.move (Operand.tmp 0), type := 3, pos := "free.go:29", after := #[], guard := none }) (v := .int .i64 (i : Int)) rfl (by kernel_rfl) (by kernel_rfl) (by kernel_rfl) (fun _ _ _ h => h) (Or.inl ⟨by rfl, fun w0 hSw => ?_⟩) hH0 ?_
  · (clear hSw; go_simp)
  simp only [Act.put, List.setIfInBounds_toArray, List.set_cons_zero, List.set_cons_succ]
  refine wpAnyH_take (i := 3) (oi := { dst := some 8, op := Op.indexAddr 22 (Operand.tmp 6) (Operand.tmp 7), type := 0, pos := "free.go:29", after := #[{ on := 1, ground := Ground.data }, { on := 2, ground := Ground.data }], guard := none }) (v := .pointer (some ⟨sb, so + i * 4, none⟩)) rfl (by kernel_rfl) (by kernel_rfl) (by kernel_rfl) (fun _ _ _ h => h) (Or.inl ⟨by rfl, fun w0 hSw => ?_⟩) hH0 ?_
  · (clear hSw; go_simp)
  simp only [Act.put, List.setIfInBounds_toArray, List.set_cons_zero, List.set_cons_succ]
  refine wpAnyH_take (i := 4) (oi := { dst := some 9, op := Op.load 25 (Operand.tmp 8), type := 25, pos := "free.go:29", after := #[{ on := 3, ground := Ground.data }], guard := none }) (v := .agg #[.int .u64 z.x0, .int .u64 z.x1, .int .u64 z.x2, .int .u64 z.x3]) rfl (by kernel_rfl) (by kernel_rfl) (by kernel_rfl) (fun _ _ _ h => h) (Or.inl ⟨by rfl, fun w0 hSw => ?_⟩) hH0 ?_
  · (have hS : W.grownBy w0 (some T4) := hSw; have a0 := hS.cell cx0 (fun e => ne_cx (Option.some.inj e)); have a1 := hS.cell cx1 (fun e => ne_cx (Option.some.inj e)); have a2 := hS.cell cx2 (fun e => ne_cx (Option.some.inj e)); have a3 := hS.cell cx3 (fun e => ne_cx (Option.some.inj e)); clear hS hSw; go_simp)
  simp only [Act.put, List.setIfInBounds_toArray, List.set_cons_zero, List.set_cons_succ]
  refine wpAnyH_take (i := 5) (oi := { dst := some 10, op := Op.load 25 (Operand.tmp 2), type := 25, pos := "free.go:29", after := #[], guard := none }) (v := .agg #[.int .u64 k.x0, .int .u64 k.x1, .int .u64 k.x2, .int .u64 k.x3]) rfl (by kernel_rfl) (by kernel_rfl) (by kernel_rfl) (fun _ _ _ h => h) (Or.inl ⟨by rfl, fun w0 hSw => ?_⟩) hH0 ?_
  · (have hS : W.grownBy w0 (some T4) := hSw; have a0 := hS.cell ck0 (fun e => ne_ck (Option.some.inj e)); have a1 := hS.cell ck1 (fun e => ne_ck (Option.some.inj e)); have a2 := hS.cell ck2 (fun e => ne_ck (Option.some.inj e)); have a3 := hS.cell ck3 (fun e => ne_ck (Option.some.inj e)); clear hS hSw; go_simp)
  simp only [Act.put, List.setIfInBounds_toArray, List.set_cons_zero, List.set_cons_succ]
  refine wpAnyH_ready (rs := [6]) (by kernel_rfl) (by simp) ?_
  refine AllReadyH.cons (o := { dst := some 11, op := Op.call { callee := Callee.value (Operand.func 25), args := #[Operand.tmp 9, Operand.tmp 10], argTypes := #[25, 25] }, type := 25, pos := "free.go:29", after := #[{ on := 4, ground := Ground.data }, { on := 5, ground := Ground.data }], guard := none }) rfl (fun K hK => ?_) AllReadyH.nil
  have HH := hidden hH0
  clear hH0
  go_simp
  refine (C6.out _ HH.out).mono ?_
  rintro e wn1 ⟨rfl, hb⟩
  replace TH := hidden (there_keepM TH.out hb)
  have SN := hidden (HH.out.trans (gbI hb _))
  clear HH hb C6
  go_wp2_with fail
  refine hK.out _ _ SN.out (fun hH1 => ?_)
  clear hK K SN
  have HH := hidden hH1
  clear hH1
  refine wpAnyH_ready (rs := [7]) (by kernel_rfl) (by simp) ?_
  refine AllReadyH.cons (o := { dst := none, op := Op.store 25 (Operand.tmp 4) (Operand.tmp 11), type := 0, pos := "free.go:29", after := #[{ on := 6, ground := Ground.data }, { on := 6, ground := Ground.chain }, { on := 0, ground := Ground.phase }, { on := 1, ground := Ground.phase }, { on := 2, ground := Ground.phase }, { on := 3, ground := Ground.phase }, { on := 4, ground := Ground.phase }, { on := 5, ground := Ground.phase }, { on := 6, ground := Ground.phase }], guard := none }) rfl (fun K hK => ?_) AllReadyH.nil
  refine wp_store_mid 25 _ _ rfl T4 0 ([.int .u64 r.x0, .int .u64 r.x1, .int .u64 r.x2, .int .u64 r.x3]).toArray (by rfl) (by rfl) TH.out i4_s (one4 r) ?_
  have FQ := hidden (HQ.out _ (HH.out.trans (gb_setCells T4 _ 0 _)) (World.rangeAt_setCells_same _ T4 0 _ TH.out))
  refine hK.out _ _ (HH.out.trans (gb_setCells T4 _ 0 _)) (fun hF => ?_)
  clear hK K HH
  refine wpAnyH_done (by kernel_rfl) ?_ _
  refine NoPanic.normal ?_
  exact FQ.out
set_option maxRecDepth 100000 in
set_option maxHeartbeats 8000000 in
theorem times1_any (T1 T2 sb so n c i : Nat) (g : Nat → E4) (k : E4) (x : Int) (w : World) (hT : Tb w) (hi : i < n) (ca : w.cell? ⟨T1, 0, none⟩ = some (.slice (some ⟨sb, so, none⟩) n c)) (hR : Rl w sb so n g) (ho : (g i).ok) (hx : lst (g i).n = lst x) (hk : k.ok) (ck0 : w.cell? ⟨T2, 0, none⟩ = some (.int .u64 k.x0)) (ck1 : w.cell? ⟨T2, 1, none⟩ = some (.int .u64 k.x1)) (ck2 : w.cell? ⟨T2, 2, none⟩ = some (.int .u64 k.x2)) (ck3 : w.cell? ⟨T2, 3, none⟩ = some (.int .u64 k.x3)) :
    Calls Tryz.prog 138 #[.int .i64 (i : Int), .pointer (some ⟨T1, 0, none⟩), .pointer (some ⟨T2, 0, none⟩)] w fun e w' => e = .returned (lst (x * k.n)).v ∧ Below w.heap.size w w' := by
  have l1 := World.block_lt_of_cell? w _ ca
  have l2 := World.block_lt_of_cell? w _ ck0
  have l4 := World.block_lt_of_cell? w _ (hR.c0 i hi)
  have B0 := bl_alloc w (.cells z4.toArray 25)
  have ht : (w.alloc (.cells z4.toArray 25)).there w.heap.size 0 4 := there_newM w z4 25
  have AL : ∀ x, (w.alloc (.cells z4.toArray 25)).grownBy x (some w.heap.size) → Below w.heap.size w x := fun x hx => B0.grown hx B0.size (fun j hj => by obtain rfl := Option.some.inj hj; omega)
  have ALH := hidden AL
  have ca0 := cell_keep ca B0
  have rx := hR.keep B0
  have x0 := rx.c0 i hi; have x1 := rx.c1 i hi; have x2 := rx.c2 i hi; have x3 := rx.c3 i hi
  have k0 := cell_keep ck0 B0; have k1 := cell_keep ck1 B0; have k2 := cell_keep ck2 B0; have k3 := cell_keep ck3 B0
  have i0 : (0 : Int) ≤ (i : Int) := by omega
  have i1 : (i : Int) < (n : Int) := by omega
  obtain ⟨r, hr⟩ : ∃ r, lst (x * k.n) = r := ⟨_, rfl⟩
  rw [hr]
  have C6 := hidden (fun y (hy : (w.alloc (.cells z4.toArray 25)).grownBy y (some w.heap.size)) => fix (Mul_any (g i) k y (hT.keep (AL y hy)) ho hk) ((lst_twoM hx rfl).trans hr))
  generalize g i = z at *
  clear AL rx hx hr ho hk ca hR ck0 ck1 ck2 ck3
  unfold z4 at *
  unfold E4.v at *
  go_enter Tryz.func138, Tryz.ntmps138
  go_upto_region 1 with fail
  generalize (w.alloc (.cells [.int .u64 0, .int .u64 0, .int .u64 0, .int .u64 0].toArray 25)) = w1 at *
  refine ft1 _ T1 T2 w.heap.size sb so n c i z k r _ _ _ _ _ _ _ _ w1 (by simp only at l1; omega) (by simp only at l4; omega) (by simp only at l2; omega) ht i0 i1 ca0 x0 x1 x2 x3 k0 k1 k2 k3 C6 (hidden ?_)
  intro wz hgz hrz
  have LD := hidden (run_loadVar_mid (P := Tryz.prog) wz w.heap.size 0 25 [.int .u64 r.x0, .int .u64 r.x1, .int .u64 r.x2, .int .u64 r.x3] _ hrz Tryz.underlying25 rfl i4_s)
  have BF := hidden (ALH.out wz hgz)
  clear hrz hgz C6 ALH ca0 ht B0 x0 x1 x2 x3 k0 k1 k2 k3
  go_wp2_with fail
  refine bodyPost_ret (v := .agg [.int .u64 r.x0, .int .u64 r.x1, .int .u64 r.x2, .int .u64 r.x3].toArray) (results_cellM Tryz.results138 _ _ _ _ _ (by rfl) LD.out) rfl ⟨rfl, BF.out⟩
end Go.Proofs.YtapieajkmpnmoaaGreatDoor
namespace Go.Proofs.YtapieajkmpnmoaaGreatDoor
open Go.RowKit
set_option linter.unusedVariables false
theorem Fq.close {w w1 wa : World} {b A m k : Nat} {x y : Nat → Int} {v : Value} (h : Fr wa (.agg #[.slice (some ⟨A, 0, none⟩) m k]) x) (hA : w1.heap.size ≤ A) (hb : b < w1.heap.size) (hw : w.heap.size ≤ b) (hB : Below w.heap.size w wa) (he : ∀ i, lst (x i) = lst (y i)) : Fq w (wa.setCell ⟨b, 0, none⟩ v) (.returned (.agg #[.slice (some ⟨A, 0, none⟩) m k])) y := by
  refine ⟨A, m, k, rfl, by omega, (h.keepG (w' := wa.setCell ⟨b, 0, none⟩ v) b ⟨rfl, rfl, rfl, by simp, fun k _ hk => heap_setCell_other wa ⟨b, 0, none⟩ k v (fun e => hk (by simp [e]))⟩ ?_).congr he, hB.setCell hw _⟩
  rintro P n c hP _ a rfl
  simp only [Value.agg.injEq, Array.mk.injEq, List.cons.injEq, Value.slice.injEq, Option.some.injEq, and_true] at hP
  obtain ⟨rfl, _⟩ := hP
  simp only
  omega
set_option maxRecDepth 100000 in
set_option maxHeartbeats 8000000 in
theorem frAdd (VA VB : Value) (f g : Nat → Int) (w : World) (hT : Tb w) (hA : Fr w VA f) (hB : Fr w VB g) :
    Calls Tryz.prog 129 #[VA, VB] w fun e w' => Fq w w' e (fun i => f i + g i) := by
  obtain ⟨P, n, c, ga, rfl, a1, a2, a3, a4⟩ := id hA
  obtain ⟨Q0, n2, c2, gb, rfl, b1, b2, b3, b4⟩ := id hB
  have B3 := hidden (bl_trans (bl_alloc2 w (.cells #[.slice P n c] 32) (.cells #[.slice Q0 n2 c2] 32)) (bl_alloc _ (.cells #[.slice none 0 0] 32)))
  have e1 : (((w.alloc (.cells #[.slice P n c] 32)).alloc (.cells #[.slice Q0 n2 c2] 32)).alloc (.cells #[.slice none 0 0] 32)).cell? ⟨w.heap.size, 0, none⟩ = some (.slice P n c) := by go_simp
  have e2 : (((w.alloc (.cells #[.slice P n c] 32)).alloc (.cells #[.slice Q0 n2 c2] 32)).alloc (.cells #[.slice none 0 0] 32)).cell? ⟨w.heap.size + 1, 0, none⟩ = some (.slice Q0 n2 c2) := by go_simp
  have E3 : Hid ((((w.alloc (.cells #[.slice P n c] 32)).alloc (.cells #[.slice Q0 n2 c2] 32)).alloc (.cells #[.slice none 0 0] 32)).cell? ⟨w.heap.size + 1 + 1, 0, none⟩ = some (.slice none 0 0) ∧ (((w.alloc (.cells #[.slice P n c] 32)).alloc (.cells #[.slice Q0 n2 c2] 32)).alloc (.cells #[.slice none 0 0] 32)).frozen? ⟨w.heap.size + 1 + 1, 0, none⟩ = false) := hidden ⟨by go_simp, by go_simp⟩
  have SZ : Hid ((((w.alloc (.cells #[.slice P n c] 32)).alloc (.cells #[.slice Q0 n2 c2] 32)).alloc (.cells #[.slice none 0 0] 32)).heap.size = w.heap.size + 1 + 1 + 1) := hidden (by simp only [World.size_alloc])
  have SP := hidden (spread_Add (max n n2) (fun i => f i + g i) w.heap.size (w.heap.size + 1) (((w.alloc (.cells #[.slice P n c] 32)).alloc (.cells #[.slice Q0 n2 c2] 32)).alloc (.cells #[.slice none 0 0] 32)) (hT.keep B3.out) (by omega) (fun i hi x hx => add1_any w.heap.size (w.heap.size + 1) P Q0 n c n2 c2 i f g x (hT.keep (bl_trans B3.out hx)) (by omega) (cell_keep e1 hx) (cell_keep e2 hx) (hA.keep (bl_trans B3.out hx)) (hB.keep (bl_trans B3.out hx))))
  have FF : Hid (∀ i, lst (if i < max n n2 then f i + g i else 0) = lst (f i + g i)) := hidden (fun i => lst_ifO (h := fun i => f i + g i) (fun _ => rfl) (fun h => by rw [lst_two ((a4 i (by omega)).trans zero_lst.symm) ((b4 i (by omega)).trans zero_lst.symm)]; exact zero_lst))
  clear a1 a2 a3 a4 b1 b2 b3 b4 hA hB hT
  by_cases hlt : n < n2
  · rw [show max n n2 = n2 by omega] at SP FF
    have il : (n : Int) < (n2 : Int) := by omega
    go_enter Tryz.func129, Tryz.ntmps129
    go_upto_region 1 with fail
    generalize (((w.alloc (.cells #[.slice P n c] 32)).alloc (.cells #[.slice Q0 n2 c2] 32)).alloc (.cells #[.slice none 0 0] 32)) = w1 at *
    go_wp2_with (first | (go_at_call 134; refine SP.out.mono ?_; rintro e wa ⟨A, m, k, rfl, hA, hF, ha⟩; have q0 := cell_keep E3.out.1 ha; have q1 := ((bcell ha).2 _ 0 (World.block_lt_of_cell? _ _ E3.out.1)).trans E3.out.2; have FA := hidden hF; have HA := hidden hA; have BA := hidden (bl_trans B3.out ha); clear ha hF hA))
    refine bodyPost_ret (v := .agg #[.slice (some ⟨A, 0, none⟩) m k]) (by simp [results, Tryz.results129, go_sem, q0]) rfl (Fq.close FA.out HA.out (by have := SZ.out; omega) (by omega) BA.out FF.out)
  · rw [show max n n2 = n by omega] at SP FF
    have il : ¬ (n : Int) < (n2 : Int) := by omega
    go_enter Tryz.func129, Tryz.ntmps129
    go_upto_region 1 with fail
    generalize (((w.alloc (.cells #[.slice P n c] 32)).alloc (.cells #[.slice Q0 n2 c2] 32)).alloc (.cells #[.slice none 0 0] 32)) = w1 at *
    go_wp2_with (first | (go_at_call 134; refine SP.out.mono ?_; rintro e wa ⟨A, m, k, rfl, hA, hF, ha⟩; have q0 := cell_keep E3.out.1 ha; have q1 := ((bcell ha).2 _ 0 (World.block_lt_of_cell? _ _ E3.out.1)).trans E3.out.2; have FA := hidden hF; have HA := hidden hA; have BA := hidden (bl_trans B3.out ha); clear ha hF hA))
    refine bodyPost_ret (v := .agg #[.slice (some ⟨A, 0, none⟩) m k]) (by simp [results, Tryz.results129, go_sem, q0]) rfl (Fq.close FA.out HA.out (by have := SZ.out; omega) (by omega) BA.out FF.out)
set_option maxRecDepth 100000 in
set_option maxHeartbeats 8000000 in
theorem frNeg (VA : Value) (f : Nat → Int) (w : World) (hT : Tb w) (hA : Fr w VA f) :
    Calls Tryz.prog 131 #[VA] w fun e w' => Fq w w' e (fun i => -f i) := by
  obtain ⟨P, n, c, ga, rfl, a1, a2, a3, a4⟩ := id hA
  obtain ⟨sb, so, a5, a6⟩ := id a1
  have B3 := hidden (bl_trans (bl_alloc w (.cells #[.slice P n c] 32)) (bl_alloc _ (.cells #[.slice none 0 0] 32)))
  have e1 : (((w).alloc (.cells #[.slice P n c] 32)).alloc (.cells #[.slice none 0 0] 32)).cell? ⟨w.heap.size, 0, none⟩ = some (.slice P n c) := by go_simp

  have E3 : Hid ((((w).alloc (.cells #[.slice P n c] 32)).alloc (.cells #[.slice none 0 0] 32)).cell? ⟨w.heap.size + 1, 0, none⟩ = some (.slice none 0 0) ∧ (((w).alloc (.cells #[.slice P n c] 32)).alloc (.cells #[.slice none 0 0] 32)).frozen? ⟨w.heap.size + 1, 0, none⟩ = false) := hidden ⟨by go_simp, by go_simp⟩
  have SZ : Hid ((((w).alloc (.cells #[.slice P n c] 32)).alloc (.cells #[.slice none 0 0] 32)).heap.size = w.heap.size + 1 + 1) := hidden (by simp only [World.size_alloc])
  have SP := hidden (spread_Neg n (fun i => -f i) w.heap.size (((w).alloc (.cells #[.slice P n c] 32)).alloc (.cells #[.slice none 0 0] 32)) (hT.keep B3.out) (by omega) (fun i hi x hx => neg1_any w.heap.size sb so n c i ga (f i) x (hT.keep (bl_trans B3.out hx)) a2 hi (by rw [← a5 (by omega)]; exact cell_keep e1 hx) ((a6 (by omega)).keep (bl_trans B3.out hx)) (a3 i hi).1 (a3 i hi).2))
  have FF : Hid (∀ i, lst (if i < n then -f i else 0) = lst (-f i)) := hidden (fun i => lst_ifO (h := fun i => -f i) (fun _ => rfl) (fun h => by rw [lst_oneN ((a4 i (by omega)).trans zero_lst.symm)]; exact zero_lst))
  clear a1 a2 a3 a4 a5 a6 hA hT
  skip
  go_enter Tryz.func131, Tryz.ntmps131
  go_upto_region 1 with fail
  generalize (((w).alloc (.cells #[.slice P n c] 32)).alloc (.cells #[.slice none 0 0] 32)) = w1 at *
  go_wp2_with (first | (go_at_call 134; refine SP.out.mono ?_; rintro e wa ⟨A, m, k, rfl, hA, hF, ha⟩; have q0 := cell_keep E3.out.1 ha; have q1 := ((bcell ha).2 _ 0 (World.block_lt_of_cell? _ _ E3.out.1)).trans E3.out.2; have FA := hidden hF; have HA := hidden hA; have BA := hidden (bl_trans B3.out ha); clear ha hF hA))
  refine bodyPost_ret (v := .agg #[.slice (some ⟨A, 0, none⟩) m k]) (by simp [results, Tryz.results131, go_sem, q0]) rfl (Fq.close FA.out HA.out (by have := SZ.out; omega) (by omega) BA.out FF.out)
set_option maxRecDepth 100000 in
set_option maxHeartbeats 8000000 in
theorem frTimes (VA : Value) (f : Nat → Int) (k : E4) (w : World) (hT : Tb w) (hA : Fr w VA f) (hk : k.ok) :
    Calls Tryz.prog 133 #[VA, k.v] w fun e w' => Fq w w' e (fun i => f i * k.n) := by
  obtain ⟨P, n, c, ga, rfl, a1, a2, a3, a4⟩ := id hA
  obtain ⟨sb, so, a5, a6⟩ := id a1
  have B3 := hidden (bl_trans (bl_trans (bl_alloc w (.cells #[.slice P n c] 32)) (bl_alloc _ (.cells #[.int .u64 k.x0, .int .u64 k.x1, .int .u64 k.x2, .int .u64 k.x3] 25))) (bl_alloc _ (.cells #[.slice none 0 0] 32)))
  have e1 : ((((w).alloc (.cells #[.slice P n c] 32)).alloc (.cells #[.int .u64 k.x0, .int .u64 k.x1, .int .u64 k.x2, .int .u64 k.x3] 25)).alloc (.cells #[.slice none 0 0] 32)).cell? ⟨w.heap.size, 0, none⟩ = some (.slice P n c) := by go_simp
  have k0 : ((((w).alloc (.cells #[.slice P n c] 32)).alloc (.cells #[.int .u64 k.x0, .int .u64 k.x1, .int .u64 k.x2, .int .u64 k.x3] 25)).alloc (.cells #[.slice none 0 0] 32)).cell? ⟨w.heap.size + 1, 0, none⟩ = some (.int .u64 k.x0) := by go_simp
  have k1 : ((((w).alloc (.cells #[.slice P n c] 32)).alloc (.cells #[.int .u64 k.x0, .int .u64 k.x1, .int .u64 k.x2, .int .u64 k.x3] 25)).alloc (.cells #[.slice none 0 0] 32)).cell? ⟨w.heap.size + 1, 1, none⟩ = some (.int .u64 k.x1) := by go_simp
  have k2 : ((((w).alloc (.cells #[.slice P n c] 32)).alloc (.cells #[.int .u64 k.x0, .int .u64 k.x1, .int .u64 k.x2, .int .u64 k.x3] 25)).alloc (.cells #[.slice none 0 0] 32)).cell? ⟨w.heap.size + 1, 2, none⟩ = some (.int .u64 k.x2) := by go_simp
  have k3 : ((((w).alloc (.cells #[.slice P n c] 32)).alloc (.cells #[.int .u64 k.x0, .int .u64 k.x1, .int .u64 k.x2, .int .u64 k.x3] 25)).alloc (.cells #[.slice none 0 0] 32)).cell? ⟨w.heap.size + 1, 3, none⟩ = some (.int .u64 k.x3) := by go_simp
  have E3 : Hid (((((w).alloc (.cells #[.slice P n c] 32)).alloc (.cells #[.int .u64 k.x0, .int .u64 k.x1, .int .u64 k.x2, .int .u64 k.x3] 25)).alloc (.cells #[.slice none 0 0] 32)).cell? ⟨w.heap.size + 1 + 1, 0, none⟩ = some (.slice none 0 0) ∧ ((((w).alloc (.cells #[.slice P n c] 32)).alloc (.cells #[.int .u64 k.x0, .int .u64 k.x1, .int .u64 k.x2, .int .u64 k.x3] 25)).alloc (.cells #[.slice none 0 0] 32)).frozen? ⟨w.heap.size + 1 + 1, 0, none⟩ = false) := hidden ⟨by go_simp, by go_simp⟩
  have SZ : Hid (((((w).alloc (.cells #[.slice P n c] 32)).alloc (.cells #[.int .u64 k.x0, .int .u64 k.x1, .int .u64 k.x2, .int .u64 k.x3] 25)).alloc (.cells #[.slice none 0 0] 32)).heap.size = w.heap.size + 1 + 1 + 1) := hidden (by simp only [World.size_alloc])
  have SP := hidden (spread_Times n (fun i => f i * k.n) w.heap.size (w.heap.size + 1) ((((w).alloc (.cells #[.slice P n c] 32)).alloc (.cells #[.int .u64 k.x0, .int .u64 k.x1, .int .u64 k.x2, .int .u64 k.x3] 25)).alloc (.cells #[.slice none 0 0] 32)) (hT.keep B3.out) (by omega) (fun i hi x hx => times1_any w.heap.size (w.heap.size + 1) sb so n c i ga k (f i) x (hT.keep (bl_trans B3.out hx)) hi (by rw [← a5 (by omega)]; exact cell_keep e1 hx) ((a6 (by omega)).keep (bl_trans B3.out hx)) (a3 i hi).1 (a3 i hi).2 hk (cell_keep k0 hx) (cell_keep k1 hx) (cell_keep k2 hx) (cell_keep k3 hx)))
  have FF : Hid (∀ i, lst (if i < n then f i * k.n else 0) = lst (f i * k.n)) := hidden (fun i => lst_ifO (h := fun i => f i * k.n) (fun _ => rfl) (fun h => by rw [lst_twoM ((a4 i (by omega)).trans zero_lst.symm) rfl, Int.zero_mul]; exact zero_lst))
  clear a1 a2 a3 a4 a5 a6 hA hT hk
  unfold E4.v
  go_enter Tryz.func133, Tryz.ntmps133
  go_upto_region 1 with fail
  generalize ((((w).alloc (.cells #[.slice P n c] 32)).alloc (.cells #[.int .u64 k.x0, .int .u64 k.x1, .int .u64 k.x2, .int .u64 k.x3] 25)).alloc (.cells #[.slice none 0 0] 32)) = w1 at *
  go_wp2_with (first | (go_at_call 134; refine SP.out.mono ?_; rintro e wa ⟨A, m, k, rfl, hA, hF, ha⟩; have q0 := cell_keep E3.out.1 ha; have q1 := ((bcell ha).2 _ 0 (World.block_lt_of_cell? _ _ E3.out.1)).trans E3.out.2; have FA := hidden hF; have HA := hidden hA; have BA := hidden (bl_trans B3.out ha); clear ha hF hA))
  refine bodyPost_ret (v := .agg #[.slice (some ⟨A, 0, none⟩) m k]) (by simp [results, Tryz.results133, go_sem, q0]) rfl (Fq.close FA.out HA.out (by have := SZ.out; omega) (by omega) BA.out FF.out)
set_option maxRecDepth 100000 in
set_option maxHeartbeats 8000000 in
theorem frDouble (VA : Value) (f : Nat → Int) (w : World) (hT : Tb w) (hA : Fr w VA f) :
    Calls Tryz.prog 130 #[VA] w fun e w' => Fq w w' e (fun i => f i + f i) := by
  obtain ⟨P, n, c, ga, rfl, a1⟩ := id hA
  have B3 := hidden (bl_alloc2 w (.cells #[.slice P n c] 32) (.cells #[.slice none 0 0] 32))
  have e1 : ((w.alloc (.cells #[.slice P n c] 32)).alloc (.cells #[.slice none 0 0] 32)).cell? ⟨w.heap.size, 0, none⟩ = some (.slice P n c) := by go_simp
  have E3 : Hid (((w.alloc (.cells #[.slice P n c] 32)).alloc (.cells #[.slice none 0 0] 32)).cell? ⟨w.heap.size + 1, 0, none⟩ = some (.slice none 0 0) ∧ ((w.alloc (.cells #[.slice P n c] 32)).alloc (.cells #[.slice none 0 0] 32)).frozen? ⟨w.heap.size + 1, 0, none⟩ = false) := hidden ⟨by go_simp, by go_simp⟩
  have SZ : Hid (((w.alloc (.cells #[.slice P n c] 32)).alloc (.cells #[.slice none 0 0] 32)).heap.size = w.heap.size + 1 + 1) := hidden (by simp only [World.size_alloc])
  have SP := hidden (frAdd (.agg #[.slice P n c]) (.agg #[.slice P n c]) f f ((w.alloc (.cells #[.slice P n c] 32)).alloc (.cells #[.slice none 0 0] 32)) (hT.keep B3.out) (hA.keep B3.out) (hA.keep B3.out))
  clear a1 hA hT
  go_enter Tryz.func130, Tryz.ntmps130
  go_upto_region 1 with fail
  generalize ((w.alloc (.cells #[.slice P n c] 32)).alloc (.cells #[.slice none 0 0] 32)) = w1 at *
  go_wp2_with (first | (go_at_call 129; refine SP.out.mono ?_; rintro e wa ⟨A, m, k, rfl, hA, hF, ha⟩; have q0 := cell_keep E3.out.1 ha; have q1 := ((bcell ha).2 _ 0 (World.block_lt_of_cell? _ _ E3.out.1)).trans E3.out.2; have FA := hidden hF; have HA := hidden hA; have BA := hidden (bl_trans B3.out ha); clear ha hF hA))
  refine bodyPost_ret (v := .agg #[.slice (some ⟨A, 0, none⟩) m k]) (by simp [results, Tryz.results130, go_sem, q0]) rfl (Fq.close FA.out HA.out (by have := SZ.out; omega) (by omega) BA.out (fun _ => rfl))
end Go.Proofs.YtapieajkmpnmoaaGreatDoor
namespace Go.Proofs.YtapieajkmpnmoaaGreatDoor
open Go.RowKit
set_option linter.unusedVariables false
theorem mt_AddF (P : Option Addr) (n c : Nat) (w : World) : (method 318 32 (.agg #[.slice P n c]) "Add").run Tryz.prog w = .ok (129, .agg #[.slice P n c]) w := by kernel_rfl
theorem mt_DoubleF (P : Option Addr) (n c : Nat) (w : World) : (method 318 32 (.agg #[.slice P n c]) "Double").run Tryz.prog w = .ok (130, .agg #[.slice P n c]) w := by kernel_rfl
theorem mt_NegF (P : Option Addr) (n c : Nat) (w : World) : (method 318 32 (.agg #[.slice P n c]) "Neg").run Tryz.prog w = .ok (131, .agg #[.slice P n c]) w := by kernel_rfl
/-- a hand: two numbers in a block of their own -/
def Hd (w : World) (H : Nat) : Prop := ∃ x y : Int, w.cell? ⟨H, 0, none⟩ = some (.int .i64 x) ∧ w.cell? ⟨H, 1, none⟩ = some (.int .i64 y) ∧ w.frozen? ⟨H, 0, none⟩ = false ∧ w.frozen? ⟨H, 1, none⟩ = false ∧ ∀ o, 2 ≤ o → w.cell? ⟨H, o, none⟩ = none
theorem Hd.lt {w : World} {H : Nat} (h : Hd w H) : H < w.heap.size := by obtain ⟨x, y, h0, _⟩ := h; exact World.block_lt_of_cell? w _ h0
theorem Hd.keep {w w' : World} {H : Nat} (h : Hd w H) (hb : Below w.heap.size w w') : Hd w' H := by
  have l := h.lt
  obtain ⟨x, y, h0, h1, f0, f1, h2⟩ := h
  exact ⟨x, y, cell_keep h0 hb, cell_keep h1 hb, ((bcell hb).2 H 0 l).trans f0, ((bcell hb).2 H 1 l).trans f1, fun o ho => ((bcell hb).1 H o l).trans (h2 o ho)⟩
theorem Hd.far {w : World} {H b o : Nat} {v : Value} (h : Hd w H) (hb : b ≠ H) : Hd (w.setCell ⟨b, o, none⟩ v) H := by
  obtain ⟨x, y, h0, h1, f0, f1, h2⟩ := h
  have k : ∀ j, (w.setCell ⟨b, o, none⟩ v).cell? ⟨H, j, none⟩ = w.cell? ⟨H, j, none⟩ := fun j => World.cell?_setCell_far w ⟨b, o, none⟩ ⟨H, j, none⟩ v hb
  exact ⟨x, y, (k 0).trans h0, (k 1).trans h1, by simpa using f0, by simpa using f1, fun j hj => (k j).trans (h2 j hj)⟩
theorem Hd.set {w : World} {H j : Nat} {z : Int} (h : Hd w H) (hj : j < 2) : Hd (w.setCell ⟨H, j, none⟩ (.int .i64 z)) H := by
  obtain ⟨x, y, h0, h1, f0, f1, h2⟩ := h
  obtain rfl | rfl : j = 0 ∨ j = 1 := by omega
  · exact ⟨z, y, World.cell?_setCell_same _ _ _ h0, by rw [World.cell?_setCell_other _ _ _ _ (by simp)]; exact h1, by simpa using f0, by simpa using f1, fun o ho => by rw [World.cell?_setCell_other _ _ _ _ (by simp <;> omega)]; exact h2 o ho⟩
  · exact ⟨x, z, by rw [World.cell?_setCell_other _ _ _ _ (by simp)]; exact h0, World.cell?_setCell_same _ _ _ h1, by simpa using f0, by simpa using f1, fun o ho => by rw [World.cell?_setCell_other _ _ _ _ (by simp <;> omega)]; exact h2 o ho⟩
theorem Hd.no64 {w : World} {H o : Nat} {z : Int} (h : Hd w H) (hc : w.cell? ⟨H, o, none⟩ = some (.int .u64 z)) : False := by
  obtain ⟨x, y, h0, h1, f0, f1, h2⟩ := h
  rcases Nat.lt_or_ge o 2 with h | h
  · obtain rfl | rfl : o = 0 ∨ o = 1 := by omega
    · rw [h0] at hc; simp at hc
    · rw [h1] at hc; simp at hc
  · rw [h2 o h] at hc; simp at hc
theorem Hd.tb {w : World} {H : Nat} (h : Hd w H) (hT : Tb w) : 0 ≠ H := by
  intro e
  exact h.no64 (e ▸ hT.1)
theorem gb_set (w : World) (b o : Nat) (v : Value) : w.grownBy (w.setCell ⟨b, o, none⟩ v) (some b) := ⟨rfl, rfl, rfl, by simp, fun k _ hk => heap_setCell_other w ⟨b, o, none⟩ k v (fun e => hk (by simp [e]))⟩
theorem gb_box {w wa : World} {H b o : Nat} {v : Value} (h : w.grownBy wa (some H)) (hb : w.heap.size ≤ b) : w.grownBy (wa.setCell ⟨b, o, none⟩ v) (some H) := ⟨h.os, h.tape, h.output, by simpa using h.size, fun k hk hn => (heap_setCell_other wa ⟨b, o, none⟩ k v (by simp only; omega)).trans (h.block k hk hn)⟩
theorem Fr.hand {w w' : World} {H : Nat} {V : Value} {x : Nat → Int} (h : Fr w V x) (hH : Hd w H) (hg : w.grownBy w' (some H)) : Fr w' V x := by
  refine h.keepG H hg ?_
  rintro P n c rfl hn a rfl he
  obtain ⟨P', n', c', g, h1, h2, -⟩ := h
  simp only [Value.agg.injEq, Array.mk.injEq, List.cons.injEq, Value.slice.injEq, and_true] at h1
  obtain ⟨rfl, rfl, rfl⟩ := h1
  obtain ⟨sb, so, h4, h5⟩ := h2
  have e := h4 hn
  simp only [Option.some.injEq] at e
  subst e
  simp only at he
  subst he
  exact hH.no64 ((h5 hn).c0 0 hn)
/-- an answer of a hand -/
def Hq (w w' : World) (H : Nat) (e : Ending) (x : Nat → Int) : Prop := ∃ A m c : Nat, e = .returned (.agg #[.slice (some ⟨A, 0, none⟩) m c]) ∧ w.heap.size ≤ A ∧ Fr w' (.agg #[.slice (some ⟨A, 0, none⟩) m c]) x ∧ Hd w' H ∧ w.grownBy w' (some H)
theorem Hq.close {w w3 wa : World} {H b A m k : Nat} {x : Nat → Int} {v : Value} (hA : w3.heap.size ≤ A) (hF : Fr wa (.agg #[.slice (some ⟨A, 0, none⟩) m k]) x) (hb : Below w3.heap.size w3 wa) (hH : Hd w3 H) (hg : w.grownBy w3 (some H)) (h1 : w.heap.size ≤ b) (h2 : b < w3.heap.size) (h3 : H ≠ b) : Hq w (wa.setCell ⟨b, 0, none⟩ v) H (.returned (.agg #[.slice (some ⟨A, 0, none⟩) m k])) x := by
  refine ⟨A, m, k, rfl, by have := hg.size; omega, hF.keepG b (gb_set _ _ _ _) ?_, (hH.keep hb).far (fun e => h3 e.symm), gb_box (hg.trans (gbI hb _)) h1⟩
  rintro P n c hP _ a rfl
  simp only [Value.agg.injEq, Array.mk.injEq, List.cons.injEq, Value.slice.injEq, Option.some.injEq, and_true] at hP
  obtain ⟨rfl, _⟩ := hP
  simp only
  omega
set_option maxRecDepth 100000 in
set_option maxHeartbeats 8000000 in
theorem hadd (H : Nat) (VA VB : Value) (f g : Nat → Int) (w : World) (hT : Tb w) (hH : Hd w H) (hA : Fr w VA f) (hB : Fr w VB g) :
    Calls Tryz.prog 42 #[.pointer (some ⟨H, 0, none⟩), VA, VB] w fun e w' => Hq w w' H e (fun i => f i + g i) := by
  obtain ⟨P, n, c, ga, rfl, -⟩ := id hA
  obtain ⟨Q0, n2, c2, gb, rfl, -⟩ := id hB
  have LH := hidden hH.lt
  have B2 := (bl_trans (bl_trans (bl_alloc w (.cells #[.slice P n c] 32)) (bl_alloc _ (.cells #[.slice Q0 n2 c2] 32))) (bl_alloc _ (.cells #[.slice none 0 0] 32)))
  have SZ : Hid (((((w).alloc (.cells #[.slice P n c] 32)).alloc (.cells #[.slice Q0 n2 c2] 32)).alloc (.cells #[.slice none 0 0] 32)).heap.size = w.heap.size + 1 + 1 + 1) := hidden (by simp only [World.size_alloc])
  have e0 : ((((w).alloc (.cells #[.slice P n c] 32)).alloc (.cells #[.slice Q0 n2 c2] 32)).alloc (.cells #[.slice none 0 0] 32)).cell? ⟨w.heap.size, 0, none⟩ = some (.slice P n c) := by go_simp
  have e1 : ((((w).alloc (.cells #[.slice P n c] 32)).alloc (.cells #[.slice Q0 n2 c2] 32)).alloc (.cells #[.slice none 0 0] 32)).cell? ⟨w.heap.size + 1, 0, none⟩ = some (.slice Q0 n2 c2) := by go_simp
  have e2 : ((((w).alloc (.cells #[.slice P n c] 32)).alloc (.cells #[.slice Q0 n2 c2] 32)).alloc (.cells #[.slice none 0 0] 32)).cell? ⟨w.heap.size + 1 + 1, 0, none⟩ = some (.slice none 0 0) := by go_simp
  have FZ : Hid (((((w).alloc (.cells #[.slice P n c] 32)).alloc (.cells #[.slice Q0 n2 c2] 32)).alloc (.cells #[.slice none 0 0] 32)).frozen? ⟨w.heap.size + 1 + 1, 0, none⟩ = false) := hidden (by go_simp)
  obtain ⟨w2, hw2⟩ : ∃ w2, (((w).alloc (.cells #[.slice P n c] 32)).alloc (.cells #[.slice Q0 n2 c2] 32)).alloc (.cells #[.slice none 0 0] 32) = w2 := ⟨_, rfl⟩
  rw [hw2] at B2 SZ FZ e0 e1 e2
  have H2 := hH.keep B2
  obtain ⟨x, y, h0, h1, f0, f1, h2⟩ := id H2
  obtain ⟨z, hz⟩ : ∃ z, IntKind.i64.wrap (x + 1) = z := ⟨_, rfl⟩
  have G3 := gb_set w2 H 0 (.int .i64 z)
  have H3 := hidden (H2.set (j := 0) (z := z) (by omega))
  have T3 := (hT.keep B2).keep0 G3 (H2.tb (hT.keep B2))
  have A3 := (hA.keep B2).hand H2 G3
  have B3 := (hB.keep B2).hand H2 G3
  have GW := hidden ((gbI B2 (some H)).trans G3)
  have SP := hidden (frAdd _ _ f g (w2.setCell ⟨H, 0, none⟩ (.int .i64 z)) T3 A3 B3)
  have g0 := (World.cell?_setCell_far w2 ⟨H, 0, none⟩ ⟨w.heap.size, 0, none⟩ (.int .i64 z) (by have := LH.out; simp only; omega)).trans e0
  have g1 := (World.cell?_setCell_far w2 ⟨H, 0, none⟩ ⟨w.heap.size + 1, 0, none⟩ (.int .i64 z) (by have := LH.out; simp only; omega)).trans e1
  have g2 := (World.cell?_setCell_far w2 ⟨H, 0, none⟩ ⟨w.heap.size + 1 + 1, 0, none⟩ (.int .i64 z) (by have := LH.out; simp only; omega)).trans e2
  have S3 : Hid ((w2.setCell ⟨H, 0, none⟩ (.int .i64 z)).heap.size = w.heap.size + 1 + 1 + 1) := hidden (by have := SZ.out; simpa using this)
  have F3 : Hid ((w2.setCell ⟨H, 0, none⟩ (.int .i64 z)).frozen? ⟨w.heap.size + 1 + 1, 0, none⟩ = false) := hidden (by simpa using FZ.out)
  have m1 := mt_AddF P n c
  clear G3 T3 A3 hH hT hA B2 H2 h2 hB B3
  go_enter Tryz.func42, Tryz.ntmps42
  go_upto_region 1 with fail
  go_upto_region 2 with fail
  generalize (w2.setCell ⟨H, 0, none⟩ (.int .i64 z)) = w3 at *
  clear e0 e1 e2 FZ SZ hw2 h0 h1 f0 f1
  go_wp2_with (first | (go_at_call 129; refine SP.out.mono ?_; rintro e wa ⟨A, m, k, rfl, hA, hF, ha⟩; have q0 := cell_keep g2 ha; have q1 := ((bcell ha).2 _ 0 (World.block_lt_of_cell? _ _ g2)).trans F3.out; have FA := hidden hF; have HA := hidden hA; have BA := hidden ha; clear ha hF hA))
  refine bodyPost_ret (v := .agg #[.slice (some ⟨A, 0, none⟩) m k]) (by simp [results, Tryz.results42, go_sem, q0]) rfl (Hq.close HA.out FA.out BA.out H3.out GW.out (by omega) (by have := S3.out; omega) (by have := LH.out; omega))
set_option maxRecDepth 100000 in
set_option maxHeartbeats 8000000 in
theorem hdouble (H : Nat) (VA : Value) (f : Nat → Int) (w : World) (hT : Tb w) (hH : Hd w H) (hA : Fr w VA f) :
    Calls Tryz.prog 75 #[.pointer (some ⟨H, 0, none⟩), VA] w fun e w' => Hq w w' H e (fun i => f i + f i) := by
  obtain ⟨P, n, c, ga, rfl, -⟩ := id hA
  have LH := hidden hH.lt
  have B2 := (bl_trans (bl_alloc w (.cells #[.slice P n c] 32)) (bl_alloc _ (.cells #[.slice none 0 0] 32)))
  have SZ : Hid ((((w).alloc (.cells #[.slice P n c] 32)).alloc (.cells #[.slice none 0 0] 32)).heap.size = w.heap.size + 1 + 1) := hidden (by simp only [World.size_alloc])
  have e0 : (((w).alloc (.cells #[.slice P n c] 32)).alloc (.cells #[.slice none 0 0] 32)).cell? ⟨w.heap.size, 0, none⟩ = some (.slice P n c) := by go_simp
  have e1 : (((w).alloc (.cells #[.slice P n c] 32)).alloc (.cells #[.slice none 0 0] 32)).cell? ⟨w.heap.size + 1, 0, none⟩ = some (.slice none 0 0) := by go_simp
  have FZ : Hid ((((w).alloc (.cells #[.slice P n c] 32)).alloc (.cells #[.slice none 0 0] 32)).frozen? ⟨w.heap.size + 1, 0, none⟩ = false) := hidden (by go_simp)
  obtain ⟨w2, hw2⟩ : ∃ w2, ((w).alloc (.cells #[.slice P n c] 32)).alloc (.cells #[.slice none 0 0] 32) = w2 := ⟨_, rfl⟩
  rw [hw2] at B2 SZ FZ e0 e1
  have H2 := hH.keep B2
  obtain ⟨x, y, h0, h1, f0, f1, h2⟩ := id H2
  obtain ⟨z, hz⟩ : ∃ z, IntKind.i64.wrap (y + 1) = z := ⟨_, rfl⟩
  have G3 := gb_set w2 H 1 (.int .i64 z)
  have H3 := hidden (H2.set (j := 1) (z := z) (by omega))
  have T3 := (hT.keep B2).keep0 G3 (H2.tb (hT.keep B2))
  have A3 := (hA.keep B2).hand H2 G3

  have GW := hidden ((gbI B2 (some H)).trans G3)
  have SP := hidden (frDouble _ f (w2.setCell ⟨H, 1, none⟩ (.int .i64 z)) T3 A3)
  have g0 := (World.cell?_setCell_far w2 ⟨H, 1, none⟩ ⟨w.heap.size, 0, none⟩ (.int .i64 z) (by have := LH.out; simp only; omega)).trans e0
  have g1 := (World.cell?_setCell_far w2 ⟨H, 1, none⟩ ⟨w.heap.size + 1, 0, none⟩ (.int .i64 z) (by have := LH.out; simp only; omega)).trans e1
  have S3 : Hid ((w2.setCell ⟨H, 1, none⟩ (.int .i64 z)).heap.size = w.heap.size + 1 + 1) := hidden (by have := SZ.out; simpa using this)
  have F3 : Hid ((w2.setCell ⟨H, 1, none⟩ (.int .i64 z)).frozen? ⟨w.heap.size + 1, 0, none⟩ = false) := hidden (by simpa using FZ.out)
  have m1 := mt_DoubleF P n c
  clear G3 T3 A3 hH hT hA B2 H2 h2
  go_enter Tryz.func75, Tryz.ntmps75
  go_upto_region 1 with fail
  go_upto_region 2 with fail
  generalize (w2.setCell ⟨H, 1, none⟩ (.int .i64 z)) = w3 at *
  clear e0 e1 FZ SZ hw2 h0 h1 f0 f1
  go_wp2_with (first | (go_at_call 130; refine SP.out.mono ?_; rintro e wa ⟨A, m, k, rfl, hA, hF, ha⟩; have q0 := cell_keep g1 ha; have q1 := ((bcell ha).2 _ 0 (World.block_lt_of_cell? _ _ g1)).trans F3.out; have FA := hidden hF; have HA := hidden hA; have BA := hidden ha; clear ha hF hA))
  refine bodyPost_ret (v := .agg #[.slice (some ⟨A, 0, none⟩) m k]) (by simp [results, Tryz.results75, go_sem, q0]) rfl (Hq.close HA.out FA.out BA.out H3.out GW.out (by omega) (by have := S3.out; omega) (by have := LH.out; omega))
end Go.Proofs.YtapieajkmpnmoaaGreatDoor
namespace Go.Proofs.YtapieajkmpnmoaaGreatDoor
open Go.RowKit
set_option linter.unusedVariables false
theorem wp_storeE {P : Program} {op : Oper} {a : Act} {w : World} {K : Act → World → Prop} {Q : Exit → Act → World → Prop} (ty : TypeId) (x y : Operand) (ho : op.op = .store ty x y) (b o : Nat) (cs : List Value) (hx : a.eval x = .pointer (some ⟨b, o, none⟩)) (hy : a.eval y = .agg cs.toArray) (ht : w.there b o cs.length) (hi : (P.info? ty).map (·.size) = some cs.length) (h1 : cs.toArray.all (·.oneCell') = true) (hd : op.dst = none)
    (h : ∀ w', w' = w.setCells b o cs → K a w') : op.wp P a w K Q := by
  refine wp_store_mid ty x y ho b o cs.toArray hx hy (by simpa using ht) (by simpa using hi) h1 ?_
  have := h _ rfl
  simpa [hd, Act.put] using this
theorem i1_F : (Tryz.prog.info? 32).map (·.size) = some 1 := by kernel_rfl
theorem i2_P : (Tryz.prog.info? 128).map (·.size) = some 2 := by kernel_rfl
theorem oneS (p : Option Addr) (n c : Nat) : ([.slice p n c] : List Value).toArray.all (·.oneCell') = true := by simp [Value.oneCell']
theorem range_one {w : World} {b o : Nat} {v : Value} (h : w.cell? ⟨b, o, none⟩ = some v) : w.rangeAt b o [v] := fun j u hu => by
  match j, hu with
  | 0, hu => simp at hu; subst hu; exact h
theorem there_oneO {w : World} {b o : Nat} {v : Value} (h : w.cell? ⟨b, o, none⟩ = some v) (hf : w.frozen? ⟨b, o, none⟩ = false) : w.there b o 1 := fun j hj => by
  obtain rfl : j = 0 := by omega
  exact ⟨by rw [Nat.add_zero, h]; rfl, hf⟩
theorem gb_cell_some {w w' : World} {b T : Nat} {o : Nat} (h : w.grownBy w' (some b)) (hc : (w.cell? ⟨T, o, none⟩).isSome = true) (hn : T ≠ b) : w'.cell? ⟨T, o, none⟩ = w.cell? ⟨T, o, none⟩ := by
  obtain ⟨v, hv⟩ := Option.isSome_iff_exists.1 hc
  rw [hv]; exact h.cell hv (fun e => hn (Option.some.inj e))
theorem gb_frozen_some {w w' : World} {b T : Nat} {o : Nat} (h : w.grownBy w' (some b)) (hc : (w.cell? ⟨T, o, none⟩).isSome = true) (hn : T ≠ b) : w'.frozen? ⟨T, o, none⟩ = w.frozen? ⟨T, o, none⟩ := by
  obtain ⟨v, hv⟩ := Option.isSome_iff_exists.1 hc
  exact World.frozen?_of_block (h.block T (World.block_lt_of_cell? w _ hv) (fun e => hn (Option.some.inj e)))
theorem there_gb {w w' : World} {b T o n : Nat} (h : w.there T o n) (hg : w.grownBy w' (some b)) (hn : T ≠ b) : w'.there T o n := fun j hj => ⟨by rw [gb_cell_some hg (h j hj).1 hn]; exact (h j hj).1, by rw [gb_frozen_some hg (h j hj).1 hn]; exact (h j hj).2⟩
def ly2o : Array Oper := #[{ dst := some 10, op := Op.move (Operand.tmp 0), type := 107, pos := "ways.go:33", after := #[], guard := none },
  { dst := some 11, op := Op.move (Operand.tmp 1), type := 126, pos := "ways.go:33", after := #[], guard := none },
  { dst := some 12, op := Op.nilCheck (Operand.tmp 11), type := 0, pos := "ways.go:33", after := #[{ on := 1, ground := Ground.data }], guard := none },
  { dst := some 13, op := Op.fieldAddr 128 (Operand.tmp 12) 0, type := 0, pos := "ways.go:33", after := #[{ on := 2, ground := Ground.data }], guard := none },
  { dst := some 14, op := Op.load 32 (Operand.tmp 13), type := 32, pos := "ways.go:33", after := #[{ on := 3, ground := Ground.data }], guard := none },
  { dst := some 15, op := Op.load 32 (Operand.tmp 5), type := 32, pos := "ways.go:33", after := #[], guard := none },
  { dst := some 16, op := Op.call { callee := Callee.value (Operand.func 42), args := #[Operand.tmp 10, Operand.tmp 14, Operand.tmp 15], argTypes := #[107, 32, 32] }, type := 32, pos := "ways.go:33", after := #[{ on := 0, ground := Ground.data }, { on := 4, ground := Ground.data }, { on := 5, ground := Ground.data }], guard := none },
  { dst := none, op := Op.store 32 (Operand.tmp 5) (Operand.tmp 16), type := 0, pos := "ways.go:33", after := #[{ on := 6, ground := Ground.data }, { on := 6, ground := Ground.chain }, { on := 0, ground := Ground.phase }, { on := 1, ground := Ground.phase }, { on := 2, ground := Ground.phase }, { on := 3, ground := Ground.phase }, { on := 4, ground := Ground.phase }, { on := 5, ground := Ground.phase }, { on := 6, ground := Ground.phase }], guard := none }]
set_option maxRecDepth 100000 in
set_option maxHeartbeats 16000000 in
theorem ly2 (Q : Exit → Act → World → Prop) (H D o T5 : Nat) (P0 P : Option Addr) (n0 c0 n c : Nat) (y : Nat → Int) (u2 u3 u4 u6 u7 u8 u9 u10 u11 u12 u13 u14 u15 u16 u17 u18 u19 u20 : Value) (W : World)
    (neDH : D ≠ H) (neDT : D ≠ T5) (neTH : T5 ≠ H) (cd0 : W.cell? ⟨D, o, none⟩ = some (.slice P0 n0 c0)) (cb0 : W.cell? ⟨T5, 0, none⟩ = some (.slice P n c)) (fb0 : W.frozen? ⟨T5, 0, none⟩ = false)
    (C6 : Hid (Calls Tryz.prog 42 #[.pointer (some ⟨H, 0, none⟩), .agg #[.slice P0 n0 c0], .agg #[.slice P n c]] W.drew fun e w' => Hq W.drew w' H e y))
    (HQ : Hid (∀ (A m k : Nat) (wm wz : World), W.drew.heap.size ≤ A → Fr wm (.agg #[.slice (some ⟨A, 0, none⟩) m k]) y → Hd wm H → W.drew.grownBy wm (some H) → wz = wm.setCells T5 0 [.slice (some ⟨A, 0, none⟩) m k] → Q .normal ⟨#[.pointer (some ⟨H, 0, none⟩), .pointer (some ⟨D, o, none⟩), u2, u3, u4, .pointer (some ⟨T5, 0, none⟩), u6, u7, u8, u9, .pointer (some ⟨H, 0, none⟩), .pointer (some ⟨D, o, none⟩), .pointer (some ⟨D, o, none⟩), .pointer (some ⟨D, o, none⟩), .agg #[.slice P0 n0 c0], .agg #[.slice P n c], .agg #[.slice (some ⟨A, 0, none⟩) m k], u17, u18, u19, u20], []⟩ wz)) : (Code.region 2 ly2o true).wp Tryz.prog Q ⟨#[.pointer (some ⟨H, 0, none⟩), .pointer (some ⟨D, o, none⟩), u2, u3, u4, .pointer (some ⟨T5, 0, none⟩), u6, u7, u8, u9, u10, u11, u12, u13, u14, u15, u16, u17, u18, u19, u20], []⟩ W := by
  have RG := hidden (range_one (cell_keep cb0 (bl_drew W)))
  have TH := hidden (there_keepM (there_oneO cb0 fb0) (bl_drew W))
  unfold ly2o
  refine wp_region_noPanic ?_
  refine wp_region_held_drew (S := fun x => x.cell? ⟨D, o, none⟩ = some (.slice P0 n0 c0)) (by kernel_rfl) (cell_keep cd0 (bl_drew W)) (fun hH0 => ?_)
  refine wpAnyH_take (i := 0) (oi := { dst := some 10, op := Op.move (Operand.tmp 0), type := 107, pos := "ways.go:33", after := #[], guard := none }) (v := .pointer (some ⟨H, 0, none⟩)) rfl (by kernel_rfl) (by kernel_rfl) (by kernel_rfl) (fun _ _ _ h => h) (Or.inl ⟨by rfl, fun w0 hSw => ?_⟩) hH0 ?_
  · (clear hSw; go_simp)
  simp only [Act.put, List.setIfInBounds_toArray, List.set_cons_zero, List.set_cons_succ]
  refine wpAnyH_take (i := 1) (oi := { dst := some 11, op := Op.move (Operand.tmp 1), type := 126, pos := "ways.go:33", after := #[], guard := none }) (v := .pointer (some ⟨D, o, none⟩)) rfl (by kernel_rfl) (by kernel_rfl) (by kernel_rfl) (fun _ _ _ h => h) (Or.inl ⟨by rfl, fun w0 hSw => ?_⟩) hH0 ?_
  · (clear hSw; go_simp)
  simp only [Act.put, List.setIfInBounds_toArray, List.set_cons_zero, List.set_cons_succ]
  refine wpAnyH_take (i := 2) (oi := { dst := some 12, op := Op.nilCheck (Operand.tmp 11), type := 0, pos := "ways.go:33", after := #[{ on := 1, ground := Ground.data }], guard := none }) (v := .pointer (some ⟨D, o, none⟩)) rfl (by kernel_rfl) (by kernel_rfl) (by kernel_rfl) (fun _ _ _ h => h) (Or.inl ⟨by rfl, fun w0 hSw => ?_⟩) hH0 ?_
  · (clear hSw; go_simp)
  simp only [Act.put, List.setIfInBounds_toArray, List.set_cons_zero, List.set_cons_succ]
  refine wpAnyH_take (i := 3) (oi := { dst := some 13, op := Op.fieldAddr 128 (Operand.tmp 12) 0, type := 0, pos := "ways.go:33", after := #[{ on := 2, ground := Ground.data }], guard := none }) (v := .pointer (some ⟨D, o, none⟩)) rfl (by kernel_rfl) (by kernel_rfl) (by kernel_rfl) (fun _ _ _ h => h) (Or.inl ⟨by rfl, fun w0 hSw => ?_⟩) hH0 ?_
  · (clear hSw; go_simp)
  simp only [Act.put, List.setIfInBounds_toArray, List.set_cons_zero, List.set_cons_succ]
  refine wpAnyH_take (i := 4) (oi := { dst := some 14, op := Op.load 32 (Operand.tmp 13), type := 32, pos := "ways.go:33", after := #[{ on := 3, ground := Ground.data }], guard := none }) (v := .agg #[.slice P0 n0 c0]) rfl (by kernel_rfl) (by kernel_rfl) (by kernel_rfl) (fun _ _ _ h => h) (Or.inl ⟨by rfl, fun w0 hSw => ?_⟩) hH0 ?_
  · (have hS : w0.cell? ⟨D, o, none⟩ = some (.slice P0 n0 c0) := hSw; have a0 := hS; clear hS hSw; go_simp)
  simp only [Act.put, List.setIfInBounds_toArray, List.set_cons_zero, List.set_cons_succ]
  refine wpAnyH_ready (rs := [5]) (by kernel_rfl) (by simp) ?_
  refine AllReadyH.cons (o := { dst := some 15, op := Op.load 32 (Operand.tmp 5), type := 32, pos := "ways.go:33", after := #[], guard := none }) rfl (fun K hK => ?_) AllReadyH.nil
  have HH := hidden hH0
  clear hH0
  refine wp_load_mid 32 _ rfl T5 0 (by rfl) [.slice P n c] _ RG.out Tryz.underlying32 rfl i1_F ?_
  simp only [Act.put, List.setIfInBounds_toArray, List.set_cons_zero, List.set_cons_succ]
  have SN := HH
  clear HH
  refine hK.out _ _ SN.out (fun hH1 => ?_)
  clear hK K SN
  refine wpAnyH_ready (rs := [6]) (by kernel_rfl) (by simp) ?_
  refine AllReadyH.cons (o := { dst := some 16, op := Op.call { callee := Callee.value (Operand.func 42), args := #[Operand.tmp 10, Operand.tmp 14, Operand.tmp 15], argTypes := #[107, 32, 32] }, type := 32, pos := "ways.go:33", after := #[{ on := 0, ground := Ground.data }, { on := 4, ground := Ground.data }, { on := 5, ground := Ground.data }], guard := none }) rfl (fun K hK => ?_) AllReadyH.nil
  have HH := hidden hH1
  clear hH1
  go_simp
  refine (C6.out).mono ?_
  rintro e wn2 ⟨A, m, k, rfl, hA, hF, hH, hg⟩
  have FA := hidden (hF)
  have HA := hidden (hA)
  have HG := hidden (hH)
  have GG := hidden (hg)
  replace TH := hidden (there_gb TH.out hg neTH)
  have SN := hidden (hg.cell HH.out (fun e => neDH (Option.some.inj e)))
  clear HH C6 hF hA hH hg RG
  go_wp2_with fail
  refine hK.out _ _ SN.out (fun hH2 => ?_)
  clear hK K SN
  refine wpAnyH_ready (rs := [7]) (by kernel_rfl) (by simp) ?_
  refine AllReadyH.cons (o := { dst := none, op := Op.store 32 (Operand.tmp 5) (Operand.tmp 16), type := 0, pos := "ways.go:33", after := #[{ on := 6, ground := Ground.data }, { on := 6, ground := Ground.chain }, { on := 0, ground := Ground.phase }, { on := 1, ground := Ground.phase }, { on := 2, ground := Ground.phase }, { on := 3, ground := Ground.phase }, { on := 4, ground := Ground.phase }, { on := 5, ground := Ground.phase }, { on := 6, ground := Ground.phase }], guard := none }) rfl (fun K hK => ?_) AllReadyH.nil
  have HH := hidden hH2
  clear hH2
  refine wp_storeE 32 _ _ rfl T5 0 ([.slice (some ⟨A, 0, none⟩) m k]) (by rfl) (by rfl) TH.out i1_F (oneS _ _ _) rfl (fun wn3 hw => ?_)
  have SN := hidden ((World.cell?_setCells_out T5 [.slice (some ⟨A, 0, none⟩) m k] 0 _ ⟨D, o, none⟩ (fun e => absurd e neDT)).trans HH.out)
  have HW := hidden (hw)
  rw [← hw] at SN
  clear HH hw
  refine hK.out _ _ SN.out (fun hH3 => ?_)
  clear hK K SN
  have HH := hidden hH3
  have FQ := hidden (HQ.out A m k _ _ HA.out FA.out HG.out GG.out HW.out)
  refine wpAnyH_done (by kernel_rfl) ?_ _
  refine NoPanic.normal ?_
  exact FQ.out
/-- what lay leaves -/
def Ly (w w' : World) (H D o : Nat) (x : Nat → Int) : Prop := ∃ (P : Option Addr) (n c : Nat) (wm : World), w.grownBy wm (some H) ∧ w' = (wm.setCell ⟨D, o, none⟩ (.slice P n c)).setCell ⟨D, o + 1, none⟩ (.bool true) ∧ Fr wm (.agg #[.slice P n c]) x ∧ Hd wm H
set_option maxRecDepth 100000 in
set_option maxHeartbeats 8000000 in
theorem lay_no (H D o : Nat) (V : Value) (P0 : Option Addr) (n0 c0 : Nat) (f : Nat → Int) (w : World) (hT : Tb w) (hH : Hd w H) (hV : Fr w V f) (neDH : D ≠ H) (cd0 : w.cell? ⟨D, o, none⟩ = some (.slice P0 n0 c0)) (cd1 : w.cell? ⟨D, o + 1, none⟩ = some (.bool false)) (fd0 : w.frozen? ⟨D, o, none⟩ = false) (fd1 : w.frozen? ⟨D, o + 1, none⟩ = false) :
    Calls Tryz.prog 60 #[.pointer (some ⟨H, 0, none⟩), .pointer (some ⟨D, o, none⟩), V] w fun e w' => e = .returned (.tuple #[]) ∧ Ly w w' H D o f := by
  obtain ⟨P, n, c, ga, rfl, -⟩ := id hV
  have B1 := bl_alloc w (.cells #[.slice P n c] 32)
  have LD := World.block_lt_of_cell? w _ cd0
  have a0 := cell_keep cd0 B1
  have a1 := cell_keep cd1 B1
  have a2 := ((bcell B1).2 D o LD).trans fd0
  have a3 := ((bcell B1).2 D (o + 1) LD).trans fd1
  have e1 : (w.alloc (.cells #[.slice P n c] 32)).cell? ⟨w.heap.size, 0, none⟩ = some (.slice P n c) := by go_simp
  have LY : Hid (Ly w (((w.alloc (.cells #[.slice P n c] 32)).setCell ⟨D, o, none⟩ (.slice P n c)).setCell ⟨D, o + 1, none⟩ (.bool true)) H D o f) := hidden ⟨P, n, c, _, gbI B1 _, rfl, hV.keep B1, hH.keep B1⟩
  clear hT hH hV cd0 cd1 fd0 fd1 B1
  go_enter Tryz.func60, Tryz.ntmps60
  go_upto_region 1 with fail
  generalize (w.alloc (.cells #[.slice P n c] 32)) = w1 at *
  go_wp2_with fail
  refine bodyPost_end (v := .tuple #[]) (by simp [results, Tryz.results60, go_sem]) rfl ⟨rfl, LY.out⟩
set_option maxRecDepth 100000 in
set_option maxHeartbeats 8000000 in
theorem lay_on (H D o : Nat) (V : Value) (P0 : Option Addr) (n0 c0 : Nat) (f g : Nat → Int) (w : World) (hT : Tb w) (hH : Hd w H) (hV : Fr w V f) (hP : Fr w (.agg #[.slice P0 n0 c0]) g) (neDH : D ≠ H) (cd0 : w.cell? ⟨D, o, none⟩ = some (.slice P0 n0 c0)) (cd1 : w.cell? ⟨D, o + 1, none⟩ = some (.bool true)) (fd0 : w.frozen? ⟨D, o, none⟩ = false) (fd1 : w.frozen? ⟨D, o + 1, none⟩ = false) :
    Calls Tryz.prog 60 #[.pointer (some ⟨H, 0, none⟩), .pointer (some ⟨D, o, none⟩), V] w fun e w' => e = .returned (.tuple #[]) ∧ Ly w w' H D o (fun i => g i + f i) := by
  obtain ⟨P, n, c, ga, rfl, -⟩ := id hV
  have B1 := bl_alloc w (.cells #[.slice P n c] 32)
  have LD := World.block_lt_of_cell? w _ cd0
  have LH := hH.lt
  have a0 := cell_keep cd0 B1
  have a1 := cell_keep cd1 B1
  have a2 := ((bcell B1).2 D o LD).trans fd0
  have a3 := ((bcell B1).2 D (o + 1) LD).trans fd1
  have e1 : (w.alloc (.cells #[.slice P n c] 32)).cell? ⟨w.heap.size, 0, none⟩ = some (.slice P n c) := by go_simp
  have e2 : (w.alloc (.cells #[.slice P n c] 32)).frozen? ⟨w.heap.size, 0, none⟩ = false := by go_simp
  have SZ : Hid ((w.alloc (.cells #[.slice P n c] 32)).heap.size = w.heap.size + 1) := hidden (by simp only [World.size_alloc])
  have BD := bl_trans B1 (bl_drew _)
  have C6 := hidden (hadd H _ _ g f (w.alloc (.cells #[.slice P n c] 32)).drew (hT.keep BD) (hH.keep BD) (hP.keep BD) (hV.keep BD))
  have GB := hidden (gbI BD (some H))
  clear hT hH hV hP cd0 cd1 fd0 fd1 B1 BD
  go_enter Tryz.func60, Tryz.ntmps60
  go_upto_region 1 with fail
  generalize (w.alloc (.cells #[.slice P n c] 32)) = w1 at *
  go_upto_region 2 with fail
  refine ly2 _ H D o w.heap.size P0 P n0 c0 n c (fun i => g i + f i) _ _ _ _ _ _ _ _ _ _ _ _ _ _ _ _ _ _ w1 neDH (by simp only at LD; omega) (by omega) a0 e1 e2 C6 (hidden ?_)
  intro A m k wm wz hA hF hH hg hw
  have hw1 : wz = wm.setCell ⟨w.heap.size, 0, none⟩ (.slice (some ⟨A, 0, none⟩) m k) := hw
  have nD : w.heap.size ≠ D := by simp only at LD; omega
  have hb := hg.cell (cell_keep e1 (bl_drew w1)) (fun e => absurd (Option.some.inj e) (show w.heap.size ≠ H by omega))
  have k0 : wz.cell? ⟨D, o, none⟩ = some (.slice P0 n0 c0) := by rw [hw1, World.cell?_setCell_far _ _ _ _ nD]; exact hg.cell (cell_keep a0 (bl_drew w1)) (fun e => neDH (Option.some.inj e))
  have k1 : wz.cell? ⟨D, o + 1, none⟩ = some (.bool true) := by rw [hw1, World.cell?_setCell_far _ _ _ _ nD]; exact hg.cell (cell_keep a1 (bl_drew w1)) (fun e => neDH (Option.some.inj e))
  have k2 : wz.frozen? ⟨D, o, none⟩ = false := by rw [hw1, World.frozen?_setCell, gb_frozen_some hg (by rw [cell_keep a0 (bl_drew w1)]; rfl) neDH]; simpa using a2
  have k3 : wz.frozen? ⟨D, o + 1, none⟩ = false := by rw [hw1, World.frozen?_setCell, gb_frozen_some hg (by rw [cell_keep a1 (bl_drew w1)]; rfl) neDH]; simpa using a3
  have k4 : wz.cell? ⟨w.heap.size, 0, none⟩ = some (.slice (some ⟨A, 0, none⟩) m k) := by rw [hw1]; exact World.cell?_setCell_same _ _ _ hb
  have GZ : w.grownBy wz (some H) := by rw [hw1]; exact gb_box (GB.out.trans hg) (Nat.le_refl _)
  have FZ : Fr wz (.agg #[.slice (some ⟨A, 0, none⟩) m k]) (fun i => g i + f i) := by
    rw [hw1]
    refine hF.keepG w.heap.size (gb_set _ _ _ _) ?_
    rintro P n c hP _ a rfl
    simp only [Value.agg.injEq, Array.mk.injEq, List.cons.injEq, Value.slice.injEq, Option.some.injEq, and_true] at hP
    obtain ⟨rfl, _⟩ := hP
    have := SZ.out
    simp only [World.drew] at hA
    simp only
    omega
  have HZ : Hd wz H := by rw [hw1]; exact hH.far (by omega)
  have LY : Hid (Ly w ((wz.setCell ⟨D, o, none⟩ (.slice (some ⟨A, 0, none⟩) m k)).setCell ⟨D, o + 1, none⟩ (.bool true)) H D o (fun i => g i + f i)) := hidden ⟨_, _, _, wz, GZ, rfl, FZ, HZ⟩
  clear GZ FZ HZ hw hw1 hF hH hg hA hb a0 a1 a2 a3 e1 e2 C6 GB SZ
  go_wp2_with fail
  refine bodyPost_end (v := .tuple #[]) (by simp [results, Tryz.results60, go_sem]) rfl ⟨rfl, LY.out⟩
end Go.Proofs.YtapieajkmpnmoaaGreatDoor
