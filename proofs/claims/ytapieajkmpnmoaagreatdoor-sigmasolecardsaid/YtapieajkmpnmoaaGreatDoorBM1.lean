import Derived.Test.YtapieajkmpnmoaaGreatDoorOM3
import Derived.Test.YtapieajkmpnmoaaGreatDoorOM1
namespace Go.Proofs.YtapieajkmpnmoaaGreatDoor
open Go.RowKit
set_option linter.unusedVariables false
/-- an element of Free whose scalars are in least form -/
def Fl (w : World) (V : Value) (x : Nat → Int) : Prop := ∃ (P : Option Addr) (n c : Nat) (g : Nat → E4), V = .agg #[.slice P n c] ∧ Lm w P n g ∧ n ≤ 4398046510976 ∧ (∀ i, i < n → g i = lst (x i)) ∧ (∀ i, n ≤ i → lst (x i) = zero4)
theorem Fl.fr {w : World} {V : Value} {x : Nat → Int} (h : Fl w V x) : Fr w V x := by
  obtain ⟨P, n, c, g, h1, h2, h3, h4, h5⟩ := h
  exact ⟨P, n, c, g, h1, h2, h3, fun i hi => by rw [h4 i hi]; exact ⟨lst_ok _, lst_n' _⟩, h5⟩
theorem Fl.congr {w : World} {V : Value} {x y : Nat → Int} (h : Fl w V x) (e : ∀ i, lst (x i) = lst (y i)) : Fl w V y := by
  obtain ⟨P, n, c, g, h1, h2, h3, h4, h5⟩ := h
  exact ⟨P, n, c, g, h1, h2, h3, fun i hi => (h4 i hi).trans (e i), fun i hi => (e i).symm.trans (h5 i hi)⟩
theorem Fl.keep {w w' : World} {V : Value} {x : Nat → Int} (h : Fl w V x) (hb : Below w.heap.size w w') : Fl w' V x := by
  obtain ⟨P, n, c, g, h1, h2, h3⟩ := h
  exact ⟨P, n, c, g, h1, h2.keep hb, h3⟩
theorem Fl.kept {W W' : World} {V : Value} {x : Nat → Int} (h : Fl W V x) (k : ∀ (a : Addr) (v : Value), W.cell? a = some v → W'.cell? a = some v) : Fl W' V x := by
  obtain ⟨P, n, c, g, rfl, h2, h3⟩ := h
  obtain ⟨sb, so, h4, h5⟩ := h2
  refine ⟨P, n, c, g, rfl, ⟨sb, so, h4, fun hp => ?_⟩, h3⟩
  have r := h5 hp
  exact ⟨fun i hi => k _ _ (r.c0 i hi), fun i hi => k _ _ (r.c1 i hi), fun i hi => k _ _ (r.c2 i hi), fun i hi => k _ _ (r.c3 i hi)⟩
/-- an answer that is such an element, in new memory -/
def FqL (w w' : World) (e : Ending) (x : Nat → Int) : Prop := ∃ A m c : Nat, e = .returned (.agg #[.slice (some ⟨A, 0, none⟩) m c]) ∧ w.heap.size ≤ A ∧ Fl w' (.agg #[.slice (some ⟨A, 0, none⟩) m c]) x ∧ Below w.heap.size w w'
def HqL (w w' : World) (H : Nat) (e : Ending) (x : Nat → Int) : Prop := ∃ A m c : Nat, e = .returned (.agg #[.slice (some ⟨A, 0, none⟩) m c]) ∧ w.heap.size ≤ A ∧ Fl w' (.agg #[.slice (some ⟨A, 0, none⟩) m c]) x ∧ Hd w' H ∧ w.grownBy w' (some H)
theorem Fl.keepG {w w' : World} {V : Value} {x : Nat → Int} (h : Fl w V x) (b : Nat) (hb : w.grownBy w' (some b)) (hn : ∀ (P : Option Addr) (n c : Nat), V = .agg #[.slice P n c] → 0 < n → ∀ a, P = some a → a.block ≠ b) : Fl w' V x := by
  obtain ⟨P, n, c, g, rfl, h2, h3⟩ := h
  obtain ⟨sb, so, h4, h5⟩ := h2
  refine ⟨P, n, c, g, rfl, ⟨sb, so, h4, fun hp => ?_⟩, h3⟩
  have ne := hn P n c rfl hp _ (h4 hp)
  have r := h5 hp
  have k : ∀ {j : Nat} {v : Value}, w.cell? ⟨sb, j, none⟩ = some v → w'.cell? ⟨sb, j, none⟩ = some v := fun hc => hb.cell hc (fun e => ne (Option.some.inj e))
  exact ⟨fun i hi => k (r.c0 i hi), fun i hi => k (r.c1 i hi), fun i hi => k (r.c2 i hi), fun i hi => k (r.c3 i hi)⟩
set_option maxRecDepth 100000 in
set_option maxHeartbeats 8000000 in
theorem spread_AddL (m : Nat) (h : Nat → Int) (A B : Nat) (w : World) (hT : Tb w) (hm : m ≤ 4398046510976) (hC : ∀ i, i < m → ∀ x, Below w.heap.size w x → Calls Tryz.prog 135 #[.int .i64 (i : Int), .pointer (some ⟨A, 0, none⟩), .pointer (some ⟨B, 0, none⟩)] x fun e w' => e = .returned (lst (h i)).v ∧ Below x.heap.size x w') :
    Calls Tryz.prog 134 #[.int .i64 (m : Int), .func (.func 135) #[] #[.pointer (some ⟨A, 0, none⟩), .pointer (some ⟨B, 0, none⟩)]] w fun e w' => FqL w w' e (fun i => if i < m then h i else 0) := by
  have nn0 : (0 : Int) ≤ (m : Int) := by omega
  obtain ⟨i0, hi, hz0, hz1, hz2⟩ := info_parts sinfoG
  have hmk := fun w => run_make (P := Tryz.prog) w 22 25 i0 (.agg #[.int .u64 0, .int .u64 0, .int .u64 0, .int .u64 0]) (by kernel_rfl) hi hz0 .i64 .i64 (m : Int) (m : Int) (by omega) (Int.le_refl _) (by rw [hz2]; omega) (by omega)
  have tn : ((m : Int)).toNat = m := by omega
  simp only [tn, hz1, Value.cells] at hmk
  clear tn
  have R0 := hidden (Rm.made (w.alloc (.cells #[.slice none 0 0] 32)) m 25)
  have B0 := hidden (bl_alloc2 w (.cells #[.slice none 0 0] 32) (.cells (madeCells #[.int .u64 0, .int .u64 0, .int .u64 0, .int .u64 0] (m * 4)) 25))
  have K0 : Hid (((w.alloc (.cells #[.slice none 0 0] 32)).alloc (.cells (madeCells #[.int .u64 0, .int .u64 0, .int .u64 0, .int .u64 0] (m * 4)) 25)).cell? ⟨w.heap.size, 0, none⟩ = some (.slice none 0 0)) := hidden (cell_keep (by rw [cell_of_row _ _ _ _ _ (0, 0) (heap_alloc_new w _)]; rfl) (bl_alloc _ _))
  have KF : Hid (((w.alloc (.cells #[.slice none 0 0] 32)).alloc (.cells (madeCells #[.int .u64 0, .int .u64 0, .int .u64 0, .int .u64 0] (m * 4)) 25)).frozen? ⟨w.heap.size, 0, none⟩ = false) := hidden (by go_simp)
  simp only [World.size_alloc] at R0
  have HM := hidden hm
  have HC := hidden hC
  have HT := hidden hT
  clear hi hz0 hz1 hz2 hm hC hT
  go_enter Tryz.func134, Tryz.ntmps134
  go_upto_region 2 with fail
  generalize ((w.alloc (.cells #[.slice none 0 0] 32)).alloc (.cells (madeCells #[.int .u64 0, .int .u64 0, .int .u64 0, .int .u64 0] (m * 4)) 25)) = w1 at *
  clear hmk
  go_wp2_with fail
  go_loopw [11] (fun iv w' => ∃ i : Nat, i ≤ m ∧ iv = .int .i64 i ∧ Hid (Rm w' (w.heap.size + 1) m (fun j => if j < i then lst (h j) else ⟨0, 0, 0, 0⟩)) ∧ Hid (Below w.heap.size w w') ∧ Hid (w'.cell? ⟨w.heap.size, 0, none⟩ = some (.slice none 0 0)) ∧ Hid (w'.frozen? ⟨w.heap.size, 0, none⟩ = false)) (fun i _ => m - (intOf i).toNat)
  case atStart => exact ⟨0, by omega, rfl, hidden R0.out, B0, K0, KF⟩
  case round =>
    clear R0 B0 K0 KF
    obtain ⟨i, hi, rfl, R0, B0, K0, KF⟩ := hrel
    by_cases hin : i < m
    · have ii0 : (0 : Int) ≤ (i : Int) := by omega
      have ii1 : (i : Int) < (m : Int) := by omega
      have w9 : IntKind.i64.wrap ((i : Int) + 1) = (i : Int) + 1 := IntWalk.i64_in _ (by have := HM.out; omega)
      have CC := hidden (HC.out i hin wr B0.out)
      obtain ⟨z, hz⟩ : ∃ z, lst (h i) = z := ⟨_, rfl⟩
      have HZ := hidden hz
      rw [hz] at CC
      have HIN := hidden hin
      simp only [E4.v] at CC
      clear hz hin
      go_wp2_with (first | (go_at_call 135; refine CC.out.mono ?_; rintro e wa ⟨rfl, ha⟩; have RM := R0.out.keep ha; have b0 := RM.r.c0 i HIN.out; have b1 := RM.r.c1 i HIN.out; have b2 := RM.r.c2 i HIN.out; have b3 := RM.r.c3 i HIN.out; have f0 := RM.fr (i * 4) (by have := HIN.out; omega); have f1 := RM.fr (i * 4 + 1) (by have := HIN.out; omega); have f2 := RM.fr (i * 4 + 2) (by have := HIN.out; omega); have f3 := RM.fr (i * 4 + 3) (by have := HIN.out; omega); rw [Nat.zero_add] at b0 b1 b2 b3; have RN := hidden (RM.set i HIN.out z); have BN := hidden (setS_bel (o := i * 4) (x := z) (bl_trans B0.out ha) (show w.heap.size ≤ w.heap.size + 1 by omega)); have KN : Hid ((setS wa (w.heap.size + 1) (i * 4) z).cell? ⟨w.heap.size, 0, none⟩ = some (.slice none 0 0)) := hidden ((setS_far0 wa (w.heap.size + 1) (i * 4) z ⟨w.heap.size, 0, none⟩ (by simp)).trans (cell_keep K0.out ha)); have KG : Hid ((setS wa (w.heap.size + 1) (i * 4) z).frozen? ⟨w.heap.size, 0, none⟩ = false) := hidden (by rw [setS_frozen]; exact ((bcell ha).2 w.heap.size 0 (World.block_lt_of_cell? wr _ K0.out)).trans KF.out); clear ha RM CC R0 B0 K0 KF; unfold setS at RN BN KN KG; generalize (if i < i then lst (h i) else (⟨0, 0, 0, 0⟩ : E4)) = zz at *))
      go_roundw
      case rel => exact ⟨i + 1, by have := HIN.out; omega, by go_num, hidden (by
        have e : (fun j => if j = i then z else if j < i then lst (h j) else (⟨0, 0, 0, 0⟩ : E4)) = (fun j => if j < i + 1 then lst (h j) else ⟨0, 0, 0, 0⟩) := by
          funext j
          by_cases e1 : j = i
          · subst e1; rw [if_pos rfl, if_pos (by omega)]; exact HZ.out.symm
          · rw [if_neg e1]
            by_cases e2 : j < i
            · rw [if_pos e2, if_pos (by omega)]
            · rw [if_neg e2, if_neg (by omega)]
        rw [← e]; exact RN.out), BN, KN, KG⟩
      case measure => have := HIN.out; simp [intOf]; omega
    · have hin : m = i := by omega
      subst hin
      have lq : ¬ (m : Int) < (m : Int) := by omega
      have SH := hidden (shorn_any (w.heap.size + 1) m m _ wr (HT.out.keep B0.out) HM.out (Nat.le_refl _) R0.out.r (fun i hi => by
        show (if i < m then lst (h i) else (⟨0, 0, 0, 0⟩ : E4)).ok
        rw [if_pos hi]; exact lst_ok _))
      go_wp2_with (first | (go_at_call 139; refine SH.out.mono ?_; rintro e wa ⟨mm, rfl, hmm, hz, ha⟩; have RL := hidden (R0.out.r.keep ha); have BA := hidden (bl_trans B0.out ha); have k0 := cell_keep K0.out ha; have kf := ((bcell ha).2 w.heap.size 0 (World.block_lt_of_cell? wr _ K0.out)).trans KF.out; have HZ := hidden hz; have HMM := hidden hmm; clear hz hmm ha SH))
      refine bodyPost_ret (v := .agg #[.slice (some ⟨w.heap.size + 1, 0, none⟩) mm m]) (by simp [results, Tryz.results134, go_sem, k0]) rfl ⟨w.heap.size + 1, mm, m, rfl, by omega, ⟨some ⟨w.heap.size + 1, 0, none⟩, mm, m, _, rfl, ⟨w.heap.size + 1, 0, fun _ => rfl, fun _ => (RL.out.far _ (by simp)).less HMM.out⟩, by have := HM.out; have := HMM.out; omega, fun i hi => ?_, fun i hi => ?_⟩, BA.out.setCell (Nat.le_refl _) _⟩
      · have h1 : i < m := Nat.lt_of_lt_of_le hi HMM.out
        show (if i < m then lst (h i) else (⟨0, 0, 0, 0⟩ : E4)) = lst (if i < m then h i else 0)
        rw [if_pos h1, if_pos h1]
      · show lst (if i < m then h i else 0) = zero4
        by_cases h1 : i < m
        · have := HZ.out i hi h1
          simp only [if_pos h1] at this
          rw [if_pos h1, ← this, lst_n']
        · rw [if_neg h1]; exact zero_lst
theorem FqL.close {w w1 wa : World} {b A m k : Nat} {x y : Nat → Int} {v : Value} (h : Fl wa (.agg #[.slice (some ⟨A, 0, none⟩) m k]) x) (hA : w1.heap.size ≤ A) (hb : b < w1.heap.size) (hw : w.heap.size ≤ b) (hB : Below w.heap.size w wa) (he : ∀ i, lst (x i) = lst (y i)) : FqL w (wa.setCell ⟨b, 0, none⟩ v) (.returned (.agg #[.slice (some ⟨A, 0, none⟩) m k])) y := by
  refine ⟨A, m, k, rfl, by omega, (h.keepG (w' := wa.setCell ⟨b, 0, none⟩ v) b ⟨rfl, rfl, rfl, by simp, fun k _ hk => heap_setCell_other wa ⟨b, 0, none⟩ k v (fun e => hk (by simp [e]))⟩ ?_).congr he, hB.setCell hw _⟩
  rintro P n c hP _ a rfl
  simp only [Value.agg.injEq, Array.mk.injEq, List.cons.injEq, Value.slice.injEq, Option.some.injEq, and_true] at hP
  obtain ⟨rfl, _⟩ := hP
  simp only
  omega
set_option maxRecDepth 100000 in
set_option maxHeartbeats 8000000 in
theorem frAddL (VA VB : Value) (f g : Nat → Int) (w : World) (hT : Tb w) (hA : Fr w VA f) (hB : Fr w VB g) :
    Calls Tryz.prog 129 #[VA, VB] w fun e w' => FqL w w' e (fun i => f i + g i) := by
  obtain ⟨P, n, c, ga, rfl, a1, a2, a3, a4⟩ := id hA
  obtain ⟨Q0, n2, c2, gb, rfl, b1, b2, b3, b4⟩ := id hB
  have B3 := hidden (bl_trans (bl_alloc2 w (.cells #[.slice P n c] 32) (.cells #[.slice Q0 n2 c2] 32)) (bl_alloc _ (.cells #[.slice none 0 0] 32)))
  have e1 : (((w.alloc (.cells #[.slice P n c] 32)).alloc (.cells #[.slice Q0 n2 c2] 32)).alloc (.cells #[.slice none 0 0] 32)).cell? ⟨w.heap.size, 0, none⟩ = some (.slice P n c) := by go_simp
  have e2 : (((w.alloc (.cells #[.slice P n c] 32)).alloc (.cells #[.slice Q0 n2 c2] 32)).alloc (.cells #[.slice none 0 0] 32)).cell? ⟨w.heap.size + 1, 0, none⟩ = some (.slice Q0 n2 c2) := by go_simp
  have E3 : Hid ((((w.alloc (.cells #[.slice P n c] 32)).alloc (.cells #[.slice Q0 n2 c2] 32)).alloc (.cells #[.slice none 0 0] 32)).cell? ⟨w.heap.size + 1 + 1, 0, none⟩ = some (.slice none 0 0) ∧ (((w.alloc (.cells #[.slice P n c] 32)).alloc (.cells #[.slice Q0 n2 c2] 32)).alloc (.cells #[.slice none 0 0] 32)).frozen? ⟨w.heap.size + 1 + 1, 0, none⟩ = false) := hidden ⟨by go_simp, by go_simp⟩
  have SZ : Hid ((((w.alloc (.cells #[.slice P n c] 32)).alloc (.cells #[.slice Q0 n2 c2] 32)).alloc (.cells #[.slice none 0 0] 32)).heap.size = w.heap.size + 1 + 1 + 1) := hidden (by simp only [World.size_alloc])
  have SP := hidden (spread_AddL (max n n2) (fun i => f i + g i) w.heap.size (w.heap.size + 1) (((w.alloc (.cells #[.slice P n c] 32)).alloc (.cells #[.slice Q0 n2 c2] 32)).alloc (.cells #[.slice none 0 0] 32)) (hT.keep B3.out) (by omega) (fun i hi x hx => add1_any w.heap.size (w.heap.size + 1) P Q0 n c n2 c2 i f g x (hT.keep (bl_trans B3.out hx)) (by omega) (cell_keep e1 hx) (cell_keep e2 hx) (hA.keep (bl_trans B3.out hx)) (hB.keep (bl_trans B3.out hx))))
  have FF : Hid (∀ i, lst (if i < max n n2 then f i + g i else 0) = lst (f i + g i)) := hidden (fun i => lst_ifO (h := fun i => f i + g i) (fun _ => rfl) (fun h => by rw [lst_two ((a4 i (by omega)).trans zero_lst.symm) ((b4 i (by omega)).trans zero_lst.symm)]; exact zero_lst))
  clear a1 a2 a3 a4 b1 b2 b3 b4 hA hB hT
  by_cases hlt : n < n2
  · rw [show max n n2 = n2 by omega] at SP FF
    have il : (n : Int) < (n2 : Int) := by omega
    go_enter Tryz.func129, Tryz.ntmps129
    go_upto_region 1 with fail
    generalize (((w.alloc (.cells #[.slice P n c] 32)).alloc (.cells #[.slice Q0 n2 c2] 32)).alloc (.cells #[.slice none 0 0] 32)) = w1 at *
    go_wp2_with (first | (go_at_call 134; refine SP.out.mono ?_; rintro e wa ⟨A, m, k, rfl, hA, hF, ha⟩; have q0 := cell_keep E3.out.1 ha; have q1 := ((bcell ha).2 _ 0 (World.block_lt_of_cell? _ _ E3.out.1)).trans E3.out.2; have FA := hidden hF; have HA := hidden hA; have BA := hidden (bl_trans B3.out ha); clear ha hF hA))
    refine bodyPost_ret (v := .agg #[.slice (some ⟨A, 0, none⟩) m k]) (by simp [results, Tryz.results129, go_sem, q0]) rfl (FqL.close FA.out HA.out (by have := SZ.out; omega) (by omega) BA.out FF.out)
  · rw [show max n n2 = n by omega] at SP FF
    have il : ¬ (n : Int) < (n2 : Int) := by omega
    go_enter Tryz.func129, Tryz.ntmps129
    go_upto_region 1 with fail
    generalize (((w.alloc (.cells #[.slice P n c] 32)).alloc (.cells #[.slice Q0 n2 c2] 32)).alloc (.cells #[.slice none 0 0] 32)) = w1 at *
    go_wp2_with (first | (go_at_call 134; refine SP.out.mono ?_; rintro e wa ⟨A, m, k, rfl, hA, hF, ha⟩; have q0 := cell_keep E3.out.1 ha; have q1 := ((bcell ha).2 _ 0 (World.block_lt_of_cell? _ _ E3.out.1)).trans E3.out.2; have FA := hidden hF; have HA := hidden hA; have BA := hidden (bl_trans B3.out ha); clear ha hF hA))
    refine bodyPost_ret (v := .agg #[.slice (some ⟨A, 0, none⟩) m k]) (by simp [results, Tryz.results129, go_sem, q0]) rfl (FqL.close FA.out HA.out (by have := SZ.out; omega) (by omega) BA.out FF.out)
theorem HqL.close {w w3 wa : World} {H b A m k : Nat} {x : Nat → Int} {v : Value} (hA : w3.heap.size ≤ A) (hF : Fl wa (.agg #[.slice (some ⟨A, 0, none⟩) m k]) x) (hb : Below w3.heap.size w3 wa) (hH : Hd w3 H) (hg : w.grownBy w3 (some H)) (h1 : w.heap.size ≤ b) (h2 : b < w3.heap.size) (h3 : H ≠ b) : HqL w (wa.setCell ⟨b, 0, none⟩ v) H (.returned (.agg #[.slice (some ⟨A, 0, none⟩) m k])) x := by
  refine ⟨A, m, k, rfl, by have := hg.size; omega, hF.keepG b (gb_set _ _ _ _) ?_, (hH.keep hb).far (fun e => h3 e.symm), gb_box (hg.trans (gbI hb _)) h1⟩
  rintro P n c hP _ a rfl
  simp only [Value.agg.injEq, Array.mk.injEq, List.cons.injEq, Value.slice.injEq, Option.some.injEq, and_true] at hP
  obtain ⟨rfl, _⟩ := hP
  simp only
  omega
set_option maxRecDepth 100000 in
set_option maxHeartbeats 8000000 in
theorem haddL (H : Nat) (VA VB : Value) (f g : Nat → Int) (w : World) (hT : Tb w) (hH : Hd w H) (hA : Fr w VA f) (hB : Fr w VB g) :
    Calls Tryz.prog 42 #[.pointer (some ⟨H, 0, none⟩), VA, VB] w fun e w' => HqL w w' H e (fun i => f i + g i) := by
  obtain ⟨P, n, c, ga, rfl, -⟩ := id hA
  obtain ⟨Q0, n2, c2, gb, rfl, -⟩ := id hB
  have LH := hidden hH.lt
  have B2 := (bl_trans (bl_trans (bl_alloc w (.cells #[.slice P n c] 32)) (bl_alloc _ (.cells #[.slice Q0 n2 c2] 32))) (bl_alloc _ (.cells #[.slice none 0 0] 32)))
  have SZ : Hid (((((w).alloc (.cells #[.slice P n c] 32)).alloc (.cells #[.slice Q0 n2 c2] 32)).alloc (.cells #[.slice none 0 0] 32)).heap.size = w.heap.size + 1 + 1 + 1) := hidden (by simp only [World.size_alloc])
  have e0 : ((((w).alloc (.cells #[.slice P n c] 32)).alloc (.cells #[.slice Q0 n2 c2] 32)).alloc (.cells #[.slice none 0 0] 32)).cell? ⟨w.heap.size, 0, none⟩ = some (.slice P n c) := by go_simp
  have e1 : ((((w).alloc (.cells #[.slice P n c] 32)).alloc (.cells #[.slice Q0 n2 c2] 32)).alloc (.cells #[.slice none 0 0] 32)).cell? ⟨w.heap.size + 1, 0, none⟩ = some (.slice Q0 n2 c2) := by go_simp
  have e2 : ((((w).alloc (.cells #[.slice P n c] 32)).alloc (.cells #[.slice Q0 n2 c2] 32)).alloc (.cells #[.slice none 0 0] 32)).cell? ⟨w.heap.size + 1 + 1, 0, none⟩ = some (.slice none 0 0) := by go_simp
  have FZ : Hid (((((w).alloc (.cells #[.slice P n c] 32)).alloc (.cells #[.slice Q0 n2 c2] 32)).alloc (.cells #[.slice none 0 0] 32)).frozen? ⟨w.heap.size + 1 + 1, 0, none⟩ = false) := hidden (by go_simp)
  obtain ⟨w2, hw2⟩ : ∃ w2, (((w).alloc (.cells #[.slice P n c] 32)).alloc (.cells #[.slice Q0 n2 c2] 32)).alloc (.cells #[.slice none 0 0] 32) = w2 := ⟨_, rfl⟩
  rw [hw2] at B2 SZ FZ e0 e1 e2
  have H2 := hH.keep B2
  obtain ⟨x, y, h0, h1, f0, f1, h2⟩ := id H2
  obtain ⟨z, hz⟩ : ∃ z, IntKind.i64.wrap (x + 1) = z := ⟨_, rfl⟩
  have G3 := gb_set w2 H 0 (.int .i64 z)
  have H3 := hidden (H2.set (j := 0) (z := z) (by omega))
  have T3 := (hT.keep B2).keep0 G3 (H2.tb (hT.keep B2))
  have A3 := (hA.keep B2).hand H2 G3
  have B3 := (hB.keep B2).hand H2 G3
  have GW := hidden ((gbI B2 (some H)).trans G3)
  have SP := hidden (frAddL _ _ f g (w2.setCell ⟨H, 0, none⟩ (.int .i64 z)) T3 A3 B3)
  have g0 := (World.cell?_setCell_far w2 ⟨H, 0, none⟩ ⟨w.heap.size, 0, none⟩ (.int .i64 z) (by have := LH.out; simp only; omega)).trans e0
  have g1 := (World.cell?_setCell_far w2 ⟨H, 0, none⟩ ⟨w.heap.size + 1, 0, none⟩ (.int .i64 z) (by have := LH.out; simp only; omega)).trans e1
  have g2 := (World.cell?_setCell_far w2 ⟨H, 0, none⟩ ⟨w.heap.size + 1 + 1, 0, none⟩ (.int .i64 z) (by have := LH.out; simp only; omega)).trans e2
  have S3 : Hid ((w2.setCell ⟨H, 0, none⟩ (.int .i64 z)).heap.size = w.heap.size + 1 + 1 + 1) := hidden (by have := SZ.out; simpa using this)
  have F3 : Hid ((w2.setCell ⟨H, 0, none⟩ (.int .i64 z)).frozen? ⟨w.heap.size + 1 + 1, 0, none⟩ = false) := hidden (by simpa using FZ.out)
  have m1 := mt_AddF P n c
  clear G3 T3 A3 hH hT hA B2 H2 h2 hB B3
  go_enter Tryz.func42, Tryz.ntmps42
  go_upto_region 1 with fail
  go_upto_region 2 with fail
  generalize (w2.setCell ⟨H, 0, none⟩ (.int .i64 z)) = w3 at *
  clear e0 e1 e2 FZ SZ hw2 h0 h1 f0 f1
  go_wp2_with (first | (go_at_call 129; refine SP.out.mono ?_; rintro e wa ⟨A, m, k, rfl, hA, hF, ha⟩; have q0 := cell_keep g2 ha; have q1 := ((bcell ha).2 _ 0 (World.block_lt_of_cell? _ _ g2)).trans F3.out; have FA := hidden hF; have HA := hidden hA; have BA := hidden ha; clear ha hF hA))
  refine bodyPost_ret (v := .agg #[.slice (some ⟨A, 0, none⟩) m k]) (by simp [results, Tryz.results42, go_sem, q0]) rfl (HqL.close HA.out FA.out BA.out H3.out GW.out (by omega) (by have := S3.out; omega) (by have := LH.out; omega))
end Go.Proofs.YtapieajkmpnmoaaGreatDoor
namespace Go.Proofs.YtapieajkmpnmoaaGreatDoor
open Go.RowKit Go.Shelf
attribute [local go_sem] Oper.semAt_some
set_option linter.unusedVariables false
/-- between two pieces -/
structure Sn (w W : World) (x : Nat → Int) (b : Bool) : Prop where
  t2 : W.cell? ⟨w.heap.size, 0, none⟩ = some (.slice none 0 0)
  f2 : W.frozen? ⟨w.heap.size, 0, none⟩ = false
  t3 : W.cell? ⟨w.heap.size + 1, 0, none⟩ = some (.int .i64 0)
  f3 : W.frozen? ⟨w.heap.size + 1, 0, none⟩ = false
  u3 : W.cell? ⟨w.heap.size + 1, 1, none⟩ = some (.int .i64 0)
  g3 : W.frozen? ⟨w.heap.size + 1, 1, none⟩ = false
  hd : Hd W (w.heap.size + 1 + 1)
  t5 : ∃ (P : Option Addr) (n c : Nat), W.cell? ⟨w.heap.size + 1 + 1 + 1, 0, none⟩ = some (.slice P n c) ∧ (b = false → P = none ∧ n = 0 ∧ c = 0) ∧ (b = true → Fl W (.agg #[.slice P n c]) x ∧ ∃ A, P = some ⟨A, 0, none⟩ ∧ w.heap.size + 1 + 1 + 1 + 1 + 1 + 1 ≤ A)
  f5 : W.frozen? ⟨w.heap.size + 1 + 1 + 1, 0, none⟩ = false
  bl : Below w.heap.size w W
theorem Sn.own {w W W' : World} {x : Nat → Int} {b : Bool} {row : Option Nat} (h : Sn w W x b) (hg : W.grownBy W' row) (hr : ∀ r, row = some r → w.heap.size ≤ r ∧ ∃ o : Obj, W.heap[r]? = some o ∧ o.isCells = false) : Sn w W' x b := by
  have hr2 : ∀ r, row = some r → ∃ o : Obj, W.heap[r]? = some o ∧ o.isCells = false := fun r e => (hr r e).2
  have k : ∀ (a : Addr) (v : Value), W.cell? a = some v → W'.cell? a = some v := fun a v hv => cell_kept hv hg hr2
  have fk : ∀ (a : Addr) (v : Value), W.cell? a = some v → W'.frozen? a = W.frozen? a := fun a v hv => frozen_kept hv hg hr2
  obtain ⟨P, n, c, h7, h7f, h7b⟩ := h.t5
  have hb : ∀ k, k < w.heap.size → some k ≠ row := fun k hk e => by have := (hr k e.symm).1; omega
  refine ⟨k _ _ h.t2, (fk _ _ h.t2).trans h.f2, k _ _ h.t3, (fk _ _ h.t3).trans h.f3, k _ _ h.u3, (fk _ _ h.u3).trans h.g3, ?_, ⟨P, n, c, k _ _ h7, h7f, fun e => ⟨(h7b e).1.kept k, (h7b e).2⟩⟩, (fk _ _ h7).trans h.f5, ?_⟩
  · obtain ⟨x, z, a0, a1, b0, b1, a2⟩ := h.hd
    have hB : W'.heap[w.heap.size + 1 + 1]? = W.heap[w.heap.size + 1 + 1]? := by
      refine hg.block _ h.hd.lt (fun e => ?_)
      obtain ⟨o, ho, hc⟩ := hr2 _ e.symm
      rw [World.cell?, ho] at a0
      cases o <;> simp_all [Obj.isCells]
    exact ⟨x, z, k _ _ a0, k _ _ a1, (fk _ _ a0).trans b0, (fk _ _ a1).trans b1, fun o ho => (World.cell?_of_block hB).trans (a2 o ho)⟩
  · have a := h.bl
    exact ⟨hg.os.trans a.os, hg.tape.trans a.tape, hg.output.trans a.output, Nat.le_trans a.size hg.size, fun q hq => (hg.block q (Nat.lt_of_lt_of_le hq a.size) (hb q hq)).trans (a.block q hq)⟩
theorem KB.gb {B1 B2 H : Nat} {W wa : World} (hg : W.grownBy wa (some H)) (h1 : B1 < W.heap.size) (h2 : B2 < W.heap.size) (n1 : B1 ≠ H) (n2 : B2 ≠ H) : KB B1 B2 W wa := ⟨World.cell?_of_block (hg.block B1 h1 (fun e => n1 (Option.some.inj e))), World.cell?_of_block (hg.block B2 h2 (fun e => n2 (Option.some.inj e)))⟩
theorem KB.set {B1 B2 q o : Nat} {W : World} {v : Value} (h1 : q ≠ B1) (h2 : q ≠ B2) : KB B1 B2 W (W.setCell ⟨q, o, none⟩ v) := ⟨World.cell?_setCell_far _ _ _ _ h1, World.cell?_setCell_far _ _ _ _ h2⟩
theorem KB.trans {B1 B2 : Nat} {A B C : World} (h1 : KB B1 B2 A B) (h2 : KB B1 B2 B C) : KB B1 B2 A C := ⟨h2.1.trans h1.1, h2.2.trans h1.2⟩
theorem KB.putObj {B1 B2 n : Nat} (h1 : B1 < n) (h2 : B2 < n) (W : World) (l : Nat) (o o' : Obj) (hl : n ≤ l) : KB B1 B2 W (W.putObj l o') := by
  have h := (KD.putObj h1 h2 W l o o' hl)
  exact ⟨h.1 0, h.2⟩
theorem Hd.new (w : World) (t : TypeId) (k : Nat) (hk : k = w.heap.size) : Hd (w.alloc (.cells #[.int .i64 0, .int .i64 0] t)) k := by
  subst hk
  refine ⟨0, 0, by go_simp, by go_simp, by go_simp, by go_simp, fun o ho => ?_⟩
  rw [cell_of_row _ _ _ _ _ (0, 0) (heap_alloc_new w _)]
  exact Array.getElem?_eq_none (by simpa using ho)
theorem Sn.put {w W wb : World} {x : Nat → Int} {A m k : Nat} (h : Sn w W x false) (hg : W.grownBy wb (some (w.heap.size + 1 + 1))) (hd : Hd wb (w.heap.size + 1 + 1)) (sz : w.heap.size + 1 + 1 + 1 + 1 + 1 + 1 ≤ W.heap.size) (hA : W.heap.size ≤ A) (hF : Fl wb (.agg #[.slice (some ⟨A, 0, none⟩) m k]) x) : Sn w (wb.setCell ⟨w.heap.size + 1 + 1 + 1, 0, none⟩ (.slice (some ⟨A, 0, none⟩) m k)) x true := by
  have k0 : ∀ (a : Addr) (v : Value), a.block ≠ w.heap.size + 1 + 1 → W.cell? a = some v → wb.cell? a = some v := fun a v ha hv => hg.cell hv (fun e => ha (Option.some.inj e))
  have k1 : ∀ (q o : Nat) (v : Value), q ≠ w.heap.size + 1 + 1 → W.cell? ⟨q, o, none⟩ = some v → wb.frozen? ⟨q, o, none⟩ = W.frozen? ⟨q, o, none⟩ := fun q o v ha hv => gb_frozen_some hg (by rw [hv]; rfl) ha
  obtain ⟨P, n, c, h7, -⟩ := h.t5
  have s7 := k0 _ _ (show w.heap.size + 1 + 1 + 1 ≠ w.heap.size + 1 + 1 by omega) h7
  have o7 : ∀ (q o : Nat) (v : Value), q ≠ w.heap.size + 1 + 1 + 1 → wb.cell? ⟨q, o, none⟩ = some v → (wb.setCell ⟨w.heap.size + 1 + 1 + 1, 0, none⟩ (.slice (some ⟨A, 0, none⟩) m k)).cell? ⟨q, o, none⟩ = some v := fun q o v hq hv => by rw [World.cell?_setCell_far _ _ _ _ (by simp only; omega)]; exact hv
  refine ⟨o7 _ _ _ (by omega) (k0 _ _ (by simp only; omega) h.t2), by rw [World.frozen?_setCell, k1 _ _ _ (by omega) h.t2]; exact h.f2, o7 _ _ _ (by omega) (k0 _ _ (by simp only; omega) h.t3), by rw [World.frozen?_setCell, k1 _ _ _ (by omega) h.t3]; exact h.f3, o7 _ _ _ (by omega) (k0 _ _ (by simp only; omega) h.u3), by rw [World.frozen?_setCell, k1 _ _ _ (by omega) h.u3]; exact h.g3, hd.far (by omega), ⟨_, _, _, World.cell?_setCell_same _ _ _ s7, fun e => by simp at e, fun _ => ⟨hF.keepG (w.heap.size + 1 + 1 + 1) (gb_set _ _ _ _) ?_, A, rfl, by omega⟩⟩, by rw [World.frozen?_setCell, k1 _ _ _ (by omega) h7]; exact h.f5, (h.bl.grown hg h.bl.size (fun j hj => by obtain rfl := Option.some.inj hj; omega)).setCell (by simp only; omega) _⟩
  rintro P n c hP _ a rfl
  simp only [Value.agg.injEq, Array.mk.injEq, List.cons.injEq, Value.slice.injEq, Option.some.injEq, and_true] at hP
  obtain ⟨rfl, _⟩ := hP
  simp only
  omega
theorem sn_drew {w W : World} {x : Nat → Int} {b : Bool} (h : Sn w W x b) : Sn w W.drew x b := h.own (gbI (bl_drew W) none) (fun r e => by cases e)
set_option maxRecDepth 100000 in
set_option maxHeartbeats 1000000 in
theorem fsum_any (L lo N cap : Nat) (ks : Nat → E4) (fs : Nat → Nat → Int) (w : World) (hN0 : 1 ≤ N) (hN : N ≤ 50) (hcap : N ≤ cap) (hT : Tb w) (hTm : Tm w L lo N ks fs) :
    Calls Tryz.prog 33 #[.slice (some ⟨L, lo, none⟩) N cap] w fun e w' => ∃ (A m c : Nat) (z1 z2 : Int), e = .returned (.tuple #[.agg #[.slice (some ⟨A, 0, none⟩) m c], .agg #[.int .i64 z1, .int .i64 z2]]) ∧ w.heap.size ≤ A ∧ Fl w' (.agg #[.slice (some ⟨A, 0, none⟩) m c]) (fun t => tot (fun q => (ks q).n * fs q t) N) ∧ Below w.heap.size w w' := by
  have BC := hidden (fun x => callsIn_wide (n := 2) |>.2 (chunk_any L lo N cap x))
  refine callsIn_wide (n := 3) |>.1 ?_
  refine callsIn_of_wp_marks Tryz.func33 rfl trivial ?_ rfl
  simp only [Tryz.ntmps33, List.size_toArray, List.length_cons, List.length_nil, Nat.reduceAdd, Nat.reduceSub, Array.replicate_succ, Array.replicate_zero, List.push_toArray, List.append_toArray, List.nil_append, List.cons_append]
  gi_wp2_with (refine ⟨trivial, ?_⟩; gi_at_call 41; refine (BC.out _).mono ?_; rintro e w' ⟨rfl, rfl⟩)
  have hsz : ((((((w.alloc (.cells #[.slice none 0 0] 32)).alloc (.cells #[.int .i64 0, .int .i64 0] 83)).alloc (.cells #[.int .i64 0, .int .i64 0] 97)).alloc (.cells #[.slice none 0 0] 32)).alloc (.cells #[.slice (some ⟨L, lo, none⟩) N cap] 63)).alloc (.cells #[.int .i64 8192] 3)).heap.size = w.heap.size + 1 + 1 + 1 + 1 + 1 + 1 := by simp only [World.size_alloc]

  have c2 : ((((((w.alloc (.cells #[.slice none 0 0] 32)).alloc (.cells #[.int .i64 0, .int .i64 0] 83)).alloc (.cells #[.int .i64 0, .int .i64 0] 97)).alloc (.cells #[.slice none 0 0] 32)).alloc (.cells #[.slice (some ⟨L, lo, none⟩) N cap] 63)).alloc (.cells #[.int .i64 8192] 3)).cell? ⟨w.heap.size, 0, none⟩ = some (.slice none 0 0) := by go_simp
  have c3 : ((((((w.alloc (.cells #[.slice none 0 0] 32)).alloc (.cells #[.int .i64 0, .int .i64 0] 83)).alloc (.cells #[.int .i64 0, .int .i64 0] 97)).alloc (.cells #[.slice none 0 0] 32)).alloc (.cells #[.slice (some ⟨L, lo, none⟩) N cap] 63)).alloc (.cells #[.int .i64 8192] 3)).cell? ⟨w.heap.size + 1, 0, none⟩ = some (.int .i64 0) := by go_simp
  have d3 : ((((((w.alloc (.cells #[.slice none 0 0] 32)).alloc (.cells #[.int .i64 0, .int .i64 0] 83)).alloc (.cells #[.int .i64 0, .int .i64 0] 97)).alloc (.cells #[.slice none 0 0] 32)).alloc (.cells #[.slice (some ⟨L, lo, none⟩) N cap] 63)).alloc (.cells #[.int .i64 8192] 3)).cell? ⟨w.heap.size + 1, 1, none⟩ = some (.int .i64 0) := by go_simp
  have c5 : ((((((w.alloc (.cells #[.slice none 0 0] 32)).alloc (.cells #[.int .i64 0, .int .i64 0] 83)).alloc (.cells #[.int .i64 0, .int .i64 0] 97)).alloc (.cells #[.slice none 0 0] 32)).alloc (.cells #[.slice (some ⟨L, lo, none⟩) N cap] 63)).alloc (.cells #[.int .i64 8192] 3)).cell? ⟨w.heap.size + 1 + 1 + 1, 0, none⟩ = some (.slice none 0 0) := by go_simp
  have c6 : ((((((w.alloc (.cells #[.slice none 0 0] 32)).alloc (.cells #[.int .i64 0, .int .i64 0] 83)).alloc (.cells #[.int .i64 0, .int .i64 0] 97)).alloc (.cells #[.slice none 0 0] 32)).alloc (.cells #[.slice (some ⟨L, lo, none⟩) N cap] 63)).alloc (.cells #[.int .i64 8192] 3)).cell? ⟨w.heap.size + 1 + 1 + 1 + 1, 0, none⟩ = some (.slice (some ⟨L, lo, none⟩) N cap) := by go_simp
  have c7 : ((((((w.alloc (.cells #[.slice none 0 0] 32)).alloc (.cells #[.int .i64 0, .int .i64 0] 83)).alloc (.cells #[.int .i64 0, .int .i64 0] 97)).alloc (.cells #[.slice none 0 0] 32)).alloc (.cells #[.slice (some ⟨L, lo, none⟩) N cap] 63)).alloc (.cells #[.int .i64 8192] 3)).cell? ⟨w.heap.size + 1 + 1 + 1 + 1 + 1, 0, none⟩ = some (.int .i64 8192) := by go_simp
  have f2 : ((((((w.alloc (.cells #[.slice none 0 0] 32)).alloc (.cells #[.int .i64 0, .int .i64 0] 83)).alloc (.cells #[.int .i64 0, .int .i64 0] 97)).alloc (.cells #[.slice none 0 0] 32)).alloc (.cells #[.slice (some ⟨L, lo, none⟩) N cap] 63)).alloc (.cells #[.int .i64 8192] 3)).frozen? ⟨w.heap.size, 0, none⟩ = false := by go_simp
  have f3 : ((((((w.alloc (.cells #[.slice none 0 0] 32)).alloc (.cells #[.int .i64 0, .int .i64 0] 83)).alloc (.cells #[.int .i64 0, .int .i64 0] 97)).alloc (.cells #[.slice none 0 0] 32)).alloc (.cells #[.slice (some ⟨L, lo, none⟩) N cap] 63)).alloc (.cells #[.int .i64 8192] 3)).frozen? ⟨w.heap.size + 1, 0, none⟩ = false := by go_simp
  have g3 : ((((((w.alloc (.cells #[.slice none 0 0] 32)).alloc (.cells #[.int .i64 0, .int .i64 0] 83)).alloc (.cells #[.int .i64 0, .int .i64 0] 97)).alloc (.cells #[.slice none 0 0] 32)).alloc (.cells #[.slice (some ⟨L, lo, none⟩) N cap] 63)).alloc (.cells #[.int .i64 8192] 3)).frozen? ⟨w.heap.size + 1, 1, none⟩ = false := by go_simp
  have f5 : ((((((w.alloc (.cells #[.slice none 0 0] 32)).alloc (.cells #[.int .i64 0, .int .i64 0] 83)).alloc (.cells #[.int .i64 0, .int .i64 0] 97)).alloc (.cells #[.slice none 0 0] 32)).alloc (.cells #[.slice (some ⟨L, lo, none⟩) N cap] 63)).alloc (.cells #[.int .i64 8192] 3)).frozen? ⟨w.heap.size + 1 + 1 + 1, 0, none⟩ = false := by go_simp
  have H4 : Hd ((((((w.alloc (.cells #[.slice none 0 0] 32)).alloc (.cells #[.int .i64 0, .int .i64 0] 83)).alloc (.cells #[.int .i64 0, .int .i64 0] 97)).alloc (.cells #[.slice none 0 0] 32)).alloc (.cells #[.slice (some ⟨L, lo, none⟩) N cap] 63)).alloc (.cells #[.int .i64 8192] 3)) (w.heap.size + 1 + 1) := (Hd.new ((w.alloc (.cells #[.slice none 0 0] 32)).alloc (.cells #[.int .i64 0, .int .i64 0] 83)) 97 (w.heap.size + 1 + 1) (by simp only [World.size_alloc])).keep (bl_trans (bl_trans (bl_alloc _ _) (bl_alloc _ _)) (bl_alloc _ _))
  have BB : Below w.heap.size w ((((((w.alloc (.cells #[.slice none 0 0] 32)).alloc (.cells #[.int .i64 0, .int .i64 0] 83)).alloc (.cells #[.int .i64 0, .int .i64 0] 97)).alloc (.cells #[.slice none 0 0] 32)).alloc (.cells #[.slice (some ⟨L, lo, none⟩) N cap] 63)).alloc (.cells #[.int .i64 8192] 3)) := bl_trans (bl_trans (bl_trans (bl_trans (bl_trans (bl_alloc w _) (bl_alloc _ _)) (bl_alloc _ _)) (bl_alloc _ _)) (bl_alloc _ _)) (bl_alloc _ _)
  obtain ⟨W0, hW0⟩ : ∃ W0, ((((((w.alloc (.cells #[.slice none 0 0] 32)).alloc (.cells #[.int .i64 0, .int .i64 0] 83)).alloc (.cells #[.int .i64 0, .int .i64 0] 97)).alloc (.cells #[.slice none 0 0] 32)).alloc (.cells #[.slice (some ⟨L, lo, none⟩) N cap] 63)).alloc (.cells #[.int .i64 8192] 3)) = W0 := ⟨_, rfl⟩
  rw [hW0] at hsz c2 c3 d3 c5 c6 c7 f2 f3 g3 f5 BB H4 ⊢
  clear hW0 BC
  have S0 : Sn w W0 (fun t => tot (fun q => (ks q).n * fs q t) N) false := ⟨c2, f2, c3, f3, d3, g3, H4, ⟨none, 0, 0, c5, fun _ => ⟨rfl, rfl, rfl⟩, fun e => by simp at e⟩, f5, BB⟩
  refine wpIn_rangeFunc_ownH (α := Unit) rfl (by omega) (gf := 47) (lb := #[.pointer (some ⟨w.heap.size + 1 + 1 + 1 + 1, 0, none⟩), .pointer (some ⟨w.heap.size + 1 + 1 + 1 + 1 + 1, 0, none⟩)]) rfl trivial (enters_of Tryz.func47 (by kernel_rfl) rfl)
    (chunk_stops Fence.wide 2 trivial rfl (by omega) (w.heap.size + 1 + 1 + 1 + 1) (w.heap.size + 1 + 1 + 1 + 1 + 1) L lo N cap hN0 hN hcap W0 c6 c7) (fun h1 h2 => h1.trans h2) (fun W l o o' hl _ _ _ => KB.putObj (n := W0.heap.size) (by omega) (by omega) W l o o' hl) (Below.refl _ _) (fun _ => rfl)
    (fun pre W => Sn w W (fun t => tot (fun q => (ks q).n * fs q t) N) (!pre.isEmpty) ∧ w.heap.size + 1 + 1 + 1 + 1 + 1 + 1 ≤ W.heap.size)
    (fun _ _ _ => False)
    (fun pre X Y row hs hgr hr => ⟨hs.1.own hgr (fun r e => ⟨by have := (hr r e).1; omega, (hr r e).2⟩), Nat.le_trans hs.2 hgr.size⟩)
    (fun _ _ _ _ _ hs _ _ => hs)
    ⟨S0, by omega⟩
    (fun x a' W => a' = { tmps := #[.slice (some ⟨L, lo, none⟩) N cap, undef, .pointer (some ⟨w.heap.size, 0, none⟩), .pointer (some ⟨w.heap.size + 1, 0, none⟩), .pointer (some ⟨w.heap.size + 1 + 1, 0, none⟩), .pointer (some ⟨w.heap.size + 1 + 1 + 1, 0, none⟩), .slice (some ⟨L, lo, none⟩) N N, .slice (some ⟨L, lo, none⟩) N cap, .func (.func 47) #[] #[.pointer (some ⟨w.heap.size + 1 + 1 + 1 + 1, 0, none⟩), .pointer (some ⟨w.heap.size + 1 + 1 + 1 + 1 + 1, 0, none⟩)], .slice (some ⟨L, lo, none⟩) N N, undef, undef, undef, undef, undef, undef, undef], defers := [] })
    (fun x a' _ X Y row hs hgr hr => hs)
    ?assign ?body ?done ?stop
  case assign =>
    rintro l pre x W K0 hI hK0
    gi_wp2
    exact hK0 _ _ (KeepsFrom.refl _ _) ⟨rfl, rfl⟩ hI rfl
  case body =>
    rintro l pre x a' W hl ⟨r, hr⟩ ⟨h1, h3⟩ rfl hlt
    obtain rfl : pre = [] := by
      cases pre with
      | nil => rfl
      | cons a b => simp at hlt
    have h1d := sn_drew h1
    have B1 := bl_drew W
    have TT := hT.keep h1d.bl
    obtain ⟨PP, nn, cc, z5, zz, -⟩ := id h1d.t5
    obtain ⟨rfl, rfl, rfl⟩ := zz rfl
    have z5f := h1d.f5
    have CA := hidden (callsIn_wide (n := 0) |>.2 (cheapest_any (w.heap.size + 1 + 1) N L lo N ks fs W.drew hN TT h1d.hd (hTm.keep h1d.bl)))
    have TB := hidden (h1d.hd.tb TT)
    have HTT := hidden TT
    have SZ : Hid (w.heap.size + 1 + 1 + 1 + 1 + 1 + 1 ≤ W.drew.heap.size) := hidden (Nat.le_trans h3 B1.size)
    have HS := hidden h1d
    clear h1 h1d B1 TT zz
    gi_wp2
    gi_region_with (first
      | (refine ⟨trivial, ?_⟩; gi_at_call 43; refine (CallsIn.inRound l CA.out).mono ?_; rintro e wa ⟨PA, mm, kk, rfl, hA, hF, hda, hga⟩; have u5 := hga.cell z5 (fun e => absurd (Option.some.inj e) (show w.heap.size + 1 + 1 + 1 ≠ w.heap.size + 1 + 1 by omega)); have v5 := (gb_frozen_some hga (by rw [z5]; rfl) (show w.heap.size + 1 + 1 + 1 ≠ w.heap.size + 1 + 1 by omega)).trans z5f; have CB := hidden (callsIn_wide (n := 0) |>.2 (haddL (w.heap.size + 1 + 1) (.agg #[.slice none 0 0]) (.agg #[.slice PA mm kk]) (fun _ => 0) _ wa (HTT.out.keep0 hga TB.out) hda (Fr.zero _) hF)); have HA := hidden hga; clear hA hF hda hga CA)
      | (refine ⟨trivial, ?_⟩; gi_at_call 42; refine (CallsIn.inRound l CB.out).mono ?_; rintro e wb ⟨A2, m2, k2, rfl, hA2, hF2, hdb, hgb⟩; have x5 := hgb.cell u5 (fun e => absurd (Option.some.inj e) (show w.heap.size + 1 + 1 + 1 ≠ w.heap.size + 1 + 1 by omega)); have y5 := (gb_frozen_some hgb (by rw [u5]; rfl) (show w.heap.size + 1 + 1 + 1 ≠ w.heap.size + 1 + 1 by omega)).trans v5; have HB := hidden (And.intro hA2 (And.intro hF2 (And.intro hdb hgb))); clear hA2 hF2 hdb hgb CB))
    all_goals
      gi_wp2
      obtain ⟨hA2, hF2, hdb, hgb⟩ := HB.out
      have gAB := HA.out.trans hgb
      have szW := SZ.out
      have hsA := HA.out.size
      exact ⟨((KeepsFrom.of_grownBy (gbI (bl_drew W) none) (fun q e => by cases e)).trans (KeepsFrom.of_grownBy gAB (fun q e => by have := Option.some.inj e; omega))).trans ((KeepsOthers.setCell _ _ _).from _), KB.trans (KB.trans (show KB (w.heap.size + 1 + 1 + 1 + 1) (w.heap.size + 1 + 1 + 1 + 1 + 1) W W.drew from ⟨rfl, rfl⟩) (KB.gb gAB (by omega) (by omega) (by omega) (by omega))) (KB.set (by omega) (by omega)), HS.out.put gAB hdb szW (Nat.le_trans hsA hA2) (hF2.congr (fun i => by rw [Int.zero_add])), by have := gAB.size; simp; omega⟩
  case done =>
    rintro Dd xs W hDd hS ⟨h1, h3⟩ hKd
    obtain rfl := hS
    obtain ⟨P, n, c, h7, -, hF⟩ := id h1.t5
    obtain ⟨hF, A, rfl, hA⟩ := hF rfl
    have t2 := h1.t2
    have f2 := h1.f2
    have t3 := h1.t3
    have u3 := h1.u3
    have f3 := h1.f3
    have g3 := h1.g3
    obtain ⟨z1, z2, q1, q2, q3⟩ := id h1.hd
    gi_wp2
    gi_region
    all_goals
      gi_wp2
      have hK' : ((((W.setCell ⟨w.heap.size, 0, none⟩ (.slice (some ⟨A, 0, none⟩) n c)).setCell ⟨w.heap.size + 1, 0, none⟩ (.int .i64 z1)).setCell ⟨w.heap.size + 1, 1, none⟩ (.int .i64 z2)).drew).heap[Dd]? = some (.deferred (some [])) := (((KeepsOthers.setCell W ⟨w.heap.size, 0, none⟩ (.slice (some ⟨A, 0, none⟩) n c)).trans (KeepsOthers.setCell _ ⟨w.heap.size + 1, 0, none⟩ (.int .i64 z1))).trans (KeepsOthers.setCell _ ⟨w.heap.size + 1, 1, none⟩ (.int .i64 z2))).same Dd _ hKd rfl
      refine ⟨by simp, .inl ⟨_, _, rfl, run_takeDeferred hK', ?_⟩⟩
      have a2 : ((((W.setCell ⟨w.heap.size, 0, none⟩ (.slice (some ⟨A, 0, none⟩) n c)).setCell ⟨w.heap.size + 1, 0, none⟩ (.int .i64 z1)).setCell ⟨w.heap.size + 1, 1, none⟩ (.int .i64 z2)).drew).cell? ⟨w.heap.size, 0, none⟩ = some (.slice (some ⟨A, 0, none⟩) n c) := by go_simp
      have a3 : ((((W.setCell ⟨w.heap.size, 0, none⟩ (.slice (some ⟨A, 0, none⟩) n c)).setCell ⟨w.heap.size + 1, 0, none⟩ (.int .i64 z1)).setCell ⟨w.heap.size + 1, 1, none⟩ (.int .i64 z2)).drew).cell? ⟨w.heap.size + 1, 0, none⟩ = some (.int .i64 z1) := by go_simp
      have a4 : ((((W.setCell ⟨w.heap.size, 0, none⟩ (.slice (some ⟨A, 0, none⟩) n c)).setCell ⟨w.heap.size + 1, 0, none⟩ (.int .i64 z1)).setCell ⟨w.heap.size + 1, 1, none⟩ (.int .i64 z2)).drew).cell? ⟨w.heap.size + 1, 1, none⟩ = some (.int .i64 z2) := by go_simp
      have far : ∀ (q o : Nat) (wx : World) (u : Value), q < A → Fl wx (.agg #[.slice (some ⟨A, 0, none⟩) n c]) (fun t => tot (fun q => (ks q).n * fs q t) N) → Fl (wx.setCell ⟨q, o, none⟩ u) (.agg #[.slice (some ⟨A, 0, none⟩) n c]) (fun t => tot (fun q => (ks q).n * fs q t) N) := fun q o wx u hq hf => hf.keepG q (gb_set _ _ _ _) (by
        rintro P n c hP _ a rfl
        simp only [Value.agg.injEq, Array.mk.injEq, List.cons.injEq, Value.slice.injEq, Option.some.injEq, and_true] at hP
        obtain ⟨rfl, _⟩ := hP
        simp only
        omega)
      have hF4 : Fl ((((W.setCell ⟨w.heap.size, 0, none⟩ (.slice (some ⟨A, 0, none⟩) n c)).setCell ⟨w.heap.size + 1, 0, none⟩ (.int .i64 z1)).setCell ⟨w.heap.size + 1, 1, none⟩ (.int .i64 z2)).drew) (.agg #[.slice (some ⟨A, 0, none⟩) n c]) (fun t => tot (fun q => (ks q).n * fs q t) N) := (far _ _ _ _ (by omega) (far _ _ _ _ (by omega) (far _ _ _ _ (by omega) hF))).keep (bl_drew _)
      have B4 : Below w.heap.size w ((((W.setCell ⟨w.heap.size, 0, none⟩ (.slice (some ⟨A, 0, none⟩) n c)).setCell ⟨w.heap.size + 1, 0, none⟩ (.int .i64 z1)).setCell ⟨w.heap.size + 1, 1, none⟩ (.int .i64 z2)).drew) := (((h1.bl.setCell (Nat.le_refl _) _).setCell (by simp only; omega) _).setCell (by simp only; omega) _).drew
      generalize ((((W.setCell ⟨w.heap.size, 0, none⟩ (.slice (some ⟨A, 0, none⟩) n c)).setCell ⟨w.heap.size + 1, 0, none⟩ (.int .i64 z1)).setCell ⟨w.heap.size + 1, 1, none⟩ (.int .i64 z2)).drew) = W4 at *
      have gp := grownBy_putObj' W4 Dd (.deferred none)
      have kp : ∀ (a : Addr) (v : Value), W4.cell? a = some v → (W4.putObj Dd (.deferred none)).cell? a = some v := fun a v hv => cell_kept hv gp (fun r e => by cases e; exact ⟨_, hK', rfl⟩)
      have e2 := kp _ _ a2
      have e3 := kp _ _ a3
      have e4 := kp _ _ a4
      refine ⟨.tuple #[.agg #[.slice (some ⟨A, 0, none⟩) n c], .agg #[.int .i64 z1, .int .i64 z2]], ?_, A, n, c, z1, z2, rfl, by omega, hF4.kept kp, B4.grown gp B4.size (fun j hj => by obtain rfl := Option.some.inj hj; omega)⟩
      simp [results, Tryz.results33, go_sem, e2, e3, e4]
  case stop =>
    rintro Dd c pre W _ _ h _
    exact h.elim
end Go.Proofs.YtapieajkmpnmoaaGreatDoor
namespace Go.Proofs.YtapieajkmpnmoaaGreatDoor
open Go.RowKit
set_option linter.unusedVariables false
/-- the cells of a list of terms -/
def tvl (K : Nat → E4) (V : Nat → Value) (j : Nat) : Value := if j % 5 = 0 then .int .u64 (K (j / 5)).x0 else if j % 5 = 1 then .int .u64 (K (j / 5)).x1 else if j % 5 = 2 then .int .u64 (K (j / 5)).x2 else if j % 5 = 3 then .int .u64 (K (j / 5)).x3 else V (j / 5)
theorem tvl0 (K : Nat → E4) (V : Nat → Value) (k : Nat) : tvl K V (k * 5) = .int .u64 (K k).x0 := by unfold tvl; rw [if_pos (by omega), show k * 5 / 5 = k by omega]
theorem tvl1 (K : Nat → E4) (V : Nat → Value) (k : Nat) : tvl K V (k * 5 + 1) = .int .u64 (K k).x1 := by unfold tvl; rw [if_neg (by omega), if_pos (by omega), show (k * 5 + 1) / 5 = k by omega]
theorem tvl2 (K : Nat → E4) (V : Nat → Value) (k : Nat) : tvl K V (k * 5 + 2) = .int .u64 (K k).x2 := by unfold tvl; rw [if_neg (by omega), if_neg (by omega), if_pos (by omega), show (k * 5 + 2) / 5 = k by omega]
theorem tvl3 (K : Nat → E4) (V : Nat → Value) (k : Nat) : tvl K V (k * 5 + 3) = .int .u64 (K k).x3 := by unfold tvl; rw [if_neg (by omega), if_neg (by omega), if_neg (by omega), if_pos (by omega), show (k * 5 + 3) / 5 = k by omega]
theorem tvl4 (K : Nat → E4) (V : Nat → Value) (k : Nat) : tvl K V (k * 5 + 4) = V k := by unfold tvl; rw [if_neg (by omega), if_neg (by omega), if_neg (by omega), if_neg (by omega), show (k * 5 + 4) / 5 = k by omega]
theorem tvl_step (K : Nat → E4) (V : Nat → Value) (f : Nat → Value) (k : Nat) (h : ∀ j, j < k * 5 → f j = tvl K V j) (j : Nat) (hj : j < (k + 1) * 5) : (if j = k * 5 + 4 then V k else if j = k * 5 + 3 then .int .u64 (K k).x3 else if j = k * 5 + 2 then .int .u64 (K k).x2 else if j = k * 5 + 1 then .int .u64 (K k).x1 else if j = k * 5 then .int .u64 (K k).x0 else f j) = tvl K V j := by
  by_cases e4 : j = k * 5 + 4
  · rw [if_pos e4, e4, tvl4]
  · rw [if_neg e4]
    by_cases e3 : j = k * 5 + 3
    · rw [if_pos e3, e3, tvl3]
    · rw [if_neg e3]
      by_cases e2 : j = k * 5 + 2
      · rw [if_pos e2, e2, tvl2]
      · rw [if_neg e2]
        by_cases e1 : j = k * 5 + 1
        · rw [if_pos e1, e1, tvl1]
        · rw [if_neg e1]
          by_cases e0 : j = k * 5
          · rw [if_pos e0, e0, tvl0]
          · rw [if_neg e0]; exact h j (by omega)
theorem tinfoF : (Tryz.prog.info? 68).map (fun i => (i.zero, i.size, i.bytes)) = some (some (.agg #[.int .u64 0, .int .u64 0, .int .u64 0, .int .u64 0, .slice none 0 0]), 5, 56) := by kernel_rfl
theorem row_keep {w w' : World} {b n : Nat} {t : TypeId} {f : Nat → Value} (h : w.rowIs b t n f) (hb : Below w.heap.size w w') : w'.rowIs b t n f := h.of_block (hb.block b h.lt)
set_option maxRecDepth 100000 in
set_option maxHeartbeats 16000000 in
theorem zip_any (P0 : Option Addr) (g L c0 c1 : Nat) (K : Nat → E4) (Pf : Nat → Option Addr) (nf cf : Nat → Nat) (w : World) (hL : L ≤ 64) (h0 : Lm w P0 L K) (h1 : ∀ k, k < L → w.cell? ⟨g, k, none⟩ = some (.slice (Pf k) (nf k) (cf k))) :
    Calls Tryz.prog 19 #[.slice P0 L c0, .slice (some ⟨g, 0, none⟩) L c1] w fun e w' => ∃ t : Nat, e = .returned (.tuple #[.slice (some ⟨t, 0, none⟩) L L, .int .i64 0]) ∧ w.heap.size ≤ t ∧ w'.rowIs t 68 (L * 5) (tvl K fun k => .slice (Pf k) (nf k) (cf k)) ∧ Below w.heap.size w w' := by
  have H0 := hidden h0
  have H1 := hidden h1
  have HL := hidden hL
  have nn0 : (0 : Int) ≤ (L : Int) := by omega
  obtain ⟨i0, hi, hz0, hz1, hz2⟩ := info_parts tinfoF
  have hmk := fun w => run_make (P := Tryz.prog) w 63 68 i0 (.agg #[.int .u64 0, .int .u64 0, .int .u64 0, .int .u64 0, .slice none 0 0]) (by kernel_rfl) hi hz0 .i64 .i64 (L : Int) (L : Int) (by omega) (Int.le_refl _) (by rw [hz2]; omega) (by omega)
  simp only [Int.toNat_natCast, hz1, Value.cells] at hmk
  have R0 : Hid (∃ f, (w.alloc (.cells (madeCells #[.int .u64 0, .int .u64 0, .int .u64 0, .int .u64 0, .slice none 0 0] (L * 5)) 68)).rowIs w.heap.size 68 (L * 5) f) := hidden ⟨fun j => (madeCells #[.int .u64 0, .int .u64 0, .int .u64 0, .int .u64 0, .slice none 0 0] (L * 5)).getD j undef, _, heap_alloc_new w _, by simp [size_madeCells], fun i hi => by
    have : i < (madeCells #[.int .u64 0, .int .u64 0, .int .u64 0, .int .u64 0, .slice none 0 0] (L * 5)).size := by simp [size_madeCells]; omega
    simp [Array.getD, this]⟩
  have B0 := hidden (bl_alloc w (.cells (madeCells #[.int .u64 0, .int .u64 0, .int .u64 0, .int .u64 0, .slice none 0 0] (L * 5)) 68))
  clear h0 h1 hL hi hz0 hz1 hz2
  go_enter Tryz.func19, Tryz.ntmps19
  go_wp2_with fail
  clear hmk
  go_loopw [18] (fun kv w' => ∃ (k : Nat) (f : Nat → Value), k ≤ L ∧ kv = .int .i64 (k : Int) ∧ Hid (∀ j, j < k * 5 → f j = tvl K (fun k => .slice (Pf k) (nf k) (cf k)) j) ∧ Hid (w'.rowIs w.heap.size 68 (L * 5) f) ∧ Hid (Below w.heap.size w w')) (fun k _ => L - (intOf k).toNat)
  case atStart => obtain ⟨f, hf⟩ := R0.out; exact ⟨0, f, by omega, rfl, hidden (fun j hj => absurd hj (by omega)), hidden hf, B0⟩
  case round =>
    clear R0 B0
    obtain ⟨k, f, hk, rfl, hq, hR, hB⟩ := hrel
    by_cases hkn : k < L
    · have k0 : (0 : Int) ≤ (k : Int) := by omega
      have k1 : (k : Int) < (L : Int) := by omega
      have w9 : IntKind.i64.wrap ((k : Int) + 1) = (k : Int) + 1 := IntWalk.i64_in _ (by have := HL.out; omega)
      have bd := bl_trans hB.out (drew_blW wr)
      obtain ⟨sb, so, h1, h2⟩ := H0.out
      obtain rfl := h1 (by omega)
      have rx := (h2 (by omega)).keep bd
      have x0 := rx.c0 k hkn; have x1 := rx.c1 k hkn; have x2 := rx.c2 k hkn; have x3 := rx.c3 k hkn
      have y0 : wr.drew.cell? ⟨g, k, none⟩ = some (.slice (Pf k) (nf k) (cf k)) := cell_keep (H1.out k hkn) bd
      have rt := hR.out.drew
      have d0 := rt.cell (show k * 5 < L * 5 by omega)
      have d1 := rt.cell (show k * 5 + 1 < L * 5 by omega)
      have d2 := rt.cell (show k * 5 + 2 < L * 5 by omega)
      have d3 := rt.cell (show k * 5 + 3 < L * 5 by omega)
      have d4 := rt.cell (show k * 5 + 4 < L * 5 by omega)
      have b0 := hR.out.cell (show k * 5 < L * 5 by omega)
      have b1 := hR.out.cell (show k * 5 + 1 < L * 5 by omega)
      have b2 := hR.out.cell (show k * 5 + 2 < L * 5 by omega)
      have b3 := hR.out.cell (show k * 5 + 3 < L * 5 by omega)
      have b4 := hR.out.cell (show k * 5 + 4 < L * 5 by omega)
      have f0 := rt.frozen (k * 5)
      have f1 := rt.frozen (k * 5 + 1)
      have f2 := rt.frozen (k * 5 + 2)
      have f3 := rt.frozen (k * 5 + 3)
      have f4 := rt.frozen (k * 5 + 4)
      have q0 := hR.out.frozen (k * 5)
      have q1 := hR.out.frozen (k * 5 + 1)
      have q2 := hR.out.frozen (k * 5 + 2)
      have q3 := hR.out.frozen (k * 5 + 3)
      have q4 := hR.out.frozen (k * 5 + 4)
      have YR := hidden (((((hR.out.set (k * 5) (.int .u64 (K k).x0)).set (k * 5 + 1) (.int .u64 (K k).x1)).set (k * 5 + 2) (.int .u64 (K k).x2)).set (k * 5 + 3) (.int .u64 (K k).x3)).set (k * 5 + 4) (.slice (Pf k) (nf k) (cf k))).drew
      have YB := hidden (bl_trans (((((hB.out.setCell (p := ⟨w.heap.size, k * 5, none⟩) (Nat.le_refl _) (.int .u64 (K k).x0)).setCell (p := ⟨w.heap.size, k * 5 + 1, none⟩) (Nat.le_refl _) (.int .u64 (K k).x1)).setCell (p := ⟨w.heap.size, k * 5 + 2, none⟩) (Nat.le_refl _) (.int .u64 (K k).x2)).setCell (p := ⟨w.heap.size, k * 5 + 3, none⟩) (Nat.le_refl _) (.int .u64 (K k).x3)).setCell (p := ⟨w.heap.size, k * 5 + 4, none⟩) (Nat.le_refl _) (.slice (Pf k) (nf k) (cf k))) (drew_blW _))
      have NQ := hidden (tvl_step K (fun k => .slice (Pf k) (nf k) (cf k)) f k hq.out)
      generalize K k = a at x0 x1 x2 x3 YR YB NQ
      generalize f (k * 5) = e0 at *
      generalize f (k * 5 + 1) = e1 at *
      generalize f (k * 5 + 2) = e2 at *
      generalize f (k * 5 + 3) = e3 at *
      generalize f (k * 5 + 4) = e4 at *
      clear h1 h2 rx rt hR hB hq bd
      go_upto_region 7 with fail
      go_region_with fail
      all_goals
        clear x0 x1 x2 x3 y0 d0 d1 d2 d3 d4 f0 f1 f2 f3 f4 b0 b1 b2 b3 b4 q0 q1 q2 q3 q4
        go_wp2_with fail
        go_roundw
        case rel => exact ⟨k + 1, _, by omega, by go_num, NQ, YR, YB⟩
        case measure => simp [intOf]; omega
    · obtain rfl : k = L := by omega
      have RR := hR.out
      go_wp2_with fail
      refine bodyPost_ret (v := .tuple #[.slice (some ⟨w.heap.size, 0, none⟩) k k, .int .i64 0]) (by simp [results, Tryz.results19, go_sem]) rfl ⟨w.heap.size, rfl, Nat.le_refl _, RR.congr (fun i hi => hq.out i hi), hB.out⟩
end Go.Proofs.YtapieajkmpnmoaaGreatDoor
namespace Go.Proofs.YtapieajkmpnmoaaGreatDoor
open Go.RowKit
set_option linter.unusedVariables false
def fs4o : Array Oper := #[{ dst := some 16, op := Op.load 32 (Operand.tmp 2), type := 32, pos := "free.go:35", after := #[], guard := none },
  { dst := some 17, op := Op.move (Operand.tmp 5), type := 3, pos := "free.go:35", after := #[], guard := none },
  { dst := some 18, op := Op.call { callee := Callee.value (Operand.func 136), args := #[Operand.tmp 16, Operand.tmp 17], argTypes := #[32, 3] }, type := 25, pos := "free.go:35", after := #[{ on := 0, ground := Ground.data }, { on := 1, ground := Ground.data }], guard := none },
  { dst := some 19, op := Op.load 32 (Operand.tmp 3), type := 32, pos := "free.go:35", after := #[], guard := none },
  { dst := some 20, op := Op.move (Operand.tmp 5), type := 3, pos := "free.go:35", after := #[], guard := none },
  { dst := some 21, op := Op.call { callee := Callee.value (Operand.func 136), args := #[Operand.tmp 19, Operand.tmp 20], argTypes := #[32, 3] }, type := 25, pos := "free.go:35", after := #[{ on := 3, ground := Ground.data }, { on := 4, ground := Ground.data }, { on := 2, ground := Ground.chain }], guard := none },
  { dst := some 22, op := Op.call { callee := Callee.value (Operand.func 5), args := #[Operand.tmp 18, Operand.tmp 21], argTypes := #[25, 25] }, type := 4, pos := "free.go:35", after := #[{ on := 2, ground := Ground.data }, { on := 5, ground := Ground.data }, { on := 5, ground := Ground.chain }], guard := none },
  { dst := some 23, op := Op.unOp UnOp.not 4 (Operand.tmp 22), type := 4, pos := "free.go:35", after := #[{ on := 6, ground := Ground.data }], guard := none }]
set_option maxRecDepth 100000 in
set_option maxHeartbeats 16000000 in
theorem fs4 (Q : Exit → Act → World → Prop) (T2 T3 : Nat) (P Q0 : Option Addr) (n c n2 c2 i : Nat) (b : Bool) (PA PB : E4 → Prop) (u0 u1 u4 u6 u7 u8 u9 u10 u11 u12 u13 u14 u15 u16 u17 u18 u19 u20 u21 u22 u23 u24 : Value) (W : World)
    (ca0 : W.cell? ⟨T2, 0, none⟩ = some (.slice P n c)) (cb0 : W.cell? ⟨T3, 0, none⟩ = some (.slice Q0 n2 c2))
    (C2 : Hid (∀ x, Below W.heap.size W x → Calls Tryz.prog 136 #[.agg #[.slice P n c], .int .i64 (i : Int)] x fun e w' => ∃ z : E4, e = .returned (.agg #[.int .u64 z.x0, .int .u64 z.x1, .int .u64 z.x2, .int .u64 z.x3]) ∧ PA z ∧ Below x.heap.size x w'))
    (C5 : Hid (∀ x, Below W.heap.size W x → Calls Tryz.prog 136 #[.agg #[.slice Q0 n2 c2], .int .i64 (i : Int)] x fun e w' => ∃ z : E4, e = .returned (.agg #[.int .u64 z.x0, .int .u64 z.x1, .int .u64 z.x2, .int .u64 z.x3]) ∧ PB z ∧ Below x.heap.size x w'))
    (C6 : Hid (∀ (x : World) (z y : E4), Below W.heap.size W x → PA z → PB y → Calls Tryz.prog 5 #[.agg #[.int .u64 z.x0, .int .u64 z.x1, .int .u64 z.x2, .int .u64 z.x3], .agg #[.int .u64 y.x0, .int .u64 y.x1, .int .u64 y.x2, .int .u64 y.x3]] x fun e w' => e = .returned (.bool b) ∧ Below x.heap.size x w'))
    (HQ : Hid (∀ (z y : E4) (wz : World), Below W.heap.size W wz → Q .normal ⟨#[u0, u1, .pointer (some ⟨T2, 0, none⟩), .pointer (some ⟨T3, 0, none⟩), u4, .int .i64 (i : Int), u6, u7, u8, u9, u10, u11, u12, u13, u14, u15, .agg #[.slice P n c], .int .i64 (i : Int), .agg #[.int .u64 z.x0, .int .u64 z.x1, .int .u64 z.x2, .int .u64 z.x3], .agg #[.slice Q0 n2 c2], .int .i64 (i : Int), .agg #[.int .u64 y.x0, .int .u64 y.x1, .int .u64 y.x2, .int .u64 y.x3], .bool b, .bool (!b), u24], []⟩ wz)) : (Code.region 4 fs4o true).wp Tryz.prog Q ⟨#[u0, u1, .pointer (some ⟨T2, 0, none⟩), .pointer (some ⟨T3, 0, none⟩), u4, .int .i64 (i : Int), u6, u7, u8, u9, u10, u11, u12, u13, u14, u15, u16, u17, u18, u19, u20, u21, u22, u23, u24], []⟩ W := by
  unfold fs4o
  refine wp_region_noPanic ?_
  refine wp_region_held_drew (S := fun x => Below W.heap.size W x) (by kernel_rfl) (bl_drew W) (fun hH0 => ?_)
  refine wpAnyH_take (i := 0) (oi := { dst := some 16, op := Op.load 32 (Operand.tmp 2), type := 32, pos := "free.go:35", after := #[], guard := none }) (v := .agg #[.slice P n c]) rfl (by kernel_rfl) (by kernel_rfl) (by kernel_rfl) (fun _ _ _ h => h) (Or.inl ⟨by rfl, fun w0 hSw => ?_⟩) hH0 ?_
  · (have hS : Below W.heap.size W w0 := hSw; have a0 := cell_keep ca0 hS; clear hS hSw; go_simp)
  simp only [Act.put, List.setIfInBounds_toArray, List.set_cons_zero, List.set_cons_succ]
  refine wpAnyH_take (i := 1) (oi := { dst := some 17, op := Op.move (Operand.tmp 5), type := 3, pos := "free.go:35", after := #[], guard := none }) (v := .int .i64 (i : Int)) rfl (by kernel_rfl) (by kernel_rfl) (by kernel_rfl) (fun _ _ _ h => h) (Or.inl ⟨by rfl, fun w0 hSw => ?_⟩) hH0 ?_
  · (clear hSw; go_simp)
  simp only [Act.put, List.setIfInBounds_toArray, List.set_cons_zero, List.set_cons_succ]
  refine wpAnyH_take (i := 3) (oi := { dst := some 19, op := Op.load 32 (Operand.tmp 3), type := 32, pos := "free.go:35", after := #[], guard := none }) (v := .agg #[.slice Q0 n2 c2]) rfl (by kernel_rfl) (by kernel_rfl) (by kernel_rfl) (fun _ _ _ h => h) (Or.inl ⟨by rfl, fun w0 hSw => ?_⟩) hH0 ?_
  · (have hS : Below W.heap.size W w0 := hSw; have a0 := cell_keep cb0 hS; clear hS hSw; go_simp)
  simp only [Act.put, List.setIfInBounds_toArray, List.set_cons_zero, List.set_cons_succ]
  refine wpAnyH_take (i := 4) (oi := { dst := some 20, op := Op.move (Operand.tmp 5), type := 3, pos := "free.go:35", after := #[], guard := none }) (v := .int .i64 (i : Int)) rfl (by kernel_rfl) (by kernel_rfl) (by kernel_rfl) (fun _ _ _ h => h) (Or.inl ⟨by rfl, fun w0 hSw => ?_⟩) hH0 ?_
  · (clear hSw; go_simp)
  simp only [Act.put, List.setIfInBounds_toArray, List.set_cons_zero, List.set_cons_succ]
  refine wpAnyH_ready (rs := [2]) (by kernel_rfl) (by simp) ?_
  refine AllReadyH.cons (o := { dst := some 18, op := Op.call { callee := Callee.value (Operand.func 136), args := #[Operand.tmp 16, Operand.tmp 17], argTypes := #[32, 3] }, type := 25, pos := "free.go:35", after := #[{ on := 0, ground := Ground.data }, { on := 1, ground := Ground.data }], guard := none }) rfl (fun K hK => ?_) AllReadyH.nil
  have HH := hidden hH0
  clear hH0
  go_simp
  refine (C2.out _ HH.out).mono ?_
  rintro e wn1 ⟨z, rfl, hz, hb⟩
  have PZ := hidden (hz)
  have SN := hidden (bl_trans HH.out hb)
  clear HH C2 hz hb
  go_wp2_with fail
  refine hK.out _ _ SN.out (fun hH1 => ?_)
  clear hK K SN
  refine wpAnyH_ready (rs := [5]) (by kernel_rfl) (by simp) ?_
  refine AllReadyH.cons (o := { dst := some 21, op := Op.call { callee := Callee.value (Operand.func 136), args := #[Operand.tmp 19, Operand.tmp 20], argTypes := #[32, 3] }, type := 25, pos := "free.go:35", after := #[{ on := 3, ground := Ground.data }, { on := 4, ground := Ground.data }, { on := 2, ground := Ground.chain }], guard := none }) rfl (fun K hK => ?_) AllReadyH.nil
  have HH := hidden hH1
  clear hH1
  go_simp
  refine (C5.out _ HH.out).mono ?_
  rintro e wn2 ⟨y, rfl, hy, hb⟩
  have PY := hidden (hy)
  have SN := hidden (bl_trans HH.out hb)
  clear HH C5 hy hb
  go_wp2_with fail
  refine hK.out _ _ SN.out (fun hH2 => ?_)
  clear hK K SN
  refine wpAnyH_ready (rs := [6]) (by kernel_rfl) (by simp) ?_
  refine AllReadyH.cons (o := { dst := some 22, op := Op.call { callee := Callee.value (Operand.func 5), args := #[Operand.tmp 18, Operand.tmp 21], argTypes := #[25, 25] }, type := 4, pos := "free.go:35", after := #[{ on := 2, ground := Ground.data }, { on := 5, ground := Ground.data }, { on := 5, ground := Ground.chain }], guard := none }) rfl (fun K hK => ?_) AllReadyH.nil
  have HH := hidden hH2
  clear hH2
  go_simp
  refine (C6.out _ z y HH.out PZ.out PY.out).mono ?_
  rintro e wn3 ⟨rfl, hb⟩
  have SN := hidden (bl_trans HH.out hb)
  clear HH C6 hb
  go_wp2_with fail
  refine hK.out _ _ SN.out (fun hH3 => ?_)
  clear hK K SN
  refine wpAnyH_take (i := 7) (oi := { dst := some 23, op := Op.unOp UnOp.not 4 (Operand.tmp 22), type := 4, pos := "free.go:35", after := #[{ on := 6, ground := Ground.data }], guard := none }) (v := .bool (!b)) rfl (by kernel_rfl) (by kernel_rfl) (by kernel_rfl) (fun _ _ _ h => h) (Or.inl ⟨by rfl, fun w0 hSw => ?_⟩) hH3 ?_
  · (clear hSw; go_simp)
  simp only [Act.put, List.setIfInBounds_toArray, List.set_cons_zero, List.set_cons_succ]
  have HH := hidden hH3
  have FQ := hidden (HQ.out z y _ HH.out)
  refine wpAnyH_done (by kernel_rfl) ?_ _
  refine NoPanic.normal ?_
  exact FQ.out
set_option maxRecDepth 100000 in
set_option maxHeartbeats 8000000 in
theorem frSame (VA VB : Value) (f g : Nat → Int) (w : World) (hT : Tb w) (hA : Fr w VA f) (hB0 : Fr w VB g) :
    Calls Tryz.prog 132 #[VA, VB] w fun e w' => ∃ b : Bool, e = .returned (.bool b) ∧ (b = true ↔ ∀ i, lst (f i) = lst (g i)) ∧ Below w.heap.size w w' := by
  obtain ⟨P, n, c, ga, rfl, a1, a2, a3, a4⟩ := id hA
  obtain ⟨Q0, n2, c2, gb, rfl, b1, b2, b3, b4⟩ := id hB0
  have B0 := bl_alloc2 w (.cells #[.slice P n c] 32) (.cells #[.slice Q0 n2 c2] 32)
  by_cases hlt : n < n2
  ·
    have SZ : ((w.alloc (.cells #[.slice P n c] 32)).alloc (.cells #[.slice Q0 n2 c2] 32)).heap.size = w.heap.size + 1 + 1 := by simp only [World.size_alloc]
    have il : (n : Int) < (n2 : Int) := by omega
    have M64 : n2 ≤ 4398046510976 := by omega
    have EQ : Hid (∀ i, n2 ≤ i → lst (f i) = lst (g i)) := hidden (fun i hi => (a4 i (by omega)).trans (b4 i (by omega)).symm)
    have e1 : ((w.alloc (.cells #[.slice P n c] 32)).alloc (.cells #[.slice Q0 n2 c2] 32)).cell? ⟨w.heap.size, 0, none⟩ = some (.slice P n c) := by go_simp
    have e2 : ((w.alloc (.cells #[.slice P n c] 32)).alloc (.cells #[.slice Q0 n2 c2] 32)).cell? ⟨w.heap.size + 1, 0, none⟩ = some (.slice Q0 n2 c2) := by go_simp
    clear a1 a2 a3 a4 b1 b2 b3 b4
    go_enter Tryz.func132, Tryz.ntmps132
    go_upto_region 1 with fail
    generalize ((w.alloc (.cells #[.slice P n c] 32)).alloc (.cells #[.slice Q0 n2 c2] 32)) = w1 at *
    go_wp2_with fail
    go_loopw [13] (fun iv w' => ∃ i : Nat, i ≤ n2 ∧ iv = .int .i64 i ∧ Hid (∀ j, j < i → lst (f j) = lst (g j)) ∧ Hid (Below w1.heap.size w1 w')) (fun i _ => n2 - (intOf i).toNat)
    case atStart => exact ⟨0, by omega, rfl, hidden (fun j hj => absurd hj (by omega)), hidden (Below.refl _ _)⟩
    case round =>
      obtain ⟨i, hi, rfl, hE, hB⟩ := hrel
      by_cases hin : i < n2
      · have ii1 : (i : Int) < (n2 : Int) := by omega
        have w9 : IntKind.i64.wrap ((i : Int) + 1) = (i : Int) + 1 := IntWalk.i64_in _ (by omega)
        have ca := cell_keep e1 hB.out
        have cb := cell_keep e2 hB.out
        have AL : ∀ x, Below wr.heap.size wr x → Below w.heap.size w x := fun x hx => bl_trans B0 (bl_trans hB.out hx)
        have C2 := hidden (fun x (hx : Below wr.heap.size wr x) => fat_any _ f i x (hA.keep (AL x hx)) (by omega))
        have C5 := hidden (fun x (hx : Below wr.heap.size wr x) => fat_any _ g i x (hB0.keep (AL x hx)) (by omega))
        obtain ⟨b, hb⟩ : ∃ b, (lst (f i)).same (lst (g i)) = b := ⟨_, rfl⟩
        have C6 : Hid (∀ (x : World) (z y : E4), Below wr.heap.size wr x → (z.ok ∧ lst z.n = lst (f i)) → (y.ok ∧ lst y.n = lst (g i)) → Calls Tryz.prog 5 #[.agg #[.int .u64 z.x0, .int .u64 z.x1, .int .u64 z.x2, .int .u64 z.x3], .agg #[.int .u64 y.x0, .int .u64 y.x1, .int .u64 y.x2, .int .u64 y.x3]] x fun e w' => e = .returned (.bool b) ∧ Below x.heap.size x w') := hidden (fun x z y hx hz hy => (Same_any z y x (hT.keep (AL x hx)) hz.1 hy.1).mono (fun e w' h => by
          obtain ⟨he, hbb⟩ := h
          exact ⟨by rw [he, hz.2, hy.2, hb], hbb⟩))
        go_upto_region 4 with fail
        refine fs4 _ (w.heap.size) (w.heap.size + 1) P Q0 n c n2 c2 i b (fun z => z.ok ∧ lst z.n = lst (f i)) (fun z => z.ok ∧ lst z.n = lst (g i)) _ _ _ _ _ _ _ _ _ _ _ _ _ _ _ _ _ _ _ _ _ _ wr ca cb (hidden (fun x hx => (C2.out x hx).mono (fun e w' h => by obtain ⟨z, h1, h2, h3, h4⟩ := h; exact ⟨z, h1, ⟨h2, h3⟩, h4⟩))) (hidden (fun x hx => (C5.out x hx).mono (fun e w' h => by obtain ⟨z, h1, h2, h3, h4⟩ := h; exact ⟨z, h1, ⟨h2, h3⟩, h4⟩))) C6 (hidden ?_)
        intro z y wz hz
        have HZ := hidden (bl_trans hB.out hz)
        clear C2 C5 C6 hz
        cases b with
        | true =>
          have hb' : lst (f i) = lst (g i) := (E4.same_iff _ _).1 hb
          go_wp2_with fail
          go_roundw
          case rel => exact ⟨i + 1, by omega, by go_num, hidden (fun j hj => by by_cases e : j = i; exact e ▸ hb'; exact hE.out j (by omega)), HZ⟩
          case measure => simp [intOf]; omega
        | false =>
          have hb' : ¬ lst (f i) = lst (g i) := fun e => by rw [(E4.same_iff _ _).2 e] at hb; cases hb
          go_wp2_with fail
          refine bodyPost_ret (v := .bool false) (by simp [results, Tryz.results132, go_sem]) rfl ⟨false, rfl, ⟨fun e => by simp at e, fun h => absurd (h i) hb'⟩, bl_trans B0 HZ.out⟩
      · have lq : ¬ (i : Int) < (n2 : Int) := by omega
        go_wp2_with fail
        refine bodyPost_ret (v := .bool true) (by simp [results, Tryz.results132, go_sem]) rfl (.inr ⟨rfl, fun j => ?_, bl_trans B0 hB.out⟩)
        by_cases e : j < i
        · exact hE.out j e
        · exact EQ.out j (by omega)
  ·
    have SZ : ((w.alloc (.cells #[.slice P n c] 32)).alloc (.cells #[.slice Q0 n2 c2] 32)).heap.size = w.heap.size + 1 + 1 := by simp only [World.size_alloc]
    have il : ¬ (n : Int) < (n2 : Int) := by omega
    have M64 : n ≤ 4398046510976 := by omega
    have EQ : Hid (∀ i, n ≤ i → lst (f i) = lst (g i)) := hidden (fun i hi => (a4 i (by omega)).trans (b4 i (by omega)).symm)
    have e1 : ((w.alloc (.cells #[.slice P n c] 32)).alloc (.cells #[.slice Q0 n2 c2] 32)).cell? ⟨w.heap.size, 0, none⟩ = some (.slice P n c) := by go_simp
    have e2 : ((w.alloc (.cells #[.slice P n c] 32)).alloc (.cells #[.slice Q0 n2 c2] 32)).cell? ⟨w.heap.size + 1, 0, none⟩ = some (.slice Q0 n2 c2) := by go_simp
    clear a1 a2 a3 a4 b1 b2 b3 b4
    go_enter Tryz.func132, Tryz.ntmps132
    go_upto_region 1 with fail
    generalize ((w.alloc (.cells #[.slice P n c] 32)).alloc (.cells #[.slice Q0 n2 c2] 32)) = w1 at *
    go_wp2_with fail
    go_loopw [13] (fun iv w' => ∃ i : Nat, i ≤ n ∧ iv = .int .i64 i ∧ Hid (∀ j, j < i → lst (f j) = lst (g j)) ∧ Hid (Below w1.heap.size w1 w')) (fun i _ => n - (intOf i).toNat)
    case atStart => exact ⟨0, by omega, rfl, hidden (fun j hj => absurd hj (by omega)), hidden (Below.refl _ _)⟩
    case round =>
      obtain ⟨i, hi, rfl, hE, hB⟩ := hrel
      by_cases hin : i < n
      · have ii1 : (i : Int) < (n : Int) := by omega
        have w9 : IntKind.i64.wrap ((i : Int) + 1) = (i : Int) + 1 := IntWalk.i64_in _ (by omega)
        have ca := cell_keep e1 hB.out
        have cb := cell_keep e2 hB.out
        have AL : ∀ x, Below wr.heap.size wr x → Below w.heap.size w x := fun x hx => bl_trans B0 (bl_trans hB.out hx)
        have C2 := hidden (fun x (hx : Below wr.heap.size wr x) => fat_any _ f i x (hA.keep (AL x hx)) (by omega))
        have C5 := hidden (fun x (hx : Below wr.heap.size wr x) => fat_any _ g i x (hB0.keep (AL x hx)) (by omega))
        obtain ⟨b, hb⟩ : ∃ b, (lst (f i)).same (lst (g i)) = b := ⟨_, rfl⟩
        have C6 : Hid (∀ (x : World) (z y : E4), Below wr.heap.size wr x → (z.ok ∧ lst z.n = lst (f i)) → (y.ok ∧ lst y.n = lst (g i)) → Calls Tryz.prog 5 #[.agg #[.int .u64 z.x0, .int .u64 z.x1, .int .u64 z.x2, .int .u64 z.x3], .agg #[.int .u64 y.x0, .int .u64 y.x1, .int .u64 y.x2, .int .u64 y.x3]] x fun e w' => e = .returned (.bool b) ∧ Below x.heap.size x w') := hidden (fun x z y hx hz hy => (Same_any z y x (hT.keep (AL x hx)) hz.1 hy.1).mono (fun e w' h => by
          obtain ⟨he, hbb⟩ := h
          exact ⟨by rw [he, hz.2, hy.2, hb], hbb⟩))
        go_upto_region 4 with fail
        refine fs4 _ (w.heap.size) (w.heap.size + 1) P Q0 n c n2 c2 i b (fun z => z.ok ∧ lst z.n = lst (f i)) (fun z => z.ok ∧ lst z.n = lst (g i)) _ _ _ _ _ _ _ _ _ _ _ _ _ _ _ _ _ _ _ _ _ _ wr ca cb (hidden (fun x hx => (C2.out x hx).mono (fun e w' h => by obtain ⟨z, h1, h2, h3, h4⟩ := h; exact ⟨z, h1, ⟨h2, h3⟩, h4⟩))) (hidden (fun x hx => (C5.out x hx).mono (fun e w' h => by obtain ⟨z, h1, h2, h3, h4⟩ := h; exact ⟨z, h1, ⟨h2, h3⟩, h4⟩))) C6 (hidden ?_)
        intro z y wz hz
        have HZ := hidden (bl_trans hB.out hz)
        clear C2 C5 C6 hz
        cases b with
        | true =>
          have hb' : lst (f i) = lst (g i) := (E4.same_iff _ _).1 hb
          go_wp2_with fail
          go_roundw
          case rel => exact ⟨i + 1, by omega, by go_num, hidden (fun j hj => by by_cases e : j = i; exact e ▸ hb'; exact hE.out j (by omega)), HZ⟩
          case measure => simp [intOf]; omega
        | false =>
          have hb' : ¬ lst (f i) = lst (g i) := fun e => by rw [(E4.same_iff _ _).2 e] at hb; cases hb
          go_wp2_with fail
          refine bodyPost_ret (v := .bool false) (by simp [results, Tryz.results132, go_sem]) rfl ⟨false, rfl, ⟨fun e => by simp at e, fun h => absurd (h i) hb'⟩, bl_trans B0 HZ.out⟩
      · have lq : ¬ (i : Int) < (n : Int) := by omega
        go_wp2_with fail
        refine bodyPost_ret (v := .bool true) (by simp [results, Tryz.results132, go_sem]) rfl (.inr ⟨rfl, fun j => ?_, bl_trans B0 hB.out⟩)
        by_cases e : j < i
        · exact hE.out j e
        · exact EQ.out j (by omega)
end Go.Proofs.YtapieajkmpnmoaaGreatDoor
namespace Go.Proofs.YtapieajkmpnmoaaGreatDoor
open Go.RowKit
set_option linter.unusedVariables false
theorem mt_TimesF (P : Option Addr) (n c : Nat) (w : World) : (method 318 32 (.agg #[.slice P n c]) "Times").run Tryz.prog w = .ok (133, .agg #[.slice P n c]) w := by kernel_rfl
end Go.Proofs.YtapieajkmpnmoaaGreatDoor
